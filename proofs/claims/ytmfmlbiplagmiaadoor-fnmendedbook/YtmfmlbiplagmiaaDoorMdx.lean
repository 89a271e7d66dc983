/- A mended book has no faults, nor has one to which a talk was added: mathematics; no condition. -/
import Derived.Test.YtmfmlbiplagmiaaDoorAda
import Derived.Test.YtmfmlbiplagmiaaDoorMbm
namespace Go.Proofs.YtmfmlbiplagmiaaDoor
open Go.RowKit Go.ChangeShapes Go.WideShapes Go.ChangeAt
set_option linter.unusedVariables false
set_option linter.unusedSimpArgs false
set_option maxRecDepth 8000

/-- no talk is with itself, none shares anything with one ahead of it -/
def Cln (ts : List Tk) : Prop := ∀ i (h : i < ts.length), okT (ts.take i) ts[i] = true
theorem Cln.nil : Cln [] := fun i h => by simp at h
theorem Cln.snoc {ts : List Tk} {t : Tk} (h : Cln ts) (ho : okT ts t = true) : Cln (ts ++ [t]) := fun i hi => by
  by_cases e : i < ts.length
  · rw [List.getElem_append_left e, List.take_append_of_le_length (by omega)]
    exact h i e
  · obtain rfl : i = ts.length := by simp at hi; omega
    rw [List.getElem_append_right (by omega), List.take_append_of_le_length (by omega), List.take_length]
    simpa using ho
theorem md_clean (ts : List Tk) : ∀ j, Cln (mdS ts j).1
  | 0 => Cln.nil
  | j + 1 => by
    cases h : okT (mdS ts j).1 (ts.getD j (0, 0, 0)) with
    | true => rw [mdS_yes h]; exact (md_clean ts j).snoc h
    | false => rw [mdS_no h]; exact md_clean ts j
theorem md_mem (ts : List Tk) : ∀ j, j ≤ ts.length → ∀ t ∈ (mdS ts j).1, t ∈ ts
  | 0, _, t, ht => by simp [mdS] at ht
  | j + 1, hj, t, ht => by
    cases h : okT (mdS ts j).1 (ts.getD j (0, 0, 0)) with
    | true =>
      rw [mdS_yes h] at ht
      rcases List.mem_append.1 ht with h1 | h1
      · exact md_mem ts j (by omega) t h1
      · have e : ts.getD j (0, 0, 0) = ts[j] := by simp [List.getD, List.getElem?_eq_getElem (show j < ts.length by omega)]
        rw [e] at h1
        rw [List.mem_singleton.1 h1]
        exact List.getElem_mem _
    | false => rw [mdS_no h] at ht; exact md_mem ts j (by omega) t ht
theorem md_same {ts : List Tk} (hc : Cln ts) : ∀ j, j ≤ ts.length → mdS ts j = (ts.take j, [])
  | 0, _ => by simp [mdS]
  | j + 1, hj => by
    have ih := md_same hc j (by omega)
    have e : ts.getD j (0, 0, 0) = ts[j] := by simp [List.getD, List.getElem?_eq_getElem (show j < ts.length by omega)]
    have h : okT (mdS ts j).1 (ts.getD j (0, 0, 0)) = true := by rw [ih, e]; exact hc j (by omega)
    rw [mdS_yes h, ih, e, List.take_succ_eq_append_getElem (by omega)]
theorem fw_none {k : Int} {p : Nat → Bool} : ∀ {n : Nat}, (∀ i, i < n → p i = false) → fw k p n = []
  | 0, _ => rfl
  | n + 1, h => by rw [fw_no (h n (by omega))]; exact fw_none fun i hi => h i (by omega)
theorem getD_tk {ts : List Tk} {i : Nat} (h : i < ts.length) : ts.getD i (0, 0, 0) = ts[i] := by simp [List.getD, List.getElem?_eq_getElem h]
theorem okT_of {ks : List Tk} {t : Tk} (h : okT ks t = true) : t.1 ≠ t.2.1 ∧ ∀ k ∈ ks, shB t k = false := by
  unfold okT at h
  simp only [Bool.and_eq_true, decide_eq_true_eq, List.all_eq_true, Bool.not_eq_true'] at h
  exact h
theorem nu_same (k1 k2 : Int) (zs : List Int) : nuF k1 k2 zs zs = [] := by
  unfold nuF
  rw [fw_none (fun i _ => by unfold wrB; simp), fw_none (fun i _ => by
    unfold frB'
    by_cases h : zs.getD i 0 = -1
    · rw [decide_eq_true h, decide_eq_false (fun h2 => h2 h)]; rfl
    · rw [decide_eq_false h]; rfl)]
  rfl
theorem ft_nil {ts : List Tk} {nl nc : Nat} (h : Cln ts) : ftL ts (wr18 hasL nl ts) (wr18 hasC nc ts) = [] := by
  unfold ftL
  rw [wr18_len, wr18_len, nu_same, nu_same, List.append_nil, List.append_nil, fw_none (fun i hi => by
    unfold twB
    rw [getD_tk hi, List.any_eq_false]
    intro t ht
    rw [(okT_of (h i hi)).2 t ht]; simp), fw_none (fun i hi => by
    unfold seB
    rw [getD_tk hi]
    exact decide_eq_false (okT_of (h i hi)).1)]
  rfl
theorem ft_clean {ts : List Tk} {ls cs : List Int} (h : ftL ts ls cs = []) : Cln ts := fun i hi => by
  unfold ftL at h
  rw [List.append_eq_nil_iff, List.append_eq_nil_iff, List.append_eq_nil_iff] at h
  have a := fw_nil h.1.1.1 i hi
  have b := fw_nil h.1.1.2 i hi
  unfold twB at a
  unfold seB at b
  rw [getD_tk hi] at a b
  rw [List.any_eq_false] at a
  unfold okT
  simp only [Bool.and_eq_true, decide_eq_true_eq, List.all_eq_true, Bool.not_eq_true']
  refine ⟨of_decide_eq_false b, fun k hk => ?_⟩
  have := a k hk
  simpa using this
theorem fa_clean {ts : List Tk} {ls cs : List Int} (h : faL ts ls cs = []) : Cln ts := by
  have hb := (fa_nil h).1
  rw [faL_yes hb] at h
  exact ft_clean h
theorem wr_nu (f : Int → Tk → Bool) (n : Nat) (ts : List Tk) (h : ts.length ≤ 30) : (wr18 f n ts).all nuB = true := by
  rw [List.all_eq_true]
  intro z hz
  obtain ⟨i, hi, rfl⟩ := List.getElem_of_mem hz
  rw [wr18_len] at hi
  have e := wr18_at f n ts i hi
  rw [List.getElem?_eq_getElem (by rw [wr18_len]; exact hi)] at e
  rw [Option.some.inj e]
  have := fst18_lt (f i) ts
  unfold nuB
  exact decide_eq_true (by omega)
/-- clean talks with what they write are a book without faults -/
theorem fa_of {ts : List Tk} {nl nc : Nat} (hc : Cln ts) (h30 : ts.length ≤ 30) (hl : nl ≤ 30) (hn : nc ≤ 30) (ht : ∀ t ∈ ts, tkB nl nc t = true) : faL ts (wr18 hasL nl ts) (wr18 hasC nc ts) = [] := by
  have hb : bkB ts (wr18 hasL nl ts) (wr18 hasC nc ts) = true := by
    unfold bkB
    rw [wr18_len, wr18_len, decide_eq_true h30, decide_eq_true hl, decide_eq_true hn, wr_nu _ _ _ h30, wr_nu _ _ _ h30, List.all_eq_true.2 ht]
    rfl
  rw [faL_yes hb]
  exact ft_nil hc
theorem bk_all {ts : List Tk} {ls cs : List Int} (h : bkB ts ls cs = true) : ts.length ≤ 30 ∧ ls.length ≤ 30 ∧ cs.length ≤ 30 ∧ ∀ t ∈ ts, tkB ls.length cs.length t = true := by
  unfold bkB at h
  simp only [Bool.and_eq_true, decide_eq_true_eq] at h
  exact ⟨h.1, h.2.1, h.2.2.1, List.all_eq_true.1 h.2.2.2.1⟩
/-- what the law asks of a mended book -/
theorem mended {ts : List Tk} {ls cs : List Int} (h : bkB ts ls cs = true) :
    faL (mbT ts ls cs) (mbL ts ls cs) (mbC ts ls cs) = [] ∧ (mbT ts ls cs).length + (mbG ts ls cs).length = ts.length ∧ (mbL ts ls cs).length = ls.length ∧ (faL ts ls cs = [] → mbG ts ls cs = []) ∧
    mbG (mbT ts ls cs) (mbL ts ls cs) (mbC ts ls cs) = [] ∧ mbL (mbT ts ls cs) (mbL ts ls cs) (mbC ts ls cs) = mbL ts ls cs ∧ mbC (mbT ts ls cs) (mbL ts ls cs) (mbC ts ls cs) = mbC ts ls cs := by
  obtain ⟨h1, h2, h3, h4⟩ := bk_all h
  have hlen := mdS_len ts ts.length
  have hc := md_clean ts ts.length
  have hm := md_mem ts ts.length (Nat.le_refl _)
  have eT : mbT ts ls cs = (mdS ts ts.length).1 := by unfold mbT; rw [h]; rfl
  have eG : mbG ts ls cs = (mdS ts ts.length).2 := by unfold mbG; rw [h]; rfl
  have eL : mbL ts ls cs = wr18 hasL ls.length (mdS ts ts.length).1 := by unfold mbL; rw [h]; rfl
  have eC : mbC ts ls cs = wr18 hasC cs.length (mdS ts ts.length).1 := by unfold mbC; rw [h]; rfl
  rw [eT, eG, eL, eC]
  obtain ⟨M, hM⟩ : ∃ M, (mdS ts ts.length).1 = M := ⟨_, rfl⟩
  rw [hM] at hlen hc hm ⊢
  have hf := fa_of (nl := ls.length) (nc := cs.length) hc (by omega) h2 h3 (fun t ht => h4 t (hm t ht))
  have hb := (fa_nil hf).1
  have hs := md_same hc M.length (Nat.le_refl _)
  rw [List.take_length] at hs
  refine ⟨hf, hlen, wr18_len _ _ _, fun hz => ?_, ?_, ?_, ?_⟩
  · have := md_same (fa_clean hz) ts.length (Nat.le_refl _)
    rw [this]
  · unfold mbG; rw [hb, hs]; rfl
  · unfold mbL; rw [hb, hs, wr18_len]; rfl
  · unfold mbC; rw [hb, hs, wr18_len]; rfl
theorem no_book {ts : List Tk} {ls cs : List Int} (h : bkB ts ls cs = false) : mbT ts ls cs = [] ∧ faL ts ls cs = [(7, 0)] := by
  refine ⟨?_, faL_no h⟩
  unfold mbT; rw [h]; rfl
/-- what the law asks of a book to which a talk was added -/
theorem added {ts : List Tk} {ls cs : List Int} {t : Tk} (h : adB ts ls cs t = true) : (adT ts ls cs t) = ts ++ [t] ∧ (0 ≤ t.1 ∧ t.1 ≤ (ls.length : Int) - 1) ∧ (0 ≤ t.2.1 ∧ t.2.1 ≤ (ls.length : Int) - 1) ∧ (adL ts ls cs t).length = ls.length ∧
    (adL ts ls cs t).getD t.1.toNat 0 = (ts.length : Int) ∧ (adL ts ls cs t).getD t.2.1.toNat 0 = (ts.length : Int) ∧ faL (adT ts ls cs t) (adL ts ls cs t) (adC ts ls cs t) = [] := by
  have hp := ad_put h
  obtain ⟨e1, e2, e3⟩ := ad_yes h
  have h' := h
  unfold adB at h'
  simp only [Bool.and_eq_true, decide_eq_true_eq] at h'
  obtain ⟨hf, hn, hi, ho⟩ := h'
  obtain ⟨hb, -, -⟩ := fa_nil hf
  obtain ⟨k1, k2, k3, k4⟩ := bk_all hb
  have hl : (adL ts ls cs t).length = ls.length := by rw [e2, wr18_len]
  refine ⟨e1, hp.2.2.2.1, hp.2.2.2.2.1, hl, ?_, ?_, ?_⟩
  · rw [← hp.1, List.getD_eq_getElem?_getD, List.getElem?_set, List.getElem?_set]
    have b1 := hp.2.2.2.1
    by_cases e : t.2.1.toNat = t.1.toNat
    · rw [if_pos e, if_pos (by rw [List.length_set]; omega)]; rfl
    · rw [if_neg e, if_pos rfl, if_pos (by omega)]; rfl
  · rw [← hp.1, List.getD_eq_getElem?_getD, List.getElem?_set]
    have b2 := hp.2.2.2.2.1
    rw [if_pos rfl, if_pos (by rw [List.length_set]; omega)]; rfl
  · rw [e1, e2, e3]
    refine fa_of ((fa_clean hf).snoc ho) (by simp; omega) k2 k3 (fun u hu => ?_)
    rcases List.mem_append.1 hu with hu | hu
    · exact k4 u hu
    · rw [List.mem_singleton.1 hu]
      unfold inT at hi
      unfold tkB
      exact hi

end Go.Proofs.YtmfmlbiplagmiaaDoor
