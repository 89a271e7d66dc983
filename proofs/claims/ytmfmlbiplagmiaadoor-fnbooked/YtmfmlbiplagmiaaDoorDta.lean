/- A talk is drawn; no condition. -/
import Derived.Test.YtmfmlbiplagmiaaDoorAda
import Derived.Test.YtmfmlbiplagmiaaDoorMbm
import Derived.Test.YtmfmlbiplagmiaaDoorDra
import Derived.Test.YtmfmlbiplagmiaaDoorTks
import Derived.Test.YtmfmlbiplagmiaaDoorMixT
import Derived.Test.YtmfmlbiplagmiaaDoorMixC
import Derived.Deep.Cut
import Derived.Test.YtmfmlbiplagmiaaDoorBkh
import Derived.Test.YtmfmlbiplagmiaaDoorSl
import Derived.Test.YtmfmlbiplagmiaaDoorIvs
import Derived.Test.YtmfmlbiplagmiaaDoorApn
import Derived.Lib.AppendZeros
import Derived.Lib.AppendZerosOnto
import Derived.Laws.CopyRow
import Derived.Test.YtmfmlbiplagmiaaDoorAdm
namespace Go.Proofs.YtmfmlbiplagmiaaDoor
open Go.RowKit Go.ChangeShapes Go.WideShapes Go.ChangeAt
set_option linter.unusedVariables false
set_option linter.unusedSimpArgs false
set_option maxRecDepth 8000

/-- no talk is with itself, none shares anything with one ahead of it -/
def Cln (ts : List Tk) : Prop := ∀ i (h : i < ts.length), okT (ts.take i) ts[i] = true
theorem Cln.nil : Cln [] := fun i h => by simp at h
theorem Cln.snoc {ts : List Tk} {t : Tk} (h : Cln ts) (ho : okT ts t = true) : Cln (ts ++ [t]) := fun i hi => by
  by_cases e : i < ts.length
  · rw [List.getElem_append_left e, List.take_append_of_le_length (by omega)]
    exact h i e
  · obtain rfl : i = ts.length := by simp at hi; omega
    rw [List.getElem_append_right (by omega), List.take_append_of_le_length (by omega), List.take_length]
    simpa using ho
theorem md_clean (ts : List Tk) : ∀ j, Cln (mdS ts j).1
  | 0 => Cln.nil
  | j + 1 => by
    cases h : okT (mdS ts j).1 (ts.getD j (0, 0, 0)) with
    | true => rw [mdS_yes h]; exact (md_clean ts j).snoc h
    | false => rw [mdS_no h]; exact md_clean ts j
theorem md_mem (ts : List Tk) : ∀ j, j ≤ ts.length → ∀ t ∈ (mdS ts j).1, t ∈ ts
  | 0, _, t, ht => by simp [mdS] at ht
  | j + 1, hj, t, ht => by
    cases h : okT (mdS ts j).1 (ts.getD j (0, 0, 0)) with
    | true =>
      rw [mdS_yes h] at ht
      rcases List.mem_append.1 ht with h1 | h1
      · exact md_mem ts j (by omega) t h1
      · have e : ts.getD j (0, 0, 0) = ts[j] := by simp [List.getD, List.getElem?_eq_getElem (show j < ts.length by omega)]
        rw [e] at h1
        rw [List.mem_singleton.1 h1]
        exact List.getElem_mem _
    | false => rw [mdS_no h] at ht; exact md_mem ts j (by omega) t ht
theorem md_same {ts : List Tk} (hc : Cln ts) : ∀ j, j ≤ ts.length → mdS ts j = (ts.take j, [])
  | 0, _ => by simp [mdS]
  | j + 1, hj => by
    have ih := md_same hc j (by omega)
    have e : ts.getD j (0, 0, 0) = ts[j] := by simp [List.getD, List.getElem?_eq_getElem (show j < ts.length by omega)]
    have h : okT (mdS ts j).1 (ts.getD j (0, 0, 0)) = true := by rw [ih, e]; exact hc j (by omega)
    rw [mdS_yes h, ih, e, List.take_succ_eq_append_getElem (by omega)]
theorem fw_none {k : Int} {p : Nat → Bool} : ∀ {n : Nat}, (∀ i, i < n → p i = false) → fw k p n = []
  | 0, _ => rfl
  | n + 1, h => by rw [fw_no (h n (by omega))]; exact fw_none fun i hi => h i (by omega)
theorem getD_tk {ts : List Tk} {i : Nat} (h : i < ts.length) : ts.getD i (0, 0, 0) = ts[i] := by simp [List.getD, List.getElem?_eq_getElem h]
theorem okT_of {ks : List Tk} {t : Tk} (h : okT ks t = true) : t.1 ≠ t.2.1 ∧ ∀ k ∈ ks, shB t k = false := by
  unfold okT at h
  simp only [Bool.and_eq_true, decide_eq_true_eq, List.all_eq_true, Bool.not_eq_true'] at h
  exact h
theorem nu_same (k1 k2 : Int) (zs : List Int) : nuF k1 k2 zs zs = [] := by
  unfold nuF
  rw [fw_none (fun i _ => by unfold wrB; simp), fw_none (fun i _ => by
    unfold frB'
    by_cases h : zs.getD i 0 = -1
    · rw [decide_eq_true h, decide_eq_false (fun h2 => h2 h)]; rfl
    · rw [decide_eq_false h]; rfl)]
  rfl
theorem ft_nil {ts : List Tk} {nl nc : Nat} (h : Cln ts) : ftL ts (wr18 hasL nl ts) (wr18 hasC nc ts) = [] := by
  unfold ftL
  rw [wr18_len, wr18_len, nu_same, nu_same, List.append_nil, List.append_nil, fw_none (fun i hi => by
    unfold twB
    rw [getD_tk hi, List.any_eq_false]
    intro t ht
    rw [(okT_of (h i hi)).2 t ht]; simp), fw_none (fun i hi => by
    unfold seB
    rw [getD_tk hi]
    exact decide_eq_false (okT_of (h i hi)).1)]
  rfl
theorem ft_clean {ts : List Tk} {ls cs : List Int} (h : ftL ts ls cs = []) : Cln ts := fun i hi => by
  unfold ftL at h
  rw [List.append_eq_nil_iff, List.append_eq_nil_iff, List.append_eq_nil_iff] at h
  have a := fw_nil h.1.1.1 i hi
  have b := fw_nil h.1.1.2 i hi
  unfold twB at a
  unfold seB at b
  rw [getD_tk hi] at a b
  rw [List.any_eq_false] at a
  unfold okT
  simp only [Bool.and_eq_true, decide_eq_true_eq, List.all_eq_true, Bool.not_eq_true']
  refine ⟨of_decide_eq_false b, fun k hk => ?_⟩
  have := a k hk
  simpa using this
theorem fa_clean {ts : List Tk} {ls cs : List Int} (h : faL ts ls cs = []) : Cln ts := by
  have hb := (fa_nil h).1
  rw [faL_yes hb] at h
  exact ft_clean h
theorem wr_nu (f : Int → Tk → Bool) (n : Nat) (ts : List Tk) (h : ts.length ≤ 30) : (wr18 f n ts).all nuB = true := by
  rw [List.all_eq_true]
  intro z hz
  obtain ⟨i, hi, rfl⟩ := List.getElem_of_mem hz
  rw [wr18_len] at hi
  have e := wr18_at f n ts i hi
  rw [List.getElem?_eq_getElem (by rw [wr18_len]; exact hi)] at e
  rw [Option.some.inj e]
  have := fst18_lt (f i) ts
  unfold nuB
  exact decide_eq_true (by omega)
/-- clean talks with what they write are a book without faults -/
theorem fa_of {ts : List Tk} {nl nc : Nat} (hc : Cln ts) (h30 : ts.length ≤ 30) (hl : nl ≤ 30) (hn : nc ≤ 30) (ht : ∀ t ∈ ts, tkB nl nc t = true) : faL ts (wr18 hasL nl ts) (wr18 hasC nc ts) = [] := by
  have hb : bkB ts (wr18 hasL nl ts) (wr18 hasC nc ts) = true := by
    unfold bkB
    rw [wr18_len, wr18_len, decide_eq_true h30, decide_eq_true hl, decide_eq_true hn, wr_nu _ _ _ h30, wr_nu _ _ _ h30, List.all_eq_true.2 ht]
    rfl
  rw [faL_yes hb]
  exact ft_nil hc
theorem bk_all {ts : List Tk} {ls cs : List Int} (h : bkB ts ls cs = true) : ts.length ≤ 30 ∧ ls.length ≤ 30 ∧ cs.length ≤ 30 ∧ ∀ t ∈ ts, tkB ls.length cs.length t = true := by
  unfold bkB at h
  simp only [Bool.and_eq_true, decide_eq_true_eq] at h
  exact ⟨h.1, h.2.1, h.2.2.1, List.all_eq_true.1 h.2.2.2.1⟩
/-- what the law asks of a mended book -/
theorem mended {ts : List Tk} {ls cs : List Int} (h : bkB ts ls cs = true) :
    faL (mbT ts ls cs) (mbL ts ls cs) (mbC ts ls cs) = [] ∧ (mbT ts ls cs).length + (mbG ts ls cs).length = ts.length ∧ (mbL ts ls cs).length = ls.length ∧ (faL ts ls cs = [] → mbG ts ls cs = []) ∧
    mbG (mbT ts ls cs) (mbL ts ls cs) (mbC ts ls cs) = [] ∧ mbL (mbT ts ls cs) (mbL ts ls cs) (mbC ts ls cs) = mbL ts ls cs ∧ mbC (mbT ts ls cs) (mbL ts ls cs) (mbC ts ls cs) = mbC ts ls cs := by
  obtain ⟨h1, h2, h3, h4⟩ := bk_all h
  have hlen := mdS_len ts ts.length
  have hc := md_clean ts ts.length
  have hm := md_mem ts ts.length (Nat.le_refl _)
  have eT : mbT ts ls cs = (mdS ts ts.length).1 := by unfold mbT; rw [h]; rfl
  have eG : mbG ts ls cs = (mdS ts ts.length).2 := by unfold mbG; rw [h]; rfl
  have eL : mbL ts ls cs = wr18 hasL ls.length (mdS ts ts.length).1 := by unfold mbL; rw [h]; rfl
  have eC : mbC ts ls cs = wr18 hasC cs.length (mdS ts ts.length).1 := by unfold mbC; rw [h]; rfl
  rw [eT, eG, eL, eC]
  obtain ⟨M, hM⟩ : ∃ M, (mdS ts ts.length).1 = M := ⟨_, rfl⟩
  rw [hM] at hlen hc hm ⊢
  have hf := fa_of (nl := ls.length) (nc := cs.length) hc (by omega) h2 h3 (fun t ht => h4 t (hm t ht))
  have hb := (fa_nil hf).1
  have hs := md_same hc M.length (Nat.le_refl _)
  rw [List.take_length] at hs
  refine ⟨hf, hlen, wr18_len _ _ _, fun hz => ?_, ?_, ?_, ?_⟩
  · have := md_same (fa_clean hz) ts.length (Nat.le_refl _)
    rw [this]
  · unfold mbG; rw [hb, hs]; rfl
  · unfold mbL; rw [hb, hs, wr18_len]; rfl
  · unfold mbC; rw [hb, hs, wr18_len]; rfl
theorem no_book {ts : List Tk} {ls cs : List Int} (h : bkB ts ls cs = false) : mbT ts ls cs = [] ∧ faL ts ls cs = [(7, 0)] := by
  refine ⟨?_, faL_no h⟩
  unfold mbT; rw [h]; rfl
/-- what the law asks of a book to which a talk was added -/
theorem added {ts : List Tk} {ls cs : List Int} {t : Tk} (h : adB ts ls cs t = true) : (adT ts ls cs t) = ts ++ [t] ∧ (0 ≤ t.1 ∧ t.1 ≤ (ls.length : Int) - 1) ∧ (0 ≤ t.2.1 ∧ t.2.1 ≤ (ls.length : Int) - 1) ∧ (adL ts ls cs t).length = ls.length ∧
    (adL ts ls cs t).getD t.1.toNat 0 = (ts.length : Int) ∧ (adL ts ls cs t).getD t.2.1.toNat 0 = (ts.length : Int) ∧ faL (adT ts ls cs t) (adL ts ls cs t) (adC ts ls cs t) = [] := by
  have hp := ad_put h
  obtain ⟨e1, e2, e3⟩ := ad_yes h
  have h' := h
  unfold adB at h'
  simp only [Bool.and_eq_true, decide_eq_true_eq] at h'
  obtain ⟨hf, hn, hi, ho⟩ := h'
  obtain ⟨hb, -, -⟩ := fa_nil hf
  obtain ⟨k1, k2, k3, k4⟩ := bk_all hb
  have hl : (adL ts ls cs t).length = ls.length := by rw [e2, wr18_len]
  refine ⟨e1, hp.2.2.2.1, hp.2.2.2.2.1, hl, ?_, ?_, ?_⟩
  · rw [← hp.1, List.getD_eq_getElem?_getD, List.getElem?_set, List.getElem?_set]
    have b1 := hp.2.2.2.1
    by_cases e : t.2.1.toNat = t.1.toNat
    · rw [if_pos e, if_pos (by rw [List.length_set]; omega)]; rfl
    · rw [if_neg e, if_pos rfl, if_pos (by omega)]; rfl
  · rw [← hp.1, List.getD_eq_getElem?_getD, List.getElem?_set]
    have b2 := hp.2.2.2.2.1
    rw [if_pos rfl, if_pos (by rw [List.length_set]; omega)]; rfl
  · rw [e1, e2, e3]
    refine fa_of ((fa_clean hf).snoc ho) (by simp; omega) k2 k3 (fun u hu => ?_)
    rcases List.mem_append.1 hu with hu | hu
    · exact k4 u hu
    · rw [List.mem_singleton.1 hu]
      unfold inT at hi
      unfold tkB
      exact hi

end Go.Proofs.YtmfmlbiplagmiaaDoor
namespace Go.Proofs.YtmfmlbiplagmiaaDoor
open Go.RowKit Go.ChangeShapes Go.WideShapes Go.ChangeAt
set_option linter.unusedVariables false
set_option linter.unusedSimpArgs false
set_option maxRecDepth 8000

theorem once_c (g : Nat) (cv : Value) (zs : List Int) (n : Int) (w : World) (h : Dr w g cv zs) (hn : n ≤ 1048576) : Calls Tryd.prog 44 #[.pointer (some ⟨g, 0, none⟩), .int .i64 n] w fun e w' => ∃ q : Bool, e = .returned (.bool q) ∧ Dr w' g cv zs ∧ w.grownBy w' (some g) := by
  go_enter Tryd.func44, Tryd.ntmps44
  go_wp2_with (fail)
  refine (below_c g cv zs _ _ h (by omega)).mono ?_
  rintro e w2 ⟨x, rfl, -, -, -, d2, g2⟩
  have HD : Hid (Dr w2 g cv zs ∧ w.grownBy w2 (some g)) := ⟨d2, g2⟩
  clear d2 g2
  go_wp2
  go_ret
  exact ⟨_, rfl, HD.out⟩
theorem size_c (v : Value) (zs : List Int) (m : Int) (w : World) (h : Rd .u8 w v zs) (hl : zs.length ≤ 2097152) (hm : m ≤ 1048576) : Calls Tryd.prog 78 #[v, .int .i64 m] w fun e w' => ∃ q : Int, e = .returned (.int .i64 q) ∧ q ≤ m ∧ w' = w := by
  obtain ⟨a, cap, rfl, -, h2, -⟩ := h
  unfold maxLen at h2
  by_cases hc : m < 2 + (zs.length : Int) / 20
  · go_enter Tryd.func78, Tryd.ntmps78
    go_wp2
    go_ret
    exact ⟨_, rfl, Int.le_refl _, rfl⟩
  · go_enter Tryd.func78, Tryd.ntmps78
    go_wp2
    go_ret
    exact ⟨_, rfl, by omega, rfl⟩
/-- what is drawn for a talk -/
def DtR (g : Nat) (cv : Value) (zs : List Int) (w : World) (e : Ending) (w' : World) : Prop := ∃ x0 x1 x2 : Int, e = .returned (.agg #[.int .i64 x0, .int .i64 x1, .int .i64 x2]) ∧ Dr w' g cv zs ∧ w.grownBy w' (some g)
set_option maxHeartbeats 6400000 in
theorem drawTalk_c (g : Nat) (cv : Value) (zs : List Int) (a0 a1 a2 : Option Addr) (l0 c0 l1 c1 l2 c2 : Nat) (w : World) (h : Dr w g cv zs) (h1 : l1 ≤ 1048576) (h2 : l2 ≤ 1048576) : Calls Tryd.prog 45 #[.pointer (some ⟨g, 0, none⟩), .agg (B3 (.slice a0 l0 c0) (.slice a1 l1 c1) (.slice a2 l2 c2))] w (DtR g cv zs w) := by
  obtain ⟨P0, hP0⟩ : ∃ P, w.heap.size = P := ⟨_, rfl⟩
  obtain ⟨P1, hP1⟩ : ∃ P, P0 + 1 = P := ⟨_, rfl⟩
  obtain ⟨W0, hW0⟩ : ∃ W, (w.alloc (Obj.cells (B3 (.slice a0 l0 c0) (.slice a1 l1 c1) (.slice a2 l2 c2)) 27)).alloc (Obj.cells #[.int .i64 0, .int .i64 0, .int .i64 0] 38) = W := ⟨_, rfl⟩
  have hb0 : Below w.heap.size w W0 := by rw [← hW0]; exact ((Below.refl _ _).alloc (Nat.le_refl _) _).alloc (by simp) _
  have HD0 : Hid (Dc w W0 g cv zs) := (Dc.start h).below hb0
  have HK0 : Hid (Blk W0 P0 (B3 (.slice a0 l0 c0) (.slice a1 l1 c1) (.slice a2 l2 c2)) 27 ∧ Blk W0 P1 #[.int .i64 0, .int .i64 0, .int .i64 0] 38) := ⟨by rw [← hW0, ← hP0]; exact (Blk.new _ _ _).alloc _, by rw [← hW0]; exact Blk.newAt _ _ _ _ (by simp; omega)⟩
  have HG : Hid (g ≠ P0 ∧ g ≠ P1) := by have := h.lt; exact ⟨by omega, by omega⟩
  have HW0 : Hid ((w.alloc (Obj.cells (B3 (.slice a0 l0 c0) (.slice a1 l1 c1) (.slice a2 l2 c2)) 27)).alloc (Obj.cells #[.int .i64 0, .int .i64 0, .int .i64 0] 38) = W0 ∧ w.heap.size = P0 ∧ P0 + 1 = P1) := ⟨hW0, hP0, hP1⟩
  have HP : Hid (w.heap.size ≤ P1 ∧ w.heap.size ≤ P0) := ⟨by omega, by omega⟩
  clear hb0 hW0 hP0 hP1 h
  obtain ⟨S, hS⟩ : ∃ S : World → Prop, ∀ W, S W ↔ Blk W P0 (B3 (.slice a0 l0 c0) (.slice a1 l1 c1) (.slice a2 l2 c2)) 27 := ⟨_, fun _ => Iff.rfl⟩
  have x1 : ∀ W : At S, W.wd.cell? ⟨P0, 1, none⟩ = some (.slice a1 l1 c1) := fun W => by have := ((hS _).1 W.ok).cell 1; simpa using this
  have x2 : ∀ W : At S, W.wd.cell? ⟨P0, 2, none⟩ = some (.slice a2 l2 c2) := fun W => by have := ((hS _).1 W.ok).cell 2; simpa using this
  have HSS : Hid (∀ W, S W ↔ Blk W P0 (B3 (.slice a0 l0 c0) (.slice a1 l1 c1) (.slice a2 l2 c2)) 27) := hS
  have ne : Nonempty (At S) := ⟨⟨W0, (hS _).2 HK0.out.1⟩⟩
  clear hS
  go_enter Tryd.func45, Tryd.ntmps45
  go_upto_region 1 with fail
  rw [HW0.out.1, HW0.out.2.1]
  try rw [HW0.out.2.2]
  clear HW0
  refine region_mixT [true, true, true, true, false, true, true, true, true, false, true, true, true, true, true, false, false, false, false] 18 5 S (by kernel_rfl) rfl (by kernel_rfl) (fun _ _ _ _ _ h => h) ((HSS.out _).2 HK0.out.1) ?_
  simp only [selT, selF]
  try simp only [Act.put]
  repeat (go_big_quiet_step (fail))
  refine wpQuiet_nil ?_
  clear x1 x2 ne
  refine tail_step ?_
  go_wp2_with (fail)
  refine (below_c g cv zs _ _ (HD0.out.below (Below.refl _ _).drew).dr (by omega)).mono ?_
  rintro e w2 ⟨z0, rfl, -, -, -, d2, g2⟩
  have HD2 : Hid (Dc w w2 g cv zs) := (HD0.out.below (Below.refl _ _).drew).draw d2 g2
  have HK2 : Hid (Blk w2 P0 (B3 (.slice a0 l0 c0) (.slice a1 l1 c1) (.slice a2 l2 c2)) 27 ∧ Blk w2 P1 #[.int .i64 0, .int .i64 0, .int .i64 0] 38) := ⟨Blk.grownD (w := W0.drew) HK0.out.1 g2 (fun e => HG.out.1 (Option.some.inj e).symm), Blk.grownD (w := W0.drew) HK0.out.2 g2 (fun e => HG.out.2 (Option.some.inj e).symm)⟩
  have HS2 : Hid (S w2) := (HSS.out _).2 HK2.out.1
  clear d2 g2 HD0 HK0
  go_wp2
  refine ⟨HS2.out, tail_step ?_⟩
  go_wp2_with (fail)
  refine (below_c g cv zs _ _ HD2.out.dr (by omega)).mono ?_
  rintro e w3 ⟨z1, rfl, -, -, -, d2, g2⟩
  have HD3 : Hid (Dc w w3 g cv zs) := HD2.out.draw d2 g2
  have HK3 : Hid (Blk w3 P0 (B3 (.slice a0 l0 c0) (.slice a1 l1 c1) (.slice a2 l2 c2)) 27 ∧ Blk w3 P1 #[.int .i64 0, .int .i64 0, .int .i64 0] 38) := ⟨HK2.out.1.grownD g2 (fun e => HG.out.1 (Option.some.inj e).symm), HK2.out.2.grownD g2 (fun e => HG.out.2 (Option.some.inj e).symm)⟩
  have HS3 : Hid (S w3) := (HSS.out _).2 HK3.out.1
  clear d2 g2 HD2 HK2 HS2
  go_wp2
  refine ⟨HS3.out, tail_step ?_⟩
  go_wp2_with (fail)
  refine (below_c g cv zs _ _ HD3.out.dr (by omega)).mono ?_
  rintro e w4 ⟨z2, rfl, z2a, -, z2c, d2, g2⟩
  have HD4 : Hid (Dc w w4 g cv zs) := HD3.out.draw d2 g2
  have HK4 : Hid (Blk w4 P0 (B3 (.slice a0 l0 c0) (.slice a1 l1 c1) (.slice a2 l2 c2)) 27 ∧ Blk w4 P1 #[.int .i64 0, .int .i64 0, .int .i64 0] 38) := ⟨HK3.out.1.grownD g2 (fun e => HG.out.1 (Option.some.inj e).symm), HK3.out.2.grownD g2 (fun e => HG.out.2 (Option.some.inj e).symm)⟩
  have HS4 : Hid (S w4) := (HSS.out _).2 HK4.out.1
  clear d2 g2 HD3 HK3 HS3
  go_wp2
  refine ⟨HS4.out, tail_step ?_⟩
  go_wp2
  refine ⟨HS4.out, tail_step ?_⟩
  go_wp2
  refine ⟨HS4.out, tail_end ?_⟩
  go_wp2_with (refine wpList_store_row rfl 38 _ _ rfl P1 _ rfl rfl 38 #[.int .i64 0, .int .i64 0, .int .i64 0] HK4.out.2 (by kernel_rfl) rfl (by simp [Value.oneCell']) ?_)
  have hset : ∀ cs, w4.grownBy (w4.setRow P1 cs) (some P1) := fun cs => ⟨rfl, rfl, rfl, by simp, fun i _ hi => setRow_other w4 _ i _ (fun e => hi (by simp [e]))⟩
  have hD : ∀ cs, Dc w (w4.setRow P1 cs) g cv zs := fun cs => HD4.out.app (fun k e => by have := Option.some.inj e; have := HP.out.1; omega) (hset cs)
  exact bodyPost_ret (results_cell_row rfl _ _ _ 38 _ (0, 0) _ rfl (HK4.out.2.row _) Tryd.underlying38 rfl sizeTk) rfl ⟨_, _, _, rfl, (hD _).dr, (hD _).gr⟩

end Go.Proofs.YtmfmlbiplagmiaaDoor
namespace Go.Proofs.YtmfmlbiplagmiaaDoor
open Go.RowKit Go.ChangeShapes Go.WideShapes Go.ChangeAt
set_option linter.unusedVariables false
set_option linter.unusedSimpArgs false
set_option maxRecDepth 8000

theorem grown_row' (W : World) (X : Nat) (cs : Array Value) : W.grownBy (W.setRow X cs) (some X) := ⟨rfl, rfl, rfl, by simp, fun i _ hi => setRow_other W _ i _ (fun e => hi (by simp [e]))⟩
theorem zeroC (k : Nat) : (Builtin.zeroCells (Value.int .i64 0).cells k).toList = (List.replicate k (0 : Int)).map (Value.int .i64) := by
  have h : (Value.int .i64 0).cells = #[Value.int .i64 0] := rfl
  rw [h]
  apply List.ext_getElem?
  intro i
  by_cases hi : i < k
  · simp [Builtin.zeroCells, hi, List.getElem?_range, List.getElem?_replicate, Nat.mod_one]
  · simp [Builtin.zeroCells, hi, List.getElem?_replicate]
set_option maxHeartbeats 3200000 in
theorem zeros_run (base : Nat) (ty : TypeId) (v : Value) (cs : List Int) (k : Nat) (w : World) (hown : Ow .i64 3 base w v cs) (h0 : 0 < k) (hk : k ≤ 1000) (hn : cs.length ≤ 1000) (hbase : base ≤ w.heap.size) :
    ∃ v' w', (Builtin.append_ #[25, 3] ty #[v, .int .i64 (k : Int)]).run Tryd.prog w = .ok v' w' ∧ Ow .i64 3 base w' v' (cs ++ List.replicate k 0) ∧ w.grownBy w' v.ownBlock ∧ (v'.ownBlock = v.ownBlock ∨ v'.ownBlock = some w.heap.size) := by
  obtain ⟨i, hi, hz, hs, hb⟩ := info_parts toIInfo
  have ht := Tryd.underlying25
  have htn := Tryd.underlying3
  have hw : IntKind.i64.wrap (k : Int) = k := by rw [IntKind.wrap_i64]; omega
  have hzl : (Builtin.zeroCells (Value.int .i64 0).cells k).toList.length = k := by rw [zeroC]; simp
  have fin : ∀ (c cur : Nat) (W : World) (g : Nat) (rest : Array Value), base ≤ g → W.heap[g]? = some (.cells ((cs.map (Value.int .i64)).toArray ++ Builtin.zeroCells (Value.int .i64 0).cells k ++ rest) 3 (0, 0)) → cs.length + k ≤ c → c ≤ maxLen → rest.size = c - (cs.length + k) → Ow .i64 3 base W (.slice (some ⟨g, 0, none⟩) (cs.length + k) c) (cs ++ List.replicate k 0) := by
    intro c _ W g rest hg hh h1 h2 h3
    have hl : (cs ++ List.replicate k (0 : Int)).length = cs.length + k := by simp
    unfold Ow
    rw [hl]
    refine ⟨by simp, .inr ⟨g, c, _, rfl, hg, hh, h1, h2, ?_, ?_⟩⟩
    · have : (Builtin.zeroCells (Value.int .i64 0).cells k).size = k := by rw [← Array.length_toList, hzl]
      simp only [Array.size_append, this, h3, List.size_toArray, List.length_map]; omega
    · simp only [Array.toList_append, List.append_assoc, zeroC, List.map_append]
      rw [← List.append_assoc, List.take_append_of_le_length (by simp)]
      rw [List.take_of_length_le (by simp)]
  rcases hown.2 with ⟨rfl, hn0⟩ | ⟨g, cap, cur, rfl, hbg, hg, hnc, hcm, hcs, htake⟩
  · have hx : cs = [] := List.eq_nil_of_length_eq_zero hn0
    subst hx
    have hr := Lib.run_append_nil_zeros (P := Tryd.prog) w 25 3 ty 3 i (.int .i64 0) .i64 .i64 ht htn hi hz k h0 (by omega) (by omega) (by rw [hb]; omega)
    have hge := grownCap_ge w k 0 3
    refine ⟨_, _, hr, ?_, ⟨rfl, rfl, rfl, by simp, fun j hj _ => heap_alloc_old w.drew _ hj⟩, .inr rfl⟩
    have := fin (grownCap w k 0 3) 0 (w.drew.alloc (.cells (Builtin.zeroCells (Value.int .i64 0).cells k ++ Builtin.zeroCells (Value.int .i64 0).cells (grownCap w k 0 3 - k)) 3)) w.heap.size (Builtin.zeroCells (Value.int .i64 0).cells (grownCap w k 0 3 - k)) hbase (by simpa using heap_alloc_new w.drew _) (by simpa using hge) (grownCap_le_maxLen w k 0 3 (by unfold maxLen; omega)) (by rw [← Array.length_toList, zeroC]; simp)
    simpa using this
  · by_cases hroom : cs.length + k ≤ cap
    · have h1 : ∀ u ∈ (Builtin.zeroCells (Value.int .i64 0).cells k).toList, u.oneCell' = true := by
        rw [zeroC]
        intro u hu
        obtain ⟨z, -, rfl⟩ := List.mem_map.1 hu
        rfl
      have hst := run_storeCells_at Tryd.prog g cs.length 3 (Builtin.zeroCells (Value.int .i64 0).cells k).toList 0 cur w hg (by rw [hzl]; omega) h1
      simp only [Nat.add_zero] at hst
      have hneg : ¬ ((k : Int) < 0) := by omega
      have h48 : ¬ (281474976710656 < (k : Int) * (i.bytes : Int)) := by rw [hb]; omega
      have hk0 : k ≠ 0 := by omega
      have hrun : (Builtin.append_ #[25, 3] ty #[.slice (some ⟨g, 0, none⟩) cs.length cap, .int .i64 (k : Int)]).run Tryd.prog w = .ok (.slice (some ⟨g, 0, none⟩) (cs.length + k) cap) (w.setRow g (cur.toList.take cs.length ++ (Builtin.zeroCells (Value.int .i64 0).cells k).toList ++ cur.toList.drop (cs.length + (Builtin.zeroCells (Value.int .i64 0).cells k).toList.length)).toArray) := by
        simp [Builtin.append_, run_underlying ht, run_underlying htn, sizeOf, typeInfo, zeroValue, hi, hz, hs, asInt, asIntOf, hw, hneg, h48, hk0, hroom, Addr.add_lit] at hst ⊢
        simp [hst]
      refine ⟨_, _, hrun, ?_, grown_row' w g _, .inl rfl⟩
      have htk : cur.toList.take cs.length = cs.map (Value.int .i64) := by simpa using htake
      refine fin cap 0 _ g ((cur.toList.drop (cs.length + (Builtin.zeroCells (Value.int .i64 0).cells k).toList.length)).toArray) hbg ?_ hroom hcm ?_
      · have := setRow_heap w g cur ((cur.toList.take cs.length ++ (Builtin.zeroCells (Value.int .i64 0).cells k).toList ++ cur.toList.drop (cs.length + (Builtin.zeroCells (Value.int .i64 0).cells k).toList.length)).toArray) 3 (0, 0) hg
        rw [this, htk]
        congr 2
        apply Array.ext'
        simp
      · simp only [List.size_toArray, List.length_drop, Array.length_toList, hzl]; omega
    · have holds : ∀ j u, (cs.map (Value.int .i64))[j]? = some u → w.cell? ((⟨g, 0, none⟩ : Addr).add j) = some u := World.ownsRow.cells hown (g := g) rfl
      have hold : (Builtin.firstCells i.size cs.length (.slice (some ⟨g, 0, none⟩) cs.length cap)).run Tryd.prog w.drew = .ok (cs.map (Value.int .i64)).toArray w.drew := by
        rw [hs]
        exact run_firstCells_some (P := Tryd.prog) w.drew 1 cs.length ⟨g, 0, none⟩ cs.length cap (cs.map (Value.int .i64)) (by simp) holds
      have hr := Lib.run_append_grow_zeros (P := Tryd.prog) w 25 3 ty 3 i (.int .i64 0) .i64 .i64 ht htn hi hz (some ⟨g, 0, none⟩) cs.length cap (cs.map (Value.int .i64)) hold k h0 (by omega) (by omega) (by omega) (by rw [hb]; omega) (by rw [hb]; have := growslice_fits (old := cap) (need := cs.length + k) (bytes := 8) (by omega) (by omega); omega)
      have hge := grownCap_ge w (cs.length + k) cap 3
      refine ⟨_, _, hr, ?_, ⟨rfl, rfl, rfl, by simp, fun j hj _ => heap_alloc_old w.drew _ hj⟩, .inr rfl⟩
      exact fin _ 0 _ w.heap.size _ hbase (heap_alloc_new w.drew _) hge (grownCap_le_maxLen w _ _ 3 (by unfold maxLen; omega)) (by rw [← Array.length_toList, zeroC]; simp)

end Go.Proofs.YtmfmlbiplagmiaaDoor
namespace Go.Proofs.YtmfmlbiplagmiaaDoor
open Go.RowKit Go.ChangeShapes Go.WideShapes Go.ChangeAt
set_option linter.unusedVariables false
set_option linter.unusedSimpArgs false
set_option maxRecDepth 8000

/-- a book that is being drawn: in the box X, its rows new -/
structure Bd (w W : World) (g : Nat) (cv : Value) (zs : List Int) (X : Nat) (va vl vc : Value) (ts : List Tk) (ls cs : List Int) : Prop where
  dc : Dc w W g cv zs
  k : Blk W X (B3 va vl vc) 27
  o : Obk w.heap.size W va vl vc ts ls cs
  x : w.heap.size ≤ X
  n : ts.length ≤ 40 ∧ (1 ≤ ls.length ∧ ls.length ≤ 40) ∧ cs.length ≤ 20
theorem obk_grown {base g : Nat} {W W' : World} {va vl vc : Value} {T : List Tk} {L C : List Int} (h : Obk base W va vl vc T L C) (hg : W.grownBy W' (some g)) (hl : g < base) : Obk base W' va vl vc T L C :=
  h.fr (X := fun k => k = g) (Fr.ofGrown hg (fun k e => (Option.some.inj e).symm)) (fun k hk e => by have := (h.lt k hk).1; omega)
section
variable {w W W' : World} {g : Nat} {cv : Value} {zs : List Int} {X : Nat} {va vl vc : Value} {ts : List Tk} {ls cs : List Int}
theorem Bd.below (h : Bd w W g cv zs X va vl vc ts ls cs) (hb : Below W.heap.size W W') : Bd w W' g cv zs X va vl vc ts ls cs := ⟨h.dc.below hb, h.k.below hb h.k.lt, h.o.below hb, h.x, h.n⟩
theorem Bd.draw (h : Bd w W g cv zs X va vl vc ts ls cs) (hd : Dr W' g cv zs) (hg : W.grownBy W' (some g)) : Bd w W' g cv zs X va vl vc ts ls cs :=
  ⟨h.dc.draw hd hg, h.k.grown hg (fun e => by have := Option.some.inj e; have := h.dc.lt; have := h.x; omega), obk_grown h.o hg h.dc.lt, h.x, h.n⟩
theorem Bd.form (h : Bd w W g cv zs X va vl vc ts ls cs) : ∃ a0 l0 c0 a1 c1 a2 c2, va = .slice a0 l0 c0 ∧ vl = .slice a1 ls.length c1 ∧ vc = .slice a2 cs.length c2 := by
  obtain ⟨a0, c0, e0⟩ := h.o.1.form
  obtain ⟨a1, c1, e1⟩ := h.o.2.1.form
  obtain ⟨a2, c2, e2⟩ := h.o.2.2.1.form
  exact ⟨a0, _, c0, a1, c1, a2, c2, e0, e1, e2⟩
theorem grown_row (W : World) (X : Nat) (cs : Array Value) : W.grownBy (W.setRow X cs) (some X) := ⟨rfl, rfl, rfl, by simp, fun i _ hi => setRow_other W _ i _ (fun e => hi (by simp [e]))⟩
theorem Bd.row {base : Nat} {ua ul uc : Value} {T : List Tk} {L C : List Int} (h : Bd w W g cv zs X va vl vc ts ls cs) (o : Obk base W ua ul uc T L C) (hb : w.heap.size ≤ base) (n : T.length ≤ 40 ∧ (1 ≤ L.length ∧ L.length ≤ 40) ∧ C.length ≤ 20) : Bd w (W.setRow X (B3 ua ul uc)) g cv zs X ua ul uc T L C := by
  refine ⟨h.dc.app (row := some X) (fun k e => by have := Option.some.inj e; have := h.x; omega) (grown_row _ _ _), h.k.row _, ?_, h.x, n⟩
  exact (o.fr (X := fun k => k = X) (Fr.ofGrown (grown_row _ _ _) (fun k e => (Option.some.inj e).symm)) (fun k hk e => by
    subst e
    rcases hk with hk | hk | hk
    · exact row_blk o.1 h.k (by decide) hk
    · exact row_blk o.2.1 h.k (by decide) hk
    · exact row_blk o.2.2.1 h.k (by decide) hk)).mono hb
theorem Bd.push {w7 : World} {V7 : Value} {t : Tk} (h : Bd w W g cv zs X va vl vc ts ls cs) (o7 : Og 3 tkC 38 w.heap.size w7 V7 (ts ++ [t])) (g7 : W.grownBy w7 va.ownBlock) (hn : ts.length ≤ 39) : Bd w (w7.setCell ⟨X, 0, none⟩ V7) g cv zs X V7 vl vc (ts ++ [t]) ls cs := by
  have k7 := h.k.grown g7 (row_blk h.o.1 h.k (by decide))
  have gs : w7.grownBy (w7.setCell ⟨X, 0, none⟩ V7) (some X) := dgrown_set _ _ _ _
  have ol : Ow .i64 3 w.heap.size w7 vl ls := World.ownsRow.kept h.o.2.1 g7 (by
    cases hv : vl.ownBlock with
    | none => exact .inl rfl
    | some k => exact .inr fun e => h.o.2.2.2.1 k e.symm hv)
  have oc : Ow .i64 3 w.heap.size w7 vc cs := World.ownsRow.kept h.o.2.2.1 g7 (by
    cases hv : vc.ownBlock with
    | none => exact .inl rfl
    | some k => exact .inr fun e => h.o.2.2.2.2.1 k e.symm hv)
  refine ⟨(h.dc.app (fun k e => (World.ownsRow.lt h.o.1 k e).1) g7).app (row := some X) (fun k e => by have := Option.some.inj e; have := h.x; omega) gs, ?_, ⟨World.ownsRow.kept o7 gs (.inr (row_blk o7 k7 (by decide))), World.ownsRow.kept ol gs (.inr (row_blk ol k7 (by decide))), World.ownsRow.kept oc gs (.inr (row_blk oc k7 (by decide))), apart_tag o7 ol (by decide), apart_tag o7 oc (by decide), h.o.2.2.2.2.2⟩, h.x, by have := h.n; simp; omega⟩
  have := k7.set 0 V7
  simpa using this
/-- a number of the lines is turned -/
theorem Bd.line {gl cap x : Nat} {z : Int} (h : Bd w W g cv zs X va (.slice (some ⟨gl, 0, none⟩) ls.length cap) vc ts ls cs) : Bd w (W.setCell ⟨gl, x, none⟩ (.int .i64 z)) g cv zs X va (.slice (some ⟨gl, 0, none⟩) ls.length cap) vc ts (ls.set x z) cs := by
  have hl := World.ownsRow.stored h.o.2.1 x (.int .i64 z)
  have ge := (World.ownsRow.lt h.o.2.1 gl rfl).1
  refine ⟨h.dc.app (fun k e => by have := Option.some.inj e; omega) hl.2, h.k.grown hl.2 (row_blk h.o.2.1 h.k (by decide)), ⟨World.ownsRow.kept h.o.1 hl.2 ?_, ?_, World.ownsRow.kept h.o.2.2.1 hl.2 ?_, h.o.2.2.2⟩, h.x, by have := h.n; simp; omega⟩
  · cases hv : va.ownBlock with
    | none => exact .inl rfl
    | some k => exact .inr fun e => h.o.2.2.2.1 k hv e.symm
  · have := hl.1
    rw [Ow, List.length_set]
    rw [← List.map_set] at this
    exact this
  · cases hv : vc.ownBlock with
    | none => exact .inl rfl
    | some k => exact .inr fun e => h.o.2.2.2.2.2 k e.symm hv
/-- a number of the circuits is turned -/
theorem Bd.circ {gl cap x : Nat} {z : Int} (h : Bd w W g cv zs X va vl (.slice (some ⟨gl, 0, none⟩) cs.length cap) ts ls cs) : Bd w (W.setCell ⟨gl, x, none⟩ (.int .i64 z)) g cv zs X va vl (.slice (some ⟨gl, 0, none⟩) cs.length cap) ts ls (cs.set x z) := by
  have hl := World.ownsRow.stored h.o.2.2.1 x (.int .i64 z)
  have ge := (World.ownsRow.lt h.o.2.2.1 gl rfl).1
  refine ⟨h.dc.app (fun k e => by have := Option.some.inj e; omega) hl.2, h.k.grown hl.2 (row_blk h.o.2.2.1 h.k (by decide)), ⟨World.ownsRow.kept h.o.1 hl.2 ?_, World.ownsRow.kept h.o.2.1 hl.2 ?_, ?_, h.o.2.2.2⟩, h.x, by have := h.n; simp; omega⟩
  · cases hv : va.ownBlock with
    | none => exact .inl rfl
    | some k => exact .inr fun e => h.o.2.2.2.2.1 k hv e.symm
  · cases hv : vl.ownBlock with
    | none => exact .inl rfl
    | some k => exact .inr fun e => h.o.2.2.2.2.2 k hv e.symm
  · have := hl.1
    rw [Ow, List.length_set]
    rw [← List.map_set] at this
    exact this
end
/-- what l18Draw answers -/
def LdR (tb cb : Nat) (g : Nat) (cv : Value) (zs : List Int) (w : World) (e : Ending) (w' : World) : Prop := ∃ va vl vc ts ls cs, e = .returned (.agg (B3 va vl vc)) ∧ Obk w.heap.size w' va vl vc ts ls cs ∧ Dc w w' g cv zs ∧ (ts.length ≤ tb ∧ (1 ≤ ls.length ∧ ls.length ≤ 40) ∧ cs.length ≤ cb)

set_option maxHeartbeats 12800000 in
theorem draw18_c (g : Nat) (cv : Value) (zs : List Int) (w : World) (h : Dr w g cv zs) : Calls Tryd.prog 59 #[.pointer (some ⟨g, 0, none⟩), cv] w (LdR 30 20 g cv zs w) := by
  obtain ⟨P0, hP0⟩ : ∃ P, w.heap.size = P := ⟨_, rfl⟩
  obtain ⟨W0, hW0⟩ : ∃ W, w.alloc (Obj.cells (B3 (.slice none 0 0) (.slice none 0 0) (.slice none 0 0)) 27) = W := ⟨_, rfl⟩
  obtain ⟨E, hE⟩ : ∃ P, W0.heap.size = P := ⟨_, rfl⟩
  obtain ⟨W1, hW1⟩ : ∃ W, W0.alloc (Obj.cells #[] 38) = W := ⟨_, rfl⟩
  have hb0 : Below w.heap.size w W0 := by rw [← hW0]; exact (Below.refl _ _).alloc (Nat.le_refl _) _
  have hb1 : Below W0.heap.size W0 W1 := by rw [← hW1]; exact (Below.refl _ _).alloc (Nat.le_refl _) _
  have HD1 : Hid (Dc w W1 g cv zs) := ((Dc.start h).below hb0).below hb1
  have hk0 : Blk W0 P0 (B3 (.slice none 0 0) (.slice none 0 0) (.slice none 0 0)) 27 := by rw [← hW0, ← hP0]; exact Blk.new _ _ _
  have HK1 : Hid (Blk W1 P0 (B3 (.slice none 0 0) (.slice none 0 0) (.slice none 0 0)) 27) := hk0.below hb1 hk0.lt
  have HT1 : Hid (Og 3 tkC 38 w.heap.size W1 (.slice (some ⟨E, 0, none⟩) 0 0) []) := ⟨rfl, .inr ⟨E, 0, #[], rfl, by rw [← hE]; exact hb0.size, by rw [← hW1, ← hE]; exact heap_alloc_new _ _, Nat.le_refl _, by unfold maxLen; omega, rfl, rfl⟩⟩
  have HG : Hid (g < P0 ∧ w.heap.size = P0) := ⟨by have := h.lt; omega, hP0⟩
  have HW : Hid (w.alloc (Obj.cells (B3 (.slice none 0 0) (.slice none 0 0) (.slice none 0 0)) 27) = W0 ∧ w.heap.size = P0 ∧ W0.heap.size = E ∧ W0.alloc (Obj.cells #[] 38) = W1) := ⟨hW0, hP0, hE, hW1⟩
  clear hb0 hb1 hk0 hW0 hW1 hP0 hE h
  go_enter Tryd.func59, Tryd.ntmps59
  go_upto_region 1 with fail
  rw [HW.out.1, HW.out.2.1]
  go_wp2_with (fail)
  rw [HW.out.2.2.2, HW.out.2.2.1]
  refine (below_c g cv zs _ _ HD1.out.dr (by omega)).mono ?_
  rintro e w2 ⟨x, rfl, xa, xb, -, d2, g2⟩
  have HD2 : Hid (Dc w w2 g cv zs) := HD1.out.draw d2 g2
  have HK2 : Hid (Blk w2 P0 (B3 (.slice none 0 0) (.slice none 0 0) (.slice none 0 0)) 27) := HK1.out.grown g2 (fun e => by have := Option.some.inj e; have := HG.out.1; omega)
  have HT2 : Hid (Og 3 tkC 38 w.heap.size w2 (.slice (some ⟨E, 0, none⟩) 0 0) []) := World.ownsRow.kept HT1.out g2 (.inr fun e => by have h1 := (World.ownsRow.lt HT1.out _ e).1; have h2 := HG.out; omega)
  obtain ⟨xn, rfl⟩ := Int.eq_ofNat_of_zero_le xa
  have hx : xn ≤ 11 := by have := xb (by omega); omega
  clear d2 g2 HD1 HK1 HT1 xa xb HW
  go_wp2_with (fail)
  refine (below_c g cv zs _ _ HD2.out.dr (by omega)).mono ?_
  rintro e w3 ⟨y, rfl, ya, yb, -, d2, g2⟩
  have HD3 : Hid (Dc w w3 g cv zs) := HD2.out.draw d2 g2
  have HK3 : Hid (Blk w3 P0 (B3 (.slice none 0 0) (.slice none 0 0) (.slice none 0 0)) 27) := HK2.out.grown g2 (fun e => by have := Option.some.inj e; have := HG.out.1; omega)
  have HT3 : Hid (Og 3 tkC 38 w.heap.size w3 (.slice (some ⟨E, 0, none⟩) 0 0) []) := World.ownsRow.kept HT2.out g2 (.inr fun e => by have h1 := (World.ownsRow.lt HT2.out _ e).1; have h2 := HG.out; omega)
  obtain ⟨yn, rfl⟩ := Int.eq_ofNat_of_zero_le ya
  have hy : yn ≤ 5 := by have := yb (by omega); omega
  clear d2 g2 HD2 HK2 HT2 ya yb
  go_wp2_with (fail)
  rw [show (1 : Int) + (xn : Int) = ((xn + 1 : Nat) : Int) by omega]
  refine (write_c _ [] (xn + 1) yn w3 (HT3.out.rd tkC_len) (by simp) (by omega) (by omega)).mono ?_
  rintro e w4 ⟨v1, v2, rfl, ol, oc, hap, b⟩
  obtain ⟨a1, n1, c1, rfl⟩ : ∃ a L c, v1 = .slice a L c := by obtain ⟨a, c, e⟩ := ol.form; exact ⟨a, _, c, e⟩
  obtain ⟨a2, n2, c2, rfl⟩ : ∃ a L c, v2 = .slice a L c := by obtain ⟨a, c, e⟩ := oc.form; exact ⟨a, _, c, e⟩
  obtain ⟨X, hX⟩ : ∃ X, w4.heap.size = X := ⟨_, rfl⟩
  obtain ⟨W5, hW5⟩ : ∃ W, w4.alloc (Obj.cells (B3 (.slice (some ⟨E, 0, none⟩) 0 0) (.slice a1 n1 c1) (.slice a2 n2 c2)) 27) = W := ⟨_, rfl⟩
  have ba : Below w4.heap.size w4 W5 := by rw [← hW5]; exact (Below.refl _ _).alloc (Nat.le_refl _) _
  have hdc : Dc w W5 g cv zs := (HD3.out.below b).below ba
  have hsz : w.heap.size ≤ w3.heap.size := HD3.out.gr.size
  have ot4 := HT3.out.below b
  have ot := ot4.below ba
  have HB5 : Hid (∃ va vl vc ts ls cs, (va = .slice (some ⟨E, 0, none⟩) 0 0 ∧ vl = .slice a1 n1 c1 ∧ vc = .slice a2 n2 c2) ∧ Bd w W5 g cv zs X va vl vc ts ls cs ∧ ts.length ≤ 30) := ⟨_, _, _, [], wr18 hasL (xn + 1) [], wr18 hasC yn [], ⟨rfl, rfl, rfl⟩, ⟨hdc, by rw [← hW5, ← hX]; exact Blk.new _ _ _, ⟨ot, (ol.mono hsz).below ba, (oc.mono hsz).below ba, apart_tag ot4 ol (by decide), apart_tag ot4 oc (by decide), hap⟩, by rw [← hX]; exact Nat.le_trans hsz b.size, by rw [wr18_len, wr18_len]; simp; omega⟩, by simp⟩
  have HK5 : Hid (Blk W5 P0 (B3 (.slice none 0 0) (.slice none 0 0) (.slice none 0 0)) 27) := (HK3.out.below b HK3.out.lt).below ba (HK3.out.below b HK3.out.lt).lt
  have HX : Hid (P0 < X) := by
    have h1 := (HK3.out.below b HK3.out.lt).lt
    show P0 < X
    omega
  have HW5 : Hid (w4.alloc (Obj.cells (B3 (.slice (some ⟨E, 0, none⟩) 0 0) (.slice a1 n1 c1) (.slice a2 n2 c2)) 27) = W5 ∧ w4.heap.size = X) := ⟨hW5, hX⟩
  clear ba hdc hsz ot4 ot ol oc hap b hX hW5 HD3 HK3 HT3
  go_upto_region 2 with fail
  rw [HW5.out.1, HW5.out.2]
  clear HW5
  obtain ⟨va, vl, vc, ts, ls, cs, -, hB5, ht5⟩ := HB5.out
  have hB : Hid (Bd w W5 g cv zs X va vl vc ts ls cs) := hB5
  go_wp2_with (fail)
  refine (size_c cv zs 14 W5 hB.out.dc.dr.rd (by have := hB.out.dc.dr.len; omega) (by omega)).mono ?_
  rintro e w6 ⟨q, rfl, hq, hw6⟩
  rw [hw6]
  clear hw6 w6
  go_wp2_with (fail)
  refine (below_c g cv zs _ _ hB.out.dc.dr (by omega)).mono ?_
  rintro e w6 ⟨j0, rfl, ja, jb, jc, d2, g2⟩
  have HB6 : Hid (Bd w w6 g cv zs X va vl vc ts ls cs) := hB.out.draw d2 g2
  have HK6 : Hid (Blk w6 P0 (B3 (.slice none 0 0) (.slice none 0 0) (.slice none 0 0)) 27) := HK5.out.grown g2 (fun e => by have := Option.some.inj e; have := HG.out.1; omega)
  have HT6 : Hid (ts.length ≤ 30) := ht5
  obtain ⟨j1, rfl⟩ := Int.eq_ofNat_of_zero_le ja
  have hj1 : j1 ≤ 20 := by
    by_cases h0 : 0 < q
    · have := jb h0; omega
    · have := jc (by omega); omega
  clear d2 g2 hB HB5 hB5 ht5 HK5 ja jb jc hq
  go_wp2
  go_loopw [6] (fun i wr => ∃ (j : Nat) (va vl vc : Value) (ts : List Tk) (ls cs : List Int), i = .int .i64 j ∧ j ≤ 20 ∧ Hid (Bd w wr g cv zs X va vl vc ts ls cs ∧ ts.length ≤ 30) ∧ Hid (Blk wr P0 (B3 (.slice none 0 0) (.slice none 0 0) (.slice none 0 0)) 27)) (fun i _ => (intOf i).toNat)
  case atStart => exact ⟨j1, va, vl, vc, ts, ls, cs, rfl, hj1, ⟨HB6.out, HT6.out⟩, HK6⟩
  case round =>
    clear HB6 HK6 HT6 va vl vc ts ls cs
    obtain ⟨j, va, vl, vc, ts, ls, cs, rfl, hj20, hB, hK⟩ := hrel
    by_cases hj : j = 0
    case pos =>
      subst hj
      have HT3 : Hid (ts.length ≤ 30) := hB.out.2
      go_wp2_with (fail)
      refine (below_c g cv zs _ _ hB.out.1.dc.dr (by omega)).mono ?_
      rintro e w2 ⟨p, rfl, pa, pb, -, d2, g2⟩
      have HB2 : Hid (Bd w w2 g cv zs X va vl vc ts ls cs) := hB.out.1.draw d2 g2
      have HK2 : Hid (Blk w2 P0 (B3 (.slice none 0 0) (.slice none 0 0) (.slice none 0 0)) 27) := hK.out.grown g2 (fun e => by have := Option.some.inj e; have := HG.out.1; omega)
      obtain ⟨pn, rfl⟩ := Int.eq_ofNat_of_zero_le pa
      have hp : pn ≤ 3 := by have := pb (by omega); omega
      clear d2 g2 hB hK pa pb
      go_wp2_with (fail)
      refine (below_c g cv zs _ _ HB2.out.dc.dr (by omega)).mono ?_
      rintro e w3 ⟨p, rfl, pa, pb, -, d2, g2⟩
      have HB3 : Hid (Bd w w3 g cv zs X va vl vc ts ls cs) := HB2.out.draw d2 g2
      have HK3 : Hid (Blk w3 P0 (B3 (.slice none 0 0) (.slice none 0 0) (.slice none 0 0)) 27) := HK2.out.grown g2 (fun e => by have := Option.some.inj e; have := HG.out.1; omega)
      obtain ⟨qn, rfl⟩ := Int.eq_ofNat_of_zero_le pa
      have hqn : qn ≤ 1 := by have := pb (by omega); omega
      obtain ⟨kn, hkn⟩ : ∃ kn, pn * qn = kn := ⟨_, rfl⟩
      have hk3 : kn ≤ 3 := by rw [← hkn]; exact Nat.le_trans (Nat.mul_le_mul hp hqn) (by decide)
      have hmul : (pn : Int) * (qn : Int) = (kn : Int) := by rw [← hkn]; simp
      clear d2 g2 HB2 HK2 pa pb hkn hp hqn
      go_wp2
      go_loopw [10] (fun i wr => ∃ (j : Nat) (va vl vc : Value) (ts : List Tk) (ls cs : List Int), i = .int .i64 j ∧ j ≤ 20 ∧ Hid (Bd w wr g cv zs X va vl vc ts ls cs) ∧ ts.length ≤ 30 ∧ Hid (Blk wr P0 (B3 (.slice none 0 0) (.slice none 0 0) (.slice none 0 0)) 27)) (fun i _ => (intOf i).toNat)
      case atStart => exact ⟨kn, va, vl, vc, ts, ls, cs, rfl, by omega, HB3, HT3.out, HK3⟩
      case round =>
        clear HB3 HK3 HT3 va vl vc ts ls cs
        obtain ⟨j, va, vl, vc, ts, ls, cs, rfl, hj20, hB, ht30, hK⟩ := hrel
        obtain ⟨a0, l0, c0, a1, c1, a2, c2, rfl, rfl, rfl⟩ := hB.out.form
        by_cases hj : j = 0
        case pos =>
          subst hj
          have y0 := hB.out.k.cell 0
          have y1 := hB.out.k.cell 1
          have y2 := hB.out.k.cell 2
          simp at y0 y1 y2
          have HEND : Hid (Blk (wr.setRow P0 (B3 (.slice a0 l0 c0) (.slice a1 ls.length c1) (.slice a2 cs.length c2))) P0 (B3 (.slice a0 l0 c0) (.slice a1 ls.length c1) (.slice a2 cs.length c2)) 27) := hK.out.row _
          have HANS : Hid (LdR 30 20 g cv zs w (.returned (.agg (B3 (.slice a0 l0 c0) (.slice a1 ls.length c1) (.slice a2 cs.length c2)))) (wr.setRow P0 (B3 (.slice a0 l0 c0) (.slice a1 ls.length c1) (.slice a2 cs.length c2)))) := by
            refine ⟨_, _, _, ts, ls, cs, rfl, ?_, hB.out.dc.app (row := some P0) (fun k e => by have := Option.some.inj e; have := HG.out.2; omega) (grown_row _ _ _), ht30, hB.out.n.2.1, hB.out.n.2.2⟩
            exact hB.out.o.fr (X := fun k => k = P0) (Fr.ofGrown (grown_row _ _ _) (fun k e => (Option.some.inj e).symm)) (fun k hk e => by
              subst e
              rcases hk with hk | hk | hk
              · exact row_blk hB.out.o.1 hK.out (by decide) hk
              · exact row_blk hB.out.o.2.1 hK.out (by decide) hk
              · exact row_blk hB.out.o.2.2.1 hK.out (by decide) hk)
          go_wp2_with (refine wpList_store_row rfl 27 _ _ rfl P0 (B3 (.slice a0 l0 c0) (.slice a1 ls.length c1) (.slice a2 cs.length c2)) rfl rfl 27 (B3 (.slice none 0 0) (.slice none 0 0) (.slice none 0 0)) hK.out (by kernel_rfl) rfl (by simp [Value.oneCell']) ?_)
          exact bodyPost_ret (v := .agg (B3 (.slice a0 l0 c0) (.slice a1 ls.length c1) (.slice a2 cs.length c2))) (results_cell_row rfl _ _ _ 27 _ (0, 0) _ rfl HEND.out Tryd.underlying27 rfl sizeBk) rfl HANS.out
        case neg =>
        obtain ⟨j', rfl⟩ : ∃ j', j = j' + 1 := ⟨j - 1, by omega⟩
        have hjI : (0 : Int) < (((j' + 1 : Nat)) : Int) := by omega
        go_wp2_with (fail)
        refine (once_c g cv zs 2 wr hB.out.dc.dr (by omega)).mono ?_
        rintro e w4 ⟨q, rfl, d2, g2⟩
        have HB4 : Hid (Bd w w4 g cv zs X (.slice a0 l0 c0) (.slice a1 ls.length c1) (.slice a2 cs.length c2) ts ls cs) := hB.out.draw d2 g2
        have HK4 : Hid (Blk w4 P0 (B3 (.slice none 0 0) (.slice none 0 0) (.slice none 0 0)) 27) := hK.out.grown g2 (fun e => by have := Option.some.inj e; have := HG.out.1; omega)
        clear d2 g2 hB hK
        cases q with
        | true =>
          obtain ⟨gl, cap, hfm, hge, hgl⟩ := World.ownsRow.form HB4.out.o.2.1 (by have := HB4.out.n; omega)
          simp only [Value.slice.injEq] at hfm
          obtain ⟨rfl, -, rfl⟩ := hfm
          obtain ⟨S, hS⟩ : ∃ S : World → Prop, ∀ W, S W ↔ Blk W X (B3 (.slice a0 l0 c0) (.slice (some ⟨gl, 0, none⟩) ls.length c1) (.slice a2 cs.length c2)) 27 := ⟨_, fun _ => Iff.rfl⟩
          have x1 : ∀ W : At S, W.wd.cell? ⟨X, 1, none⟩ = some (.slice (some ⟨gl, 0, none⟩) ls.length c1) := fun W => by have := ((hS _).1 W.ok).cell 1; simpa using this
          have HSS : Hid (∀ W, S W ↔ Blk W X (B3 (.slice a0 l0 c0) (.slice (some ⟨gl, 0, none⟩) ls.length c1) (.slice a2 cs.length c2)) 27) := hS
          have ne : Nonempty (At S) := ⟨⟨w4, (hS _).2 HB4.out.k⟩⟩
          clear hS
          go_upto_region 15 with fail
          refine region_mixT [true, true, true, true, true, true, false, true, false, false, false, false] 10 3 S (by kernel_rfl) rfl (by kernel_rfl) (fun _ _ _ _ _ h => h) ((HSS.out _).2 HB4.out.k) ?_
          simp only [selT, selF]
          try simp only [Act.put]
          repeat (go_big_quiet_step (fail))
          refine wpQuiet_nil ?_
          clear x1 ne
          refine tail_step ?_
          go_wp2_with (fail)
          have hln := HB4.out.n
          refine (below_c g cv zs _ _ (HB4.out.below (Below.refl _ _).drew).dc.dr (by omega)).mono ?_
          rintro e w5 ⟨p, rfl, pa, pb, -, d2, g2⟩
          have HB5 : Hid (Bd w w5 g cv zs X (.slice a0 l0 c0) (.slice (some ⟨gl, 0, none⟩) ls.length c1) (.slice a2 cs.length c2) ts ls cs) := (HB4.out.below (Below.refl _ _).drew).draw d2 g2
          have HK5 : Hid (Blk w5 P0 (B3 (.slice none 0 0) (.slice none 0 0) (.slice none 0 0)) 27) := Blk.grown (w := w4.drew) HK4.out g2 (fun e => by have := Option.some.inj e; have := HG.out.1; omega)
          have HS5 : Hid (S w5) := (HSS.out _).2 HB5.out.k
          obtain ⟨pn, rfl⟩ := Int.eq_ofNat_of_zero_le pa
          have hp : pn < ls.length := by have := pb (by omega); omega
          clear d2 g2 HB4 HK4 pa pb
          go_wp2
          refine ⟨HS5.out, tail_step ?_⟩
          go_wp2_with (fail)
          refine (below_c g cv zs _ _ HB5.out.dc.dr (by omega)).mono ?_
          rintro e w6 ⟨p, rfl, pa, pb, -, d2, g2⟩
          have HB6 : Hid (Bd w w6 g cv zs X (.slice a0 l0 c0) (.slice (some ⟨gl, 0, none⟩) ls.length c1) (.slice a2 cs.length c2) ts ls cs) := HB5.out.draw d2 g2
          have HK6 : Hid (Blk w6 P0 (B3 (.slice none 0 0) (.slice none 0 0) (.slice none 0 0)) 27) := HK5.out.grown g2 (fun e => by have := Option.some.inj e; have := HG.out.1; omega)
          have HS6 : Hid (S w6) := (HSS.out _).2 HB6.out.k
          have pb' := pb (by omega)
          clear d2 g2 HB5 HK5 HS5 pb
          go_wp2
          refine ⟨HS6.out, tail_step ?_⟩
          go_wp2
          refine ⟨HS6.out, tail_end ?_⟩
          have hpI : (pn : Int) < (ls.length : Int) := by omega
          obtain ⟨old, hold⟩ : ∃ u, w6.cell? ⟨gl, pn, none⟩ = some u := by
            rw [World.ownsRow.cellAt HB6.out.o.2.1 pn (by omega), List.getElem?_map, List.getElem?_eq_getElem hp]
            exact ⟨_, rfl⟩
          have hfz := World.ownsRow.frozenAt HB6.out.o.2.1 pn
          have HN : Hid (Bd w (w6.setCell ⟨gl, pn, none⟩ (.int .i64 (p - 1))) g cv zs X (.slice a0 l0 c0) (.slice (some ⟨gl, 0, none⟩) ls.length c1) (.slice a2 cs.length c2) ts (ls.set pn (p - 1)) cs) := HB6.out.line
          have HKN : Hid (Blk (w6.setCell ⟨gl, pn, none⟩ (.int .i64 (p - 1))) P0 (B3 (.slice none 0 0) (.slice none 0 0) (.slice none 0 0)) 27) := HK6.out.other _ _ (fun e => row_blk HB6.out.o.2.1 HK6.out (by decide) (by rw [e]; rfl))
          clear HB6 HK6 HS6 HSS
          go_wp2
          go_roundw
          case rel => exact ⟨j', _, _, _, _, _, _, by go_num, by omega, HN, ht30, HKN⟩
          case measure => first | (simp [intOf]; done) | (simp [intOf]; omega)
        | false =>
          have y0 := HB4.out.k.cell 0
          have y1 := HB4.out.k.cell 1
          have y2 := HB4.out.k.cell 2
          simp at y0 y1 y2
          by_cases hcs : cs.length = 0
          case pos =>
            have hcI : ¬ ((0 : Int) < (cs.length : Int)) := by omega
            go_wp2
            go_roundw
            case rel => exact ⟨j', _, _, _, _, _, _, by go_num, by omega, HB4, ht30, HK4⟩
            case measure => first | (simp [intOf]; done) | (simp [intOf]; omega)
          case neg =>
          have hcI : (0 : Int) < (cs.length : Int) := by omega
          obtain ⟨gl, cap, hfm, hge, hgl⟩ := World.ownsRow.form HB4.out.o.2.2.1 (by omega)
          simp only [Value.slice.injEq] at hfm
          obtain ⟨rfl, -, rfl⟩ := hfm
          obtain ⟨S, hS⟩ : ∃ S : World → Prop, ∀ W, S W ↔ Blk W X (B3 (.slice a0 l0 c0) (.slice a1 ls.length c1) (.slice (some ⟨gl, 0, none⟩) cs.length c2)) 27 := ⟨_, fun _ => Iff.rfl⟩
          have x1 : ∀ W : At S, W.wd.cell? ⟨X, 2, none⟩ = some (.slice (some ⟨gl, 0, none⟩) cs.length c2) := fun W => by have := ((hS _).1 W.ok).cell 2; simpa using this
          have HSS : Hid (∀ W, S W ↔ Blk W X (B3 (.slice a0 l0 c0) (.slice a1 ls.length c1) (.slice (some ⟨gl, 0, none⟩) cs.length c2)) 27) := hS
          have ne : Nonempty (At S) := ⟨⟨w4, (hS _).2 HB4.out.k⟩⟩
          clear hS
          go_upto_region 17 with fail
          refine region_mixT [true, true, true, true, true, true, false, true, false, false, false, false] 10 3 S (by kernel_rfl) rfl (by kernel_rfl) (fun _ _ _ _ _ h => h) ((HSS.out _).2 HB4.out.k) ?_
          simp only [selT, selF]
          try simp only [Act.put]
          repeat (go_big_quiet_step (fail))
          refine wpQuiet_nil ?_
          clear x1 ne
          refine tail_step ?_
          go_wp2_with (fail)
          have hln := HB4.out.n
          refine (below_c g cv zs _ _ (HB4.out.below (Below.refl _ _).drew).dc.dr (by omega)).mono ?_
          rintro e w5 ⟨p, rfl, pa, pb, -, d2, g2⟩
          have HB5 : Hid (Bd w w5 g cv zs X (.slice a0 l0 c0) (.slice a1 ls.length c1) (.slice (some ⟨gl, 0, none⟩) cs.length c2) ts ls cs) := (HB4.out.below (Below.refl _ _).drew).draw d2 g2
          have HK5 : Hid (Blk w5 P0 (B3 (.slice none 0 0) (.slice none 0 0) (.slice none 0 0)) 27) := Blk.grown (w := w4.drew) HK4.out g2 (fun e => by have := Option.some.inj e; have := HG.out.1; omega)
          have HS5 : Hid (S w5) := (HSS.out _).2 HB5.out.k
          obtain ⟨pn, rfl⟩ := Int.eq_ofNat_of_zero_le pa
          have hp : pn < cs.length := by have := pb (by omega); omega
          clear d2 g2 HB4 HK4 pa pb
          go_wp2
          refine ⟨HS5.out, tail_step ?_⟩
          go_wp2_with (fail)
          refine (below_c g cv zs _ _ HB5.out.dc.dr (by omega)).mono ?_
          rintro e w6 ⟨p, rfl, pa, pb, -, d2, g2⟩
          have HB6 : Hid (Bd w w6 g cv zs X (.slice a0 l0 c0) (.slice a1 ls.length c1) (.slice (some ⟨gl, 0, none⟩) cs.length c2) ts ls cs) := HB5.out.draw d2 g2
          have HK6 : Hid (Blk w6 P0 (B3 (.slice none 0 0) (.slice none 0 0) (.slice none 0 0)) 27) := HK5.out.grown g2 (fun e => by have := Option.some.inj e; have := HG.out.1; omega)
          have HS6 : Hid (S w6) := (HSS.out _).2 HB6.out.k
          have pb' := pb (by omega)
          clear d2 g2 HB5 HK5 HS5 pb
          go_wp2
          refine ⟨HS6.out, tail_step ?_⟩
          go_wp2
          refine ⟨HS6.out, tail_end ?_⟩
          have hpI : (pn : Int) < (cs.length : Int) := by omega
          obtain ⟨old, hold⟩ : ∃ u, w6.cell? ⟨gl, pn, none⟩ = some u := by
            rw [World.ownsRow.cellAt HB6.out.o.2.2.1 pn (by omega), List.getElem?_map, List.getElem?_eq_getElem hp]
            exact ⟨_, rfl⟩
          have hfz := World.ownsRow.frozenAt HB6.out.o.2.2.1 pn
          have HN : Hid (Bd w (w6.setCell ⟨gl, pn, none⟩ (.int .i64 (p - 1))) g cv zs X (.slice a0 l0 c0) (.slice a1 ls.length c1) (.slice (some ⟨gl, 0, none⟩) cs.length c2) ts ls (cs.set pn (p - 1))) := HB6.out.circ
          have HKN : Hid (Blk (w6.setCell ⟨gl, pn, none⟩ (.int .i64 (p - 1))) P0 (B3 (.slice none 0 0) (.slice none 0 0) (.slice none 0 0)) 27) := HK6.out.other _ _ (fun e => row_blk HB6.out.o.2.2.1 HK6.out (by decide) (by rw [e]; rfl))
          clear HB6 HK6 HS6 HSS
          go_wp2
          go_roundw
          case rel => exact ⟨j', _, _, _, _, _, _, by go_num, by omega, HN, ht30, HKN⟩
          case measure => first | (simp [intOf]; done) | (simp [intOf]; omega)
    case neg =>
    have hjI : (0 : Int) < (j : Int) := by omega
    obtain ⟨a0, l0, c0, a1, c1, a2, c2, rfl, rfl, rfl⟩ := hB.out.1.form
    have y0 := hB.out.1.k.cell 0
    have y1 := hB.out.1.k.cell 1
    have y2 := hB.out.1.k.cell 2
    simp at y0 y1 y2
    go_wp2_with (fail)
    refine (drawTalk_c g cv zs a0 a1 a2 l0 c0 ls.length c1 cs.length c2 wr hB.out.1.dc.dr (by have := hB.out.1.n; omega) (by have := hB.out.1.n; omega)).mono ?_
    rintro e w2 ⟨x0, x1, x2, rfl, d2, g2⟩
    have HB2 : Hid (Bd w w2 g cv zs X (.slice a0 l0 c0) (.slice a1 ls.length c1) (.slice a2 cs.length c2) ts ls cs ∧ ts.length ≤ 30) := ⟨hB.out.1.draw d2 g2, hB.out.2⟩
    have HK2 : Hid (Blk w2 P0 (B3 (.slice none 0 0) (.slice none 0 0) (.slice none 0 0)) 27) := hK.out.grown g2 (fun e => by have := Option.some.inj e; have := HG.out.1; omega)
    clear d2 g2 hB hK y0 y1 y2
    obtain ⟨Y, hY⟩ : ∃ X, w2.heap.size = X := ⟨_, rfl⟩
    obtain ⟨W3, hW3⟩ : ∃ W, w2.alloc (Obj.cells #[.int .i64 x0, .int .i64 x1, .int .i64 x2] 38) = W := ⟨_, rfl⟩
    have ba : Below w2.heap.size w2 W3 := by rw [← hW3]; exact (Below.refl _ _).alloc (Nat.le_refl _) _
    have HB3 : Hid (Bd w W3 g cv zs X (.slice a0 l0 c0) (.slice a1 ls.length c1) (.slice a2 cs.length c2) ts ls cs ∧ ts.length ≤ 30) := ⟨HB2.out.1.below ba, HB2.out.2⟩
    have HK3 : Hid (Blk W3 P0 (B3 (.slice none 0 0) (.slice none 0 0) (.slice none 0 0)) 27) := HK2.out.below ba HK2.out.lt
    have HY3 : Hid (Blk W3 Y #[.int .i64 x0, .int .i64 x1, .int .i64 x2] 38) := by show Blk _ _ _ _; rw [← hW3, ← hY]; exact Blk.new _ _ _
    have HYX : Hid (X < Y ∧ w.heap.size ≤ Y) := by have h1 := HB2.out.1.k.lt; have h2 := HB2.out.1.x; exact ⟨by omega, by omega⟩
    have HW3 : Hid (w2.alloc (Obj.cells #[.int .i64 x0, .int .i64 x1, .int .i64 x2] 38) = W3 ∧ w2.heap.size = Y) := ⟨hW3, hY⟩
    clear ba hY hW3 HB2 HK2
    go_upto_region 6 with fail
    rw [HW3.out.1, HW3.out.2]
    clear HW3
    have y0 := HB3.out.1.k.cell 0
    have y1 := HB3.out.1.k.cell 1
    have y2 := HB3.out.1.k.cell 2
    have t0 := HY3.out.cell 0
    have t1 := HY3.out.cell 1
    have t2 := HY3.out.cell 2
    simp at y0 y1 y2 t0 t1 t2
    go_wp2_with (fail)
    refine (addM_c _ _ _ ts ls cs x0 x1 x2 W3 HB3.out.1.o.rd (by have := HB3.out.1.n; omega) (by have := HB3.out.1.n; omega) (by have := HB3.out.1.n; omega)).mono ?_
    rintro e w4 ⟨ua, ul, uc, rfl, ou, b⟩
    obtain ⟨p0, m0, k0, rfl⟩ : ∃ a L c, ua = .slice a L c := by obtain ⟨a, c, e⟩ := ou.1.form; exact ⟨a, _, c, e⟩
    obtain ⟨p1, m1, k1, rfl⟩ : ∃ a L c, ul = .slice a L c := by obtain ⟨a, c, e⟩ := ou.2.1.form; exact ⟨a, _, c, e⟩
    obtain ⟨p2, m2, k2, rfl⟩ : ∃ a L c, uc = .slice a L c := by obtain ⟨a, c, e⟩ := ou.2.2.1.form; exact ⟨a, _, c, e⟩
    obtain ⟨V, hV⟩ : ∃ X, w4.heap.size = X := ⟨_, rfl⟩
    obtain ⟨W5, hW5⟩ : ∃ W, w4.alloc (Obj.cells (B3 (.slice p0 m0 k0) (.slice p1 m1 k1) (.slice p2 m2 k2)) 27) = W := ⟨_, rfl⟩
    have ba : Below w4.heap.size w4 W5 := by rw [← hW5]; exact (Below.refl _ _).alloc (Nat.le_refl _) _
    have HB5 : Hid (Bd w W5 g cv zs X (.slice a0 l0 c0) (.slice a1 ls.length c1) (.slice a2 cs.length c2) ts ls cs ∧ ts.length ≤ 30) := ⟨(HB3.out.1.below b).below ba, HB3.out.2⟩
    have HK5 : Hid (Blk W5 P0 (B3 (.slice none 0 0) (.slice none 0 0) (.slice none 0 0)) 27) := (HK3.out.below b HK3.out.lt).below ba (HK3.out.below b HK3.out.lt).lt
    have HY5 : Hid (Blk W5 Y #[.int .i64 x0, .int .i64 x1, .int .i64 x2] 38) := (HY3.out.below b HY3.out.lt).below ba (HY3.out.below b HY3.out.lt).lt
    have HV5 : Hid (Blk W5 V (B3 (.slice p0 m0 k0) (.slice p1 m1 k1) (.slice p2 m2 k2)) 27) := by show Blk _ _ _ _; rw [← hW5, ← hV]; exact Blk.new _ _ _
    have HO5 : Hid (Obk w.heap.size W5 (.slice p0 m0 k0) (.slice p1 m1 k1) (.slice p2 m2 k2) (adT ts ls cs (x0, x1, x2)) (adL ts ls cs (x0, x1, x2)) (adC ts ls cs (x0, x1, x2))) := (ou.below ba).mono HB3.out.1.dc.gr.size
    have HW5 : Hid (w4.alloc (Obj.cells (B3 (.slice p0 m0 k0) (.slice p1 m1 k1) (.slice p2 m2 k2)) 27) = W5 ∧ w4.heap.size = V) := ⟨hW5, hV⟩
    clear ba hV hW5 HB3 HK3 HY3 ou b y0 y1 y2 t0 t1 t2
    obtain ⟨j', rfl⟩ : ∃ j', j = j' + 1 := ⟨j - 1, by omega⟩
    go_upto_region 7 with fail
    rw [HW5.out.1, HW5.out.2]
    clear HW5
    cases hq : adB ts ls cs (x0, x1, x2) with
    | true =>
      have had := added hq
      have hlt : ts.length < 30 := by
        unfold adB at hq
        simp only [Bool.and_eq_true, decide_eq_true_eq] at hq
        exact hq.2.1
      have hc3 : (adC ts ls cs (x0, x1, x2)).length = cs.length := by rw [(ad_yes hq).2.2, wr18_len]
      have HN : Hid (Bd w (W5.setRow X (B3 (.slice p0 m0 k0) (.slice p1 m1 k1) (.slice p2 m2 k2))) g cv zs X (.slice p0 m0 k0) (.slice p1 m1 k1) (.slice p2 m2 k2) (adT ts ls cs (x0, x1, x2)) (adL ts ls cs (x0, x1, x2)) (adC ts ls cs (x0, x1, x2)) ∧ (adT ts ls cs (x0, x1, x2)).length ≤ 30) := by
        have hn := HB5.out.1.n
        have h1 : (adT ts ls cs (x0, x1, x2)).length = ts.length + 1 := by rw [had.1]; simp
        refine ⟨HB5.out.1.row HO5.out (Nat.le_refl _) ⟨by omega, ?_, by omega⟩, by omega⟩
        rw [had.2.2.2.1]; omega
      have HKN : Hid (Blk (W5.setRow X (B3 (.slice p0 m0 k0) (.slice p1 m1 k1) (.slice p2 m2 k2))) P0 (B3 (.slice none 0 0) (.slice none 0 0) (.slice none 0 0)) 27) := HK5.out.rowOther _ _ (by have := HX.out; omega)
      have z0 := HV5.out.cell 0
      have z1 := HV5.out.cell 1
      have z2 := HV5.out.cell 2
      simp at z0 z1 z2
      clear had hlt hc3 hq
      go_wp2_with (refine wpList_store_row rfl 27 _ _ rfl X (B3 (.slice p0 m0 k0) (.slice p1 m1 k1) (.slice p2 m2 k2)) rfl rfl 27 (B3 (.slice a0 l0 c0) (.slice a1 ls.length c1) (.slice a2 cs.length c2)) HB5.out.1.k (by kernel_rfl) rfl (by simp [Value.oneCell']) ?_)
      go_roundw
      case rel => exact ⟨j', _, _, _, _, _, _, by go_num, by omega, HN, HKN⟩
      case measure => first | (simp [intOf]; done) | (simp [intOf]; omega)
    | false =>
      clear hq HO5 HV5
      have y0 := HB5.out.1.k.cell 0
      have y1 := HB5.out.1.k.cell 1
      have y2 := HB5.out.1.k.cell 2
      simp at y0 y1 y2
      go_wp2_with (fail)
      refine (once_c g cv zs 6 W5 HB5.out.1.dc.dr (by omega)).mono ?_
      rintro e w6 ⟨q, rfl, d2, g2⟩
      have HB6 : Hid (Bd w w6 g cv zs X (.slice a0 l0 c0) (.slice a1 ls.length c1) (.slice a2 cs.length c2) ts ls cs ∧ ts.length ≤ 30) := ⟨HB5.out.1.draw d2 g2, HB5.out.2⟩
      have HK6 : Hid (Blk w6 P0 (B3 (.slice none 0 0) (.slice none 0 0) (.slice none 0 0)) 27) := HK5.out.grown g2 (fun e => by have := Option.some.inj e; have := HG.out.1; omega)
      have HY6 : Hid (Blk w6 Y #[.int .i64 x0, .int .i64 x1, .int .i64 x2] 38) := HY5.out.grown g2 (fun e => by have := Option.some.inj e; have := HYX.out.2; have := HG.out; omega)
      clear d2 g2 HB5 HK5 HY5 y0 y1 y2
      have y0 := HB6.out.1.k.cell 0
      have y1 := HB6.out.1.k.cell 1
      have y2 := HB6.out.1.k.cell 2
      simp at y0 y1 y2
      obtain ⟨f0, hf0⟩ : ∃ f, HB6.out.1.o.1.form = f := ⟨_, rfl⟩
      have hl0 : l0 = ts.length := by obtain ⟨a, c, e⟩ := HB6.out.1.o.1.form; cases e; rfl
      clear hf0 f0
      subst hl0
      cases q with
      | false =>
        go_wp2
        go_roundw
        case rel => exact ⟨j', _, _, _, _, _, _, by go_num, by omega, HB6, HK6⟩
        case measure => first | (simp [intOf]; done) | (simp [intOf]; omega)
      | true =>
      by_cases h30 : (ts.length : Int) < 30
      case neg =>
        go_wp2
        go_roundw
        case rel => exact ⟨j', _, _, _, _, _, _, by go_num, by omega, HB6, HK6⟩
        case measure => first | (simp [intOf]; done) | (simp [intOf]; omega)
      case pos =>
      have t0 := HY6.out.cell 0
      have t1 := HY6.out.cell 1
      have t2 := HY6.out.cell 2
      simp at t0 t1 t2
      obtain ⟨U, hU⟩ : ∃ X, w6.heap.size = X := ⟨_, rfl⟩
      obtain ⟨W7, hW7⟩ : ∃ W, w6.alloc (Obj.cells #[.int .i64 x0, .int .i64 x1, .int .i64 x2] 38) = W := ⟨_, rfl⟩
      have ba : Below w6.heap.size w6 W7 := by rw [← hW7]; exact (Below.refl _ _).alloc (Nat.le_refl _) _
      have HB7 : Hid (Bd w W7 g cv zs X (.slice a0 ts.length c0) (.slice a1 ls.length c1) (.slice a2 cs.length c2) ts ls cs ∧ ts.length ≤ 29) := ⟨HB6.out.1.below ba, by omega⟩
      have HK7 : Hid (Blk W7 P0 (B3 (.slice none 0 0) (.slice none 0 0) (.slice none 0 0)) 27) := HK6.out.below ba HK6.out.lt
      have HC7 : Hid (Blk W7 U #[.int .i64 x0, .int .i64 x1, .int .i64 x2] 38) := by show Blk _ _ _ _; rw [← hW7, ← hU]; exact Blk.new _ _ _
      have HW7 : Hid (w6.alloc (Obj.cells #[.int .i64 x0, .int .i64 x1, .int .i64 x2] 38) = W7 ∧ w6.heap.size = U) := ⟨hW7, hU⟩
      clear ba hU hW7 HB6 HK6 HY6
      have hts := HB7.out.2
      go_wp2_with (at_builtin; (try rw [HW7.out.1]); (try rw [HW7.out.2]); refine appT rfl _ _ rfl w.heap.size _ ts rfl HB7.out.1.o.1 U (x0, x1, x2) rfl HC7.out (by omega) HB7.out.1.dc.gr.size ?_)
      intro V7 w7 o7 g7 p7
      obtain ⟨a7, L7, c7, rfl⟩ : ∃ a L c, V7 = .slice a L c := by obtain ⟨a, c, e⟩ := o7.form; exact ⟨a, _, c, e⟩
      have HP7 : Hid (Bd w (w7.setCell ⟨X, 0, none⟩ (.slice a7 L7 c7)) g cv zs X (.slice a7 L7 c7) (.slice a1 ls.length c1) (.slice a2 cs.length c2) (ts ++ [(x0, x1, x2)]) ls cs ∧ (ts ++ [(x0, x1, x2)]).length ≤ 30) := ⟨HB7.out.1.push o7 g7 (by omega), by simp; omega⟩
      have hk7 := HB7.out.1.k.grown g7 (row_blk HB7.out.1.o.1 HB7.out.1.k (by decide))
      have HKP : Hid (Blk (w7.setCell ⟨X, 0, none⟩ (.slice a7 L7 c7)) P0 (B3 (.slice none 0 0) (.slice none 0 0) (.slice none 0 0)) 27) := (HK7.out.grown g7 (row_blk HB7.out.1.o.1 HK7.out (by decide))).other _ _ (by have := HX.out; dsimp only; omega)
      have y0 := hk7.cell 0
      have f0 := hk7.frozen 0
      simp at y0
      clear o7 g7 p7 hk7 HB7 HK7 HC7
      go_wp2
      go_roundw
      case rel => exact ⟨j', _, _, _, _, _, _, by go_num, by omega, HP7, HKP⟩
      case measure => first | (simp [intOf]; done) | (simp [intOf]; omega)

end Go.Proofs.YtmfmlbiplagmiaaDoor
namespace Go.Proofs.YtmfmlbiplagmiaaDoor
open Go.RowKit Go.ChangeShapes Go.WideShapes Go.ChangeAt
set_option linter.unusedVariables false
set_option linter.unusedSimpArgs false
set_option maxRecDepth 8000

/-- a book that is being drawn, and the box P of what is answered -/
structure BdK (w W : World) (g : Nat) (cv : Value) (zs : List Int) (X P : Nat) (va vl vc : Value) (ts : List Tk) (ls cs : List Int) : Prop where
  b : Bd w W g cv zs X va vl vc ts ls cs
  k : Blk W P (B3 (.slice none 0 0) (.slice none 0 0) (.slice none 0 0)) 27
  p : w.heap.size = P
  x : P < X
section
variable {w W W' : World} {g : Nat} {cv : Value} {zs : List Int} {X P : Nat} {va vl vc : Value} {ts : List Tk} {ls cs : List Int}
theorem BdK.below (h : BdK w W g cv zs X P va vl vc ts ls cs) (hb : Below W.heap.size W W') : BdK w W' g cv zs X P va vl vc ts ls cs := ⟨h.b.below hb, h.k.below hb h.k.lt, h.p, h.x⟩
theorem BdK.draw (h : BdK w W g cv zs X P va vl vc ts ls cs) (hd : Dr W' g cv zs) (hg : W.grownBy W' (some g)) : BdK w W' g cv zs X P va vl vc ts ls cs :=
  ⟨h.b.draw hd hg, h.k.grown hg (fun e => by have := Option.some.inj e; have := h.b.dc.lt; have := h.p; omega), h.p, h.x⟩
theorem BdK.push {w7 : World} {V7 : Value} {t : Tk} (h : BdK w W g cv zs X P va vl vc ts ls cs) (o7 : Og 3 tkC 38 w.heap.size w7 V7 (ts ++ [t])) (g7 : W.grownBy w7 va.ownBlock) (hn : ts.length ≤ 39) : BdK w (w7.setCell ⟨X, 0, none⟩ V7) g cv zs X P V7 vl vc (ts ++ [t]) ls cs :=
  ⟨h.b.push o7 g7 hn, (h.k.grown g7 (row_blk h.b.o.1 h.k (by decide))).other _ _ (by have := h.x; dsimp only; omega), h.p, h.x⟩
theorem BdK.line {gl cap x : Nat} {z : Int} (h : BdK w W g cv zs X P va (.slice (some ⟨gl, 0, none⟩) ls.length cap) vc ts ls cs) : BdK w (W.setCell ⟨gl, x, none⟩ (.int .i64 z)) g cv zs X P va (.slice (some ⟨gl, 0, none⟩) ls.length cap) vc ts (ls.set x z) cs :=
  ⟨h.b.line, h.k.other _ _ (fun e => row_blk h.b.o.2.1 h.k (by decide) (by rw [e]; rfl)), h.p, h.x⟩
theorem fin_of (dc : Dc w W g cv zs) (o : Obk w.heap.size W va vl vc ts ls cs) (k : Blk W P (B3 (.slice none 0 0) (.slice none 0 0) (.slice none 0 0)) 27) (p : w.heap.size = P) (n : ts.length ≤ 40 ∧ (1 ≤ ls.length ∧ ls.length ≤ 40) ∧ cs.length ≤ 40) :
    Blk (W.setRow P (B3 va vl vc)) P (B3 va vl vc) 27 ∧ LdR 40 40 g cv zs w (.returned (.agg (B3 va vl vc))) (W.setRow P (B3 va vl vc)) := by
  refine ⟨k.row _, _, _, _, ts, ls, cs, rfl, ?_, dc.app (row := some P) (fun k e => by have := Option.some.inj e; omega) (grown_row _ _ _), n⟩
  exact o.fr (X := fun k => k = P) (Fr.ofGrown (grown_row _ _ _) (fun k e => (Option.some.inj e).symm)) (fun j hk e => by
    subst e
    rcases hk with hk | hk | hk
    · exact row_blk o.1 k (by decide) hk
    · exact row_blk o.2.1 k (by decide) hk
    · exact row_blk o.2.2.1 k (by decide) hk)
theorem BdK.fin (h : BdK w W g cv zs X P va vl vc ts ls cs) : Blk (W.setRow P (B3 va vl vc)) P (B3 va vl vc) 27 ∧ LdR 40 40 g cv zs w (.returned (.agg (B3 va vl vc))) (W.setRow P (B3 va vl vc)) :=
  fin_of h.b.dc h.b.o h.k h.p (by have := h.b.n; omega)
/-- circuits more -/
theorem BdK.circs {w7 : World} {V7 : Value} {cs' : List Int} (h : BdK w W g cv zs X P va vl vc ts ls cs) (o7 : Ow .i64 3 w.heap.size w7 V7 cs') (g7 : W.grownBy w7 vc.ownBlock) (hV : ∀ k, V7.ownBlock = some k → vc.ownBlock = some k ∨ W.heap.size ≤ k) (hn : cs'.length ≤ 40) :
    Blk (w7.setCell ⟨X, 2, none⟩ V7) X (B3 va vl V7) 27 ∧ Dc w (w7.setCell ⟨X, 2, none⟩ V7) g cv zs ∧ Obk w.heap.size (w7.setCell ⟨X, 2, none⟩ V7) va vl V7 ts ls cs' ∧ Blk (w7.setCell ⟨X, 2, none⟩ V7) P (B3 (.slice none 0 0) (.slice none 0 0) (.slice none 0 0)) 27 := by
  have k7 := h.b.k.grown g7 (row_blk h.b.o.2.2.1 h.b.k (by decide))
  have gs : w7.grownBy (w7.setCell ⟨X, 2, none⟩ V7) (some X) := dgrown_set _ _ _ _
  have ot : Og 3 tkC 38 w.heap.size w7 va ts := World.ownsRow.kept h.b.o.1 g7 (own_tag h.b.o.1 h.b.o.2.2.1 (by decide))
  have ol : Ow .i64 3 w.heap.size w7 vl ls := World.ownsRow.kept h.b.o.2.1 g7 (by
    cases hv : vl.ownBlock with
    | none => exact .inl rfl
    | some k => exact .inr fun e => h.b.o.2.2.2.2.2 k hv e.symm)
  refine ⟨?_, (h.b.dc.app (fun k e => (World.ownsRow.lt h.b.o.2.2.1 k e).1) g7).app (row := some X) (fun k e => by have := Option.some.inj e; have := h.b.x; omega) gs, ⟨World.ownsRow.kept ot gs (.inr (row_blk ot k7 (by decide))), World.ownsRow.kept ol gs (.inr (row_blk ol k7 (by decide))), World.ownsRow.kept o7 gs (.inr (row_blk o7 k7 (by decide))), h.b.o.2.2.2.1, apart_tag ot o7 (by decide), fun k e e' => ?_⟩, (h.k.grown g7 (row_blk h.b.o.2.2.1 h.k (by decide))).other _ _ (by have := h.x; dsimp only; omega)⟩
  · have := k7.set 2 V7
    simpa using this
  · rcases hV k e' with h1 | h1
    · exact h.b.o.2.2.2.2.2 k e h1
    · have := (World.ownsRow.lt h.b.o.2.1 k e).2; omega
end
def boxLen (w : World) (X : Nat) : Nat := match w.cell? ⟨X, 0, none⟩ with | some (.slice _ n _) => n | _ => 0
theorem boxLen_of {w : World} {X : Nat} {a : Option Addr} {n c : Nat} (h : w.cell? ⟨X, 0, none⟩ = some (.slice a n c)) : boxLen w X = n := by unfold boxLen; rw [h]

set_option maxHeartbeats 25600000 in
theorem drawAny18_c (g : Nat) (cv : Value) (zs : List Int) (w : World) (h : Dr w g cv zs) : Calls Tryd.prog 28 #[.pointer (some ⟨g, 0, none⟩), cv] w (LdR 40 40 g cv zs w) := by
  obtain ⟨P0, hP0⟩ : ∃ P, w.heap.size = P := ⟨_, rfl⟩
  obtain ⟨W0, hW0⟩ : ∃ W, w.alloc (Obj.cells (B3 (.slice none 0 0) (.slice none 0 0) (.slice none 0 0)) 27) = W := ⟨_, rfl⟩
  have hb0 : Below w.heap.size w W0 := by rw [← hW0]; exact (Below.refl _ _).alloc (Nat.le_refl _) _
  have HD0 : Hid (Dc w W0 g cv zs) := (Dc.start h).below hb0
  have HK0 : Hid (Blk W0 P0 (B3 (.slice none 0 0) (.slice none 0 0) (.slice none 0 0)) 27) := by show Blk _ _ _ _; rw [← hW0, ← hP0]; exact Blk.new _ _ _
  have HP : Hid (w.heap.size = P0 ∧ w.heap.size ≤ W0.heap.size ∧ g < P0) := ⟨hP0, hb0.size, by have := h.lt; omega⟩
  have HW0 : Hid (w.alloc (Obj.cells (B3 (.slice none 0 0) (.slice none 0 0) (.slice none 0 0)) 27) = W0 ∧ w.heap.size = P0) := ⟨hW0, hP0⟩
  clear hb0 hW0 hP0 h
  go_enter Tryd.func28, Tryd.ntmps28
  go_upto_region 1 with fail
  rw [HW0.out.1, HW0.out.2]
  clear HW0
  go_wp2_with (fail)
  refine (draw18_c g cv zs W0 HD0.out.dr).mono ?_
  rintro e w2 ⟨va, vl, vc, ts, ls, cs, rfl, o2, d2, n2⟩
  obtain ⟨a0, c0, rfl⟩ := o2.1.form
  obtain ⟨a1, c1, rfl⟩ := o2.2.1.form
  obtain ⟨a2, c2, rfl⟩ := o2.2.2.1.form
  obtain ⟨X, hX⟩ : ∃ X, w2.heap.size = X := ⟨_, rfl⟩
  obtain ⟨W3, hW3⟩ : ∃ W, w2.alloc (Obj.cells (B3 (.slice a0 ts.length c0) (.slice a1 ls.length c1) (.slice a2 cs.length c2)) 27) = W := ⟨_, rfl⟩
  have ba : Below w2.heap.size w2 W3 := by rw [← hW3]; exact (Below.refl _ _).alloc (Nat.le_refl _) _
  have hk2 : Blk w2 P0 (B3 (.slice none 0 0) (.slice none 0 0) (.slice none 0 0)) 27 := HK0.out.grown d2.gr (fun e => by have := Option.some.inj e; have := HP.out; omega)
  have HB3a : Hid (BdK w W3 g cv zs X P0 (.slice a0 ts.length c0) (.slice a1 ls.length c1) (.slice a2 cs.length c2) ts ls cs) := by
    have h1 := d2.gr.size
    have h2 := HP.out
    refine ⟨⟨(HD0.out.draw d2.dr d2.gr).below ba, by rw [← hW3, ← hX]; exact Blk.new _ _ _, (o2.mono h2.2.1).below ba, by omega, by have := n2; omega⟩, hk2.below ba hk2.lt, h2.1, by have := hk2.lt; omega⟩
  have HW3 : Hid (w2.alloc (Obj.cells (B3 (.slice a0 ts.length c0) (.slice a1 ls.length c1) (.slice a2 cs.length c2)) 27) = W3 ∧ w2.heap.size = X) := ⟨hW3, hX⟩
  have HT30 : Hid (ts.length ≤ 30) := n2.1
  clear ba hk2 hX hW3 o2 d2 n2 HD0 HK0
  go_upto_region 2 with fail
  rw [HW3.out.1, HW3.out.2]
  clear HW3
  go_wp2_with (fail)
  refine (below_c g cv zs _ _ HB3a.out.b.dc.dr (by omega)).mono ?_
  rintro e w3 ⟨x, rfl, xa, -, -, d2, g2⟩
  have HB3 : Hid (BdK w w3 g cv zs X P0 (.slice a0 ts.length c0) (.slice a1 ls.length c1) (.slice a2 cs.length c2) ts ls cs) := HB3a.out.draw d2 g2
  obtain ⟨xn, rfl⟩ := Int.eq_ofNat_of_zero_le xa
  clear d2 g2 HB3a xa
  rcases (show xn = 0 ∨ xn = 1 ∨ xn = 2 ∨ xn = 3 ∨ 4 ≤ xn by omega) with rfl | rfl | rfl | rfl | h4
  · obtain ⟨gl, cap, hfm, hge, hgl⟩ := World.ownsRow.form HB3.out.b.o.2.1 (by have := HB3.out.b.n; omega)
    simp only [Value.slice.injEq] at hfm
    obtain ⟨rfl, -, rfl⟩ := hfm
    obtain ⟨S, hS⟩ : ∃ S : World → Prop, ∀ W, S W ↔ Blk W X (B3 (.slice a0 ts.length c0) (.slice (some ⟨gl, 0, none⟩) ls.length c1) (.slice a2 cs.length c2)) 27 := ⟨_, fun _ => Iff.rfl⟩
    have x0 : ∀ W : At S, W.wd.cell? ⟨X, 0, none⟩ = some (.slice a0 ts.length c0) := fun W => by have := ((hS _).1 W.ok).cell 0; simpa using this
    have x1 : ∀ W : At S, W.wd.cell? ⟨X, 1, none⟩ = some (.slice (some ⟨gl, 0, none⟩) ls.length c1) := fun W => by have := ((hS _).1 W.ok).cell 1; simpa using this
    have x2 : ∀ W : At S, W.wd.cell? ⟨X, 2, none⟩ = some (.slice a2 cs.length c2) := fun W => by have := ((hS _).1 W.ok).cell 2; simpa using this
    have HSS : Hid (∀ W, S W ↔ Blk W X (B3 (.slice a0 ts.length c0) (.slice (some ⟨gl, 0, none⟩) ls.length c1) (.slice a2 cs.length c2)) 27) := hS
    have ne : Nonempty (At S) := ⟨⟨w3, (hS _).2 HB3.out.b.k⟩⟩
    have HB3d : Hid (BdK w w3.drew g cv zs X P0 (.slice a0 ts.length c0) (.slice (some ⟨gl, 0, none⟩) ls.length c1) (.slice a2 cs.length c2) ts ls cs) := HB3.out.below (Below.refl _ _).drew
    clear hS
    go_upto_region 4 with fail
    refine region_mixT [true, true, true, false, false, false, false] 5 2 S (by kernel_rfl) rfl (by kernel_rfl) (fun _ _ _ _ _ h => h) ((HSS.out _).2 HB3d.out.b.k) ?_
    simp only [selT, selF]
    try simp only [Act.put]
    repeat (go_big_quiet_step (fail))
    refine wpQuiet_nil ?_
    clear x0 x1 x2 ne
    refine tail_step ?_
    obtain ⟨wd, hwd⟩ : ∃ W, w3.drew = W := ⟨_, rfl⟩
    rw [hwd] at HB3d ⊢
    obtain ⟨U, hU⟩ : ∃ U, wd.heap.size = U := ⟨_, rfl⟩
    obtain ⟨W4, hW4⟩ : ∃ W, wd.alloc (Obj.cells #[.int .i64 (-2), .int .i64 30, .int .i64 31] 3) = W := ⟨_, rfl⟩
    have ba : Below wd.heap.size wd W4 := by rw [← hW4]; exact (Below.refl _ _).alloc (Nat.le_refl _) _
    have HB4 : Hid (BdK w W4 g cv zs X P0 (.slice a0 ts.length c0) (.slice (some ⟨gl, 0, none⟩) ls.length c1) (.slice a2 cs.length c2) ts ls cs) := HB3d.out.below ba
    have HR4 : Hid (Rd .i64 W4 (.slice (some ⟨U, 0, none⟩) 3 3) [-2, 30, 31]) := by show Rd _ _ _ _; rw [← hW4, ← hU]; exact Rd.lit wd [-2, 30, 31] (by decide)
    have HU : Hid (g < U) := by show g < U; rw [← hU]; exact HB3d.out.b.dc.dr.lt
    have HW4 : Hid (wd.alloc (Obj.cells #[.int .i64 (-2), .int .i64 30, .int .i64 31] 3) = W4 ∧ wd.heap.size = U) := ⟨hW4, hU⟩
    clear ba hW4 hU hwd HB3 HB3d
    go_wp2
    rw [HW4.out.1, HW4.out.2]
    refine ⟨(HSS.out _).2 HB4.out.b.k, tail_step ?_⟩
    go_wp2_with (fail)
    refine (pickInt_c g cv zs _ [-2, 30, 31] W4 HB4.out.b.dc.dr HR4.out (.inr (by have := HU.out; simp [Value.ownBlock]; omega)) (by decide) (by decide)).mono ?_
    rintro e w5 ⟨z, rfl, -, d2, g2⟩
    have HB5 : Hid (BdK w w5 g cv zs X P0 (.slice a0 ts.length c0) (.slice (some ⟨gl, 0, none⟩) ls.length c1) (.slice a2 cs.length c2) ts ls cs) := HB4.out.draw d2 g2
    have HS5 : Hid (S w5) := (HSS.out _).2 HB5.out.b.k
    clear d2 g2 HB4 HR4 HU HW4
    go_wp2
    refine ⟨HS5.out, tail_end ?_⟩
    have hpos : 0 < ls.length := by have := HB5.out.b.n; omega
    have hposI : (0 : Int) < (ls.length : Int) := by omega
    obtain ⟨old, hold⟩ : ∃ u, w5.cell? ⟨gl, 0, none⟩ = some u := by
      rw [World.ownsRow.cellAt HB5.out.b.o.2.1 0 (by omega), List.getElem?_map, List.getElem?_eq_getElem hpos]
      exact ⟨_, rfl⟩
    have hfz := World.ownsRow.frozenAt HB5.out.b.o.2.1 0
    obtain ⟨W6, hW6⟩ : ∃ W, w5.setCell ⟨gl, 0, none⟩ (.int .i64 z) = W := ⟨_, rfl⟩
    have HB6 : Hid (BdK w W6 g cv zs X P0 (.slice a0 ts.length c0) (.slice (some ⟨gl, 0, none⟩) ls.length c1) (.slice a2 cs.length c2) ts (ls.set 0 z) cs) := by show BdK _ _ _ _ _ _ _ _ _ _ _ _ _; rw [← hW6]; exact HB5.out.line
    have HW6 : Hid (w5.setCell ⟨gl, 0, none⟩ (.int .i64 z) = W6) := hW6
    clear HB5 HS5 HSS hW6
    go_upto_region 12 with fail
    rw [HW6.out]
    clear HW6
    have y0 := HB6.out.b.k.cell 0
    have y1 := HB6.out.b.k.cell 1
    have y2 := HB6.out.b.k.cell 2
    simp at y0 y1 y2
    have hfin := HB6.out.fin
    go_wp2_with (refine wpList_store_row rfl 27 _ _ rfl P0 (B3 (.slice a0 ts.length c0) (.slice (some ⟨gl, 0, none⟩) ls.length c1) (.slice a2 cs.length c2)) rfl rfl 27 (B3 (.slice none 0 0) (.slice none 0 0) (.slice none 0 0)) HB6.out.k (by kernel_rfl) rfl (by simp [Value.oneCell']) ?_)
    exact bodyPost_ret (v := .agg (B3 (.slice a0 ts.length c0) (.slice (some ⟨gl, 0, none⟩) ls.length c1) (.slice a2 cs.length c2))) (results_cell_row rfl _ _ _ 27 _ (0, 0) _ rfl hfin.1 Tryd.underlying27 rfl sizeBk) rfl hfin.2
  · obtain ⟨S, hS⟩ : ∃ S : World → Prop, ∀ W, S W ↔ Blk W X (B3 (.slice a0 ts.length c0) (.slice a1 ls.length c1) (.slice a2 cs.length c2)) 27 := ⟨_, fun _ => Iff.rfl⟩
    have x0 : ∀ W : At S, W.wd.cell? ⟨X, 0, none⟩ = some (.slice a0 ts.length c0) := fun W => by have := ((hS _).1 W.ok).cell 0; simpa using this
    have x1 : ∀ W : At S, W.wd.cell? ⟨X, 1, none⟩ = some (.slice a1 ls.length c1) := fun W => by have := ((hS _).1 W.ok).cell 1; simpa using this
    have x2 : ∀ W : At S, W.wd.cell? ⟨X, 2, none⟩ = some (.slice a2 cs.length c2) := fun W => by have := ((hS _).1 W.ok).cell 2; simpa using this
    have HSS : Hid (∀ W, S W ↔ Blk W X (B3 (.slice a0 ts.length c0) (.slice a1 ls.length c1) (.slice a2 cs.length c2)) 27) := hS
    have ne : Nonempty (At S) := ⟨⟨w3, (hS _).2 HB3.out.b.k⟩⟩
    have HB3d : Hid (BdK w w3.drew g cv zs X P0 (.slice a0 ts.length c0) (.slice a1 ls.length c1) (.slice a2 cs.length c2) ts ls cs) := HB3.out.below (Below.refl _ _).drew
    clear hS
    go_upto_region 6 with fail
    refine region_anyZ S 13 (by kernel_rfl) ?_
    refine anyZ_quiet [true, true, true, false, false, true, false, true, false, false, false, false, false, false, false] 10 rfl (by kernel_rfl) (fun _ _ _ _ _ h => h) ((HSS.out _).2 HB3d.out.b.k) ?_
    simp only [selT]
    repeat (go_big_quiet_step (fail))
    refine wpQuiet_nil ?_
    clear x0 x1 x2 ne
    obtain ⟨wd, hwd⟩ : ∃ W, w3.drew = W := ⟨_, rfl⟩
    rw [hwd] at HB3d ⊢
    clear hwd HB3
    refine anyZ_one 3 (by kernel_rfl) rfl ?_
    go_wp2_with (fail)
    refine (below_c g cv zs _ _ HB3d.out.b.dc.dr (by omega)).mono ?_
    rintro e w4 ⟨z3, rfl, -, -, -, d2, g2⟩
    have HB4 : Hid (BdK w w4 g cv zs X P0 (.slice a0 ts.length c0) (.slice a1 ls.length c1) (.slice a2 cs.length c2) ts ls cs) := HB3d.out.draw d2 g2
    clear d2 g2 HB3d
    go_wp2
    refine ⟨by first | exact (HSS.out _).2 HB4.out.b.k | exact fun _ => (HSS.out _).2 HB4.out.b.k, ?_⟩
    refine anyZ_two 4 6 (by kernel_rfl) rfl rfl ?_ ?_
    · go_wp2
      refine ⟨by first | exact (HSS.out _).2 HB4.out.b.k | exact fun _ => (HSS.out _).2 HB4.out.b.k, ?_⟩
      refine anyZ_one 6 (by kernel_rfl) rfl ?_
      go_wp2_with (fail)
      refine (below_c g cv zs _ _ HB4.out.b.dc.dr (by omega)).mono ?_
      rintro e w5 ⟨z6, rfl, -, -, -, d2, g2⟩
      have HB5 : Hid (BdK w w5 g cv zs X P0 (.slice a0 ts.length c0) (.slice a1 ls.length c1) (.slice a2 cs.length c2) ts ls cs) := HB4.out.draw d2 g2
      clear d2 g2 HB4
      go_wp2
      refine ⟨by first | exact (HSS.out _).2 HB5.out.b.k | exact fun _ => (HSS.out _).2 HB5.out.b.k, ?_⟩
      refine anyZ_one 8 (by kernel_rfl) rfl ?_
      go_wp2_with (fail)
      refine (below_c g cv zs _ _ HB5.out.b.dc.dr (by omega)).mono ?_
      rintro e w6 ⟨z8, rfl, -, -, -, d2, g2⟩
      have HB6 : Hid (BdK w w6 g cv zs X P0 (.slice a0 ts.length c0) (.slice a1 ls.length c1) (.slice a2 cs.length c2) ts ls cs) := HB5.out.draw d2 g2
      clear d2 g2 HB5
      go_wp2
      refine ⟨by first | exact (HSS.out _).2 HB6.out.b.k | exact fun _ => (HSS.out _).2 HB6.out.b.k, ?_⟩
      refine anyZ_one 9 (by kernel_rfl) rfl ?_
      go_wp2
      refine ⟨by first | exact (HSS.out _).2 HB6.out.b.k | exact fun _ => (HSS.out _).2 HB6.out.b.k, ?_⟩
      refine anyZ_one 10 (by kernel_rfl) rfl ?_
      go_wp2
      refine ⟨by first | exact (HSS.out _).2 HB6.out.b.k | exact fun _ => (HSS.out _).2 HB6.out.b.k, ?_⟩
      refine anyZ_one 11 (by kernel_rfl) rfl ?_
      obtain ⟨t0, ht0⟩ : ∃ t, wrap64 (z3 - 1) = t := ⟨_, rfl⟩
      obtain ⟨t2, ht2⟩ : ∃ t, wrap64 (z8 - 2) = t := ⟨_, rfl⟩
      rw [ht0, ht2]
      clear ht0 ht2
      obtain ⟨U, hU⟩ : ∃ U, w6.heap.size = U := ⟨_, rfl⟩
      obtain ⟨W7, hW7⟩ : ∃ W, w6.alloc (Obj.cells #[.int .i64 t0, .int .i64 z6, .int .i64 t2] 38) = W := ⟨_, rfl⟩
      have ba : Below w6.heap.size w6 W7 := by rw [← hW7]; exact (Below.refl _ _).alloc (Nat.le_refl _) _
      have HB7 : Hid (BdK w W7 g cv zs X P0 (.slice a0 ts.length c0) (.slice a1 ls.length c1) (.slice a2 cs.length c2) ts ls cs) := HB6.out.below ba
      have HC7 : Hid (Blk W7 U #[.int .i64 t0, .int .i64 z6, .int .i64 t2] 38) := by show Blk _ _ _ _; rw [← hW7, ← hU]; exact Blk.new _ _ _
      have HW7 : Hid (w6.alloc (Obj.cells #[.int .i64 t0, .int .i64 z6, .int .i64 t2] 38) = W7 ∧ w6.heap.size = U) := ⟨hW7, hU⟩
      clear ba hW7 hU HB6
      go_wp2
      rw [HW7.out.1, HW7.out.2]
      refine ⟨by first | exact (HSS.out _).2 HB7.out.b.k | exact fun _ => (HSS.out _).2 HB7.out.b.k, ?_⟩
      refine anyZ_one 12 (by kernel_rfl) rfl ?_
      have hts := HB7.out.b.n.1
      refine appT rfl _ _ rfl w.heap.size _ ts rfl HB7.out.b.o.1 U (t0, z6, t2) rfl HC7.out (by omega) HB7.out.b.dc.gr.size ?_
      intro V8 w8 o8 g8 p8
      obtain ⟨a8, L8, c8, rfl⟩ : ∃ a L c, V8 = .slice a L c := by obtain ⟨a, c, e⟩ := o8.form; exact ⟨a, _, c, e⟩
      have hk8 := HB7.out.b.k.grown g8 (row_blk HB7.out.b.o.1 HB7.out.b.k (by decide))
      have HS8 : Hid (S w8) := (HSS.out _).2 hk8
      have HN : Hid (BdK w (w8.setCell ⟨X, 0, none⟩ (.slice a8 L8 c8)) g cv zs X P0 (.slice a8 L8 c8) (.slice a1 ls.length c1) (.slice a2 cs.length c2) (ts ++ [(t0, z6, t2)]) ls cs) := HB7.out.push o8 g8 (by have := HT30.out; omega)
      have y0 := hk8.cell 0
      have f0 := hk8.frozen 0
      simp at y0
      obtain ⟨W9, hW9⟩ : ∃ W, w8.setCell ⟨X, 0, none⟩ (.slice a8 L8 c8) = W := ⟨_, rfl⟩
      rw [hW9] at HN
      have HW9 : Hid (w8.setCell ⟨X, 0, none⟩ (.slice a8 L8 c8) = W9) := hW9
      clear o8 g8 p8 hk8 HB7 HC7 HW7 hW9
      go_wp2
      refine ⟨by first | exact HS8.out | exact fun _ => HS8.out, ?_⟩
      refine anyZ_one 13 (by kernel_rfl) rfl ?_
      go_wp2
      refine anyZ_one 14 (by kernel_rfl) rfl ?_
      go_wp2
      rw [HW9.out]
      refine anyZ_end (by kernel_rfl) ?_
      clear y0 f0 HS8 HSS HW9
      have y0 := HN.out.b.k.cell 0
      have y1 := HN.out.b.k.cell 1
      have y2 := HN.out.b.k.cell 2
      simp at y0 y1 y2
      have hfin := HN.out.fin
      go_wp2_with (refine wpList_store_row rfl 27 _ _ rfl P0 (B3 (.slice a8 L8 c8) (.slice a1 ls.length c1) (.slice a2 cs.length c2)) rfl rfl 27 (B3 (.slice none 0 0) (.slice none 0 0) (.slice none 0 0)) HN.out.k (by kernel_rfl) rfl (by simp [Value.oneCell']) ?_)
      exact bodyPost_ret (v := .agg (B3 (.slice a8 L8 c8) (.slice a1 ls.length c1) (.slice a2 cs.length c2))) (results_cell_row rfl _ _ _ 27 _ (0, 0) _ rfl hfin.1 Tryd.underlying27 rfl sizeBk) rfl hfin.2
    · go_wp2_with (fail)
      refine (below_c g cv zs _ _ HB4.out.b.dc.dr (by omega)).mono ?_
      rintro e w5 ⟨z6, rfl, -, -, -, d2, g2⟩
      have HB5 : Hid (BdK w w5 g cv zs X P0 (.slice a0 ts.length c0) (.slice a1 ls.length c1) (.slice a2 cs.length c2) ts ls cs) := HB4.out.draw d2 g2
      clear d2 g2 HB4
      go_wp2
      refine ⟨by first | exact (HSS.out _).2 HB5.out.b.k | exact fun _ => (HSS.out _).2 HB5.out.b.k, ?_⟩
      refine anyZ_two 4 8 (by kernel_rfl) rfl rfl ?_ ?_
      · go_wp2
        refine ⟨by first | exact (HSS.out _).2 HB5.out.b.k | exact fun _ => (HSS.out _).2 HB5.out.b.k, ?_⟩
        refine anyZ_one 8 (by kernel_rfl) rfl ?_
        go_wp2_with (fail)
        refine (below_c g cv zs _ _ HB5.out.b.dc.dr (by omega)).mono ?_
        rintro e w6 ⟨z8, rfl, -, -, -, d2, g2⟩
        have HB6 : Hid (BdK w w6 g cv zs X P0 (.slice a0 ts.length c0) (.slice a1 ls.length c1) (.slice a2 cs.length c2) ts ls cs) := HB5.out.draw d2 g2
        clear d2 g2 HB5
        go_wp2
        refine ⟨by first | exact (HSS.out _).2 HB6.out.b.k | exact fun _ => (HSS.out _).2 HB6.out.b.k, ?_⟩
        refine anyZ_one 9 (by kernel_rfl) rfl ?_
        go_wp2
        refine ⟨by first | exact (HSS.out _).2 HB6.out.b.k | exact fun _ => (HSS.out _).2 HB6.out.b.k, ?_⟩
        refine anyZ_one 10 (by kernel_rfl) rfl ?_
        go_wp2
        refine ⟨by first | exact (HSS.out _).2 HB6.out.b.k | exact fun _ => (HSS.out _).2 HB6.out.b.k, ?_⟩
        refine anyZ_one 11 (by kernel_rfl) rfl ?_
        obtain ⟨t0, ht0⟩ : ∃ t, wrap64 (z3 - 1) = t := ⟨_, rfl⟩
        obtain ⟨t2, ht2⟩ : ∃ t, wrap64 (z8 - 2) = t := ⟨_, rfl⟩
        rw [ht0, ht2]
        clear ht0 ht2
        obtain ⟨U, hU⟩ : ∃ U, w6.heap.size = U := ⟨_, rfl⟩
        obtain ⟨W7, hW7⟩ : ∃ W, w6.alloc (Obj.cells #[.int .i64 t0, .int .i64 z6, .int .i64 t2] 38) = W := ⟨_, rfl⟩
        have ba : Below w6.heap.size w6 W7 := by rw [← hW7]; exact (Below.refl _ _).alloc (Nat.le_refl _) _
        have HB7 : Hid (BdK w W7 g cv zs X P0 (.slice a0 ts.length c0) (.slice a1 ls.length c1) (.slice a2 cs.length c2) ts ls cs) := HB6.out.below ba
        have HC7 : Hid (Blk W7 U #[.int .i64 t0, .int .i64 z6, .int .i64 t2] 38) := by show Blk _ _ _ _; rw [← hW7, ← hU]; exact Blk.new _ _ _
        have HW7 : Hid (w6.alloc (Obj.cells #[.int .i64 t0, .int .i64 z6, .int .i64 t2] 38) = W7 ∧ w6.heap.size = U) := ⟨hW7, hU⟩
        clear ba hW7 hU HB6
        go_wp2
        rw [HW7.out.1, HW7.out.2]
        refine ⟨by first | exact (HSS.out _).2 HB7.out.b.k | exact fun _ => (HSS.out _).2 HB7.out.b.k, ?_⟩
        refine anyZ_one 12 (by kernel_rfl) rfl ?_
        have hts := HB7.out.b.n.1
        refine appT rfl _ _ rfl w.heap.size _ ts rfl HB7.out.b.o.1 U (t0, z6, t2) rfl HC7.out (by omega) HB7.out.b.dc.gr.size ?_
        intro V8 w8 o8 g8 p8
        obtain ⟨a8, L8, c8, rfl⟩ : ∃ a L c, V8 = .slice a L c := by obtain ⟨a, c, e⟩ := o8.form; exact ⟨a, _, c, e⟩
        have hk8 := HB7.out.b.k.grown g8 (row_blk HB7.out.b.o.1 HB7.out.b.k (by decide))
        have HS8 : Hid (S w8) := (HSS.out _).2 hk8
        have HN : Hid (BdK w (w8.setCell ⟨X, 0, none⟩ (.slice a8 L8 c8)) g cv zs X P0 (.slice a8 L8 c8) (.slice a1 ls.length c1) (.slice a2 cs.length c2) (ts ++ [(t0, z6, t2)]) ls cs) := HB7.out.push o8 g8 (by have := HT30.out; omega)
        have y0 := hk8.cell 0
        have f0 := hk8.frozen 0
        simp at y0
        obtain ⟨W9, hW9⟩ : ∃ W, w8.setCell ⟨X, 0, none⟩ (.slice a8 L8 c8) = W := ⟨_, rfl⟩
        rw [hW9] at HN
        have HW9 : Hid (w8.setCell ⟨X, 0, none⟩ (.slice a8 L8 c8) = W9) := hW9
        clear o8 g8 p8 hk8 HB7 HC7 HW7 hW9
        go_wp2
        refine ⟨by first | exact HS8.out | exact fun _ => HS8.out, ?_⟩
        refine anyZ_one 13 (by kernel_rfl) rfl ?_
        go_wp2
        refine anyZ_one 14 (by kernel_rfl) rfl ?_
        go_wp2
        rw [HW9.out]
        refine anyZ_end (by kernel_rfl) ?_
        clear y0 f0 HS8 HSS HW9
        have y0 := HN.out.b.k.cell 0
        have y1 := HN.out.b.k.cell 1
        have y2 := HN.out.b.k.cell 2
        simp at y0 y1 y2
        have hfin := HN.out.fin
        go_wp2_with (refine wpList_store_row rfl 27 _ _ rfl P0 (B3 (.slice a8 L8 c8) (.slice a1 ls.length c1) (.slice a2 cs.length c2)) rfl rfl 27 (B3 (.slice none 0 0) (.slice none 0 0) (.slice none 0 0)) HN.out.k (by kernel_rfl) rfl (by simp [Value.oneCell']) ?_)
        exact bodyPost_ret (v := .agg (B3 (.slice a8 L8 c8) (.slice a1 ls.length c1) (.slice a2 cs.length c2))) (results_cell_row rfl _ _ _ 27 _ (0, 0) _ rfl hfin.1 Tryd.underlying27 rfl sizeBk) rfl hfin.2
      · go_wp2_with (fail)
        refine (below_c g cv zs _ _ HB5.out.b.dc.dr (by omega)).mono ?_
        rintro e w6 ⟨z8, rfl, -, -, -, d2, g2⟩
        have HB6 : Hid (BdK w w6 g cv zs X P0 (.slice a0 ts.length c0) (.slice a1 ls.length c1) (.slice a2 cs.length c2) ts ls cs) := HB5.out.draw d2 g2
        clear d2 g2 HB5
        go_wp2
        refine ⟨by first | exact (HSS.out _).2 HB6.out.b.k | exact fun _ => (HSS.out _).2 HB6.out.b.k, ?_⟩
        refine anyZ_two 4 9 (by kernel_rfl) rfl rfl ?_ ?_
        · go_wp2
          refine ⟨by first | exact (HSS.out _).2 HB6.out.b.k | exact fun _ => (HSS.out _).2 HB6.out.b.k, ?_⟩
          refine anyZ_one 9 (by kernel_rfl) rfl ?_
          go_wp2
          refine ⟨by first | exact (HSS.out _).2 HB6.out.b.k | exact fun _ => (HSS.out _).2 HB6.out.b.k, ?_⟩
          refine anyZ_one 10 (by kernel_rfl) rfl ?_
          go_wp2
          refine ⟨by first | exact (HSS.out _).2 HB6.out.b.k | exact fun _ => (HSS.out _).2 HB6.out.b.k, ?_⟩
          refine anyZ_one 11 (by kernel_rfl) rfl ?_
          obtain ⟨t0, ht0⟩ : ∃ t, wrap64 (z3 - 1) = t := ⟨_, rfl⟩
          obtain ⟨t2, ht2⟩ : ∃ t, wrap64 (z8 - 2) = t := ⟨_, rfl⟩
          rw [ht0, ht2]
          clear ht0 ht2
          obtain ⟨U, hU⟩ : ∃ U, w6.heap.size = U := ⟨_, rfl⟩
          obtain ⟨W7, hW7⟩ : ∃ W, w6.alloc (Obj.cells #[.int .i64 t0, .int .i64 z6, .int .i64 t2] 38) = W := ⟨_, rfl⟩
          have ba : Below w6.heap.size w6 W7 := by rw [← hW7]; exact (Below.refl _ _).alloc (Nat.le_refl _) _
          have HB7 : Hid (BdK w W7 g cv zs X P0 (.slice a0 ts.length c0) (.slice a1 ls.length c1) (.slice a2 cs.length c2) ts ls cs) := HB6.out.below ba
          have HC7 : Hid (Blk W7 U #[.int .i64 t0, .int .i64 z6, .int .i64 t2] 38) := by show Blk _ _ _ _; rw [← hW7, ← hU]; exact Blk.new _ _ _
          have HW7 : Hid (w6.alloc (Obj.cells #[.int .i64 t0, .int .i64 z6, .int .i64 t2] 38) = W7 ∧ w6.heap.size = U) := ⟨hW7, hU⟩
          clear ba hW7 hU HB6
          go_wp2
          rw [HW7.out.1, HW7.out.2]
          refine ⟨by first | exact (HSS.out _).2 HB7.out.b.k | exact fun _ => (HSS.out _).2 HB7.out.b.k, ?_⟩
          refine anyZ_one 12 (by kernel_rfl) rfl ?_
          have hts := HB7.out.b.n.1
          refine appT rfl _ _ rfl w.heap.size _ ts rfl HB7.out.b.o.1 U (t0, z6, t2) rfl HC7.out (by omega) HB7.out.b.dc.gr.size ?_
          intro V8 w8 o8 g8 p8
          obtain ⟨a8, L8, c8, rfl⟩ : ∃ a L c, V8 = .slice a L c := by obtain ⟨a, c, e⟩ := o8.form; exact ⟨a, _, c, e⟩
          have hk8 := HB7.out.b.k.grown g8 (row_blk HB7.out.b.o.1 HB7.out.b.k (by decide))
          have HS8 : Hid (S w8) := (HSS.out _).2 hk8
          have HN : Hid (BdK w (w8.setCell ⟨X, 0, none⟩ (.slice a8 L8 c8)) g cv zs X P0 (.slice a8 L8 c8) (.slice a1 ls.length c1) (.slice a2 cs.length c2) (ts ++ [(t0, z6, t2)]) ls cs) := HB7.out.push o8 g8 (by have := HT30.out; omega)
          have y0 := hk8.cell 0
          have f0 := hk8.frozen 0
          simp at y0
          obtain ⟨W9, hW9⟩ : ∃ W, w8.setCell ⟨X, 0, none⟩ (.slice a8 L8 c8) = W := ⟨_, rfl⟩
          rw [hW9] at HN
          have HW9 : Hid (w8.setCell ⟨X, 0, none⟩ (.slice a8 L8 c8) = W9) := hW9
          clear o8 g8 p8 hk8 HB7 HC7 HW7 hW9
          go_wp2
          refine ⟨by first | exact HS8.out | exact fun _ => HS8.out, ?_⟩
          refine anyZ_one 13 (by kernel_rfl) rfl ?_
          go_wp2
          refine anyZ_one 14 (by kernel_rfl) rfl ?_
          go_wp2
          rw [HW9.out]
          refine anyZ_end (by kernel_rfl) ?_
          clear y0 f0 HS8 HSS HW9
          have y0 := HN.out.b.k.cell 0
          have y1 := HN.out.b.k.cell 1
          have y2 := HN.out.b.k.cell 2
          simp at y0 y1 y2
          have hfin := HN.out.fin
          go_wp2_with (refine wpList_store_row rfl 27 _ _ rfl P0 (B3 (.slice a8 L8 c8) (.slice a1 ls.length c1) (.slice a2 cs.length c2)) rfl rfl 27 (B3 (.slice none 0 0) (.slice none 0 0) (.slice none 0 0)) HN.out.k (by kernel_rfl) rfl (by simp [Value.oneCell']) ?_)
          exact bodyPost_ret (v := .agg (B3 (.slice a8 L8 c8) (.slice a1 ls.length c1) (.slice a2 cs.length c2))) (results_cell_row rfl _ _ _ 27 _ (0, 0) _ rfl hfin.1 Tryd.underlying27 rfl sizeBk) rfl hfin.2
        · go_wp2
          refine ⟨by first | exact (HSS.out _).2 HB6.out.b.k | exact fun _ => (HSS.out _).2 HB6.out.b.k, ?_⟩
          refine anyZ_one 4 (by kernel_rfl) rfl ?_
          go_wp2
          refine ⟨by first | exact (HSS.out _).2 HB6.out.b.k | exact fun _ => (HSS.out _).2 HB6.out.b.k, ?_⟩
          refine anyZ_one 10 (by kernel_rfl) rfl ?_
          go_wp2
          refine ⟨by first | exact (HSS.out _).2 HB6.out.b.k | exact fun _ => (HSS.out _).2 HB6.out.b.k, ?_⟩
          refine anyZ_one 11 (by kernel_rfl) rfl ?_
          obtain ⟨t0, ht0⟩ : ∃ t, wrap64 (z3 - 1) = t := ⟨_, rfl⟩
          obtain ⟨t2, ht2⟩ : ∃ t, wrap64 (z8 - 2) = t := ⟨_, rfl⟩
          rw [ht0, ht2]
          clear ht0 ht2
          obtain ⟨U, hU⟩ : ∃ U, w6.heap.size = U := ⟨_, rfl⟩
          obtain ⟨W7, hW7⟩ : ∃ W, w6.alloc (Obj.cells #[.int .i64 t0, .int .i64 z6, .int .i64 t2] 38) = W := ⟨_, rfl⟩
          have ba : Below w6.heap.size w6 W7 := by rw [← hW7]; exact (Below.refl _ _).alloc (Nat.le_refl _) _
          have HB7 : Hid (BdK w W7 g cv zs X P0 (.slice a0 ts.length c0) (.slice a1 ls.length c1) (.slice a2 cs.length c2) ts ls cs) := HB6.out.below ba
          have HC7 : Hid (Blk W7 U #[.int .i64 t0, .int .i64 z6, .int .i64 t2] 38) := by show Blk _ _ _ _; rw [← hW7, ← hU]; exact Blk.new _ _ _
          have HW7 : Hid (w6.alloc (Obj.cells #[.int .i64 t0, .int .i64 z6, .int .i64 t2] 38) = W7 ∧ w6.heap.size = U) := ⟨hW7, hU⟩
          clear ba hW7 hU HB6
          go_wp2
          rw [HW7.out.1, HW7.out.2]
          refine ⟨by first | exact (HSS.out _).2 HB7.out.b.k | exact fun _ => (HSS.out _).2 HB7.out.b.k, ?_⟩
          refine anyZ_one 12 (by kernel_rfl) rfl ?_
          have hts := HB7.out.b.n.1
          refine appT rfl _ _ rfl w.heap.size _ ts rfl HB7.out.b.o.1 U (t0, z6, t2) rfl HC7.out (by omega) HB7.out.b.dc.gr.size ?_
          intro V8 w8 o8 g8 p8
          obtain ⟨a8, L8, c8, rfl⟩ : ∃ a L c, V8 = .slice a L c := by obtain ⟨a, c, e⟩ := o8.form; exact ⟨a, _, c, e⟩
          have hk8 := HB7.out.b.k.grown g8 (row_blk HB7.out.b.o.1 HB7.out.b.k (by decide))
          have HS8 : Hid (S w8) := (HSS.out _).2 hk8
          have HN : Hid (BdK w (w8.setCell ⟨X, 0, none⟩ (.slice a8 L8 c8)) g cv zs X P0 (.slice a8 L8 c8) (.slice a1 ls.length c1) (.slice a2 cs.length c2) (ts ++ [(t0, z6, t2)]) ls cs) := HB7.out.push o8 g8 (by have := HT30.out; omega)
          have y0 := hk8.cell 0
          have f0 := hk8.frozen 0
          simp at y0
          obtain ⟨W9, hW9⟩ : ∃ W, w8.setCell ⟨X, 0, none⟩ (.slice a8 L8 c8) = W := ⟨_, rfl⟩
          rw [hW9] at HN
          have HW9 : Hid (w8.setCell ⟨X, 0, none⟩ (.slice a8 L8 c8) = W9) := hW9
          clear o8 g8 p8 hk8 HB7 HC7 HW7 hW9
          go_wp2
          refine ⟨by first | exact HS8.out | exact fun _ => HS8.out, ?_⟩
          refine anyZ_one 13 (by kernel_rfl) rfl ?_
          go_wp2
          refine anyZ_one 14 (by kernel_rfl) rfl ?_
          go_wp2
          rw [HW9.out]
          refine anyZ_end (by kernel_rfl) ?_
          clear y0 f0 HS8 HSS HW9
          have y0 := HN.out.b.k.cell 0
          have y1 := HN.out.b.k.cell 1
          have y2 := HN.out.b.k.cell 2
          simp at y0 y1 y2
          have hfin := HN.out.fin
          go_wp2_with (refine wpList_store_row rfl 27 _ _ rfl P0 (B3 (.slice a8 L8 c8) (.slice a1 ls.length c1) (.slice a2 cs.length c2)) rfl rfl 27 (B3 (.slice none 0 0) (.slice none 0 0) (.slice none 0 0)) HN.out.k (by kernel_rfl) rfl (by simp [Value.oneCell']) ?_)
          exact bodyPost_ret (v := .agg (B3 (.slice a8 L8 c8) (.slice a1 ls.length c1) (.slice a2 cs.length c2))) (results_cell_row rfl _ _ _ 27 _ (0, 0) _ rfl hfin.1 Tryd.underlying27 rfl sizeBk) rfl hfin.2
  · obtain ⟨S, hS⟩ : ∃ S : World → Prop, ∀ W, S W ↔ Blk W X (B3 (.slice a0 ts.length c0) (.slice a1 ls.length c1) (.slice a2 cs.length c2)) 27 := ⟨_, fun _ => Iff.rfl⟩
    have x0 : ∀ W : At S, W.wd.cell? ⟨X, 0, none⟩ = some (.slice a0 ts.length c0) := fun W => by have := ((hS _).1 W.ok).cell 0; simpa using this
    have x1 : ∀ W : At S, W.wd.cell? ⟨X, 1, none⟩ = some (.slice a1 ls.length c1) := fun W => by have := ((hS _).1 W.ok).cell 1; simpa using this
    have x2 : ∀ W : At S, W.wd.cell? ⟨X, 2, none⟩ = some (.slice a2 cs.length c2) := fun W => by have := ((hS _).1 W.ok).cell 2; simpa using this
    have HSS : Hid (∀ W, S W ↔ Blk W X (B3 (.slice a0 ts.length c0) (.slice a1 ls.length c1) (.slice a2 cs.length c2)) 27) := hS
    have ne : Nonempty (At S) := ⟨⟨w3, (hS _).2 HB3.out.b.k⟩⟩
    have HB3d : Hid (BdK w w3.drew g cv zs X P0 (.slice a0 ts.length c0) (.slice a1 ls.length c1) (.slice a2 cs.length c2) ts ls cs) := HB3.out.below (Below.refl _ _).drew
    clear hS
    go_upto_region 8 with fail
    refine region_mixT [true, true, true, true, true, true, true, false, false, false, false, false] 10 3 S (by kernel_rfl) rfl (by kernel_rfl) (fun _ _ _ _ _ h => h) ((HSS.out _).2 HB3d.out.b.k) ?_
    simp only [selT, selF]
    try simp only [Act.put]
    repeat (go_big_quiet_step (fail))
    refine wpQuiet_nil ?_
    clear x0 x1 x2 ne
    refine tail_step ?_
    obtain ⟨wd, hwd⟩ : ∃ W, w3.drew = W := ⟨_, rfl⟩
    rw [hwd] at HB3d ⊢
    clear hwd HB3
    go_wp2_with (fail)
    refine (below_c g cv zs _ _ HB3d.out.b.dc.dr (by omega)).mono ?_
    rintro e w5 ⟨z, rfl, za, zb, -, d2, g2⟩
    obtain ⟨zn, rfl⟩ := Int.eq_ofNat_of_zero_le za
    have hz : zn ≤ 1 := by have := zb (by omega); omega
    have HB5 : Hid (BdK w w5 g cv zs X P0 (.slice a0 ts.length c0) (.slice a1 ls.length c1) (.slice a2 cs.length c2) ts ls cs) := HB3d.out.draw d2 g2
    have HS5 : Hid (S w5) := (HSS.out _).2 HB5.out.b.k
    have hc20 : cs.length ≤ 20 := HB5.out.b.n.2.2
    clear d2 g2 za zb HB3d
    go_wp2
    refine ⟨HS5.out, tail_step ?_⟩
    go_wp2
    refine ⟨HS5.out, tail_step ?_⟩
    obtain ⟨K, hK, hK1, hK2⟩ : ∃ K : Nat, wrap64 (wrap64 (30 - (cs.length : Int)) + (zn : Int)) = (K : Int) ∧ 0 < K ∧ cs.length + K ≤ 40 := ⟨30 - cs.length + zn, by unfold wrap64; omega, by omega, by omega⟩
    rw [hK]
    obtain ⟨V8, w8, hr8, o8, g8, p8⟩ := zeros_run w.heap.size 25 (.slice a2 cs.length c2) cs K w5 HB5.out.b.o.2.2.1 hK1 (by omega) (by omega) HB5.out.b.dc.gr.size
    obtain ⟨a8, L8, c8, rfl⟩ : ∃ a L c, V8 = .slice a L c := by obtain ⟨a, c, e⟩ := o8.form; exact ⟨a, _, c, e⟩
    have hk8 := HB5.out.b.k.grown g8 (row_blk HB5.out.b.o.2.2.1 HB5.out.b.k (by decide))
    have HS8 : Hid (S w8) := (HSS.out _).2 hk8
    obtain ⟨q1, q2, q3, q4⟩ := HB5.out.circs o8 g8 (fun k e => by rcases p8 with h | h <;> rw [h] at e; exact .inl e; exact .inr (by have := Option.some.inj e; omega)) (by simp; omega)
    have hnn := HB5.out.b.n
    have HQ : Hid (Blk (w8.setCell ⟨X, 2, none⟩ (.slice a8 L8 c8)) X (B3 (.slice a0 ts.length c0) (.slice a1 ls.length c1) (.slice a8 L8 c8)) 27 ∧ Dc w (w8.setCell ⟨X, 2, none⟩ (.slice a8 L8 c8)) g cv zs ∧ Obk w.heap.size (w8.setCell ⟨X, 2, none⟩ (.slice a8 L8 c8)) (.slice a0 ts.length c0) (.slice a1 ls.length c1) (.slice a8 L8 c8) ts ls (cs ++ List.replicate K 0) ∧ Blk (w8.setCell ⟨X, 2, none⟩ (.slice a8 L8 c8)) P0 (B3 (.slice none 0 0) (.slice none 0 0) (.slice none 0 0)) 27 ∧ w.heap.size = P0 ∧ (ts.length ≤ 40 ∧ (1 ≤ ls.length ∧ ls.length ≤ 40) ∧ (cs ++ List.replicate K 0).length ≤ 40)) := ⟨q1, q2, q3, q4, HB5.out.p, hnn.1, hnn.2.1, by simp; omega⟩
    have y2 := hk8.cell 2
    have f2 := hk8.frozen 2
    simp at y2
    obtain ⟨W9, hW9⟩ : ∃ W, w8.setCell ⟨X, 2, none⟩ (.slice a8 L8 c8) = W := ⟨_, rfl⟩
    rw [hW9] at HQ
    have HW9 : Hid (w8.setCell ⟨X, 2, none⟩ (.slice a8 L8 c8) = W9) := hW9
    clear q1 q2 q3 q4 o8 g8 p8 hk8 HB5 hW9 hnn hK
    refine Lib.wpList_append_run w5 rfl _ _ 25 3 rfl _ _ rfl rfl (.slice a8 L8 c8) w8 hr8 ?_
    clear hr8
    go_wp2
    refine ⟨HS8.out, tail_end ?_⟩
    clear HS5 HS8 HSS
    go_upto_region 12 with fail
    rw [HW9.out]
    clear HW9 y2 f2
    have y0 := HQ.out.1.cell 0
    have y1 := HQ.out.1.cell 1
    have y2 := HQ.out.1.cell 2
    simp at y0 y1 y2
    have hfin := fin_of HQ.out.2.1 HQ.out.2.2.1 HQ.out.2.2.2.1 HQ.out.2.2.2.2.1 HQ.out.2.2.2.2.2
    go_wp2_with (refine wpList_store_row rfl 27 _ _ rfl P0 (B3 (.slice a0 ts.length c0) (.slice a1 ls.length c1) (.slice a8 L8 c8)) rfl rfl 27 (B3 (.slice none 0 0) (.slice none 0 0) (.slice none 0 0)) HQ.out.2.2.2.1 (by kernel_rfl) rfl (by simp [Value.oneCell']) ?_)
    exact bodyPost_ret (v := .agg (B3 (.slice a0 ts.length c0) (.slice a1 ls.length c1) (.slice a8 L8 c8))) (results_cell_row rfl _ _ _ 27 _ (0, 0) _ rfl hfin.1 Tryd.underlying27 rfl sizeBk) rfl hfin.2
  · go_wp2_with (fail)
    go_loopw [] (fun wr => ∃ (va : Value) (ts : List Tk), Hid (BdK w wr g cv zs X P0 (va) (.slice a1 ls.length c1) (.slice a2 cs.length c2) ts ls cs)) (fun wr => 40 - boxLen wr X)
    case atStart => exact ⟨_, ts, HB3⟩
    case round =>
      clear HB3 HT30
      obtain ⟨va, ts, HB3⟩ := hrel
      obtain ⟨a0, c0, rfl⟩ := HB3.out.b.o.1.form
      obtain ⟨S, hS⟩ : ∃ S : World → Prop, ∀ W, S W ↔ Blk W X (B3 (.slice a0 ts.length c0) (.slice a1 ls.length c1) (.slice a2 cs.length c2)) 27 := ⟨_, fun _ => Iff.rfl⟩
      have x0 : ∀ W : At S, W.wd.cell? ⟨X, 0, none⟩ = some (.slice a0 ts.length c0) := fun W => by have := ((hS _).1 W.ok).cell 0; simpa using this
      have x1 : ∀ W : At S, W.wd.cell? ⟨X, 1, none⟩ = some (.slice a1 ls.length c1) := fun W => by have := ((hS _).1 W.ok).cell 1; simpa using this
      have x2 : ∀ W : At S, W.wd.cell? ⟨X, 2, none⟩ = some (.slice a2 cs.length c2) := fun W => by have := ((hS _).1 W.ok).cell 2; simpa using this
      have HSS : Hid (∀ W, S W ↔ Blk W X (B3 (.slice a0 ts.length c0) (.slice a1 ls.length c1) (.slice a2 cs.length c2)) 27) := hS
      have ne : Nonempty (At S) := ⟨⟨wr, (hS _).2 HB3.out.b.k⟩⟩
      have HB3d : Hid (BdK w wr.drew g cv zs X P0 (.slice a0 ts.length c0) (.slice a1 ls.length c1) (.slice a2 cs.length c2) ts ls cs) := HB3.out.below (Below.refl _ _).drew
      clear hS
      go_upto_region 10 with fail
      refine region_mixT [true, true, true, true, false, false, false] 7 3 S (by kernel_rfl) rfl (by kernel_rfl) (fun _ _ _ _ _ h => h) ((HSS.out _).2 HB3d.out.b.k) ?_
      simp only [selT, selF]
      try simp only [Act.put]
      repeat (go_big_quiet_step (fail))
      refine wpQuiet_nil ?_
      clear x0 x1 x2 ne
      refine tail_step ?_
      have hm0 : boxLen wr X = ts.length := boxLen_of (by have := HB3.out.b.k.cell 0; simpa using this)
      obtain ⟨wd, hwd⟩ : ∃ W, wr.drew = W := ⟨_, rfl⟩
      rw [hwd] at HB3d ⊢
      clear hwd HB3
      go_wp2_with (fail)
      refine (below_c g cv zs _ _ HB3d.out.b.dc.dr (by omega)).mono ?_
      rintro e w5 ⟨z, rfl, za, zb, -, d2, g2⟩
      obtain ⟨zn, rfl⟩ := Int.eq_ofNat_of_zero_le za
      have hz : zn ≤ 1 := by have := zb (by omega); omega
      have HB5 : Hid (BdK w w5 g cv zs X P0 (.slice a0 ts.length c0) (.slice a1 ls.length c1) (.slice a2 cs.length c2) ts ls cs) := HB3d.out.draw d2 g2
      have HS5 : Hid (S w5) := (HSS.out _).2 HB5.out.b.k
      have hw : wrap64 (30 + (zn : Int)) = 30 + (zn : Int) := by unfold wrap64; omega
      clear d2 g2 za zb HB3d
      go_wp2
      refine ⟨HS5.out, tail_step ?_⟩
      go_wp2
      refine ⟨HS5.out, tail_step ?_⟩
      go_wp2
      refine ⟨HS5.out, tail_end ?_⟩
      try rw [hw]
      clear HS5 HSS hw
      have y0 := HB5.out.b.k.cell 0
      have y1 := HB5.out.b.k.cell 1
      have y2 := HB5.out.b.k.cell 2
      simp at y0 y1 y2
      have hts := HB5.out.b.n.1
      by_cases hlt : (ts.length : Int) < 30 + (zn : Int)
      case pos =>
        have hd : decide ((ts.length : Int) < 30 + (zn : Int)) = true := by simpa using hlt
        obtain ⟨U, hU⟩ : ∃ U, w5.heap.size = U := ⟨_, rfl⟩
        obtain ⟨W7, hW7⟩ : ∃ W, w5.alloc (Obj.cells #[.int .i64 0, .int .i64 0, .int .i64 0] 38) = W := ⟨_, rfl⟩
        have ba : Below w5.heap.size w5 W7 := by rw [← hW7]; exact (Below.refl _ _).alloc (Nat.le_refl _) _
        have HB7 : Hid (BdK w W7 g cv zs X P0 (.slice a0 ts.length c0) (.slice a1 ls.length c1) (.slice a2 cs.length c2) ts ls cs) := HB5.out.below ba
        have HC7 : Hid (Blk W7 U #[.int .i64 0, .int .i64 0, .int .i64 0] 38) := by show Blk _ _ _ _; rw [← hW7, ← hU]; exact Blk.new _ _ _
        have HW7 : Hid (w5.alloc (Obj.cells #[.int .i64 0, .int .i64 0, .int .i64 0] 38) = W7 ∧ w5.heap.size = U) := ⟨hW7, hU⟩
        clear ba hW7 hU HB5
        go_wp2_with (at_builtin; (try rw [HW7.out.1]); (try rw [HW7.out.2]); refine appT rfl _ _ rfl w.heap.size _ ts rfl HB7.out.b.o.1 U (0, 0, 0) rfl HC7.out (by omega) HB7.out.b.dc.gr.size ?_)
        intro V8 w8 o8 g8 p8
        obtain ⟨a8, L8, c8, rfl⟩ : ∃ a L c, V8 = .slice a L c := by obtain ⟨a, c, e⟩ := o8.form; exact ⟨a, _, c, e⟩
        have hk8 := HB7.out.b.k.grown g8 (row_blk HB7.out.b.o.1 HB7.out.b.k (by decide))
        have HN : Hid (BdK w (w8.setCell ⟨X, 0, none⟩ (.slice a8 L8 c8)) g cv zs X P0 (.slice a8 L8 c8) (.slice a1 ls.length c1) (.slice a2 cs.length c2) (ts ++ [(0, 0, 0)]) ls cs) := HB7.out.push o8 g8 (by omega)
        have hm1 : boxLen (w8.setCell ⟨X, 0, none⟩ (.slice a8 L8 c8)) X = ts.length + 1 := by
          obtain ⟨a, c, e⟩ := o8.form
          have hL : L8 = ts.length + 1 := by simpa using (Value.slice.inj e).2.1
          rw [← hL]
          exact boxLen_of (by have := HN.out.b.k.cell 0; simpa using this)
        clear y0 y1 y2
        have y0 := hk8.cell 0
        have f0 := hk8.frozen 0
        simp at y0
        clear o8 g8 p8 hk8 HB7 HC7 HW7
        go_wp2
        go_roundw
        case rel => exact ⟨_, _, HN⟩
        case measure => omega
      case neg =>
        have hd : decide ((ts.length : Int) < 30 + (zn : Int)) = false := by simpa using hlt
        have hfin := HB5.out.fin
        go_wp2_with (refine wpList_store_row rfl 27 _ _ rfl P0 (B3 (.slice a0 ts.length c0) (.slice a1 ls.length c1) (.slice a2 cs.length c2)) rfl rfl 27 (B3 (.slice none 0 0) (.slice none 0 0) (.slice none 0 0)) HB5.out.k (by kernel_rfl) rfl (by simp [Value.oneCell']) ?_)
        exact bodyPost_ret (v := .agg (B3 (.slice a0 ts.length c0) (.slice a1 ls.length c1) (.slice a2 cs.length c2))) (results_cell_row rfl _ _ _ 27 _ (0, 0) _ rfl hfin.1 Tryd.underlying27 rfl sizeBk) rfl hfin.2
  · have q0 : ((xn : Int) == 0) = false := by simp; omega
    have q1 : ((xn : Int) == 1) = false := by simp; omega
    have q2 : ((xn : Int) == 2) = false := by simp; omega
    have q3 : ((xn : Int) == 3) = false := by simp; omega
    have y0 := HB3.out.b.k.cell 0
    have y1 := HB3.out.b.k.cell 1
    have y2 := HB3.out.b.k.cell 2
    simp at y0 y1 y2
    have hfin := HB3.out.fin
    go_wp2_with (refine wpList_store_row rfl 27 _ _ rfl P0 (B3 (.slice a0 ts.length c0) (.slice a1 ls.length c1) (.slice a2 cs.length c2)) rfl rfl 27 (B3 (.slice none 0 0) (.slice none 0 0) (.slice none 0 0)) HB3.out.k (by kernel_rfl) rfl (by simp [Value.oneCell']) ?_)
    exact bodyPost_ret (v := .agg (B3 (.slice a0 ts.length c0) (.slice a1 ls.length c1) (.slice a2 cs.length c2))) (results_cell_row rfl _ _ _ 27 _ (0, 0) _ rfl hfin.1 Tryd.underlying27 rfl sizeBk) rfl hfin.2

end Go.Proofs.YtmfmlbiplagmiaaDoor
namespace Go.Proofs.YtmfmlbiplagmiaaDoor
open Go.RowKit Go.ChangeShapes Go.WideShapes Go.ChangeAt
set_option linter.unusedVariables false
set_option linter.unusedSimpArgs false
set_option maxRecDepth 8000

def DmR (w : World) (e : Ending) (w' : World) : Prop := ∃ va vl vc ts ls cs, e = .returned (.agg (B3 va vl vc)) ∧ Obk w.heap.size w' va vl vc ts ls cs ∧ Below w.heap.size w w' ∧ (ts.length ≤ 40 ∧ (1 ≤ ls.length ∧ ls.length ≤ 40) ∧ cs.length ≤ 40)
theorem obk_row {base X : Nat} {W : World} {va vl vc : Value} {T : List Tk} {L C : List Int} {cs cs' : Array Value} (h : Obk base W va vl vc T L C) (hb : Blk W X cs 27) : Obk base (W.setRow X cs') va vl vc T L C :=
  h.fr (X := fun k => k = X) (Fr.ofGrown (grown_row _ _ _) (fun k e => (Option.some.inj e).symm)) (fun k hk e => by
    subst e
    rcases hk with hk | hk | hk
    · exact row_blk h.1 hb (by decide) hk
    · exact row_blk h.2.1 hb (by decide) hk
    · exact row_blk h.2.2.1 hb (by decide) hk)
set_option maxHeartbeats 3200000 in
theorem drawMend_c (v : Value) (zs : List Int) (w : World) (h : Rd .u8 w v zs) (hok : ∀ z ∈ zs, 0 ≤ z ∧ z ≤ 255) (hlen : zs.length ≤ 2097152) : Calls Tryd.prog 8 #[v] w (DmR w) := by
  obtain ⟨P0, hP0⟩ : ∃ P, w.heap.size = P := ⟨_, rfl⟩
  obtain ⟨W0, hW0⟩ : ∃ W, w.alloc (Obj.cells (B3 (.slice none 0 0) (.slice none 0 0) (.slice none 0 0)) 27) = W := ⟨_, rfl⟩
  have hb0 : Below w.heap.size w W0 := by rw [← hW0]; exact (Below.refl _ _).alloc (Nat.le_refl _) _
  have HB0 : Hid (Below w.heap.size w W0) := hb0
  have HR : Hid (Rd .u8 W0 v zs) := h.below hb0
  have HK0 : Hid (Blk W0 P0 (B3 (.slice none 0 0) (.slice none 0 0) (.slice none 0 0)) 27) := by show Blk _ _ _ _; rw [← hW0, ← hP0]; exact Blk.new _ _ _
  have HOK : Hid ((∀ z ∈ zs, 0 ≤ z ∧ z ≤ 255) ∧ zs.length ≤ 2097152) := ⟨hok, hlen⟩
  have HW0 : Hid (w.alloc (Obj.cells (B3 (.slice none 0 0) (.slice none 0 0) (.slice none 0 0)) 27) = W0 ∧ w.heap.size = P0) := ⟨hW0, hP0⟩
  have HP : Hid (w.heap.size = P0) := hP0
  clear hb0 hW0 hP0 h hok hlen
  go_enter Tryd.func8, Tryd.ntmps8
  go_upto_region 1 with fail
  rw [HW0.out.1, HW0.out.2]
  clear HW0
  go_wp2_with (fail)
  refine (new_c v zs W0 HR.out HOK.out.1 HOK.out.2).mono ?_
  rintro e w1 ⟨g, rfl, d1, hg, b1⟩
  have HD1 : Hid (Dr w1 g v zs ∧ W0.heap.size ≤ g ∧ Below W0.heap.size W0 w1) := ⟨d1, hg, b1⟩
  clear d1 hg b1
  go_wp2_with (fail)
  refine (drawAny18_c g v zs w1 HD1.out.1).mono ?_
  rintro e w2 ⟨va, vl, vc, ts, ls, cs, rfl, o2, d2, n2⟩
  have hk1 : Blk w1 P0 (B3 (.slice none 0 0) (.slice none 0 0) (.slice none 0 0)) 27 := HK0.out.below HD1.out.2.2 HK0.out.lt
  have hk2 : Blk w2 P0 (B3 (.slice none 0 0) (.slice none 0 0) (.slice none 0 0)) 27 := hk1.grown d2.gr (fun e => by have := Option.some.inj e; have := HK0.out.lt; have := HD1.out.2.1; omega)
  have b2 : Below w.heap.size w w2 := ((HB0.out.trans (HD1.out.2.2.mono HB0.out.size)).grown d2.gr (by have := HB0.out.size; have := HD1.out.2.2.size; omega) (fun k e => by have := Option.some.inj e; have := HD1.out.2.1; have := HB0.out.size; omega))
  have HF : Hid (Blk (w2.setRow P0 (B3 va vl vc)) P0 (B3 va vl vc) 27 ∧ DmR w (.returned (.agg (B3 va vl vc))) (w2.setRow P0 (B3 va vl vc))) :=
    ⟨hk2.row _, va, vl, vc, ts, ls, cs, rfl, obk_row (o2.mono (by have := HB0.out.size; have := HD1.out.2.2.size; omega)) hk2, belowRow b2 _ (by rw [HP.out]; exact Nat.le_refl _) _, n2⟩
  obtain ⟨a0, c0, rfl⟩ := o2.1.form
  obtain ⟨a1, c1, rfl⟩ := o2.2.1.form
  obtain ⟨a2, c2, rfl⟩ := o2.2.2.1.form
  have HK2 : Hid (Blk w2 P0 (B3 (.slice none 0 0) (.slice none 0 0) (.slice none 0 0)) 27) := hk2
  clear hk1 hk2 b2 o2 d2 n2 HD1 HK0 HB0 HR
  go_wp2_with (refine wpList_store_row rfl 27 _ _ rfl P0 (B3 (.slice a0 ts.length c0) (.slice a1 ls.length c1) (.slice a2 cs.length c2)) rfl rfl 27 (B3 (.slice none 0 0) (.slice none 0 0) (.slice none 0 0)) HK2.out (by kernel_rfl) rfl (by simp [Value.oneCell']) ?_)
  exact bodyPost_ret (v := .agg (B3 (.slice a0 ts.length c0) (.slice a1 ls.length c1) (.slice a2 cs.length c2))) (results_cell_row rfl _ _ _ 27 _ (0, 0) _ rfl HF.out.1 Tryd.underlying27 rfl sizeBk) rfl HF.out.2

end Go.Proofs.YtmfmlbiplagmiaaDoor
namespace Go.Proofs.YtmfmlbiplagmiaaDoor
open Go.RowKit Go.ChangeShapes Go.WideShapes Go.ChangeAt
set_option linter.unusedVariables false
set_option linter.unusedSimpArgs false
set_option maxRecDepth 8000

structure Ba (w1 W : World) (g : Nat) (cv : Value) (zs : List Int) (X P0 P1 : Nat) (va vl vc : Value) (ts : List Tk) (ls cs : List Int) : Prop where
  d : Dc w1 W g cv zs
  k : Blk W X (B3 va vl vc) 27
  o : Obk w1.heap.size W va vl vc ts ls cs
  p0 : Blk W P0 (B3 (.slice none 0 0) (.slice none 0 0) (.slice none 0 0)) 27
  p1 : Blk W P1 #[.int .i64 0, .int .i64 0, .int .i64 0] 38
  x : w1.heap.size ≤ X ∧ P0 < g ∧ P1 < g ∧ P0 ≠ P1
  n : ts.length ≤ 40 ∧ ls.length ≤ 40 ∧ cs.length ≤ 40
section
variable {w w1 W W' : World} {g : Nat} {cv : Value} {zs : List Int} {X P0 P1 : Nat} {va vl vc : Value} {ts : List Tk} {ls cs : List Int}
theorem Ba.below (h : Ba w1 W g cv zs X P0 P1 va vl vc ts ls cs) (hb : Below W.heap.size W W') : Ba w1 W' g cv zs X P0 P1 va vl vc ts ls cs :=
  ⟨h.d.below hb, h.k.below hb h.k.lt, h.o.below hb, h.p0.below hb h.p0.lt, h.p1.below hb h.p1.lt, h.x, h.n⟩
theorem Ba.draw (h : Ba w1 W g cv zs X P0 P1 va vl vc ts ls cs) (hd : Dr W' g cv zs) (hg : W.grownBy W' (some g)) : Ba w1 W' g cv zs X P0 P1 va vl vc ts ls cs :=
  ⟨h.d.draw hd hg, h.k.grown hg (fun e => by have := Option.some.inj e; have := h.d.lt; have := h.x; omega), obk_grown h.o hg h.d.lt, h.p0.grown hg (fun e => by have := Option.some.inj e; have := h.x; omega), h.p1.grown hg (fun e => by have := Option.some.inj e; have := h.x; omega), h.x, h.n⟩
theorem Ba.row {ua ul uc : Value} {T : List Tk} {L C : List Int} (h : Ba w1 W g cv zs X P0 P1 va vl vc ts ls cs) (o : Obk w1.heap.size W ua ul uc T L C) (n : T.length ≤ 40 ∧ L.length ≤ 40 ∧ C.length ≤ 40) : Ba w1 (W.setRow X (B3 ua ul uc)) g cv zs X P0 P1 ua ul uc T L C :=
  ⟨h.d.app (row := some X) (fun k e => by have := Option.some.inj e; have := h.x; omega) (grown_row _ _ _), h.k.row _, obk_row o h.k,
    h.p0.grown (grown_row _ _ _) (fun e => by have := Option.some.inj e; have := h.d.lt; have := h.x; omega), h.p1.grown (grown_row _ _ _) (fun e => by have := Option.some.inj e; have := h.d.lt; have := h.x; omega), h.x, n⟩
theorem Ba.tk {Y j : Nat} {u : Value} (h : Ba w1 W g cv zs X P0 P1 va vl vc ts ls cs) (hY : w1.heap.size ≤ Y) (hX : X < Y) (hi : ∀ k, InB va vl vc k → k ≠ Y) : Ba w1 (W.setCell ⟨Y, j, none⟩ u) g cv zs X P0 P1 va vl vc ts ls cs :=
  ⟨h.d.app (row := some Y) (fun k e => by have := Option.some.inj e; omega) (dgrown_set _ _ _ _), h.k.grown (dgrown_set _ _ _ _) (fun e => by have := Option.some.inj e; omega),
    h.o.fr (X := fun k => k = Y) (Fr.ofGrown (dgrown_set _ _ _ _) (fun k e => (Option.some.inj e).symm)) (fun k hk e => hi k hk e),
    h.p0.grown (dgrown_set _ _ _ _) (fun e => by have := Option.some.inj e; have := h.d.lt; have := h.x; omega), h.p1.grown (dgrown_set _ _ _ _) (fun e => by have := Option.some.inj e; have := h.d.lt; have := h.x; omega), h.x, h.n⟩
def DaR (w : World) (e : Ending) (w' : World) : Prop := ∃ va vl vc ts ls cs x0 x1 x2, e = .returned (.tuple #[.agg (B3 va vl vc), .agg #[.int .i64 x0, .int .i64 x1, .int .i64 x2]]) ∧ Obk w.heap.size w' va vl vc ts ls cs ∧ Below w.heap.size w w' ∧ (ts.length ≤ 40 ∧ ls.length ≤ 40 ∧ cs.length ≤ 40)
theorem obk_low {base i : Nat} {A : Array Value} (h : Obk base W va vl vc ts ls cs) (hi : i < base) : Obk base (W.setRow i A) va vl vc ts ls cs :=
  h.fr (X := fun k => k = i) (Fr.ofGrown (grown_row _ _ _) (fun k e => (Option.some.inj e).symm)) (fun k hk e => by have := (h.lt k hk).1; omega)
theorem Ba.fin (h : Ba w1 W g cv zs X P0 P1 va vl vc ts ls cs) (hb : Below w.heap.size w w1) (hg : w.heap.size ≤ P0 ∧ w.heap.size ≤ P1) (x0 x1 x2 : Int) (A B : Array Value) (i j : Nat) (hi : i = P0 ∨ i = P1) (hj : j = P0 ∨ j = P1) :
    DaR w (.returned (.tuple #[.agg (B3 va vl vc), .agg #[.int .i64 x0, .int .i64 x1, .int .i64 x2]])) ((W.setRow i A).setRow j B) := by
  have h1 := h.d.lt
  have h2 := h.x
  have hs := hb.size
  have bW : Below w.heap.size w W := hb.grown h.d.gr hs (fun k e => by have := Option.some.inj e; omega)
  refine ⟨va, vl, vc, ts, ls, cs, x0, x1, x2, rfl, (obk_low (obk_low h.o (by omega)) (by omega)).mono hs, belowRow (belowRow bW _ (by omega) _) _ (by omega) _, h.n⟩
end
theorem mb_len (ts : List Tk) (ls cs : List Int) (n : ts.length ≤ 40 ∧ ls.length ≤ 40 ∧ cs.length ≤ 40) : (mbT ts ls cs).length ≤ 40 ∧ (mbL ts ls cs).length ≤ 40 ∧ (mbC ts ls cs).length ≤ 40 := by
  have := mdS_len ts ts.length
  unfold mbT mbL mbC
  cases bkB ts ls cs with
  | false => simp
  | true => simp only [if_true, wr18_len]; omega
theorem results_BT {fn : Func} {u q : Tmp} (h : fn.results = #[.cell q 27, .cell u 38]) (tmps : Array Value) (w : World) (g k : Nat) (va vl vc : Value) (cs : Array Value) (h3 : cs.size = 3)
    (hq : tmps.getD q undef = .pointer (some ⟨g, 0, none⟩)) (hu : tmps.getD u undef = .pointer (some ⟨k, 0, none⟩)) (hg : Blk w g (B3 va vl vc) 27) (hk : Blk w k cs 38) :
    (results fn tmps).run Tryd.prog w = .ok (.tuple #[.agg (B3 va vl vc), .agg cs]) w := by
  have hq' : tmps[q]?.getD undef = .pointer (some ⟨g, 0, none⟩) := by simpa using hq
  have hu' : tmps[u]?.getD undef = .pointer (some ⟨k, 0, none⟩) := by simpa using hu
  have hr := run_loadVar_row (P := Tryd.prog) w g 27 27 (B3 va vl vc) (0, 0) _ hg Tryd.underlying27 rfl sizeBk
  have hs := run_loadVar_row (P := Tryd.prog) w k 38 38 cs (0, 0) _ hk Tryd.underlying38 rfl (by rw [h3]; exact sizeTk)
  simp [results, h, hq', hu', asAddr, hr, hs]

set_option maxHeartbeats 25600000 in
theorem drawAdd_c (v : Value) (zs : List Int) (w : World) (h : Rd .u8 w v zs) (hok : ∀ z ∈ zs, 0 ≤ z ∧ z ≤ 255) (hlen : zs.length ≤ 2097152) : Calls Tryd.prog 16 #[v] w (DaR w) := by
  obtain ⟨P0, hP0⟩ : ∃ P, w.heap.size = P := ⟨_, rfl⟩
  obtain ⟨P1, hP1⟩ : ∃ P, P0 + 1 = P := ⟨_, rfl⟩
  obtain ⟨W0, hW0⟩ : ∃ W, (w.alloc (Obj.cells (B3 (.slice none 0 0) (.slice none 0 0) (.slice none 0 0)) 27)).alloc (Obj.cells #[.int .i64 0, .int .i64 0, .int .i64 0] 38) = W := ⟨_, rfl⟩
  have hb0 : Below w.heap.size w W0 := by rw [← hW0]; exact ((Below.refl _ _).alloc (Nat.le_refl _) _).alloc (by simp) _
  have HB0 : Hid (Below w.heap.size w W0 ∧ W0.heap.size = P1 + 1 ∧ w.heap.size = P0) := ⟨hb0, by rw [← hW0, ← hP1, ← hP0]; simp, hP0⟩
  have HR : Hid (Rd .u8 W0 v zs) := h.below hb0
  have HK0 : Hid (Blk W0 P0 (B3 (.slice none 0 0) (.slice none 0 0) (.slice none 0 0)) 27 ∧ Blk W0 P1 #[.int .i64 0, .int .i64 0, .int .i64 0] 38) := ⟨by rw [← hW0, ← hP0]; exact (Blk.new _ _ _).alloc _, by rw [← hW0, ← hP1, ← hP0]; exact Blk.newAt _ _ _ _ (by simp)⟩
  have HOK : Hid ((∀ z ∈ zs, 0 ≤ z ∧ z ≤ 255) ∧ zs.length ≤ 2097152) := ⟨hok, hlen⟩
  have HW0 : Hid ((w.alloc (Obj.cells (B3 (.slice none 0 0) (.slice none 0 0) (.slice none 0 0)) 27)).alloc (Obj.cells #[.int .i64 0, .int .i64 0, .int .i64 0] 38) = W0 ∧ w.heap.size = P0 ∧ P0 + 1 = P1) := ⟨hW0, hP0, hP1⟩
  clear hb0 hW0 hP0 hP1 h hok hlen
  go_enter Tryd.func16, Tryd.ntmps16
  go_upto_region 1 with fail
  (try simp only [size_alloc])
  rw [HW0.out.1, HW0.out.2.1]
  (try rw [HW0.out.2.2])
  go_wp2_with (fail)
  refine (new_c v zs W0 HR.out HOK.out.1 HOK.out.2).mono ?_
  rintro e w1 ⟨g, rfl, d1, hg, b1⟩
  have HD1 : Hid (Dr w1 g v zs) := d1
  have HB1 : Hid (Below w.heap.size w w1 ∧ (w.heap.size ≤ P0 ∧ w.heap.size ≤ P1)) := ⟨HB0.out.1.trans (b1.mono HB0.out.1.size), by have := HB0.out; have := HW0.out.2.2; omega⟩
  have HK1 : Hid (Blk w1 P0 (B3 (.slice none 0 0) (.slice none 0 0) (.slice none 0 0)) 27 ∧ Blk w1 P1 #[.int .i64 0, .int .i64 0, .int .i64 0] 38 ∧ P0 < g ∧ P1 < g ∧ P0 ≠ P1) := ⟨HK0.out.1.below b1 HK0.out.1.lt, HK0.out.2.below b1 HK0.out.2.lt, by have := HB0.out; have := HW0.out.2.2; omega⟩
  clear d1 hg b1 HK0 HB0 HR HOK HW0
  go_wp2_with (fail)
  refine (drawAny18_c g v zs w1 HD1.out).mono ?_
  rintro e w2 ⟨va, vl, vc, ts, ls, cs, rfl, o2, d2, n2⟩
  obtain ⟨a0, c0, rfl⟩ := o2.1.form
  obtain ⟨a1, c1, rfl⟩ := o2.2.1.form
  obtain ⟨a2, c2, rfl⟩ := o2.2.2.1.form
  obtain ⟨X, hX⟩ : ∃ X, w2.heap.size = X := ⟨_, rfl⟩
  obtain ⟨W3, hW3⟩ : ∃ W, w2.alloc (Obj.cells (B3 (.slice a0 ts.length c0) (.slice a1 ls.length c1) (.slice a2 cs.length c2)) 27) = W := ⟨_, rfl⟩
  have ba : Below w2.heap.size w2 W3 := by rw [← hW3]; exact (Below.refl _ _).alloc (Nat.le_refl _) _
  have HB3 : Hid (Ba w1 W3 g v zs X P0 P1 (.slice a0 ts.length c0) (.slice a1 ls.length c1) (.slice a2 cs.length c2) ts ls cs) := by
    have h2 := HK1.out
    have k0 := h2.1.grown d2.gr (fun e => by have := Option.some.inj e; omega)
    have k1 := h2.2.1.grown d2.gr (fun e => by have := Option.some.inj e; omega)
    exact ⟨d2.below ba, by rw [← hW3, ← hX]; exact Blk.new _ _ _, o2.below ba, k0.below ba k0.lt, k1.below ba k1.lt, ⟨by have := d2.gr.size; omega, h2.2.2⟩, n2.1, n2.2.1.2, n2.2.2⟩
  have HW3 : Hid (w2.alloc (Obj.cells (B3 (.slice a0 ts.length c0) (.slice a1 ls.length c1) (.slice a2 cs.length c2)) 27) = W3 ∧ w2.heap.size = X) := ⟨hW3, hX⟩
  clear ba hX hW3 o2 d2 n2 HK1 HD1
  go_upto_region 3 with fail
  rw [HW3.out.1, HW3.out.2]
  clear HW3
  go_wp2_with (fail)
  refine (once_c g v zs 2 W3 HB3.out.d.dr (by omega)).mono ?_
  rintro e w4 ⟨q, rfl, dd, gg⟩
  have HB4 : Hid (Ba w1 w4 g v zs X P0 P1 (.slice a0 ts.length c0) (.slice a1 ls.length c1) (.slice a2 cs.length c2) ts ls cs) := HB3.out.draw dd gg
  clear dd gg HB3
  cases q with
  | true =>
    have y0 := HB4.out.k.cell 0
    have y1 := HB4.out.k.cell 1
    have y2 := HB4.out.k.cell 2
    simp at y0 y1 y2
    go_wp2_with (fail)
    refine (mendM_c _ _ _ ts ls cs w4 HB4.out.o.rd).mono ?_
    rintro e w5 ⟨ma, ml, mc, mg, rfl, o, og, -, -, -, b⟩
    have hl := mb_len ts ls cs HB4.out.n
    obtain ⟨T, hT⟩ : ∃ T, mbT ts ls cs = T := ⟨_, rfl⟩
    obtain ⟨L, hL⟩ : ∃ T, mbL ts ls cs = T := ⟨_, rfl⟩
    obtain ⟨C, hC⟩ : ∃ T, mbC ts ls cs = T := ⟨_, rfl⟩
    rw [hT, hL, hC] at o hl
    obtain ⟨d0, e0, rfl⟩ := o.1.form
    obtain ⟨d1, e1, rfl⟩ := o.2.1.form
    obtain ⟨d2, e2, rfl⟩ := o.2.2.1.form
    obtain ⟨d3, e3, rfl⟩ := og.form
    have HB5 : Hid (Ba w1 w5 g v zs X P0 P1 (.slice a0 ts.length c0) (.slice a1 ls.length c1) (.slice a2 cs.length c2) ts ls cs) := HB4.out.below b
    obtain ⟨W6, hW6⟩ : ∃ W, w5.setRow X (B3 (.slice d0 T.length e0) (.slice d1 L.length e1) (.slice d2 C.length e2)) = W := ⟨_, rfl⟩
    have HB : Hid (Ba w1 W6 g v zs X P0 P1 (.slice d0 T.length e0) (.slice d1 L.length e1) (.slice d2 C.length e2) T L C) := by show Ba _ _ _ _ _ _ _ _ _ _ _ _ _ _; rw [← hW6]; exact HB5.out.row (o.mono (HB4.out.d.gr.size)) hl
    have HW6 : Hid (w5.setRow X (B3 (.slice d0 T.length e0) (.slice d1 L.length e1) (.slice d2 C.length e2)) = W6) := hW6
    have HK5 : Hid (Blk w5 X (B3 (.slice a0 ts.length c0) (.slice a1 ls.length c1) (.slice a2 cs.length c2)) 27) := HB5.out.k
    clear hW6 o og b hl hT hL hC HB4 HB5 y0 y1 y2
    go_upto_region 5 with (refine wpList_store_row rfl 27 _ _ rfl X (B3 (.slice d0 T.length e0) (.slice d1 L.length e1) (.slice d2 C.length e2)) rfl rfl 27 (B3 (.slice a0 ts.length c0) (.slice a1 ls.length c1) (.slice a2 cs.length c2)) HK5.out (by kernel_rfl) rfl (by simp [Value.oneCell']) ?_)
    rw [HW6.out]
    clear HW6 HK5
    have y0 := HB.out.k.cell 0
    have y1 := HB.out.k.cell 1
    have y2 := HB.out.k.cell 2
    simp at y0 y1 y2
    have hn := HB.out.n

    go_wp2_with (fail)
    refine (drawTalk_c g v zs d0 d1 d2 T.length e0 L.length e1 C.length e2 W6 HB.out.d.dr (by omega) (by omega)).mono ?_
    rintro e w5 ⟨x0, x1, x2, rfl, dd, gg⟩
    obtain ⟨Y, hY⟩ : ∃ X, w5.heap.size = X := ⟨_, rfl⟩
    obtain ⟨W5, hW⟩ : ∃ W, w5.alloc (Obj.cells #[.int .i64 x0, .int .i64 x1, .int .i64 x2] 38) = W := ⟨_, rfl⟩
    have hb5 := HB.out.draw dd gg
    have b : Below w5.heap.size w5 W5 := by rw [← hW]; exact (Below.refl _ _).alloc (Nat.le_refl _) _
    have HYL : Hid ((∀ k, InB (.slice d0 T.length e0) (.slice d1 L.length e1) (.slice d2 C.length e2) k → k ≠ Y) ∧ X < Y ∧ w1.heap.size ≤ Y ∧ g < Y) := ⟨fun k hk => by have := (hb5.o.lt k hk).2; omega, by have := hb5.k.lt; omega, by have := hb5.d.gr.size; omega, by have := hb5.d.dr.lt; omega⟩
    have HB5 : Hid (Ba w1 W5 g v zs X P0 P1 (.slice d0 T.length e0) (.slice d1 L.length e1) (.slice d2 C.length e2) T L C) := hb5.below b
    have HC5 : Hid (Blk W5 Y #[.int .i64 x0, .int .i64 x1, .int .i64 x2] 38) := by show Blk _ _ _ _; rw [← hW, ← hY]; exact Blk.new _ _ _
    have E5 : Hid (w5.alloc (Obj.cells #[.int .i64 x0, .int .i64 x1, .int .i64 x2] 38) = W5 ∧ w5.heap.size = Y) := ⟨hW, hY⟩
    clear hW hY hb5 b dd gg HB y0 y1 y2
    go_upto_region 6 with fail
    rw [E5.out.1, E5.out.2]
    clear E5
    go_wp2_with (fail)
    refine (once_c g v zs 20 W5 HB5.out.d.dr (by omega)).mono ?_
    rintro e w6 ⟨q, rfl, dd, gg⟩
    have HB6 : Hid (Ba w1 w6 g v zs X P0 P1 (.slice d0 T.length e0) (.slice d1 L.length e1) (.slice d2 C.length e2) T L C) := HB5.out.draw dd gg
    have HC6 : Hid (Blk w6 Y #[.int .i64 x0, .int .i64 x1, .int .i64 x2] 38) := HC5.out.grown gg (fun e => by have := Option.some.inj e; have := HYL.out.2.2.2; omega)
    clear dd gg HB5 HC5
    cases q with
    | true =>
      have y1 := HB6.out.k.cell 1
      simp at y1
      obtain ⟨U, hU⟩ : ∃ X, w6.heap.size = X := ⟨_, rfl⟩
      obtain ⟨W7, hW⟩ : ∃ W, w6.alloc (Obj.cells #[.int .i64 (-1), .int .i64 (L.length : Int)] 3) = W := ⟨_, rfl⟩
      have b : Below w6.heap.size w6 W7 := by rw [← hW]; exact (Below.refl _ _).alloc (Nat.le_refl _) _
      have HB7 : Hid (Ba w1 W7 g v zs X P0 P1 (.slice d0 T.length e0) (.slice d1 L.length e1) (.slice d2 C.length e2) T L C) := HB6.out.below b
      have HC7 : Hid (Blk W7 Y #[.int .i64 x0, .int .i64 x1, .int .i64 x2] 38) := HC6.out.below b HC6.out.lt
      have HR7 : Hid (Rd .i64 W7 (.slice (some ⟨U, 0, none⟩) 2 2) [-1, (L.length : Int)]) := by show Rd _ _ _ _; rw [← hW, ← hU]; exact Rd.lit w6 [-1, (L.length : Int)] (by simp)
      have HU : Hid (g < U) := by show _ < _; rw [← hU]; exact HB6.out.d.dr.lt
      have E7 : Hid (w6.alloc (Obj.cells #[.int .i64 (-1), .int .i64 (L.length : Int)] 3) = W7 ∧ w6.heap.size = U) := ⟨hW, hU⟩
      clear hW hU b HB6 HC6
      go_wp2_with (fail)
      rw [E7.out.1, E7.out.2]
      clear E7 y1
      refine (pickInt_c g v zs _ [-1, (L.length : Int)] W7 HB7.out.d.dr HR7.out (.inr (by have := HU.out; simp [Value.ownBlock]; omega)) (by simp) (by simp)).mono ?_
      rintro e w8 ⟨z, rfl, -, dd, gg⟩
      have HB8 : Hid (Ba w1 w8 g v zs X P0 P1 (.slice d0 T.length e0) (.slice d1 L.length e1) (.slice d2 C.length e2) T L C) := HB7.out.draw dd gg
      have HC8 : Hid (Blk w8 Y #[.int .i64 x0, .int .i64 x1, .int .i64 x2] 38) := HC7.out.grown gg (fun e => by have := Option.some.inj e; have := HYL.out.2.2.2; omega)
      clear dd gg HB7 HC7 HR7 HU
      have y0 := HC8.out.cell 0
      have f0 := HC8.out.frozen 0
      simp at y0
      obtain ⟨W9, hW9⟩ : ∃ W, w8.setCell ⟨Y, 0, none⟩ (.int .i64 z) = W := ⟨_, rfl⟩
      have HB : Hid (Ba w1 W9 g v zs X P0 P1 (.slice d0 T.length e0) (.slice d1 L.length e1) (.slice d2 C.length e2) T L C) := by show Ba _ _ _ _ _ _ _ _ _ _ _ _ _ _; rw [← hW9]; exact HB8.out.tk HYL.out.2.2.1 HYL.out.2.1 HYL.out.1
      have HC : Hid (Blk W9 Y #[.int .i64 z, .int .i64 x1, .int .i64 x2] 38) := by
        show Blk _ _ _ _
        rw [← hW9]
        have := HC8.out.set 0 (.int .i64 z)
        simpa using this
      have HW9 : Hid (w8.setCell ⟨Y, 0, none⟩ (.int .i64 z) = W9) := hW9
      clear hW9 HB8 HC8
      go_upto_region 8 with fail
      rw [HW9.out]
      clear HW9 y0 f0
      obtain ⟨S, hS⟩ : ∃ S : World → Prop, ∀ W, S W ↔ (Blk W X (B3 (.slice d0 T.length e0) (.slice d1 L.length e1) (.slice d2 C.length e2)) 27 ∧ Blk W Y #[.int .i64 z, .int .i64 x1, .int .i64 x2] 38) := ⟨_, fun _ => Iff.rfl⟩
      have x0' : ∀ W : At S, W.wd.cell? ⟨X, 0, none⟩ = some (.slice d0 T.length e0) := fun W => by have := ((hS _).1 W.ok).1.cell 0; simpa using this
      have x1' : ∀ W : At S, W.wd.cell? ⟨X, 1, none⟩ = some (.slice d1 L.length e1) := fun W => by have := ((hS _).1 W.ok).1.cell 1; simpa using this
      have x2' : ∀ W : At S, W.wd.cell? ⟨X, 2, none⟩ = some (.slice d2 C.length e2) := fun W => by have := ((hS _).1 W.ok).1.cell 2; simpa using this
      have z0' : ∀ W : At S, W.wd.cell? ⟨Y, 0, none⟩ = some (.int .i64 z) := fun W => by have := ((hS _).1 W.ok).2.cell 0; simpa using this
      have z1' : ∀ W : At S, W.wd.cell? ⟨Y, 1, none⟩ = some (.int .i64 x1) := fun W => by have := ((hS _).1 W.ok).2.cell 1; simpa using this
      have z2' : ∀ W : At S, W.wd.cell? ⟨Y, 2, none⟩ = some (.int .i64 x2) := fun W => by have := ((hS _).1 W.ok).2.cell 2; simpa using this
      have HSS : Hid (∀ W, S W ↔ (Blk W X (B3 (.slice d0 T.length e0) (.slice d1 L.length e1) (.slice d2 C.length e2)) 27 ∧ Blk W Y #[.int .i64 z, .int .i64 x1, .int .i64 x2] 38)) := hS
      have ne : Nonempty (At S) := ⟨⟨W9, (hS _).2 ⟨HB.out.k, HC.out⟩⟩⟩
      have HBd : Hid (Ba w1 W9.drew g v zs X P0 P1 (.slice d0 T.length e0) (.slice d1 L.length e1) (.slice d2 C.length e2) T L C) := HB.out.below (Below.refl _ _).drew
      have HCd : Hid (Blk W9.drew Y #[.int .i64 z, .int .i64 x1, .int .i64 x2] 38) := HC.out.below (Below.refl _ _).drew HC.out.lt
      clear hS
      refine region_anyZ S 3 (by kernel_rfl) ?_
      refine anyZ_quiet [true, true, false, false] 2 rfl (by kernel_rfl) (fun _ _ _ _ _ h => h) ((HSS.out _).2 ⟨HBd.out.k, HCd.out⟩) ?_
      simp only [selT]
      repeat (go_big_quiet_step (fail))
      refine wpQuiet_nil ?_
      clear x0' x1' x2' z0' z1' z2' ne HB HC
      obtain ⟨wd, hwd⟩ : ∃ W, W9.drew = W := ⟨_, rfl⟩
      rw [hwd] at HBd HCd ⊢
      clear hwd
      have HF := fun A B i j hi hj => HBd.out.fin HB1.out.1 HB1.out.2 z x1 x2 A B i j hi hj
      have HFF : Hid (∀ (A B : Array Value) (i j : Nat), i = P0 ∨ i = P1 → j = P0 ∨ j = P1 → DaR w (.returned (.tuple #[.agg (B3 (.slice d0 T.length e0) (.slice d1 L.length e1) (.slice d2 C.length e2)), .agg #[.int .i64 z, .int .i64 x1, .int .i64 x2]])) ((wd.setRow i A).setRow j B)) := HF
      clear HF
      have K0 : Hid (Blk wd P0 (B3 (.slice none 0 0) (.slice none 0 0) (.slice none 0 0)) 27) := HBd.out.p0
      have K1 : Hid (Blk (wd.setRow P0 (B3 (.slice d0 T.length e0) (.slice d1 L.length e1) (.slice d2 C.length e2))) P1 #[.int .i64 0, .int .i64 0, .int .i64 0] 38) := HBd.out.p1.grown (grown_row _ _ _) (fun e => HBd.out.x.2.2.2 (Option.some.inj e))
      have KE : Hid (Blk ((wd.setRow P0 (B3 (.slice d0 T.length e0) (.slice d1 L.length e1) (.slice d2 C.length e2))).setRow P1 #[.int .i64 z, .int .i64 x1, .int .i64 x2]) P0 (B3 (.slice d0 T.length e0) (.slice d1 L.length e1) (.slice d2 C.length e2)) 27 ∧ Blk ((wd.setRow P0 (B3 (.slice d0 T.length e0) (.slice d1 L.length e1) (.slice d2 C.length e2))).setRow P1 #[.int .i64 z, .int .i64 x1, .int .i64 x2]) P1 #[.int .i64 z, .int .i64 x1, .int .i64 x2] 38) := ⟨(K0.out.row _).grown (grown_row _ _ _) (fun e => HBd.out.x.2.2.2 (Option.some.inj e).symm), K1.out.row _⟩
      have KS : Hid (S (wd.setRow P0 (B3 (.slice d0 T.length e0) (.slice d1 L.length e1) (.slice d2 C.length e2)))) := (HSS.out _).2 ⟨HBd.out.k.grown (grown_row _ _ _) (fun e => by have := Option.some.inj e; have := HBd.out.d.lt; have := HBd.out.x; omega), HCd.out.grown (grown_row _ _ _) (fun e => by have := Option.some.inj e; have := HYL.out.2.2.2; have := HBd.out.x; omega)⟩
      refine anyZ_one 2 (by kernel_rfl) rfl ?_
      go_wp2_with (refine wpList_store_row rfl 27 _ _ rfl P0 (B3 (.slice d0 T.length e0) (.slice d1 L.length e1) (.slice d2 C.length e2)) rfl rfl 27 (B3 (.slice none 0 0) (.slice none 0 0) (.slice none 0 0)) K0.out (by kernel_rfl) rfl (by simp [Value.oneCell']) ?_)
      refine ⟨by first | exact KS.out | exact fun _ => KS.out, ?_⟩
      refine anyZ_one 3 (by kernel_rfl) rfl ?_
      go_wp2_with (refine wpList_store_row rfl 38 _ _ rfl P1 #[.int .i64 z, .int .i64 x1, .int .i64 x2] rfl rfl 38 #[.int .i64 0, .int .i64 0, .int .i64 0] K1.out (by kernel_rfl) rfl (by simp [Value.oneCell']) ?_)
      refine anyZ_end (by kernel_rfl) ?_
      clear HBd HCd HSS K0 K1 KS
      go_wp2
      exact bodyPost_ret (v := .tuple #[.agg (B3 (.slice d0 T.length e0) (.slice d1 L.length e1) (.slice d2 C.length e2)), .agg #[.int .i64 z, .int .i64 x1, .int .i64 x2]]) (results_BT rfl _ _ P0 P1 _ _ _ _ rfl rfl rfl KE.out.1 KE.out.2) rfl (HFF.out _ _ P0 P1 (.inl rfl) (.inr rfl))
    | false =>
      have HB : Hid (Ba w1 w6 g v zs X P0 P1 (.slice d0 T.length e0) (.slice d1 L.length e1) (.slice d2 C.length e2) T L C) := HB6.out
      have HC : Hid (Blk w6 Y #[.int .i64 x0, .int .i64 x1, .int .i64 x2] 38) := HC6.out
      clear HB6 HC6
      obtain ⟨S, hS⟩ : ∃ S : World → Prop, ∀ W, S W ↔ (Blk W X (B3 (.slice d0 T.length e0) (.slice d1 L.length e1) (.slice d2 C.length e2)) 27 ∧ Blk W Y #[.int .i64 x0, .int .i64 x1, .int .i64 x2] 38) := ⟨_, fun _ => Iff.rfl⟩
      have x0' : ∀ W : At S, W.wd.cell? ⟨X, 0, none⟩ = some (.slice d0 T.length e0) := fun W => by have := ((hS _).1 W.ok).1.cell 0; simpa using this
      have x1' : ∀ W : At S, W.wd.cell? ⟨X, 1, none⟩ = some (.slice d1 L.length e1) := fun W => by have := ((hS _).1 W.ok).1.cell 1; simpa using this
      have x2' : ∀ W : At S, W.wd.cell? ⟨X, 2, none⟩ = some (.slice d2 C.length e2) := fun W => by have := ((hS _).1 W.ok).1.cell 2; simpa using this
      have z0' : ∀ W : At S, W.wd.cell? ⟨Y, 0, none⟩ = some (.int .i64 x0) := fun W => by have := ((hS _).1 W.ok).2.cell 0; simpa using this
      have z1' : ∀ W : At S, W.wd.cell? ⟨Y, 1, none⟩ = some (.int .i64 x1) := fun W => by have := ((hS _).1 W.ok).2.cell 1; simpa using this
      have z2' : ∀ W : At S, W.wd.cell? ⟨Y, 2, none⟩ = some (.int .i64 x2) := fun W => by have := ((hS _).1 W.ok).2.cell 2; simpa using this
      have HSS : Hid (∀ W, S W ↔ (Blk W X (B3 (.slice d0 T.length e0) (.slice d1 L.length e1) (.slice d2 C.length e2)) 27 ∧ Blk W Y #[.int .i64 x0, .int .i64 x1, .int .i64 x2] 38)) := hS
      have ne : Nonempty (At S) := ⟨⟨w6, (hS _).2 ⟨HB.out.k, HC.out⟩⟩⟩
      have HBd : Hid (Ba w1 w6.drew g v zs X P0 P1 (.slice d0 T.length e0) (.slice d1 L.length e1) (.slice d2 C.length e2) T L C) := HB.out.below (Below.refl _ _).drew
      have HCd : Hid (Blk w6.drew Y #[.int .i64 x0, .int .i64 x1, .int .i64 x2] 38) := HC.out.below (Below.refl _ _).drew HC.out.lt
      clear hS
      go_upto_region 8 with fail
      refine region_anyZ S 3 (by kernel_rfl) ?_
      refine anyZ_quiet [true, true, false, false] 2 rfl (by kernel_rfl) (fun _ _ _ _ _ h => h) ((HSS.out _).2 ⟨HBd.out.k, HCd.out⟩) ?_
      simp only [selT]
      repeat (go_big_quiet_step (fail))
      refine wpQuiet_nil ?_
      clear x0' x1' x2' z0' z1' z2' ne HB HC
      obtain ⟨wd, hwd⟩ : ∃ W, w6.drew = W := ⟨_, rfl⟩
      rw [hwd] at HBd HCd ⊢
      clear hwd
      have HF := fun A B i j hi hj => HBd.out.fin HB1.out.1 HB1.out.2 x0 x1 x2 A B i j hi hj
      have HFF : Hid (∀ (A B : Array Value) (i j : Nat), i = P0 ∨ i = P1 → j = P0 ∨ j = P1 → DaR w (.returned (.tuple #[.agg (B3 (.slice d0 T.length e0) (.slice d1 L.length e1) (.slice d2 C.length e2)), .agg #[.int .i64 x0, .int .i64 x1, .int .i64 x2]])) ((wd.setRow i A).setRow j B)) := HF
      clear HF
      have K0 : Hid (Blk wd P0 (B3 (.slice none 0 0) (.slice none 0 0) (.slice none 0 0)) 27) := HBd.out.p0
      have K1 : Hid (Blk (wd.setRow P0 (B3 (.slice d0 T.length e0) (.slice d1 L.length e1) (.slice d2 C.length e2))) P1 #[.int .i64 0, .int .i64 0, .int .i64 0] 38) := HBd.out.p1.grown (grown_row _ _ _) (fun e => HBd.out.x.2.2.2 (Option.some.inj e))
      have KE : Hid (Blk ((wd.setRow P0 (B3 (.slice d0 T.length e0) (.slice d1 L.length e1) (.slice d2 C.length e2))).setRow P1 #[.int .i64 x0, .int .i64 x1, .int .i64 x2]) P0 (B3 (.slice d0 T.length e0) (.slice d1 L.length e1) (.slice d2 C.length e2)) 27 ∧ Blk ((wd.setRow P0 (B3 (.slice d0 T.length e0) (.slice d1 L.length e1) (.slice d2 C.length e2))).setRow P1 #[.int .i64 x0, .int .i64 x1, .int .i64 x2]) P1 #[.int .i64 x0, .int .i64 x1, .int .i64 x2] 38) := ⟨(K0.out.row _).grown (grown_row _ _ _) (fun e => HBd.out.x.2.2.2 (Option.some.inj e).symm), K1.out.row _⟩
      have KS : Hid (S (wd.setRow P0 (B3 (.slice d0 T.length e0) (.slice d1 L.length e1) (.slice d2 C.length e2)))) := (HSS.out _).2 ⟨HBd.out.k.grown (grown_row _ _ _) (fun e => by have := Option.some.inj e; have := HBd.out.d.lt; have := HBd.out.x; omega), HCd.out.grown (grown_row _ _ _) (fun e => by have := Option.some.inj e; have := HYL.out.2.2.2; have := HBd.out.x; omega)⟩
      refine anyZ_one 2 (by kernel_rfl) rfl ?_
      go_wp2_with (refine wpList_store_row rfl 27 _ _ rfl P0 (B3 (.slice d0 T.length e0) (.slice d1 L.length e1) (.slice d2 C.length e2)) rfl rfl 27 (B3 (.slice none 0 0) (.slice none 0 0) (.slice none 0 0)) K0.out (by kernel_rfl) rfl (by simp [Value.oneCell']) ?_)
      refine ⟨by first | exact KS.out | exact fun _ => KS.out, ?_⟩
      refine anyZ_one 3 (by kernel_rfl) rfl ?_
      go_wp2_with (refine wpList_store_row rfl 38 _ _ rfl P1 #[.int .i64 x0, .int .i64 x1, .int .i64 x2] rfl rfl 38 #[.int .i64 0, .int .i64 0, .int .i64 0] K1.out (by kernel_rfl) rfl (by simp [Value.oneCell']) ?_)
      refine anyZ_end (by kernel_rfl) ?_
      clear HBd HCd HSS K0 K1 KS
      go_wp2
      exact bodyPost_ret (v := .tuple #[.agg (B3 (.slice d0 T.length e0) (.slice d1 L.length e1) (.slice d2 C.length e2)), .agg #[.int .i64 x0, .int .i64 x1, .int .i64 x2]]) (results_BT rfl _ _ P0 P1 _ _ _ _ rfl rfl rfl KE.out.1 KE.out.2) rfl (HFF.out _ _ P0 P1 (.inl rfl) (.inr rfl))
  | false =>
    have HB : Hid (Ba w1 w4 g v zs X P0 P1 (.slice a0 ts.length c0) (.slice a1 ls.length c1) (.slice a2 cs.length c2) ts ls cs) := HB4.out
    clear HB4
    have y0 := HB.out.k.cell 0
    have y1 := HB.out.k.cell 1
    have y2 := HB.out.k.cell 2
    simp at y0 y1 y2
    have hn := HB.out.n
    go_upto_region 5 with fail
    go_wp2_with (fail)
    refine (drawTalk_c g v zs a0 a1 a2 ts.length c0 ls.length c1 cs.length c2 w4 HB.out.d.dr (by omega) (by omega)).mono ?_
    rintro e w5 ⟨x0, x1, x2, rfl, dd, gg⟩
    obtain ⟨Y, hY⟩ : ∃ X, w5.heap.size = X := ⟨_, rfl⟩
    obtain ⟨W5, hW⟩ : ∃ W, w5.alloc (Obj.cells #[.int .i64 x0, .int .i64 x1, .int .i64 x2] 38) = W := ⟨_, rfl⟩
    have hb5 := HB.out.draw dd gg
    have b : Below w5.heap.size w5 W5 := by rw [← hW]; exact (Below.refl _ _).alloc (Nat.le_refl _) _
    have HYL : Hid ((∀ k, InB (.slice a0 ts.length c0) (.slice a1 ls.length c1) (.slice a2 cs.length c2) k → k ≠ Y) ∧ X < Y ∧ w1.heap.size ≤ Y ∧ g < Y) := ⟨fun k hk => by have := (hb5.o.lt k hk).2; omega, by have := hb5.k.lt; omega, by have := hb5.d.gr.size; omega, by have := hb5.d.dr.lt; omega⟩
    have HB5 : Hid (Ba w1 W5 g v zs X P0 P1 (.slice a0 ts.length c0) (.slice a1 ls.length c1) (.slice a2 cs.length c2) ts ls cs) := hb5.below b
    have HC5 : Hid (Blk W5 Y #[.int .i64 x0, .int .i64 x1, .int .i64 x2] 38) := by show Blk _ _ _ _; rw [← hW, ← hY]; exact Blk.new _ _ _
    have E5 : Hid (w5.alloc (Obj.cells #[.int .i64 x0, .int .i64 x1, .int .i64 x2] 38) = W5 ∧ w5.heap.size = Y) := ⟨hW, hY⟩
    clear hW hY hb5 b dd gg HB y0 y1 y2
    go_upto_region 6 with fail
    rw [E5.out.1, E5.out.2]
    clear E5
    go_wp2_with (fail)
    refine (once_c g v zs 20 W5 HB5.out.d.dr (by omega)).mono ?_
    rintro e w6 ⟨q, rfl, dd, gg⟩
    have HB6 : Hid (Ba w1 w6 g v zs X P0 P1 (.slice a0 ts.length c0) (.slice a1 ls.length c1) (.slice a2 cs.length c2) ts ls cs) := HB5.out.draw dd gg
    have HC6 : Hid (Blk w6 Y #[.int .i64 x0, .int .i64 x1, .int .i64 x2] 38) := HC5.out.grown gg (fun e => by have := Option.some.inj e; have := HYL.out.2.2.2; omega)
    clear dd gg HB5 HC5
    cases q with
    | true =>
      have y1 := HB6.out.k.cell 1
      simp at y1
      obtain ⟨U, hU⟩ : ∃ X, w6.heap.size = X := ⟨_, rfl⟩
      obtain ⟨W7, hW⟩ : ∃ W, w6.alloc (Obj.cells #[.int .i64 (-1), .int .i64 (ls.length : Int)] 3) = W := ⟨_, rfl⟩
      have b : Below w6.heap.size w6 W7 := by rw [← hW]; exact (Below.refl _ _).alloc (Nat.le_refl _) _
      have HB7 : Hid (Ba w1 W7 g v zs X P0 P1 (.slice a0 ts.length c0) (.slice a1 ls.length c1) (.slice a2 cs.length c2) ts ls cs) := HB6.out.below b
      have HC7 : Hid (Blk W7 Y #[.int .i64 x0, .int .i64 x1, .int .i64 x2] 38) := HC6.out.below b HC6.out.lt
      have HR7 : Hid (Rd .i64 W7 (.slice (some ⟨U, 0, none⟩) 2 2) [-1, (ls.length : Int)]) := by show Rd _ _ _ _; rw [← hW, ← hU]; exact Rd.lit w6 [-1, (ls.length : Int)] (by simp)
      have HU : Hid (g < U) := by show _ < _; rw [← hU]; exact HB6.out.d.dr.lt
      have E7 : Hid (w6.alloc (Obj.cells #[.int .i64 (-1), .int .i64 (ls.length : Int)] 3) = W7 ∧ w6.heap.size = U) := ⟨hW, hU⟩
      clear hW hU b HB6 HC6
      go_wp2_with (fail)
      rw [E7.out.1, E7.out.2]
      clear E7 y1
      refine (pickInt_c g v zs _ [-1, (ls.length : Int)] W7 HB7.out.d.dr HR7.out (.inr (by have := HU.out; simp [Value.ownBlock]; omega)) (by simp) (by simp)).mono ?_
      rintro e w8 ⟨z, rfl, -, dd, gg⟩
      have HB8 : Hid (Ba w1 w8 g v zs X P0 P1 (.slice a0 ts.length c0) (.slice a1 ls.length c1) (.slice a2 cs.length c2) ts ls cs) := HB7.out.draw dd gg
      have HC8 : Hid (Blk w8 Y #[.int .i64 x0, .int .i64 x1, .int .i64 x2] 38) := HC7.out.grown gg (fun e => by have := Option.some.inj e; have := HYL.out.2.2.2; omega)
      clear dd gg HB7 HC7 HR7 HU
      have y0 := HC8.out.cell 0
      have f0 := HC8.out.frozen 0
      simp at y0
      obtain ⟨W9, hW9⟩ : ∃ W, w8.setCell ⟨Y, 0, none⟩ (.int .i64 z) = W := ⟨_, rfl⟩
      have HB : Hid (Ba w1 W9 g v zs X P0 P1 (.slice a0 ts.length c0) (.slice a1 ls.length c1) (.slice a2 cs.length c2) ts ls cs) := by show Ba _ _ _ _ _ _ _ _ _ _ _ _ _ _; rw [← hW9]; exact HB8.out.tk HYL.out.2.2.1 HYL.out.2.1 HYL.out.1
      have HC : Hid (Blk W9 Y #[.int .i64 z, .int .i64 x1, .int .i64 x2] 38) := by
        show Blk _ _ _ _
        rw [← hW9]
        have := HC8.out.set 0 (.int .i64 z)
        simpa using this
      have HW9 : Hid (w8.setCell ⟨Y, 0, none⟩ (.int .i64 z) = W9) := hW9
      clear hW9 HB8 HC8
      go_upto_region 8 with fail
      rw [HW9.out]
      clear HW9 y0 f0
      obtain ⟨S, hS⟩ : ∃ S : World → Prop, ∀ W, S W ↔ (Blk W X (B3 (.slice a0 ts.length c0) (.slice a1 ls.length c1) (.slice a2 cs.length c2)) 27 ∧ Blk W Y #[.int .i64 z, .int .i64 x1, .int .i64 x2] 38) := ⟨_, fun _ => Iff.rfl⟩
      have x0' : ∀ W : At S, W.wd.cell? ⟨X, 0, none⟩ = some (.slice a0 ts.length c0) := fun W => by have := ((hS _).1 W.ok).1.cell 0; simpa using this
      have x1' : ∀ W : At S, W.wd.cell? ⟨X, 1, none⟩ = some (.slice a1 ls.length c1) := fun W => by have := ((hS _).1 W.ok).1.cell 1; simpa using this
      have x2' : ∀ W : At S, W.wd.cell? ⟨X, 2, none⟩ = some (.slice a2 cs.length c2) := fun W => by have := ((hS _).1 W.ok).1.cell 2; simpa using this
      have z0' : ∀ W : At S, W.wd.cell? ⟨Y, 0, none⟩ = some (.int .i64 z) := fun W => by have := ((hS _).1 W.ok).2.cell 0; simpa using this
      have z1' : ∀ W : At S, W.wd.cell? ⟨Y, 1, none⟩ = some (.int .i64 x1) := fun W => by have := ((hS _).1 W.ok).2.cell 1; simpa using this
      have z2' : ∀ W : At S, W.wd.cell? ⟨Y, 2, none⟩ = some (.int .i64 x2) := fun W => by have := ((hS _).1 W.ok).2.cell 2; simpa using this
      have HSS : Hid (∀ W, S W ↔ (Blk W X (B3 (.slice a0 ts.length c0) (.slice a1 ls.length c1) (.slice a2 cs.length c2)) 27 ∧ Blk W Y #[.int .i64 z, .int .i64 x1, .int .i64 x2] 38)) := hS
      have ne : Nonempty (At S) := ⟨⟨W9, (hS _).2 ⟨HB.out.k, HC.out⟩⟩⟩
      have HBd : Hid (Ba w1 W9.drew g v zs X P0 P1 (.slice a0 ts.length c0) (.slice a1 ls.length c1) (.slice a2 cs.length c2) ts ls cs) := HB.out.below (Below.refl _ _).drew
      have HCd : Hid (Blk W9.drew Y #[.int .i64 z, .int .i64 x1, .int .i64 x2] 38) := HC.out.below (Below.refl _ _).drew HC.out.lt
      clear hS
      refine region_anyZ S 3 (by kernel_rfl) ?_
      refine anyZ_quiet [true, true, false, false] 2 rfl (by kernel_rfl) (fun _ _ _ _ _ h => h) ((HSS.out _).2 ⟨HBd.out.k, HCd.out⟩) ?_
      simp only [selT]
      repeat (go_big_quiet_step (fail))
      refine wpQuiet_nil ?_
      clear x0' x1' x2' z0' z1' z2' ne HB HC
      obtain ⟨wd, hwd⟩ : ∃ W, W9.drew = W := ⟨_, rfl⟩
      rw [hwd] at HBd HCd ⊢
      clear hwd
      have HF := fun A B i j hi hj => HBd.out.fin HB1.out.1 HB1.out.2 z x1 x2 A B i j hi hj
      have HFF : Hid (∀ (A B : Array Value) (i j : Nat), i = P0 ∨ i = P1 → j = P0 ∨ j = P1 → DaR w (.returned (.tuple #[.agg (B3 (.slice a0 ts.length c0) (.slice a1 ls.length c1) (.slice a2 cs.length c2)), .agg #[.int .i64 z, .int .i64 x1, .int .i64 x2]])) ((wd.setRow i A).setRow j B)) := HF
      clear HF
      have K0 : Hid (Blk wd P0 (B3 (.slice none 0 0) (.slice none 0 0) (.slice none 0 0)) 27) := HBd.out.p0
      have K1 : Hid (Blk (wd.setRow P0 (B3 (.slice a0 ts.length c0) (.slice a1 ls.length c1) (.slice a2 cs.length c2))) P1 #[.int .i64 0, .int .i64 0, .int .i64 0] 38) := HBd.out.p1.grown (grown_row _ _ _) (fun e => HBd.out.x.2.2.2 (Option.some.inj e))
      have KE : Hid (Blk ((wd.setRow P0 (B3 (.slice a0 ts.length c0) (.slice a1 ls.length c1) (.slice a2 cs.length c2))).setRow P1 #[.int .i64 z, .int .i64 x1, .int .i64 x2]) P0 (B3 (.slice a0 ts.length c0) (.slice a1 ls.length c1) (.slice a2 cs.length c2)) 27 ∧ Blk ((wd.setRow P0 (B3 (.slice a0 ts.length c0) (.slice a1 ls.length c1) (.slice a2 cs.length c2))).setRow P1 #[.int .i64 z, .int .i64 x1, .int .i64 x2]) P1 #[.int .i64 z, .int .i64 x1, .int .i64 x2] 38) := ⟨(K0.out.row _).grown (grown_row _ _ _) (fun e => HBd.out.x.2.2.2 (Option.some.inj e).symm), K1.out.row _⟩
      have KS : Hid (S (wd.setRow P0 (B3 (.slice a0 ts.length c0) (.slice a1 ls.length c1) (.slice a2 cs.length c2)))) := (HSS.out _).2 ⟨HBd.out.k.grown (grown_row _ _ _) (fun e => by have := Option.some.inj e; have := HBd.out.d.lt; have := HBd.out.x; omega), HCd.out.grown (grown_row _ _ _) (fun e => by have := Option.some.inj e; have := HYL.out.2.2.2; have := HBd.out.x; omega)⟩
      refine anyZ_one 2 (by kernel_rfl) rfl ?_
      go_wp2_with (refine wpList_store_row rfl 27 _ _ rfl P0 (B3 (.slice a0 ts.length c0) (.slice a1 ls.length c1) (.slice a2 cs.length c2)) rfl rfl 27 (B3 (.slice none 0 0) (.slice none 0 0) (.slice none 0 0)) K0.out (by kernel_rfl) rfl (by simp [Value.oneCell']) ?_)
      refine ⟨by first | exact KS.out | exact fun _ => KS.out, ?_⟩
      refine anyZ_one 3 (by kernel_rfl) rfl ?_
      go_wp2_with (refine wpList_store_row rfl 38 _ _ rfl P1 #[.int .i64 z, .int .i64 x1, .int .i64 x2] rfl rfl 38 #[.int .i64 0, .int .i64 0, .int .i64 0] K1.out (by kernel_rfl) rfl (by simp [Value.oneCell']) ?_)
      refine anyZ_end (by kernel_rfl) ?_
      clear HBd HCd HSS K0 K1 KS
      go_wp2
      exact bodyPost_ret (v := .tuple #[.agg (B3 (.slice a0 ts.length c0) (.slice a1 ls.length c1) (.slice a2 cs.length c2)), .agg #[.int .i64 z, .int .i64 x1, .int .i64 x2]]) (results_BT rfl _ _ P0 P1 _ _ _ _ rfl rfl rfl KE.out.1 KE.out.2) rfl (HFF.out _ _ P0 P1 (.inl rfl) (.inr rfl))
    | false =>
      have HB : Hid (Ba w1 w6 g v zs X P0 P1 (.slice a0 ts.length c0) (.slice a1 ls.length c1) (.slice a2 cs.length c2) ts ls cs) := HB6.out
      have HC : Hid (Blk w6 Y #[.int .i64 x0, .int .i64 x1, .int .i64 x2] 38) := HC6.out
      clear HB6 HC6
      obtain ⟨S, hS⟩ : ∃ S : World → Prop, ∀ W, S W ↔ (Blk W X (B3 (.slice a0 ts.length c0) (.slice a1 ls.length c1) (.slice a2 cs.length c2)) 27 ∧ Blk W Y #[.int .i64 x0, .int .i64 x1, .int .i64 x2] 38) := ⟨_, fun _ => Iff.rfl⟩
      have x0' : ∀ W : At S, W.wd.cell? ⟨X, 0, none⟩ = some (.slice a0 ts.length c0) := fun W => by have := ((hS _).1 W.ok).1.cell 0; simpa using this
      have x1' : ∀ W : At S, W.wd.cell? ⟨X, 1, none⟩ = some (.slice a1 ls.length c1) := fun W => by have := ((hS _).1 W.ok).1.cell 1; simpa using this
      have x2' : ∀ W : At S, W.wd.cell? ⟨X, 2, none⟩ = some (.slice a2 cs.length c2) := fun W => by have := ((hS _).1 W.ok).1.cell 2; simpa using this
      have z0' : ∀ W : At S, W.wd.cell? ⟨Y, 0, none⟩ = some (.int .i64 x0) := fun W => by have := ((hS _).1 W.ok).2.cell 0; simpa using this
      have z1' : ∀ W : At S, W.wd.cell? ⟨Y, 1, none⟩ = some (.int .i64 x1) := fun W => by have := ((hS _).1 W.ok).2.cell 1; simpa using this
      have z2' : ∀ W : At S, W.wd.cell? ⟨Y, 2, none⟩ = some (.int .i64 x2) := fun W => by have := ((hS _).1 W.ok).2.cell 2; simpa using this
      have HSS : Hid (∀ W, S W ↔ (Blk W X (B3 (.slice a0 ts.length c0) (.slice a1 ls.length c1) (.slice a2 cs.length c2)) 27 ∧ Blk W Y #[.int .i64 x0, .int .i64 x1, .int .i64 x2] 38)) := hS
      have ne : Nonempty (At S) := ⟨⟨w6, (hS _).2 ⟨HB.out.k, HC.out⟩⟩⟩
      have HBd : Hid (Ba w1 w6.drew g v zs X P0 P1 (.slice a0 ts.length c0) (.slice a1 ls.length c1) (.slice a2 cs.length c2) ts ls cs) := HB.out.below (Below.refl _ _).drew
      have HCd : Hid (Blk w6.drew Y #[.int .i64 x0, .int .i64 x1, .int .i64 x2] 38) := HC.out.below (Below.refl _ _).drew HC.out.lt
      clear hS
      go_upto_region 8 with fail
      refine region_anyZ S 3 (by kernel_rfl) ?_
      refine anyZ_quiet [true, true, false, false] 2 rfl (by kernel_rfl) (fun _ _ _ _ _ h => h) ((HSS.out _).2 ⟨HBd.out.k, HCd.out⟩) ?_
      simp only [selT]
      repeat (go_big_quiet_step (fail))
      refine wpQuiet_nil ?_
      clear x0' x1' x2' z0' z1' z2' ne HB HC
      obtain ⟨wd, hwd⟩ : ∃ W, w6.drew = W := ⟨_, rfl⟩
      rw [hwd] at HBd HCd ⊢
      clear hwd
      have HF := fun A B i j hi hj => HBd.out.fin HB1.out.1 HB1.out.2 x0 x1 x2 A B i j hi hj
      have HFF : Hid (∀ (A B : Array Value) (i j : Nat), i = P0 ∨ i = P1 → j = P0 ∨ j = P1 → DaR w (.returned (.tuple #[.agg (B3 (.slice a0 ts.length c0) (.slice a1 ls.length c1) (.slice a2 cs.length c2)), .agg #[.int .i64 x0, .int .i64 x1, .int .i64 x2]])) ((wd.setRow i A).setRow j B)) := HF
      clear HF
      have K0 : Hid (Blk wd P0 (B3 (.slice none 0 0) (.slice none 0 0) (.slice none 0 0)) 27) := HBd.out.p0
      have K1 : Hid (Blk (wd.setRow P0 (B3 (.slice a0 ts.length c0) (.slice a1 ls.length c1) (.slice a2 cs.length c2))) P1 #[.int .i64 0, .int .i64 0, .int .i64 0] 38) := HBd.out.p1.grown (grown_row _ _ _) (fun e => HBd.out.x.2.2.2 (Option.some.inj e))
      have KE : Hid (Blk ((wd.setRow P0 (B3 (.slice a0 ts.length c0) (.slice a1 ls.length c1) (.slice a2 cs.length c2))).setRow P1 #[.int .i64 x0, .int .i64 x1, .int .i64 x2]) P0 (B3 (.slice a0 ts.length c0) (.slice a1 ls.length c1) (.slice a2 cs.length c2)) 27 ∧ Blk ((wd.setRow P0 (B3 (.slice a0 ts.length c0) (.slice a1 ls.length c1) (.slice a2 cs.length c2))).setRow P1 #[.int .i64 x0, .int .i64 x1, .int .i64 x2]) P1 #[.int .i64 x0, .int .i64 x1, .int .i64 x2] 38) := ⟨(K0.out.row _).grown (grown_row _ _ _) (fun e => HBd.out.x.2.2.2 (Option.some.inj e).symm), K1.out.row _⟩
      have KS : Hid (S (wd.setRow P0 (B3 (.slice a0 ts.length c0) (.slice a1 ls.length c1) (.slice a2 cs.length c2)))) := (HSS.out _).2 ⟨HBd.out.k.grown (grown_row _ _ _) (fun e => by have := Option.some.inj e; have := HBd.out.d.lt; have := HBd.out.x; omega), HCd.out.grown (grown_row _ _ _) (fun e => by have := Option.some.inj e; have := HYL.out.2.2.2; have := HBd.out.x; omega)⟩
      refine anyZ_one 2 (by kernel_rfl) rfl ?_
      go_wp2_with (refine wpList_store_row rfl 27 _ _ rfl P0 (B3 (.slice a0 ts.length c0) (.slice a1 ls.length c1) (.slice a2 cs.length c2)) rfl rfl 27 (B3 (.slice none 0 0) (.slice none 0 0) (.slice none 0 0)) K0.out (by kernel_rfl) rfl (by simp [Value.oneCell']) ?_)
      refine ⟨by first | exact KS.out | exact fun _ => KS.out, ?_⟩
      refine anyZ_one 3 (by kernel_rfl) rfl ?_
      go_wp2_with (refine wpList_store_row rfl 38 _ _ rfl P1 #[.int .i64 x0, .int .i64 x1, .int .i64 x2] rfl rfl 38 #[.int .i64 0, .int .i64 0, .int .i64 0] K1.out (by kernel_rfl) rfl (by simp [Value.oneCell']) ?_)
      refine anyZ_end (by kernel_rfl) ?_
      clear HBd HCd HSS K0 K1 KS
      go_wp2
      exact bodyPost_ret (v := .tuple #[.agg (B3 (.slice a0 ts.length c0) (.slice a1 ls.length c1) (.slice a2 cs.length c2)), .agg #[.int .i64 x0, .int .i64 x1, .int .i64 x2]]) (results_BT rfl _ _ P0 P1 _ _ _ _ rfl rfl rfl KE.out.1 KE.out.2) rfl (HFF.out _ _ P0 P1 (.inl rfl) (.inr rfl))

end Go.Proofs.YtmfmlbiplagmiaaDoor
