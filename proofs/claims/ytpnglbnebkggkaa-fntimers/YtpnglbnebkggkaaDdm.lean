/- What Dial tells with one digit more; no condition. -/
import Derived.Test.YtpnglbnebkggkaaOvD
namespace Go.Proofs.Ytpnglbnebkggkaa
open Go.RowKit Go.ChangeShapes Go.WideShapes Go.ChangeAt
set_option linter.unusedVariables false
set_option linter.unusedSimpArgs false
set_option maxRecDepth 8000
theorem sz_list (s : ByteArray) : s.size = s.data.toList.length := (Array.length_toList (xs := s.data)).symm
theorem ba_loop (s : ByteArray) : ∀ (n i : Nat) (r : List UInt8), s.size - i = n → ByteArray.toList.loop s i r = r.reverse ++ s.data.toList.drop i := by
  intro n
  induction n with
  | zero =>
    intro i r h
    rw [ByteArray.toList.loop, if_neg (by omega)]
    rw [List.drop_eq_nil_of_le (by have := sz_list s; omega)]; simp
  | succ n ih =>
    intro i r h
    have hi : i < s.size := by omega
    rw [ByteArray.toList.loop, if_pos hi, ih (i + 1) _ (by omega)]
    have : i < s.data.toList.length := by have := sz_list s; omega
    rw [List.drop_eq_getElem_cons this]
    have e : s.get! i = s.data.toList[i] := by
      show s.data[i]! = _
      rw [getElem!_pos s.data i hi, Array.getElem_toList]
    rw [e]; simp
theorem ba_list (s : ByteArray) : s.toList = s.data.toList := by
  rw [ByteArray.toList, ba_loop s s.size 0 [] (by omega)]; simp
theorem beg_iff (s t : ByteArray) : begB s t = true ↔ t.data.toList <+: s.data.toList := by
  rw [begB, Bool.and_eq_true, decide_eq_true_eq, beq_iff_eq, ba_list, ba_list, ByteArray.data_extract, Array.toList_extract, List.prefix_iff_eq_take, sz_list, sz_list]
  simp only [List.extract, List.drop_zero, Nat.sub_zero]
  constructor
  · rintro ⟨h1, h2⟩; exact h2.symm
  · intro h
    refine ⟨?_, h.symm⟩
    have := congrArg List.length h
    rw [List.length_take] at this; omega
theorem app_data (s d : ByteArray) : (s ++ d).data.toList = s.data.toList ++ d.data.toList := by
  rw [ByteArray.data_append, Array.toList_append]
theorem beg_app {s d t : ByteArray} (h : begB s t = true) : begB (s ++ d) t = true := by
  rw [beg_iff] at h ⊢; rw [app_data]; exact h.trans (List.prefix_append _ _)
theorem app_beg {s d t : ByteArray} (hd : d.size = 1) (h : begB (s ++ d) t = true) : begB s t = true ∨ (s.size < t.size ∧ begB t s = true) := by
  rw [beg_iff, app_data] at h
  by_cases hl : t.size ≤ s.size
  · left
    rw [beg_iff]
    exact List.prefix_of_prefix_length_le h (List.prefix_append _ _) (by rw [← sz_list, ← sz_list]; exact hl)
  · right
    refine ⟨by omega, ?_⟩
    rw [beg_iff]
    exact List.prefix_of_prefix_length_le (List.prefix_append _ _) h (by rw [← sz_list, ← sz_list]; omega)
theorem beg_short {s d t : ByteArray} (h : begB t (s ++ d) = true) : begB t s = true := by
  rw [beg_iff, app_data] at h; rw [beg_iff]; exact (List.prefix_append _ _).trans h
theorem lfi_congr {q q' : Rl → Bool} {ls : Rls} (h : ∀ r ∈ ls, q r = q' r) : ∀ j, lfi q ls j = lfi q' ls j
  | 0 => rfl
  | j + 1 => by
    rw [lfi, lfi, lfi_congr h j]
    cases hj : ls[j]? with
    | none => rfl
    | some r => simp only [h r (List.mem_of_getElem? hj)]
/-- what a rule that counts tells -/
theorem dial_rule {ls : Rls} {s : ByteArray} {c ro : Int} {nu : ByteArray} {k : Int} (h : DialS ls s (c, ro, nu, k)) (hc : c = 2 ∨ c = 1) : ∃ i : Nat, ∃ hi : i < ls.length, k = (i : Int) ∧ ro = ls[i].ro ∧ nu = numV ls[i] s ∧ RuleOk ls[i] ∧ DgOk s ∧ ls[i].le ≤ (s.size : Int) ∧ (s.size : Int) ≤ ls[i].mo := by
  rcases h with ⟨_, n⟩ | ⟨⟨ho, hs⟩, h⟩
  · have := congrArg Prod.fst n; simp at this; omega
  have fin : ∀ {c' b : Int}, OfS ls s c' b (c, ro, nu, k) → ∃ i : Nat, ∃ hi : i < ls.length, b = (i : Int) ∧ k = (i : Int) ∧ ro = ls[i].ro ∧ nu = numV ls[i] s ∧ RuleOk ls[i] := fun {c' b} ⟨i, hi, e1, e2⟩ => by
    simp only [Prod.mk.injEq] at e2
    exact ⟨i, hi, e1, e2.2.2.2, e2.2.1, e2.2.2.1, (ho.2 i hi hi).1⟩
  have nof : ∀ {c'}, NoS c' (c, ro, nu, k) → c' ≠ 2 → c' ≠ 1 → False := fun {c'} n h2 h1 => by
    have e : c = c' := congrArg Prod.fst n
    rcases hc with hc | hc
    · exact h2 (e.symm.trans hc)
    · exact h1 (e.symm.trans hc)
  rcases h with ⟨h1, h2⟩ | ⟨h1, h2⟩
  · obtain ⟨i, hi, e1, e2, e3, e4, e5⟩ := fin h2
    obtain ⟨i', hi', e1', _, hq⟩ := lfi_at ls.length (Nat.le_refl _) h1
    obtain rfl : i = i' := by omega
    simp only [qF, Bool.and_eq_true, decide_eq_true_eq] at hq
    exact ⟨i, hi, e2, e3, e4, e5, hs, hq.2.2.1, hq.2.2.2⟩
  · rcases h2 with ⟨h2, h3⟩ | ⟨k', hk', h2, h3⟩
    · exact (nof h3 (by split <;> decide) (by split <;> decide)).elim
    · rcases h3 with ⟨_, h3⟩ | ⟨_, h3⟩ | ⟨h4, h3⟩ | ⟨h4, h3⟩
      · exact (nof h3 (by decide) (by decide)).elim
      · exact (nof h3 (by split <;> decide) (by split <;> decide)).elim
      · obtain ⟨i, hi, e1, e2, e3, e4, e5⟩ := fin h3
        obtain rfl : i = k' := by omega
        exact ⟨i, hi, e2, e3, e4, e5, hs, h4.1, by omega⟩
      · obtain ⟨i, hi, e1, e2, e3, e4, e5⟩ := fin h3
        obtain rfl : i = k' := by omega
        exact ⟨i, hi, e2, e3, e4, e5, hs, h4.1, h4.2.1⟩
/-- where no rule counts nothing is told -/
theorem dial_none {ls : Rls} {s : ByteArray} {c ro : Int} {nu : ByteArray} {k : Int} (h : DialS ls s (c, ro, nu, k)) (hc2 : c ≠ 2) (hc1 : c ≠ 1) : nu = ⟨#[]⟩ ∧ k = -1 := by
  have nof : ∀ {c'}, NoS c' (c, ro, nu, k) → nu = ⟨#[]⟩ ∧ k = -1 := fun {c'} n => by
    have n' : (c, ro, nu, k) = (c', -1, ⟨#[]⟩, -1) := n
    simp only [Prod.mk.injEq] at n'; exact ⟨n'.2.2.1, n'.2.2.2⟩
  have ofs : ∀ {c' b : Int}, OfS ls s c' b (c, ro, nu, k) → c = c' := fun {c' b} ⟨i, hi, e1, e2⟩ => by
    simp only [Prod.mk.injEq] at e2; exact e2.1
  rcases h with ⟨_, n⟩ | ⟨_, h⟩
  · exact nof n
  rcases h with ⟨_, h2⟩ | ⟨_, h2⟩
  · exact absurd (ofs h2) hc2
  · rcases h2 with ⟨_, h3⟩ | ⟨k', hk', _, h3⟩
    · exact nof h3
    · rcases h3 with ⟨_, h3⟩ | ⟨_, h3⟩ | ⟨_, h3⟩ | ⟨_, h3⟩
      · exact nof h3
      · exact nof h3
      · exact absurd (ofs h3) hc2
      · exact absurd (ofs h3) hc1
/-- what is done by a rule that is no emergency is none, or an emergency, with one digit more -/
theorem dial_next {ls : Rls} {s d : ByteArray} {c ro : Int} {nu : ByteArray} {k : Int} {c' ro' : Int} {nu' : ByteArray} {k' : Int} (hd1 : d.size = 1) (hdg : DgOk d) (h20 : s.size < 20) (h : DialS ls s (c, ro, nu, k)) (h2 : c = 2) (hr : ro ≠ 0) (h' : DialS ls (s ++ d) (c', ro', nu', k')) : c' = 3 ∨ (c' = 2 ∧ ro' = 0) := by
  have nof : ∀ {x c1 : Int}, NoS c1 (x, ro, nu, k) → x = c1 := fun {x c1} n => congrArg Prod.fst n
  rcases h with ⟨_, n⟩ | ⟨⟨ho, hs⟩, h⟩
  · have := nof n; omega
  have hs' : DgOk (s ++ d) := dg_app hs hdg (by omega)
  have hsz : (s ++ d).size = s.size + 1 := by rw [ByteArray.size_append, hd1]
  rcases h with ⟨h1, i, hi, e1, e2⟩ | ⟨h1, h⟩
  · obtain ⟨i', hi', e1', _, hq⟩ := lfi_at ls.length (Nat.le_refl _) h1
    obtain rfl : i = i' := by omega
    simp only [qF, Bool.and_eq_true, beq_iff_eq] at hq
    simp only [Prod.mk.injEq] at e2
    exact absurd (e2.2.1.trans hq.2.1) hr
  rcases h with ⟨_, n⟩ | ⟨m, hm, e1, h⟩
  · have := nof n; split at this <;> omega
  rcases h with ⟨_, n⟩ | ⟨_, n⟩ | ⟨⟨q1, q2, q3⟩, _⟩ | ⟨_, i, hi, _, e2⟩
  · have := nof n; omega
  · have := nof n; split at this <;> omega
  · have hno : ∀ r ∈ ls, oB s r = false := fun r hr => by
      have := List.any_eq_false.1 q3 r hr; simpa using this
    have hqq : ∀ r ∈ ls, qB (s ++ d) r = qB s r := fun r hr => by
      rw [Bool.eq_iff_iff]
      unfold qB
      constructor
      · intro hb
        rcases app_beg hd1 hb with hb | ⟨hl, hb⟩
        · exact hb
        · have := hno r hr
          rw [oB, decide_eq_true hl, hb] at this; cases this
      · exact beg_app
    have hop : ls.any (oB (s ++ d)) = false := by
      rw [List.any_eq_false]
      intro r hr hb
      rw [oB, Bool.and_eq_true, decide_eq_true_eq, hsz] at hb
      have := hno r hr
      rw [oB, decide_eq_true (by omega), beg_short hb.2] at this; cases this
    rcases h' with ⟨g, _⟩ | ⟨_, h'⟩
    · exact absurd ⟨ho, hs'⟩ g
    rcases h' with ⟨h1', i, hi, e1', e2'⟩ | ⟨_, h'⟩
    · obtain ⟨i', hi', e1'', _, hq⟩ := lfi_at ls.length (Nat.le_refl _) h1'
      obtain rfl : i = i' := by omega
      simp only [qF, Bool.and_eq_true, beq_iff_eq] at hq
      simp only [Prod.mk.injEq] at e2'
      exact .inr ⟨e2'.1, e2'.2.1.trans hq.2.1⟩
    rw [lfi_congr hqq] at h'
    rcases h' with ⟨g, _⟩ | ⟨m', hm', e1', h'⟩
    · omega
    obtain rfl : m = m' := by omega
    rcases h' with ⟨g, _⟩ | ⟨_, n⟩ | ⟨g, _⟩ | ⟨g, _⟩
    · omega
    · have hn : (c', ro', nu', k') = (if ls.any (oB (s ++ d)) = true then (0 : Int) else 3, -1, ⟨#[]⟩, -1) := n
      rw [hop] at hn
      simp only [Prod.mk.injEq] at hn
      exact .inl hn.1
    · omega
    · omega
  · simp only [Prod.mk.injEq] at e2; omega
/-- the law's written example -/
theorem dial_one {c ro : Int} {nu : ByteArray} {k : Int} (h : DialS [⟨⟨#[49]⟩, 1, 1, 3, 0, ⟨#[]⟩⟩] ⟨#[49]⟩ (c, ro, nu, k)) : c = 2 ∧ ro = 3 ∧ nu = ⟨#[49]⟩ := by
  have d1 : DgOk ⟨#[49]⟩ := ⟨by decide, fun i hi _ => by
    have h0 : i = 0 := by have : i < 1 := hi; omega
    subst h0
    have e : ((⟨#[49]⟩ : ByteArray)[0]'hi).toNat = 49 := rfl
    rw [e]; exact .inl ⟨by omega, by omega⟩⟩
  have d0 : DgOk ⟨#[]⟩ := ⟨by decide, fun i hi _ => absurd hi (Nat.not_lt_zero i)⟩
  have hro : RuleOk ⟨⟨#[49]⟩, 1, 1, 3, 0, ⟨#[]⟩⟩ := ⟨⟨d1, by decide⟩, by decide, by decide, by decide, ⟨by decide, by decide⟩, ⟨by decide, by decide⟩, d0, by decide⟩
  have hok : RsOk [⟨⟨#[49]⟩, 1, 1, 3, 0, ⟨#[]⟩⟩] := ⟨by decide, fun i hi _ => by
    have : i = 0 := by simpa using hi
    subst this
    exact ⟨hro, fun k hk => absurd hk (Nat.not_lt_zero k)⟩⟩
  have hb : begB ⟨#[49]⟩ ⟨#[49]⟩ = true := by rw [beg_iff]; exact List.prefix_refl _
  have hB : lfi (qB ⟨#[49]⟩) [⟨⟨#[49]⟩, 1, 1, 3, 0, ⟨#[]⟩⟩] 1 = ((0 : Nat) : Int) := by
    rw [lfi_succ (by decide)]; simp [lfi, qB, hb]
  have hF : lfi (qF ⟨#[49]⟩) [⟨⟨#[49]⟩, 1, 1, 3, 0, ⟨#[]⟩⟩] 1 = -1 := by
    rw [lfi_succ (by decide)]; simp [lfi, qF]
  have hn : numV ⟨⟨#[49]⟩, 1, 1, 3, 0, ⟨#[]⟩⟩ ⟨#[49]⟩ = ⟨#[49]⟩ := by decide
  have hg : DialS [⟨⟨#[49]⟩, 1, 1, 3, 0, ⟨#[]⟩⟩] ⟨#[49]⟩ (2, 3, ⟨#[49]⟩, 0) := by
    refine .inr ⟨⟨hok, d1⟩, .inr ⟨by show lfi _ _ 1 < 0; rw [hF]; decide, .inr ⟨0, by decide, hB, .inr (.inr (.inl ⟨⟨by decide, by decide, ?_⟩, 0, by decide, rfl, ?_⟩))⟩⟩⟩
    · simp [oB]
    · simp [hn]
  have := h.same hg
  simp only [Prod.mk.injEq] at this
  exact ⟨this.1, this.2.1, this.2.2.1⟩
end Go.Proofs.Ytpnglbnebkggkaa
