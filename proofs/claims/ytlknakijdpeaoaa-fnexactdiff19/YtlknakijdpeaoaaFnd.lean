/- Find19, on both sides; no condition. -/
import Derived.Test.YtlknakijdpeaoaaSom
import Derived.Test.YtlknakijdpeaoaaSoi
import Derived.Test.YtlknakijdpeaoaaBsf
import Derived.Test.YtlknakijdpeaoaaClo
namespace Go.Proofs.Ytlknakijdpeaoaa
open Go.RowKit Go.ChangeShapes Go.WideShapes Go.ChangeAt
set_option linter.unusedVariables false
set_option linter.unusedSimpArgs false
set_option maxRecDepth 8000

/-- what Find19 tells -/
def FdP (ls : Ses) (x v : ByteArray) (q : Bool) : Prop := (q = true ∧ sB ls = true ∧ ∃ i, ∃ h : i < ls.length, ls[i].nm = x ∧ v = ls[i].vl) ∨ (q = false ∧ v = ⟨#[]⟩ ∧ (sB ls = false ∨ ∀ r ∈ ls, r.nm ≠ x))
theorem asc_sB {ls : Ses} (h : sB ls = true) : Asc ls := asc_of (sB_of h).2.2
theorem FdP.same {ls : Ses} {x v v' : ByteArray} {q q' : Bool} (h : FdP ls x v q) (h' : FdP ls x v' q') : v = v' ∧ q = q' := by
  rcases h with ⟨rfl, hs, i, hi, h1, h2⟩ | ⟨rfl, rfl, h2⟩
  · rcases h' with ⟨rfl, hs', k, hk, h1', h2'⟩ | ⟨rfl, rfl, h2'⟩
    · have ha := asc_sB hs
      have : i = k := by
        rcases Nat.lt_trichotomy i k with hl | rfl | hl
        · have := bl_ne (ha i k hk hl); rw [h1, h1'] at this; exact absurd rfl this
        · rfl
        · have := bl_ne (ha k i hi hl); rw [h1, h1'] at this; exact absurd rfl this
      subst this
      exact ⟨h2.trans h2'.symm, rfl⟩
    · rcases h2' with h2' | h2'
      · rw [hs] at h2'; cases h2'
      · exact absurd h1 (h2' _ (List.getElem_mem hi))
  · rcases h' with ⟨rfl, hs', k, hk, h1', h2'⟩ | ⟨rfl, rfl, h2'⟩
    · rcases h2 with h2 | h2
      · rw [hs'] at h2; cases h2
      · exact absurd h1' (h2 _ (List.getElem_mem hk))
    · exact ⟨rfl, rfl⟩
def FdR (ls : Ses) (x : ByteArray) (w : World) (e : Ending) (w' : World) : Prop := ∃ (v : ByteArray) (q : Bool), e = .returned (.tuple #[.string v, .bool q]) ∧ FdP ls x v q ∧ Below w.heap.size w w'
theorem plc_no {ls : Ses} {x : ByteArray} {p : Nat} (h : Plc ls x p) (ha : Asc ls) (hq : ¬ ∃ h : p < ls.length, ls[p].nm = x) : ∀ r ∈ ls, r.nm ≠ x := by
  intro r hr e
  obtain ⟨i, hi, rfl⟩ := List.getElem_of_mem hr
  have h1 : p ≤ i := by
    cases Nat.lt_or_ge i p with
    | inl hl => have := bl_ne (h.2.1 i hi hl); exact absurd e this
    | inr hg => exact hg
  by_cases hpi : p = i
  · subst hpi; exact hq ⟨hi, e⟩
  · have h2 := ha p i hi (by omega)
    rw [e] at h2
    have h3 := h.2.2 p (by omega) (Nat.le_refl _)
    rw [h2] at h3; cases h3
set_option maxHeartbeats 1600000 in
theorem place_c (v : Value) (ls : Ses) (x : ByteArray) (w : World) (h : Rs w v ls) (ha : Asc ls) (hln : ls.length ≤ 1048576) : Calls Try.prog 52 #[v, .string x] w (BsR ls x w) := by
  go_enter Try.func52, Try.ntmps52
  go_wp2_with (fail)
  refine (bs_c v ls x w h ha hln).mono ?_
  rintro e w2 ⟨p, q, rfl, hp, hq, b2⟩
  have HB : Hid (Below w.heap.size w w2) := b2
  have HP : Hid (Plc ls x p) := hp
  have HQ : Hid (q = true ↔ ∃ h : p < ls.length, ls[p].nm = x) := hq
  clear b2 hp hq
  go_wp2
  go_ret2
  exact ⟨p, q, rfl, HP.out, HQ.out, HB.out⟩
/-- what valueOf tells -/
def VoR (ls : Ses) (x : ByteArray) (w : World) (e : Ending) (w' : World) : Prop := ∃ (v : ByteArray) (q : Bool), e = .returned (.tuple #[.string v, .bool q]) ∧ ((q = true ∧ ∃ i, ∃ h : i < ls.length, ls[i].nm = x ∧ v = ls[i].vl) ∨ (q = false ∧ v = ⟨#[]⟩ ∧ ∀ r ∈ ls, r.nm ≠ x)) ∧ Below w.heap.size w w'
set_option maxHeartbeats 3200000 in
theorem valueOf_c (v : Value) (ls : Ses) (x : ByteArray) (w : World) (h : Rs w v ls) (ha : Asc ls) (hln : ls.length ≤ 1048576) : Calls Try.prog 38 #[v, .string x] w (VoR ls x w) := by
  have h' := h
  obtain ⟨a, cap, rfl, h1, h2, h3⟩ := h
  have HA : Hid (Asc ls) := ha
  unfold maxLen at h2
  clear ha
  go_enter Try.func38, Try.ntmps38
  go_wp2_with (fail)
  refine (place_c _ ls x w h' HA.out hln).mono ?_
  rintro e w2 ⟨p, q, rfl, hp, hq, b2⟩
  have HB : Hid (Below w.heap.size w w2) := b2
  have HP : Hid (Plc ls x p) := hp
  have HQ : Hid (q = true ↔ ∃ h : p < ls.length, ls[p].nm = x) := hq
  clear b2 hp hq h'
  cases q with
  | false =>
    have HN : Hid (∀ r ∈ ls, r.nm ≠ x) := plc_no HP.out HA.out (fun h => by have := HQ.out.2 h; cases this)
    clear h3 HQ
    go_wp2
    go_ret2
    exact ⟨_, false, rfl, .inr ⟨rfl, rfl, HN.out⟩, HB.out⟩
  | true =>
    obtain ⟨hpl, hpn⟩ := HQ.out.1 rfl
    have hplI : (p : Int) < (ls.length : Int) := by omega
    rcases h3 with h3 | ⟨b, off, rfl, h4⟩
    · subst h3; simp at hpl
    have hc := h4 p hpl
    have hcb : b < w.heap.size := block_lt_of_cell hc.1
    obtain ⟨r, hr⟩ : ∃ r, ls[p] = r := ⟨_, rfl⟩
    rw [hr] at hc
    have e1 := (HB.out.cell (p := ⟨b, off + p * 2 + 1, none⟩) hcb).trans hc.2
    have HR : Hid (ls[p] = r) := hr
    have HN : Hid (ls[p].nm = x) := hpn
    clear h4 hc hr HQ hpn
    go_wp2
    go_ret2
    exact ⟨_, true, rfl, .inl ⟨rfl, p, hpl, HN.out, by rw [HR.out]⟩, HB.out⟩
set_option maxHeartbeats 3200000 in
theorem findI_c (v : Value) (ls : Ses) (x : ByteArray) (w : World) (h : Rs w v ls) (hsz : ∀ r ∈ ls, r.nm.size ≤ 1048576 ∧ r.vl.size ≤ 1048576) (hln : ls.length ≤ 1048576) : Calls Try.prog 23 #[v, .string x] w (FdR ls x w) := by
  have HR : Hid (Rs w v ls) := h
  have HZ : Hid (∀ r ∈ ls, r.nm.size ≤ 1048576 ∧ r.vl.size ≤ 1048576) := hsz
  clear h hsz
  go_enter Try.func23, Try.ntmps23
  go_wp2_with (fail)
  refine (setI_c v ls w HR.out HZ.out hln).mono ?_
  rintro e w2 ⟨rfl, b2⟩
  have HB2 : Hid (Below w.heap.size w w2) := b2
  have HR2 : Hid (Rs w2 v ls) := HR.out.below b2
  clear b2
  cases hs : sB ls with
  | false =>
    have HS : Hid (sB ls = false) := hs
    clear hs
    go_wp2
    go_ret2
    exact ⟨_, false, rfl, .inr ⟨rfl, rfl, .inl HS.out⟩, HB2.out⟩
  | true =>
    have HS : Hid (sB ls = true) := hs
    clear hs
    go_wp2_with (fail)
    refine (valueOf_c v ls x w2 HR2.out (asc_sB HS.out) hln).mono ?_
    rintro e w3 ⟨u, q, rfl, hq, b3⟩
    have HB3 : Hid (Below w.heap.size w w3) := belowCall HB2.out b3 HB2.out.size
    have hus : u.size ≤ 281474976710656 := by
      rcases hq with ⟨-, i, hi, -, rfl⟩ | ⟨-, rfl, -⟩
      · have := (HZ.out _ (List.getElem_mem hi)).2; omega
      · decide
    have HQ : Hid (FdP ls x u q) := by
      rcases hq with ⟨rfl, h⟩ | ⟨rfl, h, h'⟩
      · exact .inl ⟨rfl, HS.out, h⟩
      · exact .inr ⟨rfl, h, .inr h'⟩
    clear b3 hq HB2 HR2
    go_wp2_with (fail)
    refine (clone_c u w3 hus).mono ?_
    rintro e w4 ⟨rfl, b4⟩
    have HB4 : Hid (Below w.heap.size w w4) := belowCall HB3.out b4 HB3.out.size
    clear b4 HB3
    go_wp2
    go_ret2
    exact ⟨u, q, rfl, HQ.out, HB4.out⟩
/-- the first place of a name -/
def AtR (ls : Ses) (x : ByteArray) (w : World) (e : Ending) (w' : World) : Prop := ∃ p : Int, e = .returned (.int .i64 p) ∧ w' = w ∧ ((p = -1 ∧ ∀ r ∈ ls, r.nm ≠ x) ∨ ∃ i : Nat, p = (i : Int) ∧ ∃ h : i < ls.length, ls[i].nm = x)
set_option maxHeartbeats 3200000 in
theorem at_c19 (v : Value) (ls : Ses) (x : ByteArray) (w : World) (h : Rs w v ls) : Calls Try.prog 41 #[v, .string x] w (AtR ls x w) := by
  obtain ⟨a, cap, rfl, h1, h2, h3⟩ := h
  unfold maxLen at h2
  go_enter Try.func41, Try.ntmps41
  go_wp2
  go_loopw [5] (fun i wr => ∃ j : Nat, j ≤ ls.length ∧ i = .int .i64 j ∧ wr = w ∧ Hid (∀ i (h : i < ls.length), i < j → ls[i].nm ≠ x)) (fun i _ => ls.length - (intOf i).toNat)
  case atStart => exact ⟨0, Nat.zero_le _, rfl, rfl, fun i _ h => by omega⟩
  case round =>
    obtain ⟨j, hj, rfl, hwr, hA⟩ := hrel
    obtain rfl : w = wr := hwr.symm
    by_cases hlt : j < ls.length
    case neg =>
      obtain rfl : j = ls.length := by omega
      have HN : Hid (∀ r ∈ ls, r.nm ≠ x) := fun r hr => by
        obtain ⟨i, hi, rfl⟩ := List.getElem_of_mem hr
        exact hA.out i hi hi
      clear h3
      go_wp2
      go_ret
      exact ⟨-1, rfl, rfl, .inl ⟨rfl, HN.out⟩⟩
    case pos =>
    rcases h3 with h3 | ⟨b, off, rfl, h4⟩
    · subst h3; simp at hlt
    have hc := h4 j hlt
    obtain ⟨r, hr⟩ : ∃ r, ls[j] = r := ⟨_, rfl⟩
    rw [hr] at hc
    have e0 := hc.1
    have HR : Hid (ls[j] = r) := hr
    have hjI : (j : Int) < (ls.length : Int) := by omega
    clear h4 hc hr
    by_cases hx : r.nm = x
    · have HX : Hid (ls[j].nm = x) := by show ls[j].nm = x; rw [HR.out]; exact hx
      have hx2 : (r.nm.toList == x.toList) = true := by rw [hx]; simp
      have hx3 : r.nm.toList = x.toList := by rw [hx]
      clear hx
      go_wp2
      go_ret
      exact ⟨_, rfl, rfl, .inr ⟨j, rfl, hlt, HX.out⟩⟩
    · have HX : Hid (∀ i (h : i < ls.length), i < j + 1 → ls[i].nm ≠ x) := fun i hi h => by
        by_cases e : i < j
        · exact hA.out i hi e
        · obtain rfl : i = j := by omega
          rw [HR.out]; exact hx
      have hx3 : ¬ (r.nm.toList = x.toList) := fun h => hx (toL_inj h)
      have hx2 : (r.nm.toList == x.toList) = false := by simpa using hx3
      clear hx
      go_wp2
      go_roundw
      case rel => exact ⟨j + 1, by omega, by go_num, by first | rfl | trivial, HX.out⟩
      case measure => simp [intOf]; omega
set_option maxHeartbeats 6400000 in
theorem findM_c (v : Value) (ls : Ses) (x : ByteArray) (w : World) (h : Rs w v ls) (hsz : ∀ r ∈ ls, r.nm.size ≤ 1048576 ∧ r.vl.size ≤ 1048576) (hln : ls.length ≤ 1048576) : Calls Try.prog 22 #[v, .string x] w (FdR ls x w) := by
  have h' := h
  obtain ⟨a, cap, rfl, h1, h2, h3⟩ := h
  have HR' : Hid (Rs w (.slice a ls.length cap) ls) := h'
  have HZ : Hid (∀ r ∈ ls, r.nm.size ≤ 1048576 ∧ r.vl.size ≤ 1048576) := hsz
  unfold maxLen at h2
  clear h' hsz
  go_enter Try.func22, Try.ntmps22
  go_wp2_with (fail)
  refine (at_c19 _ ls x w HR'.out).mono ?_
  rintro e w2 ⟨p, rfl, hw2, hp⟩
  obtain rfl : w = w2 := hw2.symm
  rcases hp with ⟨rfl, hp⟩ | ⟨i, rfl, hi, hp⟩
  · have HP : Hid (∀ r ∈ ls, r.nm ≠ x) := hp
    clear hp h3
    go_wp2_with (fail)
    refine (setM_c _ ls w HR'.out HZ.out hln).mono ?_
    rintro e w2 ⟨rfl, b2⟩
    have HB2 : Hid (Below w.heap.size w w2) := b2
    clear b2
    cases hs : sB ls with
    | false =>
      clear hs
      go_wp2
      go_ret2
      exact ⟨_, false, rfl, .inr ⟨rfl, rfl, .inr HP.out⟩, HB2.out⟩
    | true =>
      clear hs
      go_wp2
      go_ret2
      exact ⟨_, false, rfl, .inr ⟨rfl, rfl, .inr HP.out⟩, HB2.out⟩
  · have HP : Hid (ls[i].nm = x) := hp
    have hiI : (i : Int) < (ls.length : Int) := by omega
    clear hp
    go_wp2_with (fail)
    refine (setM_c _ ls w HR'.out HZ.out hln).mono ?_
    rintro e w2 ⟨rfl, b2⟩
    have HB2 : Hid (Below w.heap.size w w2) := b2
    clear b2
    cases hs : sB ls with
    | false =>
      have HS : Hid (sB ls = false) := hs
      clear hs h3
      go_wp2
      go_ret2
      exact ⟨_, false, rfl, .inr ⟨rfl, rfl, .inl HS.out⟩, HB2.out⟩
    | true =>
      have HS : Hid (sB ls = true) := hs
      rcases h3 with h3 | ⟨b, off, rfl, h4⟩
      · subst h3; simp at hi
      have hc := h4 i hi
      have hcb : b < w.heap.size := block_lt_of_cell hc.1
      obtain ⟨r, hr⟩ : ∃ r, ls[i] = r := ⟨_, rfl⟩
      rw [hr] at hc
      have e1 := (HB2.out.cell (p := ⟨b, off + i * 2 + 1, none⟩) hcb).trans hc.2
      have HR : Hid (ls[i] = r) := hr
      have hg : ¬ ((i : Int) < 0) := by omega
      clear hs h4 hc hr
      go_wp2
      go_ret2
      exact ⟨_, true, rfl, .inl ⟨rfl, HS.out, i, hi, HP.out, by rw [HR.out]⟩, HB2.out⟩

end Go.Proofs.Ytlknakijdpeaoaa
