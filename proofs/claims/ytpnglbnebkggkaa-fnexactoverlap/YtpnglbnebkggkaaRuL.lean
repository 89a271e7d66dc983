/- FnExactRulesOk's body answers true at all rules; no condition. -/
import Derived.Test.YtpnglbnebkggkaaRuH
import Derived.Deep.SlicePairs
namespace Go.Proofs.Ytpnglbnebkggkaa
open Go.RowKit Go.ChangeShapes Go.WideShapes Go.ChangeAt
set_option linter.unusedVariables false
set_option linter.unusedSimpArgs false
set_option maxRecDepth 8000
instance : Inhabited Rl := ⟨r0⟩
theorem cells76 : Try.prog.cellsOf 76 = 6 := by kernel_rfl
theorem cells3 : Try.prog.cellsOf 3 = 1 := by kernel_rfl
theorem cells9 : Try.prog.cellsOf 9 = 1 := by kernel_rfl
theorem addr_add (b off : Nat) (k : Nat) : (⟨b, off, none⟩ : Addr).add k = ⟨b, off + k, none⟩ := by unfold Addr.add; split <;> simp_all
section
variable {H : Type} {enc : TypeId × Value → H} {W : World} {base : Nat} {held : Bool}
theorem openRules {fuel : Nat} {v : Value} {x : DataW H × List MemPlace} (h : DataW.trod enc Try.prog W base (fun _ => true) held fuel 40 [v] = some x) : ∃ ls, Rr W v ls ∧ ∀ r ∈ ls, r.pre.size ≤ maxLen ∧ r.ad.size ≤ maxLen := by
  rcases Go.Deep.open_slice Try.underlying40 h with ⟨hcs, _⟩ | ⟨a, len, cap, m, n, D, Pl, hcs, _, hl, hm, hmm, _, hx⟩
  · simp at hcs; subst hcs
    exact ⟨[], ⟨none, 0, rfl, by simp, by simp, .inl rfl⟩, by simp⟩
  · simp at hcs; subst hcs
    have hmc : m = cap := by simpa using hmm
    subst hmc
    have each : ∀ i, i < len → ∃ q : Rl, (W.cell? (a.add (i * 6)) = some (.string q.pre) ∧ W.cell? (a.add (i * 6 + 1)) = some (.int .i64 q.le) ∧ W.cell? (a.add (i * 6 + 2)) = some (.int .i64 q.mo) ∧ W.cell? (a.add (i * 6 + 3)) = some (.int .i64 q.ro) ∧ W.cell? (a.add (i * 6 + 4)) = some (.int .i64 q.st) ∧ W.cell? (a.add (i * 6 + 5)) = some (.string q.ad)) ∧ q.pre.size ≤ maxLen ∧ q.ad.size ≤ maxLen := by
      intro i hi
      obtain ⟨cs', g1, g2⟩ := hx i (by omega)
      rw [cells76] at g1
      obtain ⟨_, hlen, hcell⟩ := World.cells?_some g1
      obtain ⟨xs, k, hk, hxy, _, hxl, hf⟩ := DataW.trod_struct Try.underlying76 g2
      match xs, hxl, cs', hlen with
      | [y0, y1, y2, y3, y4, y5], _, [v0, v1, v2, v3, v4, v5], _ =>
        have r0 := hf 0 _ rfl
        have r1 := hf 1 _ rfl
        have r2 := hf 2 _ rfl
        have r3 := hf 3 _ rfl
        have r4 := hf 4 _ rfl
        have r5 := hf 5 _ rfl
        simp [cells3, cells9] at r0 r1 r2 r3 r4 r5
        have e0 := hcell 0 (by omega)
        have e1 := hcell 1 (by omega)
        have e2 := hcell 2 (by omega)
        have e3 := hcell 3 (by omega)
        have e4 := hcell 4 (by omega)
        have e5 := hcell 5 (by omega)
        rw [Go.Deep.add_add] at e0 e1 e2 e3 e4 e5
        obtain ⟨z0, t0, -, s0⟩ := DataW.trod_string Try.underlying9 r0
        obtain ⟨z1, t1, -⟩ := DataW.trod_int Try.underlying3 r1
        obtain ⟨z2, t2, -⟩ := DataW.trod_int Try.underlying3 r2
        obtain ⟨z3, t3, -⟩ := DataW.trod_int Try.underlying3 r3
        obtain ⟨z4, t4, -⟩ := DataW.trod_int Try.underlying3 r4
        obtain ⟨z5, t5, -, s5⟩ := DataW.trod_string Try.underlying9 r5
        simp at t0 t1 t2 t3 t4 t5
        subst t0 t1 t2 t3 t4 t5
        exact ⟨⟨z0, z1, z2, z3, z4, z5⟩, ⟨by simpa using e0, by simpa using e1, by simpa using e2, by simpa using e3, by simpa using e4, by simpa using e5⟩, s0, s5⟩
    obtain ⟨q, hq⟩ := Go.Deep.choose_lt each
    refine ⟨(List.range len).map q, ⟨some a, m, by simp, by simpa using hl, hm, ?_⟩, fun r hr => ?_⟩
    · by_cases h0 : len = 0
      · left; subst h0; simp
      · right
        obtain ⟨b, off, spot⟩ := a
        have hspot : spot = none := by
          have := World.cell?_spot (hq 0 (by omega)).1.1
          simpa [Addr.add] using this
        subst hspot
        refine ⟨b, off, rfl, fun i hi => ?_⟩
        have hi' : i < len := by simpa using hi
        have := (hq i hi').1
        rw [addr_add, addr_add, addr_add, addr_add, addr_add, addr_add] at this
        simpa [Nat.add_assoc] using this
    · obtain ⟨i, hi, rfl⟩ := List.mem_map.1 hr
      exact (hq i (List.mem_range.1 hi)).2
end
set_option maxHeartbeats 3200000 in
theorem rulesLaw (a : Option Addr) (ln cap : Nat) (ls : Rls) (w : World) (h : Rr w (.slice a ln cap) ls) (hm : ∀ r ∈ ls, r.pre.size ≤ maxLen ∧ r.ad.size ≤ maxLen) :
   Calls Try.prog 5 #[.slice a ln cap] w fun e w' => e = .returned (.bool true) ∧ Below w.heap.size w w' := by
  have HRR : Hid (Rr w (.slice a ln cap) ls) := h
  have HM : Hid (∀ r ∈ ls, r.pre.size ≤ maxLen ∧ r.ad.size ≤ maxLen) := hm
  clear h hm
  go_enter Try.func5, Try.ntmps5
  go_wp2_with (fail)
  refine (szRuleS_c _ ls w HRR.out HM.out).mono ?_
  rintro e w1 ⟨z, rfl, hz, b1⟩
  have B1 : Hid (Below w.heap.size w w1) := b1
  have HZ : Hid (0 ≤ z → ls.length ≤ 1048576 ∧ Szs ls) := hz
  clear hz b1
  by_cases hneg : z < 0
  · go_wp2
    go_ret
    exact ⟨rfl, B1.out⟩
  have HS : Hid (ls.length ≤ 1048576 ∧ Szs ls) := HZ.out (by omega)
  clear HZ
  go_wp2_with (fail)
  refine (toRuleS_c _ ls w1 (HRR.out.below B1.out) HS.out.1).mono ?_
  rintro e w2 ⟨v1, rfl, o1, b2⟩
  have B2 : Hid (Below w.heap.size w w2) := belowCall B1.out b2 B1.out.size
  have O1 : Hid (Rr w2 v1 ls) := o1.rd
  clear o1 b2 B1
  go_wp2_with (fail)
  refine (rulesM_c _ ls w2 O1.out HS.out.2).mono ?_
  rintro e w3 ⟨q, rfl, hq, b3⟩
  have B3 : Hid (Below w.heap.size w w3) := belowCall B2.out b3 B2.out.size
  clear b3 B2 O1
  go_wp2_with (fail)
  refine (toRuleS_c _ ls w3 (HRR.out.below B3.out) HS.out.1).mono ?_
  rintro e w4 ⟨v2, rfl, o2, b4⟩
  have B4 : Hid (Below w.heap.size w w4) := belowCall B3.out b4 B3.out.size
  have O2 : Hid (Rr w4 v2 ls) := o2.rd
  clear o2 b4 B3
  go_wp2_with (fail)
  refine (rulesI_c _ ls w4 O2.out HS.out.2).mono ?_
  rintro e w5 ⟨q', rfl, hq', b5⟩
  have B5 : Hid (Below w.heap.size w w5) := belowCall B4.out b5 B4.out.size
  have O3 : Hid (Rr w5 v2 ls) := O2.out.below b5
  obtain rfl : q' = q := by
    rw [Bool.eq_iff_iff, hq, hq']
  have hqq : (q' != q') = false := by simp
  clear hq hq' b5 B4 O2
  go_wp2_with (fail)
  refine (toRuleS_c _ ls w5 (HRR.out.below B5.out) HS.out.1).mono ?_
  rintro e w6 ⟨v3, rfl, o3, b6⟩
  have B6 : Hid (Below w.heap.size w w6) := belowCall B5.out b6 B5.out.size
  have O4 : Hid (Rr w6 v2 ls) := O3.out.below b6
  have O5 : Hid (Rr w6 v3 ls) := o3.rd
  clear o3 b6 B5 O3
  go_wp2_with (fail)
  refine (eqRuleS_t _ _ ls w6 O4.out O5.out).mono ?_
  rintro e w7 ⟨rfl, b7⟩
  have B7 : Hid (Below w.heap.size w w7) := belowCall B6.out b7 B6.out.size
  clear b7 B6
  go_wp2
  go_ret
  exact ⟨rfl, B7.out⟩
end Go.Proofs.Ytpnglbnebkggkaa
