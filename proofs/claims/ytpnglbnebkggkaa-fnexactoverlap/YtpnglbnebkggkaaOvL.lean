/- FnExactOverlap's body answers true at all rules, presses and waits; no condition. -/
import Derived.Test.YtpnglbnebkggkaaOvM
import Derived.Test.YtpnglbnebkggkaaOvI
import Derived.Test.YtpnglbnebkggkaaRuL
import Derived.Test.YtpnglbnebkggkaaPrH
namespace Go.Proofs.Ytpnglbnebkggkaa
open Go.RowKit Go.ChangeShapes Go.WideShapes Go.ChangeAt
set_option linter.unusedVariables false
set_option linter.unusedSimpArgs false
set_option maxRecDepth 8000
def SzST (ls : Rls) (w : World) (e : Ending) (w' : World) : Prop := ∃ z : Int, e = .returned (.int .i64 z) ∧ z ≤ 1048576 ∧ (0 ≤ z → ls.length ≤ 1048576 ∧ Szs ls) ∧ Below w.heap.size w w'
set_option maxHeartbeats 3200000 in
theorem szRuleT_c (v : Value) (ls : Rls) (w : World) (h : Rr w v ls) (hb : ∀ r ∈ ls, r.pre.size ≤ maxLen ∧ r.ad.size ≤ maxLen) : Calls Try.prog 16 #[v, .int .i64 1048576] w (SzST ls w) := by
  obtain ⟨a, cap, rfl, h1, h2, h3⟩ := h
  unfold maxLen at h2
  have HM : Hid (∀ r ∈ ls, r.pre.size ≤ maxLen ∧ r.ad.size ≤ maxLen) := hb
  clear hb
  by_cases hL : 1048576 < ls.length
  · have g : 1048576 - (ls.length : Int) < 0 := by omega
    go_enter Try.func16, Try.ntmps16
    go_wp2
    go_ret
    exact ⟨_, rfl, by first | omega | decide, fun h => by omega, Below.refl _ _⟩
  have g : ¬ (1048576 - (ls.length : Int) < 0) := by omega
  go_enter Try.func16, Try.ntmps16
  go_wp2
  go_loopw [1, 5] (fun z i wr => ∃ j : Nat, ∃ x : Int, j ≤ ls.length ∧ i = .int .i64 j ∧ z = .int .i64 x ∧ 0 ≤ x ∧ x ≤ 1048576 ∧ Hid (∀ t (ht : t < ls.length), t < j → ls[t].pre.size ≤ 1048576 ∧ ls[t].ad.size ≤ 1048576) ∧ Hid (Below w.heap.size w wr)) (fun _ i _ => ls.length - (intOf i).toNat)
  case atStart => exact ⟨0, 1048576 - (ls.length : Int), Nat.zero_le _, rfl, rfl, by omega, by omega, fun t _ h => by omega, Below.refl _ _⟩
  case round =>
    obtain ⟨j, x, hj, rfl, rfl, hx0, hx1, hA, hbr⟩ := hrel
    by_cases hlt : j < ls.length
    case neg =>
      obtain rfl : j = ls.length := by omega
      have HF : Hid (Szs ls) := fun r hr => by
        obtain ⟨i, hi, rfl⟩ := List.getElem_of_mem hr
        exact hA.out i hi hi
      clear h3
      go_wp2
      go_ret
      exact ⟨_, rfl, by first | omega | decide, fun _ => ⟨by omega, HF.out⟩, hbr.out⟩
    case pos =>
    rcases h3 with h3 | ⟨b, off, rfl, h4⟩
    · subst h3; simp at hlt
    have hc := h4 j hlt
    have hcb : b < w.heap.size := block_lt_of_cell hc.1
    obtain ⟨r, hr⟩ : ∃ r, ls[j] = r := ⟨_, rfl⟩
    have HR : Hid (ls[j] = r) := hr
    have hm := HM.out _ (List.getElem_mem hlt)
    rw [hr] at hc hm
    have e0 := (hbr.out.cell (p := ⟨b, off + j * 6, none⟩) hcb).trans hc.1
    have e1 := (hbr.out.cell (p := ⟨b, off + j * 6 + 1, none⟩) hcb).trans hc.2.1
    have e2 := (hbr.out.cell (p := ⟨b, off + j * 6 + 2, none⟩) hcb).trans hc.2.2.1
    have e3 := (hbr.out.cell (p := ⟨b, off + j * 6 + 3, none⟩) hcb).trans hc.2.2.2.1
    have e4 := (hbr.out.cell (p := ⟨b, off + j * 6 + 4, none⟩) hcb).trans hc.2.2.2.2.1
    have e5 := (hbr.out.cell (p := ⟨b, off + j * 6 + 5, none⟩) hcb).trans hc.2.2.2.2.2
    clear h4 hc hr
    go_wp2_with (fail)
    refine (szRule_c r x wr hx0 hx1 hm.1 hm.2).mono ?_
    rintro e w2 ⟨z, rfl, z0, z1, z2, b2⟩
    have HB2 : Hid (Below w.heap.size w w2) := belowCall hbr.out b2 hbr.out.size
    clear b2
    by_cases hz : z < 0
    · clear z2 hm
      go_wp2
      go_ret
      exact ⟨_, rfl, by first | omega | decide, fun h => by omega, HB2.out⟩
    · have HF : Hid (∀ t (ht : t < ls.length), t < j + 1 → ls[t].pre.size ≤ 1048576 ∧ ls[t].ad.size ≤ 1048576) := fun t ht h => by
        by_cases htj : t < j
        · exact hA.out t ht htj
        · obtain rfl : t = j := by omega
          have := z2 (by omega)
          rw [HR.out]; omega
      clear z2 hm
      go_wp2
      go_roundw
      case rel => exact ⟨j + 1, z, by omega, by go_num, rfl, by omega, by omega, HF.out, HB2.out⟩
      case measure => simp [intOf]; omega
instance : Inhabited Pr := ⟨⟨0, ⟨#[]⟩⟩⟩
theorem cells82 : Try.prog.cellsOf 82 = 2 := by kernel_rfl
section
variable {H : Type} {enc : TypeId × Value → H} {W : World} {base : Nat} {held : Bool}
theorem openPresses {fuel : Nat} {v : Value} {x : DataW H × List MemPlace} (h : DataW.trod enc Try.prog W base (fun _ => true) held fuel 48 [v] = some x) : ∃ ls, Rpq W v ls ∧ ∀ r ∈ ls, r.di.size ≤ maxLen := by
  rcases Go.Deep.open_slice Try.underlying48 h with ⟨hcs, _⟩ | ⟨a, len, cap, m, n, D, Pl, hcs, _, hl, hm, hmm, _, hx⟩
  · simp at hcs; subst hcs
    exact ⟨[], ⟨none, 0, rfl, by simp, by simp, .inl rfl⟩, by simp⟩
  · simp at hcs; subst hcs
    have hmc : m = cap := by simpa using hmm
    subst hmc
    have each : ∀ i, i < len → ∃ q : Pr, (W.cell? (a.add (i * 2)) = some (.int .i64 q.ti) ∧ W.cell? (a.add (i * 2 + 1)) = some (.string q.di)) ∧ q.di.size ≤ maxLen := by
      intro i hi
      obtain ⟨cs', g1, g2⟩ := hx i (by omega)
      rw [cells82] at g1
      obtain ⟨_, hlen, hcell⟩ := World.cells?_some g1
      obtain ⟨xs, k, hk, hxy, _, hxl, hf⟩ := DataW.trod_struct Try.underlying82 g2
      match xs, hxl, cs', hlen with
      | [y0, y1], _, [v0, v1], _ =>
        have r0 := hf 0 _ rfl
        have r1 := hf 1 _ rfl
        simp [cells3, cells9] at r0 r1
        have e0 := hcell 0 (by omega)
        have e1 := hcell 1 (by omega)
        rw [Go.Deep.add_add] at e0 e1
        obtain ⟨z0, t0, -⟩ := DataW.trod_int Try.underlying3 r0
        obtain ⟨z1, t1, -, s1⟩ := DataW.trod_string Try.underlying9 r1
        simp at t0 t1
        subst t0 t1
        exact ⟨⟨z0, z1⟩, ⟨by simpa using e0, by simpa using e1⟩, s1⟩
    obtain ⟨q, hq⟩ := Go.Deep.choose_lt each
    refine ⟨(List.range len).map q, ⟨some a, m, by simp, by simpa using hl, hm, ?_⟩, fun r hr => ?_⟩
    · by_cases h0 : len = 0
      · left; subst h0; simp
      · right
        obtain ⟨b, off, spot⟩ := a
        have hspot : spot = none := by
          have := World.cell?_spot (hq 0 (by omega)).1.1
          simpa [Addr.add] using this
        subst hspot
        refine ⟨b, off, rfl, fun i hi => ?_⟩
        have hi' : i < len := by simpa using hi
        have := (hq i hi').1
        rw [addr_add, addr_add] at this
        simpa [Nat.add_assoc] using this
    · obtain ⟨i, hi, rfl⟩ := List.mem_map.1 hr
      exact (hq i (List.mem_range.1 hi)).2
end
set_option maxHeartbeats 6400000 in
theorem overlapLaw (a : Option Addr) (ln cap : Nat) (ls : Rls) (a' : Option Addr) (ln' cap' : Nat) (ps : Prs) (wt : Int) (w : World) (h : Rr w (.slice a ln cap) ls) (hm : ∀ r ∈ ls, r.pre.size ≤ maxLen ∧ r.ad.size ≤ maxLen) (hp : Rpq w (.slice a' ln' cap') ps) (hpm : ∀ r ∈ ps, r.di.size ≤ maxLen) :
   Calls Try.prog 7 #[.slice a ln cap, .slice a' ln' cap', .int .i64 wt] w fun e w' => e = .returned (.bool true) ∧ Below w.heap.size w w' := by
  have HRR : Hid (Rr w (.slice a ln cap) ls) := h
  have HPP : Hid (Rpq w (.slice a' ln' cap') ps) := hp
  have HM : Hid (∀ r ∈ ls, r.pre.size ≤ maxLen ∧ r.ad.size ≤ maxLen) := hm
  have HPM : Hid (∀ r ∈ ps, r.di.size ≤ maxLen) := hpm
  clear h hm hp hpm
  go_enter Try.func7, Try.ntmps7
  go_wp2_with (fail)
  refine (szRuleT_c _ ls w HRR.out HM.out).mono ?_
  rintro e w0 ⟨z, rfl, hz1, hz, b0⟩
  have B0 : Hid (Below w.heap.size w w0) := b0
  have HZ : Hid (0 ≤ z → ls.length ≤ 1048576 ∧ Szs ls) := hz
  clear hz b0
  by_cases hneg : z < 0
  · go_wp2
    go_ret
    exact ⟨rfl, B0.out⟩
  have HS : Hid (ls.length ≤ 1048576 ∧ Szs ls) := HZ.out (by omega)
  clear HZ
  go_wp2_with (fail)
  refine (szPressS_c _ ps z w0 (by omega) hz1 (HPP.out.below B0.out) HPM.out).mono ?_
  rintro e w1 ⟨y, rfl, hy, b1⟩
  have B1 : Hid (Below w.heap.size w w1) := belowCall B0.out b1 B0.out.size
  have HY : Hid (0 ≤ y → ps.length ≤ 1048576 ∧ Szp ps) := hy
  clear hy b1 B0
  by_cases hneg2 : y < 0
  · go_wp2
    go_ret
    exact ⟨rfl, B1.out⟩
  have HSY : Hid (ps.length ≤ 1048576 ∧ Szp ps) := HY.out (by omega)
  clear HY
  go_wp2_with (fail)
  refine (toRuleS_c _ ls w1 (HRR.out.below B1.out) HS.out.1).mono ?_
  rintro e w2 ⟨v1, rfl, o1, b2⟩
  have B2 : Hid (Below w.heap.size w w2) := belowCall B1.out b2 B1.out.size
  have O1 : Hid (Rr w2 v1 ls) := o1.rd
  clear o1 b2 B1
  go_wp2_with (fail)
  refine (toPressS_c _ ps w2 (HPP.out.below B2.out) HSY.out.1).mono ?_
  rintro e w2' ⟨u1, rfl, p1, b2⟩
  have B2' : Hid (Below w.heap.size w w2') := belowCall B2.out b2 B2.out.size
  have O1' : Hid (Rr w2' v1 ls) := O1.out.below b2
  have P1 : Hid (Rpq w2' u1 ps) := p1.rd
  clear p1 b2 B2 O1
  go_wp2_with (fail)
  refine (ovM_c _ _ ls ps wt w2' O1'.out P1.out HS.out.2 HSY.out.2).mono ?_
  rintro e w3 ⟨c, r, nu, k, t, rfl, hq, b3⟩
  obtain ⟨W3, hW3⟩ : ∃ W3, w3.alloc (Obj.cells (D4 c r nu k) 28) = W3 := ⟨_, rfl⟩
  have K3 : Hid (Below w.heap.size w W3 ∧ Blk W3 w3.heap.size (D4 c r nu k) 28) := hW3 ▸ ⟨(belowCall B2'.out b3 B2'.out.size).alloc (by have := B2'.out.size; have := b3.size; omega) _, Blk.new _ _ _⟩
  have HW3 : Hid (w3.alloc (Obj.cells (D4 c r nu k) 28) = W3) := hW3
  have HQ : Hid (OvS ls ps wt (c, r, nu, k) t) := hq
  obtain ⟨g3, hg3⟩ : ∃ g, w3.heap.size = g := ⟨_, rfl⟩
  rw [hg3] at K3
  have HG3 : Hid (w3.heap.size = g3) := hg3
  clear b3 B2' O1' P1 hW3 hq hg3
  go_wp2_with (fail)
  rw [HW3.out, HG3.out]
  refine (toRuleS_c _ ls W3 (HRR.out.below K3.out.1) HS.out.1).mono ?_
  rintro e w4 ⟨v2, rfl, o2, b4⟩
  have K4 : Hid (Below w.heap.size w w4 ∧ Blk w4 g3 (D4 c r nu k) 28) := ⟨belowCall K3.out.1 b4 K3.out.1.size, K3.out.2.below b4 K3.out.2.lt⟩
  have O2 : Hid (Rr w4 v2 ls) := o2.rd
  clear o2 b4 K3 HW3 HG3
  go_wp2_with (fail)
  refine (toPressS_c _ ps w4 (HPP.out.below K4.out.1) HSY.out.1).mono ?_
  rintro e w4' ⟨u2, rfl, p2, b4⟩
  have K4' : Hid (Below w.heap.size w w4' ∧ Blk w4' g3 (D4 c r nu k) 28) := ⟨belowCall K4.out.1 b4 K4.out.1.size, K4.out.2.below b4 K4.out.2.lt⟩
  have O2' : Hid (Rr w4' v2 ls) := O2.out.below b4
  have P2' : Hid (Rpq w4' u2 ps) := p2.rd
  clear p2 b4 K4 O2
  go_wp2_with (fail)
  refine (ovI_c _ _ ls ps wt w4' O2'.out P2'.out HS.out.2 HSY.out.2).mono ?_
  rintro e w5 ⟨c', r', nu', k', t', rfl, hq', b5⟩
  have heq := OvS.same hq' HQ.out
  obtain ⟨⟨rfl, rfl, rfl, rfl⟩, rfl⟩ : (c' = c ∧ r' = r ∧ nu' = nu ∧ k' = k) ∧ t' = t := by simpa using heq
  obtain ⟨W5, hW5⟩ : ∃ W5, w5.alloc (Obj.cells (D4 c' r' nu' k') 28) = W5 := ⟨_, rfl⟩
  have b5' : Below w4'.heap.size w4' W5 := hW5 ▸ b5.alloc b5.size _
  have K5 : Hid ((Below w.heap.size w W5 ∧ Blk W5 g3 (D4 c' r' nu' k') 28) ∧ Blk W5 w5.heap.size (D4 c' r' nu' k') 28) := ⟨⟨belowCall K4'.out.1 b5' K4'.out.1.size, K4'.out.2.below b5' K4'.out.2.lt⟩, hW5 ▸ Blk.new _ _ _⟩
  have O3 : Hid (Rr W5 v2 ls) := O2'.out.below b5'
  have P3' : Hid (Rpq W5 u2 ps) := P2'.out.below b5'
  have HW5 : Hid (w5.alloc (Obj.cells (D4 c' r' nu' k') 28) = W5) := hW5
  obtain ⟨g5, hg5⟩ : ∃ g, w5.heap.size = g := ⟨_, rfl⟩
  rw [hg5] at K5
  have HG5 : Hid (w5.heap.size = g5) := hg5
  have l3 : g3 < w5.heap.size := by have := K4'.out.2.lt; have := b5.size; omega
  have b3 : ∀ i, w5.cell? ⟨g3, i, none⟩ = w4'.cell? ⟨g3, i, none⟩ := fun i => b5.cell (p := ⟨g3, i, none⟩) K4'.out.2.lt
  have x0 := (b3 0).trans (K4'.out.2.cell 0)
  have x1 := (b3 1).trans (K4'.out.2.cell 1)
  have x2 := (b3 2).trans (K4'.out.2.cell 2)
  have x3 := (b3 3).trans (K4'.out.2.cell 3)
  simp at x0 x1 x2 x3
  have hte : (t' != t') = false := by simp
  clear b3 b5 b5' K4' O2' P2' heq hq' HQ hW5 hg5
  go_wp2_with (fail)
  rw [HW5.out]
  refine (eqDialled_t c' r' nu' k' W5).mono ?_
  rintro e w6 ⟨rfl, b6⟩
  have B6 : Hid (Below w.heap.size w w6) := belowCall K5.out.1.1 b6 K5.out.1.1.size
  have O4 : Hid (Rr w6 v2 ls) := O3.out.below b6
  have P4 : Hid (Rpq w6 u2 ps) := P3'.out.below b6
  clear b6 K5 O3 P3' HW5 HG5 x0 x1 x2 x3 l3
  go_wp2_with (fail)
  refine (toRuleS_c _ ls w6 (HRR.out.below B6.out) HS.out.1).mono ?_
  rintro e w7 ⟨v3, rfl, o3, b7⟩
  have B7 : Hid (Below w.heap.size w w7) := belowCall B6.out b7 B6.out.size
  have O5 : Hid (Rr w7 v2 ls) := O4.out.below b7
  have O6 : Hid (Rr w7 v3 ls) := o3.rd
  have P5 : Hid (Rpq w7 u2 ps) := P4.out.below b7
  clear o3 b7 B6 O4 P4
  go_wp2_with (fail)
  refine (eqRuleS_t _ _ ls w7 O5.out O6.out).mono ?_
  rintro e w8 ⟨rfl, b8⟩
  have B8 : Hid (Below w.heap.size w w8) := belowCall B7.out b8 B7.out.size
  have P6 : Hid (Rpq w8 u2 ps) := P5.out.below b8
  clear b8 B7 O5 O6 P5
  go_wp2_with (fail)
  refine (toPressS_c _ ps w8 (HPP.out.below B8.out) HSY.out.1).mono ?_
  rintro e w9 ⟨u3, rfl, p3, b9⟩
  have B9 : Hid (Below w.heap.size w w9) := belowCall B8.out b9 B8.out.size
  have P7 : Hid (Rpq w9 u2 ps) := P6.out.below b9
  have P8 : Hid (Rpq w9 u3 ps) := p3.rd
  clear p3 b9 B8 P6
  go_wp2_with (fail)
  refine (eqPressS_t _ _ ps w9 P7.out P8.out).mono ?_
  rintro e wA ⟨rfl, bA⟩
  have BA : Hid (Below w.heap.size w wA) := belowCall B9.out bA B9.out.size
  clear bA B9 P7 P8
  go_wp2
  go_ret
  exact ⟨rfl, BA.out⟩

end Go.Proofs.Ytpnglbnebkggkaa
