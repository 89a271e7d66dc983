/- Outcomes compared and marked; no condition. -/
import Derived.Test.YtfaflnhembceoaaRkA
import Derived.Test.YtfaflnhembceoaaRtN
namespace Go.Proofs.Ytfaflnhembceoaa
open Go.RowKit Go.ChangeShapes Go.WideShapes Go.ChangeAt
set_option linter.unusedVariables false
set_option linter.unusedSimpArgs false
set_option maxRecDepth 8000
set_option maxHeartbeats 800000 in
theorem eqOut_c (c a : Int) (v v' : Value) (zs : List Int) (w : World) (h : Rd .i64 w v zs) (h' : Rd .i64 w v' zs) : Calls Try.prog 26 #[.agg (O3 c a v), .agg (O3 c a v')] w fun e w' => e = .returned (.bool true) ∧ Below w.heap.size w w' := by
  have hb : Below w.heap.size w ((w.alloc (Obj.cells (O3 c a v) 29)).alloc (Obj.cells (O3 c a v') 29)) := ((Below.refl _ _).alloc (Nat.le_refl _) _).alloc (by simp) _
  have HB : Hid _ := hb
  have HE : Hid (Calls Try.prog 34 #[v, v'] ((w.alloc (Obj.cells (O3 c a v) 29)).alloc (Obj.cells (O3 c a v') 29)) fun e w' => e = .returned (.bool true) ∧ Below ((w.alloc (Obj.cells (O3 c a v) 29)).alloc (Obj.cells (O3 c a v') 29)).heap.size ((w.alloc (Obj.cells (O3 c a v) 29)).alloc (Obj.cells (O3 c a v') 29)) w') := eqIS v v' zs _ (h.below hb) (h'.below hb)
  obtain ⟨b, cap, rfl, -⟩ := h
  obtain ⟨b', cap', rfl, -⟩ := h'
  have y1 : (c != c) = false := by simp
  have y2 : (a != a) = false := by simp
  clear hb
  go_enter Try.func26, Try.ntmps26
  go_wp2_with (fail)
  refine HE.out.mono ?_
  rintro e w2 ⟨rfl, b2⟩
  have B2 : Hid (Below w.heap.size w w2) := belowCall HB.out b2 HB.out.size
  clear b2 HE HB
  go_wp2
  go_ret
  exact ⟨rfl, B2.out⟩
set_option maxHeartbeats 800000 in
theorem markOut_c (c a : Int) (v : Value) (zs : List Int) (q : Int) (base hi : Nat) (w : World) (h : OwH base hi w v zs) (h0 : 0 ≤ q) (hq : q + zs.length ≤ 1152921504606846976) :
   Calls Try.prog 28 #[.agg (O3 c a v), .int .i64 q] w fun e w' => e = .returned (.int .i64 (q + zs.length)) ∧ OwH base hi w' v (marks .i64 q zs.length) ∧ Mid base hi w w' := by
  obtain ⟨W0, hW0⟩ : ∃ W0, w.alloc (Obj.cells (O3 c a v) 29) = W0 := ⟨_, rfl⟩
  have hb : Below w.heap.size w W0 := hW0 ▸ (Below.refl _ _).alloc (Nat.le_refl _) _
  have HM : Hid (Calls Try.prog 35 #[v, .int .i64 q] W0 fun e w' => e = .returned (.int .i64 (q + zs.length)) ∧ OwH base hi w' v (marks .i64 q zs.length) ∧ Mid base hi W0 w') := markH v zs q base hi W0 (h.below hb) h0 hq
  have HB : Hid (Mid base hi w W0) := Mid.ofBelow hb
  have HW0 : Hid (w.alloc (Obj.cells (O3 c a v) 29) = W0) := hW0
  obtain ⟨b, cap, rfl, -⟩ := own_form h.1
  obtain ⟨n, hn⟩ : ∃ n, zs.length = n := ⟨_, rfl⟩
  rw [hn] at HM HW0 hq ⊢
  clear hb hW0 hn h
  go_enter Try.func28, Try.ntmps28
  go_wp2_with (fail)
  rw [HW0.out]
  refine HM.out.mono ?_
  rintro e w2 ⟨rfl, o2, m2⟩
  have O2 : Hid (OwH base hi w2 (.slice b n cap) (marks .i64 q n)) := o2
  have M2 : Hid (Mid base hi w w2) := HB.out.trans m2
  clear o2 m2 HM HB HW0
  go_wp2
  go_ret
  exact ⟨rfl, O2.out, M2.out⟩
set_option maxHeartbeats 800000 in
theorem heldOut_c (c a : Int) (v : Value) (q : Int) (n : Nat) (w : World) (h : Rd .i64 w v (marks .i64 q n)) (h0 : 0 ≤ q) (hq : q + n ≤ 1152921504606846976) :
   Calls Try.prog 29 #[.agg (O3 c a v), .int .i64 q] w fun e w' => e = .returned (.int .i64 (q + n)) ∧ Below w.heap.size w w' := by
  obtain ⟨W0, hW0⟩ : ∃ W0, w.alloc (Obj.cells (O3 c a v) 29) = W0 := ⟨_, rfl⟩
  have hb : Below w.heap.size w W0 := hW0 ▸ (Below.refl _ _).alloc (Nat.le_refl _) _
  have HM : Hid (Calls Try.prog 61 #[v, .int .i64 q] W0 fun e w' => e = .returned (.int .i64 (q + n)) ∧ Below W0.heap.size W0 w') := heldI v q n W0 (h.below hb) h0 hq
  have HB : Hid (Below w.heap.size w W0) := hb
  have HW0 : Hid (w.alloc (Obj.cells (O3 c a v) 29) = W0) := hW0
  obtain ⟨b, cap, rfl, -⟩ := h
  rw [marks_len] at HM HW0 ⊢
  have hge : ¬ (q + (n : Int) < 0) := by omega
  clear hb hW0
  go_enter Try.func29, Try.ntmps29
  go_wp2_with (fail)
  rw [HW0.out]
  refine HM.out.mono ?_
  rintro e w2 ⟨rfl, b2⟩
  have B2 : Hid (Below w.heap.size w w2) := belowCall HB.out b2 HB.out.size
  clear b2 HM HB HW0
  go_wp2
  go_ret
  exact ⟨rfl, B2.out⟩
/-- the hops of a call are few -/
theorem goR_len {cs : Sbs} {f : Nat} : ∀ (m t : Nat) (hops : List Int), (goR cs f m t hops).2.2.length ≤ hops.length + m
  | 0, t, hops => by simp [goR]
  | m + 1, t, hops => by
    rw [goR]
    split
    · simp
    · split
      · have := goR_len (cs := cs) (f := f) m (turnF (prvB cs f) f (cs.getD t sb0)).2.toNat (hops ++ [(t : Int)])
        simp at this ⊢; omega
      · simp
theorem rtF_len (cs : Sbs) (f t : Int) : (rtF cs f t).2.2.length ≤ 7 := by
  unfold rtF
  split
  · split
    · simp
    · have := goR_len (cs := cs) (f := f.toNat) 7 t.toNat []; simpa using this
  · simp
end Go.Proofs.Ytfaflnhembceoaa
