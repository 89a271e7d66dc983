/- The walk of the law of whole sums; no condition. -/
import Derived.Test.YtfbegonnbdakpaaWsl
import Derived.Test.YtfbegonnbdakpaaOver
import Derived.Test.YtfbegonnbdakpaaSam
namespace Go.Proofs.Ytfbegonnbdakpaa
open Go.RowKit Go.ChangeShapes Go.WideShapes Go.ChangeAt
set_option linter.unusedVariables false
set_option linter.unusedSimpArgs false
set_option maxRecDepth 8000
theorem sI_small {ns : List (Int × Int)} (h : Wh ns) (j : Nat) (hj : j ≤ 40) : (sI (·.1) ns j).natAbs < 16777216 ∧ (sI (·.2) ns j).natAbs < 16777216 := by
  have h1 := sI_bd (·.1) ns 100 (fun j => (h.at j).1) j
  have h2 := sI_bd (·.2) ns 100 (fun j => (h.at j).2) j
  omega
/-- the two samples that the law writes out -/
def lit2 : List (Nat × Nat) := [(1073741824, 1065353216), (1077936128, 0)]
theorem lit2_1 : sgF (·.1) lit2 (suN lit2) = some 1084227584 := by kernel_rfl
theorem lit2_2 : sgF (·.2) lit2 (suN lit2) = some 1065353216 := by kernel_rfl
theorem lit2_s : smB 1084227584 1065353216 1084227584 1065353216 = true := by kernel_rfl
theorem lit2_rg {w : World} {g : Nat} (hk : Blk w g #[.float .f32 1073741824, .float .f32 1065353216, .float .f32 1077936128, .float .f32 0] 26) : Rg 2 smC w (.slice (some ⟨g, 0, none⟩) 2 2) lit2 := by
  refine ⟨_, _, rfl, Nat.le_refl _, by simp [maxLen, lit2], .inr ⟨g, 0, rfl, fun i hi => ?_⟩⟩
  match i, hi with
  | 0, _ =>
    intro j u hu
    match j, hu with
    | 0, hu => rw [← hu]; exact hk.cell 0
    | 1, hu => rw [← hu]; exact hk.cell 1
  | 1, _ =>
    intro j u hu
    match j, hu with
    | 0, hu => rw [← hu]; exact hk.cell 2
    | 1, hu => rw [← hu]; exact hk.cell 3
theorem mulsq (a : Int) (h : a.natAbs ≤ 100) : floatBits .mul .f64 (fi .f64 a) (fi .f64 a) = some (fi .f64 (a * a)) := by
  unfold fi
  rw [mul64 _ _ _ _ h h]
  have e1 : (decide (a < 0) ^^ decide (a < 0)) = false := by cases decide (a < 0) <;> rfl
  have e2 : decide (a * a < 0) = false := decide_eq_false (by rw [natAbs_sq]; omega)
  rw [e1, e2, Int.natAbs_mul]
theorem sq_step (ns : List (Int × Int)) (h : Wh ns) (j : Nat) (hj : j < 40) (a b : Int) (hab : ns.getD j (0, 0) = (a, b)) (hl : a.natAbs ≤ 100 ∧ b.natAbs ≤ 100) :
    fo .add .f64 (fo .add .f64 (some (fi .f64 (sI sq ns j))) (fo .mul .f64 (some (fi .f64 a)) (some (fi .f64 a)))) (fo .mul .f64 (some (fi .f64 b)) (some (fi .f64 b))) = some (fi .f64 (sI sq ns (j + 1))) := by
  have hq : ∀ j, (sq (ns.getD j (0, 0))).natAbs ≤ 20000 := by
    intro j
    have hw := h.at j
    have q1 := sq_bd hw.1
    have q2 := sq_bd hw.2
    have e : sq (ns.getD j (0, 0)) = (((ns.getD j (0, 0)).1.natAbs * (ns.getD j (0, 0)).1.natAbs + (ns.getD j (0, 0)).2.natAbs * (ns.getD j (0, 0)).2.natAbs : Nat) : Int) := by simp only [sq]; rw [natAbs_sq, natAbs_sq]; omega
    rw [e]; omega
  have b1 := sI_bd sq ns 20000 hq j
  have q1 := sq_bd hl.1
  have q2 := sq_bd hl.2
  have ea := natAbs_sq a
  have eb := natAbs_sq b
  simp only [fo, mulsq a hl.1, mulsq b hl.2]
  rw [add64 _ _ (by omega) (by omega) (by omega)]
  simp only
  rw [add64 _ _ (by omega) (by omega) (by omega)]
  simp only [sI, hab, sq]
  rw [Int.add_assoc]
theorem fl_len (ns : List (Int × Int)) : (fl ns).length = ns.length := by simp [fl]
set_option maxHeartbeats 12800000 in
theorem wholeLaw (v : Value) (zs : List Int) (w : World) (h : Rd .u8 w v zs) (hok : ∀ z ∈ zs, 0 ≤ z ∧ z ≤ 255) : Calls Try.prog 4 #[v] w fun e w' => e = .returned (.bool true) ∧ Below w.heap.size w w' := by
  have HR : Hid (Rd .u8 w v zs) := h
  have HOK : Hid (∀ z ∈ zs, 0 ≤ z ∧ z ≤ 255) := hok
  clear h hok
  have hsf := storeF
  by_cases hbig : (1048576 : Int) < (zs.length : Int)
  case pos =>
    have HBG : Hid (decide ((1048576 : Int) < (zs.length : Int)) = true) := decide_eq_true hbig
    clear hbig
    go_enter Try.func4, Try.ntmps4
    go_wp2_with (fail)
    refine (big_c v zs w HR.out).mono ?_
    rintro e w' ⟨rfl, hw⟩
    rw [hw, HBG.out]
    clear hw
    go_wp2
    go_ret
    exact ⟨rfl, Below.refl _ _⟩
  have HBG : Hid (decide ((1048576 : Int) < (zs.length : Int)) = false) := decide_eq_false hbig
  have HLN : Hid (zs.length ≤ 1048576) := by show _ ≤ _; omega
  clear hbig
  go_enter Try.func4, Try.ntmps4
  go_wp2_with (fail)
  refine (big_c v zs w HR.out).mono ?_
  rintro e w' ⟨rfl, hw⟩
  rw [hw, HBG.out]
  clear hw
  go_wp2_with (fail)
  refine (drawWs_c v zs w HR.out HOK.out HLN.out).mono ?_
  rintro e w1 ⟨v1, ns, rfl, r1, hWh, b1⟩
  have HW : Hid (Wh ns) := hWh
  have HR1 : Hid (Rg 2 smC w1 v1 (fl ns)) := r1
  have HB1 : Hid (Below w.heap.size w w1) := b1
  have HSN : Hid (suN (fl ns) = ns.length) := by show _ = _; unfold suN; rw [fl_len, if_pos (by have := hWh.1; omega)]
  obtain ⟨A, hA⟩ : ∃ A, sI (·.1) ns ns.length = A := ⟨_, rfl⟩
  obtain ⟨B, hB⟩ : ∃ B, sI (·.2) ns ns.length = B := ⟨_, rfl⟩
  have hs := sI_small hWh ns.length hWh.1
  rw [hA, hB] at hs
  have HAB : Hid (A.natAbs < 16777216 ∧ B.natAbs < 16777216) := hs
  have HS1 : Hid (sgF (·.1) (fl ns) ns.length = some (fi .f32 A) ∧ dbF (·.1) (fl ns) ns.length = some (fi .f64 A)) := by
    have := sg_fl (·.1) (·.1) (fun _ => rfl) ns (fun j => (hWh.at j).1) ns.length hWh.1
    rw [hA] at this; exact this
  have HS2 : Hid (sgF (·.2) (fl ns) ns.length = some (fi .f32 B) ∧ dbF (·.2) (fl ns) ns.length = some (fi .f64 B)) := by
    have := sg_fl (·.2) (·.2) (fun _ => rfl) ns (fun j => (hWh.at j).2) ns.length hWh.1
    rw [hB] at this; exact this
  clear hWh r1 b1 hs hA hB
  go_wp2_with (fail)
  refine (sumsI_c v1 (fl ns) w1 HR1.out).mono ?_
  rintro e w2 ⟨x, y, u, q, rfl, hx, hy, hu, hq, b2⟩
  rw [HSN.out, HS1.out.1] at hx
  rw [HSN.out, HS2.out.1] at hy
  rw [HSN.out, HS1.out.2] at hu
  rw [HSN.out, HS2.out.2] at hq
  obtain rfl := fc_eq hx
  obtain rfl := fc_eq hy
  obtain rfl := fc_eq hu
  obtain rfl := fc_eq hq
  have HB2 : Hid (Below w.heap.size w w2) := HB1.out.trans (b2.mono HB1.out.size)
  have HR2 : Hid (Rg 2 smC w2 v1 (fl ns)) := HR1.out.below b2
  clear hx hy hu hq b2
  obtain ⟨xa, hxa⟩ : ∃ x, fi .f32 A = x := ⟨_, rfl⟩
  obtain ⟨xb, hxb⟩ : ∃ x, fi .f32 B = x := ⟨_, rfl⟩
  obtain ⟨ya, hya⟩ : ∃ x, fi .f64 A = x := ⟨_, rfl⟩
  obtain ⟨yb, hyb⟩ : ∃ x, fi .f64 B = x := ⟨_, rfl⟩
  have HN1 : Hid (∀ W : World, Calls Try.prog 23 #[.agg #[.float .f64 ya, .float .f64 yb]] W fun e w' => e = .returned (.agg #[.float .f32 xa, .float .f32 xb]) ∧ Below W.heap.size W w') := by
    intro W
    rw [← hxa, ← hxb, ← hya, ← hyb]
    exact narI_c _ _ _ _ HAB.out.1 HAB.out.2 W
  have hna : fnan .f32 xa = false := by rw [← hxa]; exact wN_nan ..
  have hnb : fnan .f32 xb = false := by rw [← hxb]; exact wN_nan ..
  have hma : fnan .f64 ya = false := by rw [← hya]; exact wN_nan ..
  have hmb : fnan .f64 yb = false := by rw [← hyb]; exact wN_nan ..
  have HN2 : Hid (∀ W : World, Calls Try.prog 24 #[.agg #[.float .f32 xa, .float .f32 xb], .agg #[.float .f32 xa, .float .f32 xb]] W fun e w' => e = .returned (.bool true) ∧ Below W.heap.size W w') := fun W => alike_c xa xb hna hnb W
  have HN3 : Hid (∀ W : World, Calls Try.prog 25 #[.agg #[.float .f32 xa, .float .f32 xb]] W fun e w' => e = .returned (.agg #[.float .f64 ya, .float .f64 yb]) ∧ Below W.heap.size W w') := by
    intro W
    have := widX_c xa xb hna hnb W
    rw [← hxa, ← hxb, wid_fi _ HAB.out.1, wid_fi _ HAB.out.2] at this
    rw [← hxa, ← hxb, ← hya, ← hyb]
    exact this
  have hEq : ∀ W : World, (Op.equalIn 10000 30 (.agg #[.float .f64 ya, .float .f64 yb]) (.agg #[.float .f64 ya, .float .f64 yb])).run Try.prog W = .ok true W := fun W => eqW ya yb hma hmb W
  have hGd := guard30
  rw [hxa, hxb, hya, hyb]
  clear hna hnb hma hmb hxa hxb hya hyb
  obtain ⟨V0, hV0⟩ : ∃ W, (w2.alloc (Obj.cells #[.float .f32 xa, .float .f32 xb] 26)).alloc (Obj.cells #[.float .f64 ya, .float .f64 yb] 30) = W := ⟨_, rfl⟩
  have HV0 : Hid ((w2.alloc (Obj.cells #[.float .f32 xa, .float .f32 xb] 26)).alloc (Obj.cells #[.float .f64 ya, .float .f64 yb] 30) = V0) := hV0
  have BV : Below w2.heap.size w2 V0 := by rw [← hV0]; exact ((Below.refl _ _).alloc (Nat.le_refl _) _).alloc (by simp) _
  have HB3 : Hid (Below w.heap.size w V0) := HB2.out.trans (BV.mono HB2.out.size)
  have HR3 : Hid (Rg 2 smC V0 v1 (fl ns)) := HR2.out.below BV
  have HK4 : Hid (Blk V0 w2.heap.size #[.float .f32 xa, .float .f32 xb] 26) := by rw [← hV0]; exact (Blk.new _ _ _).alloc _
  have HK5 : Hid (Blk V0 (w2.heap.size + 1) #[.float .f64 ya, .float .f64 yb] 30) := by rw [← hV0]; exact Blk.newAt _ _ _ _ (by simp)
  clear BV hV0
  go_wp2
  rw [HV0.out]
  have z0 : ∀ W : Ov V0, W.wd.cell? ⟨w2.heap.size, 0, none⟩ = some (.float .f32 xa) := fun W => (W.ok.cell HK4.out.lt).trans (HK4.out.cell 0)
  have z1 : ∀ W : Ov V0, W.wd.cell? ⟨w2.heap.size, 1, none⟩ = some (.float .f32 xb) := fun W => (W.ok.cell HK4.out.lt).trans (HK4.out.cell 1)
  have z2 : ∀ W : Ov V0, W.wd.cell? ⟨w2.heap.size + 1, 0, none⟩ = some (.float .f64 ya) := fun W => (W.ok.cell HK5.out.lt).trans (HK5.out.cell 0)
  have z3 : ∀ W : Ov V0, W.wd.cell? ⟨w2.heap.size + 1, 1, none⟩ = some (.float .f64 yb) := fun W => (W.ok.cell HK5.out.lt).trans (HK5.out.cell 1)
  have ne1 : Nonempty (Ov V0) := ⟨⟨_, Below.refl _ _⟩⟩
  have C1 : Hid (∀ W : Ov V0, Calls Try.prog 23 #[.agg #[.float .f64 ya, .float .f64 yb]] W.wd fun e w'' => e = .returned (.agg #[.float .f32 xa, .float .f32 xb]) ∧ ∃ W' : Ov V0, w'' = W'.wd) := fun W => ov_call (HN1.out W.wd)
  have C2 : Hid (∀ W : Ov V0, Calls Try.prog 24 #[.agg #[.float .f32 xa, .float .f32 xb], .agg #[.float .f32 xa, .float .f32 xb]] W.wd fun e w'' => e = .returned (.bool true) ∧ ∃ W' : Ov V0, w'' = W'.wd) := fun W => ov_call (HN2.out W.wd)
  have C3 : Hid (∀ W : Ov V0, Calls Try.prog 25 #[.agg #[.float .f32 xa, .float .f32 xb]] W.wd fun e w'' => e = .returned (.agg #[.float .f64 ya, .float .f64 yb]) ∧ ∃ W' : Ov V0, w'' = W'.wd) := fun W => ov_call (HN3.out W.wd)
  refine region_over (by kernel_rfl) (by kernel_rfl) ?_
  repeat (go_big_quiet_step (first | (go_at_call 23; exact C1.out _) | (go_at_call 24; exact C2.out _) | (go_at_call 25; exact C3.out _)))
  refine wpQuiet_nil ?_
  rintro _ ⟨W, rfl⟩
  obtain ⟨w3, hw3⟩ : ∃ U, W.wd = U := ⟨_, rfl⟩
  have HB4 : Hid (Below w.heap.size w w3) := by rw [← hw3]; exact HB3.out.trans (W.ok.mono HB3.out.size)
  have HR4 : Hid (Rg 2 smC w3 v1 (fl ns)) := by rw [← hw3]; exact HR3.out.below W.ok
  rw [hw3]
  clear hw3 z0 z1 z2 z3 ne1 C1 C2 C3 hEq hGd HV0 HN1 HN2 HN3 HB3 HR3 HK4 HK5
  obtain ⟨V1, hV1⟩ : ∃ U, w3.alloc (Obj.cells #[.float .f32 1073741824, .float .f32 1065353216, .float .f32 1077936128, .float .f32 0] 26) = U := ⟨_, rfl⟩
  have HV1 : Hid (w3.alloc (Obj.cells #[.float .f32 1073741824, .float .f32 1065353216, .float .f32 1077936128, .float .f32 0] 26) = V1) := hV1
  have BV1 : Below w3.heap.size w3 V1 := by rw [← hV1]; exact (Below.refl _ _).alloc (Nat.le_refl _) _
  have HB5 : Hid (Below w.heap.size w V1) := HB4.out.trans (BV1.mono HB4.out.size)
  have HR5 : Hid (Rg 2 smC V1 v1 (fl ns)) := HR4.out.below BV1
  have HL5 : Hid (Rg 2 smC V1 (.slice (some ⟨w3.heap.size, 0, none⟩) 2 2) lit2) := by
    have hk : Blk V1 w3.heap.size #[.float .f32 1073741824, .float .f32 1065353216, .float .f32 1077936128, .float .f32 0] 26 := by rw [← hV1]; exact Blk.new _ _ _
    exact lit2_rg hk
  clear BV1 hV1
  go_wp2_with (fail)
  rw [HV1.out]
  refine (sumsI_c _ lit2 V1 HL5.out).mono ?_
  rintro e w4 ⟨x, y, u, q, rfl, hx, hy, hu, hq, b4⟩
  rw [lit2_1] at hx
  rw [lit2_2] at hy
  obtain rfl := fc_eq hx
  obtain rfl := fc_eq hy
  have HB6 : Hid (Below w.heap.size w w4) := HB5.out.trans (b4.mono HB5.out.size)
  have HR6 : Hid (Rg 2 smC w4 v1 (fl ns)) := HR5.out.below b4
  clear hx hy hu hq b4
  obtain ⟨V2, hV2⟩ : ∃ U, (w4.alloc (Obj.cells #[.float .f32 1084227584, .float .f32 1065353216] 26)).alloc (Obj.cells #[.float .f64 u, .float .f64 q] 30) = U := ⟨_, rfl⟩
  have HV2 : Hid ((w4.alloc (Obj.cells #[.float .f32 1084227584, .float .f32 1065353216] 26)).alloc (Obj.cells #[.float .f64 u, .float .f64 q] 30) = V2) := hV2
  have BV2 : Below w4.heap.size w4 V2 := by rw [← hV2]; exact ((Below.refl _ _).alloc (Nat.le_refl _) _).alloc (by simp) _
  have HB7 : Hid (Below w.heap.size w V2) := HB6.out.trans (BV2.mono HB6.out.size)
  have HR7 : Hid (Rg 2 smC V2 v1 (fl ns)) := HR6.out.below BV2
  clear BV2 hV2
  go_wp2_with (fail)
  rw [HV2.out]
  refine (sameI_c _ _ _ _ V2).mono ?_
  rintro e w5 ⟨rfl, b5⟩
  rw [lit2_s]
  have HB8 : Hid (Below w.heap.size w w5) := HB7.out.trans (b5.mono HB7.out.size)
  have HR8 : Hid (Rg 2 smC w5 v1 (fl ns)) := HR7.out.below b5
  clear b5
  go_wp2_with (fail)
  refine (matchI_c v1 v1 (fl ns) (fl ns) w5 HR8.out HR8.out).mono ?_
  rintro e w6 ⟨mu, mq, rfl, hmu, hmq, b6⟩
  have HMB : Hid (mtB (fl ns) (fl ns) = decide (1 ≤ ns.length)) := by
    show _ = _
    unfold mtB
    rw [fl_len, decide_eq_true rfl, decide_eq_true (show ns.length ≤ 200 by have := HW.out.1; omega)]; simp
  have HMN : Hid (mtN (fl ns) (fl ns) = ns.length) := by
    show _ = _
    unfold mtN
    rw [HMB.out, fl_len]
    by_cases h : 1 ≤ ns.length
    · rw [decide_eq_true h, if_pos rfl]
    · rw [decide_eq_false h]; simp; omega
  have hmt := mt_fl ns HW.out ns.length HW.out.1
  rw [HMN.out, hmt.1] at hmu
  rw [HMN.out, hmt.2] at hmq
  obtain rfl := fc_eq hmu
  obtain rfl := fc_eq hmq
  have HB9 : Hid (Below w.heap.size w w6) := HB8.out.trans (b6.mono HB8.out.size)
  have HR9 : Hid (Rg 2 smC w6 v1 (fl ns)) := HR8.out.below b6
  rw [HMB.out]
  obtain ⟨SQ, hSQ⟩ : ∃ x, fi .f64 (sI sq ns ns.length) = x := ⟨_, rfl⟩
  have HSQ : Hid (fi .f64 (sI sq ns ns.length) = SQ) := hSQ
  rw [hSQ, fi0]
  clear hmu hmq b6 hmt hSQ
  obtain ⟨V3, hV3⟩ : ∃ U, w6.alloc (Obj.cells #[.float .f64 SQ, .float .f64 0] 30) = U := ⟨_, rfl⟩
  have HV3 : Hid (w6.alloc (Obj.cells #[.float .f64 SQ, .float .f64 0] 30) = V3) := hV3
  have HKM : Hid (Blk V3 w6.heap.size #[.float .f64 SQ, .float .f64 0] 30) := by rw [← hV3]; exact Blk.new _ _ _
  have BV3 : Below w6.heap.size w6 V3 := by rw [← hV3]; exact (Below.refl _ _).alloc (Nat.le_refl _) _
  have HBa : Hid (Below w.heap.size w V3) := HB9.out.trans (BV3.mono HB9.out.size)
  have HRa : Hid (Rg 2 smC V3 v1 (fl ns)) := HR9.out.below BV3
  clear BV3 hV3
  obtain ⟨a1, c1, rfl, l1, l2, l3⟩ := HRa.out
  unfold maxLen at l2
  have hle : (fl ns).length ≤ 40 := by rw [fl_len]; exact HW.out.1
  have hop := run_fop (P := Try.prog) .add (by simp)
  have hom := run_fop (P := Try.prog) .mul (by simp)
  go_wp2
  rw [HV3.out]
  go_loopw [10, 11] (fun s i wr => ∃ (j Q : Nat), j ≤ (fl ns).length ∧ i = .int .i64 j ∧ s = .float .f64 Q ∧ Hid (fc .f64 Q = some (fi .f64 (sI sq ns j))) ∧ Hid (Below V3.heap.size V3 wr)) (fun _ i _ => (fl ns).length - (intOf i).toNat)
  case atStart => exact ⟨0, 0, Nat.zero_le _, rfl, rfl, by show _ = _; rw [sI, fi0]; exact fcd0, Below.refl _ _⟩
  case round =>
    obtain ⟨j, Q, hj, rfl, rfl, HQ, HBr⟩ := hrel
    by_cases hlt : j < (fl ns).length
    case neg =>
      obtain rfl : j = (fl ns).length := by omega
      have hQ : Q = SQ := by have h1 := fc_eq HQ.out; rw [fl_len] at h1; rw [h1, HSQ.out]
      subst hQ
      have hnn : fnan .f64 Q = false := by rw [← HSQ.out]; exact wN_nan ..
      have o1 := order_self hnn
      have o2 : FloatKind.f64.format.order 0 0 = some .eq := by decide
      have KM := HKM.out.below HBr.out HKM.out.lt
      have k0 := KM.cell 0
      have k1 := KM.cell 1
      simp at k0 k1
      have HEnd : Hid (Below w.heap.size w wr) := HBa.out.trans (HBr.out.mono HBa.out.size)
      clear l3 KM hnn
      by_cases hn : 1 ≤ ns.length
      · have d1 : decide (1 ≤ ns.length) = true := decide_eq_true hn
        have d2 : (0 : Int) < ((fl ns).length : Int) := by rw [fl_len]; omega
        rw [d1]
        go_wp2
        go_ret
        exact ⟨rfl, HEnd.out⟩
      · have d1 : decide (1 ≤ ns.length) = false := decide_eq_false hn
        have d2 : ¬ (0 : Int) < ((fl ns).length : Int) := by rw [fl_len]; omega
        have d3 : decide ((0 : Int) < ((fl ns).length : Int)) = false := decide_eq_false d2
        rw [d1]
        go_wp2
        all_goals
          go_ret
          refine ⟨?_, HEnd.out⟩
          first
            | rfl
            | simp_all
    rcases l3 with l3 | ⟨b, off, rfl, h4⟩
    · rw [l3] at hlt; simp at hlt
    have hcb : b < V3.heap.size := block_lt_of_cell (h4 j hlt 0 _ rfl)
    have hc := rangeAt_below (h4 j hlt) HBr.out hcb
    have hjn : j < ns.length := by rw [fl_len] at hlt; exact hlt
    have hel : (fl ns)[j] = (fi .f32 (ns.getD j (0, 0)).1, fi .f32 (ns.getD j (0, 0)).2) := by
      have := fl_at ns j
      rw [List.getD_eq_getElem?_getD, List.getElem?_eq_getElem hlt] at this
      exact this
    rw [hel] at hc
    obtain ⟨⟨na, nb⟩, hnab⟩ : ∃ p, ns.getD j (0, 0) = p := ⟨_, rfl⟩
    have hat := HW.out.at j
    rw [hnab] at hc hat
    have HNA : Hid (ns.getD j (0, 0) = (na, nb)) := hnab
    have HAT : Hid (na.natAbs ≤ 100 ∧ nb.natAbs ≤ 100) := hat
    obtain ⟨p, hp⟩ : ∃ x, fi .f32 na = x := ⟨_, rfl⟩
    obtain ⟨r, hr⟩ : ∃ x, fi .f32 nb = x := ⟨_, rfl⟩
    have HP : Hid (fi .f32 na = p ∧ fi .f32 nb = r) := ⟨hp, hr⟩
    have hc0 : wr.cell? ⟨b, off + j * 2, none⟩ = some (.float .f32 p) := by rw [← hp]; exact hc 0 _ rfl
    have hc1 : wr.cell? ⟨b, off + j * 2 + 1, none⟩ = some (.float .f32 r) := by rw [← hr]; exact hc 1 _ rfl
    clear h4 hc hel hnab hat hp hr
    go_wp2_with (fail)
    refine (widY_c p r (by rw [← HP.out.1]; exact wN_nan ..) (by rw [← HP.out.2]; exact wN_nan ..) _).mono ?_
    rintro e w8 ⟨rfl, b8⟩
    have HB8' : Hid (Below V3.heap.size V3 w8) := HBr.out.trans (b8.mono HBr.out.size)
    obtain ⟨wa, hwa⟩ : ∃ x, wid p = x := ⟨_, rfl⟩
    obtain ⟨wb, hwb⟩ : ∃ x, wid r = x := ⟨_, rfl⟩
    have HWA : Hid (wa = fi .f64 na ∧ wb = fi .f64 nb) := by
      have := HAT.out
      exact ⟨by rw [← hwa, ← HP.out.1]; exact wid_fi _ (by omega), by rw [← hwb, ← HP.out.2]; exact wid_fi _ (by omega)⟩
    rw [hwa, hwb]
    clear b8 hc0 hc1 hwa hwb
    go_wp2
    go_roundw
    case rel =>
      refine ⟨j + 1, _, by omega, by go_num, rfl, ?_, below_drewN (HB8'.out.alloc HB8'.out.size _) _⟩
      show _ = _
      simp only [fc_fv, HQ.out, HWA.out.1, HWA.out.2, fi_fc]
      exact sq_step ns HW.out j (by rw [fl_len] at hlt; have := HW.out.1; omega) na nb HNA.out HAT.out
    case measure => simp [intOf]; omega
theorem wholeLawW (v : Value) (zs : List Int) (w : World) (h : Rd .u8 w v zs) (hwf : ∀ z ∈ zs, (Lit.int .u8 z).wf = true) : Calls Try.prog 4 #[v] w fun e w' => e = .returned (.bool true) ∧ Below w.heap.size w w' := wholeLaw v zs w h (fun z hz => bounds_u8 (hwf z hz))

end Go.Proofs.Ytfbegonnbdakpaa
