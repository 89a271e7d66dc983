/- Finite floats, of both sides; no condition. -/
import Derived.Test.YtomgdlnpajfjhaaQuo
import Derived.Test.YtomgdlnpajfjhaaMixT
namespace Go.Proofs.Ytomgdlnpajfjhaa
open Go.RowKit Go.ChangeShapes Go.WideShapes Go.ChangeAt
set_option linter.unusedVariables false
set_option linter.unusedSimpArgs false
set_option maxRecDepth 8000
theorem cf97 (x : Nat) (w : World) : (callFunc 63 #[.float .f64 x]).run Try.prog w = .ok (.value (.int .u64 (x : Int))) w := by kernel_rfl
theorem cf96 (x : Int) (w : World) : (callFunc 62 #[.int .u64 x]).run Try.prog w = .ok (.value (.float .f64 x.toNat)) w := by kernel_rfl
theorem andnot63 (x : Nat) (hx : x < 2 ^ 64) : (bits .andNot .u64 (x : Int) 9223372036854775808).toNat = x % 2 ^ 63 := by
  have h1 : BitVec.ofInt 64 (x : Int) = BitVec.ofNat 64 x := by simp
  have h2 : ~~~ (BitVec.ofInt 64 9223372036854775808) = BitVec.ofNat 64 (2 ^ 63 - 1) := by decide
  have h3 : (BitVec.ofInt 64 (x : Int) &&& ~~~ (BitVec.ofInt 64 9223372036854775808)).toNat = x % 2 ^ 63 := by
    rw [h1, h2, BitVec.toNat_and, BitVec.toNat_ofNat, BitVec.toNat_ofNat, Nat.mod_eq_of_lt hx, Nat.mod_eq_of_lt (by decide), Nat.and_two_pow_sub_one_eq_mod]
  have h4 : bits .andNot .u64 (x : Int) 9223372036854775808 = IntKind.wrap .u64 ((BitVec.ofInt 64 (x : Int) &&& ~~~ (BitVec.ofInt 64 9223372036854775808)).toNat) := rfl
  rw [h4, h3]
  have h5 : x % 2 ^ 63 < 2 ^ 63 := Nat.mod_lt _ (Nat.two_pow_pos _)
  generalize x % 2 ^ 63 = r at h5
  have e : (2:Nat) ^ 63 = 9223372036854775808 := by decide
  rw [e] at h5
  simp [IntKind.wrap, IntKind.signed, IntKind.bits]
  omega
theorem abs_c (x : Nat) (hx : x < 2 ^ 64) (w : World) : Calls Try.prog 61 #[.float .f64 x] w fun e w' => e = .returned (.float .f64 (x % 2 ^ 63)) ∧ w' = w := by
  have HA : Hid ((bits .andNot .u64 (x : Int) 9223372036854775808).toNat = x % 2 ^ 63) := andnot63 x hx
  have h1 := cf97
  have h2 := cf96
  go_enter Try.func61, Try.ntmps61
  go_wp2
  go_ret
  exact ⟨by rw [← HA.out]; rfl, rfl⟩
theorem isNaN_c (x : Nat) (w : World) : Calls Try.prog 59 #[.float .f64 x] w fun e w' => e = .returned (.bool (fnan .f64 x)) ∧ w' = w := by
  have ho : (FloatKind.f64.format.order x x != some .eq) = fnan .f64 x := by
    cases h : fnan .f64 x
    · rw [order_self h]; rfl
    · rw [order_nan h]; rfl
  have HO : Hid ((FloatKind.f64.format.order x x != some .eq) = fnan .f64 x) := ho
  clear ho
  go_enter Try.func59, Try.ntmps59
  go_wp2
  go_ret
  exact ⟨by rw [← HO.out]; rfl, rfl⟩
theorem isInf_c (x : Nat) (hx : x < 2 ^ 64) (hn : fnan .f64 x = false) (w : World) : Calls Try.prog 60 #[.float .f64 x, .int .i64 0] w fun e w' => e = .returned (.bool (!finB x)) ∧ w' = w := by
  have HI : Hid ((FloatKind.f64.format.order (x % 2 ^ 63) 9218868437227405311 == some .gt) = !finB x) := inf_cmp hn
  go_enter Try.func60, Try.ntmps60
  go_wp2_with (fail)
  refine (abs_c x hx w).mono ?_
  rintro e w' ⟨rfl, hw⟩
  rw [hw]
  clear hw
  go_wp2
  go_ret
  exact ⟨by rw [← HI.out]; rfl, rfl⟩
theorem fin_nan {x : Nat} (h : fnan .f64 x = true) : finB x = false := by
  unfold fnan at h
  unfold finB
  cases hd : FloatKind.f64.decode x <;> rw [hd] at h <;> first | rfl | (cases h; done)
theorem finPart_c (x : Nat) (hx : x < 2 ^ 64) (w : World) : Calls Try.prog 57 #[.float .f64 x] w fun e w' => e = .returned (.bool (finB x)) ∧ w' = w := by
  cases hn : fnan .f64 x
  · have HN : Hid (fnan .f64 x = false) := hn
    go_enter Try.func57, Try.ntmps57
    go_wp2_with (fail)
    refine (isNaN_c x w).mono ?_
    rintro e w' ⟨rfl, hw⟩
    rw [hw]
    clear hw
    go_wp2_with (fail)
    refine (isInf_c x hx HN.out w).mono ?_
    rintro e w' ⟨rfl, hw⟩
    rw [hw]
    clear hw
    go_wp2
    go_ret
    exact ⟨by simp, rfl⟩
  · have HF : Hid (finB x = false) := fin_nan hn
    go_enter Try.func57, Try.ntmps57
    go_wp2_with (fail)
    refine (isNaN_c x w).mono ?_
    rintro e w' ⟨rfl, hw⟩
    rw [hw]
    clear hw
    go_wp2
    go_ret
    exact ⟨by rw [HF.out]; rfl, rfl⟩
theorem finI_c (x y : Nat) (hx : x < 2 ^ 64) (hy : y < 2 ^ 64) (w : World) : Calls Try.prog 51 #[.complex .f64 x y] w fun e w' => e = .returned (.bool (finB x && finB y)) ∧ w' = w := by
  cases h : finB x
  · have HF : Hid (finB x = false) := h
    go_enter Try.func51, Try.ntmps51
    go_wp2_with (fail)
    refine (finPart_c x hx w).mono ?_
    rintro e w' ⟨rfl, hw⟩
    rw [hw]
    clear hw
    go_wp2
    go_ret
    exact ⟨rfl, rfl⟩
  · have HF : Hid (finB x = true) := h
    go_enter Try.func51, Try.ntmps51
    go_wp2_with (fail)
    refine (finPart_c x hx w).mono ?_
    rintro e w' ⟨rfl, hw⟩
    rw [hw]
    clear hw
    go_wp2_with (fail)
    refine (finPart_c y hy w).mono ?_
    rintro e w' ⟨rfl, hw⟩
    rw [hw]
    clear hw
    go_wp2
    go_ret
    exact ⟨by simp, rfl⟩
end Go.Proofs.Ytomgdlnpajfjhaa
namespace Go.Proofs.Ytomgdlnpajfjhaa
open Go.RowKit Go.ChangeShapes Go.WideShapes Go.ChangeAt
set_option linter.unusedVariables false
set_option linter.unusedSimpArgs false
set_option maxRecDepth 8000
/-- the quotient's parts, by what its four parts are -/
def qRe (ge : Bool) (a b c d : Option Nat) : Option Nat :=
  let f := fun op x y => fo op .f64 x y
  if ge then f .quo (f .add a (f .mul b (f .quo d c))) (f .add c (f .mul (f .quo d c) d))
  else f .quo (f .add (f .mul a (f .quo c d)) b) (f .add d (f .mul (f .quo c d) c))
def qIm (ge : Bool) (a b c d : Option Nat) : Option Nat :=
  let f := fun op x y => fo op .f64 x y
  if ge then f .quo (f .sub b (f .mul a (f .quo d c))) (f .add c (f .mul (f .quo d c) d))
  else f .quo (f .sub (f .mul b (f .quo c d)) a) (f .add d (f .mul (f .quo c d) c))
/-- whether both are zero -/
def z2 (c d : Nat) : Bool := (FloatKind.f64.format.order c 0 == some .eq) && (FloatKind.f64.format.order d 0 == some .eq)
theorem fin_inf {x : Nat} (h : finB x = true) : Op.Complex.isInf x = false := by
  unfold finB at h
  unfold Op.Complex.isInf
  cases hd : FloatKind.f64.decode x <;> rw [hd] at h <;> first | rfl | (cases h; done)
section
variable {P : Program}
theorem run_cq (a b c d : Nat) (w : World) (ha : finB a = true) (hb : finB b = true) (hc : finB c = true) (hd : finB d = true) (hz : z2 c d = false) : ∃ re im n, (Op.Complex.quotient a b c d).run P w = .ok (re, im) (w.drewN n) ∧
    fc .f64 re = qRe (absGe c d) (fc .f64 a) (fc .f64 b) (fc .f64 c) (fc .f64 d) ∧ fc .f64 im = qIm (absGe c d) (fc .f64 a) (fc .f64 b) (fc .f64 c) (fc .f64 d) := by
  have hrun : ∀ op x y (w : World), (op = .add ∨ op = .sub ∨ op = .mul ∨ op = .quo) → (Op.Complex.arith op .f64 x y).run P w = .ok (fv op .f64 x y w) (w.drewN (fn op .f64 x y)) := by
    intro op x y w h
    simp [Op.Complex.arith, run_fa op h]
  have hA : ∀ x y (w : World), (Op.Complex.add x y).run P w = .ok (fv .add .f64 x y w) (w.drewN (fn .add .f64 x y)) := fun x y w => hrun _ x y w (by simp)
  have hS : ∀ x y (w : World), (Op.Complex.sub x y).run P w = .ok (fv .sub .f64 x y w) (w.drewN (fn .sub .f64 x y)) := fun x y w => hrun _ x y w (by simp)
  have hM : ∀ x y (w : World), (Op.Complex.mul x y).run P w = .ok (fv .mul .f64 x y w) (w.drewN (fn .mul .f64 x y)) := fun x y w => hrun _ x y w (by simp)
  have hQ : ∀ x y (w : World), (Op.Complex.quo x y).run P w = .ok (fv .quo .f64 x y w) (w.drewN (fn .quo .f64 x y)) := fun x y w => hrun _ x y w (by simp)
  have hE : ∀ x y (w : World), (Op.Complex.cmp .eql .f64 x y).run P w = .ok (FloatKind.f64.format.order x y == some .eq) w := fun x y w => by simp [Op.Complex.cmp, Op.floatCmp, asBool]
  have hfin : ∀ (e f : Nat) (w : World), ((do
      let zero := (← Op.Complex.cmp .eql .f64 c 0) && (← Op.Complex.cmp .eql .f64 d 0)
      if !(Op.Complex.isNaN e && Op.Complex.isNaN f) then pure (e, f)
      else if zero && (!Op.Complex.isNaN a || !Op.Complex.isNaN b) then
        pure (← Op.Complex.mul (Op.Complex.copysign Op.Complex.inf c) a, ← Op.Complex.mul (Op.Complex.copysign Op.Complex.inf c) b)
      else if (Op.Complex.isInf a || Op.Complex.isInf b) && Op.Complex.isFinite c && Op.Complex.isFinite d then
        Op.Complex.corrected Op.Complex.inf (Op.Complex.inf2one a) (Op.Complex.inf2one b) c d
      else if (Op.Complex.isInf c || Op.Complex.isInf d) && Op.Complex.isFinite a && Op.Complex.isFinite b then
        Op.Complex.corrected 0 a b (Op.Complex.inf2one c) (Op.Complex.inf2one d)
      else pure (e, f)) : Sem (Nat × Nat)).run P w = .ok (e, f) w := by
    intro e f w
    have hz' : ((FloatKind.f64.format.order c 0 == some .eq) && (FloatKind.f64.format.order d 0 == some .eq)) = false := hz
    simp only [Sem.run_bind, hE, Result.andThen_ok, hz', fin_inf ha, fin_inf hb, fin_inf hc, fin_inf hd, Bool.false_and, Bool.or_self, Bool.false_eq_true, if_false]
    split <;> rfl
  unfold Op.Complex.quotient
  cases hge : absGe c d
  · simp only [Sem.run_bind, run_ccmp_geq, hge, Result.andThen_ok, Bool.false_eq_true, if_false, hA, hS, hM, hQ, Sem.run_pure, World.drewN_drewN]
    simp only [← Sem.run_bind, hfin]
    refine ⟨_, _, _, rfl, ?_, ?_⟩
    · simp only [fc_fv, qRe, Bool.false_eq_true, if_false]
    · simp only [fc_fv, qIm, Bool.false_eq_true, if_false]
  · simp only [Sem.run_bind, run_ccmp_geq, hge, Result.andThen_ok, if_true, hA, hS, hM, hQ, Sem.run_pure, World.drewN_drewN]
    simp only [← Sem.run_bind, hfin]
    refine ⟨_, _, _, rfl, ?_, ?_⟩
    · simp only [fc_fv, qRe, if_true]
    · simp only [fc_fv, qIm, if_true]
theorem run_cquo (t : TypeId) (a b c d : Nat) (w : World) (ha : finB a = true) (hb : finB b = true) (hc : finB c = true) (hd : finB d = true) (hz : z2 c d = false) : ∃ re im n, (binOp .quo t (.complex .f64 a b) (.complex .f64 c d)).run P w = .ok (.complex .f64 re im) (w.drewN n) ∧
    fc .f64 re = qRe (absGe c d) (fc .f64 a) (fc .f64 b) (fc .f64 c) (fc .f64 d) ∧ fc .f64 im = qIm (absGe c d) (fc .f64 a) (fc .f64 b) (fc .f64 c) (fc .f64 d) := by
  obtain ⟨re, im, n, h1, h2, h3⟩ := run_cq (P := P) a b c d w ha hb hc hd hz
  refine ⟨re, im, n, ?_, h2, h3⟩
  simp [binOp, Op.complexOp, Op.Complex.conv, h1]
end
end Go.Proofs.Ytomgdlnpajfjhaa
namespace Go.Proofs.Ytomgdlnpajfjhaa
open Go.RowKit Go.ChangeShapes Go.WideShapes Go.ChangeAt
set_option linter.unusedVariables false
set_option linter.unusedSimpArgs false
set_option maxRecDepth 8000
/-- what a quotient's answer is -/
def qOk (a b c d : Nat) : Bool := finB a && finB b && (finB c && finB d) && !z2 c d
def qR (a b c d : Nat) : Option Nat := if qOk a b c d then qRe (absGe c d) (fc .f64 a) (fc .f64 b) (fc .f64 c) (fc .f64 d) else some 0
def qI (a b c d : Nat) : Option Nat := if qOk a b c d then qIm (absGe c d) (fc .f64 a) (fc .f64 b) (fc .f64 c) (fc .f64 d) else some 0
def QoR (a b c d : Nat) (w : World) (e : Ending) (w' : World) : Prop := ∃ x y n, e = .returned (.tuple #[.complex .f64 x y, .bool (qOk a b c d)]) ∧ fc .f64 x = qR a b c d ∧ fc .f64 y = qI a b c d ∧ w' = w.drewN n
theorem fc0 : fc .f64 0 = some 0 := fc_some (by decide)
theorem quotOf_c (a b c d : Nat) (ha : a < 2 ^ 64) (hb : b < 2 ^ 64) (hc : c < 2 ^ 64) (hd : d < 2 ^ 64) (w : World) : Calls Try.prog 35 #[.complex .f64 a b, .complex .f64 c d] w (QoR a b c d w) := by
  have hno : qOk a b c d = false → QoR a b c d w (.returned (.tuple #[.complex .f64 0 0, .bool false])) w := fun h => ⟨0, 0, 0, by rw [h], by simp [qR, h, fc0], by simp [qI, h, fc0], rfl⟩
  have HNO : Hid (qOk a b c d = false → QoR a b c d w (.returned (.tuple #[.complex .f64 0 0, .bool false])) w) := hno
  clear hno
  by_cases hf1 : (finB a && finB b) = true
  case neg =>
    have HF1 : Hid ((finB a && finB b) = false) := Bool.eq_false_iff.2 hf1
    clear hf1
    go_enter Try.func35, Try.ntmps35
    go_wp2_with (fail)
    refine (finI_c a b ha hb w).mono ?_
    rintro e w' ⟨rfl, hw⟩
    rw [hw, HF1.out]
    clear hw
    go_wp2
    go_ret2
    exact HNO.out (by simp [qOk, HF1.out])
  have HF1 : Hid ((finB a && finB b) = true) := hf1
  clear hf1
  by_cases hf2 : (finB c && finB d) = true
  case neg =>
    have HF2 : Hid ((finB c && finB d) = false) := Bool.eq_false_iff.2 hf2
    clear hf2
    go_enter Try.func35, Try.ntmps35
    go_wp2_with (fail)
    refine (finI_c a b ha hb w).mono ?_
    rintro e w' ⟨rfl, hw⟩
    rw [hw, HF1.out]
    clear hw
    go_wp2_with (fail)
    refine (finI_c c d hc hd w).mono ?_
    rintro e w' ⟨rfl, hw⟩
    rw [hw, HF2.out]
    clear hw
    go_wp2
    go_ret2
    exact HNO.out (by simp [qOk, HF2.out])
  have HF2 : Hid ((finB c && finB d) = true) := hf2
  clear hf2
  cases hz : z2 c d
  · have hz' : ((FloatKind.f64.format.order c 0 == some .eq) && (FloatKind.f64.format.order d 0 == some .eq)) = false := hz
    have HZ : Hid (z2 c d = false) := hz
    have h1 := HF1.out
    have h2 := HF2.out
    simp only [Bool.and_eq_true] at h1 h2
    obtain ⟨re, im, n, hrun, hre, him⟩ := run_cquo (P := Try.prog) 65 a b c d w h1.1 h1.2 h2.1 h2.2 hz
    have HQ : Hid (qOk a b c d = true) := by show _ = _; unfold qOk; rw [HF1.out, HF2.out, hz]; rfl
    have HRE : Hid (fc .f64 re = qR a b c d) := by show _ = _; unfold qR; rw [HQ.out, if_pos rfl]; exact hre
    have HIM : Hid (fc .f64 im = qI a b c d) := by show _ = _; unfold qI; rw [HQ.out, if_pos rfl]; exact him
    clear hre him h1 h2 hz
    go_enter Try.func35, Try.ntmps35
    go_wp2_with (fail)
    refine (finI_c a b ha hb w).mono ?_
    rintro e w' ⟨rfl, hw⟩
    rw [hw, HF1.out]
    clear hw
    go_wp2_with (fail)
    refine (finI_c c d hc hd w).mono ?_
    rintro e w' ⟨rfl, hw⟩
    rw [hw, HF2.out]
    clear hw
    go_wp2
    go_ret2
    exact ⟨re, im, n, by rw [HQ.out]; rfl, HRE.out, HIM.out, rfl⟩
  · have hz' : ((FloatKind.f64.format.order c 0 == some .eq) && (FloatKind.f64.format.order d 0 == some .eq)) = true := hz
    have HZ : Hid (z2 c d = true) := hz
    clear hz
    go_enter Try.func35, Try.ntmps35
    go_wp2_with (fail)
    refine (finI_c a b ha hb w).mono ?_
    rintro e w' ⟨rfl, hw⟩
    rw [hw, HF1.out]
    clear hw
    go_wp2_with (fail)
    refine (finI_c c d hc hd w).mono ?_
    rintro e w' ⟨rfl, hw⟩
    rw [hw, HF2.out]
    clear hw
    go_wp2
    go_ret2
    exact HNO.out (by simp [qOk, HZ.out])
end Go.Proofs.Ytomgdlnpajfjhaa
namespace Go.Proofs.Ytomgdlnpajfjhaa
open Go.RowKit Go.ChangeShapes Go.WideShapes Go.ChangeAt
set_option linter.unusedVariables false
set_option linter.unusedSimpArgs false
set_option maxRecDepth 8000
/-- what QuotWide answers -/
def QwR (a b c d : Nat) (w : World) (e : Ending) (w' : World) : Prop := ∃ x y, e = .returned (.tuple #[.agg #[.float .f64 x, .float .f64 y], .bool (qOk a b c d)]) ∧ fc .f64 x = qR a b c d ∧ fc .f64 y = qI a b c d ∧ Below w.heap.size w w'
theorem results_W2 {fn : Func} {u p : Tmp} (h : fn.results = #[.cell p 38, .tmp u]) (tmps : Array Value) (w : World) (g : Nat) (x y q : Value)
    (hu : tmps.getD u undef = q) (hp : tmps.getD p undef = .pointer (some ⟨g, 0, none⟩)) (hg : Blk w g #[x, y] 38) :
    (results fn tmps).run Try.prog w = .ok (.tuple #[.agg #[x, y], q]) w := by
  have hp' : tmps[p]?.getD undef = .pointer (some ⟨g, 0, none⟩) := by simpa using hp
  have hu' : tmps[u]?.getD undef = q := by simpa using hu
  have hr := run_loadVar_row (P := Try.prog) w g 38 38 #[x, y] (0, 0) _ hg Try.underlying38 rfl sz30
  simp [results, h, hp', hu', asAddr, hr]
end Go.Proofs.Ytomgdlnpajfjhaa
