/- QuotWide of the model; no condition. -/
import Derived.Test.YtginhbcenfobcaaQu4
import Derived.Test.YtginhbcenfobcaaMixT
namespace Go.Proofs.Ytginhbcenfobcaa
open Go.RowKit Go.ChangeShapes Go.WideShapes Go.ChangeAt
set_option linter.unusedVariables false
set_option linter.unusedSimpArgs false
set_option maxRecDepth 8000
/-- what QuotWide answers -/
def QwR (a b c d : Nat) (w : World) (e : Ending) (w' : World) : Prop := ∃ x y, e = .returned (.tuple #[.agg #[.float .f64 x, .float .f64 y], .bool (qOk a b c d)]) ∧ fc .f64 x = qR a b c d ∧ fc .f64 y = qI a b c d ∧ Below w.heap.size w w'
theorem results_W2 {fn : Func} {u p : Tmp} (h : fn.results = #[.cell p 38, .tmp u]) (tmps : Array Value) (w : World) (g : Nat) (x y q : Value)
    (hu : tmps.getD u undef = q) (hp : tmps.getD p undef = .pointer (some ⟨g, 0, none⟩)) (hg : Blk w g #[x, y] 38) :
    (results fn tmps).run Try.prog w = .ok (.tuple #[.agg #[x, y], q]) w := by
  have hp' : tmps[p]?.getD undef = .pointer (some ⟨g, 0, none⟩) := by simpa using hp
  have hu' : tmps[u]?.getD undef = q := by simpa using hu
  have hr := run_loadVar_row (P := Try.prog) w g 38 38 #[x, y] (0, 0) _ hg Try.underlying38 rfl sz30
  simp [results, h, hp', hu', asAddr, hr]
set_option maxHeartbeats 6400000 in
theorem quotM_c (a b c d : Nat) (hc0 : c < 2 ^ 64) (hd0 : d < 2 ^ 64) (w : World) : Calls Try.prog 63 #[.agg #[.float .f64 a, .float .f64 b], .agg #[.float .f64 c, .float .f64 d]] w (QwR a b c d w) := by
  have HLC : Hid (c < 2 ^ 64) := hc0
  have HLD : Hid (d < 2 ^ 64) := hd0
  clear hc0 hd0
  have hsf := storeF
  have hop := run_fop (P := Try.prog) .add (by simp)
  have hos := run_fop (P := Try.prog) .sub (by simp)
  have hom := run_fop (P := Try.prog) .mul (by simp)
  have hoq := run_fop (P := Try.prog) .quo (by simp)
  cases hfa : finB a
  · have HFa : Hid (finB a = false) := hfa
    have HQ : Hid (qOk a b c d = false) := by show _ = _; unfold qOk; rw [hfa]; simp
    clear hfa
    go_enter Try.func63, Try.ntmps63
    go_wp2_with (fail)
    refine (finM_c a _).mono ?_
    rintro e w' ⟨rfl, na, hw⟩
    rw [hw, HFa.out]
    clear hw
    go_wp2
    refine bodyPost_ret (results_W2 rfl _ _ _ _ _ _ rfl rfl (Blk.set2 ((Blk.newAt _ _ _ _ (by simp)).drewN _) _ _)) rfl ⟨0, 0, ?_, ?_, ?_, below_set2 (below_drewN ((((Below.refl _ _).alloc (Nat.le_refl _) _).alloc (by simp) _).alloc (by simp; omega) _) _) _ (by omega) _ _⟩
    · rw [HQ.out]; rfl
    · rw [qR, HQ.out]; exact fc0
    · rw [qI, HQ.out]; exact fc0
  have HFa : Hid (finB a = true) := hfa
  clear hfa
  cases hfb : finB b
  · have HFb : Hid (finB b = false) := hfb
    have HQ : Hid (qOk a b c d = false) := by show _ = _; unfold qOk; rw [HFa.out, hfb]; simp
    clear hfb
    go_enter Try.func63, Try.ntmps63
    go_wp2_with (fail)
    refine (finM_c a _).mono ?_
    rintro e w' ⟨rfl, na, hw⟩
    rw [hw, HFa.out]
    clear hw
    go_wp2_with (fail)
    refine (finM_c b _).mono ?_
    rintro e w' ⟨rfl, nb, hw⟩
    rw [hw, HFb.out]
    clear hw
    go_wp2
    refine bodyPost_ret (results_W2 rfl _ _ _ _ _ _ rfl rfl (Blk.set2 ((Blk.newAt _ _ _ _ (by simp)).drewN _) _ _)) rfl ⟨0, 0, ?_, ?_, ?_, below_set2 (below_drewN ((((Below.refl _ _).alloc (Nat.le_refl _) _).alloc (by simp) _).alloc (by simp; omega) _) _) _ (by omega) _ _⟩
    · rw [HQ.out]; rfl
    · rw [qR, HQ.out]; exact fc0
    · rw [qI, HQ.out]; exact fc0
  have HFb : Hid (finB b = true) := hfb
  clear hfb
  cases hfc : finB c
  · have HFc : Hid (finB c = false) := hfc
    have HQ : Hid (qOk a b c d = false) := by show _ = _; unfold qOk; rw [HFa.out, HFb.out, hfc]; simp
    clear hfc
    go_enter Try.func63, Try.ntmps63
    go_wp2_with (fail)
    refine (finM_c a _).mono ?_
    rintro e w' ⟨rfl, na, hw⟩
    rw [hw, HFa.out]
    clear hw
    go_wp2_with (fail)
    refine (finM_c b _).mono ?_
    rintro e w' ⟨rfl, nb, hw⟩
    rw [hw, HFb.out]
    clear hw
    go_wp2_with (fail)
    refine (finM_c c _).mono ?_
    rintro e w' ⟨rfl, nc, hw⟩
    rw [hw, HFc.out]
    clear hw
    go_wp2
    refine bodyPost_ret (results_W2 rfl _ _ _ _ _ _ rfl rfl (Blk.set2 ((Blk.newAt _ _ _ _ (by simp)).drewN _) _ _)) rfl ⟨0, 0, ?_, ?_, ?_, below_set2 (below_drewN ((((Below.refl _ _).alloc (Nat.le_refl _) _).alloc (by simp) _).alloc (by simp; omega) _) _) _ (by omega) _ _⟩
    · rw [HQ.out]; rfl
    · rw [qR, HQ.out]; exact fc0
    · rw [qI, HQ.out]; exact fc0
  have HFc : Hid (finB c = true) := hfc
  clear hfc
  cases hfd : finB d
  · have HFd : Hid (finB d = false) := hfd
    have HQ : Hid (qOk a b c d = false) := by show _ = _; unfold qOk; rw [HFa.out, HFb.out, HFc.out, hfd]; simp
    clear hfd
    go_enter Try.func63, Try.ntmps63
    go_wp2_with (fail)
    refine (finM_c a _).mono ?_
    rintro e w' ⟨rfl, na, hw⟩
    rw [hw, HFa.out]
    clear hw
    go_wp2_with (fail)
    refine (finM_c b _).mono ?_
    rintro e w' ⟨rfl, nb, hw⟩
    rw [hw, HFb.out]
    clear hw
    go_wp2_with (fail)
    refine (finM_c c _).mono ?_
    rintro e w' ⟨rfl, nc, hw⟩
    rw [hw, HFc.out]
    clear hw
    go_wp2_with (fail)
    refine (finM_c d _).mono ?_
    rintro e w' ⟨rfl, nd, hw⟩
    rw [hw, HFd.out]
    clear hw
    go_wp2
    refine bodyPost_ret (results_W2 rfl _ _ _ _ _ _ rfl rfl (Blk.set2 ((Blk.newAt _ _ _ _ (by simp)).drewN _) _ _)) rfl ⟨0, 0, ?_, ?_, ?_, below_set2 (below_drewN ((((Below.refl _ _).alloc (Nat.le_refl _) _).alloc (by simp) _).alloc (by simp; omega) _) _) _ (by omega) _ _⟩
    · rw [HQ.out]; rfl
    · rw [qR, HQ.out]; exact fc0
    · rw [qI, HQ.out]; exact fc0
  have HFd : Hid (finB d = true) := hfd
  clear hfd
  cases hz : z2 c d
  case true =>
    have hz' : ((FloatKind.f64.format.order c 0 == some .eq) && (FloatKind.f64.format.order d 0 == some .eq)) = true := hz
    have HQ : Hid (qOk a b c d = false) := by show _ = _; unfold qOk; rw [hz]; simp
    simp only [Bool.and_eq_true] at hz'
    obtain ⟨hz1, hz2⟩ := hz'
    clear hz
    go_enter Try.func63, Try.ntmps63
    go_wp2_with (fail)
    refine (finM_c a _).mono ?_
    rintro e w' ⟨rfl, na, hw⟩
    rw [hw, HFa.out]
    clear hw
    go_wp2_with (fail)
    refine (finM_c b _).mono ?_
    rintro e w' ⟨rfl, nb, hw⟩
    rw [hw, HFb.out]
    clear hw
    go_wp2_with (fail)
    refine (finM_c c _).mono ?_
    rintro e w' ⟨rfl, nc, hw⟩
    rw [hw, HFc.out]
    clear hw
    go_wp2_with (fail)
    refine (finM_c d _).mono ?_
    rintro e w' ⟨rfl, nd, hw⟩
    rw [hw, HFd.out]
    clear hw
    go_wp2
    refine bodyPost_ret (results_W2 rfl _ _ _ _ _ _ rfl rfl (Blk.set2 ((Blk.newAt _ _ _ _ (by simp)).drewN _) _ _)) rfl ⟨0, 0, ?_, ?_, ?_, below_set2 (below_drewN ((((Below.refl _ _).alloc (Nat.le_refl _) _).alloc (by simp) _).alloc (by simp; omega) _) _) _ (by omega) _ _⟩
    · rw [HQ.out]; rfl
    · rw [qR, HQ.out]; exact fc0
    · rw [qI, HQ.out]; exact fc0
  have HQ : Hid (qOk a b c d = true) := by show _ = _; unfold qOk; rw [HFa.out, HFb.out, HFc.out, HFd.out, hz]; rfl
  have HGE : Hid ((FloatKind.f64.format.order (szF c) (szF d) == some .gt || FloatKind.f64.format.order (szF c) (szF d) == some .eq) = absGe c d) := ge_sz HLC.out HLD.out HFc.out HFd.out
  have hz' : ((FloatKind.f64.format.order c 0 == some .eq) && (FloatKind.f64.format.order d 0 == some .eq)) = false := hz
  clear hz
  obtain ⟨W0, hW0⟩ : ∃ W, ((w.alloc (Obj.cells #[.float .f64 a, .float .f64 b] 38)).alloc (Obj.cells #[.float .f64 c, .float .f64 d] 38)).alloc (Obj.cells #[.float .f64 0, .float .f64 0] 38) = W := ⟨_, rfl⟩
  have HW0 : Hid (((w.alloc (Obj.cells #[.float .f64 a, .float .f64 b] 38)).alloc (Obj.cells #[.float .f64 c, .float .f64 d] 38)).alloc (Obj.cells #[.float .f64 0, .float .f64 0] 38) = W0) := hW0
  have HB0 : Hid (Below w.heap.size w W0) := by rw [← hW0]; exact (((Below.refl _ _).alloc (Nat.le_refl _) _).alloc (by simp) _).alloc (by simp; omega) _
  have HK0 : Hid (Blk W0 w.heap.size #[.float .f64 a, .float .f64 b] 38) := by rw [← hW0]; exact ((Blk.new _ _ _).alloc _).alloc _
  have HK1 : Hid (Blk W0 (w.heap.size + 1) #[.float .f64 c, .float .f64 d] 38) := by rw [← hW0]; exact (Blk.newAt _ _ _ _ (by simp)).alloc _
  have HK2 : Hid (Blk W0 (w.heap.size + 1 + 1) #[.float .f64 0, .float .f64 0] 38) := by rw [← hW0]; exact Blk.newAt _ _ _ _ (by simp)
  clear hW0
  have rest : ∀ q : Bool, (FloatKind.f64.format.order c 0 == some .eq) = q → Calls Try.prog 63 #[.agg #[.float .f64 a, .float .f64 b], .agg #[.float .f64 c, .float .f64 d]] w (QwR a b c d w) := by
    intro q hq
    cases q
    case' true => rw [hq, Bool.true_and] at hz'
    all_goals
      go_enter Try.func63, Try.ntmps63
      go_wp2_with (fail)
      refine (finM_c a _).mono ?_
      rintro e w' ⟨rfl, na, hw⟩
      rw [hw, HFa.out]
      clear hw
      go_wp2_with (fail)
      refine (finM_c b _).mono ?_
      rintro e w' ⟨rfl, nb, hw⟩
      rw [hw, HFb.out]
      clear hw
      go_wp2_with (fail)
      refine (finM_c c _).mono ?_
      rintro e w' ⟨rfl, nc, hw⟩
      rw [hw, HFc.out]
      clear hw
      go_wp2_with (fail)
      refine (finM_c d _).mono ?_
      rintro e w' ⟨rfl, nd, hw⟩
      rw [hw, HFd.out]
      clear hw
      go_wp2
      rw [HW0.out]
      obtain ⟨n, hn⟩ : ∃ n, na + nb + nc + nd = n := ⟨_, rfl⟩
      rw [hn]
      clear hn
      clear hz' hq HFa HFb HFc HFd HW0
      have x0 : W0.cell? ⟨w.heap.size, 0, none⟩ = some (.float .f64 a) := by rw [HK0.out.cell]; rfl
      have x1 : W0.cell? ⟨w.heap.size, 1, none⟩ = some (.float .f64 b) := by rw [HK0.out.cell]; rfl
      have x2 : W0.cell? ⟨w.heap.size + 1, 0, none⟩ = some (.float .f64 c) := by rw [HK1.out.cell]; rfl
      have x3 : W0.cell? ⟨w.heap.size + 1, 1, none⟩ = some (.float .f64 d) := by rw [HK1.out.cell]; rfl
      have z0 := HK2.out.cell 0
      have z1 := HK2.out.cell 1
      have f0 := HK2.out.frozen 0
      have f1 := HK2.out.frozen 1
      simp at z0 z1
      obtain ⟨S, hS⟩ : ∃ S : World → Prop, ∀ W, S W ↔ W = (W0.drewN n).drew := ⟨_, fun _ => Iff.rfl⟩
      have HS : Hid (S (W0.drewN n).drew) := (hS _).2 rfl
      have y0 : ∀ W : At S, W.wd.cell? ⟨w.heap.size + 1, 0, none⟩ = some (.float .f64 c) := fun W => by rw [(hS _).1 W.ok]; exact x2
      have y1 : ∀ W : At S, W.wd.cell? ⟨w.heap.size + 1, 1, none⟩ = some (.float .f64 d) := fun W => by rw [(hS _).1 W.ok]; exact x3
      have ne : Nonempty (At S) := ⟨⟨_, HS.out⟩⟩
      clear hS
      refine region_mixT [true, true, false, true, true, false, false] 5 1 S (by kernel_rfl) rfl (by kernel_rfl) (fun _ _ _ _ _ h => h) HS.out ?_
      simp only [selT, selF]
      try simp only [Act.put]
      repeat (go_big_quiet_step (fail))
      refine wpQuiet_nil ?_
      clear y0 y1 ne
      refine tail_step ?_
      go_wp2_with (fail)
      refine (sizeM_c c _).mono ?_
      rintro e w' ⟨rfl, hw⟩
      rw [hw]
      clear hw
      go_wp2
      refine ⟨HS.out, ?_⟩
      show wpList _ _ _ _ _ _
      go_wp2_with (fail)
      refine (sizeM_c d _).mono ?_
      rintro e w' ⟨rfl, hw⟩
      rw [hw]
      clear hw HS
      cases hge : absGe c d
      · have hg : (FloatKind.f64.format.order (szF c) (szF d) == some .gt || FloatKind.f64.format.order (szF c) (szF d) == some .eq) = false := by rw [HGE.out, hge]
        have HG : Hid (absGe c d = false) := hge
        clear hge
        go_wp2
        refine bodyPost_ret (results_W2 rfl _ _ _ _ _ _ rfl rfl (Blk.set2 (HK2.out.drewN _) _ _)) rfl ⟨_, _, by rw [HQ.out]; rfl, ?_, ?_, below_set2 (below_drewN HB0.out _) _ (by omega) _ _⟩
        · simp only [fc_fv, qR, qRe, HQ.out, HG.out, if_true, Bool.false_eq_true, if_false]
        · simp only [fc_fv, qI, qIm, HQ.out, HG.out, if_true, Bool.false_eq_true, if_false]
      · have hg : (FloatKind.f64.format.order (szF c) (szF d) == some .gt || FloatKind.f64.format.order (szF c) (szF d) == some .eq) = true := by rw [HGE.out, hge]
        have HG : Hid (absGe c d = true) := hge
        clear hge
        go_wp2
        refine bodyPost_ret (results_W2 rfl _ _ _ _ _ _ rfl rfl (Blk.set2 (HK2.out.drewN _) _ _)) rfl ⟨_, _, by rw [HQ.out]; rfl, ?_, ?_, below_set2 (below_drewN HB0.out _) _ (by omega) _ _⟩
        · simp only [fc_fv, qR, qRe, HQ.out, HG.out, if_true]
        · simp only [fc_fv, qI, qIm, HQ.out, HG.out, if_true]
  exact rest _ rfl

end Go.Proofs.Ytginhbcenfobcaa
