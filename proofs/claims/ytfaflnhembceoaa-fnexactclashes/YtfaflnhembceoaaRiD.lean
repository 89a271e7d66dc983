/- What becomes of a call at a subscriber, the program's way; no condition. -/
import Derived.Test.YtfaflnhembceoaaRiC
namespace Go.Proofs.Ytfaflnhembceoaa
open Go.RowKit Go.ChangeShapes Go.WideShapes Go.ChangeAt
set_option linter.unusedVariables false
set_option linter.unusedSimpArgs false
set_option maxRecDepth 8000
def owF (p q : Bool) (fs : Fts) : Int × Int := if p = true then buF fs else if q = true then onF fs 3 (4, 0) else (1, 0)
def tuF (p q : Bool) (fs : Fts) (pv : Bool) (x : Int) : Int × Int := if fs.any (scF pv x) = true then (6, 0) else onF fs 1 (owF p q fs)
set_option maxHeartbeats 1600000 in
theorem own_c (p q : Bool) (v : Value) (fs : Fts) (w : World) (h : Rx w v fs) : Calls Try.prog 92 #[.agg (S3 p q v)] w fun e w' => e = .returned (.agg (C2 (owF p q fs))) ∧ Below w.heap.size w w' := by
  obtain ⟨a, cap, rfl, h1, h2, -⟩ := id h
  obtain ⟨m, hm⟩ : ∃ m, fs.length = m := ⟨_, rfl⟩
  rw [hm] at h h1 ⊢
  have HX : Hid (Rx w (.slice a m cap) fs) := h
  obtain ⟨W0, hW0⟩ : ∃ W0, (w.alloc (Obj.cells (S3 p q (.slice a m cap)) 101)).alloc (Obj.cells (C2 (0, 0)) 109) = W0 := ⟨_, rfl⟩
  have hb0 : Below w.heap.size w W0 := hW0 ▸ ((Below.refl _ _).alloc (Nat.le_refl _) _).alloc (by simp) _
  have B0 : Hid (Below w.heap.size w W0) := hb0
  have kr : Blk W0 (w.heap.size + 1) (C2 (0, 0)) 109 := hW0 ▸ Blk.newAt _ (w.heap.size + 1) _ 109 (by simp)
  have KR : Hid (Blk W0 (w.heap.size + 1) (C2 (0, 0)) 109) := kr
  have ks : Blk W0 w.heap.size (S3 p q (.slice a m cap)) 101 := hW0 ▸ (Blk.new _ _ _).alloc _
  have y0 := ks.cell 0
  have y1 := ks.cell 1
  have y2 := ks.cell 2
  simp at y0 y1 y2
  have FIN : Hid (∀ (w3 : World) (r : Int × Int), Below W0.heap.size W0 w3 → owF p q fs = r → ∀ A : Act, A.tmps.getD 2 undef = .pointer (some ⟨w.heap.size + 1, 0, none⟩) → A.defers = [] →
      bodyPost Try.prog Try.f92 (fun e w' => e = .returned (.agg (C2 (owF p q fs))) ∧ Below w.heap.size w w') Exit.ret A ((w3.setCell ⟨w.heap.size + 1, 0, none⟩ (.int .i64 r.1)).setCell ⟨w.heap.size + 1, 1, none⟩ (.int .i64 r.2))) := by
    intro w3 r b3 hr A hA hD
    rw [hr]
    have B3 := belowCall B0.out b3 B0.out.size
    exact bodyPost_ret (v := .agg (C2 r)) (results_cell_row rfl _ _ _ 109 _ (0, 0) _ hA (fin2 _ _ (KR.out.below b3 KR.out.lt) rfl) Try.underlying109 rfl size109) hD ⟨rfl, (B3.setCell (by dsimp only; omega) _).setCell (by dsimp only; omega) _⟩
  clear hm hb0 h ks
  cases p with
  | true =>
    go_enter Try.func92, Try.ntmps92
    go_wp2_with (fail)
    clear hW0
    refine (busy_c true q _ fs W0 (HX.out.below B0.out)).mono ?_
    rintro e w3 ⟨rfl, b3⟩
    have k3 := KR.out.below b3 KR.out.lt
    have B3 : Hid (Below W0.heap.size W0 w3) := b3
    have r0 := k3.cell 0
    have r1 := k3.cell 1
    have z0 := k3.frozen 0
    have z1 := k3.frozen 1
    simp at r0 r1
    clear b3 k3 kr y0 y1 y2
    obtain ⟨u1, u2, hu⟩ : ∃ u1 u2, buF fs = (u1, u2) := ⟨_, _, rfl⟩
    have HU : Hid (owF true q fs = (u1, u2)) := by
      show owF true q fs = (u1, u2)
      rw [owF, if_pos rfl, hu]
    rw [hu]
    clear hu
    go_wp2
    exact FIN.out w3 (u1, u2) B3.out HU.out _ rfl rfl
  | false =>
  cases q with
  | true =>
    go_enter Try.func92, Try.ntmps92
    go_wp2_with (fail)
    clear hW0
    refine (onward_c false true _ fs 3 (4, 0) W0 (HX.out.below B0.out) (.inr (.inr rfl))).mono ?_
    rintro e w3 ⟨rfl, b3⟩
    have k3 := KR.out.below b3 KR.out.lt
    have B3 : Hid (Below W0.heap.size W0 w3) := b3
    have r0 := k3.cell 0
    have r1 := k3.cell 1
    have z0 := k3.frozen 0
    have z1 := k3.frozen 1
    simp at r0 r1
    clear b3 k3 kr y0 y1 y2
    obtain ⟨u1, u2, hu⟩ : ∃ u1 u2, onF fs 3 (4, 0) = (u1, u2) := ⟨_, _, rfl⟩
    have HU : Hid (owF false true fs = (u1, u2)) := by
      show owF false true fs = (u1, u2)
      rw [owF, if_neg (by simp), if_pos rfl, hu]
    rw [hu]
    clear hu
    go_wp2
    exact FIN.out w3 (u1, u2) B3.out HU.out _ rfl rfl
  | false =>
    have HU : Hid (owF false false fs = (1, 0)) := rfl
    have r0 := kr.cell 0
    have r1 := kr.cell 1
    have z0 := kr.frozen 0
    have z1 := kr.frozen 1
    simp at r0 r1
    clear kr
    go_enter Try.func92, Try.ntmps92
    go_wp2
    exact FIN.out W0 (1, 0) (Below.refl _ _) HU.out _ rfl rfl
set_option maxHeartbeats 1600000 in
theorem turn_c (p q : Bool) (v : Value) (fs : Fts) (x : Int) (pv : Bool) (w : World) (h : Rx w v fs) : Calls Try.prog 70 #[.agg (S3 p q v), .agg #[.int .i64 x, .bool pv]] w fun e w' => e = .returned (.agg (C2 (tuF p q fs pv x))) ∧ Below w.heap.size w w' := by
  obtain ⟨a, cap, rfl, h1, h2, -⟩ := id h
  obtain ⟨m, hm⟩ : ∃ m, fs.length = m := ⟨_, rfl⟩
  rw [hm] at h h1 ⊢
  have HX : Hid (Rx w (.slice a m cap) fs) := h
  obtain ⟨W0, hW0⟩ : ∃ W0, ((w.alloc (Obj.cells (S3 p q (.slice a m cap)) 101)).alloc (Obj.cells #[.int .i64 x, .bool pv] 107)).alloc (Obj.cells (C2 (0, 0)) 109) = W0 := ⟨_, rfl⟩
  have hb0 : Below w.heap.size w W0 := hW0 ▸ (((Below.refl _ _).alloc (Nat.le_refl _) _).alloc (by simp) _).alloc (by simp; omega) _
  have B0 : Hid (Below w.heap.size w W0) := hb0
  have KR : Hid (Blk W0 (w.heap.size + 1 + 1) (C2 (0, 0)) 109) := hW0 ▸ Blk.newAt _ (w.heap.size + 1 + 1) _ 109 (by simp)
  have ks : Blk W0 w.heap.size (S3 p q (.slice a m cap)) 101 := hW0 ▸ ((Blk.new _ _ _).alloc _).alloc _
  have KS : Hid (Blk W0 w.heap.size (S3 p q (.slice a m cap)) 101) := ks
  have kw : Blk W0 (w.heap.size + 1) #[.int .i64 x, .bool pv] 107 := hW0 ▸ (Blk.newAt _ (w.heap.size + 1) _ 107 (by simp)).alloc _
  have y0 := ks.cell 0
  have y1 := ks.cell 1
  have y2 := ks.cell 2
  have x0 := kw.cell 0
  have x1 := kw.cell 1
  simp at y0 y1 y2 x0 x1
  have FIN : Hid (∀ (w3 : World) (r : Int × Int), Below W0.heap.size W0 w3 → tuF p q fs pv x = r → ∀ A : Act, A.tmps.getD 4 undef = .pointer (some ⟨w.heap.size + 1 + 1, 0, none⟩) → A.defers = [] →
      bodyPost Try.prog Try.f70 (fun e w' => e = .returned (.agg (C2 (tuF p q fs pv x))) ∧ Below w.heap.size w w') Exit.ret A ((w3.setCell ⟨w.heap.size + 1 + 1, 0, none⟩ (.int .i64 r.1)).setCell ⟨w.heap.size + 1 + 1, 1, none⟩ (.int .i64 r.2))) := by
    intro w3 r b3 hr A hA hD
    rw [hr]
    have B3 := belowCall B0.out b3 B0.out.size
    exact bodyPost_ret (v := .agg (C2 r)) (results_cell_row rfl _ _ _ 109 _ (0, 0) _ hA (fin2 _ _ (KR.out.below b3 KR.out.lt) rfl) Try.underlying109 rfl size109) hD ⟨rfl, (B3.setCell (by dsimp only; omega) _).setCell (by dsimp only; omega) _⟩
  clear hm hb0 h ks kw
  go_enter Try.func70, Try.ntmps70
  go_wp2_with (fail)
  clear hW0
  refine (screens_c p q _ fs x pv W0 (HX.out.below B0.out)).mono ?_
  rintro e w1 ⟨rfl, b1⟩
  have B1 : Hid (Below W0.heap.size W0 w1) := b1
  have k1 := KR.out.below b1 KR.out.lt
  have K1 : Hid (Blk w1 (w.heap.size + 1 + 1) (C2 (0, 0)) 109) := k1
  have S1 : Hid (Blk w1 w.heap.size (S3 p q (.slice a m cap)) 101) := KS.out.below b1 KS.out.lt
  obtain ⟨sc, hsc⟩ : ∃ sc, fs.any (scF pv x) = sc := ⟨_, rfl⟩
  have HSC : Hid (fs.any (scF pv x) = sc) := hsc
  rw [hsc]
  clear hsc b1 y0 y1 y2 x0 x1 KS
  cases sc with
  | true =>
    have HU : Hid (tuF p q fs pv x = (6, 0)) := by
      show tuF p q fs pv x = (6, 0)
      rw [tuF, if_pos HSC.out]
    have r0 := k1.cell 0
    have r1 := k1.cell 1
    have z0 := k1.frozen 0
    have z1 := k1.frozen 1
    simp at r0 r1
    clear k1
    go_wp2
    exact FIN.out w1 (6, 0) B1.out HU.out _ rfl rfl
  | false =>
    have HU : Hid (tuF p q fs pv x = onF fs 1 (owF p q fs)) := by
      show tuF p q fs pv x = onF fs 1 (owF p q fs)
      rw [tuF, if_neg (by rw [HSC.out]; simp)]
    obtain ⟨S, hS⟩ : ∃ S : World → Prop, ∀ W, S W ↔ Blk W w.heap.size (S3 p q (.slice a m cap)) 101 := ⟨_, fun _ => Iff.rfl⟩
    have y0 : ∀ W : At S, W.wd.cell? ⟨w.heap.size, 0, none⟩ = some (.bool p) := fun W => ((hS _).1 W.ok).cell 0
    have y1 : ∀ W : At S, W.wd.cell? ⟨w.heap.size, 1, none⟩ = some (.bool q) := fun W => ((hS _).1 W.ok).cell 1
    have y2 : ∀ W : At S, W.wd.cell? ⟨w.heap.size, 2, none⟩ = some (.slice a m cap) := fun W => ((hS _).1 W.ok).cell 2
    have HSD : Hid (S w1.drew) := (hS _).2 S1.out
    have ne1 : Nonempty (At S) := ⟨⟨_, HSD.out⟩⟩
    have HSB : Hid (∀ W, Below w1.heap.size w1 W → S W) := fun W b => (hS _).2 (S1.out.below b S1.out.lt)
    clear hS k1 HSC
    go_wp2
    refine region_mixA [true, true, false, false, false] 4 2 S (by kernel_rfl) rfl (by kernel_rfl) (fun _ _ _ _ _ h => h) HSD.out ?_
    simp only [selT, selF]
    repeat (go_big_quiet_step (fail))
    refine wpQuiet_nil ?_
    clear y0 y1 y2 ne1 HSD
    have hX1 : Hid (Rx w1 (.slice a m cap) fs) := (HX.out.below B0.out).below B1.out
    refine tail_step ?_
    go_wp2_with (fail)
    refine (own_c p q _ fs w1.drew hX1.out).mono ?_
    rintro e w2 ⟨rfl, b2⟩
    have bd2 : Below w1.heap.size w1 w2 := (Below.refl _ _).drew.trans b2
    have D2 : Hid (Below w1.heap.size w1 w2) := bd2
    have X2 : Hid (Rx w2 (.slice a m cap) fs) := hX1.out.below bd2
    obtain ⟨d, hd⟩ : ∃ d, owF p q fs = d := ⟨_, rfl⟩
    rw [hd] at HU ⊢
    obtain ⟨d1, d2⟩ := d
    clear b2 bd2 hd
    go_wp2
    refine ⟨HSB.out _ D2.out, ?_⟩
    refine tail_step ?_
    go_wp2_with (fail)
    refine (onward_c p q _ fs 1 (d1, d2) w2 X2.out (.inl rfl)).mono ?_
    rintro e w3 ⟨rfl, b3⟩
    have D3 : Hid (Below w1.heap.size w1 w3) := belowCall D2.out b3 D2.out.size
    obtain ⟨u1, u2, hu⟩ : ∃ u1 u2, onF fs 1 (d1, d2) = (u1, u2) := ⟨_, _, rfl⟩
    rw [hu] at HU ⊢
    clear b3 hu
    go_wp2
    refine ⟨HSB.out _ D3.out, ?_⟩
    refine tail_end ?_
    have k3 := K1.out.below D3.out K1.out.lt
    have B3 : Hid (Below W0.heap.size W0 w3) := belowCall B1.out D3.out B1.out.size
    have r0 := k3.cell 0
    have r1 := k3.cell 1
    have z0 := k3.frozen 0
    have z1 := k3.frozen 1
    simp at r0 r1
    clear k3
    go_wp2
    exact FIN.out w3 (u1, u2) B3.out HU.out _ rfl rfl
set_option maxHeartbeats 1600000 in
theorem extra_c (r : Int × Int) (w : World) : Calls Try.prog 67 #[.agg (H2 r.1 r.2)] w fun e w' => e = .returned (exV r) ∧ Below w.heap.size w w' := by
  obtain ⟨k, o⟩ := r
  dsimp only
  have HB : Hid (Below w.heap.size w (w.alloc (Obj.cells (H2 k o) 37))) := (Below.refl _ _).alloc (Nat.le_refl _) _
  by_cases h1 : k = 1
  · subst h1; go_enter Try.func67, Try.ntmps67; go_wp2; go_ret; exact ⟨rfl, HB.out⟩
  by_cases h2 : k = 2
  · subst h2; go_enter Try.func67, Try.ntmps67; go_wp2; go_ret; exact ⟨rfl, HB.out⟩
  by_cases h3 : k = 3
  · subst h3; go_enter Try.func67, Try.ntmps67; go_wp2; go_ret; exact ⟨rfl, HB.out⟩
  by_cases h5 : k = 5
  · subst h5; go_enter Try.func67, Try.ntmps67; go_wp2; go_ret; exact ⟨rfl, HB.out⟩
  by_cases h6 : k = 6
  · subst h6; go_enter Try.func67, Try.ntmps67; go_wp2; go_ret; exact ⟨rfl, HB.out⟩
  have HE : Hid (exV (k, o) = .iface 135 (.agg #[.int .i64 k])) := by
    show exV (k, o) = _
    simp [exV, h1, h2, h3, h5, h6]
  go_enter Try.func67, Try.ntmps67
  go_wp2
  go_ret
  exact ⟨by rw [HE.out]; rfl, HB.out⟩
end Go.Proofs.Ytfaflnhembceoaa
