/- The program's inOk; no condition. -/
import Derived.Test.YtejoopdpelcpeaaIoA
namespace Go.Proofs.Ytejoopdpelcpeaa
open Go.RowKit Go.ChangeShapes Go.WideShapes Go.ChangeAt
set_option linter.unusedVariables false
set_option linter.unusedSimpArgs false
set_option maxRecDepth 8000
theorem Rx.take {w : World} {a : Option Addr} {n cap : Nat} {ls : Txs} (h : Rx w (.slice a n cap) ls) (k : Nat) (hk : k ≤ ls.length) : Rx w (.slice a k cap) (ls.take k) := by
  obtain ⟨a', cap', he, h1, h2, h3⟩ := h
  simp at he
  obtain ⟨rfl, rfl, rfl⟩ := he
  have hl : (ls.take k).length = k := by simp; omega
  refine ⟨a, cap, by rw [hl], by omega, h2, ?_⟩
  rcases h3 with h3 | ⟨b, off, rfl, h4⟩
  · left; subst h3; simp
  · right
    refine ⟨b, off, rfl, fun i hi => ?_⟩
    have := h4 i (by omega)
    simpa using this
set_option maxHeartbeats 6400000 in
theorem inI_c (vo vi vo' vi' : Value) (s a t s' a' t' : Int) (zo zi zo' zi' : Txs) (w : World) (ho : Rx w vo zo) (hi : Rx w vi zi) (go : Rx w vo' zo') (gi : Rx w vi' zi') (hp : OutP zo' s' a') :
    Calls Try.prog 42 #[.agg (E5 vo vi s a t), .agg (E5 vo' vi' s' a' t')] w (Bo (t = zi.length ∧ t ≤ s' ∧ a' ≤ t ∧ InP zi zo') w) := by
  obtain ⟨W0, hW0⟩ : ∃ W0, (w.alloc (Obj.cells (E5 vo vi s a t) 26)).alloc (Obj.cells (E5 vo' vi' s' a' t') 26) = W0 := ⟨_, rfl⟩
  have hb0 : Below w.heap.size w W0 := by rw [← hW0]; exact ((Below.refl _ _).alloc (Nat.le_refl _) _).alloc (by simp) _
  have HB : Hid (Below w.heap.size w W0) := hb0
  have K0 : Hid (Blk W0 w.heap.size (E5 vo vi s a t) 26) := by rw [← hW0]; exact (Blk.new _ _ _).alloc _
  have K1 : Hid (Blk W0 (w.heap.size + 1) (E5 vo' vi' s' a' t') 26) := by rw [← hW0]; exact Blk.newAt _ (w.heap.size + 1) _ 26 (by simp)
  have HI : Hid (Rx W0 vi zi) := hi.below hb0
  have HG : Hid (Rx W0 vo' zo') := go.below hb0
  have HP : Hid (OutP zo' s' a') := hp
  obtain ⟨a0, p0, hv0, c0, q0, -⟩ := ho.below hb0
  obtain ⟨a1, p1, hv1, c1, q1, -⟩ := hi.below hb0
  obtain ⟨a2, p2, hv2, c2, q2, D2⟩ := go.below hb0
  obtain ⟨a3, p3, hv3, c3, q3, -⟩ := gi.below hb0
  subst hv0 hv1 hv2 hv3
  unfold maxLen at q0 q1 q2 q3
  have x3 : ∀ W : Ov W0, W.wd.cell? ⟨w.heap.size, 3, none⟩ = some (.int .i64 t) := ov_cell (K0.out.cell 3)
  have x4 : ∀ W : Ov W0, W.wd.cell? ⟨w.heap.size, 4, none⟩ = some (.slice a1 zi.length p1) := ov_cell (K0.out.cell 4)
  have y0 : ∀ W : Ov W0, W.wd.cell? ⟨w.heap.size + 1, 0, none⟩ = some (.slice a2 zo'.length p2) := ov_cell (K1.out.cell 0)
  have y1 : ∀ W : Ov W0, W.wd.cell? ⟨w.heap.size + 1, 1, none⟩ = some (.int .i64 s') := ov_cell (K1.out.cell 1)
  have y2 : ∀ W : Ov W0, W.wd.cell? ⟨w.heap.size + 1, 2, none⟩ = some (.int .i64 a') := ov_cell (K1.out.cell 2)
  have ne : Nonempty (Ov W0) := ⟨⟨_, Below.refl _ _⟩⟩
  clear ho hi go gi hb0 hp
  by_cases ht : t = (zi.length : Int)
  case neg =>
    have ht' : (t == (zi.length : Int)) = false := by simpa using ht
    go_enter Try.func42, Try.ntmps42
    go_wp2
    clear hW0
    refine region_over (by kernel_rfl) (by kernel_rfl) ?_
    repeat (go_big_quiet_step (fail))
    refine wpQuiet_nil ?_
    rintro _ ⟨V, rfl⟩
    have HV : Hid (Below w.heap.size w V.wd) := belowCall HB.out V.ok HB.out.size
    go_wp2
    go_ret
    exact Bo.no (fun x => ht x.1) HV.out
  have ht' : (t == (zi.length : Int)) = true := by simpa using ht
  by_cases hw : a' ≤ t ∧ t ≤ s'
  case neg =>
    have HC : Hid (∀ W : Ov W0, Calls Try.prog 40 #[.int .i64 t, .int .i64 a', .int .i64 s'] W.wd fun e w'' => e = .returned (.bool false) ∧ ∃ W' : Ov W0, w'' = W'.wd) := fun W => (within_c t a' s' W.wd).mono fun e w' ⟨he, hw'⟩ => ⟨by rw [he, decide_eq_false hw], W, hw'⟩
    clear ht
    go_enter Try.func42, Try.ntmps42
    go_wp2
    clear hW0
    refine region_over (by kernel_rfl) (by kernel_rfl) ?_
    repeat (go_big_quiet_step (first | (go_at_call 40; exact HC.out _)))
    refine wpQuiet_nil ?_
    rintro _ ⟨V, rfl⟩
    have HV : Hid (Below w.heap.size w V.wd) := belowCall HB.out V.ok HB.out.size
    go_wp2
    go_ret
    exact Bo.no (fun x => hw ⟨x.2.2.1, x.2.1⟩) HV.out
  have HC : Hid (∀ W : Ov W0, Calls Try.prog 40 #[.int .i64 t, .int .i64 a', .int .i64 s'] W.wd fun e w'' => e = .returned (.bool true) ∧ ∃ W' : Ov W0, w'' = W'.wd) := fun W => (within_c t a' s' W.wd).mono fun e w' ⟨he, hw'⟩ => ⟨by rw [he, decide_eq_true hw], W, hw'⟩
  have hle : zi.length ≤ zo'.length := by have := HP.out.2.2.1.2; omega
  have HQ : Hid (∀ W : Ov W0, Calls Try.prog 74 #[.slice a1 zi.length p1, .slice a2 zi.length p2] W.wd (Bo (zi.length = (zo'.take zi.length).length ∧ ∀ i (hx : i < zi.length) (hy : i < (zo'.take zi.length).length), zi[i].toList = (zo'.take zi.length)[i].toList) W.wd)) := fun W => equal_c _ _ zi (zo'.take zi.length) W.wd (HI.out.below W.ok) ((HG.out.take zi.length hle).below W.ok)
  have HX : Hid ((zi.length = (zo'.take zi.length).length ∧ ∀ i (hx : i < zi.length) (hy : i < (zo'.take zi.length).length), zi[i].toList = (zo'.take zi.length)[i].toList) ↔ InP zi zo') := by
    have hl : (zo'.take zi.length).length = zi.length := by simp; omega
    constructor
    · rintro ⟨-, h⟩
      exact ⟨hle, fun i h1 h2 => by have := h i h1 (by omega); simpa using this⟩
    · rintro ⟨-, h⟩
      exact ⟨hl.symm, fun i h1 h2 => by have := h i h1 (by omega); simpa using this⟩
  have HTW : Hid (t = zi.length ∧ t ≤ s' ∧ a' ≤ t) := ⟨ht, hw.2, hw.1⟩
  have hz0 : (0 : Int) ≤ (zi.length : Int) := by omega
  have hz1 : (zi.length : Int) ≤ (p2 : Int) := by omega
  have HT : Hid (t = zi.length) := ht
  subst ht
  clear hw
  by_cases hI : InP zi zo'
  · have HC2 : Hid (∀ W : Ov W0, Calls Try.prog 74 #[.slice a1 zi.length p1, .slice a2 zi.length p2] W.wd fun e w'' => e = .returned (.bool true) ∧ ∃ W' : Ov W0, w'' = W'.wd) := fun W => ov_call ((HQ.out W).mono fun e w' ⟨q, he, hq, hb⟩ => ⟨by rw [he, hq.2 (HX.out.2 hI)], hb⟩)
    have HII : Hid (InP zi zo') := hI
    clear HQ HX hI
    go_enter Try.func42, Try.ntmps42
    go_wp2
    clear hW0
    refine region_over (by kernel_rfl) (by kernel_rfl) ?_
    repeat (go_big_quiet_step (first | (go_at_call 40; exact HC.out _) | (go_at_call 74; exact HC2.out _)))
    refine wpQuiet_nil ?_
    rintro _ ⟨V, rfl⟩
    have HV : Hid (Below w.heap.size w V.wd) := belowCall HB.out V.ok HB.out.size
    go_wp2
    go_ret
    exact Bo.yes ⟨HTW.out.1, HTW.out.2.1, HTW.out.2.2, HII.out⟩ HV.out
  · have HC2 : Hid (∀ W : Ov W0, Calls Try.prog 74 #[.slice a1 zi.length p1, .slice a2 zi.length p2] W.wd fun e w'' => e = .returned (.bool false) ∧ ∃ W' : Ov W0, w'' = W'.wd) := fun W => ov_call ((HQ.out W).mono fun e w' ⟨q, he, hq, hb⟩ => ⟨by rw [he]; cases q with | false => rfl | true => exact absurd (HX.out.1 (hq.1 rfl)) hI, hb⟩)
    have HII : Hid (¬ InP zi zo') := hI
    clear HQ HX hI
    go_enter Try.func42, Try.ntmps42
    go_wp2
    clear hW0
    refine region_over (by kernel_rfl) (by kernel_rfl) ?_
    repeat (go_big_quiet_step (first | (go_at_call 40; exact HC.out _) | (go_at_call 74; exact HC2.out _)))
    refine wpQuiet_nil ?_
    rintro _ ⟨V, rfl⟩
    have HV : Hid (Below w.heap.size w V.wd) := belowCall HB.out V.ok HB.out.size
    go_wp2
    go_ret
    exact Bo.no (fun x => HII.out x.2.2.2) HV.out
end Go.Proofs.Ytejoopdpelcpeaa
