/- A talk is drawn; no condition. -/
import Derived.Test.YtmfmlbiplagmiaaDoorDra
import Derived.Test.YtmfmlbiplagmiaaDoorTks
import Derived.Test.YtmfmlbiplagmiaaDoorMixT
import Derived.Test.YtmfmlbiplagmiaaDoorMixC
import Derived.Deep.Cut
import Derived.Test.YtmfmlbiplagmiaaDoorBkh
namespace Go.Proofs.YtmfmlbiplagmiaaDoor
open Go.RowKit Go.ChangeShapes Go.WideShapes Go.ChangeAt
set_option linter.unusedVariables false
set_option linter.unusedSimpArgs false
set_option maxRecDepth 8000

theorem once_c (g : Nat) (cv : Value) (zs : List Int) (n : Int) (w : World) (h : Dr w g cv zs) (hn : n ≤ 1048576) : Calls Tryd.prog 44 #[.pointer (some ⟨g, 0, none⟩), .int .i64 n] w fun e w' => ∃ q : Bool, e = .returned (.bool q) ∧ Dr w' g cv zs ∧ w.grownBy w' (some g) := by
  go_enter Tryd.func44, Tryd.ntmps44
  go_wp2_with (fail)
  refine (below_c g cv zs _ _ h (by omega)).mono ?_
  rintro e w2 ⟨x, rfl, -, -, -, d2, g2⟩
  have HD : Hid (Dr w2 g cv zs ∧ w.grownBy w2 (some g)) := ⟨d2, g2⟩
  clear d2 g2
  go_wp2
  go_ret
  exact ⟨_, rfl, HD.out⟩
theorem size_c (v : Value) (zs : List Int) (m : Int) (w : World) (h : Rd .u8 w v zs) (hl : zs.length ≤ 2097152) (hm : m ≤ 1048576) : Calls Tryd.prog 78 #[v, .int .i64 m] w fun e w' => ∃ q : Int, e = .returned (.int .i64 q) ∧ q ≤ m ∧ w' = w := by
  obtain ⟨a, cap, rfl, -, h2, -⟩ := h
  unfold maxLen at h2
  by_cases hc : m < 2 + (zs.length : Int) / 20
  · go_enter Tryd.func78, Tryd.ntmps78
    go_wp2
    go_ret
    exact ⟨_, rfl, Int.le_refl _, rfl⟩
  · go_enter Tryd.func78, Tryd.ntmps78
    go_wp2
    go_ret
    exact ⟨_, rfl, by omega, rfl⟩
/-- what is drawn for a talk -/
def DtR (g : Nat) (cv : Value) (zs : List Int) (w : World) (e : Ending) (w' : World) : Prop := ∃ x0 x1 x2 : Int, e = .returned (.agg #[.int .i64 x0, .int .i64 x1, .int .i64 x2]) ∧ Dr w' g cv zs ∧ w.grownBy w' (some g)
set_option maxHeartbeats 6400000 in
theorem drawTalk_c (g : Nat) (cv : Value) (zs : List Int) (a0 a1 a2 : Option Addr) (l0 c0 l1 c1 l2 c2 : Nat) (w : World) (h : Dr w g cv zs) (h1 : l1 ≤ 1048576) (h2 : l2 ≤ 1048576) : Calls Tryd.prog 45 #[.pointer (some ⟨g, 0, none⟩), .agg (B3 (.slice a0 l0 c0) (.slice a1 l1 c1) (.slice a2 l2 c2))] w (DtR g cv zs w) := by
  obtain ⟨P0, hP0⟩ : ∃ P, w.heap.size = P := ⟨_, rfl⟩
  obtain ⟨P1, hP1⟩ : ∃ P, P0 + 1 = P := ⟨_, rfl⟩
  obtain ⟨W0, hW0⟩ : ∃ W, (w.alloc (Obj.cells (B3 (.slice a0 l0 c0) (.slice a1 l1 c1) (.slice a2 l2 c2)) 27)).alloc (Obj.cells #[.int .i64 0, .int .i64 0, .int .i64 0] 38) = W := ⟨_, rfl⟩
  have hb0 : Below w.heap.size w W0 := by rw [← hW0]; exact ((Below.refl _ _).alloc (Nat.le_refl _) _).alloc (by simp) _
  have HD0 : Hid (Dc w W0 g cv zs) := (Dc.start h).below hb0
  have HK0 : Hid (Blk W0 P0 (B3 (.slice a0 l0 c0) (.slice a1 l1 c1) (.slice a2 l2 c2)) 27 ∧ Blk W0 P1 #[.int .i64 0, .int .i64 0, .int .i64 0] 38) := ⟨by rw [← hW0, ← hP0]; exact (Blk.new _ _ _).alloc _, by rw [← hW0]; exact Blk.newAt _ _ _ _ (by simp; omega)⟩
  have HG : Hid (g ≠ P0 ∧ g ≠ P1) := by have := h.lt; exact ⟨by omega, by omega⟩
  have HW0 : Hid ((w.alloc (Obj.cells (B3 (.slice a0 l0 c0) (.slice a1 l1 c1) (.slice a2 l2 c2)) 27)).alloc (Obj.cells #[.int .i64 0, .int .i64 0, .int .i64 0] 38) = W0 ∧ w.heap.size = P0 ∧ P0 + 1 = P1) := ⟨hW0, hP0, hP1⟩
  have HP : Hid (w.heap.size ≤ P1 ∧ w.heap.size ≤ P0) := ⟨by omega, by omega⟩
  clear hb0 hW0 hP0 hP1 h
  obtain ⟨S, hS⟩ : ∃ S : World → Prop, ∀ W, S W ↔ Blk W P0 (B3 (.slice a0 l0 c0) (.slice a1 l1 c1) (.slice a2 l2 c2)) 27 := ⟨_, fun _ => Iff.rfl⟩
  have x1 : ∀ W : At S, W.wd.cell? ⟨P0, 1, none⟩ = some (.slice a1 l1 c1) := fun W => by have := ((hS _).1 W.ok).cell 1; simpa using this
  have x2 : ∀ W : At S, W.wd.cell? ⟨P0, 2, none⟩ = some (.slice a2 l2 c2) := fun W => by have := ((hS _).1 W.ok).cell 2; simpa using this
  have HSS : Hid (∀ W, S W ↔ Blk W P0 (B3 (.slice a0 l0 c0) (.slice a1 l1 c1) (.slice a2 l2 c2)) 27) := hS
  have ne : Nonempty (At S) := ⟨⟨W0, (hS _).2 HK0.out.1⟩⟩
  clear hS
  go_enter Tryd.func45, Tryd.ntmps45
  go_upto_region 1 with fail
  rw [HW0.out.1, HW0.out.2.1]
  try rw [HW0.out.2.2]
  clear HW0
  refine region_mixT [true, true, true, true, false, true, true, true, true, false, true, true, true, true, true, false, false, false, false] 18 5 S (by kernel_rfl) rfl (by kernel_rfl) (fun _ _ _ _ _ h => h) ((HSS.out _).2 HK0.out.1) ?_
  simp only [selT, selF]
  try simp only [Act.put]
  repeat (go_big_quiet_step (fail))
  refine wpQuiet_nil ?_
  clear x1 x2 ne
  refine tail_step ?_
  go_wp2_with (fail)
  refine (below_c g cv zs _ _ (HD0.out.below (Below.refl _ _).drew).dr (by omega)).mono ?_
  rintro e w2 ⟨z0, rfl, -, -, -, d2, g2⟩
  have HD2 : Hid (Dc w w2 g cv zs) := (HD0.out.below (Below.refl _ _).drew).draw d2 g2
  have HK2 : Hid (Blk w2 P0 (B3 (.slice a0 l0 c0) (.slice a1 l1 c1) (.slice a2 l2 c2)) 27 ∧ Blk w2 P1 #[.int .i64 0, .int .i64 0, .int .i64 0] 38) := ⟨Blk.grownD (w := W0.drew) HK0.out.1 g2 (fun e => HG.out.1 (Option.some.inj e).symm), Blk.grownD (w := W0.drew) HK0.out.2 g2 (fun e => HG.out.2 (Option.some.inj e).symm)⟩
  have HS2 : Hid (S w2) := (HSS.out _).2 HK2.out.1
  clear d2 g2 HD0 HK0
  go_wp2
  refine ⟨HS2.out, tail_step ?_⟩
  go_wp2_with (fail)
  refine (below_c g cv zs _ _ HD2.out.dr (by omega)).mono ?_
  rintro e w3 ⟨z1, rfl, -, -, -, d2, g2⟩
  have HD3 : Hid (Dc w w3 g cv zs) := HD2.out.draw d2 g2
  have HK3 : Hid (Blk w3 P0 (B3 (.slice a0 l0 c0) (.slice a1 l1 c1) (.slice a2 l2 c2)) 27 ∧ Blk w3 P1 #[.int .i64 0, .int .i64 0, .int .i64 0] 38) := ⟨HK2.out.1.grownD g2 (fun e => HG.out.1 (Option.some.inj e).symm), HK2.out.2.grownD g2 (fun e => HG.out.2 (Option.some.inj e).symm)⟩
  have HS3 : Hid (S w3) := (HSS.out _).2 HK3.out.1
  clear d2 g2 HD2 HK2 HS2
  go_wp2
  refine ⟨HS3.out, tail_step ?_⟩
  go_wp2_with (fail)
  refine (below_c g cv zs _ _ HD3.out.dr (by omega)).mono ?_
  rintro e w4 ⟨z2, rfl, z2a, -, z2c, d2, g2⟩
  have HD4 : Hid (Dc w w4 g cv zs) := HD3.out.draw d2 g2
  have HK4 : Hid (Blk w4 P0 (B3 (.slice a0 l0 c0) (.slice a1 l1 c1) (.slice a2 l2 c2)) 27 ∧ Blk w4 P1 #[.int .i64 0, .int .i64 0, .int .i64 0] 38) := ⟨HK3.out.1.grownD g2 (fun e => HG.out.1 (Option.some.inj e).symm), HK3.out.2.grownD g2 (fun e => HG.out.2 (Option.some.inj e).symm)⟩
  have HS4 : Hid (S w4) := (HSS.out _).2 HK4.out.1
  clear d2 g2 HD3 HK3 HS3
  go_wp2
  refine ⟨HS4.out, tail_step ?_⟩
  go_wp2
  refine ⟨HS4.out, tail_step ?_⟩
  go_wp2
  refine ⟨HS4.out, tail_end ?_⟩
  go_wp2_with (refine wpList_store_row rfl 38 _ _ rfl P1 _ rfl rfl 38 #[.int .i64 0, .int .i64 0, .int .i64 0] HK4.out.2 (by kernel_rfl) rfl (by simp [Value.oneCell']) ?_)
  have hset : ∀ cs, w4.grownBy (w4.setRow P1 cs) (some P1) := fun cs => ⟨rfl, rfl, rfl, by simp, fun i _ hi => setRow_other w4 _ i _ (fun e => hi (by simp [e]))⟩
  have hD : ∀ cs, Dc w (w4.setRow P1 cs) g cv zs := fun cs => HD4.out.app (fun k e => by have := Option.some.inj e; have := HP.out.1; omega) (hset cs)
  exact bodyPost_ret (results_cell_row rfl _ _ _ 38 _ (0, 0) _ rfl (HK4.out.2.row _) Tryd.underlying38 rfl sizeTk) rfl ⟨_, _, _, rfl, (hD _).dr, (hD _).gr⟩

end Go.Proofs.YtmfmlbiplagmiaaDoor
