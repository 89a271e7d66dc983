/- A call is drawn; no condition. -/
import Derived.Test.YtfaflnhembceoaaDsD
namespace Go.Proofs.Ytfaflnhembceoaa
open Go.RowKit Go.ChangeShapes Go.WideShapes Go.ChangeAt
set_option linter.unusedVariables false
set_option linter.unusedSimpArgs false
set_option maxRecDepth 8000

def DrR (w : World) (e : Ending) (w' : World) : Prop := ∃ (v : Value) (cs : Sbs) (f t : Int), e = .returned (.tuple #[v, .int .i64 f, .int .i64 t]) ∧ RdS w' v cs ∧ cs.length ≤ 17 ∧ (∀ c ∈ cs, c.2.2.length ≤ 4) ∧ (0 ≤ f ∧ f ≤ 17) ∧ (-1 ≤ t ∧ t ≤ 18) ∧ Below w.heap.size w w'
set_option maxHeartbeats 3200000 in
theorem drawRoute_c (v : Value) (zs : List Int) (w : World) (h : Rd .u8 w v zs) (hok : ∀ z ∈ zs, 0 ≤ z ∧ z ≤ 255) (hlen : zs.length ≤ 1048576) : Calls Try.prog 11 #[v] w (DrR w) := by
  have HR : Hid (Rd .u8 w v zs) := h
  have HOK : Hid (∀ z ∈ zs, 0 ≤ z ∧ z ≤ 255) := hok
  obtain ⟨a, cap, rfl, -, -, -⟩ := h
  clear hok
  go_enter Try.func11, Try.ntmps11
  go_wp2_with (fail)
  refine (new_c _ zs _ HR.out HOK.out (by omega)).mono ?_
  rintro e w1 ⟨g, rfl, d1, hg, b1⟩
  have HG : Hid (w.heap.size ≤ g) := hg
  have HB1 : Hid (Below w.heap.size w w1) := b1
  have HD1 : Hid (Dr w1 g (.slice a zs.length cap) zs) := d1
  clear d1 hg b1
  go_wp2_with (fail)
  refine (l7Any_c g _ zs w1 HD1.out).mono ?_
  rintro e w2 ⟨u, cs, rfl, hr, hl, hm, d2⟩
  have HD2 : Hid (Dc w1 w2 g (.slice a zs.length cap) zs) := d2
  have HR2 : Hid (∀ W, w2.grownBy W (some g) → RdS W u cs) := hr
  have HL : Hid (cs.length ≤ 17 ∧ ∀ c ∈ cs, c.2.2.length ≤ 4) := ⟨hl, hm⟩
  obtain ⟨lv, e1, ⟨ua, uc, hu, hq⟩, e3⟩ := hr w2 (grown_refl _ _)
  obtain ⟨N, hN⟩ : ∃ N, cs.length = N := ⟨_, rfl⟩
  rw [e1, hN] at hu
  subst hu
  have hN17 : N ≤ 17 := by omega
  clear d2 hl hm e1 e3 hq hN hr
  go_wp2_with (fail)
  refine (below_c _ _ _ _ _ HD2.out.dr (by omega)).mono ?_
  rintro e w3 ⟨x, rfl, x0, x1, -, d3, g3⟩
  have x1' := x1 (by omega)
  have HD3 : Hid (Dc w1 w3 g (.slice a zs.length cap) zs) := HD2.out.draw d3 g3
  have G3 : Hid (w2.grownBy w3 (some g)) := g3
  clear d3 g3 x1
  go_wp2_with (fail)
  refine (below_c _ _ _ _ _ HD3.out.dr (by omega)).mono ?_
  rintro e w4 ⟨y, rfl, y0, y1, -, d3, g3⟩
  have y1' := y1 (by omega)
  have HD4 : Hid (Dc w1 w4 g (.slice a zs.length cap) zs) := HD3.out.draw d3 g3
  have G4 : Hid (w2.grownBy w4 (some g)) := grown_trans G3.out g3
  clear d3 g3 y1 HD3 G3
  go_wp2_with (fail)
  refine (below_c _ _ _ _ _ HD4.out.dr (by omega)).mono ?_
  rintro e w5 ⟨z, rfl, z0, z1, -, d3, g3⟩
  have z1' := z1 (by omega)
  have HD5 : Hid (Dc w1 w5 g (.slice a zs.length cap) zs) := HD4.out.draw d3 g3
  have G5 : Hid (w2.grownBy w5 (some g)) := grown_trans G4.out g3
  clear d3 g3 z1 HD4 G4
  have HB5 : Hid (Below w.heap.size w w5) := HB1.out.trans (grown_below HD5.out.gr HB1.out.size (fun k e => by have := HG.out; have := Option.some.inj e; omega))
  have HR5 : Hid (RdS w5 (.slice ua N uc) cs) := HR2.out _ G5.out
  go_wp2
  go_ret3
  exact ⟨_, cs, _, _, rfl, HR5.out, HL.out.1, HL.out.2, ⟨by omega, by omega⟩, ⟨by omega, by omega⟩, HB5.out⟩
end Go.Proofs.Ytfaflnhembceoaa
