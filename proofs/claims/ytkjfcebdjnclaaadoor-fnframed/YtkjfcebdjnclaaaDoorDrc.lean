/- What is drawn for the laws of voices; no condition. -/
import Derived.Test.YtkjfcebdjnclaaaDoorDrb
import Derived.Test.YtkjfcebdjnclaaaDoorExi
namespace Go.Proofs.YtkjfcebdjnclaaaDoor
open Go.RowKit Go.ChangeShapes Go.WideShapes Go.ChangeAt
set_option linter.unusedVariables false
set_option linter.unusedSimpArgs false
set_option maxRecDepth 8000

/-- a coder and a list of levels, drawn -/
def DrV (w : World) (e : Ending) (w' : World) : Prop := ∃ (c : Int × Int) (v : Value) (ys : List Int), e = .returned (.tuple #[.agg (cdA c), v]) ∧ Rd .i64 w' v ys ∧ ys.length ≤ 400 ∧ Below w.heap.size w w'
theorem Dc.bel {w0 w W : World} {g : Nat} {cv : Value} {zs : List Int} (h : Dc w W g cv zs) (hb : Below w0.heap.size w0 w) (hg : w0.heap.size ≤ g) : Below w0.heap.size w0 W := hb.trans (grown_below h.gr hb.size (fun k e => by have := Option.some.inj e; omega))
theorem results_C2 {fn : Func} {u p : Tmp} (h : fn.results = #[.cell p 25, .tmp u]) (tmps : Array Value) (w : World) (g : Nat) (c : Int × Int) (a : Value)
    (hu : tmps.getD u undef = a) (hp : tmps.getD p undef = .pointer (some ⟨g, 0, none⟩)) (hg : Blk w g (cdA c) 25) :
    (results fn tmps).run Tryd.prog w = .ok (.tuple #[.agg (cdA c), a]) w := by
  have hp' : tmps[p]?.getD undef = .pointer (some ⟨g, 0, none⟩) := by simpa using hp
  have hu' : tmps[u]?.getD undef = a := by simpa using hu
  have hr := run_loadVar_row (P := Tryd.prog) w g 25 25 (cdA c) (0, 0) _ hg Tryd.underlying25 rfl sizeCd
  simp [results, h, hp', hu', asAddr, hr]
set_option maxHeartbeats 6400000 in
theorem drawSq_c (v : Value) (zs : List Int) (w : World) (h : Rd .u8 w v zs) (hok : ∀ z ∈ zs, 0 ≤ z ∧ z ≤ 255) (hlen : zs.length ≤ 1048576) : Calls Tryd.prog 15 #[v] w (DrV w) := by
  have HR : Hid (Rd .u8 w v zs) := h
  have HOK : Hid (∀ z ∈ zs, 0 ≤ z ∧ z ≤ 255) := hok
  have HLN : Hid (zs.length ≤ 1048576) := hlen
  clear h hok hlen
  go_enter Tryd.func15, Tryd.ntmps15
  obtain ⟨W0, hW0⟩ : ∃ W, w.alloc (Obj.cells #[.int .i64 0, .int .i64 0] 25) = W := ⟨_, rfl⟩
  obtain ⟨gc, hgc⟩ : ∃ k, w.heap.size = k := ⟨_, rfl⟩
  have HB0 : Hid (Below w.heap.size w W0) := by rw [← hW0]; exact (Below.refl _ _).alloc (Nat.le_refl _) _
  have HKA : Hid (Blk W0 gc (cdA (0, 0)) 25) := by rw [← hW0, ← hgc]; exact Blk.new _ _ _
  have HRA : Hid (Rd .u8 W0 v zs) := HR.out.below HB0.out
  have HSG : Hid (w.heap.size = gc) := hgc
  have HW0 : Hid (w.alloc (Obj.cells #[.int .i64 0, .int .i64 0] 25) = W0) := hW0
  clear hW0 hgc HR
  go_wp2_with (fail)
  rw [HW0.out, HSG.out]
  clear HW0
  refine (new_c _ zs _ HRA.out HOK.out (by have := HLN.out; omega)).mono ?_
  rintro e w1 ⟨g, rfl, d1, hg, b1⟩
  have HLG : Hid (gc < g) := Nat.lt_of_lt_of_le HKA.out.lt hg
  have HD1 : Hid (Dc w1 w1 g v zs) := Dc.start d1
  have HK1 : Hid (Blk w1 gc (cdA (0, 0)) 25) := HKA.out.below b1 HKA.out.lt
  have HB1 : Hid (Below w.heap.size w w1) := belowCall HB0.out b1 HB0.out.size
  have HG0 : Hid (w.heap.size ≤ g) := Nat.le_trans HB0.out.size hg
  clear d1 hg b1 HKA HRA HB0
  go_wp2_with (fail)
  refine (dcoder_c _ _ _ _ HD1.out.dr).mono ?_
  rintro e w2 ⟨c, rfl, d2⟩
  have HD2 : Hid (Dc w1 w2 g v zs) := d2
  have HK2 : Hid (Blk w2 gc (cdA (0, 0)) 25) := HK1.out.grown d2.gr (fun e => by have := HLG.out; have := Option.some.inj e; omega)
  clear d2 HD1 HK1
  go_wp2_with (fail)
  refine (size_c _ _ _ _ HD2.out.dr.rd HLN.out (by omega) (by omega)).mono ?_
  rintro e w3 ⟨n, rfl, n0, n1, hw3⟩
  subst hw3
  go_wp2_with (fail)
  refine (dany_c _ _ _ _ _ HD2.out.dr n0 (by omega)).mono ?_
  rintro e w4 ⟨u, ys, rfl, o4, l4, d4⟩
  have HD4 : Hid (Dc w1 w4 g v zs) := HD2.out.draw d4.dr d4.gr
  have HK4 : Hid (Blk w4 gc (cdA (0, 0)) 25) := HK2.out.grown d4.gr (fun e => by have := HLG.out; have := Option.some.inj e; omega)
  have HO4 : Hid (Ow .i64 3 w3.heap.size w4 u ys) := o4
  have HL4 : Hid (ys.length ≤ 400) := l4
  have HGE : Hid (gc < w3.heap.size) := HK2.out.lt
  clear o4 l4 d4 HD2 HK2
  go_wp2_with (refine wpList_store_row rfl 25 _ _ rfl gc _ rfl rfl 25 (cdA (0, 0)) HK4.out sizeCd rfl (by simp [Value.oneCell']) ?_)
  exact bodyPost_ret (results_C2 rfl _ _ gc c _ rfl rfl (HK4.out.row _)) rfl ⟨c, _, ys, rfl, (Ow.putRow HO4.out HGE.out).rd, HL4.out, belowRow (HD4.out.bel HB1.out HG0.out) _ (by have := HSG.out; omega) _⟩

end Go.Proofs.YtkjfcebdjnclaaaDoor
