/- A book to mend is drawn; no condition. -/
import Derived.Test.YtmfmlbiplagmiaaDoorDtc
namespace Go.Proofs.YtmfmlbiplagmiaaDoor
open Go.RowKit Go.ChangeShapes Go.WideShapes Go.ChangeAt
set_option linter.unusedVariables false
set_option linter.unusedSimpArgs false
set_option maxRecDepth 8000

def DmR (w : World) (e : Ending) (w' : World) : Prop := ∃ va vl vc ts ls cs, e = .returned (.agg (B3 va vl vc)) ∧ Obk w.heap.size w' va vl vc ts ls cs ∧ Below w.heap.size w w' ∧ (ts.length ≤ 40 ∧ (1 ≤ ls.length ∧ ls.length ≤ 40) ∧ cs.length ≤ 40)
theorem obk_row {base X : Nat} {W : World} {va vl vc : Value} {T : List Tk} {L C : List Int} {cs cs' : Array Value} (h : Obk base W va vl vc T L C) (hb : Blk W X cs 27) : Obk base (W.setRow X cs') va vl vc T L C :=
  h.fr (X := fun k => k = X) (Fr.ofGrown (grown_row _ _ _) (fun k e => (Option.some.inj e).symm)) (fun k hk e => by
    subst e
    rcases hk with hk | hk | hk
    · exact row_blk h.1 hb (by decide) hk
    · exact row_blk h.2.1 hb (by decide) hk
    · exact row_blk h.2.2.1 hb (by decide) hk)
set_option maxHeartbeats 3200000 in
theorem drawMend_c (v : Value) (zs : List Int) (w : World) (h : Rd .u8 w v zs) (hok : ∀ z ∈ zs, 0 ≤ z ∧ z ≤ 255) (hlen : zs.length ≤ 2097152) : Calls Tryd.prog 8 #[v] w (DmR w) := by
  obtain ⟨P0, hP0⟩ : ∃ P, w.heap.size = P := ⟨_, rfl⟩
  obtain ⟨W0, hW0⟩ : ∃ W, w.alloc (Obj.cells (B3 (.slice none 0 0) (.slice none 0 0) (.slice none 0 0)) 27) = W := ⟨_, rfl⟩
  have hb0 : Below w.heap.size w W0 := by rw [← hW0]; exact (Below.refl _ _).alloc (Nat.le_refl _) _
  have HB0 : Hid (Below w.heap.size w W0) := hb0
  have HR : Hid (Rd .u8 W0 v zs) := h.below hb0
  have HK0 : Hid (Blk W0 P0 (B3 (.slice none 0 0) (.slice none 0 0) (.slice none 0 0)) 27) := by show Blk _ _ _ _; rw [← hW0, ← hP0]; exact Blk.new _ _ _
  have HOK : Hid ((∀ z ∈ zs, 0 ≤ z ∧ z ≤ 255) ∧ zs.length ≤ 2097152) := ⟨hok, hlen⟩
  have HW0 : Hid (w.alloc (Obj.cells (B3 (.slice none 0 0) (.slice none 0 0) (.slice none 0 0)) 27) = W0 ∧ w.heap.size = P0) := ⟨hW0, hP0⟩
  have HP : Hid (w.heap.size = P0) := hP0
  clear hb0 hW0 hP0 h hok hlen
  go_enter Tryd.func8, Tryd.ntmps8
  go_upto_region 1 with fail
  rw [HW0.out.1, HW0.out.2]
  clear HW0
  go_wp2_with (fail)
  refine (new_c v zs W0 HR.out HOK.out.1 HOK.out.2).mono ?_
  rintro e w1 ⟨g, rfl, d1, hg, b1⟩
  have HD1 : Hid (Dr w1 g v zs ∧ W0.heap.size ≤ g ∧ Below W0.heap.size W0 w1) := ⟨d1, hg, b1⟩
  clear d1 hg b1
  go_wp2_with (fail)
  refine (drawAny18_c g v zs w1 HD1.out.1).mono ?_
  rintro e w2 ⟨va, vl, vc, ts, ls, cs, rfl, o2, d2, n2⟩
  have hk1 : Blk w1 P0 (B3 (.slice none 0 0) (.slice none 0 0) (.slice none 0 0)) 27 := HK0.out.below HD1.out.2.2 HK0.out.lt
  have hk2 : Blk w2 P0 (B3 (.slice none 0 0) (.slice none 0 0) (.slice none 0 0)) 27 := hk1.grown d2.gr (fun e => by have := Option.some.inj e; have := HK0.out.lt; have := HD1.out.2.1; omega)
  have b2 : Below w.heap.size w w2 := ((HB0.out.trans (HD1.out.2.2.mono HB0.out.size)).grown d2.gr (by have := HB0.out.size; have := HD1.out.2.2.size; omega) (fun k e => by have := Option.some.inj e; have := HD1.out.2.1; have := HB0.out.size; omega))
  have HF : Hid (Blk (w2.setRow P0 (B3 va vl vc)) P0 (B3 va vl vc) 27 ∧ DmR w (.returned (.agg (B3 va vl vc))) (w2.setRow P0 (B3 va vl vc))) :=
    ⟨hk2.row _, va, vl, vc, ts, ls, cs, rfl, obk_row (o2.mono (by have := HB0.out.size; have := HD1.out.2.2.size; omega)) hk2, belowRow b2 _ (by rw [HP.out]; exact Nat.le_refl _) _, n2⟩
  obtain ⟨a0, c0, rfl⟩ := o2.1.form
  obtain ⟨a1, c1, rfl⟩ := o2.2.1.form
  obtain ⟨a2, c2, rfl⟩ := o2.2.2.1.form
  have HK2 : Hid (Blk w2 P0 (B3 (.slice none 0 0) (.slice none 0 0) (.slice none 0 0)) 27) := hk2
  clear hk1 hk2 b2 o2 d2 n2 HD1 HK0 HB0 HR
  go_wp2_with (refine wpList_store_row rfl 27 _ _ rfl P0 (B3 (.slice a0 ts.length c0) (.slice a1 ls.length c1) (.slice a2 cs.length c2)) rfl rfl 27 (B3 (.slice none 0 0) (.slice none 0 0) (.slice none 0 0)) HK2.out (by kernel_rfl) rfl (by simp [Value.oneCell']) ?_)
  exact bodyPost_ret (v := .agg (B3 (.slice a0 ts.length c0) (.slice a1 ls.length c1) (.slice a2 cs.length c2))) (results_cell_row rfl _ _ _ 27 _ (0, 0) _ rfl HF.out.1 Tryd.underlying27 rfl sizeBk) rfl HF.out.2

end Go.Proofs.YtmfmlbiplagmiaaDoor
