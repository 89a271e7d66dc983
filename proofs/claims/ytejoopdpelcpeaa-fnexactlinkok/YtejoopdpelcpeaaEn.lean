/- Ends of links: what is owned; an end copied; no condition. -/
import Derived.Test.YtejoopdpelcpeaaUn
import Derived.Test.YtejoopdpelcpeaaFlt
namespace Go.Proofs.Ytejoopdpelcpeaa
open Go.RowKit Go.ChangeShapes Go.WideShapes Go.ChangeAt
set_option linter.unusedVariables false
set_option linter.unusedSimpArgs false
set_option maxRecDepth 8000
theorem Ox.fr {X : Nat → Prop} {b : Nat} {w w' : World} {v : Value} {ls : Txs} (h : Ox b w v ls) (hm : Fr X w w') (ho : ∀ k, v.ownBlock = some k → ¬ X k) : Ox b w' v ls := ownsRow_fr h hm ho
theorem Ou.fr {X : Nat → Prop} {b : Nat} {w w' : World} {v : Value} {ls : Uns} (h : Ou 78 b w v ls) (hm : Fr X w w') (ho : ∀ k, v.ownBlock = some k → ¬ X k) : Ou 78 b w' v ls := ownsRow_fr h hm ho
/-- texts owned in blocks from b on, below h -/
structure OX (b h : Nat) (w : World) (v : Value) (ls : Txs) : Prop where
  o : Ox b w v ls
  lt : ∀ k, v.ownBlock = some k → k < h
  le : b ≤ h
/-- units owned in blocks from b on, below h -/
structure OS (b h : Nat) (w : World) (v : Value) (ls : Uns) : Prop where
  o : Ou 78 b w v ls
  lt : ∀ k, v.ownBlock = some k → k < h
  le : b ≤ h
section
variable {b h b' h' : Nat} {w w' : World} {v : Value} {ls : Txs} {us : Uns} {X : Nat → Prop}
theorem OX.ge (x : OX b h w v ls) (k : Nat) (e : v.ownBlock = some k) : b ≤ k ∧ k < h := ⟨(World.ownsRow.lt x.o k e).1, x.lt k e⟩
theorem OS.ge (x : OS b h w v us) (k : Nat) (e : v.ownBlock = some k) : b ≤ k ∧ k < h := ⟨(World.ownsRow.lt x.o k e).1, x.lt k e⟩
theorem OX.fr (x : OX b h w v ls) (hm : Fr X w w') (hx : ∀ k, b ≤ k → k < h → ¬ X k) : OX b h w' v ls := ⟨x.o.fr hm (fun k e => hx k (x.ge k e).1 (x.ge k e).2), x.lt, x.le⟩
theorem OS.fr (x : OS b h w v us) (hm : Fr X w w') (hx : ∀ k, b ≤ k → k < h → ¬ X k) : OS b h w' v us := ⟨Ou.fr x.o hm (fun k e => hx k (x.ge k e).1 (x.ge k e).2), x.lt, x.le⟩
theorem OX.below (x : OX b h w v ls) (hb : Below w.heap.size w w') : OX b h w' v ls := ⟨x.o.below hb, x.lt, x.le⟩
theorem OS.below (x : OS b h w v us) (hb : Below w.heap.size w w') : OS b h w' v us := ⟨x.o.below hb, x.lt, x.le⟩
theorem OX.mono (x : OX b h w v ls) (hb : b' ≤ b) (hh : h ≤ h') : OX b' h' w v ls := ⟨x.o.mono hb, fun k e => Nat.lt_of_lt_of_le (x.lt k e) hh, Nat.le_trans hb (Nat.le_trans x.le hh)⟩
theorem OS.mono (x : OS b h w v us) (hb : b' ≤ b) (hh : h ≤ h') : OS b' h' w v us := ⟨x.o.mono hb, fun k e => Nat.lt_of_lt_of_le (x.lt k e) hh, Nat.le_trans hb (Nat.le_trans x.le hh)⟩
theorem Ox.ox (x : Ox b w v ls) (hb : b ≤ w.heap.size) : OX b w.heap.size w v ls := ⟨x, fun k e => (World.ownsRow.lt x k e).2, hb⟩
theorem Ou.os (x : Ou 78 b w v us) (hb : b ≤ w.heap.size) : OS b w.heap.size w v us := ⟨x, fun k e => (World.ownsRow.lt x k e).2, hb⟩
theorem OX.form (x : OX b h w v ls) : ∃ a cap, v = .slice a ls.length cap := by
  obtain ⟨a, cap, e, -⟩ := x.o.rd
  exact ⟨a, cap, e⟩
theorem OS.form (x : OS b h w v us) : ∃ a cap, v = .slice a us.length cap := by
  obtain ⟨a, cap, e, -⟩ := Ou.rd x.o
  exact ⟨a, cap, e⟩
end
/-- an end: what it sends and what it took -/
structure En where
  out : Txs
  sent : Int
  acked : Int
  taken : Int
  inn : Txs
abbrev E5 (vo vi : Value) (s a t : Int) : Array Value := #[vo, .int .i64 s, .int .i64 a, .int .i64 t, vi]
theorem infoEnd : (Try.prog.info? 26).map (·.size) = some 5 := by kernel_rfl
set_option maxHeartbeats 3200000 in
theorem toEnd_c (vo vi : Value) (s a t : Int) (zo zi : Txs) (w : World) (ho : Rx w vo zo) (hi : Rx w vi zi) (n0 : zo.length ≤ 1048576) (n1 : zi.length ≤ 1048576) :
    Calls Try.prog 81 #[.agg (E5 vo vi s a t)] w fun x w' => ∃ vo' vi' m, x = .returned (.agg (E5 vo' vi' s a t)) ∧ OX w.heap.size m w' vo' zo ∧ OX m w'.heap.size w' vi' zi ∧ Below w.heap.size w w' := by
  obtain ⟨W0, hW0⟩ : ∃ W0, ((w.alloc (Obj.cells (E5 vo vi s a t) 41)).alloc (Obj.cells (E5 (.slice none 0 0) (.slice none 0 0) 0 0 0) 26)).alloc (Obj.cells (E5 (.slice none 0 0) (.slice none 0 0) 0 0 0) 26) = W0 := ⟨_, rfl⟩
  have zs : W0.heap.size = w.heap.size + 3 := by rw [← hW0]; simp
  have HB : Hid (Below w.heap.size w W0) := by rw [← hW0]; exact (((Below.refl _ _).alloc (Nat.le_refl _) _).alloc (by simp) _).alloc (by simp; omega) _
  have K0 : Hid (Blk W0 w.heap.size (E5 vo vi s a t) 41) := by rw [← hW0]; exact ((Blk.new _ _ _).alloc _).alloc _
  have K1 : Hid (Blk W0 (w.heap.size + 1) (E5 (.slice none 0 0) (.slice none 0 0) 0 0 0) 26) := by rw [← hW0]; exact (Blk.newAt _ (w.heap.size + 1) _ 26 (by simp)).alloc _
  have K2 : Hid (Blk W0 (w.heap.size + 1 + 1) (E5 (.slice none 0 0) (.slice none 0 0) 0 0 0) 26) := by rw [← hW0]; exact Blk.newAt _ (w.heap.size + 1 + 1) _ 26 (by simp)
  have HO : Hid (Rx w vo zo) := ho
  have HI : Hid (Rx w vi zi) := hi
  obtain ⟨a0, p0, hv0, -⟩ := ho
  obtain ⟨a1, p1, hv1, -⟩ := hi
  subst hv0 hv1
  have x0 := K0.out.cell 0
  simp at x0
  go_enter Try.func81, Try.ntmps81
  go_wp2_with (fail)
  clear hW0
  refine (toTextS_c _ zo W0 (HO.out.below HB.out) n0).mono ?_
  rintro e w1 ⟨u0, rfl, o0, b1⟩
  have q0 : OX w.heap.size w1.heap.size w1 u0 zo := (o0.ox b1.size).mono (by omega) (Nat.le_refl _)
  have q0g : ∀ k, u0.ownBlock = some k → W0.heap.size ≤ k := fun k e => (World.ownsRow.lt o0 k e).1
  obtain ⟨e0, f0, hu0⟩ := q0.form
  subst hu0
  have k0 := K0.out.below b1 K0.out.lt
  have k1 := K1.out.below b1 K1.out.lt
  have k2 := K2.out.below b1 K2.out.lt
  have bb : Below w.heap.size w w1 := belowCall HB.out b1 HB.out.size
  have z1 : W0.heap.size ≤ w1.heap.size := b1.size
  obtain ⟨W2, hW2⟩ : ∃ W, (((w1.setCell ⟨w.heap.size + 1 + 1, 0, none⟩ (.slice e0 zo.length f0)).setCell ⟨w.heap.size + 1 + 1, 1, none⟩ (.int .i64 s)).setCell ⟨w.heap.size + 1 + 1, 2, none⟩ (.int .i64 a)).setCell ⟨w.heap.size + 1 + 1, 3, none⟩ (.int .i64 t) = W := ⟨_, rfl⟩
  have z2 : W2.heap.size = w1.heap.size := by rw [← hW2]; simp
  have hf : Fr (fun k => k = w.heap.size + 1 + 1) w1 W2 := by
    rw [← hW2]
    exact (((Fr.ofGrown (grown_set' _ _ _ _) (fun k e => (Option.some.inj e).symm)).trans (Fr.ofGrown (grown_set' _ _ _ _) (fun k e => (Option.some.inj e).symm))).trans (Fr.ofGrown (grown_set' _ _ _ _) (fun k e => (Option.some.inj e).symm))).trans (Fr.ofGrown (grown_set' _ _ _ _) (fun k e => (Option.some.inj e).symm))
  have P0 : Hid (Ox W0.heap.size W2 (.slice e0 zo.length f0) zo) := o0.fr hf (fun k e h => by have := q0g k e; omega)
  have Q0 : Hid (Blk W2 w.heap.size (E5 (.slice a0 zo.length p0) (.slice a1 zi.length p1) s a t) 41) := k0.fr hf (by omega)
  have Q1 : Hid (Blk W2 (w.heap.size + 1) (E5 (.slice none 0 0) (.slice none 0 0) 0 0 0) 26) := k1.fr hf (by omega)
  have Q2 : Hid (Blk W2 (w.heap.size + 1 + 1) (E5 (.slice e0 zo.length f0) (.slice none 0 0) s a t) 26) := by
    rw [← hW2]; exact (((k2.set 0 _).set 1 _).set 2 _).set 3 _
  have HB2 : Hid (Below w.heap.size w W2) := (belowCall HB.out b1 HB.out.size).trans (hf.below (by omega) (fun k e => by omega))
  have x1 := k0.cell 1
  have x2 := k0.cell 2
  have x3 := k0.cell 3
  have x4 := Q0.out.cell 4
  have d0 := k2.cell 0
  have d1 := k2.cell 1
  have d2 := k2.cell 2
  have d3 := k2.cell 3
  have df0 := k2.frozen 0
  have df1 := k2.frozen 1
  have df2 := k2.frozen 2
  have df3 := k2.frozen 3
  have l0 := k0.lt
  have l2 := k2.lt
  simp at x1 x2 x3 x4 d0 d1 d2 d3
  have HQ : Hid (∀ k, (Value.slice e0 zo.length f0).ownBlock = some k → W0.heap.size ≤ k ∧ k < w1.heap.size) := fun k e => World.ownsRow.lt o0 k e
  clear k0 k1 k2 bb b1 o0 q0 q0g hf HB K0 K1 K2 x0
  go_wp2_with (fail)
  clear hW2
  refine (toTextS_c _ zi W2 (HI.out.below HB2.out) n1).mono ?_
  rintro e w3 ⟨u1, rfl, o1, b3⟩
  obtain ⟨e1, f1, hu1, -⟩ := o1.rd
  subst hu1
  have k1 := Q1.out.below b3 Q1.out.lt
  have k2 := Q2.out.below b3 Q2.out.lt
  have z3 : W2.heap.size ≤ w3.heap.size := b3.size
  have HF : Hid (∀ W, (((((w3.setCell ⟨w.heap.size + 1 + 1, 4, none⟩ (.slice e1 zi.length f1)).setCell ⟨w.heap.size + 1, 0, none⟩ (.slice e0 zo.length f0)).setCell ⟨w.heap.size + 1, 1, none⟩ (.int .i64 s)).setCell ⟨w.heap.size + 1, 2, none⟩ (.int .i64 a)).setCell ⟨w.heap.size + 1, 3, none⟩ (.int .i64 t)).setCell ⟨w.heap.size + 1, 4, none⟩ (.slice e1 zi.length f1) = W →
      Blk W (w.heap.size + 1) (E5 (.slice e0 zo.length f0) (.slice e1 zi.length f1) s a t) 26 ∧ OX w.heap.size w1.heap.size W (.slice e0 zo.length f0) zo ∧ OX w1.heap.size W.heap.size W (.slice e1 zi.length f1) zi ∧ Below w.heap.size w W) := by
    intro W hW
    have hz : W.heap.size = w3.heap.size := by rw [← hW]; simp
    have hf : Fr (fun k => k = w.heap.size + 1 + 1 ∨ k = w.heap.size + 1) w3 W := by
      rw [← hW]
      exact (((((Fr.ofGrown (grown_set' _ _ _ _) (fun k e => .inl (Option.some.inj e).symm)).trans (Fr.ofGrown (grown_set' _ _ _ _) (fun k e => .inr (Option.some.inj e).symm))).trans (Fr.ofGrown (grown_set' _ _ _ _) (fun k e => .inr (Option.some.inj e).symm))).trans (Fr.ofGrown (grown_set' _ _ _ _) (fun k e => .inr (Option.some.inj e).symm))).trans (Fr.ofGrown (grown_set' _ _ _ _) (fun k e => .inr (Option.some.inj e).symm))).trans (Fr.ofGrown (grown_set' _ _ _ _) (fun k e => .inr (Option.some.inj e).symm))
    have u0 := (P0.out.below b3).fr hf (fun k e h => by have := HQ.out k e; omega)
    have u1 := o1.fr hf (fun k e h => by have := World.ownsRow.lt o1 k e; omega)
    refine ⟨?_, ⟨u0.mono (by omega), fun k e => (HQ.out k e).2, by omega⟩, ⟨u1.mono (by omega), fun k e => by have := (World.ownsRow.lt o1 k e).2; omega, by omega⟩, (belowCall HB2.out b3 HB2.out.size).trans (hf.below (by omega) (fun k e => by omega))⟩
    rw [← hW]
    exact (((((k1.other _ _ (by simp)).set 0 _).set 1 _).set 2 _).set 3 _).set 4 _
  have y0 := k1.cell 0
  have y1 := k1.cell 1
  have y2 := k1.cell 2
  have y3 := k1.cell 3
  have y4 := k1.cell 4
  have yf0 := k1.frozen 0
  have yf1 := k1.frozen 1
  have yf2 := k1.frozen 2
  have yf3 := k1.frozen 3
  have yf4 := k1.frozen 4
  have d0 := k2.cell 0
  have d1 := k2.cell 1
  have d2 := k2.cell 2
  have d3 := k2.cell 3
  have d4 := k2.cell 4
  have df4 := k2.frozen 4
  have l1 := k1.lt
  have l2 := k2.lt
  simp at y0 y1 y2 y3 y4 d0 d1 d2 d3 d4
  clear k1 k2 b3 o1 HB2 Q0 Q1 Q2 P0 HQ
  go_wp2
  exact bodyPost_ret (v := .agg (E5 (.slice e0 zo.length f0) (.slice e1 zi.length f1) s a t)) (results_cell_row rfl _ _ _ 26 _ (0, 0) _ rfl (HF.out _ rfl).1 Try.underlying26 rfl infoEnd) rfl ⟨_, _, _, rfl, (HF.out _ rfl).2⟩
end Go.Proofs.Ytejoopdpelcpeaa
