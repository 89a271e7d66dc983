/- What the law of Connect comes to; no condition. -/
import Derived.Test.YtikhfeafbckjlaaDoorFCoM
import Derived.Test.YtikhfeafbckjlaaDoorFCoI
import Derived.Test.YtikhfeafbckjlaaDoorFMe
import Derived.Test.YtikhfeafbckjlaaDoorFMh
import Derived.Test.YtikhfeafbckjlaaDoorFMk
import Derived.Test.YtikhfeafbckjlaaDoorFab
import Derived.Test.YtikhfeafbckjlaaDoorFEq
import Derived.Test.YtikhfeafbckjlaaDoorTLaw
namespace Go.Proofs.YtikhfeafbckjlaaDoor
open Go.RowKit Go.ChangeShapes Go.WideShapes Go.ChangeAt
set_option linter.unusedVariables false
set_option linter.unusedSimpArgs false
set_option maxRecDepth 8000
def OpH (base hi : Nat) (w : World) (v : Value) (ls : Mvs) : Prop := Op mf mg 74 base w v ls ∧ ∀ k, v.ownBlock = some k → k < hi
theorem Op.toH {base : Nat} {w : World} {v : Value} {ls : Mvs} (h : Op mf mg 74 base w v ls) : OpH base w.heap.size w v ls := ⟨h, fun k e => (World.ownsRow.lt h k e).2⟩
theorem OpH.below {base hi : Nat} {w w' : World} {v : Value} {ls : Mvs} (h : OpH base hi w v ls) (hb : Below w.heap.size w w') : OpH base hi w' v ls := ⟨Op.below h.1 hb, h.2⟩
theorem OpH.mid {base hi lo' hi' : Nat} {w w' : World} {v : Value} {ls : Mvs} (h : OpH base hi w v ls) (hm : Mid lo' hi' w w') (ho : hi ≤ lo' ∨ hi' ≤ base) : OpH base hi w' v ls :=
  ⟨ownsRow_mid h.1 hm (fun k e => by have h1 := (World.ownsRow.lt h.1 k e).1; have h2 := h.2 k e; omega), h.2⟩
theorem OpH.rd {base hi : Nat} {w : World} {v : Value} {ls : Mvs} (h : OpH base hi w v ls) : Rp mf mg w v ls := Op.rd h.1
theorem ownsRow_at {w : World} {base : Nat} {e : TypeId} {s : Nat} {v : Value} {n : Nat} {xs : List Value} (h : w.ownsRow base e s v n xs) {k : Nat} (hk : v.ownBlock = some k) : w.ownsRow k e s v n xs := by
  rcases h with ⟨h1, ⟨rfl, hn⟩ | ⟨g, cap, cur, rfl, hb, hr⟩⟩
  · simp [Value.ownBlock] at hk
  · simp [Value.ownBlock] at hk
    exact ⟨h1, .inr ⟨g, cap, cur, rfl, by omega, hr⟩⟩
theorem tightCon {B : Nat} {W : World} {v mv : Value} {ls : Tri} {ms : Mvs} (h : Ot 35 B W v ls) (hm : Op mf mg 74 B W mv ms) (hne : ∀ k, v.ownBlock = some k → mv.ownBlock ≠ some k) (hB : B ≤ W.heap.size) :
    ∃ g0 g1 m0 m1, B ≤ g0 ∧ g0 ≤ g1 ∧ g1 ≤ W.heap.size ∧ B ≤ m0 ∧ m0 ≤ m1 ∧ m1 ≤ W.heap.size ∧ (g1 ≤ m0 ∨ m1 ≤ g0) ∧ OtH g0 g1 W v ls ∧ OpH m0 m1 W mv ms := by
  cases hv : v.ownBlock with
  | none =>
    have hg : OtH B B W v ls := ⟨h, fun k e => by rw [hv] at e; cases e⟩
    exact ⟨B, B, B, W.heap.size, by omega, by omega, hB, by omega, hB, by omega, .inl (by omega), hg, Op.toH hm⟩
  | some k =>
    have hk := World.ownsRow.lt h k hv
    have hg : OtH k (k + 1) W v ls := ⟨ownsRow_at h hv, fun k' e => by rw [hv] at e; cases e; omega⟩
    cases hw : mv.ownBlock with
    | none =>
      have hq : OpH B B W mv ms := ⟨hm, fun k e => by rw [hw] at e; cases e⟩
      exact ⟨k, k + 1, B, B, hk.1, by omega, by omega, by omega, by omega, hB, .inr (by omega), hg, hq⟩
    | some k' =>
      have hk' := World.ownsRow.lt hm k' hw
      have hq : OpH k' (k' + 1) W mv ms := ⟨ownsRow_at hm hw, fun k e => by rw [hw] at e; cases e; omega⟩
      have : k' ≠ k := fun e => hne k hv (by rw [hw, e])
      exact ⟨k, k + 1, k', k' + 1, hk.1, by omega, by omega, hk'.1, by omega, by omega, by omega, hg, hq⟩
theorem markMH_c (v : Value) (ls : Mvs) (q : Int) (base hi : Nat) (w : World) (h : OpH base hi w v ls) (h0 : 0 ≤ q) (hq : q + 2 * ls.length ≤ 1152921504606846976) :
   Calls Tryd.prog 26 #[v, .int .i64 q] w fun e w' => e = .returned (.int .i64 (q + 2 * ls.length)) ∧ OpH base hi w' v (mkM q ls.length) ∧ Mid base hi w w' :=
  (markMoveS_c v ls q base w h.1 h0 hq).mono fun e w' ⟨h1, h2, h3⟩ => ⟨h1, ⟨h2, h.2⟩, Mid.ofGrown h3 (fun k e => ⟨(World.ownsRow.lt h.1 k e).1, h.2 k e⟩)⟩
theorem ConS.len {s p m f g : Int} {ps ps' : Tri} {ms : Mvs} {c : Int} (h : ConS s p m f g ps ps' ms c) : ps'.length ≤ ps.length + 1 ∧ ms.length ≤ ps.length := by
  rcases h with ⟨h1, rfl, rfl, rfl⟩ | ⟨h1, h2, rfl, rfl, rfl⟩ | ⟨h1, h2, h3, rfl, rfl, rfl⟩ | ⟨h1, h2, h3, h4, rfl, rfl, rfl⟩ | ⟨h1, h2, h3, h4, K1, K2, k1, k2, rfl, rfl, rfl⟩
  · exact ⟨by omega, by simp⟩
  · exact ⟨by omega, by simp⟩
  · exact ⟨by simp, by simp⟩
  · exact ⟨by omega, by simp⟩
  · have hc := con_chains h1.1 h3 h4.1 h4.2
    refine ⟨by simp [movL_len], ?_⟩
    unfold mvs2
    split
    · rw [mvL_len]; exact k2.le hc.2
    · rw [mvL_len]; exact k1.le hc.1
set_option maxHeartbeats 3200000 in
theorem connectLaw (s p m : Int) (v : Value) (cs : Tri) (f t : Int) (w : World) (h : Rt w v cs) (hN : NoP w ∧ Tab w) :
   Calls Tryd.prog 5 #[.agg (F4 s p m v), .int .i64 f, .int .i64 t] w fun e w' => e = .returned (.bool true) ∧ Below w.heap.size w w' := by
  have bel0 : Below w.heap.size w (w.alloc (Obj.cells (F4 s p m (v)) 43)) := (Below.refl _ _).alloc (Nat.le_refl _) _
  have HZ : Hid (Calls Tryd.prog 21 #[.agg (F4 s p m v), .int .i64 1048576] (w.alloc (Obj.cells (F4 s p m (v)) 43)) fun e w' => e = .returned (.int .i64 (lft 1048576 cs.length)) ∧ Below (w.alloc (Obj.cells (F4 s p m (v)) 43)).heap.size (w.alloc (Obj.cells (F4 s p m (v)) 43)) w') := szFabric_c s p m v cs 1048576 _ (h.below bel0) (by decide) (by decide)
  have HB : Hid (Below w.heap.size w (w.alloc (Obj.cells (F4 s p m (v)) 43))) := bel0
  have HH : Hid (Rt w v cs) := h
  have HKA : Hid (Blk (w.alloc (Obj.cells (F4 s p m (v)) 43)) w.heap.size (F4 s p m (v)) 43) := Blk.new _ _ _
  have HNP : Hid (∀ W, Below w.heap.size w W → NoP W ∧ Tab W) := fun W hb => ⟨hN.1.below hb hN.1.lt, hN.2.below hb hN.2.lt⟩
  clear hN
  obtain ⟨a, cap, rfl, -⟩ := h
  obtain ⟨ln, hln⟩ : ∃ ln, cs.length = ln := ⟨_, rfl⟩
  rw [hln] at HB HH HKA HZ ⊢
  obtain ⟨z, hz⟩ : ∃ z, lft 1048576 ln = z := ⟨_, rfl⟩
  rw [hz] at HZ
  have HZ2 : Hid (0 ≤ z → cs.length ≤ 1048576) := fun h0 => (by rw [hln]; rw [← hz] at h0; unfold lft at h0; split at h0 <;> omega)
  clear bel0 hz hln
  go_enter Tryd.func5, Tryd.ntmps5
  go_wp2_with (fail)
  refine HZ.out.mono ?_
  rintro e w1 ⟨rfl, b1⟩
  have sA : (w.alloc (Obj.cells (F4 s p m (.slice a ln cap)) 43)).heap.size = w.heap.size + 1 := by simp
  have z1 : w.heap.size + 1 ≤ w1.heap.size := by have := b1.size; rw [sA] at this; exact this
  have HB' : Hid (Below w.heap.size w w1) := belowCall HB.out b1 HB.out.size
  have HKA' : Hid (Blk w1 w.heap.size (F4 s p m (.slice a ln cap)) 43) := HKA.out.below b1 (by simp)
  clear HB HKA
  have HB := HB'
  have HKA := HKA'
  clear HB' HKA' b1 HZ sA
  have cKA0 : w1.cell? ⟨w.heap.size, 0, none⟩ = some (.int .i64 s) := by have := HKA.out.cell 0; simpa using this
  have cKA1 : w1.cell? ⟨w.heap.size, 1, none⟩ = some (.int .i64 p) := by have := HKA.out.cell 1; simpa using this
  have cKA2 : w1.cell? ⟨w.heap.size, 2, none⟩ = some (.int .i64 m) := by have := HKA.out.cell 2; simpa using this
  have cKA3 : w1.cell? ⟨w.heap.size, 3, none⟩ = some (.slice a ln cap) := by have := HKA.out.cell 3; simpa using this
  have lKA : w.heap.size < w1.heap.size := HKA.out.lt
  by_cases hneg : z < 0
  · go_wp2
    go_ret
    exact ⟨rfl, HB.out⟩
  have hl := HZ2.out (by omega)
  have HL : Hid (cs.length ≤ 1048576) := hl
  clear hl HZ2
  clear cKA0 cKA1 cKA2 cKA3 lKA
  have cKA0 : w1.cell? ⟨w.heap.size, 0, none⟩ = some (.int .i64 s) := by have := HKA.out.cell 0; simpa using this
  have cKA1 : w1.cell? ⟨w.heap.size, 1, none⟩ = some (.int .i64 p) := by have := HKA.out.cell 1; simpa using this
  have cKA2 : w1.cell? ⟨w.heap.size, 2, none⟩ = some (.int .i64 m) := by have := HKA.out.cell 2; simpa using this
  have cKA3 : w1.cell? ⟨w.heap.size, 3, none⟩ = some (.slice a ln cap) := by have := HKA.out.cell 3; simpa using this
  have lKA : w.heap.size < w1.heap.size := HKA.out.lt
  go_wp2_with (fail)
  refine (toFabric_c s p m _ cs w1 (HH.out.below HB.out) HL.out).mono ?_
  rintro e w2 ⟨vs, rfl, os, b⟩
  have HOS : Hid (Rt w2 vs cs) := os.rd
  clear os
  clear cKA0 cKA1 cKA2 cKA3 lKA
  have z2 : w1.heap.size ≤ w2.heap.size := b.size
  have HB' : Hid (Below w.heap.size w w2) := belowCall HB.out b HB.out.size
  have HKA' : Hid (Blk w2 w.heap.size (F4 s p m (.slice a ln cap)) 43) := HKA.out.below b HKA.out.lt
  clear HB HKA
  have HB := HB'
  have HKA := HKA'
  clear HB' HKA'
  clear b
  have cKA0 : w2.cell? ⟨w.heap.size, 0, none⟩ = some (.int .i64 s) := by have := HKA.out.cell 0; simpa using this
  have cKA1 : w2.cell? ⟨w.heap.size, 1, none⟩ = some (.int .i64 p) := by have := HKA.out.cell 1; simpa using this
  have cKA2 : w2.cell? ⟨w.heap.size, 2, none⟩ = some (.int .i64 m) := by have := HKA.out.cell 2; simpa using this
  have cKA3 : w2.cell? ⟨w.heap.size, 3, none⟩ = some (.slice a ln cap) := by have := HKA.out.cell 3; simpa using this
  have lKA : w.heap.size < w2.heap.size := HKA.out.lt
  go_wp2_with (fail)
  refine (conM_c s p m f t _ cs w2 HOS.out (by have := HL.out; omega)).mono ?_
  rintro e w3 ⟨vw, zw, mvw, mw, cw, rfl, hsw, ow, omw, -, b⟩
  have HSW : Hid (ConS s p m f t cs zw mw cw) := hsw
  obtain ⟨aw, cpw, hvw, -⟩ := own_form ow
  subst hvw
  have HW : Hid (OtH w2.heap.size w3.heap.size w3 (.slice aw zw.length cpw) zw) := ow.toH
  have HMW : Hid (OpH w2.heap.size w3.heap.size w3 mvw mw) := Op.toH omw
  clear ow hsw omw
  clear cKA0 cKA1 cKA2 cKA3 lKA
  have z3 : w2.heap.size ≤ w3.heap.size := b.size
  have HB' : Hid (Below w.heap.size w w3) := belowCall HB.out b HB.out.size
  have HKA' : Hid (Blk w3 w.heap.size (F4 s p m (.slice a ln cap)) 43) := HKA.out.below b HKA.out.lt
  clear HB HKA
  have HB := HB'
  have HKA := HKA'
  clear HB' HKA'
  clear b
  clear HOS
  have cKA0 : w3.cell? ⟨w.heap.size, 0, none⟩ = some (.int .i64 s) := by have := HKA.out.cell 0; simpa using this
  have cKA1 : w3.cell? ⟨w.heap.size, 1, none⟩ = some (.int .i64 p) := by have := HKA.out.cell 1; simpa using this
  have cKA2 : w3.cell? ⟨w.heap.size, 2, none⟩ = some (.int .i64 m) := by have := HKA.out.cell 2; simpa using this
  have cKA3 : w3.cell? ⟨w.heap.size, 3, none⟩ = some (.slice a ln cap) := by have := HKA.out.cell 3; simpa using this
  have lKA : w.heap.size < w3.heap.size := HKA.out.lt
  go_wp2_with (fail)
  clear cKA0 cKA1 cKA2 cKA3 lKA
  have ba : Below w3.heap.size w3 (w3.alloc (Obj.cells (F4 s p m (.slice aw zw.length cpw)) 26)) := (Below.refl _ _).alloc (Nat.le_refl _) _
  have HB' : Hid (Below w.heap.size w (w3.alloc (Obj.cells (F4 s p m (.slice aw zw.length cpw)) 26))) := belowCall HB.out ba HB.out.size
  have HKA' : Hid (Blk (w3.alloc (Obj.cells (F4 s p m (.slice aw zw.length cpw)) 26)) w.heap.size (F4 s p m (.slice a ln cap)) 43) := HKA.out.below ba HKA.out.lt
  have HW' : Hid (OtH w2.heap.size w3.heap.size (w3.alloc (Obj.cells (F4 s p m (.slice aw zw.length cpw)) 26)) (.slice aw zw.length cpw) zw) := HW.out.below ba
  have HMW' : Hid (OpH w2.heap.size w3.heap.size (w3.alloc (Obj.cells (F4 s p m (.slice aw zw.length cpw)) 26)) mvw mw) := HMW.out.below ba
  clear HB HKA HW HMW
  have HB := HB'
  have HKA := HKA'
  have HW := HW'
  have HMW := HMW'
  clear HB' HKA' HW' HMW'
  have HKW : Hid (Blk (w3.alloc (Obj.cells (F4 s p m (.slice aw zw.length cpw)) 26)) w3.heap.size (F4 s p m (.slice aw zw.length cpw)) 26) := Blk.new _ _ _
  have z4 : w3.heap.size < (w3.alloc (Obj.cells (F4 s p m (.slice aw zw.length cpw)) 26)).heap.size := by simp
  obtain ⟨w4, hnw⟩ : ∃ W, (w3.alloc (Obj.cells (F4 s p m (.slice aw zw.length cpw)) 26)) = W := ⟨_, rfl⟩
  rw [hnw] at z4 HB HKA HW HMW HKW ⊢
  clear hnw ba
  refine (toFabric_c s p m _ cs w4 (HH.out.below HB.out) HL.out).mono ?_
  rintro e w5 ⟨vx, rfl, ox, b⟩
  obtain ⟨ax, cx, hvx, -⟩ := own_form ox
  subst hvx
  have HX : Hid (OtH w4.heap.size w5.heap.size w5 (.slice ax cs.length cx) cs) := ox.toH
  clear ox
  have z5 : w4.heap.size ≤ w5.heap.size := b.size
  have HB' : Hid (Below w.heap.size w w5) := belowCall HB.out b HB.out.size
  have HKA' : Hid (Blk w5 w.heap.size (F4 s p m (.slice a ln cap)) 43) := HKA.out.below b HKA.out.lt
  have HW' : Hid (OtH w2.heap.size w3.heap.size w5 (.slice aw zw.length cpw) zw) := HW.out.below b
  have HMW' : Hid (OpH w2.heap.size w3.heap.size w5 mvw mw) := HMW.out.below b
  have HKW' : Hid (Blk w5 w3.heap.size (F4 s p m (.slice aw zw.length cpw)) 26) := HKW.out.below b HKW.out.lt
  clear HB HKA HW HMW HKW
  have HB := HB'
  have HKA := HKA'
  have HW := HW'
  have HMW := HMW'
  have HKW := HKW'
  clear HB' HKA' HW' HMW' HKW'
  clear b
  have cKA0 : w5.cell? ⟨w.heap.size, 0, none⟩ = some (.int .i64 s) := by have := HKA.out.cell 0; simpa using this
  have cKA1 : w5.cell? ⟨w.heap.size, 1, none⟩ = some (.int .i64 p) := by have := HKA.out.cell 1; simpa using this
  have cKA2 : w5.cell? ⟨w.heap.size, 2, none⟩ = some (.int .i64 m) := by have := HKA.out.cell 2; simpa using this
  have cKA3 : w5.cell? ⟨w.heap.size, 3, none⟩ = some (.slice a ln cap) := by have := HKA.out.cell 3; simpa using this
  have lKA : w.heap.size < w5.heap.size := HKA.out.lt
  have cKW0 : w5.cell? ⟨w3.heap.size, 0, none⟩ = some (.int .i64 s) := by have := HKW.out.cell 0; simpa using this
  have cKW1 : w5.cell? ⟨w3.heap.size, 1, none⟩ = some (.int .i64 p) := by have := HKW.out.cell 1; simpa using this
  have cKW2 : w5.cell? ⟨w3.heap.size, 2, none⟩ = some (.int .i64 m) := by have := HKW.out.cell 2; simpa using this
  have cKW3 : w5.cell? ⟨w3.heap.size, 3, none⟩ = some (.slice aw zw.length cpw) := by have := HKW.out.cell 3; simpa using this
  have lKW : w3.heap.size < w5.heap.size := HKW.out.lt
  go_wp2_with (fail)
  clear cKA0 cKA1 cKA2 cKA3 lKA cKW0 cKW1 cKW2 cKW3 lKW
  have ba : Below w5.heap.size w5 (w5.alloc (Obj.cells (F4 s p m (.slice ax cs.length cx)) 26)) := (Below.refl _ _).alloc (Nat.le_refl _) _
  have HB' : Hid (Below w.heap.size w (w5.alloc (Obj.cells (F4 s p m (.slice ax cs.length cx)) 26))) := belowCall HB.out ba HB.out.size
  have HKA' : Hid (Blk (w5.alloc (Obj.cells (F4 s p m (.slice ax cs.length cx)) 26)) w.heap.size (F4 s p m (.slice a ln cap)) 43) := HKA.out.below ba HKA.out.lt
  have HW' : Hid (OtH w2.heap.size w3.heap.size (w5.alloc (Obj.cells (F4 s p m (.slice ax cs.length cx)) 26)) (.slice aw zw.length cpw) zw) := HW.out.below ba
  have HMW' : Hid (OpH w2.heap.size w3.heap.size (w5.alloc (Obj.cells (F4 s p m (.slice ax cs.length cx)) 26)) mvw mw) := HMW.out.below ba
  have HKW' : Hid (Blk (w5.alloc (Obj.cells (F4 s p m (.slice ax cs.length cx)) 26)) w3.heap.size (F4 s p m (.slice aw zw.length cpw)) 26) := HKW.out.below ba HKW.out.lt
  have HX' : Hid (OtH w4.heap.size w5.heap.size (w5.alloc (Obj.cells (F4 s p m (.slice ax cs.length cx)) 26)) (.slice ax cs.length cx) cs) := HX.out.below ba
  clear HB HKA HW HMW HKW HX
  have HB := HB'
  have HKA := HKA'
  have HW := HW'
  have HMW := HMW'
  have HKW := HKW'
  have HX := HX'
  clear HB' HKA' HW' HMW' HKW' HX'
  have HKX : Hid (Blk (w5.alloc (Obj.cells (F4 s p m (.slice ax cs.length cx)) 26)) w5.heap.size (F4 s p m (.slice ax cs.length cx)) 26) := Blk.new _ _ _
  have z6 : w5.heap.size < (w5.alloc (Obj.cells (F4 s p m (.slice ax cs.length cx)) 26)).heap.size := by simp
  obtain ⟨w6, hnw⟩ : ∃ W, (w5.alloc (Obj.cells (F4 s p m (.slice ax cs.length cx)) 26)) = W := ⟨_, rfl⟩
  rw [hnw] at z6 HB HKA HW HMW HKW HX HKX ⊢
  clear hnw ba
  refine (conI_c s p m f t _ cs w6 HX.out.rd (HNP.out _ HB.out).1 (HNP.out _ HB.out).2 (by have := HL.out; omega)).mono ?_
  rintro e w7 ⟨vg, zg, mvg, mg', cg, rfl, hsg, og, omg, hneg', b⟩
  obtain ⟨ag, cpg, hvg, -⟩ := own_form og
  subst hvg
  obtain ⟨glo, ghi, mlo, mhi, tg1, tg2, tg3, tm1, tm2, tm3, tgm, htg, htm⟩ := tightCon og omg hneg' b.size
  have HG : Hid (OtH glo ghi w7 (.slice ag zg.length cpg) zg) := htg
  have HMG : Hid (OpH mlo mhi w7 mvg mg') := htm
  obtain ⟨rfl, rfl, rfl⟩ := ConS.same hsg HSW.out
  clear og hsg omg hneg' htg htm
  have z7 : w6.heap.size ≤ w7.heap.size := b.size
  have HB' : Hid (Below w.heap.size w w7) := belowCall HB.out b HB.out.size
  have HKA' : Hid (Blk w7 w.heap.size (F4 s p m (.slice a ln cap)) 43) := HKA.out.below b HKA.out.lt
  have HW' : Hid (OtH w2.heap.size w3.heap.size w7 (.slice aw zg.length cpw) zg) := HW.out.below b
  have HMW' : Hid (OpH w2.heap.size w3.heap.size w7 mvw mg') := HMW.out.below b
  have HKW' : Hid (Blk w7 w3.heap.size (F4 s p m (.slice aw zg.length cpw)) 26) := HKW.out.below b HKW.out.lt
  have HX' : Hid (OtH w4.heap.size w5.heap.size w7 (.slice ax cs.length cx) cs) := HX.out.below b
  have HKX' : Hid (Blk w7 w5.heap.size (F4 s p m (.slice ax cs.length cx)) 26) := HKX.out.below b HKX.out.lt
  clear HB HKA HW HMW HKW HX HKX
  have HB := HB'
  have HKA := HKA'
  have HW := HW'
  have HMW := HMW'
  have HKW := HKW'
  have HX := HX'
  have HKX := HKX'
  clear HB' HKA' HW' HMW' HKW' HX' HKX'
  clear b
  have hzl : zg.length ≤ 1048577 := Nat.le_trans HSW.out.len.1 (Nat.succ_le_succ HL.out)
  have hml : mg'.length ≤ 1048576 := Nat.le_trans HSW.out.len.2 HL.out
  have hcc : (cg != cg) = false := by simp
  have cKA0 : w7.cell? ⟨w.heap.size, 0, none⟩ = some (.int .i64 s) := by have := HKA.out.cell 0; simpa using this
  have cKA1 : w7.cell? ⟨w.heap.size, 1, none⟩ = some (.int .i64 p) := by have := HKA.out.cell 1; simpa using this
  have cKA2 : w7.cell? ⟨w.heap.size, 2, none⟩ = some (.int .i64 m) := by have := HKA.out.cell 2; simpa using this
  have cKA3 : w7.cell? ⟨w.heap.size, 3, none⟩ = some (.slice a ln cap) := by have := HKA.out.cell 3; simpa using this
  have lKA : w.heap.size < w7.heap.size := HKA.out.lt
  have cKW0 : w7.cell? ⟨w3.heap.size, 0, none⟩ = some (.int .i64 s) := by have := HKW.out.cell 0; simpa using this
  have cKW1 : w7.cell? ⟨w3.heap.size, 1, none⟩ = some (.int .i64 p) := by have := HKW.out.cell 1; simpa using this
  have cKW2 : w7.cell? ⟨w3.heap.size, 2, none⟩ = some (.int .i64 m) := by have := HKW.out.cell 2; simpa using this
  have cKW3 : w7.cell? ⟨w3.heap.size, 3, none⟩ = some (.slice aw zg.length cpw) := by have := HKW.out.cell 3; simpa using this
  have lKW : w3.heap.size < w7.heap.size := HKW.out.lt
  have cKX0 : w7.cell? ⟨w5.heap.size, 0, none⟩ = some (.int .i64 s) := by have := HKX.out.cell 0; simpa using this
  have cKX1 : w7.cell? ⟨w5.heap.size, 1, none⟩ = some (.int .i64 p) := by have := HKX.out.cell 1; simpa using this
  have cKX2 : w7.cell? ⟨w5.heap.size, 2, none⟩ = some (.int .i64 m) := by have := HKX.out.cell 2; simpa using this
  have cKX3 : w7.cell? ⟨w5.heap.size, 3, none⟩ = some (.slice ax cs.length cx) := by have := HKX.out.cell 3; simpa using this
  have lKX : w5.heap.size < w7.heap.size := HKX.out.lt
  go_wp2_with (fail)
  clear cKA0 cKA1 cKA2 cKA3 lKA cKW0 cKW1 cKW2 cKW3 lKW cKX0 cKX1 cKX2 cKX3 lKX
  have ba : Below w7.heap.size w7 (w7.alloc (Obj.cells (F4 s p m (.slice ag zg.length cpg)) 26)) := (Below.refl _ _).alloc (Nat.le_refl _) _
  have HB' : Hid (Below w.heap.size w (w7.alloc (Obj.cells (F4 s p m (.slice ag zg.length cpg)) 26))) := belowCall HB.out ba HB.out.size
  have HKA' : Hid (Blk (w7.alloc (Obj.cells (F4 s p m (.slice ag zg.length cpg)) 26)) w.heap.size (F4 s p m (.slice a ln cap)) 43) := HKA.out.below ba HKA.out.lt
  have HW' : Hid (OtH w2.heap.size w3.heap.size (w7.alloc (Obj.cells (F4 s p m (.slice ag zg.length cpg)) 26)) (.slice aw zg.length cpw) zg) := HW.out.below ba
  have HMW' : Hid (OpH w2.heap.size w3.heap.size (w7.alloc (Obj.cells (F4 s p m (.slice ag zg.length cpg)) 26)) mvw mg') := HMW.out.below ba
  have HKW' : Hid (Blk (w7.alloc (Obj.cells (F4 s p m (.slice ag zg.length cpg)) 26)) w3.heap.size (F4 s p m (.slice aw zg.length cpw)) 26) := HKW.out.below ba HKW.out.lt
  have HX' : Hid (OtH w4.heap.size w5.heap.size (w7.alloc (Obj.cells (F4 s p m (.slice ag zg.length cpg)) 26)) (.slice ax cs.length cx) cs) := HX.out.below ba
  have HKX' : Hid (Blk (w7.alloc (Obj.cells (F4 s p m (.slice ag zg.length cpg)) 26)) w5.heap.size (F4 s p m (.slice ax cs.length cx)) 26) := HKX.out.below ba HKX.out.lt
  have HG' : Hid (OtH glo ghi (w7.alloc (Obj.cells (F4 s p m (.slice ag zg.length cpg)) 26)) (.slice ag zg.length cpg) zg) := HG.out.below ba
  have HMG' : Hid (OpH mlo mhi (w7.alloc (Obj.cells (F4 s p m (.slice ag zg.length cpg)) 26)) mvg mg') := HMG.out.below ba
  clear HB HKA HW HMW HKW HX HKX HG HMG
  have HB := HB'
  have HKA := HKA'
  have HW := HW'
  have HMW := HMW'
  have HKW := HKW'
  have HX := HX'
  have HKX := HKX'
  have HG := HG'
  have HMG := HMG'
  clear HB' HKA' HW' HMW' HKW' HX' HKX' HG' HMG'
  have HKG : Hid (Blk (w7.alloc (Obj.cells (F4 s p m (.slice ag zg.length cpg)) 26)) w7.heap.size (F4 s p m (.slice ag zg.length cpg)) 26) := Blk.new _ _ _
  have z8 : w7.heap.size < (w7.alloc (Obj.cells (F4 s p m (.slice ag zg.length cpg)) 26)).heap.size := by simp
  obtain ⟨w8, hnw⟩ : ∃ W, (w7.alloc (Obj.cells (F4 s p m (.slice ag zg.length cpg)) 26)) = W := ⟨_, rfl⟩
  rw [hnw] at z8 HB HKA HW HMW HKW HX HKX HG HMG HKG ⊢
  clear hnw ba
  refine (eqFabric_c s p m s p m (.slice ag zg.length cpg) (.slice aw zg.length cpw) zg zg w8 HG.out.rd HW.out.rd).mono ?_
  rintro e w9 ⟨rfl, b⟩
  have hde : decide ((s, p, m, zg) = (s, p, m, zg)) = true := by simp
  rw [hde]
  clear hde
  have z9 : w8.heap.size ≤ w9.heap.size := b.size
  have HB' : Hid (Below w.heap.size w w9) := belowCall HB.out b HB.out.size
  have HKA' : Hid (Blk w9 w.heap.size (F4 s p m (.slice a ln cap)) 43) := HKA.out.below b HKA.out.lt
  have HW' : Hid (OtH w2.heap.size w3.heap.size w9 (.slice aw zg.length cpw) zg) := HW.out.below b
  have HMW' : Hid (OpH w2.heap.size w3.heap.size w9 mvw mg') := HMW.out.below b
  have HKW' : Hid (Blk w9 w3.heap.size (F4 s p m (.slice aw zg.length cpw)) 26) := HKW.out.below b HKW.out.lt
  have HX' : Hid (OtH w4.heap.size w5.heap.size w9 (.slice ax cs.length cx) cs) := HX.out.below b
  have HKX' : Hid (Blk w9 w5.heap.size (F4 s p m (.slice ax cs.length cx)) 26) := HKX.out.below b HKX.out.lt
  have HG' : Hid (OtH glo ghi w9 (.slice ag zg.length cpg) zg) := HG.out.below b
  have HMG' : Hid (OpH mlo mhi w9 mvg mg') := HMG.out.below b
  have HKG' : Hid (Blk w9 w7.heap.size (F4 s p m (.slice ag zg.length cpg)) 26) := HKG.out.below b HKG.out.lt
  clear HB HKA HW HMW HKW HX HKX HG HMG HKG
  have HB := HB'
  have HKA := HKA'
  have HW := HW'
  have HMW := HMW'
  have HKW := HKW'
  have HX := HX'
  have HKX := HKX'
  have HG := HG'
  have HMG := HMG'
  have HKG := HKG'
  clear HB' HKA' HW' HMW' HKW' HX' HKX' HG' HMG' HKG'
  clear b
  have cKA0 : w9.cell? ⟨w.heap.size, 0, none⟩ = some (.int .i64 s) := by have := HKA.out.cell 0; simpa using this
  have cKA1 : w9.cell? ⟨w.heap.size, 1, none⟩ = some (.int .i64 p) := by have := HKA.out.cell 1; simpa using this
  have cKA2 : w9.cell? ⟨w.heap.size, 2, none⟩ = some (.int .i64 m) := by have := HKA.out.cell 2; simpa using this
  have cKA3 : w9.cell? ⟨w.heap.size, 3, none⟩ = some (.slice a ln cap) := by have := HKA.out.cell 3; simpa using this
  have lKA : w.heap.size < w9.heap.size := HKA.out.lt
  have cKW0 : w9.cell? ⟨w3.heap.size, 0, none⟩ = some (.int .i64 s) := by have := HKW.out.cell 0; simpa using this
  have cKW1 : w9.cell? ⟨w3.heap.size, 1, none⟩ = some (.int .i64 p) := by have := HKW.out.cell 1; simpa using this
  have cKW2 : w9.cell? ⟨w3.heap.size, 2, none⟩ = some (.int .i64 m) := by have := HKW.out.cell 2; simpa using this
  have cKW3 : w9.cell? ⟨w3.heap.size, 3, none⟩ = some (.slice aw zg.length cpw) := by have := HKW.out.cell 3; simpa using this
  have lKW : w3.heap.size < w9.heap.size := HKW.out.lt
  have cKX0 : w9.cell? ⟨w5.heap.size, 0, none⟩ = some (.int .i64 s) := by have := HKX.out.cell 0; simpa using this
  have cKX1 : w9.cell? ⟨w5.heap.size, 1, none⟩ = some (.int .i64 p) := by have := HKX.out.cell 1; simpa using this
  have cKX2 : w9.cell? ⟨w5.heap.size, 2, none⟩ = some (.int .i64 m) := by have := HKX.out.cell 2; simpa using this
  have cKX3 : w9.cell? ⟨w5.heap.size, 3, none⟩ = some (.slice ax cs.length cx) := by have := HKX.out.cell 3; simpa using this
  have lKX : w5.heap.size < w9.heap.size := HKX.out.lt
  have cKG0 : w9.cell? ⟨w7.heap.size, 0, none⟩ = some (.int .i64 s) := by have := HKG.out.cell 0; simpa using this
  have cKG1 : w9.cell? ⟨w7.heap.size, 1, none⟩ = some (.int .i64 p) := by have := HKG.out.cell 1; simpa using this
  have cKG2 : w9.cell? ⟨w7.heap.size, 2, none⟩ = some (.int .i64 m) := by have := HKG.out.cell 2; simpa using this
  have cKG3 : w9.cell? ⟨w7.heap.size, 3, none⟩ = some (.slice ag zg.length cpg) := by have := HKG.out.cell 3; simpa using this
  have lKG : w7.heap.size < w9.heap.size := HKG.out.lt
  go_wp2_with (fail)
  refine (eqMoveS_c mvg mvw mg' mg' w9 HMG.out.rd HMW.out.rd).mono ?_
  rintro e w10 ⟨rfl, b⟩
  have hde : decide (mg' = mg') = true := by simp
  rw [hde]
  clear hde
  clear cKA0 cKA1 cKA2 cKA3 lKA cKW0 cKW1 cKW2 cKW3 lKW cKX0 cKX1 cKX2 cKX3 lKX cKG0 cKG1 cKG2 cKG3 lKG
  have z10 : w9.heap.size ≤ w10.heap.size := b.size
  have HB' : Hid (Below w.heap.size w w10) := belowCall HB.out b HB.out.size
  have HKA' : Hid (Blk w10 w.heap.size (F4 s p m (.slice a ln cap)) 43) := HKA.out.below b HKA.out.lt
  have HW' : Hid (OtH w2.heap.size w3.heap.size w10 (.slice aw zg.length cpw) zg) := HW.out.below b
  have HMW' : Hid (OpH w2.heap.size w3.heap.size w10 mvw mg') := HMW.out.below b
  have HKW' : Hid (Blk w10 w3.heap.size (F4 s p m (.slice aw zg.length cpw)) 26) := HKW.out.below b HKW.out.lt
  have HX' : Hid (OtH w4.heap.size w5.heap.size w10 (.slice ax cs.length cx) cs) := HX.out.below b
  have HKX' : Hid (Blk w10 w5.heap.size (F4 s p m (.slice ax cs.length cx)) 26) := HKX.out.below b HKX.out.lt
  have HG' : Hid (OtH glo ghi w10 (.slice ag zg.length cpg) zg) := HG.out.below b
  have HMG' : Hid (OpH mlo mhi w10 mvg mg') := HMG.out.below b
  have HKG' : Hid (Blk w10 w7.heap.size (F4 s p m (.slice ag zg.length cpg)) 26) := HKG.out.below b HKG.out.lt
  clear HB HKA HW HMW HKW HX HKX HG HMG HKG
  have HB := HB'
  have HKA := HKA'
  have HW := HW'
  have HMW := HMW'
  have HKW := HKW'
  have HX := HX'
  have HKX := HKX'
  have HG := HG'
  have HMG := HMG'
  have HKG := HKG'
  clear HB' HKA' HW' HMW' HKW' HX' HKX' HG' HMG' HKG'
  clear b
  have cKA0 : w10.cell? ⟨w.heap.size, 0, none⟩ = some (.int .i64 s) := by have := HKA.out.cell 0; simpa using this
  have cKA1 : w10.cell? ⟨w.heap.size, 1, none⟩ = some (.int .i64 p) := by have := HKA.out.cell 1; simpa using this
  have cKA2 : w10.cell? ⟨w.heap.size, 2, none⟩ = some (.int .i64 m) := by have := HKA.out.cell 2; simpa using this
  have cKA3 : w10.cell? ⟨w.heap.size, 3, none⟩ = some (.slice a ln cap) := by have := HKA.out.cell 3; simpa using this
  have lKA : w.heap.size < w10.heap.size := HKA.out.lt
  have cKW0 : w10.cell? ⟨w3.heap.size, 0, none⟩ = some (.int .i64 s) := by have := HKW.out.cell 0; simpa using this
  have cKW1 : w10.cell? ⟨w3.heap.size, 1, none⟩ = some (.int .i64 p) := by have := HKW.out.cell 1; simpa using this
  have cKW2 : w10.cell? ⟨w3.heap.size, 2, none⟩ = some (.int .i64 m) := by have := HKW.out.cell 2; simpa using this
  have cKW3 : w10.cell? ⟨w3.heap.size, 3, none⟩ = some (.slice aw zg.length cpw) := by have := HKW.out.cell 3; simpa using this
  have lKW : w3.heap.size < w10.heap.size := HKW.out.lt
  have cKX0 : w10.cell? ⟨w5.heap.size, 0, none⟩ = some (.int .i64 s) := by have := HKX.out.cell 0; simpa using this
  have cKX1 : w10.cell? ⟨w5.heap.size, 1, none⟩ = some (.int .i64 p) := by have := HKX.out.cell 1; simpa using this
  have cKX2 : w10.cell? ⟨w5.heap.size, 2, none⟩ = some (.int .i64 m) := by have := HKX.out.cell 2; simpa using this
  have cKX3 : w10.cell? ⟨w5.heap.size, 3, none⟩ = some (.slice ax cs.length cx) := by have := HKX.out.cell 3; simpa using this
  have lKX : w5.heap.size < w10.heap.size := HKX.out.lt
  have cKG0 : w10.cell? ⟨w7.heap.size, 0, none⟩ = some (.int .i64 s) := by have := HKG.out.cell 0; simpa using this
  have cKG1 : w10.cell? ⟨w7.heap.size, 1, none⟩ = some (.int .i64 p) := by have := HKG.out.cell 1; simpa using this
  have cKG2 : w10.cell? ⟨w7.heap.size, 2, none⟩ = some (.int .i64 m) := by have := HKG.out.cell 2; simpa using this
  have cKG3 : w10.cell? ⟨w7.heap.size, 3, none⟩ = some (.slice ag zg.length cpg) := by have := HKG.out.cell 3; simpa using this
  have lKG : w7.heap.size < w10.heap.size := HKG.out.lt
  go_wp2
  obtain ⟨S, hS⟩ : ∃ S : World → Prop, ∀ W, S W ↔ Below w10.heap.size w10 W := ⟨_, fun _ => Iff.rfl⟩
  have y0 : ∀ W : At S, W.wd.cell? ⟨w.heap.size, 0, none⟩ = some (.int .i64 s) := fun W => (((hS _).1 W.ok).cell HKA.out.lt).trans cKA0
  have x0 : ∀ W : At S, W.wd.cell? ⟨w5.heap.size, 0, none⟩ = some (.int .i64 s) := fun W => (((hS _).1 W.ok).cell HKX.out.lt).trans cKX0
  have y1 : ∀ W : At S, W.wd.cell? ⟨w.heap.size, 1, none⟩ = some (.int .i64 p) := fun W => (((hS _).1 W.ok).cell HKA.out.lt).trans cKA1
  have x1 : ∀ W : At S, W.wd.cell? ⟨w5.heap.size, 1, none⟩ = some (.int .i64 p) := fun W => (((hS _).1 W.ok).cell HKX.out.lt).trans cKX1
  have y2 : ∀ W : At S, W.wd.cell? ⟨w.heap.size, 2, none⟩ = some (.int .i64 m) := fun W => (((hS _).1 W.ok).cell HKA.out.lt).trans cKA2
  have x2 : ∀ W : At S, W.wd.cell? ⟨w5.heap.size, 2, none⟩ = some (.int .i64 m) := fun W => (((hS _).1 W.ok).cell HKX.out.lt).trans cKX2
  have y3 : ∀ W : At S, W.wd.cell? ⟨w.heap.size, 3, none⟩ = some (.slice a ln cap) := fun W => (((hS _).1 W.ok).cell HKA.out.lt).trans cKA3
  have x3 : ∀ W : At S, W.wd.cell? ⟨w5.heap.size, 3, none⟩ = some (.slice ax cs.length cx) := fun W => (((hS _).1 W.ok).cell HKX.out.lt).trans cKX3
  have HS : Hid (∀ W, S W ↔ Below w10.heap.size w10 W) := hS
  have ne : Nonempty (At S) := ⟨⟨w10, (hS _).2 (Below.refl _ _)⟩⟩
  clear hS
  refine region_mixA [true, true, false, false, false] 5 3 S (by kernel_rfl) rfl (by kernel_rfl) (fun _ _ _ _ _ h => h) ((HS.out _).2 (Below.refl _ _).drew) ?_
  simp only [selT, selF]
  repeat (go_big_quiet_step (fail))
  refine wpQuiet_nil ?_
  refine tail_step ?_
  clear cKA0 cKA1 cKA2 cKA3 lKA cKW0 cKW1 cKW2 cKW3 lKW cKX0 cKX1 cKX2 cKX3 lKX cKG0 cKG1 cKG2 cKG3 lKG
  clear y0 y1 y2 y3 x0 x1 x2 x3 ne
  go_wp2_with (fail)
  refine (toFabric_c s p m _ cs w10.drew (HH.out.below HB.out.drew) HL.out).mono ?_
  rintro e w11 ⟨vr, rfl, orr, b⟩
  have b' : Below w10.heap.size w10 w11 := (Below.refl _ _).drew.trans b
  have HB7 : Hid (Below w10.heap.size w10 w11) := b'
  have HOR : Hid (Rt w11 vr cs) := orr.rd
  clear orr b
  have z11 : w10.heap.size ≤ w11.heap.size := b'.size
  have HB' : Hid (Below w.heap.size w w11) := belowCall HB.out b' HB.out.size
  have HKA' : Hid (Blk w11 w.heap.size (F4 s p m (.slice a ln cap)) 43) := HKA.out.below b' HKA.out.lt
  have HW' : Hid (OtH w2.heap.size w3.heap.size w11 (.slice aw zg.length cpw) zg) := HW.out.below b'
  have HMW' : Hid (OpH w2.heap.size w3.heap.size w11 mvw mg') := HMW.out.below b'
  have HKW' : Hid (Blk w11 w3.heap.size (F4 s p m (.slice aw zg.length cpw)) 26) := HKW.out.below b' HKW.out.lt
  have HX' : Hid (OtH w4.heap.size w5.heap.size w11 (.slice ax cs.length cx) cs) := HX.out.below b'
  have HKX' : Hid (Blk w11 w5.heap.size (F4 s p m (.slice ax cs.length cx)) 26) := HKX.out.below b' HKX.out.lt
  have HG' : Hid (OtH glo ghi w11 (.slice ag zg.length cpg) zg) := HG.out.below b'
  have HMG' : Hid (OpH mlo mhi w11 mvg mg') := HMG.out.below b'
  have HKG' : Hid (Blk w11 w7.heap.size (F4 s p m (.slice ag zg.length cpg)) 26) := HKG.out.below b' HKG.out.lt
  clear HB HKA HW HMW HKW HX HKX HG HMG HKG
  have HB := HB'
  have HKA := HKA'
  have HW := HW'
  have HMW := HMW'
  have HKW := HKW'
  have HX := HX'
  have HKX := HKX'
  have HG := HG'
  have HMG := HMG'
  have HKG := HKG'
  clear HB' HKA' HW' HMW' HKW' HX' HKX' HG' HMG' HKG'
  clear b'
  go_wp2
  refine ⟨(HS.out _).2 HB7.out, tail_step ?_⟩
  go_wp2_with (fail)
  refine (eqFabric_c s p m s p m _ _ cs cs w11 HX.out.rd HOR.out).mono ?_
  rintro e w12 ⟨rfl, b⟩
  have hde : decide ((s, p, m, cs) = (s, p, m, cs)) = true := by simp
  rw [hde]
  have HB8 : Hid (Below w10.heap.size w10 w12) := belowCall HB7.out b HB7.out.size
  clear hde HOR
  have z12 : w11.heap.size ≤ w12.heap.size := b.size
  have HB' : Hid (Below w.heap.size w w12) := belowCall HB.out b HB.out.size
  have HKA' : Hid (Blk w12 w.heap.size (F4 s p m (.slice a ln cap)) 43) := HKA.out.below b HKA.out.lt
  have HW' : Hid (OtH w2.heap.size w3.heap.size w12 (.slice aw zg.length cpw) zg) := HW.out.below b
  have HMW' : Hid (OpH w2.heap.size w3.heap.size w12 mvw mg') := HMW.out.below b
  have HKW' : Hid (Blk w12 w3.heap.size (F4 s p m (.slice aw zg.length cpw)) 26) := HKW.out.below b HKW.out.lt
  have HX' : Hid (OtH w4.heap.size w5.heap.size w12 (.slice ax cs.length cx) cs) := HX.out.below b
  have HKX' : Hid (Blk w12 w5.heap.size (F4 s p m (.slice ax cs.length cx)) 26) := HKX.out.below b HKX.out.lt
  have HG' : Hid (OtH glo ghi w12 (.slice ag zg.length cpg) zg) := HG.out.below b
  have HMG' : Hid (OpH mlo mhi w12 mvg mg') := HMG.out.below b
  have HKG' : Hid (Blk w12 w7.heap.size (F4 s p m (.slice ag zg.length cpg)) 26) := HKG.out.below b HKG.out.lt
  clear HB HKA HW HMW HKW HX HKX HG HMG HKG
  have HB := HB'
  have HKA := HKA'
  have HW := HW'
  have HMW := HMW'
  have HKW := HKW'
  have HX := HX'
  have HKX := HKX'
  have HG := HG'
  have HMG := HMG'
  have HKG := HKG'
  clear HB' HKA' HW' HMW' HKW' HX' HKX' HG' HMG' HKG'
  clear b
  go_wp2
  refine ⟨(HS.out _).2 HB8.out, tail_step ?_⟩
  go_wp2
  refine ⟨(HS.out _).2 HB8.out, tail_end ?_⟩
  clear HB7 HB8 HS S
  have hcl : cs.length ≤ 1048576 := HL.out
  have cKA0 : w12.cell? ⟨w.heap.size, 0, none⟩ = some (.int .i64 s) := by have := HKA.out.cell 0; simpa using this
  have cKA1 : w12.cell? ⟨w.heap.size, 1, none⟩ = some (.int .i64 p) := by have := HKA.out.cell 1; simpa using this
  have cKA2 : w12.cell? ⟨w.heap.size, 2, none⟩ = some (.int .i64 m) := by have := HKA.out.cell 2; simpa using this
  have cKA3 : w12.cell? ⟨w.heap.size, 3, none⟩ = some (.slice a ln cap) := by have := HKA.out.cell 3; simpa using this
  have lKA : w.heap.size < w12.heap.size := HKA.out.lt
  have cKW0 : w12.cell? ⟨w3.heap.size, 0, none⟩ = some (.int .i64 s) := by have := HKW.out.cell 0; simpa using this
  have cKW1 : w12.cell? ⟨w3.heap.size, 1, none⟩ = some (.int .i64 p) := by have := HKW.out.cell 1; simpa using this
  have cKW2 : w12.cell? ⟨w3.heap.size, 2, none⟩ = some (.int .i64 m) := by have := HKW.out.cell 2; simpa using this
  have cKW3 : w12.cell? ⟨w3.heap.size, 3, none⟩ = some (.slice aw zg.length cpw) := by have := HKW.out.cell 3; simpa using this
  have lKW : w3.heap.size < w12.heap.size := HKW.out.lt
  have cKX0 : w12.cell? ⟨w5.heap.size, 0, none⟩ = some (.int .i64 s) := by have := HKX.out.cell 0; simpa using this
  have cKX1 : w12.cell? ⟨w5.heap.size, 1, none⟩ = some (.int .i64 p) := by have := HKX.out.cell 1; simpa using this
  have cKX2 : w12.cell? ⟨w5.heap.size, 2, none⟩ = some (.int .i64 m) := by have := HKX.out.cell 2; simpa using this
  have cKX3 : w12.cell? ⟨w5.heap.size, 3, none⟩ = some (.slice ax cs.length cx) := by have := HKX.out.cell 3; simpa using this
  have lKX : w5.heap.size < w12.heap.size := HKX.out.lt
  have cKG0 : w12.cell? ⟨w7.heap.size, 0, none⟩ = some (.int .i64 s) := by have := HKG.out.cell 0; simpa using this
  have cKG1 : w12.cell? ⟨w7.heap.size, 1, none⟩ = some (.int .i64 p) := by have := HKG.out.cell 1; simpa using this
  have cKG2 : w12.cell? ⟨w7.heap.size, 2, none⟩ = some (.int .i64 m) := by have := HKG.out.cell 2; simpa using this
  have cKG3 : w12.cell? ⟨w7.heap.size, 3, none⟩ = some (.slice ag zg.length cpg) := by have := HKG.out.cell 3; simpa using this
  have lKG : w7.heap.size < w12.heap.size := HKG.out.lt
  go_wp2_with (fail)
  refine (markFabric_c s p m _ cs 1 w4.heap.size w5.heap.size w12 HX.out (by decide) (by omega)).mono ?_
  rintro e w13 ⟨rfl, -, mm⟩
  clear HX
  clear cKA0 cKA1 cKA2 cKA3 lKA cKW0 cKW1 cKW2 cKW3 lKW cKX0 cKX1 cKX2 cKX3 lKX cKG0 cKG1 cKG2 cKG3 lKG
  have z13 : w12.heap.size ≤ w13.heap.size := mm.size
  have HB' : Hid (Below w.heap.size w w13) := HB.out.trans ((mm.below (by omega)).mono (by omega))
  have HKA' : Hid (Blk w13 w.heap.size (F4 s p m (.slice a ln cap)) 43) := HKA.out.mid mm (by omega)
  have HW' : Hid (OtH w2.heap.size w3.heap.size w13 (.slice aw zg.length cpw) zg) := HW.out.mid mm (by omega)
  have HMW' : Hid (OpH w2.heap.size w3.heap.size w13 mvw mg') := HMW.out.mid mm (by omega)
  have HKW' : Hid (Blk w13 w3.heap.size (F4 s p m (.slice aw zg.length cpw)) 26) := HKW.out.mid mm (by omega)
  have HKX' : Hid (Blk w13 w5.heap.size (F4 s p m (.slice ax cs.length cx)) 26) := HKX.out.mid mm (by omega)
  have HG' : Hid (OtH glo ghi w13 (.slice ag zg.length cpg) zg) := HG.out.mid mm (by omega)
  have HMG' : Hid (OpH mlo mhi w13 mvg mg') := HMG.out.mid mm (by omega)
  have HKG' : Hid (Blk w13 w7.heap.size (F4 s p m (.slice ag zg.length cpg)) 26) := HKG.out.mid mm (by omega)
  clear HB HKA HW HMW HKW HKX HG HMG HKG
  have HB := HB'
  have HKA := HKA'
  have HW := HW'
  have HMW := HMW'
  have HKW := HKW'
  have HKX := HKX'
  have HG := HG'
  have HMG := HMG'
  have HKG := HKG'
  clear HB' HKA' HW' HMW' HKW' HKX' HG' HMG' HKG'
  clear mm
  have hn1 : ((1 : Int) + 3 * (cs.length : Int) < 0) = False := by simp; omega
  have hn2 : ¬ ((1 : Int) + 3 * (cs.length : Int) < 0) := by omega
  have cKA0 : w13.cell? ⟨w.heap.size, 0, none⟩ = some (.int .i64 s) := by have := HKA.out.cell 0; simpa using this
  have cKA1 : w13.cell? ⟨w.heap.size, 1, none⟩ = some (.int .i64 p) := by have := HKA.out.cell 1; simpa using this
  have cKA2 : w13.cell? ⟨w.heap.size, 2, none⟩ = some (.int .i64 m) := by have := HKA.out.cell 2; simpa using this
  have cKA3 : w13.cell? ⟨w.heap.size, 3, none⟩ = some (.slice a ln cap) := by have := HKA.out.cell 3; simpa using this
  have lKA : w.heap.size < w13.heap.size := HKA.out.lt
  have cKW0 : w13.cell? ⟨w3.heap.size, 0, none⟩ = some (.int .i64 s) := by have := HKW.out.cell 0; simpa using this
  have cKW1 : w13.cell? ⟨w3.heap.size, 1, none⟩ = some (.int .i64 p) := by have := HKW.out.cell 1; simpa using this
  have cKW2 : w13.cell? ⟨w3.heap.size, 2, none⟩ = some (.int .i64 m) := by have := HKW.out.cell 2; simpa using this
  have cKW3 : w13.cell? ⟨w3.heap.size, 3, none⟩ = some (.slice aw zg.length cpw) := by have := HKW.out.cell 3; simpa using this
  have lKW : w3.heap.size < w13.heap.size := HKW.out.lt
  have cKX0 : w13.cell? ⟨w5.heap.size, 0, none⟩ = some (.int .i64 s) := by have := HKX.out.cell 0; simpa using this
  have cKX1 : w13.cell? ⟨w5.heap.size, 1, none⟩ = some (.int .i64 p) := by have := HKX.out.cell 1; simpa using this
  have cKX2 : w13.cell? ⟨w5.heap.size, 2, none⟩ = some (.int .i64 m) := by have := HKX.out.cell 2; simpa using this
  have cKX3 : w13.cell? ⟨w5.heap.size, 3, none⟩ = some (.slice ax cs.length cx) := by have := HKX.out.cell 3; simpa using this
  have lKX : w5.heap.size < w13.heap.size := HKX.out.lt
  have cKG0 : w13.cell? ⟨w7.heap.size, 0, none⟩ = some (.int .i64 s) := by have := HKG.out.cell 0; simpa using this
  have cKG1 : w13.cell? ⟨w7.heap.size, 1, none⟩ = some (.int .i64 p) := by have := HKG.out.cell 1; simpa using this
  have cKG2 : w13.cell? ⟨w7.heap.size, 2, none⟩ = some (.int .i64 m) := by have := HKG.out.cell 2; simpa using this
  have cKG3 : w13.cell? ⟨w7.heap.size, 3, none⟩ = some (.slice ag zg.length cpg) := by have := HKG.out.cell 3; simpa using this
  have lKG : w7.heap.size < w13.heap.size := HKG.out.lt
  go_wp2_with (fail)
  refine (eqFabric_c s p m s p m (.slice ag zg.length cpg) (.slice aw zg.length cpw) zg zg w13 HG.out.rd HW.out.rd).mono ?_
  rintro e w14 ⟨rfl, b⟩
  have hde : decide ((s, p, m, zg) = (s, p, m, zg)) = true := by simp
  rw [hde]
  clear hde
  clear cKA0 cKA1 cKA2 cKA3 lKA cKW0 cKW1 cKW2 cKW3 lKW cKX0 cKX1 cKX2 cKX3 lKX cKG0 cKG1 cKG2 cKG3 lKG
  have z14 : w13.heap.size ≤ w14.heap.size := b.size
  have HB' : Hid (Below w.heap.size w w14) := belowCall HB.out b HB.out.size
  have HKA' : Hid (Blk w14 w.heap.size (F4 s p m (.slice a ln cap)) 43) := HKA.out.below b HKA.out.lt
  have HW' : Hid (OtH w2.heap.size w3.heap.size w14 (.slice aw zg.length cpw) zg) := HW.out.below b
  have HMW' : Hid (OpH w2.heap.size w3.heap.size w14 mvw mg') := HMW.out.below b
  have HKW' : Hid (Blk w14 w3.heap.size (F4 s p m (.slice aw zg.length cpw)) 26) := HKW.out.below b HKW.out.lt
  have HKX' : Hid (Blk w14 w5.heap.size (F4 s p m (.slice ax cs.length cx)) 26) := HKX.out.below b HKX.out.lt
  have HG' : Hid (OtH glo ghi w14 (.slice ag zg.length cpg) zg) := HG.out.below b
  have HMG' : Hid (OpH mlo mhi w14 mvg mg') := HMG.out.below b
  have HKG' : Hid (Blk w14 w7.heap.size (F4 s p m (.slice ag zg.length cpg)) 26) := HKG.out.below b HKG.out.lt
  clear HB HKA HW HMW HKW HKX HG HMG HKG
  have HB := HB'
  have HKA := HKA'
  have HW := HW'
  have HMW := HMW'
  have HKW := HKW'
  have HKX := HKX'
  have HG := HG'
  have HMG := HMG'
  have HKG := HKG'
  clear HB' HKA' HW' HMW' HKW' HKX' HG' HMG' HKG'
  clear b
  have cKA0 : w14.cell? ⟨w.heap.size, 0, none⟩ = some (.int .i64 s) := by have := HKA.out.cell 0; simpa using this
  have cKA1 : w14.cell? ⟨w.heap.size, 1, none⟩ = some (.int .i64 p) := by have := HKA.out.cell 1; simpa using this
  have cKA2 : w14.cell? ⟨w.heap.size, 2, none⟩ = some (.int .i64 m) := by have := HKA.out.cell 2; simpa using this
  have cKA3 : w14.cell? ⟨w.heap.size, 3, none⟩ = some (.slice a ln cap) := by have := HKA.out.cell 3; simpa using this
  have lKA : w.heap.size < w14.heap.size := HKA.out.lt
  have cKW0 : w14.cell? ⟨w3.heap.size, 0, none⟩ = some (.int .i64 s) := by have := HKW.out.cell 0; simpa using this
  have cKW1 : w14.cell? ⟨w3.heap.size, 1, none⟩ = some (.int .i64 p) := by have := HKW.out.cell 1; simpa using this
  have cKW2 : w14.cell? ⟨w3.heap.size, 2, none⟩ = some (.int .i64 m) := by have := HKW.out.cell 2; simpa using this
  have cKW3 : w14.cell? ⟨w3.heap.size, 3, none⟩ = some (.slice aw zg.length cpw) := by have := HKW.out.cell 3; simpa using this
  have lKW : w3.heap.size < w14.heap.size := HKW.out.lt
  have cKX0 : w14.cell? ⟨w5.heap.size, 0, none⟩ = some (.int .i64 s) := by have := HKX.out.cell 0; simpa using this
  have cKX1 : w14.cell? ⟨w5.heap.size, 1, none⟩ = some (.int .i64 p) := by have := HKX.out.cell 1; simpa using this
  have cKX2 : w14.cell? ⟨w5.heap.size, 2, none⟩ = some (.int .i64 m) := by have := HKX.out.cell 2; simpa using this
  have cKX3 : w14.cell? ⟨w5.heap.size, 3, none⟩ = some (.slice ax cs.length cx) := by have := HKX.out.cell 3; simpa using this
  have lKX : w5.heap.size < w14.heap.size := HKX.out.lt
  have cKG0 : w14.cell? ⟨w7.heap.size, 0, none⟩ = some (.int .i64 s) := by have := HKG.out.cell 0; simpa using this
  have cKG1 : w14.cell? ⟨w7.heap.size, 1, none⟩ = some (.int .i64 p) := by have := HKG.out.cell 1; simpa using this
  have cKG2 : w14.cell? ⟨w7.heap.size, 2, none⟩ = some (.int .i64 m) := by have := HKG.out.cell 2; simpa using this
  have cKG3 : w14.cell? ⟨w7.heap.size, 3, none⟩ = some (.slice ag zg.length cpg) := by have := HKG.out.cell 3; simpa using this
  have lKG : w7.heap.size < w14.heap.size := HKG.out.lt
  go_wp2_with (fail)
  refine (eqMoveS_c mvg mvw mg' mg' w14 HMG.out.rd HMW.out.rd).mono ?_
  rintro e w15 ⟨rfl, b⟩
  have hde : decide (mg' = mg') = true := by simp
  rw [hde]
  clear hde
  clear cKA0 cKA1 cKA2 cKA3 lKA cKW0 cKW1 cKW2 cKW3 lKW cKX0 cKX1 cKX2 cKX3 lKX cKG0 cKG1 cKG2 cKG3 lKG
  have z15 : w14.heap.size ≤ w15.heap.size := b.size
  have HB' : Hid (Below w.heap.size w w15) := belowCall HB.out b HB.out.size
  have HKA' : Hid (Blk w15 w.heap.size (F4 s p m (.slice a ln cap)) 43) := HKA.out.below b HKA.out.lt
  have HW' : Hid (OtH w2.heap.size w3.heap.size w15 (.slice aw zg.length cpw) zg) := HW.out.below b
  have HMW' : Hid (OpH w2.heap.size w3.heap.size w15 mvw mg') := HMW.out.below b
  have HKW' : Hid (Blk w15 w3.heap.size (F4 s p m (.slice aw zg.length cpw)) 26) := HKW.out.below b HKW.out.lt
  have HKX' : Hid (Blk w15 w5.heap.size (F4 s p m (.slice ax cs.length cx)) 26) := HKX.out.below b HKX.out.lt
  have HG' : Hid (OtH glo ghi w15 (.slice ag zg.length cpg) zg) := HG.out.below b
  have HMG' : Hid (OpH mlo mhi w15 mvg mg') := HMG.out.below b
  have HKG' : Hid (Blk w15 w7.heap.size (F4 s p m (.slice ag zg.length cpg)) 26) := HKG.out.below b HKG.out.lt
  clear HB HKA HW HMW HKW HKX HG HMG HKG
  have HB := HB'
  have HKA := HKA'
  have HW := HW'
  have HMW := HMW'
  have HKW := HKW'
  have HKX := HKX'
  have HG := HG'
  have HMG := HMG'
  have HKG := HKG'
  clear HB' HKA' HW' HMW' HKW' HKX' HG' HMG' HKG'
  clear b
  have cKA0 : w15.cell? ⟨w.heap.size, 0, none⟩ = some (.int .i64 s) := by have := HKA.out.cell 0; simpa using this
  have cKA1 : w15.cell? ⟨w.heap.size, 1, none⟩ = some (.int .i64 p) := by have := HKA.out.cell 1; simpa using this
  have cKA2 : w15.cell? ⟨w.heap.size, 2, none⟩ = some (.int .i64 m) := by have := HKA.out.cell 2; simpa using this
  have cKA3 : w15.cell? ⟨w.heap.size, 3, none⟩ = some (.slice a ln cap) := by have := HKA.out.cell 3; simpa using this
  have lKA : w.heap.size < w15.heap.size := HKA.out.lt
  have cKW0 : w15.cell? ⟨w3.heap.size, 0, none⟩ = some (.int .i64 s) := by have := HKW.out.cell 0; simpa using this
  have cKW1 : w15.cell? ⟨w3.heap.size, 1, none⟩ = some (.int .i64 p) := by have := HKW.out.cell 1; simpa using this
  have cKW2 : w15.cell? ⟨w3.heap.size, 2, none⟩ = some (.int .i64 m) := by have := HKW.out.cell 2; simpa using this
  have cKW3 : w15.cell? ⟨w3.heap.size, 3, none⟩ = some (.slice aw zg.length cpw) := by have := HKW.out.cell 3; simpa using this
  have lKW : w3.heap.size < w15.heap.size := HKW.out.lt
  have cKX0 : w15.cell? ⟨w5.heap.size, 0, none⟩ = some (.int .i64 s) := by have := HKX.out.cell 0; simpa using this
  have cKX1 : w15.cell? ⟨w5.heap.size, 1, none⟩ = some (.int .i64 p) := by have := HKX.out.cell 1; simpa using this
  have cKX2 : w15.cell? ⟨w5.heap.size, 2, none⟩ = some (.int .i64 m) := by have := HKX.out.cell 2; simpa using this
  have cKX3 : w15.cell? ⟨w5.heap.size, 3, none⟩ = some (.slice ax cs.length cx) := by have := HKX.out.cell 3; simpa using this
  have lKX : w5.heap.size < w15.heap.size := HKX.out.lt
  have cKG0 : w15.cell? ⟨w7.heap.size, 0, none⟩ = some (.int .i64 s) := by have := HKG.out.cell 0; simpa using this
  have cKG1 : w15.cell? ⟨w7.heap.size, 1, none⟩ = some (.int .i64 p) := by have := HKG.out.cell 1; simpa using this
  have cKG2 : w15.cell? ⟨w7.heap.size, 2, none⟩ = some (.int .i64 m) := by have := HKG.out.cell 2; simpa using this
  have cKG3 : w15.cell? ⟨w7.heap.size, 3, none⟩ = some (.slice ag zg.length cpg) := by have := HKG.out.cell 3; simpa using this
  have lKG : w7.heap.size < w15.heap.size := HKG.out.lt
  go_wp2_with (fail)
  refine (markFabric_c s p m _ zg 1 glo ghi w15 HG.out (by decide) (by omega)).mono ?_
  rintro e w16 ⟨rfl, og, mm⟩
  have HG2 : Hid (OtH glo ghi w16 (.slice ag zg.length cpg) (mkT 1 zg.length)) := og
  clear HG og
  clear cKA0 cKA1 cKA2 cKA3 lKA cKW0 cKW1 cKW2 cKW3 lKW cKX0 cKX1 cKX2 cKX3 lKX cKG0 cKG1 cKG2 cKG3 lKG
  have z16 : w15.heap.size ≤ w16.heap.size := mm.size
  have HB' : Hid (Below w.heap.size w w16) := HB.out.trans ((mm.below (by omega)).mono (by omega))
  have HKA' : Hid (Blk w16 w.heap.size (F4 s p m (.slice a ln cap)) 43) := HKA.out.mid mm (by omega)
  have HW' : Hid (OtH w2.heap.size w3.heap.size w16 (.slice aw zg.length cpw) zg) := HW.out.mid mm (by omega)
  have HMW' : Hid (OpH w2.heap.size w3.heap.size w16 mvw mg') := HMW.out.mid mm (by omega)
  have HKW' : Hid (Blk w16 w3.heap.size (F4 s p m (.slice aw zg.length cpw)) 26) := HKW.out.mid mm (by omega)
  have HKX' : Hid (Blk w16 w5.heap.size (F4 s p m (.slice ax cs.length cx)) 26) := HKX.out.mid mm (by omega)
  have HMG' : Hid (OpH mlo mhi w16 mvg mg') := HMG.out.mid mm (by omega)
  have HKG' : Hid (Blk w16 w7.heap.size (F4 s p m (.slice ag zg.length cpg)) 26) := HKG.out.mid mm (by omega)
  clear HB HKA HW HMW HKW HKX HMG HKG
  have HB := HB'
  have HKA := HKA'
  have HW := HW'
  have HMW := HMW'
  have HKW := HKW'
  have HKX := HKX'
  have HMG := HMG'
  have HKG := HKG'
  clear HB' HKA' HW' HMW' HKW' HKX' HMG' HKG'
  clear mm
  have hq0 : (0 : Int) ≤ 1 + 3 * (zg.length : Int) := by omega
  have cKA0 : w16.cell? ⟨w.heap.size, 0, none⟩ = some (.int .i64 s) := by have := HKA.out.cell 0; simpa using this
  have cKA1 : w16.cell? ⟨w.heap.size, 1, none⟩ = some (.int .i64 p) := by have := HKA.out.cell 1; simpa using this
  have cKA2 : w16.cell? ⟨w.heap.size, 2, none⟩ = some (.int .i64 m) := by have := HKA.out.cell 2; simpa using this
  have cKA3 : w16.cell? ⟨w.heap.size, 3, none⟩ = some (.slice a ln cap) := by have := HKA.out.cell 3; simpa using this
  have lKA : w.heap.size < w16.heap.size := HKA.out.lt
  have cKW0 : w16.cell? ⟨w3.heap.size, 0, none⟩ = some (.int .i64 s) := by have := HKW.out.cell 0; simpa using this
  have cKW1 : w16.cell? ⟨w3.heap.size, 1, none⟩ = some (.int .i64 p) := by have := HKW.out.cell 1; simpa using this
  have cKW2 : w16.cell? ⟨w3.heap.size, 2, none⟩ = some (.int .i64 m) := by have := HKW.out.cell 2; simpa using this
  have cKW3 : w16.cell? ⟨w3.heap.size, 3, none⟩ = some (.slice aw zg.length cpw) := by have := HKW.out.cell 3; simpa using this
  have lKW : w3.heap.size < w16.heap.size := HKW.out.lt
  have cKX0 : w16.cell? ⟨w5.heap.size, 0, none⟩ = some (.int .i64 s) := by have := HKX.out.cell 0; simpa using this
  have cKX1 : w16.cell? ⟨w5.heap.size, 1, none⟩ = some (.int .i64 p) := by have := HKX.out.cell 1; simpa using this
  have cKX2 : w16.cell? ⟨w5.heap.size, 2, none⟩ = some (.int .i64 m) := by have := HKX.out.cell 2; simpa using this
  have cKX3 : w16.cell? ⟨w5.heap.size, 3, none⟩ = some (.slice ax cs.length cx) := by have := HKX.out.cell 3; simpa using this
  have lKX : w5.heap.size < w16.heap.size := HKX.out.lt
  have cKG0 : w16.cell? ⟨w7.heap.size, 0, none⟩ = some (.int .i64 s) := by have := HKG.out.cell 0; simpa using this
  have cKG1 : w16.cell? ⟨w7.heap.size, 1, none⟩ = some (.int .i64 p) := by have := HKG.out.cell 1; simpa using this
  have cKG2 : w16.cell? ⟨w7.heap.size, 2, none⟩ = some (.int .i64 m) := by have := HKG.out.cell 2; simpa using this
  have cKG3 : w16.cell? ⟨w7.heap.size, 3, none⟩ = some (.slice ag zg.length cpg) := by have := HKG.out.cell 3; simpa using this
  have lKG : w7.heap.size < w16.heap.size := HKG.out.lt
  go_wp2_with (fail)
  refine (markMH_c _ mg' (1 + 3 * (zg.length : Int)) mlo mhi w16 HMG.out (by omega) (by omega)).mono ?_
  rintro e w17 ⟨rfl, om, mm⟩
  have HMG2 : Hid (OpH mlo mhi w17 mvg (mkM (1 + 3 * (zg.length : Int)) mg'.length)) := om
  clear HMG om
  clear cKA0 cKA1 cKA2 cKA3 lKA cKW0 cKW1 cKW2 cKW3 lKW cKX0 cKX1 cKX2 cKX3 lKX cKG0 cKG1 cKG2 cKG3 lKG
  have z17 : w16.heap.size ≤ w17.heap.size := mm.size
  have HB' : Hid (Below w.heap.size w w17) := HB.out.trans ((mm.below (by omega)).mono (by omega))
  have HKA' : Hid (Blk w17 w.heap.size (F4 s p m (.slice a ln cap)) 43) := HKA.out.mid mm (by omega)
  have HW' : Hid (OtH w2.heap.size w3.heap.size w17 (.slice aw zg.length cpw) zg) := HW.out.mid mm (by omega)
  have HMW' : Hid (OpH w2.heap.size w3.heap.size w17 mvw mg') := HMW.out.mid mm (by omega)
  have HKW' : Hid (Blk w17 w3.heap.size (F4 s p m (.slice aw zg.length cpw)) 26) := HKW.out.mid mm (by omega)
  have HKX' : Hid (Blk w17 w5.heap.size (F4 s p m (.slice ax cs.length cx)) 26) := HKX.out.mid mm (by omega)
  have HKG' : Hid (Blk w17 w7.heap.size (F4 s p m (.slice ag zg.length cpg)) 26) := HKG.out.mid mm (by omega)
  have HG2' : Hid (OtH glo ghi w17 (.slice ag zg.length cpg) (mkT 1 zg.length)) := HG2.out.mid mm (by omega)
  clear HB HKA HW HMW HKW HKX HKG HG2
  have HB := HB'
  have HKA := HKA'
  have HW := HW'
  have HMW := HMW'
  have HKW := HKW'
  have HKX := HKX'
  have HKG := HKG'
  have HG2 := HG2'
  clear HB' HKA' HW' HMW' HKW' HKX' HKG' HG2'
  clear mm
  have cKA0 : w17.cell? ⟨w.heap.size, 0, none⟩ = some (.int .i64 s) := by have := HKA.out.cell 0; simpa using this
  have cKA1 : w17.cell? ⟨w.heap.size, 1, none⟩ = some (.int .i64 p) := by have := HKA.out.cell 1; simpa using this
  have cKA2 : w17.cell? ⟨w.heap.size, 2, none⟩ = some (.int .i64 m) := by have := HKA.out.cell 2; simpa using this
  have cKA3 : w17.cell? ⟨w.heap.size, 3, none⟩ = some (.slice a ln cap) := by have := HKA.out.cell 3; simpa using this
  have lKA : w.heap.size < w17.heap.size := HKA.out.lt
  have cKW0 : w17.cell? ⟨w3.heap.size, 0, none⟩ = some (.int .i64 s) := by have := HKW.out.cell 0; simpa using this
  have cKW1 : w17.cell? ⟨w3.heap.size, 1, none⟩ = some (.int .i64 p) := by have := HKW.out.cell 1; simpa using this
  have cKW2 : w17.cell? ⟨w3.heap.size, 2, none⟩ = some (.int .i64 m) := by have := HKW.out.cell 2; simpa using this
  have cKW3 : w17.cell? ⟨w3.heap.size, 3, none⟩ = some (.slice aw zg.length cpw) := by have := HKW.out.cell 3; simpa using this
  have lKW : w3.heap.size < w17.heap.size := HKW.out.lt
  have cKX0 : w17.cell? ⟨w5.heap.size, 0, none⟩ = some (.int .i64 s) := by have := HKX.out.cell 0; simpa using this
  have cKX1 : w17.cell? ⟨w5.heap.size, 1, none⟩ = some (.int .i64 p) := by have := HKX.out.cell 1; simpa using this
  have cKX2 : w17.cell? ⟨w5.heap.size, 2, none⟩ = some (.int .i64 m) := by have := HKX.out.cell 2; simpa using this
  have cKX3 : w17.cell? ⟨w5.heap.size, 3, none⟩ = some (.slice ax cs.length cx) := by have := HKX.out.cell 3; simpa using this
  have lKX : w5.heap.size < w17.heap.size := HKX.out.lt
  have cKG0 : w17.cell? ⟨w7.heap.size, 0, none⟩ = some (.int .i64 s) := by have := HKG.out.cell 0; simpa using this
  have cKG1 : w17.cell? ⟨w7.heap.size, 1, none⟩ = some (.int .i64 p) := by have := HKG.out.cell 1; simpa using this
  have cKG2 : w17.cell? ⟨w7.heap.size, 2, none⟩ = some (.int .i64 m) := by have := HKG.out.cell 2; simpa using this
  have cKG3 : w17.cell? ⟨w7.heap.size, 3, none⟩ = some (.slice ag zg.length cpg) := by have := HKG.out.cell 3; simpa using this
  have lKG : w7.heap.size < w17.heap.size := HKG.out.lt
  go_wp2_with (fail)
  refine (heldFabric_c s p m _ 1 zg.length w17 HG2.out.rd (by decide) (by omega)).mono ?_
  rintro e w18 ⟨rfl, b⟩
  clear cKA0 cKA1 cKA2 cKA3 lKA cKW0 cKW1 cKW2 cKW3 lKW cKX0 cKX1 cKX2 cKX3 lKX cKG0 cKG1 cKG2 cKG3 lKG
  have z18 : w17.heap.size ≤ w18.heap.size := b.size
  have HB' : Hid (Below w.heap.size w w18) := belowCall HB.out b HB.out.size
  have HKA' : Hid (Blk w18 w.heap.size (F4 s p m (.slice a ln cap)) 43) := HKA.out.below b HKA.out.lt
  have HW' : Hid (OtH w2.heap.size w3.heap.size w18 (.slice aw zg.length cpw) zg) := HW.out.below b
  have HMW' : Hid (OpH w2.heap.size w3.heap.size w18 mvw mg') := HMW.out.below b
  have HKW' : Hid (Blk w18 w3.heap.size (F4 s p m (.slice aw zg.length cpw)) 26) := HKW.out.below b HKW.out.lt
  have HKX' : Hid (Blk w18 w5.heap.size (F4 s p m (.slice ax cs.length cx)) 26) := HKX.out.below b HKX.out.lt
  have HKG' : Hid (Blk w18 w7.heap.size (F4 s p m (.slice ag zg.length cpg)) 26) := HKG.out.below b HKG.out.lt
  have HG2' : Hid (OtH glo ghi w18 (.slice ag zg.length cpg) (mkT 1 zg.length)) := HG2.out.below b
  have HMG2' : Hid (OpH mlo mhi w18 mvg (mkM (1 + 3 * (zg.length : Int)) mg'.length)) := HMG2.out.below b
  clear HB HKA HW HMW HKW HKX HKG HG2 HMG2
  have HB := HB'
  have HKA := HKA'
  have HW := HW'
  have HMW := HMW'
  have HKW := HKW'
  have HKX := HKX'
  have HKG := HKG'
  have HG2 := HG2'
  have HMG2 := HMG2'
  clear HB' HKA' HW' HMW' HKW' HKX' HKG' HG2' HMG2'
  clear b
  have hnn2 : ¬ ((1 : Int) + 3 * (zg.length : Int) < 0) := by omega
  have cKA0 : w18.cell? ⟨w.heap.size, 0, none⟩ = some (.int .i64 s) := by have := HKA.out.cell 0; simpa using this
  have cKA1 : w18.cell? ⟨w.heap.size, 1, none⟩ = some (.int .i64 p) := by have := HKA.out.cell 1; simpa using this
  have cKA2 : w18.cell? ⟨w.heap.size, 2, none⟩ = some (.int .i64 m) := by have := HKA.out.cell 2; simpa using this
  have cKA3 : w18.cell? ⟨w.heap.size, 3, none⟩ = some (.slice a ln cap) := by have := HKA.out.cell 3; simpa using this
  have lKA : w.heap.size < w18.heap.size := HKA.out.lt
  have cKW0 : w18.cell? ⟨w3.heap.size, 0, none⟩ = some (.int .i64 s) := by have := HKW.out.cell 0; simpa using this
  have cKW1 : w18.cell? ⟨w3.heap.size, 1, none⟩ = some (.int .i64 p) := by have := HKW.out.cell 1; simpa using this
  have cKW2 : w18.cell? ⟨w3.heap.size, 2, none⟩ = some (.int .i64 m) := by have := HKW.out.cell 2; simpa using this
  have cKW3 : w18.cell? ⟨w3.heap.size, 3, none⟩ = some (.slice aw zg.length cpw) := by have := HKW.out.cell 3; simpa using this
  have lKW : w3.heap.size < w18.heap.size := HKW.out.lt
  have cKX0 : w18.cell? ⟨w5.heap.size, 0, none⟩ = some (.int .i64 s) := by have := HKX.out.cell 0; simpa using this
  have cKX1 : w18.cell? ⟨w5.heap.size, 1, none⟩ = some (.int .i64 p) := by have := HKX.out.cell 1; simpa using this
  have cKX2 : w18.cell? ⟨w5.heap.size, 2, none⟩ = some (.int .i64 m) := by have := HKX.out.cell 2; simpa using this
  have cKX3 : w18.cell? ⟨w5.heap.size, 3, none⟩ = some (.slice ax cs.length cx) := by have := HKX.out.cell 3; simpa using this
  have lKX : w5.heap.size < w18.heap.size := HKX.out.lt
  have cKG0 : w18.cell? ⟨w7.heap.size, 0, none⟩ = some (.int .i64 s) := by have := HKG.out.cell 0; simpa using this
  have cKG1 : w18.cell? ⟨w7.heap.size, 1, none⟩ = some (.int .i64 p) := by have := HKG.out.cell 1; simpa using this
  have cKG2 : w18.cell? ⟨w7.heap.size, 2, none⟩ = some (.int .i64 m) := by have := HKG.out.cell 2; simpa using this
  have cKG3 : w18.cell? ⟨w7.heap.size, 3, none⟩ = some (.slice ag zg.length cpg) := by have := HKG.out.cell 3; simpa using this
  have lKG : w7.heap.size < w18.heap.size := HKG.out.lt
  go_wp2_with (fail)
  refine (heldMoveS_c _ (1 + 3 * (zg.length : Int)) mg'.length w18 HMG2.out.rd (by omega) (by omega)).mono ?_
  rintro e w19 ⟨rfl, b⟩
  clear cKA0 cKA1 cKA2 cKA3 lKA cKW0 cKW1 cKW2 cKW3 lKW cKX0 cKX1 cKX2 cKX3 lKX cKG0 cKG1 cKG2 cKG3 lKG
  have z19 : w18.heap.size ≤ w19.heap.size := b.size
  have HB' : Hid (Below w.heap.size w w19) := belowCall HB.out b HB.out.size
  have HKA' : Hid (Blk w19 w.heap.size (F4 s p m (.slice a ln cap)) 43) := HKA.out.below b HKA.out.lt
  have HW' : Hid (OtH w2.heap.size w3.heap.size w19 (.slice aw zg.length cpw) zg) := HW.out.below b
  have HMW' : Hid (OpH w2.heap.size w3.heap.size w19 mvw mg') := HMW.out.below b
  have HKW' : Hid (Blk w19 w3.heap.size (F4 s p m (.slice aw zg.length cpw)) 26) := HKW.out.below b HKW.out.lt
  have HKX' : Hid (Blk w19 w5.heap.size (F4 s p m (.slice ax cs.length cx)) 26) := HKX.out.below b HKX.out.lt
  have HKG' : Hid (Blk w19 w7.heap.size (F4 s p m (.slice ag zg.length cpg)) 26) := HKG.out.below b HKG.out.lt
  have HG2' : Hid (OtH glo ghi w19 (.slice ag zg.length cpg) (mkT 1 zg.length)) := HG2.out.below b
  have HMG2' : Hid (OpH mlo mhi w19 mvg (mkM (1 + 3 * (zg.length : Int)) mg'.length)) := HMG2.out.below b
  clear HB HKA HW HMW HKW HKX HKG HG2 HMG2
  have HB := HB'
  have HKA := HKA'
  have HW := HW'
  have HMW := HMW'
  have HKW := HKW'
  have HKX := HKX'
  have HKG := HKG'
  have HG2 := HG2'
  have HMG2 := HMG2'
  clear HB' HKA' HW' HMW' HKW' HKX' HKG' HG2' HMG2'
  clear b
  have hnn3 : ¬ ((1 : Int) + 3 * (zg.length : Int) + 2 * (mg'.length : Int) < 0) := by omega
  have hmm3 : ((1 : Int) + 3 * (zg.length : Int) + 2 * (mg'.length : Int) != 1 + 3 * (zg.length : Int) + 2 * (mg'.length : Int)) = false := by simp
  have cKA0 : w19.cell? ⟨w.heap.size, 0, none⟩ = some (.int .i64 s) := by have := HKA.out.cell 0; simpa using this
  have cKA1 : w19.cell? ⟨w.heap.size, 1, none⟩ = some (.int .i64 p) := by have := HKA.out.cell 1; simpa using this
  have cKA2 : w19.cell? ⟨w.heap.size, 2, none⟩ = some (.int .i64 m) := by have := HKA.out.cell 2; simpa using this
  have cKA3 : w19.cell? ⟨w.heap.size, 3, none⟩ = some (.slice a ln cap) := by have := HKA.out.cell 3; simpa using this
  have lKA : w.heap.size < w19.heap.size := HKA.out.lt
  have cKW0 : w19.cell? ⟨w3.heap.size, 0, none⟩ = some (.int .i64 s) := by have := HKW.out.cell 0; simpa using this
  have cKW1 : w19.cell? ⟨w3.heap.size, 1, none⟩ = some (.int .i64 p) := by have := HKW.out.cell 1; simpa using this
  have cKW2 : w19.cell? ⟨w3.heap.size, 2, none⟩ = some (.int .i64 m) := by have := HKW.out.cell 2; simpa using this
  have cKW3 : w19.cell? ⟨w3.heap.size, 3, none⟩ = some (.slice aw zg.length cpw) := by have := HKW.out.cell 3; simpa using this
  have lKW : w3.heap.size < w19.heap.size := HKW.out.lt
  have cKX0 : w19.cell? ⟨w5.heap.size, 0, none⟩ = some (.int .i64 s) := by have := HKX.out.cell 0; simpa using this
  have cKX1 : w19.cell? ⟨w5.heap.size, 1, none⟩ = some (.int .i64 p) := by have := HKX.out.cell 1; simpa using this
  have cKX2 : w19.cell? ⟨w5.heap.size, 2, none⟩ = some (.int .i64 m) := by have := HKX.out.cell 2; simpa using this
  have cKX3 : w19.cell? ⟨w5.heap.size, 3, none⟩ = some (.slice ax cs.length cx) := by have := HKX.out.cell 3; simpa using this
  have lKX : w5.heap.size < w19.heap.size := HKX.out.lt
  have cKG0 : w19.cell? ⟨w7.heap.size, 0, none⟩ = some (.int .i64 s) := by have := HKG.out.cell 0; simpa using this
  have cKG1 : w19.cell? ⟨w7.heap.size, 1, none⟩ = some (.int .i64 p) := by have := HKG.out.cell 1; simpa using this
  have cKG2 : w19.cell? ⟨w7.heap.size, 2, none⟩ = some (.int .i64 m) := by have := HKG.out.cell 2; simpa using this
  have cKG3 : w19.cell? ⟨w7.heap.size, 3, none⟩ = some (.slice ag zg.length cpg) := by have := HKG.out.cell 3; simpa using this
  have lKG : w7.heap.size < w19.heap.size := HKG.out.lt
  go_wp2_with (fail)
  refine (toFabric_c s p m _ cs w19 (HH.out.below HB.out) HL.out).mono ?_
  rintro e w20 ⟨vh, rfl, oh, b⟩
  have HOH : Hid (Rt w20 vh cs) := oh.rd
  clear oh
  clear cKA0 cKA1 cKA2 cKA3 lKA cKW0 cKW1 cKW2 cKW3 lKW cKX0 cKX1 cKX2 cKX3 lKX cKG0 cKG1 cKG2 cKG3 lKG
  have z20 : w19.heap.size ≤ w20.heap.size := b.size
  have HB' : Hid (Below w.heap.size w w20) := belowCall HB.out b HB.out.size
  have HKA' : Hid (Blk w20 w.heap.size (F4 s p m (.slice a ln cap)) 43) := HKA.out.below b HKA.out.lt
  have HW' : Hid (OtH w2.heap.size w3.heap.size w20 (.slice aw zg.length cpw) zg) := HW.out.below b
  have HMW' : Hid (OpH w2.heap.size w3.heap.size w20 mvw mg') := HMW.out.below b
  have HKW' : Hid (Blk w20 w3.heap.size (F4 s p m (.slice aw zg.length cpw)) 26) := HKW.out.below b HKW.out.lt
  have HKX' : Hid (Blk w20 w5.heap.size (F4 s p m (.slice ax cs.length cx)) 26) := HKX.out.below b HKX.out.lt
  have HKG' : Hid (Blk w20 w7.heap.size (F4 s p m (.slice ag zg.length cpg)) 26) := HKG.out.below b HKG.out.lt
  have HG2' : Hid (OtH glo ghi w20 (.slice ag zg.length cpg) (mkT 1 zg.length)) := HG2.out.below b
  have HMG2' : Hid (OpH mlo mhi w20 mvg (mkM (1 + 3 * (zg.length : Int)) mg'.length)) := HMG2.out.below b
  clear HB HKA HW HMW HKW HKX HKG HG2 HMG2
  have HB := HB'
  have HKA := HKA'
  have HW := HW'
  have HMW := HMW'
  have HKW := HKW'
  have HKX := HKX'
  have HKG := HKG'
  have HG2 := HG2'
  have HMG2 := HMG2'
  clear HB' HKA' HW' HMW' HKW' HKX' HKG' HG2' HMG2'
  clear b
  have cKA0 : w20.cell? ⟨w.heap.size, 0, none⟩ = some (.int .i64 s) := by have := HKA.out.cell 0; simpa using this
  have cKA1 : w20.cell? ⟨w.heap.size, 1, none⟩ = some (.int .i64 p) := by have := HKA.out.cell 1; simpa using this
  have cKA2 : w20.cell? ⟨w.heap.size, 2, none⟩ = some (.int .i64 m) := by have := HKA.out.cell 2; simpa using this
  have cKA3 : w20.cell? ⟨w.heap.size, 3, none⟩ = some (.slice a ln cap) := by have := HKA.out.cell 3; simpa using this
  have lKA : w.heap.size < w20.heap.size := HKA.out.lt
  have cKW0 : w20.cell? ⟨w3.heap.size, 0, none⟩ = some (.int .i64 s) := by have := HKW.out.cell 0; simpa using this
  have cKW1 : w20.cell? ⟨w3.heap.size, 1, none⟩ = some (.int .i64 p) := by have := HKW.out.cell 1; simpa using this
  have cKW2 : w20.cell? ⟨w3.heap.size, 2, none⟩ = some (.int .i64 m) := by have := HKW.out.cell 2; simpa using this
  have cKW3 : w20.cell? ⟨w3.heap.size, 3, none⟩ = some (.slice aw zg.length cpw) := by have := HKW.out.cell 3; simpa using this
  have lKW : w3.heap.size < w20.heap.size := HKW.out.lt
  have cKX0 : w20.cell? ⟨w5.heap.size, 0, none⟩ = some (.int .i64 s) := by have := HKX.out.cell 0; simpa using this
  have cKX1 : w20.cell? ⟨w5.heap.size, 1, none⟩ = some (.int .i64 p) := by have := HKX.out.cell 1; simpa using this
  have cKX2 : w20.cell? ⟨w5.heap.size, 2, none⟩ = some (.int .i64 m) := by have := HKX.out.cell 2; simpa using this
  have cKX3 : w20.cell? ⟨w5.heap.size, 3, none⟩ = some (.slice ax cs.length cx) := by have := HKX.out.cell 3; simpa using this
  have lKX : w5.heap.size < w20.heap.size := HKX.out.lt
  have cKG0 : w20.cell? ⟨w7.heap.size, 0, none⟩ = some (.int .i64 s) := by have := HKG.out.cell 0; simpa using this
  have cKG1 : w20.cell? ⟨w7.heap.size, 1, none⟩ = some (.int .i64 p) := by have := HKG.out.cell 1; simpa using this
  have cKG2 : w20.cell? ⟨w7.heap.size, 2, none⟩ = some (.int .i64 m) := by have := HKG.out.cell 2; simpa using this
  have cKG3 : w20.cell? ⟨w7.heap.size, 3, none⟩ = some (.slice ag zg.length cpg) := by have := HKG.out.cell 3; simpa using this
  have lKG : w7.heap.size < w20.heap.size := HKG.out.lt
  go_wp2_with (fail)
  refine (conI_c s p m f t _ cs w20 HOH.out (HNP.out _ HB.out).1 (HNP.out _ HB.out).2 (by omega)).mono ?_
  rintro e w21 ⟨vq, zh, mvh, mh, ch, rfl, hsh, oq, omq, -, b⟩
  obtain ⟨aq, cpq, hvq, -⟩ := own_form oq
  subst hvq
  have HR : Hid (Rt w21 (.slice aq zh.length cpq) zh) := oq.rd
  have HMR : Hid (Rp mf mg w21 mvh mh) := omq.rd
  obtain ⟨rfl, rfl, rfl⟩ := ConS.same hsh HSW.out
  clear oq hsh HOH omq
  clear cKA0 cKA1 cKA2 cKA3 lKA cKW0 cKW1 cKW2 cKW3 lKW cKX0 cKX1 cKX2 cKX3 lKX cKG0 cKG1 cKG2 cKG3 lKG
  have z21 : w20.heap.size ≤ w21.heap.size := b.size
  have HB' : Hid (Below w.heap.size w w21) := belowCall HB.out b HB.out.size
  have HKA' : Hid (Blk w21 w.heap.size (F4 s p m (.slice a ln cap)) 43) := HKA.out.below b HKA.out.lt
  have HW' : Hid (OtH w2.heap.size w3.heap.size w21 (.slice aw zh.length cpw) zh) := HW.out.below b
  have HMW' : Hid (OpH w2.heap.size w3.heap.size w21 mvw mh) := HMW.out.below b
  have HKW' : Hid (Blk w21 w3.heap.size (F4 s p m (.slice aw zh.length cpw)) 26) := HKW.out.below b HKW.out.lt
  have HKX' : Hid (Blk w21 w5.heap.size (F4 s p m (.slice ax cs.length cx)) 26) := HKX.out.below b HKX.out.lt
  have HKG' : Hid (Blk w21 w7.heap.size (F4 s p m (.slice ag zh.length cpg)) 26) := HKG.out.below b HKG.out.lt
  have HG2' : Hid (OtH glo ghi w21 (.slice ag zh.length cpg) (mkT 1 zh.length)) := HG2.out.below b
  have HMG2' : Hid (OpH mlo mhi w21 mvg (mkM (1 + 3 * (zh.length : Int)) mh.length)) := HMG2.out.below b
  clear HB HKA HW HMW HKW HKX HKG HG2 HMG2
  have HB := HB'
  have HKA := HKA'
  have HW := HW'
  have HMW := HMW'
  have HKW := HKW'
  have HKX := HKX'
  have HKG := HKG'
  have HG2 := HG2'
  have HMG2 := HMG2'
  clear HB' HKA' HW' HMW' HKW' HKX' HKG' HG2' HMG2'
  clear b
  have hch : (ch != ch) = false := by simp
  have cKA0 : w21.cell? ⟨w.heap.size, 0, none⟩ = some (.int .i64 s) := by have := HKA.out.cell 0; simpa using this
  have cKA1 : w21.cell? ⟨w.heap.size, 1, none⟩ = some (.int .i64 p) := by have := HKA.out.cell 1; simpa using this
  have cKA2 : w21.cell? ⟨w.heap.size, 2, none⟩ = some (.int .i64 m) := by have := HKA.out.cell 2; simpa using this
  have cKA3 : w21.cell? ⟨w.heap.size, 3, none⟩ = some (.slice a ln cap) := by have := HKA.out.cell 3; simpa using this
  have lKA : w.heap.size < w21.heap.size := HKA.out.lt
  have cKW0 : w21.cell? ⟨w3.heap.size, 0, none⟩ = some (.int .i64 s) := by have := HKW.out.cell 0; simpa using this
  have cKW1 : w21.cell? ⟨w3.heap.size, 1, none⟩ = some (.int .i64 p) := by have := HKW.out.cell 1; simpa using this
  have cKW2 : w21.cell? ⟨w3.heap.size, 2, none⟩ = some (.int .i64 m) := by have := HKW.out.cell 2; simpa using this
  have cKW3 : w21.cell? ⟨w3.heap.size, 3, none⟩ = some (.slice aw zh.length cpw) := by have := HKW.out.cell 3; simpa using this
  have lKW : w3.heap.size < w21.heap.size := HKW.out.lt
  have cKX0 : w21.cell? ⟨w5.heap.size, 0, none⟩ = some (.int .i64 s) := by have := HKX.out.cell 0; simpa using this
  have cKX1 : w21.cell? ⟨w5.heap.size, 1, none⟩ = some (.int .i64 p) := by have := HKX.out.cell 1; simpa using this
  have cKX2 : w21.cell? ⟨w5.heap.size, 2, none⟩ = some (.int .i64 m) := by have := HKX.out.cell 2; simpa using this
  have cKX3 : w21.cell? ⟨w5.heap.size, 3, none⟩ = some (.slice ax cs.length cx) := by have := HKX.out.cell 3; simpa using this
  have lKX : w5.heap.size < w21.heap.size := HKX.out.lt
  have cKG0 : w21.cell? ⟨w7.heap.size, 0, none⟩ = some (.int .i64 s) := by have := HKG.out.cell 0; simpa using this
  have cKG1 : w21.cell? ⟨w7.heap.size, 1, none⟩ = some (.int .i64 p) := by have := HKG.out.cell 1; simpa using this
  have cKG2 : w21.cell? ⟨w7.heap.size, 2, none⟩ = some (.int .i64 m) := by have := HKG.out.cell 2; simpa using this
  have cKG3 : w21.cell? ⟨w7.heap.size, 3, none⟩ = some (.slice ag zh.length cpg) := by have := HKG.out.cell 3; simpa using this
  have lKG : w7.heap.size < w21.heap.size := HKG.out.lt
  go_wp2_with (fail)
  clear cKA0 cKA1 cKA2 cKA3 lKA cKW0 cKW1 cKW2 cKW3 lKW cKX0 cKX1 cKX2 cKX3 lKX cKG0 cKG1 cKG2 cKG3 lKG
  have ba : Below w21.heap.size w21 (w21.alloc (Obj.cells (F4 s p m (.slice aq zh.length cpq)) 26)) := (Below.refl _ _).alloc (Nat.le_refl _) _
  have HB' : Hid (Below w.heap.size w (w21.alloc (Obj.cells (F4 s p m (.slice aq zh.length cpq)) 26))) := belowCall HB.out ba HB.out.size
  have HKA' : Hid (Blk (w21.alloc (Obj.cells (F4 s p m (.slice aq zh.length cpq)) 26)) w.heap.size (F4 s p m (.slice a ln cap)) 43) := HKA.out.below ba HKA.out.lt
  have HW' : Hid (OtH w2.heap.size w3.heap.size (w21.alloc (Obj.cells (F4 s p m (.slice aq zh.length cpq)) 26)) (.slice aw zh.length cpw) zh) := HW.out.below ba
  have HMW' : Hid (OpH w2.heap.size w3.heap.size (w21.alloc (Obj.cells (F4 s p m (.slice aq zh.length cpq)) 26)) mvw mh) := HMW.out.below ba
  have HKW' : Hid (Blk (w21.alloc (Obj.cells (F4 s p m (.slice aq zh.length cpq)) 26)) w3.heap.size (F4 s p m (.slice aw zh.length cpw)) 26) := HKW.out.below ba HKW.out.lt
  have HKX' : Hid (Blk (w21.alloc (Obj.cells (F4 s p m (.slice aq zh.length cpq)) 26)) w5.heap.size (F4 s p m (.slice ax cs.length cx)) 26) := HKX.out.below ba HKX.out.lt
  have HKG' : Hid (Blk (w21.alloc (Obj.cells (F4 s p m (.slice aq zh.length cpq)) 26)) w7.heap.size (F4 s p m (.slice ag zh.length cpg)) 26) := HKG.out.below ba HKG.out.lt
  have HG2' : Hid (OtH glo ghi (w21.alloc (Obj.cells (F4 s p m (.slice aq zh.length cpq)) 26)) (.slice ag zh.length cpg) (mkT 1 zh.length)) := HG2.out.below ba
  have HMG2' : Hid (OpH mlo mhi (w21.alloc (Obj.cells (F4 s p m (.slice aq zh.length cpq)) 26)) mvg (mkM (1 + 3 * (zh.length : Int)) mh.length)) := HMG2.out.below ba
  have HR' : Hid (Rt (w21.alloc (Obj.cells (F4 s p m (.slice aq zh.length cpq)) 26)) (.slice aq zh.length cpq) zh) := HR.out.below ba
  have HMR' : Hid (Rp mf mg (w21.alloc (Obj.cells (F4 s p m (.slice aq zh.length cpq)) 26)) mvh mh) := HMR.out.below ba
  clear HB HKA HW HMW HKW HKX HKG HG2 HMG2 HR HMR
  have HB := HB'
  have HKA := HKA'
  have HW := HW'
  have HMW := HMW'
  have HKW := HKW'
  have HKX := HKX'
  have HKG := HKG'
  have HG2 := HG2'
  have HMG2 := HMG2'
  have HR := HR'
  have HMR := HMR'
  clear HB' HKA' HW' HMW' HKW' HKX' HKG' HG2' HMG2' HR' HMR'
  have HKH : Hid (Blk (w21.alloc (Obj.cells (F4 s p m (.slice aq zh.length cpq)) 26)) w21.heap.size (F4 s p m (.slice aq zh.length cpq)) 26) := Blk.new _ _ _
  have z22 : w21.heap.size < (w21.alloc (Obj.cells (F4 s p m (.slice aq zh.length cpq)) 26)).heap.size := by simp
  obtain ⟨w22, hnw⟩ : ∃ W, (w21.alloc (Obj.cells (F4 s p m (.slice aq zh.length cpq)) 26)) = W := ⟨_, rfl⟩
  rw [hnw] at z22 HB HKA HW HMW HKW HKX HKG HG2 HMG2 HR HMR HKH ⊢
  clear hnw ba
  refine (eqFabric_c s p m s p m (.slice aq zh.length cpq) (.slice aw zh.length cpw) zh zh w22 HR.out HW.out.rd).mono ?_
  rintro e w23 ⟨rfl, b⟩
  have hde : decide ((s, p, m, zh) = (s, p, m, zh)) = true := by simp
  rw [hde]
  clear hde
  have z23 : w22.heap.size ≤ w23.heap.size := b.size
  have HB' : Hid (Below w.heap.size w w23) := belowCall HB.out b HB.out.size
  have HKA' : Hid (Blk w23 w.heap.size (F4 s p m (.slice a ln cap)) 43) := HKA.out.below b HKA.out.lt
  have HW' : Hid (OtH w2.heap.size w3.heap.size w23 (.slice aw zh.length cpw) zh) := HW.out.below b
  have HMW' : Hid (OpH w2.heap.size w3.heap.size w23 mvw mh) := HMW.out.below b
  have HKW' : Hid (Blk w23 w3.heap.size (F4 s p m (.slice aw zh.length cpw)) 26) := HKW.out.below b HKW.out.lt
  have HKX' : Hid (Blk w23 w5.heap.size (F4 s p m (.slice ax cs.length cx)) 26) := HKX.out.below b HKX.out.lt
  have HKG' : Hid (Blk w23 w7.heap.size (F4 s p m (.slice ag zh.length cpg)) 26) := HKG.out.below b HKG.out.lt
  have HG2' : Hid (OtH glo ghi w23 (.slice ag zh.length cpg) (mkT 1 zh.length)) := HG2.out.below b
  have HMG2' : Hid (OpH mlo mhi w23 mvg (mkM (1 + 3 * (zh.length : Int)) mh.length)) := HMG2.out.below b
  have HR' : Hid (Rt w23 (.slice aq zh.length cpq) zh) := HR.out.below b
  have HMR' : Hid (Rp mf mg w23 mvh mh) := HMR.out.below b
  have HKH' : Hid (Blk w23 w21.heap.size (F4 s p m (.slice aq zh.length cpq)) 26) := HKH.out.below b HKH.out.lt
  clear HB HKA HW HMW HKW HKX HKG HG2 HMG2 HR HMR HKH
  have HB := HB'
  have HKA := HKA'
  have HW := HW'
  have HMW := HMW'
  have HKW := HKW'
  have HKX := HKX'
  have HKG := HKG'
  have HG2 := HG2'
  have HMG2 := HMG2'
  have HR := HR'
  have HMR := HMR'
  have HKH := HKH'
  clear HB' HKA' HW' HMW' HKW' HKX' HKG' HG2' HMG2' HR' HMR' HKH'
  clear b
  have cKA0 : w23.cell? ⟨w.heap.size, 0, none⟩ = some (.int .i64 s) := by have := HKA.out.cell 0; simpa using this
  have cKA1 : w23.cell? ⟨w.heap.size, 1, none⟩ = some (.int .i64 p) := by have := HKA.out.cell 1; simpa using this
  have cKA2 : w23.cell? ⟨w.heap.size, 2, none⟩ = some (.int .i64 m) := by have := HKA.out.cell 2; simpa using this
  have cKA3 : w23.cell? ⟨w.heap.size, 3, none⟩ = some (.slice a ln cap) := by have := HKA.out.cell 3; simpa using this
  have lKA : w.heap.size < w23.heap.size := HKA.out.lt
  have cKW0 : w23.cell? ⟨w3.heap.size, 0, none⟩ = some (.int .i64 s) := by have := HKW.out.cell 0; simpa using this
  have cKW1 : w23.cell? ⟨w3.heap.size, 1, none⟩ = some (.int .i64 p) := by have := HKW.out.cell 1; simpa using this
  have cKW2 : w23.cell? ⟨w3.heap.size, 2, none⟩ = some (.int .i64 m) := by have := HKW.out.cell 2; simpa using this
  have cKW3 : w23.cell? ⟨w3.heap.size, 3, none⟩ = some (.slice aw zh.length cpw) := by have := HKW.out.cell 3; simpa using this
  have lKW : w3.heap.size < w23.heap.size := HKW.out.lt
  have cKX0 : w23.cell? ⟨w5.heap.size, 0, none⟩ = some (.int .i64 s) := by have := HKX.out.cell 0; simpa using this
  have cKX1 : w23.cell? ⟨w5.heap.size, 1, none⟩ = some (.int .i64 p) := by have := HKX.out.cell 1; simpa using this
  have cKX2 : w23.cell? ⟨w5.heap.size, 2, none⟩ = some (.int .i64 m) := by have := HKX.out.cell 2; simpa using this
  have cKX3 : w23.cell? ⟨w5.heap.size, 3, none⟩ = some (.slice ax cs.length cx) := by have := HKX.out.cell 3; simpa using this
  have lKX : w5.heap.size < w23.heap.size := HKX.out.lt
  have cKG0 : w23.cell? ⟨w7.heap.size, 0, none⟩ = some (.int .i64 s) := by have := HKG.out.cell 0; simpa using this
  have cKG1 : w23.cell? ⟨w7.heap.size, 1, none⟩ = some (.int .i64 p) := by have := HKG.out.cell 1; simpa using this
  have cKG2 : w23.cell? ⟨w7.heap.size, 2, none⟩ = some (.int .i64 m) := by have := HKG.out.cell 2; simpa using this
  have cKG3 : w23.cell? ⟨w7.heap.size, 3, none⟩ = some (.slice ag zh.length cpg) := by have := HKG.out.cell 3; simpa using this
  have lKG : w7.heap.size < w23.heap.size := HKG.out.lt
  have cKH0 : w23.cell? ⟨w21.heap.size, 0, none⟩ = some (.int .i64 s) := by have := HKH.out.cell 0; simpa using this
  have cKH1 : w23.cell? ⟨w21.heap.size, 1, none⟩ = some (.int .i64 p) := by have := HKH.out.cell 1; simpa using this
  have cKH2 : w23.cell? ⟨w21.heap.size, 2, none⟩ = some (.int .i64 m) := by have := HKH.out.cell 2; simpa using this
  have cKH3 : w23.cell? ⟨w21.heap.size, 3, none⟩ = some (.slice aq zh.length cpq) := by have := HKH.out.cell 3; simpa using this
  have lKH : w21.heap.size < w23.heap.size := HKH.out.lt
  go_wp2_with (fail)
  refine (eqMoveS_c mvh mvw mh mh w23 HMR.out HMW.out.rd).mono ?_
  rintro e w24 ⟨rfl, b⟩
  have hde : decide (mh = mh) = true := by simp
  rw [hde]
  clear hde
  clear cKA0 cKA1 cKA2 cKA3 lKA cKW0 cKW1 cKW2 cKW3 lKW cKX0 cKX1 cKX2 cKX3 lKX cKG0 cKG1 cKG2 cKG3 lKG cKH0 cKH1 cKH2 cKH3 lKH
  have z24 : w23.heap.size ≤ w24.heap.size := b.size
  have HB' : Hid (Below w.heap.size w w24) := belowCall HB.out b HB.out.size
  have HKA' : Hid (Blk w24 w.heap.size (F4 s p m (.slice a ln cap)) 43) := HKA.out.below b HKA.out.lt
  have HW' : Hid (OtH w2.heap.size w3.heap.size w24 (.slice aw zh.length cpw) zh) := HW.out.below b
  have HMW' : Hid (OpH w2.heap.size w3.heap.size w24 mvw mh) := HMW.out.below b
  have HKW' : Hid (Blk w24 w3.heap.size (F4 s p m (.slice aw zh.length cpw)) 26) := HKW.out.below b HKW.out.lt
  have HKX' : Hid (Blk w24 w5.heap.size (F4 s p m (.slice ax cs.length cx)) 26) := HKX.out.below b HKX.out.lt
  have HKG' : Hid (Blk w24 w7.heap.size (F4 s p m (.slice ag zh.length cpg)) 26) := HKG.out.below b HKG.out.lt
  have HG2' : Hid (OtH glo ghi w24 (.slice ag zh.length cpg) (mkT 1 zh.length)) := HG2.out.below b
  have HMG2' : Hid (OpH mlo mhi w24 mvg (mkM (1 + 3 * (zh.length : Int)) mh.length)) := HMG2.out.below b
  have HR' : Hid (Rt w24 (.slice aq zh.length cpq) zh) := HR.out.below b
  have HMR' : Hid (Rp mf mg w24 mvh mh) := HMR.out.below b
  have HKH' : Hid (Blk w24 w21.heap.size (F4 s p m (.slice aq zh.length cpq)) 26) := HKH.out.below b HKH.out.lt
  clear HB HKA HW HMW HKW HKX HKG HG2 HMG2 HR HMR HKH
  have HB := HB'
  have HKA := HKA'
  have HW := HW'
  have HMW := HMW'
  have HKW := HKW'
  have HKX := HKX'
  have HKG := HKG'
  have HG2 := HG2'
  have HMG2 := HMG2'
  have HR := HR'
  have HMR := HMR'
  have HKH := HKH'
  clear HB' HKA' HW' HMW' HKW' HKX' HKG' HG2' HMG2' HR' HMR' HKH'
  clear b
  have cKA0 : w24.cell? ⟨w.heap.size, 0, none⟩ = some (.int .i64 s) := by have := HKA.out.cell 0; simpa using this
  have cKA1 : w24.cell? ⟨w.heap.size, 1, none⟩ = some (.int .i64 p) := by have := HKA.out.cell 1; simpa using this
  have cKA2 : w24.cell? ⟨w.heap.size, 2, none⟩ = some (.int .i64 m) := by have := HKA.out.cell 2; simpa using this
  have cKA3 : w24.cell? ⟨w.heap.size, 3, none⟩ = some (.slice a ln cap) := by have := HKA.out.cell 3; simpa using this
  have lKA : w.heap.size < w24.heap.size := HKA.out.lt
  have cKW0 : w24.cell? ⟨w3.heap.size, 0, none⟩ = some (.int .i64 s) := by have := HKW.out.cell 0; simpa using this
  have cKW1 : w24.cell? ⟨w3.heap.size, 1, none⟩ = some (.int .i64 p) := by have := HKW.out.cell 1; simpa using this
  have cKW2 : w24.cell? ⟨w3.heap.size, 2, none⟩ = some (.int .i64 m) := by have := HKW.out.cell 2; simpa using this
  have cKW3 : w24.cell? ⟨w3.heap.size, 3, none⟩ = some (.slice aw zh.length cpw) := by have := HKW.out.cell 3; simpa using this
  have lKW : w3.heap.size < w24.heap.size := HKW.out.lt
  have cKX0 : w24.cell? ⟨w5.heap.size, 0, none⟩ = some (.int .i64 s) := by have := HKX.out.cell 0; simpa using this
  have cKX1 : w24.cell? ⟨w5.heap.size, 1, none⟩ = some (.int .i64 p) := by have := HKX.out.cell 1; simpa using this
  have cKX2 : w24.cell? ⟨w5.heap.size, 2, none⟩ = some (.int .i64 m) := by have := HKX.out.cell 2; simpa using this
  have cKX3 : w24.cell? ⟨w5.heap.size, 3, none⟩ = some (.slice ax cs.length cx) := by have := HKX.out.cell 3; simpa using this
  have lKX : w5.heap.size < w24.heap.size := HKX.out.lt
  have cKG0 : w24.cell? ⟨w7.heap.size, 0, none⟩ = some (.int .i64 s) := by have := HKG.out.cell 0; simpa using this
  have cKG1 : w24.cell? ⟨w7.heap.size, 1, none⟩ = some (.int .i64 p) := by have := HKG.out.cell 1; simpa using this
  have cKG2 : w24.cell? ⟨w7.heap.size, 2, none⟩ = some (.int .i64 m) := by have := HKG.out.cell 2; simpa using this
  have cKG3 : w24.cell? ⟨w7.heap.size, 3, none⟩ = some (.slice ag zh.length cpg) := by have := HKG.out.cell 3; simpa using this
  have lKG : w7.heap.size < w24.heap.size := HKG.out.lt
  have cKH0 : w24.cell? ⟨w21.heap.size, 0, none⟩ = some (.int .i64 s) := by have := HKH.out.cell 0; simpa using this
  have cKH1 : w24.cell? ⟨w21.heap.size, 1, none⟩ = some (.int .i64 p) := by have := HKH.out.cell 1; simpa using this
  have cKH2 : w24.cell? ⟨w21.heap.size, 2, none⟩ = some (.int .i64 m) := by have := HKH.out.cell 2; simpa using this
  have cKH3 : w24.cell? ⟨w21.heap.size, 3, none⟩ = some (.slice aq zh.length cpq) := by have := HKH.out.cell 3; simpa using this
  have lKH : w21.heap.size < w24.heap.size := HKH.out.lt
  go_wp2_with (fail)
  refine (heldFabric_c s p m _ 1 zh.length w24 HG2.out.rd (by decide) (by omega)).mono ?_
  rintro e w25 ⟨rfl, b⟩
  clear cKA0 cKA1 cKA2 cKA3 lKA cKW0 cKW1 cKW2 cKW3 lKW cKX0 cKX1 cKX2 cKX3 lKX cKG0 cKG1 cKG2 cKG3 lKG cKH0 cKH1 cKH2 cKH3 lKH
  have z25 : w24.heap.size ≤ w25.heap.size := b.size
  have HB' : Hid (Below w.heap.size w w25) := belowCall HB.out b HB.out.size
  have HKA' : Hid (Blk w25 w.heap.size (F4 s p m (.slice a ln cap)) 43) := HKA.out.below b HKA.out.lt
  have HW' : Hid (OtH w2.heap.size w3.heap.size w25 (.slice aw zh.length cpw) zh) := HW.out.below b
  have HMW' : Hid (OpH w2.heap.size w3.heap.size w25 mvw mh) := HMW.out.below b
  have HKW' : Hid (Blk w25 w3.heap.size (F4 s p m (.slice aw zh.length cpw)) 26) := HKW.out.below b HKW.out.lt
  have HKX' : Hid (Blk w25 w5.heap.size (F4 s p m (.slice ax cs.length cx)) 26) := HKX.out.below b HKX.out.lt
  have HKG' : Hid (Blk w25 w7.heap.size (F4 s p m (.slice ag zh.length cpg)) 26) := HKG.out.below b HKG.out.lt
  have HG2' : Hid (OtH glo ghi w25 (.slice ag zh.length cpg) (mkT 1 zh.length)) := HG2.out.below b
  have HMG2' : Hid (OpH mlo mhi w25 mvg (mkM (1 + 3 * (zh.length : Int)) mh.length)) := HMG2.out.below b
  have HR' : Hid (Rt w25 (.slice aq zh.length cpq) zh) := HR.out.below b
  have HMR' : Hid (Rp mf mg w25 mvh mh) := HMR.out.below b
  have HKH' : Hid (Blk w25 w21.heap.size (F4 s p m (.slice aq zh.length cpq)) 26) := HKH.out.below b HKH.out.lt
  clear HB HKA HW HMW HKW HKX HKG HG2 HMG2 HR HMR HKH
  have HB := HB'
  have HKA := HKA'
  have HW := HW'
  have HMW := HMW'
  have HKW := HKW'
  have HKX := HKX'
  have HKG := HKG'
  have HG2 := HG2'
  have HMG2 := HMG2'
  have HR := HR'
  have HMR := HMR'
  have HKH := HKH'
  clear HB' HKA' HW' HMW' HKW' HKX' HKG' HG2' HMG2' HR' HMR' HKH'
  clear b
  have cKA0 : w25.cell? ⟨w.heap.size, 0, none⟩ = some (.int .i64 s) := by have := HKA.out.cell 0; simpa using this
  have cKA1 : w25.cell? ⟨w.heap.size, 1, none⟩ = some (.int .i64 p) := by have := HKA.out.cell 1; simpa using this
  have cKA2 : w25.cell? ⟨w.heap.size, 2, none⟩ = some (.int .i64 m) := by have := HKA.out.cell 2; simpa using this
  have cKA3 : w25.cell? ⟨w.heap.size, 3, none⟩ = some (.slice a ln cap) := by have := HKA.out.cell 3; simpa using this
  have lKA : w.heap.size < w25.heap.size := HKA.out.lt
  have cKW0 : w25.cell? ⟨w3.heap.size, 0, none⟩ = some (.int .i64 s) := by have := HKW.out.cell 0; simpa using this
  have cKW1 : w25.cell? ⟨w3.heap.size, 1, none⟩ = some (.int .i64 p) := by have := HKW.out.cell 1; simpa using this
  have cKW2 : w25.cell? ⟨w3.heap.size, 2, none⟩ = some (.int .i64 m) := by have := HKW.out.cell 2; simpa using this
  have cKW3 : w25.cell? ⟨w3.heap.size, 3, none⟩ = some (.slice aw zh.length cpw) := by have := HKW.out.cell 3; simpa using this
  have lKW : w3.heap.size < w25.heap.size := HKW.out.lt
  have cKX0 : w25.cell? ⟨w5.heap.size, 0, none⟩ = some (.int .i64 s) := by have := HKX.out.cell 0; simpa using this
  have cKX1 : w25.cell? ⟨w5.heap.size, 1, none⟩ = some (.int .i64 p) := by have := HKX.out.cell 1; simpa using this
  have cKX2 : w25.cell? ⟨w5.heap.size, 2, none⟩ = some (.int .i64 m) := by have := HKX.out.cell 2; simpa using this
  have cKX3 : w25.cell? ⟨w5.heap.size, 3, none⟩ = some (.slice ax cs.length cx) := by have := HKX.out.cell 3; simpa using this
  have lKX : w5.heap.size < w25.heap.size := HKX.out.lt
  have cKG0 : w25.cell? ⟨w7.heap.size, 0, none⟩ = some (.int .i64 s) := by have := HKG.out.cell 0; simpa using this
  have cKG1 : w25.cell? ⟨w7.heap.size, 1, none⟩ = some (.int .i64 p) := by have := HKG.out.cell 1; simpa using this
  have cKG2 : w25.cell? ⟨w7.heap.size, 2, none⟩ = some (.int .i64 m) := by have := HKG.out.cell 2; simpa using this
  have cKG3 : w25.cell? ⟨w7.heap.size, 3, none⟩ = some (.slice ag zh.length cpg) := by have := HKG.out.cell 3; simpa using this
  have lKG : w7.heap.size < w25.heap.size := HKG.out.lt
  have cKH0 : w25.cell? ⟨w21.heap.size, 0, none⟩ = some (.int .i64 s) := by have := HKH.out.cell 0; simpa using this
  have cKH1 : w25.cell? ⟨w21.heap.size, 1, none⟩ = some (.int .i64 p) := by have := HKH.out.cell 1; simpa using this
  have cKH2 : w25.cell? ⟨w21.heap.size, 2, none⟩ = some (.int .i64 m) := by have := HKH.out.cell 2; simpa using this
  have cKH3 : w25.cell? ⟨w21.heap.size, 3, none⟩ = some (.slice aq zh.length cpq) := by have := HKH.out.cell 3; simpa using this
  have lKH : w21.heap.size < w25.heap.size := HKH.out.lt
  go_wp2_with (fail)
  refine (heldMoveS_c _ (1 + 3 * (zh.length : Int)) mh.length w25 HMG2.out.rd (by omega) (by omega)).mono ?_
  rintro e w26 ⟨rfl, b⟩
  clear cKA0 cKA1 cKA2 cKA3 lKA cKW0 cKW1 cKW2 cKW3 lKW cKX0 cKX1 cKX2 cKX3 lKX cKG0 cKG1 cKG2 cKG3 lKG cKH0 cKH1 cKH2 cKH3 lKH
  have z26 : w25.heap.size ≤ w26.heap.size := b.size
  have HB' : Hid (Below w.heap.size w w26) := belowCall HB.out b HB.out.size
  have HKA' : Hid (Blk w26 w.heap.size (F4 s p m (.slice a ln cap)) 43) := HKA.out.below b HKA.out.lt
  have HW' : Hid (OtH w2.heap.size w3.heap.size w26 (.slice aw zh.length cpw) zh) := HW.out.below b
  have HMW' : Hid (OpH w2.heap.size w3.heap.size w26 mvw mh) := HMW.out.below b
  have HKW' : Hid (Blk w26 w3.heap.size (F4 s p m (.slice aw zh.length cpw)) 26) := HKW.out.below b HKW.out.lt
  have HKX' : Hid (Blk w26 w5.heap.size (F4 s p m (.slice ax cs.length cx)) 26) := HKX.out.below b HKX.out.lt
  have HKG' : Hid (Blk w26 w7.heap.size (F4 s p m (.slice ag zh.length cpg)) 26) := HKG.out.below b HKG.out.lt
  have HG2' : Hid (OtH glo ghi w26 (.slice ag zh.length cpg) (mkT 1 zh.length)) := HG2.out.below b
  have HMG2' : Hid (OpH mlo mhi w26 mvg (mkM (1 + 3 * (zh.length : Int)) mh.length)) := HMG2.out.below b
  have HR' : Hid (Rt w26 (.slice aq zh.length cpq) zh) := HR.out.below b
  have HMR' : Hid (Rp mf mg w26 mvh mh) := HMR.out.below b
  have HKH' : Hid (Blk w26 w21.heap.size (F4 s p m (.slice aq zh.length cpq)) 26) := HKH.out.below b HKH.out.lt
  clear HB HKA HW HMW HKW HKX HKG HG2 HMG2 HR HMR HKH
  have HB := HB'
  have HKA := HKA'
  have HW := HW'
  have HMW := HMW'
  have HKW := HKW'
  have HKX := HKX'
  have HKG := HKG'
  have HG2 := HG2'
  have HMG2 := HMG2'
  have HR := HR'
  have HMR := HMR'
  have HKH := HKH'
  clear HB' HKA' HW' HMW' HKW' HKX' HKG' HG2' HMG2' HR' HMR' HKH'
  clear b
  have cKA0 : w26.cell? ⟨w.heap.size, 0, none⟩ = some (.int .i64 s) := by have := HKA.out.cell 0; simpa using this
  have cKA1 : w26.cell? ⟨w.heap.size, 1, none⟩ = some (.int .i64 p) := by have := HKA.out.cell 1; simpa using this
  have cKA2 : w26.cell? ⟨w.heap.size, 2, none⟩ = some (.int .i64 m) := by have := HKA.out.cell 2; simpa using this
  have cKA3 : w26.cell? ⟨w.heap.size, 3, none⟩ = some (.slice a ln cap) := by have := HKA.out.cell 3; simpa using this
  have lKA : w.heap.size < w26.heap.size := HKA.out.lt
  have cKW0 : w26.cell? ⟨w3.heap.size, 0, none⟩ = some (.int .i64 s) := by have := HKW.out.cell 0; simpa using this
  have cKW1 : w26.cell? ⟨w3.heap.size, 1, none⟩ = some (.int .i64 p) := by have := HKW.out.cell 1; simpa using this
  have cKW2 : w26.cell? ⟨w3.heap.size, 2, none⟩ = some (.int .i64 m) := by have := HKW.out.cell 2; simpa using this
  have cKW3 : w26.cell? ⟨w3.heap.size, 3, none⟩ = some (.slice aw zh.length cpw) := by have := HKW.out.cell 3; simpa using this
  have lKW : w3.heap.size < w26.heap.size := HKW.out.lt
  have cKX0 : w26.cell? ⟨w5.heap.size, 0, none⟩ = some (.int .i64 s) := by have := HKX.out.cell 0; simpa using this
  have cKX1 : w26.cell? ⟨w5.heap.size, 1, none⟩ = some (.int .i64 p) := by have := HKX.out.cell 1; simpa using this
  have cKX2 : w26.cell? ⟨w5.heap.size, 2, none⟩ = some (.int .i64 m) := by have := HKX.out.cell 2; simpa using this
  have cKX3 : w26.cell? ⟨w5.heap.size, 3, none⟩ = some (.slice ax cs.length cx) := by have := HKX.out.cell 3; simpa using this
  have lKX : w5.heap.size < w26.heap.size := HKX.out.lt
  have cKG0 : w26.cell? ⟨w7.heap.size, 0, none⟩ = some (.int .i64 s) := by have := HKG.out.cell 0; simpa using this
  have cKG1 : w26.cell? ⟨w7.heap.size, 1, none⟩ = some (.int .i64 p) := by have := HKG.out.cell 1; simpa using this
  have cKG2 : w26.cell? ⟨w7.heap.size, 2, none⟩ = some (.int .i64 m) := by have := HKG.out.cell 2; simpa using this
  have cKG3 : w26.cell? ⟨w7.heap.size, 3, none⟩ = some (.slice ag zh.length cpg) := by have := HKG.out.cell 3; simpa using this
  have lKG : w7.heap.size < w26.heap.size := HKG.out.lt
  have cKH0 : w26.cell? ⟨w21.heap.size, 0, none⟩ = some (.int .i64 s) := by have := HKH.out.cell 0; simpa using this
  have cKH1 : w26.cell? ⟨w21.heap.size, 1, none⟩ = some (.int .i64 p) := by have := HKH.out.cell 1; simpa using this
  have cKH2 : w26.cell? ⟨w21.heap.size, 2, none⟩ = some (.int .i64 m) := by have := HKH.out.cell 2; simpa using this
  have cKH3 : w26.cell? ⟨w21.heap.size, 3, none⟩ = some (.slice aq zh.length cpq) := by have := HKH.out.cell 3; simpa using this
  have lKH : w21.heap.size < w26.heap.size := HKH.out.lt
  go_wp2
  go_ret
  exact ⟨rfl, HB.out⟩
end Go.Proofs.YtikhfeafbckjlaaDoor
