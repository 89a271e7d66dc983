/- l8Draw; no condition. -/
import Derived.Test.YtpmmgbinogokfaaDrE
import Derived.Test.YtpmmgbinogokfaaRnM
import Derived.Test.YtpmmgbinogokfaaInv
import Derived.Deep.DeepCutAuto
namespace Go.Proofs.Ytpmmgbinogokfaa
open Go.RowKit Go.ChangeShapes Go.WideShapes Go.ChangeAt
set_option linter.unusedVariables false
set_option linter.unusedSimpArgs false
set_option maxRecDepth 8000
theorem Rg.oneAg {W : World} {X : Nat} {x : Ag} (h : Blk W X #[.int .i64 x.1, .int .i64 x.2.1, .int .i64 x.2.2] 36) : Rg 3 agC W (.slice (some ⟨X, 0, none⟩) 1 1) [x] := by
  refine ⟨_, _, rfl, Nat.le_refl _, by simp [maxLen], .inr ⟨X, 0, rfl, fun i hi => ?_⟩⟩
  have h0 : i = 0 := by simpa using hi
  subst h0
  intro j u hu
  have := h.cell j
  simp at hu ⊢
  rw [this]
  simpa using hu
theorem Ow.lit (W : World) (P : Nat) (zs : List Int) (hP : P ≤ W.heap.size) (h : zs.length ≤ 1000) : Ow .i64 3 P (W.alloc (.cells (zs.map (Value.int .i64)).toArray 3)) (.slice (some ⟨W.heap.size, 0, none⟩) zs.length zs.length) zs := by
  have := World.ownsRow_lit (e := 3) (size := 1) (base := P) W (zs.map (Value.int .i64)).toArray zs.length hP (by unfold maxLen; omega) (by simp)
  unfold Ow; simpa using this
theorem Ow.offR {k : IntKind} {e e' : TypeId} {base base' s n : Nat} {W W' : World} {v v' : Value} {zs : List Int} {xs : List Value} (h : Ow k e base W v zs) (h' : W.ownsRow base' e' s v' n xs) (hne : e ≠ e') (hg : W.grownBy W' v'.ownBlock) : Ow k e base W' v zs :=
  World.ownsRow.kept h hg (row_ne h h' hne)
theorem Blk.offR {e t : TypeId} {base s n P : Nat} {W W' : World} {v : Value} {xs : List Value} {cs : Array Value} (h : Blk W P cs t) (h' : W.ownsRow base e s v n xs) (hne : e ≠ t) (hg : W.grownBy W' v.ownBlock) : Blk W' P cs t := by
  have h1 := row_blk h' h hne
  exact h.grown hg (fun e => h1 e.symm)
structure Sg (w : World) (P : Nat) (g : Nat) (cv : Value) (zs : List Int) (X : Nat) (R : Nat) (va : Value) (gs : List Ag) (d : Nat → Bool) (W : World) (v0 v1 v2 v3 v4 v5 v6 v7 v8 v9 : Value) (z : Int) (Y6 : Nat) : Prop where
  D : Dc w W g cv zs
  B0 : d 9 = false → Blk W X (D4 0 va (.slice none 0 0) 0) 27
  B1 : d 9 = true → Blk W X (D4 0 v7 (.slice none 0 0) 0) 27
  K : Blk W R (D4 0 (.slice none 0 0) (.slice none 0 0) 0) 27
  o0 : d 7 = false → Og 3 agC 36 P W va gs
  f0 : d 0 = true → v0 = .pointer (some ⟨X, 1, none⟩)
  f1 : d 1 = true → v1 = va
  f2 : d 2 = true → v2 = .pointer (some ⟨g, 0, none⟩)
  o3 : d 3 = true → Ow .i64 3 P W v3 [1, 3, 2, 7, 0, 4]
  f4 : d 4 = true → v4 = .int .i64 z
  f5 : d 5 = true → v5 = .agg #[.int .i64 z, .int .i64 (-1), .int .i64 0]
  f6 : d 6 = true → v6 = .slice (some ⟨Y6, 0, none⟩) 1 1 ∧ P ≤ Y6
  o6 : d 6 = true → d 7 = false → Blk W Y6 #[.int .i64 z, .int .i64 (-1), .int .i64 0] 36
  ap : d 6 = true → d 7 = false → va.ownBlock ≠ some Y6
  o7 : d 7 = true → Og 3 agC 36 P W v7 (gs ++ [(z, -1, 0)])
  f8 : d 8 = true → v8 = .pointer (some ⟨X, 1, none⟩)
  g5_4 : d 5 = true → d 4 = true
  g6_5 : d 6 = true → d 5 = true
  g7_1 : d 7 = true → d 1 = true
  g7_6 : d 7 = true → d 6 = true
  g9_7 : d 9 = true → d 7 = true
def SgS (w : World) (P : Nat) (g : Nat) (cv : Value) (zs : List Int) (X : Nat) (R : Nat) (va : Value) (gs : List Ag) (d : Nat → Bool) (q : List Value) (W : World) : Prop := ∃ v0 v1 v2 v3 v4 v5 v6 v7 v8 v9 z Y6, q = [v0, v1, v2, v3, v4, v5, v6, v7, v8, v9] ∧ Sg w P g cv zs X R va gs d W v0 v1 v2 v3 v4 v5 v6 v7 v8 v9 z Y6
theorem Sg.below {w : World} {P : Nat} {g : Nat} {cv : Value} {zs : List Int} {X : Nat} {R : Nat} {va : Value} {gs : List Ag} {d : Nat → Bool} {W W' : World} {v0 v1 v2 v3 v4 v5 v6 v7 v8 v9 : Value} {z : Int} {Y6 : Nat} (h : Sg w P g cv zs X R va gs d W v0 v1 v2 v3 v4 v5 v6 v7 v8 v9 z Y6) (hb : Below W.heap.size W W') : Sg w P g cv zs X R va gs d W' v0 v1 v2 v3 v4 v5 v6 v7 v8 v9 z Y6 :=
  { h with
    D := h.D.below hb
    B0 := fun e0 => (h.B0 e0).below hb (h.B0 e0).lt
    B1 := fun e0 => (h.B1 e0).below hb (h.B1 e0).lt
    K := h.K.below hb h.K.lt
    o0 := fun e0 => (h.o0 e0).below hb
    o3 := fun e0 => (h.o3 e0).below hb
    o6 := fun e0 e1 => (h.o6 e0 e1).below hb (h.o6 e0 e1).lt
    o7 := fun e0 => (h.o7 e0).below hb
  }
theorem Sg.draw {w : World} {P : Nat} {g : Nat} {cv : Value} {zs : List Int} {X : Nat} {R : Nat} {va : Value} {gs : List Ag} {d : Nat → Bool} {W W' : World} {v0 v1 v2 v3 v4 v5 v6 v7 v8 v9 : Value} {z : Int} {Y6 : Nat} (h : Sg w P g cv zs X R va gs d W v0 v1 v2 v3 v4 v5 v6 v7 v8 v9 z Y6) (hgC : g < P) (hB0g : X ≠ g) (hKg : R ≠ g) (hd : Dr W' g cv zs) (hg : W.grownBy W' (some g)) : Sg w P g cv zs X R va gs d W' v0 v1 v2 v3 v4 v5 v6 v7 v8 v9 z Y6 :=
  { h with
    D := h.D.draw hd hg
    B0 := fun e0 => (h.B0 e0).grown hg (by have := hB0g; simpa using this)
    B1 := fun e0 => (h.B1 e0).grown hg (by simpa using hB0g)
    K := h.K.grown hg (by have := hKg; simpa using this)
    o0 := fun e0 => (h.o0 e0).draw hg hgC
    o3 := fun e0 => (h.o3 e0).draw hg hgC
    o6 := fun e0 e1 => (h.o6 e0 e1).grown hg (fun e => by have h1 := (h.f6 e0).2; simp at e; omega)
    o7 := fun e0 => (h.o7 e0).draw hg hgC
  }
theorem OwD.draw {base g : Nat} {W W' : World} {va vq : Value} {gs : List Ag} {qs : List Wt} (h : OwD base W va vq gs qs) (hg : W.grownBy W' (some g)) (hlt : g < base) : OwD base W' va vq gs qs := ⟨h.1.draw hg hlt, h.2.1.draw hg hlt, h.2.2⟩
structure Sh (w : World) (P : Nat) (g : Nat) (cv : Value) (zs : List Int) (X : Nat) (R : Nat) (va : Value) (gs : List Ag) (m : Nat) (vc : Value) (d : Nat → Bool) (W : World) (v0 v1 v2 v3 v4 v5 v6 v7 v8 v9 v10 v11 v12 v13 v14 v15 : Value) (os : List Do) (r : Ds × List Int × List Int) (va' : Value) (vq' : Value) (vg' : Value) (vc' : Value) : Prop where
  D : Dc w W g cv zs
  B0 : d 15 = false → Blk W X (D4 0 va (.slice none 0 0) 0) 27
  B1 : d 15 = true → Blk W X (D4 r.1.1 va' vq' r.1.2.1) 27
  K : Blk W R (D4 0 (.slice none 0 0) (.slice none 0 0) 0) 27
  o0 : Og 3 agC 36 P W va gs
  f0 : d 0 = true → v0 = .agg (D4 0 va (.slice none 0 0) 0)
  f1 : d 1 = true → v1 = .pointer (some ⟨g, 0, none⟩)
  f2 : d 2 = true → v2 = .pointer (some ⟨X, 1, none⟩)
  f3 : d 3 = true → v3 = va
  f4 : d 4 = true → v4 = .int .i64 (m : Int)
  f5 : d 5 = true → v5 = .pointer (some ⟨g, 0, none⟩)
  f6 : d 6 = true → v6 = vc
  f7 : d 7 = true → ∃ x : Int, v7 = .int .i64 x ∧ x ≤ 30
  f8 : d 8 = true → ∃ x : Int, v8 = .int .i64 x ∧ x ≤ 30
  o9 : d 9 = true → Og 5 doC 38 P W v9 os
  l9 : d 9 = true → os.length ≤ 30
  f10 : d 10 = true → v10 = (.tuple #[.agg (D4 r.1.1 va' vq' r.1.2.1), vg', vc'])
  o10 : d 10 = true → OwD P W va' vq' r.1.2.2.1 r.1.2.2.2
  rr : d 10 = true → r = rnF (0, 0, gs, []) os
  f11 : d 11 = true → v11 = (.tuple #[.agg (D4 r.1.1 va' vq' r.1.2.1), vg', vc'])
  f12 : d 12 = true → v12 = (.agg (D4 r.1.1 va' vq' r.1.2.1))
  g4_3 : d 4 = true → d 3 = true
  g9_4 : d 9 = true → d 4 = true
  g10_0 : d 10 = true → d 0 = true
  g10_9 : d 10 = true → d 9 = true
  g11_10 : d 11 = true → d 10 = true
  g12_11 : d 12 = true → d 11 = true
  g15_12 : d 15 = true → d 12 = true
def ShS (w : World) (P : Nat) (g : Nat) (cv : Value) (zs : List Int) (X : Nat) (R : Nat) (va : Value) (gs : List Ag) (m : Nat) (vc : Value) (d : Nat → Bool) (q : List Value) (W : World) : Prop := ∃ v0 v1 v2 v3 v4 v5 v6 v7 v8 v9 v10 v11 v12 v13 v14 v15 os r va' vq' vg' vc', q = [v0, v1, v2, v3, v4, v5, v6, v7, v8, v9, v10, v11, v12, v13, v14, v15] ∧ Sh w P g cv zs X R va gs m vc d W v0 v1 v2 v3 v4 v5 v6 v7 v8 v9 v10 v11 v12 v13 v14 v15 os r va' vq' vg' vc'
theorem Sh.below {w : World} {P : Nat} {g : Nat} {cv : Value} {zs : List Int} {X : Nat} {R : Nat} {va : Value} {gs : List Ag} {m : Nat} {vc : Value} {d : Nat → Bool} {W W' : World} {v0 v1 v2 v3 v4 v5 v6 v7 v8 v9 v10 v11 v12 v13 v14 v15 : Value} {os : List Do} {r : Ds × List Int × List Int} {va' : Value} {vq' : Value} {vg' : Value} {vc' : Value} (h : Sh w P g cv zs X R va gs m vc d W v0 v1 v2 v3 v4 v5 v6 v7 v8 v9 v10 v11 v12 v13 v14 v15 os r va' vq' vg' vc') (hb : Below W.heap.size W W') : Sh w P g cv zs X R va gs m vc d W' v0 v1 v2 v3 v4 v5 v6 v7 v8 v9 v10 v11 v12 v13 v14 v15 os r va' vq' vg' vc' :=
  { h with
    D := h.D.below hb
    B0 := fun e0 => (h.B0 e0).below hb (h.B0 e0).lt
    B1 := fun e0 => (h.B1 e0).below hb (h.B1 e0).lt
    K := h.K.below hb h.K.lt
    o0 := h.o0.below hb
    o9 := fun e0 => (h.o9 e0).below hb
    o10 := fun e0 => (h.o10 e0).below hb
  }
theorem Sh.draw {w : World} {P : Nat} {g : Nat} {cv : Value} {zs : List Int} {X : Nat} {R : Nat} {va : Value} {gs : List Ag} {m : Nat} {vc : Value} {d : Nat → Bool} {W W' : World} {v0 v1 v2 v3 v4 v5 v6 v7 v8 v9 v10 v11 v12 v13 v14 v15 : Value} {os : List Do} {r : Ds × List Int × List Int} {va' : Value} {vq' : Value} {vg' : Value} {vc' : Value} (h : Sh w P g cv zs X R va gs m vc d W v0 v1 v2 v3 v4 v5 v6 v7 v8 v9 v10 v11 v12 v13 v14 v15 os r va' vq' vg' vc') (hgC : g < P) (hB0g : X ≠ g) (hKg : R ≠ g) (hd : Dr W' g cv zs) (hg : W.grownBy W' (some g)) : Sh w P g cv zs X R va gs m vc d W' v0 v1 v2 v3 v4 v5 v6 v7 v8 v9 v10 v11 v12 v13 v14 v15 os r va' vq' vg' vc' :=
  { h with
    D := h.D.draw hd hg
    B0 := fun e0 => (h.B0 e0).grown hg (by have := hB0g; simpa using this)
    B1 := fun e0 => (h.B1 e0).grown hg (by simpa using hB0g)
    K := h.K.grown hg (by have := hKg; simpa using this)
    o0 := h.o0.draw hg hgC
    o9 := fun e0 => (h.o9 e0).draw hg hgC
    o10 := fun e0 => (h.o10 e0).draw hg hgC
  }
def DsR (g : Nat) (cv : Value) (zs : List Int) (w : World) (e : Ending) (w' : World) : Prop := ∃ n t va vq gs qs, e = .returned (.agg (D4 n va vq t)) ∧ OwD w.heap.size w' va vq gs qs ∧ (1 ≤ gs.length ∧ gs.length ≤ 100 ∧ qs.length ≤ 100) ∧ Dr w' g cv zs ∧ w.grownBy w' (some g)
set_option maxHeartbeats 25600000 in
theorem l8Draw_c (g : Nat) (cv : Value) (zs : List Int) (vc : Value) (cs : List Int) (w : World) (h : Dr w g cv zs) (hc : Rd .u8 w vc cs) (hcg : cs = [] ∨ vc.ownBlock = none ∨ vc.ownBlock ≠ some g) : Calls Try.prog 71 #[.pointer (some ⟨g, 0, none⟩), vc] w (DsR g cv zs w) := by
  have b0 : Below w.heap.size w ((w.alloc (Obj.cells (D4 0 (.slice none 0 0) (.slice none 0 0) 0) 27)).alloc (Obj.cells (D4 0 (.slice none 0 0) (.slice none 0 0) 0) 27)) := ((Below.refl _ _).alloc (Nat.le_refl _) _).alloc (by simp) _
  have k0 : Blk ((w.alloc (Obj.cells (D4 0 (.slice none 0 0) (.slice none 0 0) 0) 27)).alloc (Obj.cells (D4 0 (.slice none 0 0) (.slice none 0 0) 0) 27)) w.heap.size (D4 0 (.slice none 0 0) (.slice none 0 0) 0) 27 := (Blk.new _ _ _).alloc _
  have k1 : Blk ((w.alloc (Obj.cells (D4 0 (.slice none 0 0) (.slice none 0 0) 0) 27)).alloc (Obj.cells (D4 0 (.slice none 0 0) (.slice none 0 0) 0) 27)) (w.heap.size + 1) (D4 0 (.slice none 0 0) (.slice none 0 0) 0) 27 := Blk.newAt _ (w.heap.size + 1) _ 27 (by simp)
  have D0 := (Dc.start h).below b0
  have HGC : Hid (Dc w w g cv zs) := Dc.start h
  have HCD : Hid (Rd .u8 w vc cs ∧ (cs = [] ∨ vc.ownBlock = none ∨ vc.ownBlock ≠ some g)) := ⟨hc, hcg⟩
  obtain ⟨P, hP⟩ : ∃ P, w.heap.size = P := ⟨_, rfl⟩
  have HP : Hid (w.heap.size = P) := hP
  have HGP : Hid (g < P) := by rw [Hid, ← hP]; exact h.lt
  obtain ⟨W0, hW0⟩ : ∃ W, (w.alloc (Obj.cells (D4 0 (.slice none 0 0) (.slice none 0 0) 0) 27)).alloc (Obj.cells (D4 0 (.slice none 0 0) (.slice none 0 0) 0) 27) = W := ⟨_, rfl⟩
  rw [hW0] at D0 k0 k1
  rw [hP] at k0 k1
  have HW0 : Hid (_ = W0) := hW0
  have NEK : Hid (P ≠ g) := by have := HGP.out; show P ≠ g; omega
  have NET : Hid (P + 1 ≠ g) := by have := HGP.out; show P + 1 ≠ g; omega
  have HXG : Hid (P + 1 ≠ g) := NET.out
  have HRG : Hid (P ≠ g) := NEK.out
  have HXP : Hid (w.heap.size ≤ P + 1) := by rw [Hid, hP]; omega
  have HRX : Hid (P ≠ P + 1) := by show P ≠ P + 1; omega
  have D_W0 : Hid (Dc w W0 g cv zs) := D0
  have K_W0 : Hid (Blk W0 P (D4 0 (.slice none 0 0) (.slice none 0 0) 0) 27) := k0
  have T_W0 : Hid (Blk W0 (P + 1) (D4 0 (.slice none 0 0) (.slice none 0 0) 0) 27) := k1
  clear b0 k0 k1 D0 h hc hcg hW0
  go_enter Try.func71, Try.ntmps71
  go_wp2_with (fail)
  rw [HW0.out]
  refine (below_c g cv zs 4 _ D_W0.out.dr (by omega)).mono ?_
  rintro e w1 ⟨x, rfl, hx0, hx1, hx2, d1, g1⟩
  have D_w1 : Hid (Dc w w1 g cv zs) := D_W0.out.draw d1 g1
  have K_w1 : Hid (Blk w1 P (D4 0 (.slice none 0 0) (.slice none 0 0) 0) 27) := K_W0.out.grown g1 (by have := NEK.out; simpa using this)
  have T_w1 : Hid (Blk w1 (P + 1) (D4 0 (.slice none 0 0) (.slice none 0 0) 0) 27) := T_W0.out.grown g1 (by have := NET.out; simpa using this)
  clear d1 g1 hx2 HW0 D_W0 K_W0 T_W0
  have hx1 := hx1 (by omega)
  go_wp2
  go_loopw [6] (fun i wr => ∃ (n : Nat) (va : Value) (gs : List Ag), i = .int .i64 n ∧ (1 ≤ n ∨ 1 ≤ gs.length) ∧ gs.length + n ≤ 5 ∧ Hid (Dc w wr g cv zs ∧ Blk wr (P + 1) (D4 0 va (.slice none 0 0) 0) 27 ∧ Blk wr P (D4 0 (.slice none 0 0) (.slice none 0 0) 0) 27 ∧ Og 3 agC 36 P wr va gs)) (fun i _ => (intOf i).toNat)
  case atStart => exact ⟨(1 + x).toNat, (.slice none 0 0), [], by rw [Int.toNat_of_nonneg (by omega)], .inl (by omega), by simp; omega, D_w1.out, T_w1.out, K_w1.out, Og.nil _ _ _ _ _⟩
  case round =>
    obtain ⟨n, va, gs, rfl, hng, hle, hh⟩ := hrel
    clear D_w1 K_w1 T_w1 hx0 hx1
    have HLN : Hid (gs.length ≤ 5) := by show _ ≤ _; omega
    obtain ⟨oa, oc, rfl⟩ := hh.out.2.2.2.form
    obtain ⟨m, hm⟩ : ∃ m, gs.length = m := ⟨_, rfl⟩
    have HM : Hid (gs.length = m) := hm
    rw [hm] at hh
    clear hm
    by_cases hpos : n = 0
    case neg =>
      have hposI : (0 : Int) < (n : Int) := by omega
      have HS0 : Hid (Dc w (wr.drew) g cv zs ∧ Blk (wr.drew) (P + 1) (D4 0 (.slice oa m oc) (.slice none 0 0) 0) 27 ∧ Blk (wr.drew) P (D4 0 (.slice none 0 0) (.slice none 0 0) 0) 27 ∧ Og 3 agC 36 P (wr.drew) (.slice oa m oc) gs) := ⟨hh.out.1.below (Below.refl _ _).drew, hh.out.2.1, hh.out.2.2.1, (hh.out.2.2.2).below (Below.refl _ _).drew⟩
      clear hh
      go_upto_region 5 with (fail)
      rw [show decide (0 < n) = true from (by simp; omega)]
      refine region_vals [undef, undef, undef, undef, undef, undef, undef, undef, undef, undef] (SgS (w) (P) (g) (cv) (zs) (P + 1) (P) (.slice oa m oc) (gs)) (by kernel_rfl) (by kernel_rfl) ?_ ⟨?_, ?_, ?_, ?_, ?_, ?_, ?_, ?_, ?_, ?_, trivial⟩ ?_
      · refine ⟨_, _, _, _, _, _, _, _, _, _, 0, 0, rfl, ⟨(HS0.out.1), (fun _ => HS0.out.2.1), (fun e => by cases e), (HS0.out.2.2.1), (fun _ => HS0.out.2.2.2), ?_, ?_, ?_, ?_, ?_, ?_, ?_, ?_, ?_, ?_, ?_, ?_, ?_, ?_, ?_, ?_⟩⟩ <;> simp
      · rintro d vs W ⟨v0, v1, v2, v3, v4, v5, v6, v7, v8, v9, z, Y6, rfl, H⟩ hn hd
        simp only [putAll, Act.put, List.setIfInBounds_toArray, List.set_cons_succ, List.set_cons_zero]
        have HH1 : Hid (Sg (w) (P) (g) (cv) (zs) (P + 1) (P) (.slice oa m oc) (gs) d W v0 v1 v2 v3 v4 v5 v6 v7 v8 v9 z Y6) := H
        clear H
        have HHN : Hid (d 0 = false) := hn
        clear hd hn
        go_wp2
        have H0 := HH1.out
        have H := HH1.out
        have hn := HHN.out
        refine ⟨rfl, [.pointer (some ⟨P + 1, 1, none⟩), v1, v2, v3, v4, v5, v6, v7, v8, v9], ?_, .pointer (some ⟨P + 1, 1, none⟩), v1, v2, v3, v4, v5, v6, v7, v8, v9, z, Y6, rfl, ⟨H.D, (by have h := H.B0; simpa [doneSet] using h), (by have h := H.B1; simpa [doneSet] using h), H.K, (by have h := H.o0; simpa [doneSet] using h), (fun _ => rfl), (by have h := H.f1; simpa [doneSet] using h), (by have h := H.f2; simpa [doneSet] using h), (by have h := H.o3; simpa [doneSet] using h), (by have h := H.f4; simpa [doneSet] using h), (by have h := H.f5; simpa [doneSet] using h), (by have h := H.f6; simpa [doneSet] using h), (by have h := H.o6; simpa [doneSet] using h), (by have h := H.ap; simpa [doneSet] using h), (by have h := H.o7; simpa [doneSet] using h), (by have h := H.f8; simpa [doneSet] using h), (by have h := H.g5_4; simpa [doneSet] using h), (by have h := H.g6_5; simpa [doneSet] using h), (by have h := H.g7_1; simpa [doneSet] using h), (by have h := H.g7_6; simpa [doneSet] using h), (by have h := H.g9_7; simpa [doneSet] using h)⟩⟩
        simp only [putAll, Act.put, List.setIfInBounds_toArray, List.set_cons_succ, List.set_cons_zero]
      · rintro d vs W ⟨v0, v1, v2, v3, v4, v5, v6, v7, v8, v9, z, Y6, rfl, H⟩ hn hd
        simp only [putAll, Act.put, List.setIfInBounds_toArray, List.set_cons_succ, List.set_cons_zero]
        have h0 : d 0 = true := hd { on := 0, ground := .data } (by simp) rfl
        have h9 : d 9 = false := by
          cases hx : d 9 with
          | false => rfl
          | true => have h1 := H.g7_1 (H.g9_7 hx); rw [hn] at h1; cases h1
        have y1 := (H.B0 h9).cell 1
        simp at y1
        obtain rfl := H.f0 h0
        have HH1 : Hid (Sg (w) (P) (g) (cv) (zs) (P + 1) (P) (.slice oa m oc) (gs) d W (.pointer (some ⟨(P + 1), 1, none⟩)) v1 v2 v3 v4 v5 v6 v7 v8 v9 z Y6) := H
        clear H
        have HHN : Hid (d 1 = false) := hn
        have HHD : Hid (d 0 = true) := h0
        clear hd hn h0 h9
        go_wp2
        have H0 := HH1.out
        have H := HH1.out
        have hn := HHN.out
        have h0 := HHD.out
        refine ⟨rfl, [.pointer (some ⟨(P + 1), 1, none⟩), .slice oa m oc, v2, v3, v4, v5, v6, v7, v8, v9], ?_, .pointer (some ⟨(P + 1), 1, none⟩), .slice oa m oc, v2, v3, v4, v5, v6, v7, v8, v9, z, Y6, rfl, ⟨H.D, (by have h := H.B0; simpa [doneSet] using h), (by have h := H.B1; simpa [doneSet] using h), H.K, (by have h := H.o0; simpa [doneSet] using h), (fun _ => rfl), (fun _ => rfl), (by have h := H.f2; simpa [doneSet] using h), (by have h := H.o3; simpa [doneSet] using h), (by have h := H.f4; simpa [doneSet] using h), (by have h := H.f5; simpa [doneSet] using h), (by have h := H.f6; simpa [doneSet] using h), (by have h := H.o6; simpa [doneSet] using h), (by have h := H.ap; simpa [doneSet] using h), (by have h := H.o7; simpa [doneSet] using h), (by have h := H.f8; simpa [doneSet] using h), (by have h := H.g5_4; simpa [doneSet] using h), (by have h := H.g6_5; simpa [doneSet] using h), (fun _ => by simp [doneSet]), (by have h := H.g7_6; simpa [doneSet] using h), (by have h := H.g9_7; simpa [doneSet] using h)⟩⟩
        simp only [putAll, Act.put, List.setIfInBounds_toArray, List.set_cons_succ, List.set_cons_zero]
      · rintro d vs W ⟨v0, v1, v2, v3, v4, v5, v6, v7, v8, v9, z, Y6, rfl, H⟩ hn hd
        simp only [putAll, Act.put, List.setIfInBounds_toArray, List.set_cons_succ, List.set_cons_zero]
        have HH1 : Hid (Sg (w) (P) (g) (cv) (zs) (P + 1) (P) (.slice oa m oc) (gs) d W v0 v1 v2 v3 v4 v5 v6 v7 v8 v9 z Y6) := H
        clear H
        have HHN : Hid (d 2 = false) := hn
        clear hd hn
        go_wp2
        have H0 := HH1.out
        have H := HH1.out
        have hn := HHN.out
        refine ⟨rfl, [v0, v1, .pointer (some ⟨g, 0, none⟩), v3, v4, v5, v6, v7, v8, v9], ?_, v0, v1, .pointer (some ⟨g, 0, none⟩), v3, v4, v5, v6, v7, v8, v9, z, Y6, rfl, ⟨H.D, (by have h := H.B0; simpa [doneSet] using h), (by have h := H.B1; simpa [doneSet] using h), H.K, (by have h := H.o0; simpa [doneSet] using h), (by have h := H.f0; simpa [doneSet] using h), (by have h := H.f1; simpa [doneSet] using h), (fun _ => rfl), (by have h := H.o3; simpa [doneSet] using h), (by have h := H.f4; simpa [doneSet] using h), (by have h := H.f5; simpa [doneSet] using h), (by have h := H.f6; simpa [doneSet] using h), (by have h := H.o6; simpa [doneSet] using h), (by have h := H.ap; simpa [doneSet] using h), (by have h := H.o7; simpa [doneSet] using h), (by have h := H.f8; simpa [doneSet] using h), (by have h := H.g5_4; simpa [doneSet] using h), (by have h := H.g6_5; simpa [doneSet] using h), (by have h := H.g7_1; simpa [doneSet] using h), (by have h := H.g7_6; simpa [doneSet] using h), (by have h := H.g9_7; simpa [doneSet] using h)⟩⟩
        simp only [putAll, Act.put, List.setIfInBounds_toArray, List.set_cons_succ, List.set_cons_zero]
      · rintro d vs W ⟨v0, v1, v2, v3, v4, v5, v6, v7, v8, v9, z, Y6, rfl, H⟩ hn hd
        simp only [putAll, Act.put, List.setIfInBounds_toArray, List.set_cons_succ, List.set_cons_zero]
        have HH1 : Hid (Sg (w) (P) (g) (cv) (zs) (P + 1) (P) (.slice oa m oc) (gs) d W v0 v1 v2 v3 v4 v5 v6 v7 v8 v9 z Y6) := H
        clear H
        have HHN : Hid (d 3 = false) := hn
        clear hd hn
        go_wp2
        have H0 := HH1.out
        have H := HH1.out.below ((Below.refl _ W).alloc (Nat.le_refl _) (.cells #[.int .i64 1, .int .i64 3, .int .i64 2, .int .i64 7, .int .i64 0, .int .i64 4] 3))
        have hn := HHN.out
        refine ⟨rfl, [v0, v1, v2, .slice (some ⟨W.heap.size, 0, none⟩) 6 6, v4, v5, v6, v7, v8, v9], ?_, v0, v1, v2, .slice (some ⟨W.heap.size, 0, none⟩) 6 6, v4, v5, v6, v7, v8, v9, z, Y6, rfl, ⟨H.D, (by have h := H.B0; simpa [doneSet] using h), (by have h := H.B1; simpa [doneSet] using h), H.K, (by have h := H.o0; simpa [doneSet] using h), (by have h := H.f0; simpa [doneSet] using h), (by have h := H.f1; simpa [doneSet] using h), (by have h := H.f2; simpa [doneSet] using h), (fun _ => Ow.lit W P [1, 3, 2, 7, 0, 4] (by have h1 := H0.D.gr.size; have h2 := HP.out; omega) (by decide)), (by have h := H.f4; simpa [doneSet] using h), (by have h := H.f5; simpa [doneSet] using h), (by have h := H.f6; simpa [doneSet] using h), (by have h := H.o6; simpa [doneSet] using h), (by have h := H.ap; simpa [doneSet] using h), (by have h := H.o7; simpa [doneSet] using h), (by have h := H.f8; simpa [doneSet] using h), (by have h := H.g5_4; simpa [doneSet] using h), (by have h := H.g6_5; simpa [doneSet] using h), (by have h := H.g7_1; simpa [doneSet] using h), (by have h := H.g7_6; simpa [doneSet] using h), (by have h := H.g9_7; simpa [doneSet] using h)⟩⟩
        simp only [putAll, Act.put, List.setIfInBounds_toArray, List.set_cons_succ, List.set_cons_zero]
      · rintro d vs W ⟨v0, v1, v2, v3, v4, v5, v6, v7, v8, v9, z, Y6, rfl, H⟩ hn hd
        simp only [putAll, Act.put, List.setIfInBounds_toArray, List.set_cons_succ, List.set_cons_zero]
        have h2 : d 2 = true := hd { on := 2, ground := .data } (by simp) rfl
        have h3 : d 3 = true := hd { on := 3, ground := .data } (by simp) rfl
        have HO3 : Hid (Ow .i64 3 P W v3 [1, 3, 2, 7, 0, 4]) := H.o3 h3
        obtain rfl := H.f2 h2
        have HH1 : Hid (Sg (w) (P) (g) (cv) (zs) (P + 1) (P) (.slice oa m oc) (gs) d W v0 v1 (.pointer (some ⟨g, 0, none⟩)) v3 v4 v5 v6 v7 v8 v9 z Y6) := H
        clear H
        have HHN : Hid (d 4 = false) := hn
        have HHD : Hid (d 2 = true ∧ d 3 = true) := ⟨h2, h3⟩
        clear hd hn h2 h3
        go_wp2_with (fail)
        refine (pickInt_c g cv zs v3 [1, 3, 2, 7, 0, 4] W HH1.out.D.dr HO3.out.rd (Ow.low HO3.out g HGP.out) (by decide) (by decide)).mono ?_
        rintro e W3 ⟨zz, rfl, d1, g1⟩
        have HDR : Hid (Dr W3 g cv zs ∧ W.grownBy W3 (some g)) := ⟨d1, g1⟩
        clear d1 g1
        go_wp2
        have H0 := HH1.out
        have H := HH1.out.draw HGP.out HXG.out HRG.out HDR.out.1 HDR.out.2
        have hn := HHN.out
        have h2 := HHD.out.1
        have h3 := HHD.out.2
        refine ⟨rfl, [v0, v1, .pointer (some ⟨g, 0, none⟩), v3, .int .i64 zz, v5, v6, v7, v8, v9], ?_, v0, v1, .pointer (some ⟨g, 0, none⟩), v3, .int .i64 zz, v5, v6, v7, v8, v9, zz, Y6, rfl, ⟨H.D, (by have h := H.B0; simpa [doneSet] using h), (by have h := H.B1; simpa [doneSet] using h), H.K, (by have h := H.o0; simpa [doneSet] using h), (by have h := H.f0; simpa [doneSet] using h), (by have h := H.f1; simpa [doneSet] using h), (fun _ => rfl), (by have h := H.o3; simpa [doneSet] using h), (fun _ => rfl), (fun e => absurd (H0.g5_4 (by simpa [doneSet] using e)) (by rw [hn]; simp)), (by have h := H.f6; simpa [doneSet] using h), (fun e _ => absurd (H0.g5_4 (H0.g6_5 (by simpa [doneSet] using e))) (by rw [hn]; simp)), (by have h := H.ap; simpa [doneSet] using h), (fun e => absurd (H0.g5_4 (H0.g6_5 (H0.g7_6 (by simpa [doneSet] using e)))) (by rw [hn]; simp)), (by have h := H.f8; simpa [doneSet] using h), (fun _ => by simp [doneSet]), (by have h := H.g6_5; simpa [doneSet] using h), (by have h := H.g7_1; simpa [doneSet] using h), (by have h := H.g7_6; simpa [doneSet] using h), (by have h := H.g9_7; simpa [doneSet] using h)⟩⟩
        simp only [putAll, Act.put, List.setIfInBounds_toArray, List.set_cons_succ, List.set_cons_zero]
      · rintro d vs W ⟨v0, v1, v2, v3, v4, v5, v6, v7, v8, v9, z, Y6, rfl, H⟩ hn hd
        simp only [putAll, Act.put, List.setIfInBounds_toArray, List.set_cons_succ, List.set_cons_zero]
        have h4 : d 4 = true := hd { on := 4, ground := .data } (by simp) rfl
        obtain rfl := H.f4 h4
        have HH1 : Hid (Sg (w) (P) (g) (cv) (zs) (P + 1) (P) (.slice oa m oc) (gs) d W v0 v1 v2 v3 (.int .i64 z) v5 v6 v7 v8 v9 z Y6) := H
        clear H
        have HHN : Hid (d 5 = false) := hn
        have HHD : Hid (d 4 = true) := h4
        clear hd hn h4
        go_wp2
        have H0 := HH1.out
        have H := HH1.out
        have hn := HHN.out
        have h4 := HHD.out
        refine ⟨rfl, [v0, v1, v2, v3, .int .i64 z, .agg #[.int .i64 z, .int .i64 (-1), .int .i64 0], v6, v7, v8, v9], ?_, v0, v1, v2, v3, .int .i64 z, .agg #[.int .i64 z, .int .i64 (-1), .int .i64 0], v6, v7, v8, v9, z, Y6, rfl, ⟨H.D, (by have h := H.B0; simpa [doneSet] using h), (by have h := H.B1; simpa [doneSet] using h), H.K, (by have h := H.o0; simpa [doneSet] using h), (by have h := H.f0; simpa [doneSet] using h), (by have h := H.f1; simpa [doneSet] using h), (by have h := H.f2; simpa [doneSet] using h), (by have h := H.o3; simpa [doneSet] using h), (fun _ => rfl), (fun _ => rfl), (by have h := H.f6; simpa [doneSet] using h), (by have h := H.o6; simpa [doneSet] using h), (by have h := H.ap; simpa [doneSet] using h), (by have h := H.o7; simpa [doneSet] using h), (by have h := H.f8; simpa [doneSet] using h), (fun _ => by simpa [doneSet] using h4), (fun _ => by simp [doneSet]), (by have h := H.g7_1; simpa [doneSet] using h), (by have h := H.g7_6; simpa [doneSet] using h), (by have h := H.g9_7; simpa [doneSet] using h)⟩⟩
        simp only [putAll, Act.put, List.setIfInBounds_toArray, List.set_cons_succ, List.set_cons_zero]
      · rintro d vs W ⟨v0, v1, v2, v3, v4, v5, v6, v7, v8, v9, z, Y6, rfl, H⟩ hn hd
        simp only [putAll, Act.put, List.setIfInBounds_toArray, List.set_cons_succ, List.set_cons_zero]
        have h5 : d 5 = true := hd { on := 5, ground := .data } (by simp) rfl
        obtain rfl := H.f5 h5
        have HH1 : Hid (Sg (w) (P) (g) (cv) (zs) (P + 1) (P) (.slice oa m oc) (gs) d W v0 v1 v2 v3 v4 (.agg #[.int .i64 z, .int .i64 (-1), .int .i64 0]) v6 v7 v8 v9 z Y6) := H
        clear H
        have HHN : Hid (d 6 = false) := hn
        have HHD : Hid (d 5 = true) := h5
        clear hd hn h5
        go_wp2
        have H0 := HH1.out
        have H := HH1.out.below ((Below.refl _ W).alloc (Nat.le_refl _) (.cells #[.int .i64 z, .int .i64 (-1), .int .i64 0] 36))
        have hn := HHN.out
        have h5 := HHD.out
        refine ⟨rfl, [v0, v1, v2, v3, v4, .agg #[.int .i64 z, .int .i64 (-1), .int .i64 0], .slice (some ⟨W.heap.size, 0, none⟩) 1 1, v7, v8, v9], ?_, v0, v1, v2, v3, v4, .agg #[.int .i64 z, .int .i64 (-1), .int .i64 0], .slice (some ⟨W.heap.size, 0, none⟩) 1 1, v7, v8, v9, z, W.heap.size, rfl, ⟨H.D, (by have h := H.B0; simpa [doneSet] using h), (by have h := H.B1; simpa [doneSet] using h), H.K, (by have h := H.o0; simpa [doneSet] using h), (by have h := H.f0; simpa [doneSet] using h), (by have h := H.f1; simpa [doneSet] using h), (by have h := H.f2; simpa [doneSet] using h), (by have h := H.o3; simpa [doneSet] using h), (by have h := H.f4; simpa [doneSet] using h), (fun _ => rfl), (fun _ => ⟨rfl, (by have h1 := H0.D.gr.size; have h2 := HP.out; omega)⟩), (fun _ _ => Blk.new _ _ _), (fun _ e7 e => by have h1 := (Og.lt (H0.o0 (by simpa [doneSet] using e7)) _ e).2; omega), (by have h := H.o7; simpa [doneSet] using h), (by have h := H.f8; simpa [doneSet] using h), (by have h := H.g5_4; simpa [doneSet] using h), (fun _ => by simpa [doneSet] using h5), (by have h := H.g7_1; simpa [doneSet] using h), (fun _ => by simp [doneSet]), (by have h := H.g9_7; simpa [doneSet] using h)⟩⟩
        simp only [putAll, Act.put, List.setIfInBounds_toArray, List.set_cons_succ, List.set_cons_zero]
      · rintro d vs W ⟨v0, v1, v2, v3, v4, v5, v6, v7, v8, v9, z, Y6, rfl, H⟩ hn hd
        simp only [putAll, Act.put, List.setIfInBounds_toArray, List.set_cons_succ, List.set_cons_zero]
        have h1 : d 1 = true := hd { on := 1, ground := .data } (by simp) rfl
        have h6 : d 6 = true := hd { on := 6, ground := .data } (by simp) rfl
        have hv6 := (H.f6 h6).1
        have HO : Hid (Og 3 agC 36 P W (.slice oa m oc) gs ∧ Rg 3 agC W v6 [(z, -1, 0)]) := ⟨H.o0 hn, by rw [hv6]; exact Rg.oneAg (H.o6 h6 hn)⟩
        clear hv6
        obtain rfl := H.f1 h1
        have HH1 : Hid (Sg (w) (P) (g) (cv) (zs) (P + 1) (P) (.slice oa m oc) (gs) d W v0 ((.slice oa m oc)) v2 v3 v4 v5 v6 v7 v8 v9 z Y6) := H
        clear H
        have HHN : Hid (d 7 = false) := hn
        have HHD : Hid (d 1 = true ∧ d 6 = true) := ⟨h1, h6⟩
        clear hd hn h1 h6
        go_wp2_with (at_builtin; refine appAg rfl _ _ rfl P _ gs rfl HO.out.1 _ [(z, -1, 0)] rfl HO.out.2 (by have := HLN.out; simp; omega) (by have h1 := HH1.out.D.gr.size; have h2 := HP.out; omega) ?_)
        intro v' w' ho hg hv
        have HG : Hid (Og 3 agC 36 P w' v' (gs ++ [(z, -1, 0)]) ∧ W.grownBy w' (.slice oa m oc : Value).ownBlock) := ⟨ho, hg⟩
        clear ho hg hv
        go_wp2
        obtain ⟨ho, hg⟩ := HG.out
        have H0 := HH1.out
        have H := HH1.out
        have hn := HHN.out
        have h1 := HHD.out.1
        have h6 := HHD.out.2
        refine ⟨rfl, [v0, (.slice oa m oc), v2, v3, v4, v5, v6, v', v8, v9], ?_, v0, (.slice oa m oc), v2, v3, v4, v5, v6, v', v8, v9, z, Y6, rfl, ⟨(H.D.app (fun k e => by rw [HP.out]; exact (Og.lt HO.out.1 k e).1) hg), (fun e => (H.B0 (by simpa [doneSet] using e)).offR HO.out.1 (by decide) hg), (fun e => absurd (H.g9_7 (by simpa [doneSet] using e)) (by rw [hn]; simp)), (H.K.offR HO.out.1 (by decide) hg), (fun e => by simp [doneSet] at e), (by have h := H.f0; simpa [doneSet] using h), (fun _ => rfl), (by have h := H.f2; simpa [doneSet] using h), (fun e => (H.o3 (by simpa [doneSet] using e)).offR HO.out.1 (by decide) hg), (by have h := H.f4; simpa [doneSet] using h), (by have h := H.f5; simpa [doneSet] using h), (by have h := H.f6; simpa [doneSet] using h), (fun _ e => by simp [doneSet] at e), (fun _ e => by simp [doneSet] at e), (fun _ => ho), (by have h := H.f8; simpa [doneSet] using h), (by have h := H.g5_4; simpa [doneSet] using h), (by have h := H.g6_5; simpa [doneSet] using h), (fun _ => by simpa [doneSet] using h1), (fun _ => by simpa [doneSet] using h6), (fun _ => by simp [doneSet])⟩⟩
        simp only [putAll, Act.put, List.setIfInBounds_toArray, List.set_cons_succ, List.set_cons_zero]
      · rintro d vs W ⟨v0, v1, v2, v3, v4, v5, v6, v7, v8, v9, z, Y6, rfl, H⟩ hn hd
        simp only [putAll, Act.put, List.setIfInBounds_toArray, List.set_cons_succ, List.set_cons_zero]
        have HH1 : Hid (Sg (w) (P) (g) (cv) (zs) (P + 1) (P) (.slice oa m oc) (gs) d W v0 v1 v2 v3 v4 v5 v6 v7 v8 v9 z Y6) := H
        clear H
        have HHN : Hid (d 8 = false) := hn
        clear hd hn
        go_wp2
        have H0 := HH1.out
        have H := HH1.out
        have hn := HHN.out
        refine ⟨rfl, [v0, v1, v2, v3, v4, v5, v6, v7, .pointer (some ⟨P + 1, 1, none⟩), v9], ?_, v0, v1, v2, v3, v4, v5, v6, v7, .pointer (some ⟨P + 1, 1, none⟩), v9, z, Y6, rfl, ⟨H.D, (by have h := H.B0; simpa [doneSet] using h), (by have h := H.B1; simpa [doneSet] using h), H.K, (by have h := H.o0; simpa [doneSet] using h), (by have h := H.f0; simpa [doneSet] using h), (by have h := H.f1; simpa [doneSet] using h), (by have h := H.f2; simpa [doneSet] using h), (by have h := H.o3; simpa [doneSet] using h), (by have h := H.f4; simpa [doneSet] using h), (by have h := H.f5; simpa [doneSet] using h), (by have h := H.f6; simpa [doneSet] using h), (by have h := H.o6; simpa [doneSet] using h), (by have h := H.ap; simpa [doneSet] using h), (by have h := H.o7; simpa [doneSet] using h), (fun _ => rfl), (by have h := H.g5_4; simpa [doneSet] using h), (by have h := H.g6_5; simpa [doneSet] using h), (by have h := H.g7_1; simpa [doneSet] using h), (by have h := H.g7_6; simpa [doneSet] using h), (by have h := H.g9_7; simpa [doneSet] using h)⟩⟩
        simp only [putAll, Act.put, List.setIfInBounds_toArray, List.set_cons_succ, List.set_cons_zero]
      · rintro d vs W ⟨v0, v1, v2, v3, v4, v5, v6, v7, v8, v9, z, Y6, rfl, H⟩ hn hd
        simp only [putAll, Act.put, List.setIfInBounds_toArray, List.set_cons_succ, List.set_cons_zero]
        have h7 : d 7 = true := hd { on := 7, ground := .data } (by simp) rfl
        have h8 : d 8 = true := hd { on := 8, ground := .data } (by simp) rfl
        have hb := H.B0 hn
        have y1 := hb.cell 1
        have yf1 := hb.frozen 1
        simp at y1
        obtain ⟨a7, c7, hv7⟩ := (H.o7 h7).form
        obtain ⟨l7, hl7⟩ : ∃ l, (gs ++ [((z, -1, 0) : Ag)]).length = l := ⟨_, rfl⟩
        rw [hl7] at hv7
        subst hv7
        clear hl7 hb
        obtain rfl := H.f8 h8
        have HH1 : Hid (Sg (w) (P) (g) (cv) (zs) (P + 1) (P) (.slice oa m oc) (gs) d W v0 v1 v2 v3 v4 v5 v6 (.slice a7 l7 c7) (.pointer (some ⟨(P + 1), 1, none⟩)) v9 z Y6) := H
        clear H
        have HHN : Hid (d 9 = false) := hn
        have HHD : Hid (d 7 = true ∧ d 8 = true) := ⟨h7, h8⟩
        clear hd hn h7 h8
        go_wp2
        have gf : W.grownBy (W.setCell ⟨P + 1, 1, none⟩ (.slice a7 l7 c7)) (some (P + 1)) := grown_set' _ _ _ _
        have H0 := HH1.out
        have H := HH1.out
        have hn := HHN.out
        have h7 := HHD.out.1
        have h8 := HHD.out.2
        refine ⟨rfl, [v0, v1, v2, v3, v4, v5, v6, .slice a7 l7 c7, .pointer (some ⟨(P + 1), 1, none⟩), undef], ?_, v0, v1, v2, v3, v4, v5, v6, .slice a7 l7 c7, .pointer (some ⟨(P + 1), 1, none⟩), undef, z, Y6, rfl, ⟨(H.D.app (fun k e => by cases e; exact HXP.out) gf), (fun e => by simp [doneSet] at e), (fun _ => (H.B0 hn).set 1 _), (H.K.grown gf (fun e => HRX.out (Option.some.inj e))), (fun e => by simp [doneSet] at e; rw [h7] at e; cases e), (by have h := H.f0; simpa [doneSet] using h), (by have h := H.f1; simpa [doneSet] using h), (by have h := H.f2; simpa [doneSet] using h), (fun e => (H.o3 (by simpa [doneSet] using e)).off (H.B0 hn) (by decide) gf), (by have h := H.f4; simpa [doneSet] using h), (by have h := H.f5; simpa [doneSet] using h), (by have h := H.f6; simpa [doneSet] using h), (fun _ e => by simp [doneSet] at e; rw [h7] at e; cases e), (fun _ e => by simp [doneSet] at e; rw [h7] at e; cases e), (fun _ => World.ownsRow.kept (H.o7 h7) gf (.inr (row_blk (H.o7 h7) (H.B0 hn) (by decide)))), (fun _ => rfl), (by have h := H.g5_4; simpa [doneSet] using h), (by have h := H.g6_5; simpa [doneSet] using h), (by have h := H.g7_1; simpa [doneSet] using h), (by have h := H.g7_6; simpa [doneSet] using h), (fun _ => by simpa [doneSet] using h7)⟩⟩
        simp only [putAll, Act.put, List.setIfInBounds_toArray, List.set_cons_succ, List.set_cons_zero]
      rintro d vs W5 ⟨v0, v1, v2, v3, v4, v5, v6, v7, v8, v9, z, Y6, rfl, H⟩ hn
      have HF : Hid (Dc w W5 g cv zs ∧ Blk W5 (P + 1) (D4 0 v7 (.slice none 0 0) 0) 27 ∧ Blk W5 P (D4 0 (.slice none 0 0) (.slice none 0 0) 0) 27 ∧ Og 3 agC 36 P W5 v7 (gs ++ [(z, -1, 0)])) := ⟨H.D, H.B1 (hn 9 (by decide)), H.K, H.o7 (hn 7 (by decide))⟩
      simp only [putAll, Act.put, List.setIfInBounds_toArray, List.set_cons_succ, List.set_cons_zero]
      clear H hn HS0
      go_wp2
      go_roundw
      case rel => exact ⟨n - 1, v7, gs ++ [(z, -1, 0)], by congr 1; omega, .inr (by simp), by simp; omega, HF.out⟩
      case measure => simp [intOf]; omega
    case pos =>
      subst hpos
      have hg1 : 1 ≤ gs.length := by omega
      have HG1 : Hid (1 ≤ gs.length) := hg1
      have HS0 : Hid (Dc w (wr.drew) g cv zs ∧ Blk (wr.drew) (P + 1) (D4 0 (.slice oa m oc) (.slice none 0 0) 0) 27 ∧ Blk (wr.drew) P (D4 0 (.slice none 0 0) (.slice none 0 0) 0) 27 ∧ Og 3 agC 36 P (wr.drew) (.slice oa m oc) gs) := ⟨hh.out.1.below (Below.refl _ _).drew, hh.out.2.1, hh.out.2.2.1, (hh.out.2.2.2).below (Below.refl _ _).drew⟩
      clear hh hg1 hng
      obtain ⟨ca, cl0, cc, hcv⟩ : ∃ a n c, vc = .slice a n c := by obtain ⟨a, c, hh, -⟩ := HCD.out.1; exact ⟨_, _, _, hh⟩
      subst hcv
      go_upto_region 6 with (fail)
      rw [show ((0 : Nat) : Int) = 0 from rfl]
      refine region_vals [undef, undef, undef, undef, undef, undef, undef, undef, undef, undef, undef, undef, undef, undef, undef, undef] (ShS (w) (P) (g) (cv) (zs) (P + 1) (P) (.slice oa m oc) (gs) (m) (.slice ca cl0 cc)) (by kernel_rfl) (by kernel_rfl) ?_ ⟨?_, ?_, ?_, ?_, ?_, ?_, ?_, ?_, ?_, ?_, ?_, ?_, ?_, ?_, ?_, ?_, trivial⟩ ?_
      · refine ⟨_, _, _, _, _, _, _, _, _, _, _, _, _, _, _, _, [], ((0, 0, [], []), [], []), undef, undef, undef, undef, rfl, ⟨(HS0.out.1), (fun _ => HS0.out.2.1), (fun e => by cases e), (HS0.out.2.2.1), (HS0.out.2.2.2), ?_, ?_, ?_, ?_, ?_, ?_, ?_, ?_, ?_, ?_, ?_, ?_, ?_, ?_, ?_, ?_, ?_, ?_, ?_, ?_, ?_, ?_, ?_⟩⟩ <;> simp
      · rintro d vs W ⟨v0, v1, v2, v3, v4, v5, v6, v7, v8, v9, v10, v11, v12, v13, v14, v15, os, r, va', vq', vg', vc', rfl, H⟩ hn hd
        simp only [putAll, Act.put, List.setIfInBounds_toArray, List.set_cons_succ, List.set_cons_zero]
        have h15 : d 15 = false := by
          cases hx : d 15 with
          | false => rfl
          | true => have h1 := H.g10_0 (H.g11_10 (H.g12_11 (H.g15_12 hx))); rw [hn] at h1; cases h1
        have hb := H.B0 h15
        have y0 := hb.cell 0
        have y1 := hb.cell 1
        have y2 := hb.cell 2
        have y3 := hb.cell 3
        simp at y0 y1 y2 y3
        have HH1 : Hid (Sh (w) (P) (g) (cv) (zs) (P + 1) (P) (.slice oa m oc) (gs) (m) (.slice ca cl0 cc) d W v0 v1 v2 v3 v4 v5 v6 v7 v8 v9 v10 v11 v12 v13 v14 v15 os r va' vq' vg' vc') := H
        clear H
        have HHN : Hid (d 0 = false) := hn
        clear hd hn h15 hb
        go_wp2
        have H0 := HH1.out
        have H := HH1.out
        have hn := HHN.out
        refine ⟨rfl, [.agg (D4 0 (.slice oa m oc) (.slice none 0 0) 0), v1, v2, v3, v4, v5, v6, v7, v8, v9, v10, v11, v12, v13, v14, v15], ?_, .agg (D4 0 (.slice oa m oc) (.slice none 0 0) 0), v1, v2, v3, v4, v5, v6, v7, v8, v9, v10, v11, v12, v13, v14, v15, os, r, va', vq', vg', vc', rfl, ⟨H.D, (by have h := H.B0; simpa [doneSet] using h), (by have h := H.B1; simpa [doneSet] using h), H.K, H.o0, (fun _ => rfl), (by have h := H.f1; simpa [doneSet] using h), (by have h := H.f2; simpa [doneSet] using h), (by have h := H.f3; simpa [doneSet] using h), (by have h := H.f4; simpa [doneSet] using h), (by have h := H.f5; simpa [doneSet] using h), (by have h := H.f6; simpa [doneSet] using h), (by have h := H.f7; simpa [doneSet] using h), (by have h := H.f8; simpa [doneSet] using h), (by have h := H.o9; simpa [doneSet] using h), (by have h := H.l9; simpa [doneSet] using h), (by have h := H.f10; simpa [doneSet] using h), (by have h := H.o10; simpa [doneSet] using h), (by have h := H.rr; simpa [doneSet] using h), (by have h := H.f11; simpa [doneSet] using h), (by have h := H.f12; simpa [doneSet] using h), (by have h := H.g4_3; simpa [doneSet] using h), (by have h := H.g9_4; simpa [doneSet] using h), (fun _ => by simp [doneSet]), (by have h := H.g10_9; simpa [doneSet] using h), (by have h := H.g11_10; simpa [doneSet] using h), (by have h := H.g12_11; simpa [doneSet] using h), (by have h := H.g15_12; simpa [doneSet] using h)⟩⟩
        simp only [putAll, Act.put, List.setIfInBounds_toArray, List.set_cons_succ, List.set_cons_zero]
      · rintro d vs W ⟨v0, v1, v2, v3, v4, v5, v6, v7, v8, v9, v10, v11, v12, v13, v14, v15, os, r, va', vq', vg', vc', rfl, H⟩ hn hd
        simp only [putAll, Act.put, List.setIfInBounds_toArray, List.set_cons_succ, List.set_cons_zero]
        have HH1 : Hid (Sh (w) (P) (g) (cv) (zs) (P + 1) (P) (.slice oa m oc) (gs) (m) (.slice ca cl0 cc) d W v0 v1 v2 v3 v4 v5 v6 v7 v8 v9 v10 v11 v12 v13 v14 v15 os r va' vq' vg' vc') := H
        clear H
        have HHN : Hid (d 1 = false) := hn
        clear hd hn
        go_wp2
        have H0 := HH1.out
        have H := HH1.out
        have hn := HHN.out
        refine ⟨rfl, [v0, .pointer (some ⟨g, 0, none⟩), v2, v3, v4, v5, v6, v7, v8, v9, v10, v11, v12, v13, v14, v15], ?_, v0, .pointer (some ⟨g, 0, none⟩), v2, v3, v4, v5, v6, v7, v8, v9, v10, v11, v12, v13, v14, v15, os, r, va', vq', vg', vc', rfl, ⟨H.D, (by have h := H.B0; simpa [doneSet] using h), (by have h := H.B1; simpa [doneSet] using h), H.K, H.o0, (by have h := H.f0; simpa [doneSet] using h), (fun _ => rfl), (by have h := H.f2; simpa [doneSet] using h), (by have h := H.f3; simpa [doneSet] using h), (by have h := H.f4; simpa [doneSet] using h), (by have h := H.f5; simpa [doneSet] using h), (by have h := H.f6; simpa [doneSet] using h), (by have h := H.f7; simpa [doneSet] using h), (by have h := H.f8; simpa [doneSet] using h), (by have h := H.o9; simpa [doneSet] using h), (by have h := H.l9; simpa [doneSet] using h), (by have h := H.f10; simpa [doneSet] using h), (by have h := H.o10; simpa [doneSet] using h), (by have h := H.rr; simpa [doneSet] using h), (by have h := H.f11; simpa [doneSet] using h), (by have h := H.f12; simpa [doneSet] using h), (by have h := H.g4_3; simpa [doneSet] using h), (by have h := H.g9_4; simpa [doneSet] using h), (by have h := H.g10_0; simpa [doneSet] using h), (by have h := H.g10_9; simpa [doneSet] using h), (by have h := H.g11_10; simpa [doneSet] using h), (by have h := H.g12_11; simpa [doneSet] using h), (by have h := H.g15_12; simpa [doneSet] using h)⟩⟩
        simp only [putAll, Act.put, List.setIfInBounds_toArray, List.set_cons_succ, List.set_cons_zero]
      · rintro d vs W ⟨v0, v1, v2, v3, v4, v5, v6, v7, v8, v9, v10, v11, v12, v13, v14, v15, os, r, va', vq', vg', vc', rfl, H⟩ hn hd
        simp only [putAll, Act.put, List.setIfInBounds_toArray, List.set_cons_succ, List.set_cons_zero]
        have HH1 : Hid (Sh (w) (P) (g) (cv) (zs) (P + 1) (P) (.slice oa m oc) (gs) (m) (.slice ca cl0 cc) d W v0 v1 v2 v3 v4 v5 v6 v7 v8 v9 v10 v11 v12 v13 v14 v15 os r va' vq' vg' vc') := H
        clear H
        have HHN : Hid (d 2 = false) := hn
        clear hd hn
        go_wp2
        have H0 := HH1.out
        have H := HH1.out
        have hn := HHN.out
        refine ⟨rfl, [v0, v1, .pointer (some ⟨P + 1, 1, none⟩), v3, v4, v5, v6, v7, v8, v9, v10, v11, v12, v13, v14, v15], ?_, v0, v1, .pointer (some ⟨P + 1, 1, none⟩), v3, v4, v5, v6, v7, v8, v9, v10, v11, v12, v13, v14, v15, os, r, va', vq', vg', vc', rfl, ⟨H.D, (by have h := H.B0; simpa [doneSet] using h), (by have h := H.B1; simpa [doneSet] using h), H.K, H.o0, (by have h := H.f0; simpa [doneSet] using h), (by have h := H.f1; simpa [doneSet] using h), (fun _ => rfl), (by have h := H.f3; simpa [doneSet] using h), (by have h := H.f4; simpa [doneSet] using h), (by have h := H.f5; simpa [doneSet] using h), (by have h := H.f6; simpa [doneSet] using h), (by have h := H.f7; simpa [doneSet] using h), (by have h := H.f8; simpa [doneSet] using h), (by have h := H.o9; simpa [doneSet] using h), (by have h := H.l9; simpa [doneSet] using h), (by have h := H.f10; simpa [doneSet] using h), (by have h := H.o10; simpa [doneSet] using h), (by have h := H.rr; simpa [doneSet] using h), (by have h := H.f11; simpa [doneSet] using h), (by have h := H.f12; simpa [doneSet] using h), (by have h := H.g4_3; simpa [doneSet] using h), (by have h := H.g9_4; simpa [doneSet] using h), (by have h := H.g10_0; simpa [doneSet] using h), (by have h := H.g10_9; simpa [doneSet] using h), (by have h := H.g11_10; simpa [doneSet] using h), (by have h := H.g12_11; simpa [doneSet] using h), (by have h := H.g15_12; simpa [doneSet] using h)⟩⟩
        simp only [putAll, Act.put, List.setIfInBounds_toArray, List.set_cons_succ, List.set_cons_zero]
      · rintro d vs W ⟨v0, v1, v2, v3, v4, v5, v6, v7, v8, v9, v10, v11, v12, v13, v14, v15, os, r, va', vq', vg', vc', rfl, H⟩ hn hd
        simp only [putAll, Act.put, List.setIfInBounds_toArray, List.set_cons_succ, List.set_cons_zero]
        have h2 : d 2 = true := hd { on := 2, ground := .data } (by simp) rfl
        have h15 : d 15 = false := by
          cases hx : d 15 with
          | false => rfl
          | true => have h1 := H.g4_3 (H.g9_4 (H.g10_9 (H.g11_10 (H.g12_11 (H.g15_12 hx))))); rw [hn] at h1; cases h1
        have hb := H.B0 h15
        have y1 := hb.cell 1
        simp at y1
        obtain rfl := H.f2 h2
        have HH1 : Hid (Sh (w) (P) (g) (cv) (zs) (P + 1) (P) (.slice oa m oc) (gs) (m) (.slice ca cl0 cc) d W v0 v1 (.pointer (some ⟨(P + 1), 1, none⟩)) v3 v4 v5 v6 v7 v8 v9 v10 v11 v12 v13 v14 v15 os r va' vq' vg' vc') := H
        clear H
        have HHN : Hid (d 3 = false) := hn
        have HHD : Hid (d 2 = true) := h2
        clear hd hn h2 h15 hb
        go_wp2
        have H0 := HH1.out
        have H := HH1.out
        have hn := HHN.out
        have h2 := HHD.out
        refine ⟨rfl, [v0, v1, .pointer (some ⟨(P + 1), 1, none⟩), .slice oa m oc, v4, v5, v6, v7, v8, v9, v10, v11, v12, v13, v14, v15], ?_, v0, v1, .pointer (some ⟨(P + 1), 1, none⟩), .slice oa m oc, v4, v5, v6, v7, v8, v9, v10, v11, v12, v13, v14, v15, os, r, va', vq', vg', vc', rfl, ⟨H.D, (by have h := H.B0; simpa [doneSet] using h), (by have h := H.B1; simpa [doneSet] using h), H.K, H.o0, (by have h := H.f0; simpa [doneSet] using h), (by have h := H.f1; simpa [doneSet] using h), (fun _ => rfl), (fun _ => rfl), (by have h := H.f4; simpa [doneSet] using h), (by have h := H.f5; simpa [doneSet] using h), (by have h := H.f6; simpa [doneSet] using h), (by have h := H.f7; simpa [doneSet] using h), (by have h := H.f8; simpa [doneSet] using h), (by have h := H.o9; simpa [doneSet] using h), (by have h := H.l9; simpa [doneSet] using h), (by have h := H.f10; simpa [doneSet] using h), (by have h := H.o10; simpa [doneSet] using h), (by have h := H.rr; simpa [doneSet] using h), (by have h := H.f11; simpa [doneSet] using h), (by have h := H.f12; simpa [doneSet] using h), (fun _ => by simp [doneSet]), (by have h := H.g9_4; simpa [doneSet] using h), (by have h := H.g10_0; simpa [doneSet] using h), (by have h := H.g10_9; simpa [doneSet] using h), (by have h := H.g11_10; simpa [doneSet] using h), (by have h := H.g12_11; simpa [doneSet] using h), (by have h := H.g15_12; simpa [doneSet] using h)⟩⟩
        simp only [putAll, Act.put, List.setIfInBounds_toArray, List.set_cons_succ, List.set_cons_zero]
      · rintro d vs W ⟨v0, v1, v2, v3, v4, v5, v6, v7, v8, v9, v10, v11, v12, v13, v14, v15, os, r, va', vq', vg', vc', rfl, H⟩ hn hd
        simp only [putAll, Act.put, List.setIfInBounds_toArray, List.set_cons_succ, List.set_cons_zero]
        have h3 : d 3 = true := hd { on := 3, ground := .data } (by simp) rfl
        obtain rfl := H.f3 h3
        have HH1 : Hid (Sh (w) (P) (g) (cv) (zs) (P + 1) (P) (.slice oa m oc) (gs) (m) (.slice ca cl0 cc) d W v0 v1 v2 ((.slice oa m oc)) v4 v5 v6 v7 v8 v9 v10 v11 v12 v13 v14 v15 os r va' vq' vg' vc') := H
        clear H
        have HHN : Hid (d 4 = false) := hn
        have HHD : Hid (d 3 = true) := h3
        clear hd hn h3
        go_wp2
        have H0 := HH1.out
        have H := HH1.out
        have hn := HHN.out
        have h3 := HHD.out
        refine ⟨rfl, [v0, v1, v2, (.slice oa m oc), .int .i64 (m : Int), v5, v6, v7, v8, v9, v10, v11, v12, v13, v14, v15], ?_, v0, v1, v2, (.slice oa m oc), .int .i64 (m : Int), v5, v6, v7, v8, v9, v10, v11, v12, v13, v14, v15, os, r, va', vq', vg', vc', rfl, ⟨H.D, (by have h := H.B0; simpa [doneSet] using h), (by have h := H.B1; simpa [doneSet] using h), H.K, H.o0, (by have h := H.f0; simpa [doneSet] using h), (by have h := H.f1; simpa [doneSet] using h), (by have h := H.f2; simpa [doneSet] using h), (fun _ => rfl), (fun _ => rfl), (by have h := H.f5; simpa [doneSet] using h), (by have h := H.f6; simpa [doneSet] using h), (by have h := H.f7; simpa [doneSet] using h), (by have h := H.f8; simpa [doneSet] using h), (by have h := H.o9; simpa [doneSet] using h), (by have h := H.l9; simpa [doneSet] using h), (by have h := H.f10; simpa [doneSet] using h), (by have h := H.o10; simpa [doneSet] using h), (by have h := H.rr; simpa [doneSet] using h), (by have h := H.f11; simpa [doneSet] using h), (by have h := H.f12; simpa [doneSet] using h), (fun _ => by simpa [doneSet] using h3), (fun _ => by simp [doneSet]), (by have h := H.g10_0; simpa [doneSet] using h), (by have h := H.g10_9; simpa [doneSet] using h), (by have h := H.g11_10; simpa [doneSet] using h), (by have h := H.g12_11; simpa [doneSet] using h), (by have h := H.g15_12; simpa [doneSet] using h)⟩⟩
        simp only [putAll, Act.put, List.setIfInBounds_toArray, List.set_cons_succ, List.set_cons_zero]
      · rintro d vs W ⟨v0, v1, v2, v3, v4, v5, v6, v7, v8, v9, v10, v11, v12, v13, v14, v15, os, r, va', vq', vg', vc', rfl, H⟩ hn hd
        simp only [putAll, Act.put, List.setIfInBounds_toArray, List.set_cons_succ, List.set_cons_zero]
        have HH1 : Hid (Sh (w) (P) (g) (cv) (zs) (P + 1) (P) (.slice oa m oc) (gs) (m) (.slice ca cl0 cc) d W v0 v1 v2 v3 v4 v5 v6 v7 v8 v9 v10 v11 v12 v13 v14 v15 os r va' vq' vg' vc') := H
        clear H
        have HHN : Hid (d 5 = false) := hn
        clear hd hn
        go_wp2
        have H0 := HH1.out
        have H := HH1.out
        have hn := HHN.out
        refine ⟨rfl, [v0, v1, v2, v3, v4, .pointer (some ⟨g, 0, none⟩), v6, v7, v8, v9, v10, v11, v12, v13, v14, v15], ?_, v0, v1, v2, v3, v4, .pointer (some ⟨g, 0, none⟩), v6, v7, v8, v9, v10, v11, v12, v13, v14, v15, os, r, va', vq', vg', vc', rfl, ⟨H.D, (by have h := H.B0; simpa [doneSet] using h), (by have h := H.B1; simpa [doneSet] using h), H.K, H.o0, (by have h := H.f0; simpa [doneSet] using h), (by have h := H.f1; simpa [doneSet] using h), (by have h := H.f2; simpa [doneSet] using h), (by have h := H.f3; simpa [doneSet] using h), (by have h := H.f4; simpa [doneSet] using h), (fun _ => rfl), (by have h := H.f6; simpa [doneSet] using h), (by have h := H.f7; simpa [doneSet] using h), (by have h := H.f8; simpa [doneSet] using h), (by have h := H.o9; simpa [doneSet] using h), (by have h := H.l9; simpa [doneSet] using h), (by have h := H.f10; simpa [doneSet] using h), (by have h := H.o10; simpa [doneSet] using h), (by have h := H.rr; simpa [doneSet] using h), (by have h := H.f11; simpa [doneSet] using h), (by have h := H.f12; simpa [doneSet] using h), (by have h := H.g4_3; simpa [doneSet] using h), (by have h := H.g9_4; simpa [doneSet] using h), (by have h := H.g10_0; simpa [doneSet] using h), (by have h := H.g10_9; simpa [doneSet] using h), (by have h := H.g11_10; simpa [doneSet] using h), (by have h := H.g12_11; simpa [doneSet] using h), (by have h := H.g15_12; simpa [doneSet] using h)⟩⟩
        simp only [putAll, Act.put, List.setIfInBounds_toArray, List.set_cons_succ, List.set_cons_zero]
      · rintro d vs W ⟨v0, v1, v2, v3, v4, v5, v6, v7, v8, v9, v10, v11, v12, v13, v14, v15, os, r, va', vq', vg', vc', rfl, H⟩ hn hd
        simp only [putAll, Act.put, List.setIfInBounds_toArray, List.set_cons_succ, List.set_cons_zero]
        have HH1 : Hid (Sh (w) (P) (g) (cv) (zs) (P + 1) (P) (.slice oa m oc) (gs) (m) (.slice ca cl0 cc) d W v0 v1 v2 v3 v4 v5 v6 v7 v8 v9 v10 v11 v12 v13 v14 v15 os r va' vq' vg' vc') := H
        clear H
        have HHN : Hid (d 6 = false) := hn
        clear hd hn
        go_wp2
        have H0 := HH1.out
        have H := HH1.out
        have hn := HHN.out
        refine ⟨rfl, [v0, v1, v2, v3, v4, v5, .slice ca cl0 cc, v7, v8, v9, v10, v11, v12, v13, v14, v15], ?_, v0, v1, v2, v3, v4, v5, .slice ca cl0 cc, v7, v8, v9, v10, v11, v12, v13, v14, v15, os, r, va', vq', vg', vc', rfl, ⟨H.D, (by have h := H.B0; simpa [doneSet] using h), (by have h := H.B1; simpa [doneSet] using h), H.K, H.o0, (by have h := H.f0; simpa [doneSet] using h), (by have h := H.f1; simpa [doneSet] using h), (by have h := H.f2; simpa [doneSet] using h), (by have h := H.f3; simpa [doneSet] using h), (by have h := H.f4; simpa [doneSet] using h), (by have h := H.f5; simpa [doneSet] using h), (fun _ => rfl), (by have h := H.f7; simpa [doneSet] using h), (by have h := H.f8; simpa [doneSet] using h), (by have h := H.o9; simpa [doneSet] using h), (by have h := H.l9; simpa [doneSet] using h), (by have h := H.f10; simpa [doneSet] using h), (by have h := H.o10; simpa [doneSet] using h), (by have h := H.rr; simpa [doneSet] using h), (by have h := H.f11; simpa [doneSet] using h), (by have h := H.f12; simpa [doneSet] using h), (by have h := H.g4_3; simpa [doneSet] using h), (by have h := H.g9_4; simpa [doneSet] using h), (by have h := H.g10_0; simpa [doneSet] using h), (by have h := H.g10_9; simpa [doneSet] using h), (by have h := H.g11_10; simpa [doneSet] using h), (by have h := H.g12_11; simpa [doneSet] using h), (by have h := H.g15_12; simpa [doneSet] using h)⟩⟩
        simp only [putAll, Act.put, List.setIfInBounds_toArray, List.set_cons_succ, List.set_cons_zero]
      · rintro d vs W ⟨v0, v1, v2, v3, v4, v5, v6, v7, v8, v9, v10, v11, v12, v13, v14, v15, os, r, va', vq', vg', vc', rfl, H⟩ hn hd
        simp only [putAll, Act.put, List.setIfInBounds_toArray, List.set_cons_succ, List.set_cons_zero]
        have h6 : d 6 = true := hd { on := 6, ground := .data } (by simp) rfl
        obtain rfl := H.f6 h6
        have HH1 : Hid (Sh (w) (P) (g) (cv) (zs) (P + 1) (P) (.slice oa m oc) (gs) (m) (.slice ca cl0 cc) d W v0 v1 v2 v3 v4 v5 ((.slice ca cl0 cc)) v7 v8 v9 v10 v11 v12 v13 v14 v15 os r va' vq' vg' vc') := H
        clear H
        have HHN : Hid (d 7 = false) := hn
        have HHD : Hid (d 6 = true) := h6
        clear hd hn h6
        go_wp2_with (fail)
        refine (size_c (.slice ca cl0 cc) cs 30 W (HCD.out.1.grownE HH1.out.D.gr HCD.out.2) (by omega) (by omega)).mono ?_
        rintro e W3 ⟨xx, rfl, -, hxx, hw⟩
        rw [hw]
        have HXX : Hid (xx ≤ 30) := hxx
        clear hw hxx
        go_wp2
        have H0 := HH1.out
        have H := HH1.out
        have hn := HHN.out
        have h6 := HHD.out
        refine ⟨rfl, [v0, v1, v2, v3, v4, v5, (.slice ca cl0 cc), .int .i64 xx, v8, v9, v10, v11, v12, v13, v14, v15], ?_, v0, v1, v2, v3, v4, v5, (.slice ca cl0 cc), .int .i64 xx, v8, v9, v10, v11, v12, v13, v14, v15, os, r, va', vq', vg', vc', rfl, ⟨H.D, (by have h := H.B0; simpa [doneSet] using h), (by have h := H.B1; simpa [doneSet] using h), H.K, H.o0, (by have h := H.f0; simpa [doneSet] using h), (by have h := H.f1; simpa [doneSet] using h), (by have h := H.f2; simpa [doneSet] using h), (by have h := H.f3; simpa [doneSet] using h), (by have h := H.f4; simpa [doneSet] using h), (by have h := H.f5; simpa [doneSet] using h), (fun _ => rfl), (fun _ => ⟨_, rfl, HXX.out⟩), (by have h := H.f8; simpa [doneSet] using h), (by have h := H.o9; simpa [doneSet] using h), (by have h := H.l9; simpa [doneSet] using h), (by have h := H.f10; simpa [doneSet] using h), (by have h := H.o10; simpa [doneSet] using h), (by have h := H.rr; simpa [doneSet] using h), (by have h := H.f11; simpa [doneSet] using h), (by have h := H.f12; simpa [doneSet] using h), (by have h := H.g4_3; simpa [doneSet] using h), (by have h := H.g9_4; simpa [doneSet] using h), (by have h := H.g10_0; simpa [doneSet] using h), (by have h := H.g10_9; simpa [doneSet] using h), (by have h := H.g11_10; simpa [doneSet] using h), (by have h := H.g12_11; simpa [doneSet] using h), (by have h := H.g15_12; simpa [doneSet] using h)⟩⟩
        simp only [putAll, Act.put, List.setIfInBounds_toArray, List.set_cons_succ, List.set_cons_zero]
      · rintro d vs W ⟨v0, v1, v2, v3, v4, v5, v6, v7, v8, v9, v10, v11, v12, v13, v14, v15, os, r, va', vq', vg', vc', rfl, H⟩ hn hd
        simp only [putAll, Act.put, List.setIfInBounds_toArray, List.set_cons_succ, List.set_cons_zero]
        have h5 : d 5 = true := hd { on := 5, ground := .data } (by simp) rfl
        have h7 : d 7 = true := hd { on := 7, ground := .data } (by simp) rfl
        obtain ⟨x7, hv7, hx7⟩ := H.f7 h7
        subst hv7
        have HX7 : Hid (x7 ≤ 30) := hx7
        obtain rfl := H.f5 h5
        have HH1 : Hid (Sh (w) (P) (g) (cv) (zs) (P + 1) (P) (.slice oa m oc) (gs) (m) (.slice ca cl0 cc) d W v0 v1 v2 v3 v4 (.pointer (some ⟨g, 0, none⟩)) v6 (.int .i64 x7) v8 v9 v10 v11 v12 v13 v14 v15 os r va' vq' vg' vc') := H
        clear H
        have HHN : Hid (d 8 = false) := hn
        have HHD : Hid (d 5 = true ∧ d 7 = true) := ⟨h5, h7⟩
        clear hd hn h5 h7 hx7
        go_wp2_with (fail)
        refine (below_c g cv zs x7 W HH1.out.D.dr (by have := HX7.out; omega)).mono ?_
        rintro e W3 ⟨zz, rfl, z0, z1, z2, d1, g1⟩
        have HZ : Hid (zz ≤ 30) := by show _ ≤ _; have h30 := HX7.out; by_cases hp : 0 < x7; (have := z1 hp; omega); (have := z2 (by omega); omega)
        have HDR : Hid (Dr W3 g cv zs ∧ W.grownBy W3 (some g)) := ⟨d1, g1⟩
        clear d1 g1 z0 z1 z2
        go_wp2
        have H0 := HH1.out
        have H := HH1.out.draw HGP.out HXG.out HRG.out HDR.out.1 HDR.out.2
        have hn := HHN.out
        have h5 := HHD.out.1
        have h7 := HHD.out.2
        refine ⟨rfl, [v0, v1, v2, v3, v4, .pointer (some ⟨g, 0, none⟩), v6, .int .i64 x7, .int .i64 zz, v9, v10, v11, v12, v13, v14, v15], ?_, v0, v1, v2, v3, v4, .pointer (some ⟨g, 0, none⟩), v6, .int .i64 x7, .int .i64 zz, v9, v10, v11, v12, v13, v14, v15, os, r, va', vq', vg', vc', rfl, ⟨H.D, (by have h := H.B0; simpa [doneSet] using h), (by have h := H.B1; simpa [doneSet] using h), H.K, H.o0, (by have h := H.f0; simpa [doneSet] using h), (by have h := H.f1; simpa [doneSet] using h), (by have h := H.f2; simpa [doneSet] using h), (by have h := H.f3; simpa [doneSet] using h), (by have h := H.f4; simpa [doneSet] using h), (fun _ => rfl), (by have h := H.f6; simpa [doneSet] using h), (fun _ => ⟨_, rfl, HX7.out⟩), (fun _ => ⟨_, rfl, HZ.out⟩), (by have h := H.o9; simpa [doneSet] using h), (by have h := H.l9; simpa [doneSet] using h), (by have h := H.f10; simpa [doneSet] using h), (by have h := H.o10; simpa [doneSet] using h), (by have h := H.rr; simpa [doneSet] using h), (by have h := H.f11; simpa [doneSet] using h), (by have h := H.f12; simpa [doneSet] using h), (by have h := H.g4_3; simpa [doneSet] using h), (by have h := H.g9_4; simpa [doneSet] using h), (by have h := H.g10_0; simpa [doneSet] using h), (by have h := H.g10_9; simpa [doneSet] using h), (by have h := H.g11_10; simpa [doneSet] using h), (by have h := H.g12_11; simpa [doneSet] using h), (by have h := H.g15_12; simpa [doneSet] using h)⟩⟩
        simp only [putAll, Act.put, List.setIfInBounds_toArray, List.set_cons_succ, List.set_cons_zero]
      · rintro d vs W ⟨v0, v1, v2, v3, v4, v5, v6, v7, v8, v9, v10, v11, v12, v13, v14, v15, os, r, va', vq', vg', vc', rfl, H⟩ hn hd
        simp only [putAll, Act.put, List.setIfInBounds_toArray, List.set_cons_succ, List.set_cons_zero]
        have h1 : d 1 = true := hd { on := 1, ground := .data } (by simp) rfl
        have h4 : d 4 = true := hd { on := 4, ground := .data } (by simp) rfl
        have h8 : d 8 = true := hd { on := 8, ground := .data } (by simp) rfl
        obtain ⟨x8, hv8, hx8⟩ := H.f8 h8
        subst hv8
        have HX8 : Hid (x8 ≤ 30) := hx8
        obtain rfl := H.f1 h1
        obtain rfl := H.f4 h4
        have HH1 : Hid (Sh (w) (P) (g) (cv) (zs) (P + 1) (P) (.slice oa m oc) (gs) (m) (.slice ca cl0 cc) d W v0 (.pointer (some ⟨g, 0, none⟩)) v2 v3 (.int .i64 (m : Int)) v5 v6 v7 (.int .i64 x8) v9 v10 v11 v12 v13 v14 v15 os r va' vq' vg' vc') := H
        clear H
        have HHN : Hid (d 9 = false) := hn
        have HHD : Hid (d 1 = true ∧ d 4 = true ∧ d 8 = true) := ⟨h1, h4, h8⟩
        clear hd hn h1 h4 h8 hx8
        go_wp2_with (fail)
        refine (drawOps_c g cv zs 0 (m : Int) x8 W HH1.out.D.dr (by have := HM.out; have := HLN.out; omega) (by have := HX8.out; omega)).mono ?_
        rintro e W3 ⟨v9', os', rfl, ho, hl, d1, g1⟩
        have HO9 : Hid (Og 5 doC 38 P W3 v9' os' ∧ os'.length ≤ 30) := ⟨Og.mono ho (by have h1 := HH1.out.D.gr.size; have h2 := HP.out; omega), by have := HX8.out; omega⟩
        have HDR : Hid (Dr W3 g cv zs ∧ W.grownBy W3 (some g)) := ⟨d1, g1⟩
        clear d1 g1 ho hl
        go_wp2
        have H0 := HH1.out
        have H := HH1.out.draw HGP.out HXG.out HRG.out HDR.out.1 HDR.out.2
        have hn := HHN.out
        have h1 := HHD.out.1
        have h4 := HHD.out.2.1
        have h8 := HHD.out.2.2
        refine ⟨rfl, [v0, .pointer (some ⟨g, 0, none⟩), v2, v3, .int .i64 (m : Int), v5, v6, v7, .int .i64 x8, v9', v10, v11, v12, v13, v14, v15], ?_, v0, .pointer (some ⟨g, 0, none⟩), v2, v3, .int .i64 (m : Int), v5, v6, v7, .int .i64 x8, v9', v10, v11, v12, v13, v14, v15, os', r, va', vq', vg', vc', rfl, ⟨H.D, (by have h := H.B0; simpa [doneSet] using h), (by have h := H.B1; simpa [doneSet] using h), H.K, H.o0, (by have h := H.f0; simpa [doneSet] using h), (fun _ => rfl), (by have h := H.f2; simpa [doneSet] using h), (by have h := H.f3; simpa [doneSet] using h), (fun _ => rfl), (by have h := H.f5; simpa [doneSet] using h), (by have h := H.f6; simpa [doneSet] using h), (by have h := H.f7; simpa [doneSet] using h), (fun _ => ⟨_, rfl, HX8.out⟩), (fun _ => HO9.out.1), (fun _ => HO9.out.2), (by have h := H.f10; simpa [doneSet] using h), (by have h := H.o10; simpa [doneSet] using h), (fun e => absurd (H0.g10_9 (by simpa [doneSet] using e)) (by rw [hn]; simp)), (by have h := H.f11; simpa [doneSet] using h), (by have h := H.f12; simpa [doneSet] using h), (by have h := H.g4_3; simpa [doneSet] using h), (fun _ => by simpa [doneSet] using h4), (by have h := H.g10_0; simpa [doneSet] using h), (fun _ => by simp [doneSet]), (by have h := H.g11_10; simpa [doneSet] using h), (by have h := H.g12_11; simpa [doneSet] using h), (by have h := H.g15_12; simpa [doneSet] using h)⟩⟩
        simp only [putAll, Act.put, List.setIfInBounds_toArray, List.set_cons_succ, List.set_cons_zero]
      · rintro d vs W ⟨v0, v1, v2, v3, v4, v5, v6, v7, v8, v9, v10, v11, v12, v13, v14, v15, os, r, va', vq', vg', vc', rfl, H⟩ hn hd
        simp only [putAll, Act.put, List.setIfInBounds_toArray, List.set_cons_succ, List.set_cons_zero]
        have h0 : d 0 = true := hd { on := 0, ground := .data } (by simp) rfl
        have h9 : d 9 = true := hd { on := 9, ground := .data } (by simp) rfl
        have HO9 : Hid (Og 5 doC 38 P W v9 os) := H.o9 h9
        obtain rfl := H.f0 h0
        have HH1 : Hid (Sh (w) (P) (g) (cv) (zs) (P + 1) (P) (.slice oa m oc) (gs) (m) (.slice ca cl0 cc) d W (.agg (D4 0 (.slice oa m oc) (.slice none 0 0) 0)) v1 v2 v3 v4 v5 v6 v7 v8 v9 v10 v11 v12 v13 v14 v15 os r va' vq' vg' vc') := H
        clear H
        have HHN : Hid (d 10 = false) := hn
        have HHD : Hid (d 0 = true ∧ d 9 = true) := ⟨h0, h9⟩
        clear hd hn h0 h9
        go_wp2_with (fail)
        refine (runM_c 0 0 (.slice oa m oc) (.slice none 0 0) v9 gs [] os W (HH1.out.o0.rd agC_len) ((Og.nil 4 wtC 74 P W).rd wtC_len) (by have := HLN.out; omega) (by simp) (HO9.out.rd doC_len)).mono ?_
        rintro e W3 ⟨a2, q2, g2, c2, rfl, ho, -, -, -, hb⟩
        obtain ⟨r2, hr2⟩ : ∃ r, rnF (0, 0, gs, []) os = r := ⟨_, rfl⟩
        rw [hr2] at ho ⊢
        have HOB : Hid (OwD P W3 a2 q2 r2.1.2.2.1 r2.1.2.2.2 ∧ r2 = rnF (0, 0, gs, []) os ∧ Below W.heap.size W W3) := ⟨ho.mono (by have h1 := HH1.out.D.gr.size; have h2 := HP.out; omega), hr2.symm, hb⟩
        clear ho hr2 hb
        go_wp2
        have H0 := HH1.out
        have H := HH1.out.below HOB.out.2.2
        have hn := HHN.out
        have h0 := HHD.out.1
        have h9 := HHD.out.2
        refine ⟨rfl, [.agg (D4 0 (.slice oa m oc) (.slice none 0 0) 0), v1, v2, v3, v4, v5, v6, v7, v8, v9, (.tuple #[.agg (D4 r2.1.1 a2 q2 r2.1.2.1), g2, c2]), v11, v12, v13, v14, v15], ?_, .agg (D4 0 (.slice oa m oc) (.slice none 0 0) 0), v1, v2, v3, v4, v5, v6, v7, v8, v9, (.tuple #[.agg (D4 r2.1.1 a2 q2 r2.1.2.1), g2, c2]), v11, v12, v13, v14, v15, os, r2, a2, q2, g2, c2, rfl, ⟨H.D, (by have h := H.B0; simpa [doneSet] using h), (fun e => absurd (H0.g11_10 (H0.g12_11 (H0.g15_12 (by simpa [doneSet] using e)))) (by rw [hn]; simp)), H.K, H.o0, (fun _ => rfl), (by have h := H.f1; simpa [doneSet] using h), (by have h := H.f2; simpa [doneSet] using h), (by have h := H.f3; simpa [doneSet] using h), (by have h := H.f4; simpa [doneSet] using h), (by have h := H.f5; simpa [doneSet] using h), (by have h := H.f6; simpa [doneSet] using h), (by have h := H.f7; simpa [doneSet] using h), (by have h := H.f8; simpa [doneSet] using h), (by have h := H.o9; simpa [doneSet] using h), (by have h := H.l9; simpa [doneSet] using h), (fun _ => rfl), (fun _ => HOB.out.1), (fun _ => HOB.out.2.1), (fun e => absurd (H0.g11_10 (by simpa [doneSet] using e)) (by rw [hn]; simp)), (fun e => absurd (H0.g11_10 (H0.g12_11 (by simpa [doneSet] using e))) (by rw [hn]; simp)), (by have h := H.g4_3; simpa [doneSet] using h), (by have h := H.g9_4; simpa [doneSet] using h), (fun _ => by simpa [doneSet] using h0), (fun _ => by simpa [doneSet] using h9), (fun _ => by simp [doneSet]), (by have h := H.g12_11; simpa [doneSet] using h), (by have h := H.g15_12; simpa [doneSet] using h)⟩⟩
        simp only [putAll, Act.put, List.setIfInBounds_toArray, List.set_cons_succ, List.set_cons_zero]
      · rintro d vs W ⟨v0, v1, v2, v3, v4, v5, v6, v7, v8, v9, v10, v11, v12, v13, v14, v15, os, r, va', vq', vg', vc', rfl, H⟩ hn hd
        simp only [putAll, Act.put, List.setIfInBounds_toArray, List.set_cons_succ, List.set_cons_zero]
        have h10 : d 10 = true := hd { on := 10, ground := .data } (by simp) rfl
        obtain rfl := H.f10 h10
        have HH1 : Hid (Sh (w) (P) (g) (cv) (zs) (P + 1) (P) (.slice oa m oc) (gs) (m) (.slice ca cl0 cc) d W v0 v1 v2 v3 v4 v5 v6 v7 v8 v9 ((.tuple #[.agg (D4 r.1.1 va' vq' r.1.2.1), vg', vc'])) v11 v12 v13 v14 v15 os r va' vq' vg' vc') := H
        clear H
        have HHN : Hid (d 11 = false) := hn
        have HHD : Hid (d 10 = true) := h10
        clear hd hn h10
        go_wp2
        have H0 := HH1.out
        have H := HH1.out
        have hn := HHN.out
        have h10 := HHD.out
        refine ⟨rfl, [v0, v1, v2, v3, v4, v5, v6, v7, v8, v9, (.tuple #[.agg (D4 r.1.1 va' vq' r.1.2.1), vg', vc']), (.tuple #[.agg (D4 r.1.1 va' vq' r.1.2.1), vg', vc']), v12, v13, v14, v15], ?_, v0, v1, v2, v3, v4, v5, v6, v7, v8, v9, (.tuple #[.agg (D4 r.1.1 va' vq' r.1.2.1), vg', vc']), (.tuple #[.agg (D4 r.1.1 va' vq' r.1.2.1), vg', vc']), v12, v13, v14, v15, os, r, va', vq', vg', vc', rfl, ⟨H.D, (by have h := H.B0; simpa [doneSet] using h), (by have h := H.B1; simpa [doneSet] using h), H.K, H.o0, (by have h := H.f0; simpa [doneSet] using h), (by have h := H.f1; simpa [doneSet] using h), (by have h := H.f2; simpa [doneSet] using h), (by have h := H.f3; simpa [doneSet] using h), (by have h := H.f4; simpa [doneSet] using h), (by have h := H.f5; simpa [doneSet] using h), (by have h := H.f6; simpa [doneSet] using h), (by have h := H.f7; simpa [doneSet] using h), (by have h := H.f8; simpa [doneSet] using h), (by have h := H.o9; simpa [doneSet] using h), (by have h := H.l9; simpa [doneSet] using h), (fun _ => rfl), (by have h := H.o10; simpa [doneSet] using h), (by have h := H.rr; simpa [doneSet] using h), (fun _ => rfl), (by have h := H.f12; simpa [doneSet] using h), (by have h := H.g4_3; simpa [doneSet] using h), (by have h := H.g9_4; simpa [doneSet] using h), (by have h := H.g10_0; simpa [doneSet] using h), (by have h := H.g10_9; simpa [doneSet] using h), (fun _ => by simpa [doneSet] using h10), (fun _ => by simp [doneSet]), (by have h := H.g15_12; simpa [doneSet] using h)⟩⟩
        simp only [putAll, Act.put, List.setIfInBounds_toArray, List.set_cons_succ, List.set_cons_zero]
      · rintro d vs W ⟨v0, v1, v2, v3, v4, v5, v6, v7, v8, v9, v10, v11, v12, v13, v14, v15, os, r, va', vq', vg', vc', rfl, H⟩ hn hd
        simp only [putAll, Act.put, List.setIfInBounds_toArray, List.set_cons_succ, List.set_cons_zero]
        have h11 : d 11 = true := hd { on := 11, ground := .data } (by simp) rfl
        obtain rfl := H.f11 h11
        have HH1 : Hid (Sh (w) (P) (g) (cv) (zs) (P + 1) (P) (.slice oa m oc) (gs) (m) (.slice ca cl0 cc) d W v0 v1 v2 v3 v4 v5 v6 v7 v8 v9 v10 ((.tuple #[.agg (D4 r.1.1 va' vq' r.1.2.1), vg', vc'])) v12 v13 v14 v15 os r va' vq' vg' vc') := H
        clear H
        have HHN : Hid (d 12 = false) := hn
        have HHD : Hid (d 11 = true) := h11
        clear hd hn h11
        go_wp2
        have H0 := HH1.out
        have H := HH1.out
        have hn := HHN.out
        have h11 := HHD.out
        refine ⟨rfl, [v0, v1, v2, v3, v4, v5, v6, v7, v8, v9, v10, (.tuple #[.agg (D4 r.1.1 va' vq' r.1.2.1), vg', vc']), (.agg (D4 r.1.1 va' vq' r.1.2.1)), v13, v14, v15], ?_, v0, v1, v2, v3, v4, v5, v6, v7, v8, v9, v10, (.tuple #[.agg (D4 r.1.1 va' vq' r.1.2.1), vg', vc']), (.agg (D4 r.1.1 va' vq' r.1.2.1)), v13, v14, v15, os, r, va', vq', vg', vc', rfl, ⟨H.D, (by have h := H.B0; simpa [doneSet] using h), (by have h := H.B1; simpa [doneSet] using h), H.K, H.o0, (by have h := H.f0; simpa [doneSet] using h), (by have h := H.f1; simpa [doneSet] using h), (by have h := H.f2; simpa [doneSet] using h), (by have h := H.f3; simpa [doneSet] using h), (by have h := H.f4; simpa [doneSet] using h), (by have h := H.f5; simpa [doneSet] using h), (by have h := H.f6; simpa [doneSet] using h), (by have h := H.f7; simpa [doneSet] using h), (by have h := H.f8; simpa [doneSet] using h), (by have h := H.o9; simpa [doneSet] using h), (by have h := H.l9; simpa [doneSet] using h), (by have h := H.f10; simpa [doneSet] using h), (by have h := H.o10; simpa [doneSet] using h), (by have h := H.rr; simpa [doneSet] using h), (fun _ => rfl), (fun _ => rfl), (by have h := H.g4_3; simpa [doneSet] using h), (by have h := H.g9_4; simpa [doneSet] using h), (by have h := H.g10_0; simpa [doneSet] using h), (by have h := H.g10_9; simpa [doneSet] using h), (by have h := H.g11_10; simpa [doneSet] using h), (fun _ => by simpa [doneSet] using h11), (fun _ => by simp [doneSet])⟩⟩
        simp only [putAll, Act.put, List.setIfInBounds_toArray, List.set_cons_succ, List.set_cons_zero]
      · rintro d vs W ⟨v0, v1, v2, v3, v4, v5, v6, v7, v8, v9, v10, v11, v12, v13, v14, v15, os, r, va', vq', vg', vc', rfl, H⟩ hn hd
        simp only [putAll, Act.put, List.setIfInBounds_toArray, List.set_cons_succ, List.set_cons_zero]
        have h11 : d 11 = true := hd { on := 11, ground := .data } (by simp) rfl
        obtain rfl := H.f11 h11
        have HH1 : Hid (Sh (w) (P) (g) (cv) (zs) (P + 1) (P) (.slice oa m oc) (gs) (m) (.slice ca cl0 cc) d W v0 v1 v2 v3 v4 v5 v6 v7 v8 v9 v10 ((.tuple #[.agg (D4 r.1.1 va' vq' r.1.2.1), vg', vc'])) v12 v13 v14 v15 os r va' vq' vg' vc') := H
        clear H
        have HHN : Hid (d 13 = false) := hn
        have HHD : Hid (d 11 = true) := h11
        clear hd hn h11
        go_wp2
        have H0 := HH1.out
        have H := HH1.out
        have hn := HHN.out
        have h11 := HHD.out
        refine ⟨rfl, [v0, v1, v2, v3, v4, v5, v6, v7, v8, v9, v10, (.tuple #[.agg (D4 r.1.1 va' vq' r.1.2.1), vg', vc']), v12, vg', v14, v15], ?_, v0, v1, v2, v3, v4, v5, v6, v7, v8, v9, v10, (.tuple #[.agg (D4 r.1.1 va' vq' r.1.2.1), vg', vc']), v12, vg', v14, v15, os, r, va', vq', vg', vc', rfl, ⟨H.D, (by have h := H.B0; simpa [doneSet] using h), (by have h := H.B1; simpa [doneSet] using h), H.K, H.o0, (by have h := H.f0; simpa [doneSet] using h), (by have h := H.f1; simpa [doneSet] using h), (by have h := H.f2; simpa [doneSet] using h), (by have h := H.f3; simpa [doneSet] using h), (by have h := H.f4; simpa [doneSet] using h), (by have h := H.f5; simpa [doneSet] using h), (by have h := H.f6; simpa [doneSet] using h), (by have h := H.f7; simpa [doneSet] using h), (by have h := H.f8; simpa [doneSet] using h), (by have h := H.o9; simpa [doneSet] using h), (by have h := H.l9; simpa [doneSet] using h), (by have h := H.f10; simpa [doneSet] using h), (by have h := H.o10; simpa [doneSet] using h), (by have h := H.rr; simpa [doneSet] using h), (fun _ => rfl), (by have h := H.f12; simpa [doneSet] using h), (by have h := H.g4_3; simpa [doneSet] using h), (by have h := H.g9_4; simpa [doneSet] using h), (by have h := H.g10_0; simpa [doneSet] using h), (by have h := H.g10_9; simpa [doneSet] using h), (by have h := H.g11_10; simpa [doneSet] using h), (by have h := H.g12_11; simpa [doneSet] using h), (by have h := H.g15_12; simpa [doneSet] using h)⟩⟩
        simp only [putAll, Act.put, List.setIfInBounds_toArray, List.set_cons_succ, List.set_cons_zero]
      · rintro d vs W ⟨v0, v1, v2, v3, v4, v5, v6, v7, v8, v9, v10, v11, v12, v13, v14, v15, os, r, va', vq', vg', vc', rfl, H⟩ hn hd
        simp only [putAll, Act.put, List.setIfInBounds_toArray, List.set_cons_succ, List.set_cons_zero]
        have h11 : d 11 = true := hd { on := 11, ground := .data } (by simp) rfl
        obtain rfl := H.f11 h11
        have HH1 : Hid (Sh (w) (P) (g) (cv) (zs) (P + 1) (P) (.slice oa m oc) (gs) (m) (.slice ca cl0 cc) d W v0 v1 v2 v3 v4 v5 v6 v7 v8 v9 v10 ((.tuple #[.agg (D4 r.1.1 va' vq' r.1.2.1), vg', vc'])) v12 v13 v14 v15 os r va' vq' vg' vc') := H
        clear H
        have HHN : Hid (d 14 = false) := hn
        have HHD : Hid (d 11 = true) := h11
        clear hd hn h11
        go_wp2
        have H0 := HH1.out
        have H := HH1.out
        have hn := HHN.out
        have h11 := HHD.out
        refine ⟨rfl, [v0, v1, v2, v3, v4, v5, v6, v7, v8, v9, v10, (.tuple #[.agg (D4 r.1.1 va' vq' r.1.2.1), vg', vc']), v12, v13, vc', v15], ?_, v0, v1, v2, v3, v4, v5, v6, v7, v8, v9, v10, (.tuple #[.agg (D4 r.1.1 va' vq' r.1.2.1), vg', vc']), v12, v13, vc', v15, os, r, va', vq', vg', vc', rfl, ⟨H.D, (by have h := H.B0; simpa [doneSet] using h), (by have h := H.B1; simpa [doneSet] using h), H.K, H.o0, (by have h := H.f0; simpa [doneSet] using h), (by have h := H.f1; simpa [doneSet] using h), (by have h := H.f2; simpa [doneSet] using h), (by have h := H.f3; simpa [doneSet] using h), (by have h := H.f4; simpa [doneSet] using h), (by have h := H.f5; simpa [doneSet] using h), (by have h := H.f6; simpa [doneSet] using h), (by have h := H.f7; simpa [doneSet] using h), (by have h := H.f8; simpa [doneSet] using h), (by have h := H.o9; simpa [doneSet] using h), (by have h := H.l9; simpa [doneSet] using h), (by have h := H.f10; simpa [doneSet] using h), (by have h := H.o10; simpa [doneSet] using h), (by have h := H.rr; simpa [doneSet] using h), (fun _ => rfl), (by have h := H.f12; simpa [doneSet] using h), (by have h := H.g4_3; simpa [doneSet] using h), (by have h := H.g9_4; simpa [doneSet] using h), (by have h := H.g10_0; simpa [doneSet] using h), (by have h := H.g10_9; simpa [doneSet] using h), (by have h := H.g11_10; simpa [doneSet] using h), (by have h := H.g12_11; simpa [doneSet] using h), (by have h := H.g15_12; simpa [doneSet] using h)⟩⟩
        simp only [putAll, Act.put, List.setIfInBounds_toArray, List.set_cons_succ, List.set_cons_zero]
      · rintro d vs W ⟨v0, v1, v2, v3, v4, v5, v6, v7, v8, v9, v10, v11, v12, v13, v14, v15, os, r, va', vq', vg', vc', rfl, H⟩ hn hd
        simp only [putAll, Act.put, List.setIfInBounds_toArray, List.set_cons_succ, List.set_cons_zero]
        have h12 : d 12 = true := hd { on := 12, ground := .data } (by simp) rfl
        have hb := H.B0 hn
        have y0 := hb.cell 0
        have yf0 := hb.frozen 0
        have y1 := hb.cell 1
        have yf1 := hb.frozen 1
        have y2 := hb.cell 2
        have yf2 := hb.frozen 2
        have y3 := hb.cell 3
        have yf3 := hb.frozen 3
        simp at y0 y1 y2 y3
        have h10 := H.g11_10 (H.g12_11 h12)
        obtain ⟨ma1, mc1, hm1⟩ := (H.o10 h10).1.form
        obtain ⟨ma2, mc2, hm2⟩ := (H.o10 h10).2.1.form
        obtain ⟨ml1, hml1⟩ : ∃ m, r.1.2.2.1.length = m := ⟨_, rfl⟩
        obtain ⟨ml2, hml2⟩ : ∃ m, r.1.2.2.2.length = m := ⟨_, rfl⟩
        rw [hml1] at hm1
        rw [hml2] at hm2
        subst hm1 hm2
        have HH10 : Hid (d 10 = true) := h10
        clear hml1 hml2 hb h10
        obtain rfl := H.f12 h12
        have HH1 : Hid (Sh (w) (P) (g) (cv) (zs) (P + 1) (P) (.slice oa m oc) (gs) (m) (.slice ca cl0 cc) d W v0 v1 v2 v3 v4 v5 v6 v7 v8 v9 v10 v11 ((.agg (D4 r.1.1 (.slice ma1 ml1 mc1) (.slice ma2 ml2 mc2) r.1.2.1))) v13 v14 v15 os r (.slice ma1 ml1 mc1) (.slice ma2 ml2 mc2) vg' vc') := H
        clear H
        have HHN : Hid (d 15 = false) := hn
        have HHD : Hid (d 12 = true) := h12
        clear hd hn h12
        go_wp2
        have hH := HH1.out
        obtain ⟨va', hva'⟩ : ∃ v, v = Value.slice ma1 ml1 mc1 := ⟨_, rfl⟩
        obtain ⟨vq', hvq'⟩ : ∃ v, v = Value.slice ma2 ml2 mc2 := ⟨_, rfl⟩
        rw [← hva', ← hvq'] at hH ⊢
        have h10 := HH10.out
        have gf := grow4 W (P + 1) (.int .i64 r.1.1) va' vq' (.int .i64 r.1.2.1)
        have H0 := hH
        have H := hH
        have hn := HHN.out
        have h12 := HHD.out
        refine ⟨rfl, [v0, v1, v2, v3, v4, v5, v6, v7, v8, v9, v10, v11, (.agg (D4 r.1.1 va' vq' r.1.2.1)), v13, v14, undef], ?_, v0, v1, v2, v3, v4, v5, v6, v7, v8, v9, v10, v11, (.agg (D4 r.1.1 va' vq' r.1.2.1)), v13, v14, undef, os, r, va', vq', vg', vc', rfl, ⟨(H.D.app (fun k e => by cases e; exact HXP.out) gf), (fun e => by simp [doneSet] at e), (fun _ => (((H.B0 hn).set 0 _).set 1 _).set 2 _ |>.set 3 _), (H.K.grown gf (fun e => HRX.out (Option.some.inj e))), (World.ownsRow.kept H.o0 gf (.inr (row_blk H.o0 (H.B0 hn) (by decide)))), (by have h := H.f0; simpa [doneSet] using h), (by have h := H.f1; simpa [doneSet] using h), (by have h := H.f2; simpa [doneSet] using h), (by have h := H.f3; simpa [doneSet] using h), (by have h := H.f4; simpa [doneSet] using h), (by have h := H.f5; simpa [doneSet] using h), (by have h := H.f6; simpa [doneSet] using h), (by have h := H.f7; simpa [doneSet] using h), (by have h := H.f8; simpa [doneSet] using h), (fun e => World.ownsRow.kept (H.o9 (by simpa [doneSet] using e)) gf (.inr (row_blk (H.o9 (by simpa [doneSet] using e)) (H.B0 hn) (by decide)))), (by have h := H.l9; simpa [doneSet] using h), (by have h := H.f10; simpa [doneSet] using h), (fun _ => (H.o10 h10).off (H.B0 hn) gf), (by have h := H.rr; simpa [doneSet] using h), (by have h := H.f11; simpa [doneSet] using h), (fun _ => rfl), (by have h := H.g4_3; simpa [doneSet] using h), (by have h := H.g9_4; simpa [doneSet] using h), (by have h := H.g10_0; simpa [doneSet] using h), (by have h := H.g10_9; simpa [doneSet] using h), (by have h := H.g11_10; simpa [doneSet] using h), (by have h := H.g12_11; simpa [doneSet] using h), (fun _ => by simpa [doneSet] using h12)⟩⟩
        simp only [putAll, Act.put, List.setIfInBounds_toArray, List.set_cons_succ, List.set_cons_zero]
      rintro d vs W6 ⟨v0, v1, v2, v3, v4, v5, v6, v7, v8, v9, v10, v11, v12, v13, v14, v15, os, r, va', vq', vg', vc', rfl, H⟩ hn
      have HO : Hid (OwD P W6 va' vq' r.1.2.2.1 r.1.2.2.2) := H.o10 (hn 10 (by decide))
      have HBL : Hid (1 ≤ r.1.2.2.1.length ∧ r.1.2.2.1.length ≤ 100 ∧ r.1.2.2.2.length ≤ 100) := by
        have h1 := H.rr (hn 10 (by decide))
        have h2 := H.l9 (hn 9 (by decide))
        have h3 := rnT_bd (0, 0, gs, []) os os.length (Nat.le_refl _)
        rw [h1, rnF, if_neg (by omega)]
        have h4 := HG1.out
        have h5 := HLN.out
        simp only [List.length_nil] at h3
        refine ⟨?_, ?_, ?_⟩ <;> omega
      have HB : Hid (Blk W6 (P + 1) (D4 r.1.1 va' vq' r.1.2.1) 27) := H.B1 (hn 15 (by decide))
      have HK : Hid (Blk W6 P (D4 0 (.slice none 0 0) (.slice none 0 0) 0) 27) := H.K
      have HDD : Hid (Dc w W6 g cv zs) := H.D
      simp only [putAll, Act.put, List.setIfInBounds_toArray, List.set_cons_succ, List.set_cons_zero]
      clear H hn HS0
      obtain ⟨n2, g2, gs2, qs2, hr2⟩ : ∃ n2 g2 gs2 qs2, r.1 = (n2, g2, gs2, qs2) := ⟨_, _, _, _, rfl⟩
      rw [hr2] at HO HBL HB
      dsimp only at HO HBL HB
      clear hr2
      obtain ⟨ma, mc, rfl⟩ := HO.out.1.form
      obtain ⟨na, nc, rfl⟩ := HO.out.2.1.form
      have x0 := HB.out.cell 0
      have x1 := HB.out.cell 1
      have x2 := HB.out.cell 2
      have x3 := HB.out.cell 3
      have y0 := HK.out.cell 0
      have y1 := HK.out.cell 1
      have y2 := HK.out.cell 2
      have y3 := HK.out.cell 3
      have f0 := HK.out.frozen 0
      have f1 := HK.out.frozen 1
      have f2 := HK.out.frozen 2
      have f3 := HK.out.frozen 3
      simp at x0 x1 x2 x3 y0 y1 y2 y3
      have gf := grow4 W6 P (.int .i64 n2) (.slice ma gs2.length mc) (.slice na qs2.length nc) (.int .i64 g2)
      have HR : Hid (Blk ((((W6.setCell ⟨P, 0, none⟩ (.int .i64 n2)).setCell ⟨P, 1, none⟩ (.slice ma gs2.length mc)).setCell ⟨P, 2, none⟩ (.slice na qs2.length nc)).setCell ⟨P, 3, none⟩ (.int .i64 g2)) P (D4 n2 (.slice ma gs2.length mc) (.slice na qs2.length nc) g2) 27) := (((HK.out.set 0 _).set 1 _).set 2 _).set 3 _
      have HZ : Hid (DsR g cv zs w (.returned (.agg (D4 n2 (.slice ma gs2.length mc) (.slice na qs2.length nc) g2))) ((((W6.setCell ⟨P, 0, none⟩ (.int .i64 n2)).setCell ⟨P, 1, none⟩ (.slice ma gs2.length mc)).setCell ⟨P, 2, none⟩ (.slice na qs2.length nc)).setCell ⟨P, 3, none⟩ (.int .i64 g2))) := by
        have hd := HDD.out.app (fun k e => by cases e; rw [HP.out]; exact Nat.le_refl _) gf
        exact ⟨_, _, _, _, gs2, qs2, rfl, by rw [HP.out]; exact HO.out.off HK.out gf, HBL.out, hd.dr, hd.gr⟩
      clear gf HO HB HK HDD HBL
      go_wp2
      exact bodyPost_ret (v := .agg (D4 n2 (.slice ma gs2.length mc) (.slice na qs2.length nc) g2)) (results_cell_row rfl _ _ _ 27 _ (0, 0) _ rfl HR.out Try.underlying27 rfl sizeDk) rfl HZ.out
end Go.Proofs.Ytpmmgbinogokfaa
namespace Go.Proofs.Ytpmmgbinogokfaa
open Go.RowKit Go.ChangeShapes Go.WideShapes Go.ChangeAt
set_option linter.unusedVariables false
set_option linter.unusedSimpArgs false
set_option maxRecDepth 8000
theorem ag_set0 (x : Ag) (gs : List Ag) (y : Int) : ((x :: gs).flatMap agC).set 1 (.int .i64 y) = ((x.1, y, x.2.2) :: gs).flatMap agC := by simp [agC]
theorem wt_set0 (x : Wt) (qs : List Wt) (y : Int) : ((x :: qs).flatMap wtC).set 1 (.int .i64 y) = ((x.1, y, x.2.2.1, x.2.2.2) :: qs).flatMap wtC := by simp [wtC]
structure Sy (w : World) (P : Nat) (g : Nat) (cv : Value) (zs : List Int) (X : Nat) (R : Nat) (n : Int) (t : Int) (va : Value) (vq : Value) (x : Ag) (gs : List Ag) (qs : List Wt) (b : Nat) (m : Nat) (oc : Nat) (d : Nat → Bool) (W : World) (v0 v1 v2 v3 v4 v5 v6 v7 : Value) (z : Int) : Prop where
  D : Dc w W g cv zs
  B : Blk W X (D4 n va vq t) 27
  K : Blk W R (D4 0 (.slice none 0 0) (.slice none 0 0) 0) 27
  o : d 7 = false → Og 3 agC 36 P W va (x :: gs)
  u : d 7 = true → Og 3 agC 36 P W va ((x.1, z, x.2.2) :: gs)
  p : Og 4 wtC 74 P W vq qs
  f0 : d 0 = true → v0 = .pointer (some ⟨X, 1, none⟩)
  f1 : d 1 = true → v1 = (.slice (some ⟨b, 0, none⟩) m oc)
  f2 : d 2 = true → v2 = .pointer (some ⟨g, 0, none⟩)
  o3 : d 3 = true → Ow .i64 3 P W v3 [-2, -1, 5, 1000000000, 1000000001]
  f4 : d 4 = true → v4 = .int .i64 z
  f5 : d 5 = true → v5 = .pointer (some ⟨b, 0, none⟩)
  f6 : d 6 = true → v6 = .pointer (some ⟨b, 1, none⟩)
  g7_4 : d 7 = true → d 4 = true
def SyS (w : World) (P : Nat) (g : Nat) (cv : Value) (zs : List Int) (X : Nat) (R : Nat) (n : Int) (t : Int) (va : Value) (vq : Value) (x : Ag) (gs : List Ag) (qs : List Wt) (b : Nat) (m : Nat) (oc : Nat) (d : Nat → Bool) (q : List Value) (W : World) : Prop := ∃ v0 v1 v2 v3 v4 v5 v6 v7 z, q = [v0, v1, v2, v3, v4, v5, v6, v7] ∧ Sy w P g cv zs X R n t va vq x gs qs b m oc d W v0 v1 v2 v3 v4 v5 v6 v7 z
theorem Sy.below {w : World} {P : Nat} {g : Nat} {cv : Value} {zs : List Int} {X : Nat} {R : Nat} {n : Int} {t : Int} {va : Value} {vq : Value} {x : Ag} {gs : List Ag} {qs : List Wt} {b : Nat} {m : Nat} {oc : Nat} {d : Nat → Bool} {W W' : World} {v0 v1 v2 v3 v4 v5 v6 v7 : Value} {z : Int} (h : Sy w P g cv zs X R n t va vq x gs qs b m oc d W v0 v1 v2 v3 v4 v5 v6 v7 z) (hb : Below W.heap.size W W') : Sy w P g cv zs X R n t va vq x gs qs b m oc d W' v0 v1 v2 v3 v4 v5 v6 v7 z :=
  { h with
    D := h.D.below hb
    B := h.B.below hb h.B.lt
    K := h.K.below hb h.K.lt
    o := fun e0 => (h.o e0).below hb
    u := fun e0 => (h.u e0).below hb
    p := h.p.below hb
    o3 := fun e0 => (h.o3 e0).below hb
  }
theorem Sy.draw {w : World} {P : Nat} {g : Nat} {cv : Value} {zs : List Int} {X : Nat} {R : Nat} {n : Int} {t : Int} {va : Value} {vq : Value} {x : Ag} {gs : List Ag} {qs : List Wt} {b : Nat} {m : Nat} {oc : Nat} {d : Nat → Bool} {W W' : World} {v0 v1 v2 v3 v4 v5 v6 v7 : Value} {z : Int} (h : Sy w P g cv zs X R n t va vq x gs qs b m oc d W v0 v1 v2 v3 v4 v5 v6 v7 z) (hgC : g < P) (hBg : X ≠ g) (hKg : R ≠ g) (hd : Dr W' g cv zs) (hg : W.grownBy W' (some g)) : Sy w P g cv zs X R n t va vq x gs qs b m oc d W' v0 v1 v2 v3 v4 v5 v6 v7 z :=
  { h with
    D := h.D.draw hd hg
    B := h.B.grown hg (by have := hBg; simpa using this)
    K := h.K.grown hg (by have := hKg; simpa using this)
    o := fun e0 => (h.o e0).draw hg hgC
    u := fun e0 => (h.u e0).draw hg hgC
    p := h.p.draw hg hgC
    o3 := fun e0 => (h.o3 e0).draw hg hgC
  }
structure Sz (w : World) (P : Nat) (g : Nat) (cv : Value) (zs : List Int) (X : Nat) (R : Nat) (n : Int) (t : Int) (va : Value) (vq : Value) (x : Wt) (gs : List Ag) (qs : List Wt) (b : Nat) (m : Nat) (oc : Nat) (d : Nat → Bool) (W : World) (v0 v1 v2 v3 v4 v5 v6 v7 : Value) (z : Int) : Prop where
  D : Dc w W g cv zs
  B : Blk W X (D4 n va vq t) 27
  K : Blk W R (D4 0 (.slice none 0 0) (.slice none 0 0) 0) 27
  o : d 7 = false → Og 4 wtC 74 P W vq (x :: qs)
  u : d 7 = true → Og 4 wtC 74 P W vq ((x.1, z, x.2.2.1, x.2.2.2) :: qs)
  p : Og 3 agC 36 P W va gs
  f0 : d 0 = true → v0 = .pointer (some ⟨X, 2, none⟩)
  f1 : d 1 = true → v1 = (.slice (some ⟨b, 0, none⟩) m oc)
  f2 : d 2 = true → v2 = .pointer (some ⟨g, 0, none⟩)
  o3 : d 3 = true → Ow .i64 3 P W v3 [0, 3, 128, 256]
  f4 : d 4 = true → v4 = .int .i64 z
  f5 : d 5 = true → v5 = .pointer (some ⟨b, 0, none⟩)
  f6 : d 6 = true → v6 = .pointer (some ⟨b, 1, none⟩)
  g7_4 : d 7 = true → d 4 = true
def SzS (w : World) (P : Nat) (g : Nat) (cv : Value) (zs : List Int) (X : Nat) (R : Nat) (n : Int) (t : Int) (va : Value) (vq : Value) (x : Wt) (gs : List Ag) (qs : List Wt) (b : Nat) (m : Nat) (oc : Nat) (d : Nat → Bool) (q : List Value) (W : World) : Prop := ∃ v0 v1 v2 v3 v4 v5 v6 v7 z, q = [v0, v1, v2, v3, v4, v5, v6, v7] ∧ Sz w P g cv zs X R n t va vq x gs qs b m oc d W v0 v1 v2 v3 v4 v5 v6 v7 z
theorem Sz.below {w : World} {P : Nat} {g : Nat} {cv : Value} {zs : List Int} {X : Nat} {R : Nat} {n : Int} {t : Int} {va : Value} {vq : Value} {x : Wt} {gs : List Ag} {qs : List Wt} {b : Nat} {m : Nat} {oc : Nat} {d : Nat → Bool} {W W' : World} {v0 v1 v2 v3 v4 v5 v6 v7 : Value} {z : Int} (h : Sz w P g cv zs X R n t va vq x gs qs b m oc d W v0 v1 v2 v3 v4 v5 v6 v7 z) (hb : Below W.heap.size W W') : Sz w P g cv zs X R n t va vq x gs qs b m oc d W' v0 v1 v2 v3 v4 v5 v6 v7 z :=
  { h with
    D := h.D.below hb
    B := h.B.below hb h.B.lt
    K := h.K.below hb h.K.lt
    o := fun e0 => (h.o e0).below hb
    u := fun e0 => (h.u e0).below hb
    p := h.p.below hb
    o3 := fun e0 => (h.o3 e0).below hb
  }
theorem Sz.draw {w : World} {P : Nat} {g : Nat} {cv : Value} {zs : List Int} {X : Nat} {R : Nat} {n : Int} {t : Int} {va : Value} {vq : Value} {x : Wt} {gs : List Ag} {qs : List Wt} {b : Nat} {m : Nat} {oc : Nat} {d : Nat → Bool} {W W' : World} {v0 v1 v2 v3 v4 v5 v6 v7 : Value} {z : Int} (h : Sz w P g cv zs X R n t va vq x gs qs b m oc d W v0 v1 v2 v3 v4 v5 v6 v7 z) (hgC : g < P) (hBg : X ≠ g) (hKg : R ≠ g) (hd : Dr W' g cv zs) (hg : W.grownBy W' (some g)) : Sz w P g cv zs X R n t va vq x gs qs b m oc d W' v0 v1 v2 v3 v4 v5 v6 v7 z :=
  { h with
    D := h.D.draw hd hg
    B := h.B.grown hg (by have := hBg; simpa using this)
    K := h.K.grown hg (by have := hKg; simpa using this)
    o := fun e0 => (h.o e0).draw hg hgC
    u := fun e0 => (h.u e0).draw hg hgC
    p := h.p.draw hg hgC
    o3 := fun e0 => (h.o3 e0).draw hg hgC
  }
structure Sw (w : World) (P : Nat) (g : Nat) (cv : Value) (zs : List Int) (X : Nat) (R : Nat) (n : Int) (t : Int) (va : Value) (vq : Value) (gs : List Ag) (qs : List Wt) (m : Nat) (d : Nat → Bool) (W : World) (v0 v1 v2 v3 v4 v5 v6 : Value) (z : Int) (bl : Bool) : Prop where
  D : Dc w W g cv zs
  B : Blk W X (D4 n va vq t) 27
  K : Blk W R (D4 0 (.slice none 0 0) (.slice none 0 0) 0) 27
  o : OwD P W va vq gs qs
  f0 : d 0 = true → v0 = .pointer (some ⟨X, 2, none⟩)
  f1 : d 1 = true → v1 = vq
  f2 : d 2 = true → v2 = .int .i64 (m : Int)
  f3 : d 3 = true → v3 = .pointer (some ⟨g, 0, none⟩)
  f4 : d 4 = true → v4 = .int .i64 z
  b4 : d 4 = true → 0 ≤ z ∧ z ≤ 1
  f5 : d 5 = true → v5 = .int .i64 (40 - z)
  f6 : d 6 = true → v6 = .bool bl
  bq : d 6 = true → bl = decide ((m : Int) < 40 - z)
  g5_4 : d 5 = true → d 4 = true
  g6_5 : d 6 = true → d 5 = true
def SwS (w : World) (P : Nat) (g : Nat) (cv : Value) (zs : List Int) (X : Nat) (R : Nat) (n : Int) (t : Int) (va : Value) (vq : Value) (gs : List Ag) (qs : List Wt) (m : Nat) (d : Nat → Bool) (q : List Value) (W : World) : Prop := ∃ v0 v1 v2 v3 v4 v5 v6 z bl, q = [v0, v1, v2, v3, v4, v5, v6] ∧ Sw w P g cv zs X R n t va vq gs qs m d W v0 v1 v2 v3 v4 v5 v6 z bl
theorem Sw.below {w : World} {P : Nat} {g : Nat} {cv : Value} {zs : List Int} {X : Nat} {R : Nat} {n : Int} {t : Int} {va : Value} {vq : Value} {gs : List Ag} {qs : List Wt} {m : Nat} {d : Nat → Bool} {W W' : World} {v0 v1 v2 v3 v4 v5 v6 : Value} {z : Int} {bl : Bool} (h : Sw w P g cv zs X R n t va vq gs qs m d W v0 v1 v2 v3 v4 v5 v6 z bl) (hb : Below W.heap.size W W') : Sw w P g cv zs X R n t va vq gs qs m d W' v0 v1 v2 v3 v4 v5 v6 z bl :=
  { h with
    D := h.D.below hb
    B := h.B.below hb h.B.lt
    K := h.K.below hb h.K.lt
    o := h.o.below hb
  }
theorem Sw.draw {w : World} {P : Nat} {g : Nat} {cv : Value} {zs : List Int} {X : Nat} {R : Nat} {n : Int} {t : Int} {va : Value} {vq : Value} {gs : List Ag} {qs : List Wt} {m : Nat} {d : Nat → Bool} {W W' : World} {v0 v1 v2 v3 v4 v5 v6 : Value} {z : Int} {bl : Bool} (h : Sw w P g cv zs X R n t va vq gs qs m d W v0 v1 v2 v3 v4 v5 v6 z bl) (hgC : g < P) (hBg : X ≠ g) (hKg : R ≠ g) (hd : Dr W' g cv zs) (hg : W.grownBy W' (some g)) : Sw w P g cv zs X R n t va vq gs qs m d W' v0 v1 v2 v3 v4 v5 v6 z bl :=
  { h with
    D := h.D.draw hd hg
    B := h.B.grown hg (by have := hBg; simpa using this)
    K := h.K.grown hg (by have := hKg; simpa using this)
    o := h.o.draw hg hgC
  }
theorem Rg.oneWt {W : World} {X : Nat} {x : Wt} (h : Blk W X #[.int .i64 x.1, .int .i64 x.2.1, .int .i64 x.2.2.1, .int .i64 x.2.2.2] 74) : Rg 4 wtC W (.slice (some ⟨X, 0, none⟩) 1 1) [x] := by
  refine ⟨_, _, rfl, Nat.le_refl _, by simp [maxLen], .inr ⟨X, 0, rfl, fun i hi => ?_⟩⟩
  have h0 : i = 0 := by simpa using hi
  subst h0
  intro j u hu
  have := h.cell j
  simp at hu ⊢
  rw [this]
  simpa using hu
set_option maxHeartbeats 25600000 in
theorem l8Any_c (g : Nat) (cv : Value) (zs : List Int) (vc : Value) (cs : List Int) (w : World) (h : Dr w g cv zs) (hc : Rd .u8 w vc cs) (hcg : cs = [] ∨ vc.ownBlock = none ∨ vc.ownBlock ≠ some g) : Calls Try.prog 35 #[.pointer (some ⟨g, 0, none⟩), vc] w (DsR g cv zs w) := by
  have b0 : Below w.heap.size w (w.alloc (Obj.cells (D4 0 (.slice none 0 0) (.slice none 0 0) 0) 27)) := (Below.refl _ _).alloc (Nat.le_refl _) _
  have k0 : Blk (w.alloc (Obj.cells (D4 0 (.slice none 0 0) (.slice none 0 0) 0) 27)) w.heap.size (D4 0 (.slice none 0 0) (.slice none 0 0) 0) 27 := Blk.new _ _ _
  have D0 := (Dc.start h).below b0
  have hz : (w.alloc (Obj.cells (D4 0 (.slice none 0 0) (.slice none 0 0) 0) 27)).heap.size = w.heap.size + 1 := by simp
  obtain ⟨P, hP⟩ : ∃ P, w.heap.size = P := ⟨_, rfl⟩
  have HP : Hid (w.heap.size = P) := hP
  have HGP : Hid (g < P) := by rw [Hid, ← hP]; exact h.lt
  have NEK : Hid (P ≠ g) := by have := HGP.out; show P ≠ g; omega
  have HRG : Hid (P ≠ g) := NEK.out
  obtain ⟨W0, hW0⟩ : ∃ W, w.alloc (Obj.cells (D4 0 (.slice none 0 0) (.slice none 0 0) 0) 27) = W := ⟨_, rfl⟩
  have HCW : Hid (Rd .u8 W0 vc cs) := by rw [Hid, ← hW0]; exact hc.below b0
  rw [hW0] at D0 k0 hz
  rw [hP] at k0 hz
  go_enter Try.func35, Try.ntmps35
  go_wp2_with (fail)
  refine (l8Draw_c g cv zs vc cs W0 D0.dr HCW.out hcg).mono ?_
  rintro e w1 ⟨n, t, va, vq, gs, qs, rfl, ho, hb, d1, g1⟩
  have HLB : Hid (1 ≤ gs.length ∧ gs.length ≤ 100 ∧ qs.length ≤ 100) := hb
  have D_w1 : Hid (Dc w w1 g cv zs) := D0.draw d1 g1
  have K_w1 : Hid (Blk w1 P (D4 0 (.slice none 0 0) (.slice none 0 0) 0) 27) := k0.grown g1 (by have := NEK.out; simpa using this)
  have O_w1 : Hid (OwD P w1 va vq gs qs) := ho.mono (by omega)
  clear b0 k0 D0 ho hb d1 g1 hW0 hc hcg h HCW hz
  obtain ⟨oa, oc, rfl⟩ := O_w1.out.1.form
  obtain ⟨qa, qc, rfl⟩ := O_w1.out.2.1.form
  obtain ⟨m, hm⟩ : ∃ m, gs.length = m := ⟨_, rfl⟩
  obtain ⟨lq, hlq⟩ : ∃ m, qs.length = m := ⟨_, rfl⟩
  have HM : Hid (gs.length = m) := hm
  have HQ : Hid (qs.length = lq) := hlq
  rw [hm, hlq] at O_w1 ⊢
  clear hm hlq
  have hgx : g < w1.heap.size := D_w1.out.dr.lt
  have hrx : P < w1.heap.size := K_w1.out.lt
  have ba : Below w1.heap.size w1 (w1.alloc (Obj.cells (D4 n (.slice oa m oc) (.slice qa lq qc) t) 27)) := (Below.refl _ _).alloc (Nat.le_refl _) _
  have kb : Blk (w1.alloc (Obj.cells (D4 n (.slice oa m oc) (.slice qa lq qc) t) 27)) w1.heap.size (D4 n (.slice oa m oc) (.slice qa lq qc) t) 27 := Blk.new _ _ _
  obtain ⟨X2, hX2⟩ : ∃ X, w1.heap.size = X := ⟨_, rfl⟩
  obtain ⟨W2, hW2⟩ : ∃ W, w1.alloc (Obj.cells (D4 n (.slice oa m oc) (.slice qa lq qc) t) 27) = W := ⟨_, rfl⟩
  rw [hW2] at ba kb
  rw [hX2] at kb
  have D_W2 : Hid (Dc w W2 g cv zs) := D_w1.out.below ba
  have K_W2 : Hid (Blk W2 P (D4 0 (.slice none 0 0) (.slice none 0 0) 0) 27) := K_w1.out.below ba K_w1.out.lt
  have O_W2 : Hid (OwD P W2 (.slice oa m oc) (.slice qa lq qc) gs qs) := O_w1.out.below ba
  have T_W2 : Hid (Blk W2 X2 (D4 n (.slice oa m oc) (.slice qa lq qc) t) 27) := kb
  clear ba kb D_w1 K_w1 O_w1
  have NET : Hid (X2 ≠ g) := by show X2 ≠ g; omega
  have HXG : Hid (X2 ≠ g) := NET.out
  have HRX : Hid (P ≠ X2) := by show P ≠ X2; omega
  have HXP : Hid (w.heap.size ≤ X2) := by show _ ≤ _; omega
  clear hgx hrx
  go_wp2_with (fail)
  refine (below_c g cv zs 25 _ D_W2.out.dr (by omega)).mono ?_
  rintro e w3 ⟨c, rfl, hc0, hc1, hc2, d1, g1⟩
  have D_w3 : Hid (Dc w w3 g cv zs) := D_W2.out.draw d1 g1
  have K_w3 : Hid (Blk w3 P (D4 0 (.slice none 0 0) (.slice none 0 0) 0) 27) := K_W2.out.grown g1 (by have := NEK.out; simpa using this)
  have O_w3 : Hid (OwD P w3 (.slice oa m oc) (.slice qa lq qc) gs qs) := O_W2.out.draw g1 HGP.out
  have T_w3 : Hid (Blk w3 X2 (D4 n (.slice oa m oc) (.slice qa lq qc) t) 27) := T_W2.out.grown g1 (by have := NET.out; simpa using this)
  clear d1 g1 D_W2 K_W2 O_W2 T_W2 hW2 hX2
  clear hc0 hc1 hc2
  by_cases hc0 : c = 0
  · subst hc0
    obtain ⟨x, gs', rfl⟩ : ∃ x g', gs = x :: g' := by
      have := HLB.out
      cases gs with
      | nil => simp at this
      | cons x g' => exact ⟨x, g', rfl⟩
    obtain ⟨b, hb, hbP⟩ : ∃ b, oa = some ⟨b, 0, none⟩ ∧ P ≤ b := by
      obtain ⟨a', c', he, hf⟩ := Og.form' O_w3.out.1
      simp only [Value.slice.injEq] at he
      rcases hf with hf | ⟨b, h1, h2, -⟩
      · cases hf
      · exact ⟨b, he.1.trans h1, h2⟩
    subst hb
    have HBP : Hid (P ≤ b) := hbP
    have HMQ : Hid ((x :: gs').length = m) := HM.out
    have HM1 : Hid (1 ≤ m) := by have h1 := HM.out; rw [List.length_cons] at h1; show 1 ≤ m; omega
    have HOA : Hid (((Value.slice (some ⟨b, 0, none⟩) m oc).ownBlock = none ∨ (Value.slice (some ⟨b, 0, none⟩) m oc).ownBlock ≠ (Value.slice qa lq qc).ownBlock) ∧ ((Value.slice qa lq qc).ownBlock = none ∨ (Value.slice qa lq qc).ownBlock ≠ (Value.slice (some ⟨b, 0, none⟩) m oc).ownBlock)) := O_w3.out.2.2
    have HS0 : Hid (Dc w (w3.drew) g cv zs ∧ Blk (w3.drew) X2 (D4 n (.slice (some ⟨b, 0, none⟩) m oc) (.slice qa lq qc) t) 27 ∧ Blk (w3.drew) P (D4 0 (.slice none 0 0) (.slice none 0 0) 0) 27 ∧ Og 3 agC 36 P (w3.drew) (.slice (some ⟨b, 0, none⟩) m oc) (x :: gs') ∧ Og 4 wtC 74 P (w3.drew) (.slice qa lq qc) qs) := ⟨D_w3.out.below (Below.refl _ _).drew, T_w3.out, K_w3.out, Og.below O_w3.out.1 (Below.refl _ _).drew, Og.below O_w3.out.2.1 (Below.refl _ _).drew⟩
    clear D_w3 K_w3 T_w3 O_w3 hbP 
    go_upto_region 4 with (fail)
    refine region_vals [undef, undef, undef, undef, undef, undef, undef, undef] (SyS (w) (P) (g) (cv) (zs) (X2) (P) (n) (t) (.slice (some ⟨b, 0, none⟩) m oc) (.slice qa lq qc) (x) (gs') (qs) (b) (m) (oc)) (by kernel_rfl) (by kernel_rfl) ?_ ⟨?_, ?_, ?_, ?_, ?_, ?_, ?_, ?_, trivial⟩ ?_
    · refine ⟨_, _, _, _, _, _, _, _, 0, rfl, ⟨(HS0.out.1), (HS0.out.2.1), (HS0.out.2.2.1), (fun _ => HS0.out.2.2.2.1), (fun e => by cases e), (HS0.out.2.2.2.2), ?_, ?_, ?_, ?_, ?_, ?_, ?_, ?_⟩⟩ <;> simp
    · rintro d vs W ⟨v0, v1, v2, v3, v4, v5, v6, v7, z, rfl, H⟩ hn hd
      simp only [putAll, Act.put, List.setIfInBounds_toArray, List.set_cons_succ, List.set_cons_zero]
      have HH1 : Hid (Sy (w) (P) (g) (cv) (zs) (X2) (P) (n) (t) (.slice (some ⟨b, 0, none⟩) m oc) (.slice qa lq qc) (x) (gs') (qs) (b) (m) (oc) d W v0 v1 v2 v3 v4 v5 v6 v7 z) := H
      clear H
      have HHN : Hid (d 0 = false) := hn
      clear hd hn
      go_wp2
      have H0 := HH1.out
      have H := HH1.out
      have hn := HHN.out
      refine ⟨rfl, [.pointer (some ⟨X2, 1, none⟩), v1, v2, v3, v4, v5, v6, v7], ?_, .pointer (some ⟨X2, 1, none⟩), v1, v2, v3, v4, v5, v6, v7, z, rfl, ⟨H.D, H.B, H.K, (by have h := H.o; simpa [doneSet] using h), (by have h := H.u; simpa [doneSet] using h), H.p, (fun _ => rfl), (by have h := H.f1; simpa [doneSet] using h), (by have h := H.f2; simpa [doneSet] using h), (by have h := H.o3; simpa [doneSet] using h), (by have h := H.f4; simpa [doneSet] using h), (by have h := H.f5; simpa [doneSet] using h), (by have h := H.f6; simpa [doneSet] using h), (by have h := H.g7_4; simpa [doneSet] using h)⟩⟩
      simp only [putAll, Act.put, List.setIfInBounds_toArray, List.set_cons_succ, List.set_cons_zero]
    · rintro d vs W ⟨v0, v1, v2, v3, v4, v5, v6, v7, z, rfl, H⟩ hn hd
      simp only [putAll, Act.put, List.setIfInBounds_toArray, List.set_cons_succ, List.set_cons_zero]
      have h0 : d 0 = true := hd { on := 0, ground := .data } (by simp) rfl
      have y := H.B.cell 1
      simp at y
      obtain rfl := H.f0 h0
      have HH1 : Hid (Sy (w) (P) (g) (cv) (zs) (X2) (P) (n) (t) (.slice (some ⟨b, 0, none⟩) m oc) (.slice qa lq qc) (x) (gs') (qs) (b) (m) (oc) d W (.pointer (some ⟨X2, 1, none⟩)) v1 v2 v3 v4 v5 v6 v7 z) := H
      clear H
      have HHN : Hid (d 1 = false) := hn
      have HHD : Hid (d 0 = true) := h0
      clear hd hn h0
      go_wp2
      have H0 := HH1.out
      have H := HH1.out
      have hn := HHN.out
      have h0 := HHD.out
      refine ⟨rfl, [.pointer (some ⟨X2, 1, none⟩), .slice (some ⟨b, 0, none⟩) m oc, v2, v3, v4, v5, v6, v7], ?_, .pointer (some ⟨X2, 1, none⟩), .slice (some ⟨b, 0, none⟩) m oc, v2, v3, v4, v5, v6, v7, z, rfl, ⟨H.D, H.B, H.K, (by have h := H.o; simpa [doneSet] using h), (by have h := H.u; simpa [doneSet] using h), H.p, (fun _ => rfl), (fun _ => rfl), (by have h := H.f2; simpa [doneSet] using h), (by have h := H.o3; simpa [doneSet] using h), (by have h := H.f4; simpa [doneSet] using h), (by have h := H.f5; simpa [doneSet] using h), (by have h := H.f6; simpa [doneSet] using h), (by have h := H.g7_4; simpa [doneSet] using h)⟩⟩
      simp only [putAll, Act.put, List.setIfInBounds_toArray, List.set_cons_succ, List.set_cons_zero]
    · rintro d vs W ⟨v0, v1, v2, v3, v4, v5, v6, v7, z, rfl, H⟩ hn hd
      simp only [putAll, Act.put, List.setIfInBounds_toArray, List.set_cons_succ, List.set_cons_zero]
      have HH1 : Hid (Sy (w) (P) (g) (cv) (zs) (X2) (P) (n) (t) (.slice (some ⟨b, 0, none⟩) m oc) (.slice qa lq qc) (x) (gs') (qs) (b) (m) (oc) d W v0 v1 v2 v3 v4 v5 v6 v7 z) := H
      clear H
      have HHN : Hid (d 2 = false) := hn
      clear hd hn
      go_wp2
      have H0 := HH1.out
      have H := HH1.out
      have hn := HHN.out
      refine ⟨rfl, [v0, v1, .pointer (some ⟨g, 0, none⟩), v3, v4, v5, v6, v7], ?_, v0, v1, .pointer (some ⟨g, 0, none⟩), v3, v4, v5, v6, v7, z, rfl, ⟨H.D, H.B, H.K, (by have h := H.o; simpa [doneSet] using h), (by have h := H.u; simpa [doneSet] using h), H.p, (by have h := H.f0; simpa [doneSet] using h), (by have h := H.f1; simpa [doneSet] using h), (fun _ => rfl), (by have h := H.o3; simpa [doneSet] using h), (by have h := H.f4; simpa [doneSet] using h), (by have h := H.f5; simpa [doneSet] using h), (by have h := H.f6; simpa [doneSet] using h), (by have h := H.g7_4; simpa [doneSet] using h)⟩⟩
      simp only [putAll, Act.put, List.setIfInBounds_toArray, List.set_cons_succ, List.set_cons_zero]
    · rintro d vs W ⟨v0, v1, v2, v3, v4, v5, v6, v7, z, rfl, H⟩ hn hd
      simp only [putAll, Act.put, List.setIfInBounds_toArray, List.set_cons_succ, List.set_cons_zero]
      have HH1 : Hid (Sy (w) (P) (g) (cv) (zs) (X2) (P) (n) (t) (.slice (some ⟨b, 0, none⟩) m oc) (.slice qa lq qc) (x) (gs') (qs) (b) (m) (oc) d W v0 v1 v2 v3 v4 v5 v6 v7 z) := H
      clear H
      have HHN : Hid (d 3 = false) := hn
      clear hd hn
      go_wp2
      have H0 := HH1.out
      have H := HH1.out.below ((Below.refl _ W).alloc (Nat.le_refl _) (.cells #[.int .i64 (-2), .int .i64 (-1), .int .i64 5, .int .i64 1000000000, .int .i64 1000000001] 3))
      have hn := HHN.out
      refine ⟨rfl, [v0, v1, v2, .slice (some ⟨W.heap.size, 0, none⟩) 5 5, v4, v5, v6, v7], ?_, v0, v1, v2, .slice (some ⟨W.heap.size, 0, none⟩) 5 5, v4, v5, v6, v7, z, rfl, ⟨H.D, H.B, H.K, (by have h := H.o; simpa [doneSet] using h), (by have h := H.u; simpa [doneSet] using h), H.p, (by have h := H.f0; simpa [doneSet] using h), (by have h := H.f1; simpa [doneSet] using h), (by have h := H.f2; simpa [doneSet] using h), (fun _ => Ow.lit W P [-2, -1, 5, 1000000000, 1000000001] (by have h1 := H0.D.gr.size; have h2 := HP.out; omega) (by decide)), (by have h := H.f4; simpa [doneSet] using h), (by have h := H.f5; simpa [doneSet] using h), (by have h := H.f6; simpa [doneSet] using h), (by have h := H.g7_4; simpa [doneSet] using h)⟩⟩
      simp only [putAll, Act.put, List.setIfInBounds_toArray, List.set_cons_succ, List.set_cons_zero]
    · rintro d vs W ⟨v0, v1, v2, v3, v4, v5, v6, v7, z, rfl, H⟩ hn hd
      simp only [putAll, Act.put, List.setIfInBounds_toArray, List.set_cons_succ, List.set_cons_zero]
      have h2 : d 2 = true := hd { on := 2, ground := .data } (by simp) rfl
      have h3 : d 3 = true := hd { on := 3, ground := .data } (by simp) rfl
      have HO3 : Hid (Ow .i64 3 P W v3 [-2, -1, 5, 1000000000, 1000000001]) := H.o3 h3
      obtain rfl := H.f2 h2
      have HH1 : Hid (Sy (w) (P) (g) (cv) (zs) (X2) (P) (n) (t) (.slice (some ⟨b, 0, none⟩) m oc) (.slice qa lq qc) (x) (gs') (qs) (b) (m) (oc) d W v0 v1 (.pointer (some ⟨g, 0, none⟩)) v3 v4 v5 v6 v7 z) := H
      clear H
      have HHN : Hid (d 4 = false) := hn
      have HHD : Hid (d 2 = true ∧ d 3 = true) := ⟨h2, h3⟩
      clear hd hn h2 h3
      go_wp2_with (fail)
      refine (pickInt_c g cv zs v3 [-2, -1, 5, 1000000000, 1000000001] W HH1.out.D.dr HO3.out.rd (Ow.low HO3.out g HGP.out) (by decide) (by decide)).mono ?_
      rintro e W3 ⟨zz, rfl, d1, g1⟩
      have HDR : Hid (Dr W3 g cv zs ∧ W.grownBy W3 (some g)) := ⟨d1, g1⟩
      clear d1 g1
      go_wp2
      have H0 := HH1.out
      have H := HH1.out.draw HGP.out HXG.out HRG.out HDR.out.1 HDR.out.2
      have hn := HHN.out
      have h2 := HHD.out.1
      have h3 := HHD.out.2
      refine ⟨rfl, [v0, v1, .pointer (some ⟨g, 0, none⟩), v3, .int .i64 zz, v5, v6, v7], ?_, v0, v1, .pointer (some ⟨g, 0, none⟩), v3, .int .i64 zz, v5, v6, v7, zz, rfl, ⟨H.D, H.B, H.K, (by have h := H.o; simpa [doneSet] using h), (fun e => absurd (H0.g7_4 (by simpa [doneSet] using e)) (by rw [hn]; simp)), H.p, (by have h := H.f0; simpa [doneSet] using h), (by have h := H.f1; simpa [doneSet] using h), (fun _ => rfl), (by have h := H.o3; simpa [doneSet] using h), (fun _ => rfl), (by have h := H.f5; simpa [doneSet] using h), (by have h := H.f6; simpa [doneSet] using h), (fun _ => by simp [doneSet])⟩⟩
      simp only [putAll, Act.put, List.setIfInBounds_toArray, List.set_cons_succ, List.set_cons_zero]
    · rintro d vs W ⟨v0, v1, v2, v3, v4, v5, v6, v7, z, rfl, H⟩ hn hd
      simp only [putAll, Act.put, List.setIfInBounds_toArray, List.set_cons_succ, List.set_cons_zero]
      have h1 : d 1 = true := hd { on := 1, ground := .data } (by simp) rfl
      obtain rfl := H.f1 h1
      have HH1 : Hid (Sy (w) (P) (g) (cv) (zs) (X2) (P) (n) (t) (.slice (some ⟨b, 0, none⟩) m oc) (.slice qa lq qc) (x) (gs') (qs) (b) (m) (oc) d W v0 ((.slice (some ⟨b, 0, none⟩) m oc)) v2 v3 v4 v5 v6 v7 z) := H
      clear H
      have HHN : Hid (d 5 = false) := hn
      have HHD : Hid (d 1 = true) := h1
      clear hd hn h1
      go_wp2
      have H0 := HH1.out
      have H := HH1.out
      have hn := HHN.out
      have h1 := HHD.out
      refine ⟨rfl, [v0, (.slice (some ⟨b, 0, none⟩) m oc), v2, v3, v4, .pointer (some ⟨b, 0, none⟩), v6, v7], ?_, v0, (.slice (some ⟨b, 0, none⟩) m oc), v2, v3, v4, .pointer (some ⟨b, 0, none⟩), v6, v7, z, rfl, ⟨H.D, H.B, H.K, (by have h := H.o; simpa [doneSet] using h), (by have h := H.u; simpa [doneSet] using h), H.p, (by have h := H.f0; simpa [doneSet] using h), (fun _ => rfl), (by have h := H.f2; simpa [doneSet] using h), (by have h := H.o3; simpa [doneSet] using h), (by have h := H.f4; simpa [doneSet] using h), (fun _ => rfl), (by have h := H.f6; simpa [doneSet] using h), (by have h := H.g7_4; simpa [doneSet] using h)⟩⟩
      simp only [putAll, Act.put, List.setIfInBounds_toArray, List.set_cons_succ, List.set_cons_zero]
    · rintro d vs W ⟨v0, v1, v2, v3, v4, v5, v6, v7, z, rfl, H⟩ hn hd
      simp only [putAll, Act.put, List.setIfInBounds_toArray, List.set_cons_succ, List.set_cons_zero]
      have h5 : d 5 = true := hd { on := 5, ground := .data } (by simp) rfl
      obtain rfl := H.f5 h5
      have HH1 : Hid (Sy (w) (P) (g) (cv) (zs) (X2) (P) (n) (t) (.slice (some ⟨b, 0, none⟩) m oc) (.slice qa lq qc) (x) (gs') (qs) (b) (m) (oc) d W v0 v1 v2 v3 v4 (.pointer (some ⟨b, 0, none⟩)) v6 v7 z) := H
      clear H
      have HHN : Hid (d 6 = false) := hn
      have HHD : Hid (d 5 = true) := h5
      clear hd hn h5
      go_wp2
      have H0 := HH1.out
      have H := HH1.out
      have hn := HHN.out
      have h5 := HHD.out
      refine ⟨rfl, [v0, v1, v2, v3, v4, .pointer (some ⟨b, 0, none⟩), .pointer (some ⟨b, 1, none⟩), v7], ?_, v0, v1, v2, v3, v4, .pointer (some ⟨b, 0, none⟩), .pointer (some ⟨b, 1, none⟩), v7, z, rfl, ⟨H.D, H.B, H.K, (by have h := H.o; simpa [doneSet] using h), (by have h := H.u; simpa [doneSet] using h), H.p, (by have h := H.f0; simpa [doneSet] using h), (by have h := H.f1; simpa [doneSet] using h), (by have h := H.f2; simpa [doneSet] using h), (by have h := H.o3; simpa [doneSet] using h), (by have h := H.f4; simpa [doneSet] using h), (fun _ => rfl), (fun _ => rfl), (by have h := H.g7_4; simpa [doneSet] using h)⟩⟩
      simp only [putAll, Act.put, List.setIfInBounds_toArray, List.set_cons_succ, List.set_cons_zero]
    · rintro d vs W ⟨v0, v1, v2, v3, v4, v5, v6, v7, z, rfl, H⟩ hn hd
      simp only [putAll, Act.put, List.setIfInBounds_toArray, List.set_cons_succ, List.set_cons_zero]
      have h4 : d 4 = true := hd { on := 4, ground := .data } (by simp) rfl
      have h6 : d 6 = true := hd { on := 6, ground := .data } (by simp) rfl
      have ho := H.o hn
      have hrow : W.ownsRow P 36 3 (.slice (some ⟨b, 0, none⟩) m oc) m ((x :: gs').flatMap agC) := by have h' := ho; unfold Og at h'; rw [HMQ.out] at h'; exact h'
      obtain ⟨u1, hu1⟩ : ∃ u, W.cell? ⟨b, 1, none⟩ = some u := by
        rw [World.ownsRow.cellAt hrow 1 (by have := HM1.out; omega)]
        exact ⟨_, List.getElem?_eq_getElem (by rw [fm_len agC_len, HMQ.out]; have := HM1.out; omega)⟩
      have hf1 : W.frozen? ⟨b, 1, none⟩ = false := World.ownsRow.frozenAt hrow 1
      clear ho hrow
      obtain rfl := H.f4 h4
      obtain rfl := H.f6 h6
      have HH1 : Hid (Sy (w) (P) (g) (cv) (zs) (X2) (P) (n) (t) (.slice (some ⟨b, 0, none⟩) m oc) (.slice qa lq qc) (x) (gs') (qs) (b) (m) (oc) d W v0 v1 v2 v3 (.int .i64 z) v5 (.pointer (some ⟨b, 1, none⟩)) v7 z) := H
      clear H
      have HHN : Hid (d 7 = false) := hn
      have HHD : Hid (d 4 = true ∧ d 6 = true) := ⟨h4, h6⟩
      clear hd hn h4 h6
      go_wp2
      have hrow : W.ownsRow P 36 3 (.slice (some ⟨b, 0, none⟩) m oc) m ((x :: gs').flatMap agC) := by have h' := HH1.out.o HHN.out; unfold Og at h'; rw [HMQ.out] at h'; exact h'
      have hs := World.ownsRow.stored hrow 1 (.int .i64 z)
      have gf := hs.2
      have hog := hs.1
      rw [ag_set0] at hog
      have H0 := HH1.out
      have H := HH1.out
      have hn := HHN.out
      have h4 := HHD.out.1
      have h6 := HHD.out.2
      refine ⟨rfl, [v0, v1, v2, v3, .int .i64 z, v5, .pointer (some ⟨b, 1, none⟩), undef], ?_, v0, v1, v2, v3, .int .i64 z, v5, .pointer (some ⟨b, 1, none⟩), undef, z, rfl, ⟨(H.D.app (fun k e => by cases e; rw [HP.out]; exact HBP.out) gf), (H.B.offR hrow (by decide) gf), (H.K.offR hrow (by decide) gf), (fun e => by simp [doneSet] at e), (fun _ => by unfold Og; have h1 := HMQ.out; rw [List.length_cons] at h1 ⊢; rw [h1]; exact hog), (World.ownsRow.kept H.p gf (row_ne H.p hrow (by decide))), (by have h := H.f0; simpa [doneSet] using h), (by have h := H.f1; simpa [doneSet] using h), (by have h := H.f2; simpa [doneSet] using h), (fun e => (H.o3 (by simpa [doneSet] using e)).offR hrow (by decide) gf), (fun _ => rfl), (by have h := H.f5; simpa [doneSet] using h), (fun _ => rfl), (fun _ => by simpa [doneSet] using h4)⟩⟩
      simp only [putAll, Act.put, List.setIfInBounds_toArray, List.set_cons_succ, List.set_cons_zero]
    rintro d vs W5 ⟨v0, v1, v2, v3, v4, v5, v6, v7, z, rfl, H⟩ hn
    have HDD : Hid (Dc w W5 g cv zs) := H.D
    have HKK : Hid (Blk W5 P (D4 0 (.slice none 0 0) (.slice none 0 0) 0) 27) := H.K
    have HTT : Hid (Blk W5 X2 (D4 n (.slice (some ⟨b, 0, none⟩) m oc) (.slice qa lq qc) t) 27) := H.B
    have HOO : Hid (OwD P W5 (.slice (some ⟨b, 0, none⟩) m oc) (.slice qa lq qc) ((x.1, z, x.2.2) :: gs') qs) := ⟨H.u (hn 7 (by decide)), H.p, HOA.out⟩
    simp only [putAll, Act.put, List.setIfInBounds_toArray, List.set_cons_succ, List.set_cons_zero]
    clear H hn HS0
    have x0 := HTT.out.cell 0
    have x1 := HTT.out.cell 1
    have x2 := HTT.out.cell 2
    have x3 := HTT.out.cell 3
    have y0 := HKK.out.cell 0
    have y1 := HKK.out.cell 1
    have y2 := HKK.out.cell 2
    have y3 := HKK.out.cell 3
    have f0 := HKK.out.frozen 0
    have f1 := HKK.out.frozen 1
    have f2 := HKK.out.frozen 2
    have f3 := HKK.out.frozen 3
    simp at x0 x1 x2 x3 y0 y1 y2 y3
    have gf := grow4 W5 P (.int .i64 n) (.slice (some ⟨b, 0, none⟩) m oc) (.slice qa lq qc) (.int .i64 t)
    have HR : Hid (Blk ((((W5.setCell ⟨P, 0, none⟩ (.int .i64 n)).setCell ⟨P, 1, none⟩ (.slice (some ⟨b, 0, none⟩) m oc)).setCell ⟨P, 2, none⟩ (.slice qa lq qc)).setCell ⟨P, 3, none⟩ (.int .i64 t)) P (D4 n (.slice (some ⟨b, 0, none⟩) m oc) (.slice qa lq qc) t) 27) := (((HKK.out.set 0 _).set 1 _).set 2 _).set 3 _
    have HZ : Hid (DsR g cv zs w (.returned (.agg (D4 n (.slice (some ⟨b, 0, none⟩) m oc) (.slice qa lq qc) t))) ((((W5.setCell ⟨P, 0, none⟩ (.int .i64 n)).setCell ⟨P, 1, none⟩ (.slice (some ⟨b, 0, none⟩) m oc)).setCell ⟨P, 2, none⟩ (.slice qa lq qc)).setCell ⟨P, 3, none⟩ (.int .i64 t))) := by
      have hd := HDD.out.app (fun k e => by cases e; rw [HP.out]; exact Nat.le_refl _) gf
      exact ⟨_, _, _, _, ((x.1, z, x.2.2) :: gs'), qs, rfl, by rw [HP.out]; exact OwD.off HOO.out HKK.out gf, (by have h1 := HLB.out; simpa using h1), hd.dr, hd.gr⟩
    clear gf
    go_wp2
    exact bodyPost_ret (v := .agg (D4 n (.slice (some ⟨b, 0, none⟩) m oc) (.slice qa lq qc) t)) (results_cell_row rfl _ _ _ 27 _ (0, 0) _ rfl HR.out Try.underlying27 rfl sizeDk) rfl HZ.out
  have hb0 : (c == 0) = false := beq_eq_false_iff_ne.2 hc0
  by_cases hc1 : c = 1
  · subst hc1
    have ba : Below w3.heap.size w3 (w3.alloc (Obj.cells #[.int .i64 (-1), .int .i64 1000000000, .int .i64 1000000001, .int .i64 0] 3)) := (Below.refl _ _).alloc (Nat.le_refl _) _
    have lr : Rd .i64 (w3.alloc (Obj.cells #[.int .i64 (-1), .int .i64 1000000000, .int .i64 1000000001, .int .i64 0] 3)) (.slice (some ⟨w3.heap.size, 0, none⟩) 4 4) [-1, 1000000000, 1000000001, 0] := Rd.lit w3 [-1, 1000000000, 1000000001, 0] (by decide)
    have hgl : g < w3.heap.size := D_w3.out.dr.lt
    obtain ⟨W4, hW4⟩ : ∃ W, w3.alloc (Obj.cells #[.int .i64 (-1), .int .i64 1000000000, .int .i64 1000000001, .int .i64 0] 3) = W := ⟨_, rfl⟩
    obtain ⟨qW4, hqW4⟩ : ∃ X, w3.heap.size = X := ⟨_, rfl⟩
    rw [hW4] at ba lr
    rw [hqW4] at lr hgl
    have LR : Hid (Rd .i64 W4 (.slice (some ⟨qW4, 0, none⟩) 4 4) [-1, 1000000000, 1000000001, 0]) := lr
    have LN : Hid (g < qW4) := hgl
    have D_W4 : Hid (Dc w W4 g cv zs) := D_w3.out.below ba
    have K_W4 : Hid (Blk W4 P (D4 0 (.slice none 0 0) (.slice none 0 0) 0) 27) := K_w3.out.below ba K_w3.out.lt
    have O_W4 : Hid (OwD P W4 (.slice oa m oc) (.slice qa lq qc) gs qs) := O_w3.out.below ba
    have T_W4 : Hid (Blk W4 X2 (D4 n (.slice oa m oc) (.slice qa lq qc) t) 27) := T_w3.out.below ba T_w3.out.lt
    clear ba lr hgl D_w3 K_w3 O_w3 T_w3
    go_wp2_with (fail)
    refine (pickInt_c g cv zs (.slice (some ⟨qW4, 0, none⟩) 4 4) [-1, 1000000000, 1000000001, 0] _ D_W4.out.dr LR.out (.inr (by have := LN.out; simp [Value.ownBlock]; omega)) (by decide) (by decide)).mono ?_
    rintro e w5 ⟨y, rfl, d1, g1⟩
    have D_w5 : Hid (Dc w w5 g cv zs) := D_W4.out.draw d1 g1
    have K_w5 : Hid (Blk w5 P (D4 0 (.slice none 0 0) (.slice none 0 0) 0) 27) := K_W4.out.grown g1 (by have := NEK.out; simpa using this)
    have O_w5 : Hid (OwD P w5 (.slice oa m oc) (.slice qa lq qc) gs qs) := O_W4.out.draw g1 HGP.out
    have T_w5 : Hid (Blk w5 X2 (D4 n (.slice oa m oc) (.slice qa lq qc) t) 27) := T_W4.out.grown g1 (by have := NET.out; simpa using this)
    clear d1 g1 D_W4 K_W4 O_W4 T_W4 hW4 hqW4 LR LN
    have s0 := T_w5.out.cell 0
    have sf0 := T_w5.out.frozen 0
    simp at s0
    have gs0 : w5.grownBy (w5.setCell ⟨X2, 0, none⟩ (.int .i64 y)) (some X2) := grown_set' _ _ _ _
    have HDD : Hid (Dc w (w5.setCell ⟨X2, 0, none⟩ (.int .i64 y)) g cv zs) := D_w5.out.app (fun k e => by cases e; exact HXP.out) gs0
    have HKK : Hid (Blk (w5.setCell ⟨X2, 0, none⟩ (.int .i64 y)) P (D4 0 (.slice none 0 0) (.slice none 0 0) 0) 27) := K_w5.out.grown gs0 (fun e => HRX.out (Option.some.inj e))
    have HTT : Hid (Blk (w5.setCell ⟨X2, 0, none⟩ (.int .i64 y)) X2 (D4 y (.slice oa m oc) (.slice qa lq qc) t) 27) := T_w5.out.set 0 _
    have HOO : Hid (OwD P (w5.setCell ⟨X2, 0, none⟩ (.int .i64 y)) (.slice oa m oc) (.slice qa lq qc) gs qs) := O_w5.out.off T_w5.out gs0
    obtain ⟨WS, hWS⟩ : ∃ W, w5.setCell ⟨X2, 0, none⟩ (.int .i64 y) = W := ⟨_, rfl⟩
    rw [hWS] at HDD HKK HTT HOO
    clear gs0 D_w5 K_w5 T_w5 O_w5
    have x0 := HTT.out.cell 0
    have x1 := HTT.out.cell 1
    have x2 := HTT.out.cell 2
    have x3 := HTT.out.cell 3
    have y0 := HKK.out.cell 0
    have y1 := HKK.out.cell 1
    have y2 := HKK.out.cell 2
    have y3 := HKK.out.cell 3
    have f0 := HKK.out.frozen 0
    have f1 := HKK.out.frozen 1
    have f2 := HKK.out.frozen 2
    have f3 := HKK.out.frozen 3
    simp at x0 x1 x2 x3 y0 y1 y2 y3
    have gf := grow4 WS P (.int .i64 y) (.slice oa m oc) (.slice qa lq qc) (.int .i64 t)
    have HR : Hid (Blk ((((WS.setCell ⟨P, 0, none⟩ (.int .i64 y)).setCell ⟨P, 1, none⟩ (.slice oa m oc)).setCell ⟨P, 2, none⟩ (.slice qa lq qc)).setCell ⟨P, 3, none⟩ (.int .i64 t)) P (D4 y (.slice oa m oc) (.slice qa lq qc) t) 27) := (((HKK.out.set 0 _).set 1 _).set 2 _).set 3 _
    have HZ : Hid (DsR g cv zs w (.returned (.agg (D4 y (.slice oa m oc) (.slice qa lq qc) t))) ((((WS.setCell ⟨P, 0, none⟩ (.int .i64 y)).setCell ⟨P, 1, none⟩ (.slice oa m oc)).setCell ⟨P, 2, none⟩ (.slice qa lq qc)).setCell ⟨P, 3, none⟩ (.int .i64 t))) := by
      have hd := HDD.out.app (fun k e => by cases e; rw [HP.out]; exact Nat.le_refl _) gf
      exact ⟨_, _, _, _, gs, qs, rfl, by rw [HP.out]; exact OwD.off HOO.out HKK.out gf, HLB.out, hd.dr, hd.gr⟩
    clear gf
    go_wp2
    exact bodyPost_ret (v := .agg (D4 y (.slice oa m oc) (.slice qa lq qc) t)) (results_cell_row rfl _ _ _ 27 _ (0, 0) _ rfl HR.out Try.underlying27 rfl sizeDk) rfl HZ.out
  have hb1 : (c == 1) = false := beq_eq_false_iff_ne.2 hc1
  by_cases hc2 : c = 2
  · subst hc2
    have ba : Below w3.heap.size w3 (w3.alloc (Obj.cells #[.int .i64 (-1), .int .i64 1000000, .int .i64 1000001] 3)) := (Below.refl _ _).alloc (Nat.le_refl _) _
    have lr : Rd .i64 (w3.alloc (Obj.cells #[.int .i64 (-1), .int .i64 1000000, .int .i64 1000001] 3)) (.slice (some ⟨w3.heap.size, 0, none⟩) 3 3) [-1, 1000000, 1000001] := Rd.lit w3 [-1, 1000000, 1000001] (by decide)
    have hgl : g < w3.heap.size := D_w3.out.dr.lt
    obtain ⟨W4, hW4⟩ : ∃ W, w3.alloc (Obj.cells #[.int .i64 (-1), .int .i64 1000000, .int .i64 1000001] 3) = W := ⟨_, rfl⟩
    obtain ⟨qW4, hqW4⟩ : ∃ X, w3.heap.size = X := ⟨_, rfl⟩
    rw [hW4] at ba lr
    rw [hqW4] at lr hgl
    have LR : Hid (Rd .i64 W4 (.slice (some ⟨qW4, 0, none⟩) 3 3) [-1, 1000000, 1000001]) := lr
    have LN : Hid (g < qW4) := hgl
    have D_W4 : Hid (Dc w W4 g cv zs) := D_w3.out.below ba
    have K_W4 : Hid (Blk W4 P (D4 0 (.slice none 0 0) (.slice none 0 0) 0) 27) := K_w3.out.below ba K_w3.out.lt
    have O_W4 : Hid (OwD P W4 (.slice oa m oc) (.slice qa lq qc) gs qs) := O_w3.out.below ba
    have T_W4 : Hid (Blk W4 X2 (D4 n (.slice oa m oc) (.slice qa lq qc) t) 27) := T_w3.out.below ba T_w3.out.lt
    clear ba lr hgl D_w3 K_w3 O_w3 T_w3
    go_wp2_with (fail)
    refine (pickInt_c g cv zs (.slice (some ⟨qW4, 0, none⟩) 3 3) [-1, 1000000, 1000001] _ D_W4.out.dr LR.out (.inr (by have := LN.out; simp [Value.ownBlock]; omega)) (by decide) (by decide)).mono ?_
    rintro e w5 ⟨y, rfl, d1, g1⟩
    have D_w5 : Hid (Dc w w5 g cv zs) := D_W4.out.draw d1 g1
    have K_w5 : Hid (Blk w5 P (D4 0 (.slice none 0 0) (.slice none 0 0) 0) 27) := K_W4.out.grown g1 (by have := NEK.out; simpa using this)
    have O_w5 : Hid (OwD P w5 (.slice oa m oc) (.slice qa lq qc) gs qs) := O_W4.out.draw g1 HGP.out
    have T_w5 : Hid (Blk w5 X2 (D4 n (.slice oa m oc) (.slice qa lq qc) t) 27) := T_W4.out.grown g1 (by have := NET.out; simpa using this)
    clear d1 g1 D_W4 K_W4 O_W4 T_W4 hW4 hqW4 LR LN
    have s0 := T_w5.out.cell 3
    have sf0 := T_w5.out.frozen 3
    simp at s0
    have gs0 : w5.grownBy (w5.setCell ⟨X2, 3, none⟩ (.int .i64 y)) (some X2) := grown_set' _ _ _ _
    have HDD : Hid (Dc w (w5.setCell ⟨X2, 3, none⟩ (.int .i64 y)) g cv zs) := D_w5.out.app (fun k e => by cases e; exact HXP.out) gs0
    have HKK : Hid (Blk (w5.setCell ⟨X2, 3, none⟩ (.int .i64 y)) P (D4 0 (.slice none 0 0) (.slice none 0 0) 0) 27) := K_w5.out.grown gs0 (fun e => HRX.out (Option.some.inj e))
    have HTT : Hid (Blk (w5.setCell ⟨X2, 3, none⟩ (.int .i64 y)) X2 (D4 n (.slice oa m oc) (.slice qa lq qc) y) 27) := T_w5.out.set 3 _
    have HOO : Hid (OwD P (w5.setCell ⟨X2, 3, none⟩ (.int .i64 y)) (.slice oa m oc) (.slice qa lq qc) gs qs) := O_w5.out.off T_w5.out gs0
    obtain ⟨WS, hWS⟩ : ∃ W, w5.setCell ⟨X2, 3, none⟩ (.int .i64 y) = W := ⟨_, rfl⟩
    rw [hWS] at HDD HKK HTT HOO
    clear gs0 D_w5 K_w5 T_w5 O_w5
    have x0 := HTT.out.cell 0
    have x1 := HTT.out.cell 1
    have x2 := HTT.out.cell 2
    have x3 := HTT.out.cell 3
    have y0 := HKK.out.cell 0
    have y1 := HKK.out.cell 1
    have y2 := HKK.out.cell 2
    have y3 := HKK.out.cell 3
    have f0 := HKK.out.frozen 0
    have f1 := HKK.out.frozen 1
    have f2 := HKK.out.frozen 2
    have f3 := HKK.out.frozen 3
    simp at x0 x1 x2 x3 y0 y1 y2 y3
    have gf := grow4 WS P (.int .i64 n) (.slice oa m oc) (.slice qa lq qc) (.int .i64 y)
    have HR : Hid (Blk ((((WS.setCell ⟨P, 0, none⟩ (.int .i64 n)).setCell ⟨P, 1, none⟩ (.slice oa m oc)).setCell ⟨P, 2, none⟩ (.slice qa lq qc)).setCell ⟨P, 3, none⟩ (.int .i64 y)) P (D4 n (.slice oa m oc) (.slice qa lq qc) y) 27) := (((HKK.out.set 0 _).set 1 _).set 2 _).set 3 _
    have HZ : Hid (DsR g cv zs w (.returned (.agg (D4 n (.slice oa m oc) (.slice qa lq qc) y))) ((((WS.setCell ⟨P, 0, none⟩ (.int .i64 n)).setCell ⟨P, 1, none⟩ (.slice oa m oc)).setCell ⟨P, 2, none⟩ (.slice qa lq qc)).setCell ⟨P, 3, none⟩ (.int .i64 y))) := by
      have hd := HDD.out.app (fun k e => by cases e; rw [HP.out]; exact Nat.le_refl _) gf
      exact ⟨_, _, _, _, gs, qs, rfl, by rw [HP.out]; exact OwD.off HOO.out HKK.out gf, HLB.out, hd.dr, hd.gr⟩
    clear gf
    go_wp2
    exact bodyPost_ret (v := .agg (D4 n (.slice oa m oc) (.slice qa lq qc) y)) (results_cell_row rfl _ _ _ 27 _ (0, 0) _ rfl HR.out Try.underlying27 rfl sizeDk) rfl HZ.out
  have hb2 : (c == 2) = false := beq_eq_false_iff_ne.2 hc2
  by_cases hc3 : c = 3
  · subst hc3
    have t2 := T_w3.out.cell 2
    simp at t2
    by_cases hq0 : lq = 0
    · subst hq0
      clear t2
      have x0 := T_w3.out.cell 0
      have x1 := T_w3.out.cell 1
      have x2 := T_w3.out.cell 2
      have x3 := T_w3.out.cell 3
      have y0 := K_w3.out.cell 0
      have y1 := K_w3.out.cell 1
      have y2 := K_w3.out.cell 2
      have y3 := K_w3.out.cell 3
      have f0 := K_w3.out.frozen 0
      have f1 := K_w3.out.frozen 1
      have f2 := K_w3.out.frozen 2
      have f3 := K_w3.out.frozen 3
      simp at x0 x1 x2 x3 y0 y1 y2 y3
      have gf := grow4 w3 P (.int .i64 n) (.slice oa m oc) (.slice qa 0 qc) (.int .i64 t)
      have HR : Hid (Blk ((((w3.setCell ⟨P, 0, none⟩ (.int .i64 n)).setCell ⟨P, 1, none⟩ (.slice oa m oc)).setCell ⟨P, 2, none⟩ (.slice qa 0 qc)).setCell ⟨P, 3, none⟩ (.int .i64 t)) P (D4 n (.slice oa m oc) (.slice qa 0 qc) t) 27) := (((K_w3.out.set 0 _).set 1 _).set 2 _).set 3 _
      have HZ : Hid (DsR g cv zs w (.returned (.agg (D4 n (.slice oa m oc) (.slice qa 0 qc) t))) ((((w3.setCell ⟨P, 0, none⟩ (.int .i64 n)).setCell ⟨P, 1, none⟩ (.slice oa m oc)).setCell ⟨P, 2, none⟩ (.slice qa 0 qc)).setCell ⟨P, 3, none⟩ (.int .i64 t))) := by
        have hd := D_w3.out.app (fun k e => by cases e; rw [HP.out]; exact Nat.le_refl _) gf
        exact ⟨_, _, _, _, gs, qs, rfl, by rw [HP.out]; exact OwD.off O_w3.out K_w3.out gf, HLB.out, hd.dr, hd.gr⟩
      clear gf
      go_wp2
      exact bodyPost_ret (v := .agg (D4 n (.slice oa m oc) (.slice qa 0 qc) t)) (results_cell_row rfl _ _ _ 27 _ (0, 0) _ rfl HR.out Try.underlying27 rfl sizeDk) rfl HZ.out
    have hq0I : (0 : Int) < (lq : Int) := by omega
    obtain ⟨x, qs', rfl⟩ : ∃ x g', qs = x :: g' := by
      have := HQ.out
      cases qs with
      | nil => simp at this; omega
      | cons x g' => exact ⟨x, g', rfl⟩
    obtain ⟨b, hb, hbP⟩ : ∃ b, qa = some ⟨b, 0, none⟩ ∧ P ≤ b := by
      obtain ⟨a', c', he, hf⟩ := Og.form' O_w3.out.2.1
      simp only [Value.slice.injEq] at he
      rcases hf with hf | ⟨b, h1, h2, -⟩
      · cases hf
      · exact ⟨b, he.1.trans h1, h2⟩
    subst hb
    have HBP : Hid (P ≤ b) := hbP
    have HMQ : Hid ((x :: qs').length = lq) := HQ.out
    have HM1 : Hid (1 ≤ lq) := by show 1 ≤ lq; omega
    have HOA : Hid (((Value.slice oa m oc).ownBlock = none ∨ (Value.slice oa m oc).ownBlock ≠ (Value.slice (some ⟨b, 0, none⟩) lq qc).ownBlock) ∧ ((Value.slice (some ⟨b, 0, none⟩) lq qc).ownBlock = none ∨ (Value.slice (some ⟨b, 0, none⟩) lq qc).ownBlock ≠ (Value.slice oa m oc).ownBlock)) := O_w3.out.2.2
    have HS0 : Hid (Dc w (w3.drew) g cv zs ∧ Blk (w3.drew) X2 (D4 n (.slice oa m oc) (.slice (some ⟨b, 0, none⟩) lq qc) t) 27 ∧ Blk (w3.drew) P (D4 0 (.slice none 0 0) (.slice none 0 0) 0) 27 ∧ Og 4 wtC 74 P (w3.drew) (.slice (some ⟨b, 0, none⟩) lq qc) (x :: qs') ∧ Og 3 agC 36 P (w3.drew) (.slice oa m oc) gs) := ⟨D_w3.out.below (Below.refl _ _).drew, T_w3.out, K_w3.out, Og.below O_w3.out.2.1 (Below.refl _ _).drew, Og.below O_w3.out.1 (Below.refl _ _).drew⟩
    clear D_w3 K_w3 T_w3 O_w3 hbP
    go_upto_region 11 with (fail)
    rw [show decide (0 < lq) = true from (by simp; omega)]
    clear t2 
    refine region_vals [undef, undef, undef, undef, undef, undef, undef, undef] (SzS (w) (P) (g) (cv) (zs) (X2) (P) (n) (t) (.slice oa m oc) (.slice (some ⟨b, 0, none⟩) lq qc) (x) (gs) (qs') (b) (lq) (qc)) (by kernel_rfl) (by kernel_rfl) ?_ ⟨?_, ?_, ?_, ?_, ?_, ?_, ?_, ?_, trivial⟩ ?_
    · refine ⟨_, _, _, _, _, _, _, _, 0, rfl, ⟨(HS0.out.1), (HS0.out.2.1), (HS0.out.2.2.1), (fun _ => HS0.out.2.2.2.1), (fun e => by cases e), (HS0.out.2.2.2.2), ?_, ?_, ?_, ?_, ?_, ?_, ?_, ?_⟩⟩ <;> simp
    · rintro d vs W ⟨v0, v1, v2, v3, v4, v5, v6, v7, z, rfl, H⟩ hn hd
      simp only [putAll, Act.put, List.setIfInBounds_toArray, List.set_cons_succ, List.set_cons_zero]
      have HH1 : Hid (Sz (w) (P) (g) (cv) (zs) (X2) (P) (n) (t) (.slice oa m oc) (.slice (some ⟨b, 0, none⟩) lq qc) (x) (gs) (qs') (b) (lq) (qc) d W v0 v1 v2 v3 v4 v5 v6 v7 z) := H
      clear H
      have HHN : Hid (d 0 = false) := hn
      clear hd hn
      go_wp2
      have H0 := HH1.out
      have H := HH1.out
      have hn := HHN.out
      refine ⟨rfl, [.pointer (some ⟨X2, 2, none⟩), v1, v2, v3, v4, v5, v6, v7], ?_, .pointer (some ⟨X2, 2, none⟩), v1, v2, v3, v4, v5, v6, v7, z, rfl, ⟨H.D, H.B, H.K, (by have h := H.o; simpa [doneSet] using h), (by have h := H.u; simpa [doneSet] using h), H.p, (fun _ => rfl), (by have h := H.f1; simpa [doneSet] using h), (by have h := H.f2; simpa [doneSet] using h), (by have h := H.o3; simpa [doneSet] using h), (by have h := H.f4; simpa [doneSet] using h), (by have h := H.f5; simpa [doneSet] using h), (by have h := H.f6; simpa [doneSet] using h), (by have h := H.g7_4; simpa [doneSet] using h)⟩⟩
      simp only [putAll, Act.put, List.setIfInBounds_toArray, List.set_cons_succ, List.set_cons_zero]
    · rintro d vs W ⟨v0, v1, v2, v3, v4, v5, v6, v7, z, rfl, H⟩ hn hd
      simp only [putAll, Act.put, List.setIfInBounds_toArray, List.set_cons_succ, List.set_cons_zero]
      have h0 : d 0 = true := hd { on := 0, ground := .data } (by simp) rfl
      have y := H.B.cell 2
      simp at y
      obtain rfl := H.f0 h0
      have HH1 : Hid (Sz (w) (P) (g) (cv) (zs) (X2) (P) (n) (t) (.slice oa m oc) (.slice (some ⟨b, 0, none⟩) lq qc) (x) (gs) (qs') (b) (lq) (qc) d W (.pointer (some ⟨X2, 2, none⟩)) v1 v2 v3 v4 v5 v6 v7 z) := H
      clear H
      have HHN : Hid (d 1 = false) := hn
      have HHD : Hid (d 0 = true) := h0
      clear hd hn h0
      go_wp2
      have H0 := HH1.out
      have H := HH1.out
      have hn := HHN.out
      have h0 := HHD.out
      refine ⟨rfl, [.pointer (some ⟨X2, 2, none⟩), .slice (some ⟨b, 0, none⟩) lq qc, v2, v3, v4, v5, v6, v7], ?_, .pointer (some ⟨X2, 2, none⟩), .slice (some ⟨b, 0, none⟩) lq qc, v2, v3, v4, v5, v6, v7, z, rfl, ⟨H.D, H.B, H.K, (by have h := H.o; simpa [doneSet] using h), (by have h := H.u; simpa [doneSet] using h), H.p, (fun _ => rfl), (fun _ => rfl), (by have h := H.f2; simpa [doneSet] using h), (by have h := H.o3; simpa [doneSet] using h), (by have h := H.f4; simpa [doneSet] using h), (by have h := H.f5; simpa [doneSet] using h), (by have h := H.f6; simpa [doneSet] using h), (by have h := H.g7_4; simpa [doneSet] using h)⟩⟩
      simp only [putAll, Act.put, List.setIfInBounds_toArray, List.set_cons_succ, List.set_cons_zero]
    · rintro d vs W ⟨v0, v1, v2, v3, v4, v5, v6, v7, z, rfl, H⟩ hn hd
      simp only [putAll, Act.put, List.setIfInBounds_toArray, List.set_cons_succ, List.set_cons_zero]
      have HH1 : Hid (Sz (w) (P) (g) (cv) (zs) (X2) (P) (n) (t) (.slice oa m oc) (.slice (some ⟨b, 0, none⟩) lq qc) (x) (gs) (qs') (b) (lq) (qc) d W v0 v1 v2 v3 v4 v5 v6 v7 z) := H
      clear H
      have HHN : Hid (d 2 = false) := hn
      clear hd hn
      go_wp2
      have H0 := HH1.out
      have H := HH1.out
      have hn := HHN.out
      refine ⟨rfl, [v0, v1, .pointer (some ⟨g, 0, none⟩), v3, v4, v5, v6, v7], ?_, v0, v1, .pointer (some ⟨g, 0, none⟩), v3, v4, v5, v6, v7, z, rfl, ⟨H.D, H.B, H.K, (by have h := H.o; simpa [doneSet] using h), (by have h := H.u; simpa [doneSet] using h), H.p, (by have h := H.f0; simpa [doneSet] using h), (by have h := H.f1; simpa [doneSet] using h), (fun _ => rfl), (by have h := H.o3; simpa [doneSet] using h), (by have h := H.f4; simpa [doneSet] using h), (by have h := H.f5; simpa [doneSet] using h), (by have h := H.f6; simpa [doneSet] using h), (by have h := H.g7_4; simpa [doneSet] using h)⟩⟩
      simp only [putAll, Act.put, List.setIfInBounds_toArray, List.set_cons_succ, List.set_cons_zero]
    · rintro d vs W ⟨v0, v1, v2, v3, v4, v5, v6, v7, z, rfl, H⟩ hn hd
      simp only [putAll, Act.put, List.setIfInBounds_toArray, List.set_cons_succ, List.set_cons_zero]
      have HH1 : Hid (Sz (w) (P) (g) (cv) (zs) (X2) (P) (n) (t) (.slice oa m oc) (.slice (some ⟨b, 0, none⟩) lq qc) (x) (gs) (qs') (b) (lq) (qc) d W v0 v1 v2 v3 v4 v5 v6 v7 z) := H
      clear H
      have HHN : Hid (d 3 = false) := hn
      clear hd hn
      go_wp2
      have H0 := HH1.out
      have H := HH1.out.below ((Below.refl _ W).alloc (Nat.le_refl _) (.cells #[.int .i64 0, .int .i64 3, .int .i64 128, .int .i64 256] 3))
      have hn := HHN.out
      refine ⟨rfl, [v0, v1, v2, .slice (some ⟨W.heap.size, 0, none⟩) 4 4, v4, v5, v6, v7], ?_, v0, v1, v2, .slice (some ⟨W.heap.size, 0, none⟩) 4 4, v4, v5, v6, v7, z, rfl, ⟨H.D, H.B, H.K, (by have h := H.o; simpa [doneSet] using h), (by have h := H.u; simpa [doneSet] using h), H.p, (by have h := H.f0; simpa [doneSet] using h), (by have h := H.f1; simpa [doneSet] using h), (by have h := H.f2; simpa [doneSet] using h), (fun _ => Ow.lit W P [0, 3, 128, 256] (by have h1 := H0.D.gr.size; have h2 := HP.out; omega) (by decide)), (by have h := H.f4; simpa [doneSet] using h), (by have h := H.f5; simpa [doneSet] using h), (by have h := H.f6; simpa [doneSet] using h), (by have h := H.g7_4; simpa [doneSet] using h)⟩⟩
      simp only [putAll, Act.put, List.setIfInBounds_toArray, List.set_cons_succ, List.set_cons_zero]
    · rintro d vs W ⟨v0, v1, v2, v3, v4, v5, v6, v7, z, rfl, H⟩ hn hd
      simp only [putAll, Act.put, List.setIfInBounds_toArray, List.set_cons_succ, List.set_cons_zero]
      have h2 : d 2 = true := hd { on := 2, ground := .data } (by simp) rfl
      have h3 : d 3 = true := hd { on := 3, ground := .data } (by simp) rfl
      have HO3 : Hid (Ow .i64 3 P W v3 [0, 3, 128, 256]) := H.o3 h3
      obtain rfl := H.f2 h2
      have HH1 : Hid (Sz (w) (P) (g) (cv) (zs) (X2) (P) (n) (t) (.slice oa m oc) (.slice (some ⟨b, 0, none⟩) lq qc) (x) (gs) (qs') (b) (lq) (qc) d W v0 v1 (.pointer (some ⟨g, 0, none⟩)) v3 v4 v5 v6 v7 z) := H
      clear H
      have HHN : Hid (d 4 = false) := hn
      have HHD : Hid (d 2 = true ∧ d 3 = true) := ⟨h2, h3⟩
      clear hd hn h2 h3
      go_wp2_with (fail)
      refine (pickInt_c g cv zs v3 [0, 3, 128, 256] W HH1.out.D.dr HO3.out.rd (Ow.low HO3.out g HGP.out) (by decide) (by decide)).mono ?_
      rintro e W3 ⟨zz, rfl, d1, g1⟩
      have HDR : Hid (Dr W3 g cv zs ∧ W.grownBy W3 (some g)) := ⟨d1, g1⟩
      clear d1 g1
      go_wp2
      have H0 := HH1.out
      have H := HH1.out.draw HGP.out HXG.out HRG.out HDR.out.1 HDR.out.2
      have hn := HHN.out
      have h2 := HHD.out.1
      have h3 := HHD.out.2
      refine ⟨rfl, [v0, v1, .pointer (some ⟨g, 0, none⟩), v3, .int .i64 zz, v5, v6, v7], ?_, v0, v1, .pointer (some ⟨g, 0, none⟩), v3, .int .i64 zz, v5, v6, v7, zz, rfl, ⟨H.D, H.B, H.K, (by have h := H.o; simpa [doneSet] using h), (fun e => absurd (H0.g7_4 (by simpa [doneSet] using e)) (by rw [hn]; simp)), H.p, (by have h := H.f0; simpa [doneSet] using h), (by have h := H.f1; simpa [doneSet] using h), (fun _ => rfl), (by have h := H.o3; simpa [doneSet] using h), (fun _ => rfl), (by have h := H.f5; simpa [doneSet] using h), (by have h := H.f6; simpa [doneSet] using h), (fun _ => by simp [doneSet])⟩⟩
      simp only [putAll, Act.put, List.setIfInBounds_toArray, List.set_cons_succ, List.set_cons_zero]
    · rintro d vs W ⟨v0, v1, v2, v3, v4, v5, v6, v7, z, rfl, H⟩ hn hd
      simp only [putAll, Act.put, List.setIfInBounds_toArray, List.set_cons_succ, List.set_cons_zero]
      have h1 : d 1 = true := hd { on := 1, ground := .data } (by simp) rfl
      obtain rfl := H.f1 h1
      have HH1 : Hid (Sz (w) (P) (g) (cv) (zs) (X2) (P) (n) (t) (.slice oa m oc) (.slice (some ⟨b, 0, none⟩) lq qc) (x) (gs) (qs') (b) (lq) (qc) d W v0 ((.slice (some ⟨b, 0, none⟩) lq qc)) v2 v3 v4 v5 v6 v7 z) := H
      clear H
      have HHN : Hid (d 5 = false) := hn
      have HHD : Hid (d 1 = true) := h1
      clear hd hn h1
      go_wp2
      have H0 := HH1.out
      have H := HH1.out
      have hn := HHN.out
      have h1 := HHD.out
      refine ⟨rfl, [v0, (.slice (some ⟨b, 0, none⟩) lq qc), v2, v3, v4, .pointer (some ⟨b, 0, none⟩), v6, v7], ?_, v0, (.slice (some ⟨b, 0, none⟩) lq qc), v2, v3, v4, .pointer (some ⟨b, 0, none⟩), v6, v7, z, rfl, ⟨H.D, H.B, H.K, (by have h := H.o; simpa [doneSet] using h), (by have h := H.u; simpa [doneSet] using h), H.p, (by have h := H.f0; simpa [doneSet] using h), (fun _ => rfl), (by have h := H.f2; simpa [doneSet] using h), (by have h := H.o3; simpa [doneSet] using h), (by have h := H.f4; simpa [doneSet] using h), (fun _ => rfl), (by have h := H.f6; simpa [doneSet] using h), (by have h := H.g7_4; simpa [doneSet] using h)⟩⟩
      simp only [putAll, Act.put, List.setIfInBounds_toArray, List.set_cons_succ, List.set_cons_zero]
    · rintro d vs W ⟨v0, v1, v2, v3, v4, v5, v6, v7, z, rfl, H⟩ hn hd
      simp only [putAll, Act.put, List.setIfInBounds_toArray, List.set_cons_succ, List.set_cons_zero]
      have h5 : d 5 = true := hd { on := 5, ground := .data } (by simp) rfl
      obtain rfl := H.f5 h5
      have HH1 : Hid (Sz (w) (P) (g) (cv) (zs) (X2) (P) (n) (t) (.slice oa m oc) (.slice (some ⟨b, 0, none⟩) lq qc) (x) (gs) (qs') (b) (lq) (qc) d W v0 v1 v2 v3 v4 (.pointer (some ⟨b, 0, none⟩)) v6 v7 z) := H
      clear H
      have HHN : Hid (d 6 = false) := hn
      have HHD : Hid (d 5 = true) := h5
      clear hd hn h5
      go_wp2
      have H0 := HH1.out
      have H := HH1.out
      have hn := HHN.out
      have h5 := HHD.out
      refine ⟨rfl, [v0, v1, v2, v3, v4, .pointer (some ⟨b, 0, none⟩), .pointer (some ⟨b, 1, none⟩), v7], ?_, v0, v1, v2, v3, v4, .pointer (some ⟨b, 0, none⟩), .pointer (some ⟨b, 1, none⟩), v7, z, rfl, ⟨H.D, H.B, H.K, (by have h := H.o; simpa [doneSet] using h), (by have h := H.u; simpa [doneSet] using h), H.p, (by have h := H.f0; simpa [doneSet] using h), (by have h := H.f1; simpa [doneSet] using h), (by have h := H.f2; simpa [doneSet] using h), (by have h := H.o3; simpa [doneSet] using h), (by have h := H.f4; simpa [doneSet] using h), (fun _ => rfl), (fun _ => rfl), (by have h := H.g7_4; simpa [doneSet] using h)⟩⟩
      simp only [putAll, Act.put, List.setIfInBounds_toArray, List.set_cons_succ, List.set_cons_zero]
    · rintro d vs W ⟨v0, v1, v2, v3, v4, v5, v6, v7, z, rfl, H⟩ hn hd
      simp only [putAll, Act.put, List.setIfInBounds_toArray, List.set_cons_succ, List.set_cons_zero]
      have h4 : d 4 = true := hd { on := 4, ground := .data } (by simp) rfl
      have h6 : d 6 = true := hd { on := 6, ground := .data } (by simp) rfl
      have ho := H.o hn
      have hrow : W.ownsRow P 74 4 (.slice (some ⟨b, 0, none⟩) lq qc) lq ((x :: qs').flatMap wtC) := by have h' := ho; unfold Og at h'; rw [HMQ.out] at h'; exact h'
      obtain ⟨u1, hu1⟩ : ∃ u, W.cell? ⟨b, 1, none⟩ = some u := by
        rw [World.ownsRow.cellAt hrow 1 (by have := HM1.out; omega)]
        exact ⟨_, List.getElem?_eq_getElem (by rw [fm_len wtC_len, HMQ.out]; have := HM1.out; omega)⟩
      have hf1 : W.frozen? ⟨b, 1, none⟩ = false := World.ownsRow.frozenAt hrow 1
      clear ho hrow
      obtain rfl := H.f4 h4
      obtain rfl := H.f6 h6
      have HH1 : Hid (Sz (w) (P) (g) (cv) (zs) (X2) (P) (n) (t) (.slice oa m oc) (.slice (some ⟨b, 0, none⟩) lq qc) (x) (gs) (qs') (b) (lq) (qc) d W v0 v1 v2 v3 (.int .i64 z) v5 (.pointer (some ⟨b, 1, none⟩)) v7 z) := H
      clear H
      have HHN : Hid (d 7 = false) := hn
      have HHD : Hid (d 4 = true ∧ d 6 = true) := ⟨h4, h6⟩
      clear hd hn h4 h6
      go_wp2
      have hrow : W.ownsRow P 74 4 (.slice (some ⟨b, 0, none⟩) lq qc) lq ((x :: qs').flatMap wtC) := by have h' := HH1.out.o HHN.out; unfold Og at h'; rw [HMQ.out] at h'; exact h'
      have hs := World.ownsRow.stored hrow 1 (.int .i64 z)
      have gf := hs.2
      have hog := hs.1
      rw [wt_set0] at hog
      have H0 := HH1.out
      have H := HH1.out
      have hn := HHN.out
      have h4 := HHD.out.1
      have h6 := HHD.out.2
      refine ⟨rfl, [v0, v1, v2, v3, .int .i64 z, v5, .pointer (some ⟨b, 1, none⟩), undef], ?_, v0, v1, v2, v3, .int .i64 z, v5, .pointer (some ⟨b, 1, none⟩), undef, z, rfl, ⟨(H.D.app (fun k e => by cases e; rw [HP.out]; exact HBP.out) gf), (H.B.offR hrow (by decide) gf), (H.K.offR hrow (by decide) gf), (fun e => by simp [doneSet] at e), (fun _ => by unfold Og; have h1 := HMQ.out; rw [List.length_cons] at h1 ⊢; rw [h1]; exact hog), (World.ownsRow.kept H.p gf (row_ne H.p hrow (by decide))), (by have h := H.f0; simpa [doneSet] using h), (by have h := H.f1; simpa [doneSet] using h), (by have h := H.f2; simpa [doneSet] using h), (fun e => (H.o3 (by simpa [doneSet] using e)).offR hrow (by decide) gf), (fun _ => rfl), (by have h := H.f5; simpa [doneSet] using h), (fun _ => rfl), (fun _ => by simpa [doneSet] using h4)⟩⟩
      simp only [putAll, Act.put, List.setIfInBounds_toArray, List.set_cons_succ, List.set_cons_zero]
    rintro d vs W5 ⟨v0, v1, v2, v3, v4, v5, v6, v7, z, rfl, H⟩ hn
    have HDD : Hid (Dc w W5 g cv zs) := H.D
    have HKK : Hid (Blk W5 P (D4 0 (.slice none 0 0) (.slice none 0 0) 0) 27) := H.K
    have HTT : Hid (Blk W5 X2 (D4 n (.slice oa m oc) (.slice (some ⟨b, 0, none⟩) lq qc) t) 27) := H.B
    have HOO : Hid (OwD P W5 (.slice oa m oc) (.slice (some ⟨b, 0, none⟩) lq qc) gs ((x.1, z, x.2.2.1, x.2.2.2) :: qs')) := ⟨H.p, H.u (hn 7 (by decide)), HOA.out⟩
    simp only [putAll, Act.put, List.setIfInBounds_toArray, List.set_cons_succ, List.set_cons_zero]
    clear H hn HS0
    have x0 := HTT.out.cell 0
    have x1 := HTT.out.cell 1
    have x2 := HTT.out.cell 2
    have x3 := HTT.out.cell 3
    have y0 := HKK.out.cell 0
    have y1 := HKK.out.cell 1
    have y2 := HKK.out.cell 2
    have y3 := HKK.out.cell 3
    have f0 := HKK.out.frozen 0
    have f1 := HKK.out.frozen 1
    have f2 := HKK.out.frozen 2
    have f3 := HKK.out.frozen 3
    simp at x0 x1 x2 x3 y0 y1 y2 y3
    have gf := grow4 W5 P (.int .i64 n) (.slice oa m oc) (.slice (some ⟨b, 0, none⟩) lq qc) (.int .i64 t)
    have HR : Hid (Blk ((((W5.setCell ⟨P, 0, none⟩ (.int .i64 n)).setCell ⟨P, 1, none⟩ (.slice oa m oc)).setCell ⟨P, 2, none⟩ (.slice (some ⟨b, 0, none⟩) lq qc)).setCell ⟨P, 3, none⟩ (.int .i64 t)) P (D4 n (.slice oa m oc) (.slice (some ⟨b, 0, none⟩) lq qc) t) 27) := (((HKK.out.set 0 _).set 1 _).set 2 _).set 3 _
    have HZ : Hid (DsR g cv zs w (.returned (.agg (D4 n (.slice oa m oc) (.slice (some ⟨b, 0, none⟩) lq qc) t))) ((((W5.setCell ⟨P, 0, none⟩ (.int .i64 n)).setCell ⟨P, 1, none⟩ (.slice oa m oc)).setCell ⟨P, 2, none⟩ (.slice (some ⟨b, 0, none⟩) lq qc)).setCell ⟨P, 3, none⟩ (.int .i64 t))) := by
      have hd := HDD.out.app (fun k e => by cases e; rw [HP.out]; exact Nat.le_refl _) gf
      exact ⟨_, _, _, _, gs, ((x.1, z, x.2.2.1, x.2.2.2) :: qs'), rfl, by rw [HP.out]; exact OwD.off HOO.out HKK.out gf, (by have h1 := HLB.out; simpa using h1), hd.dr, hd.gr⟩
    clear gf
    go_wp2
    exact bodyPost_ret (v := .agg (D4 n (.slice oa m oc) (.slice (some ⟨b, 0, none⟩) lq qc) t)) (results_cell_row rfl _ _ _ 27 _ (0, 0) _ rfl HR.out Try.underlying27 rfl sizeDk) rfl HZ.out
  have hb3 : (c == 3) = false := beq_eq_false_iff_ne.2 hc3
  by_cases hc4 : c = 4
  · subst hc4
    go_wp2
    go_loopw [6] (fun i wr => ∃ (j : Nat) (vq : Value) (qs : List Wt), i = .int .i64 j ∧ j ≤ 40 ∧ qs.length ≤ 100 ∧ (qs.length = j + lq ∧ (j = 0 ∨ qs.length ≤ 40)) ∧ Hid (Dc w wr g cv zs ∧ Blk wr X2 (D4 n (.slice oa m oc) vq t) 27 ∧ Blk wr P (D4 0 (.slice none 0 0) (.slice none 0 0) 0) 27 ∧ OwD P wr (.slice oa m oc) vq gs qs)) (fun i _ => 41 - (intOf i).toNat)
    case atStart => exact ⟨0, (.slice qa lq qc), qs, rfl, by omega, HLB.out.2.2, ⟨by rw [HQ.out]; omega, .inl rfl⟩, D_w3.out, T_w3.out, K_w3.out, O_w3.out⟩
    case round =>
      obtain ⟨j, vq2, qs2, rfl, hj, hl2, hjl, hh⟩ := hrel
      clear D_w3 K_w3 T_w3 O_w3 
      obtain ⟨qb, qd, rfl⟩ := hh.out.2.2.2.2.1.form
      obtain ⟨l2, hl2'⟩ : ∃ m, qs2.length = m := ⟨_, rfl⟩
      have HL2 : Hid (qs2.length = l2) := hl2'
      rw [hl2'] at hh hl2 hjl
      have HJL : Hid (l2 = j + lq ∧ (j = 0 ∨ l2 ≤ 40)) := hjl
      clear hl2' hjl
      have HS0 : Hid (Dc w (wr.drew) g cv zs ∧ Blk (wr.drew) X2 (D4 n (.slice oa m oc) (.slice qb l2 qd) t) 27 ∧ Blk (wr.drew) P (D4 0 (.slice none 0 0) (.slice none 0 0) 0) 27 ∧ OwD P (wr.drew) (.slice oa m oc) (.slice qb l2 qd) gs qs2) := ⟨hh.out.1.below (Below.refl _ _).drew, hh.out.2.1, hh.out.2.2.1, hh.out.2.2.2.below (Below.refl _ _).drew⟩
      clear hh
      go_upto_region 14 with (fail)
      refine region_vals [undef, undef, undef, undef, undef, undef, undef] (SwS (w) (P) (g) (cv) (zs) (X2) (P) (n) (t) (.slice oa m oc) (.slice qb l2 qd) (gs) (qs2) (l2)) (by kernel_rfl) (by kernel_rfl) ?_ ⟨?_, ?_, ?_, ?_, ?_, ?_, ?_, trivial⟩ ?_
      · refine ⟨_, _, _, _, _, _, _, 0, false, rfl, ⟨(HS0.out.1), (HS0.out.2.1), (HS0.out.2.2.1), (HS0.out.2.2.2), ?_, ?_, ?_, ?_, ?_, ?_, ?_, ?_, ?_, ?_, ?_⟩⟩ <;> simp
      · rintro d vs W ⟨v0, v1, v2, v3, v4, v5, v6, z, bl, rfl, H⟩ hn hd
        simp only [putAll, Act.put, List.setIfInBounds_toArray, List.set_cons_succ, List.set_cons_zero]
        have HH1 : Hid (Sw (w) (P) (g) (cv) (zs) (X2) (P) (n) (t) (.slice oa m oc) (.slice qb l2 qd) (gs) (qs2) (l2) d W v0 v1 v2 v3 v4 v5 v6 z bl) := H
        clear H
        have HHN : Hid (d 0 = false) := hn
        clear hd hn
        go_wp2
        have H0 := HH1.out
        have H := HH1.out
        have hn := HHN.out
        refine ⟨rfl, [.pointer (some ⟨X2, 2, none⟩), v1, v2, v3, v4, v5, v6], ?_, .pointer (some ⟨X2, 2, none⟩), v1, v2, v3, v4, v5, v6, z, bl, rfl, ⟨H.D, H.B, H.K, H.o, (fun _ => rfl), (by have h := H.f1; simpa [doneSet] using h), (by have h := H.f2; simpa [doneSet] using h), (by have h := H.f3; simpa [doneSet] using h), (by have h := H.f4; simpa [doneSet] using h), (by have h := H.b4; simpa [doneSet] using h), (by have h := H.f5; simpa [doneSet] using h), (by have h := H.f6; simpa [doneSet] using h), (by have h := H.bq; simpa [doneSet] using h), (by have h := H.g5_4; simpa [doneSet] using h), (by have h := H.g6_5; simpa [doneSet] using h)⟩⟩
        simp only [putAll, Act.put, List.setIfInBounds_toArray, List.set_cons_succ, List.set_cons_zero]
      · rintro d vs W ⟨v0, v1, v2, v3, v4, v5, v6, z, bl, rfl, H⟩ hn hd
        simp only [putAll, Act.put, List.setIfInBounds_toArray, List.set_cons_succ, List.set_cons_zero]
        have h0 : d 0 = true := hd { on := 0, ground := .data } (by simp) rfl
        have y := H.B.cell 2
        simp at y
        obtain rfl := H.f0 h0
        have HH1 : Hid (Sw (w) (P) (g) (cv) (zs) (X2) (P) (n) (t) (.slice oa m oc) (.slice qb l2 qd) (gs) (qs2) (l2) d W (.pointer (some ⟨X2, 2, none⟩)) v1 v2 v3 v4 v5 v6 z bl) := H
        clear H
        have HHN : Hid (d 1 = false) := hn
        have HHD : Hid (d 0 = true) := h0
        clear hd hn h0
        go_wp2
        have H0 := HH1.out
        have H := HH1.out
        have hn := HHN.out
        have h0 := HHD.out
        refine ⟨rfl, [.pointer (some ⟨X2, 2, none⟩), .slice qb l2 qd, v2, v3, v4, v5, v6], ?_, .pointer (some ⟨X2, 2, none⟩), .slice qb l2 qd, v2, v3, v4, v5, v6, z, bl, rfl, ⟨H.D, H.B, H.K, H.o, (fun _ => rfl), (fun _ => rfl), (by have h := H.f2; simpa [doneSet] using h), (by have h := H.f3; simpa [doneSet] using h), (by have h := H.f4; simpa [doneSet] using h), (by have h := H.b4; simpa [doneSet] using h), (by have h := H.f5; simpa [doneSet] using h), (by have h := H.f6; simpa [doneSet] using h), (by have h := H.bq; simpa [doneSet] using h), (by have h := H.g5_4; simpa [doneSet] using h), (by have h := H.g6_5; simpa [doneSet] using h)⟩⟩
        simp only [putAll, Act.put, List.setIfInBounds_toArray, List.set_cons_succ, List.set_cons_zero]
      · rintro d vs W ⟨v0, v1, v2, v3, v4, v5, v6, z, bl, rfl, H⟩ hn hd
        simp only [putAll, Act.put, List.setIfInBounds_toArray, List.set_cons_succ, List.set_cons_zero]
        have h1 : d 1 = true := hd { on := 1, ground := .data } (by simp) rfl
        obtain rfl := H.f1 h1
        have HH1 : Hid (Sw (w) (P) (g) (cv) (zs) (X2) (P) (n) (t) (.slice oa m oc) (.slice qb l2 qd) (gs) (qs2) (l2) d W v0 ((.slice qb l2 qd)) v2 v3 v4 v5 v6 z bl) := H
        clear H
        have HHN : Hid (d 2 = false) := hn
        have HHD : Hid (d 1 = true) := h1
        clear hd hn h1
        go_wp2
        have H0 := HH1.out
        have H := HH1.out
        have hn := HHN.out
        have h1 := HHD.out
        refine ⟨rfl, [v0, (.slice qb l2 qd), .int .i64 (l2 : Int), v3, v4, v5, v6], ?_, v0, (.slice qb l2 qd), .int .i64 (l2 : Int), v3, v4, v5, v6, z, bl, rfl, ⟨H.D, H.B, H.K, H.o, (by have h := H.f0; simpa [doneSet] using h), (fun _ => rfl), (fun _ => rfl), (by have h := H.f3; simpa [doneSet] using h), (by have h := H.f4; simpa [doneSet] using h), (by have h := H.b4; simpa [doneSet] using h), (by have h := H.f5; simpa [doneSet] using h), (by have h := H.f6; simpa [doneSet] using h), (by have h := H.bq; simpa [doneSet] using h), (by have h := H.g5_4; simpa [doneSet] using h), (by have h := H.g6_5; simpa [doneSet] using h)⟩⟩
        simp only [putAll, Act.put, List.setIfInBounds_toArray, List.set_cons_succ, List.set_cons_zero]
      · rintro d vs W ⟨v0, v1, v2, v3, v4, v5, v6, z, bl, rfl, H⟩ hn hd
        simp only [putAll, Act.put, List.setIfInBounds_toArray, List.set_cons_succ, List.set_cons_zero]
        have HH1 : Hid (Sw (w) (P) (g) (cv) (zs) (X2) (P) (n) (t) (.slice oa m oc) (.slice qb l2 qd) (gs) (qs2) (l2) d W v0 v1 v2 v3 v4 v5 v6 z bl) := H
        clear H
        have HHN : Hid (d 3 = false) := hn
        clear hd hn
        go_wp2
        have H0 := HH1.out
        have H := HH1.out
        have hn := HHN.out
        refine ⟨rfl, [v0, v1, v2, .pointer (some ⟨g, 0, none⟩), v4, v5, v6], ?_, v0, v1, v2, .pointer (some ⟨g, 0, none⟩), v4, v5, v6, z, bl, rfl, ⟨H.D, H.B, H.K, H.o, (by have h := H.f0; simpa [doneSet] using h), (by have h := H.f1; simpa [doneSet] using h), (by have h := H.f2; simpa [doneSet] using h), (fun _ => rfl), (by have h := H.f4; simpa [doneSet] using h), (by have h := H.b4; simpa [doneSet] using h), (by have h := H.f5; simpa [doneSet] using h), (by have h := H.f6; simpa [doneSet] using h), (by have h := H.bq; simpa [doneSet] using h), (by have h := H.g5_4; simpa [doneSet] using h), (by have h := H.g6_5; simpa [doneSet] using h)⟩⟩
        simp only [putAll, Act.put, List.setIfInBounds_toArray, List.set_cons_succ, List.set_cons_zero]
      · rintro d vs W ⟨v0, v1, v2, v3, v4, v5, v6, z, bl, rfl, H⟩ hn hd
        simp only [putAll, Act.put, List.setIfInBounds_toArray, List.set_cons_succ, List.set_cons_zero]
        have h3 : d 3 = true := hd { on := 3, ground := .data } (by simp) rfl
        obtain rfl := H.f3 h3
        have HH1 : Hid (Sw (w) (P) (g) (cv) (zs) (X2) (P) (n) (t) (.slice oa m oc) (.slice qb l2 qd) (gs) (qs2) (l2) d W v0 v1 v2 (.pointer (some ⟨g, 0, none⟩)) v4 v5 v6 z bl) := H
        clear H
        have HHN : Hid (d 4 = false) := hn
        have HHD : Hid (d 3 = true) := h3
        clear hd hn h3
        go_wp2_with (fail)
        refine (below_c g cv zs 2 W HH1.out.D.dr (by omega)).mono ?_
        rintro e W3 ⟨zz, rfl, z0, z1, -, d1, g1⟩
        have HZB : Hid (0 ≤ zz ∧ zz ≤ 1) := ⟨z0, by have := z1 (by omega); omega⟩
        have HDR : Hid (Dr W3 g cv zs ∧ W.grownBy W3 (some g)) := ⟨d1, g1⟩
        clear d1 g1 z0 z1
        go_wp2
        have H0 := HH1.out
        have H := HH1.out.draw HGP.out HXG.out HRG.out HDR.out.1 HDR.out.2
        have hn := HHN.out
        have h3 := HHD.out
        refine ⟨rfl, [v0, v1, v2, .pointer (some ⟨g, 0, none⟩), .int .i64 zz, v5, v6], ?_, v0, v1, v2, .pointer (some ⟨g, 0, none⟩), .int .i64 zz, v5, v6, zz, bl, rfl, ⟨H.D, H.B, H.K, H.o, (by have h := H.f0; simpa [doneSet] using h), (by have h := H.f1; simpa [doneSet] using h), (by have h := H.f2; simpa [doneSet] using h), (fun _ => rfl), (fun _ => rfl), (fun _ => HZB.out), (fun e => absurd (H0.g5_4 (by simpa [doneSet] using e)) (by rw [hn]; simp)), (by have h := H.f6; simpa [doneSet] using h), (fun e => absurd (H0.g5_4 (H0.g6_5 (by simpa [doneSet] using e))) (by rw [hn]; simp)), (fun _ => by simp [doneSet]), (by have h := H.g6_5; simpa [doneSet] using h)⟩⟩
        simp only [putAll, Act.put, List.setIfInBounds_toArray, List.set_cons_succ, List.set_cons_zero]
      · rintro d vs W ⟨v0, v1, v2, v3, v4, v5, v6, z, bl, rfl, H⟩ hn hd
        simp only [putAll, Act.put, List.setIfInBounds_toArray, List.set_cons_succ, List.set_cons_zero]
        have h4 : d 4 = true := hd { on := 4, ground := .data } (by simp) rfl
        obtain ⟨zb0, zb1⟩ := H.b4 h4
        obtain rfl := H.f4 h4
        have HH1 : Hid (Sw (w) (P) (g) (cv) (zs) (X2) (P) (n) (t) (.slice oa m oc) (.slice qb l2 qd) (gs) (qs2) (l2) d W v0 v1 v2 v3 (.int .i64 z) v5 v6 z bl) := H
        clear H
        have HHN : Hid (d 5 = false) := hn
        have HHD : Hid (d 4 = true) := h4
        clear hd hn h4
        go_wp2
        have H0 := HH1.out
        have H := HH1.out
        have hn := HHN.out
        have h4 := HHD.out
        refine ⟨rfl, [v0, v1, v2, v3, .int .i64 z, .int .i64 (40 - z), v6], ?_, v0, v1, v2, v3, .int .i64 z, .int .i64 (40 - z), v6, z, bl, rfl, ⟨H.D, H.B, H.K, H.o, (by have h := H.f0; simpa [doneSet] using h), (by have h := H.f1; simpa [doneSet] using h), (by have h := H.f2; simpa [doneSet] using h), (by have h := H.f3; simpa [doneSet] using h), (fun _ => rfl), (by have h := H.b4; simpa [doneSet] using h), (fun _ => rfl), (by have h := H.f6; simpa [doneSet] using h), (by have h := H.bq; simpa [doneSet] using h), (fun _ => by simpa [doneSet] using h4), (fun _ => by simp [doneSet])⟩⟩
        simp only [putAll, Act.put, List.setIfInBounds_toArray, List.set_cons_succ, List.set_cons_zero]
      · rintro d vs W ⟨v0, v1, v2, v3, v4, v5, v6, z, bl, rfl, H⟩ hn hd
        simp only [putAll, Act.put, List.setIfInBounds_toArray, List.set_cons_succ, List.set_cons_zero]
        have h2 : d 2 = true := hd { on := 2, ground := .data } (by simp) rfl
        have h5 : d 5 = true := hd { on := 5, ground := .data } (by simp) rfl
        obtain rfl := H.f2 h2
        obtain rfl := H.f5 h5
        have HH1 : Hid (Sw (w) (P) (g) (cv) (zs) (X2) (P) (n) (t) (.slice oa m oc) (.slice qb l2 qd) (gs) (qs2) (l2) d W v0 v1 (.int .i64 (l2 : Int)) v3 v4 (.int .i64 (40 - z)) v6 z bl) := H
        clear H
        have HHN : Hid (d 6 = false) := hn
        have HHD : Hid (d 2 = true ∧ d 5 = true) := ⟨h2, h5⟩
        clear hd hn h2 h5
        go_wp2
        have H0 := HH1.out
        have H := HH1.out
        have hn := HHN.out
        have h2 := HHD.out.1
        have h5 := HHD.out.2
        refine ⟨rfl, [v0, v1, .int .i64 (l2 : Int), v3, v4, .int .i64 (40 - z), .bool (decide ((l2 : Int) < 40 - z))], ?_, v0, v1, .int .i64 (l2 : Int), v3, v4, .int .i64 (40 - z), .bool (decide ((l2 : Int) < 40 - z)), z, decide ((l2 : Int) < 40 - z), rfl, ⟨H.D, H.B, H.K, H.o, (by have h := H.f0; simpa [doneSet] using h), (by have h := H.f1; simpa [doneSet] using h), (fun _ => rfl), (by have h := H.f3; simpa [doneSet] using h), (by have h := H.f4; simpa [doneSet] using h), (by have h := H.b4; simpa [doneSet] using h), (fun _ => rfl), (fun _ => rfl), (fun _ => rfl), (by have h := H.g5_4; simpa [doneSet] using h), (fun _ => by simpa [doneSet] using h5)⟩⟩
        simp only [putAll, Act.put, List.setIfInBounds_toArray, List.set_cons_succ, List.set_cons_zero]
      rintro d vs W5 ⟨v0, v1, v2, v3, v4, v5, v6, z, qq, rfl, H⟩ hn
      obtain rfl := H.f6 (hn 6 (by decide))
      have HQB : Hid (qq = decide ((l2 : Int) < 40 - z)) := H.bq (hn 6 (by decide))
      obtain ⟨zb0, zb1⟩ := H.b4 (hn 4 (by decide))
      have HDD : Hid (Dc w W5 g cv zs) := H.D
      have HKK : Hid (Blk W5 P (D4 0 (.slice none 0 0) (.slice none 0 0) 0) 27) := H.K
      have HTT : Hid (Blk W5 X2 (D4 n (.slice oa m oc) (.slice qb l2 qd) t) 27) := H.B
      have HOO : Hid (OwD P W5 (.slice oa m oc) (.slice qb l2 qd) gs qs2) := H.o
      simp only [putAll, Act.put, List.setIfInBounds_toArray, List.set_cons_succ, List.set_cons_zero]
      clear H hn HS0
      cases qq
      case false =>
        have HL100 : Hid (l2 ≤ 100) := hl2
        clear HQB zb0 zb1
        have x0 := HTT.out.cell 0
        have x1 := HTT.out.cell 1
        have x2 := HTT.out.cell 2
        have x3 := HTT.out.cell 3
        have y0 := HKK.out.cell 0
        have y1 := HKK.out.cell 1
        have y2 := HKK.out.cell 2
        have y3 := HKK.out.cell 3
        have f0 := HKK.out.frozen 0
        have f1 := HKK.out.frozen 1
        have f2 := HKK.out.frozen 2
        have f3 := HKK.out.frozen 3
        simp at x0 x1 x2 x3 y0 y1 y2 y3
        have gf := grow4 W5 P (.int .i64 n) (.slice oa m oc) (.slice qb l2 qd) (.int .i64 t)
        have HR : Hid (Blk ((((W5.setCell ⟨P, 0, none⟩ (.int .i64 n)).setCell ⟨P, 1, none⟩ (.slice oa m oc)).setCell ⟨P, 2, none⟩ (.slice qb l2 qd)).setCell ⟨P, 3, none⟩ (.int .i64 t)) P (D4 n (.slice oa m oc) (.slice qb l2 qd) t) 27) := (((HKK.out.set 0 _).set 1 _).set 2 _).set 3 _
        have HZ : Hid (DsR g cv zs w (.returned (.agg (D4 n (.slice oa m oc) (.slice qb l2 qd) t))) ((((W5.setCell ⟨P, 0, none⟩ (.int .i64 n)).setCell ⟨P, 1, none⟩ (.slice oa m oc)).setCell ⟨P, 2, none⟩ (.slice qb l2 qd)).setCell ⟨P, 3, none⟩ (.int .i64 t))) := by
          have hd := HDD.out.app (fun k e => by cases e; rw [HP.out]; exact Nat.le_refl _) gf
          exact ⟨_, _, _, _, gs, qs2, rfl, by rw [HP.out]; exact OwD.off HOO.out HKK.out gf, ⟨HLB.out.1, HLB.out.2.1, by rw [HL2.out]; exact HL100.out⟩, hd.dr, hd.gr⟩
        clear gf
        go_wp2
        exact bodyPost_ret (v := .agg (D4 n (.slice oa m oc) (.slice qb l2 qd) t)) (results_cell_row rfl _ _ _ 27 _ (0, 0) _ rfl HR.out Try.underlying27 rfl sizeDk) rfl HZ.out
      case true =>
      have hlt : (l2 : Int) < 40 - z := by have := HQB.out; simpa using this.symm
      have t2 := HTT.out.cell 2
      have tf2 := HTT.out.frozen 2
      simp at t2
      have ba : Below W5.heap.size W5 (W5.alloc (Obj.cells #[.int .i64 (1000 + (j : Int)), .int .i64 128, .int .i64 0, .int .i64 0] 74)) := (Below.refl _ _).alloc (Nat.le_refl _) _
      have HR7 : Hid (Rg 4 wtC (W5.alloc (Obj.cells #[.int .i64 (1000 + (j : Int)), .int .i64 128, .int .i64 0, .int .i64 0] 74)) (.slice (some ⟨W5.heap.size, 0, none⟩) 1 1) [(1000 + (j : Int), 128, 0, 0)]) := Rg.oneWt (Blk.new _ _ _)
      have HO7 : Hid (OwD P (W5.alloc (Obj.cells #[.int .i64 (1000 + (j : Int)), .int .i64 128, .int .i64 0, .int .i64 0] 74)) (.slice oa m oc) (.slice qb l2 qd) gs qs2 ∧ Dc w (W5.alloc (Obj.cells #[.int .i64 (1000 + (j : Int)), .int .i64 128, .int .i64 0, .int .i64 0] 74)) g cv zs ∧ Blk (W5.alloc (Obj.cells #[.int .i64 (1000 + (j : Int)), .int .i64 128, .int .i64 0, .int .i64 0] 74)) P (D4 0 (.slice none 0 0) (.slice none 0 0) 0) 27 ∧ Blk (W5.alloc (Obj.cells #[.int .i64 (1000 + (j : Int)), .int .i64 128, .int .i64 0, .int .i64 0] 74)) X2 (D4 n (.slice oa m oc) (.slice qb l2 qd) t) 27) := ⟨HOO.out.below ba, HDD.out.below ba, HKK.out.below ba HKK.out.lt, HTT.out.below ba HTT.out.lt⟩
      have HB7 : Hid (P ≤ (W5.alloc (Obj.cells #[.int .i64 (1000 + (j : Int)), .int .i64 128, .int .i64 0, .int .i64 0] 74)).heap.size) := by rw [Hid, ← HP.out]; exact HO7.out.2.1.gr.size
      have hXl : X2 < W5.heap.size := HTT.out.lt
      have hl40 : l2 < 40 := by omega
      clear ba HOO HDD HKK HTT hlt HQB zb0 zb1
      go_wp2_with (at_builtin; refine appWt rfl _ _ rfl P _ qs2 rfl HO7.out.1.2.1 _ [(1000 + (j : Int), 128, 0, 0)] rfl HR7.out (by have := HL2.out; simp; omega) HB7.out ?_)
      intro v' w8 ho hg hv
      obtain ⟨oa2, hoa, hob⟩ := HO7.out
      have hD8 := hoa.app (fun k e => by rw [HP.out]; exact (Og.lt oa2.2.1 k e).1) hg
      have hK8 := hob.1.offR oa2.2.1 (by decide) hg
      have hT8 := hob.2.offR oa2.2.1 (by decide) hg
      have hA8 : Og 3 agC 36 P w8 (.slice oa m oc) gs := World.ownsRow.kept oa2.1 hg (row_ne oa2.1 oa2.2.1 (by decide))
      obtain ⟨e7, c7, hv7⟩ := Og.form ho
      obtain ⟨l7, hl7⟩ : ∃ l, (qs2 ++ [((1000 + (j : Int), 128, 0, 0) : Wt)]).length = l := ⟨_, rfl⟩
      have HL7 : Hid (l7 = l2 + 1) := by rw [Hid, ← hl7, List.length_append, HL2.out]; rfl
      rw [hl7] at hv7
      subst hv7
      have u2 := hT8.cell 2
      have uf2 := hT8.frozen 2
      simp at u2
      have gs0 : w8.grownBy (w8.setCell ⟨X2, 2, none⟩ (.slice e7 l7 c7)) (some X2) := grown_set' _ _ _ _
      have HF : Hid (Dc w (w8.setCell ⟨X2, 2, none⟩ (.slice e7 l7 c7)) g cv zs ∧ Blk (w8.setCell ⟨X2, 2, none⟩ (.slice e7 l7 c7)) X2 (D4 n (.slice oa m oc) (.slice e7 l7 c7) t) 27 ∧ Blk (w8.setCell ⟨X2, 2, none⟩ (.slice e7 l7 c7)) P (D4 0 (.slice none 0 0) (.slice none 0 0) 0) 27 ∧ OwD P (w8.setCell ⟨X2, 2, none⟩ (.slice e7 l7 c7)) (.slice oa m oc) (.slice e7 l7 c7) gs (qs2 ++ [(1000 + (j : Int), 128, 0, 0)])) := by
        refine ⟨hD8.app (fun k e => by cases e; exact HXP.out) gs0, hT8.set 2 _, hK8.grown gs0 (fun e => HRX.out (Option.some.inj e)), ?_⟩
        exact OwD.off ⟨hA8, ho, row_ne hA8 ho (by decide), row_ne ho hA8 (by decide)⟩ hT8 gs0
      clear ho hg hv oa2 hoa hob hD8 hK8 hT8 hA8 gs0 hl7 HO7 HR7 HB7 t2 tf2
      go_wp2
      go_roundw
      case rel => exact ⟨j + 1, _, qs2 ++ [(1000 + (j : Int), 128, 0, 0)], by go_num, by have := HJL.out; omega, by simp [HL2.out]; omega, ⟨by have := HJL.out; simp [HL2.out]; omega, .inr (by simp [HL2.out]; omega)⟩, HF.out⟩
      case measure => simp [intOf]; omega
  have hb4 : (c == 4) = false := beq_eq_false_iff_ne.2 hc4
  have x0 := T_w3.out.cell 0
  have x1 := T_w3.out.cell 1
  have x2 := T_w3.out.cell 2
  have x3 := T_w3.out.cell 3
  have y0 := K_w3.out.cell 0
  have y1 := K_w3.out.cell 1
  have y2 := K_w3.out.cell 2
  have y3 := K_w3.out.cell 3
  have f0 := K_w3.out.frozen 0
  have f1 := K_w3.out.frozen 1
  have f2 := K_w3.out.frozen 2
  have f3 := K_w3.out.frozen 3
  simp at x0 x1 x2 x3 y0 y1 y2 y3
  have gf := grow4 w3 P (.int .i64 n) (.slice oa m oc) (.slice qa lq qc) (.int .i64 t)
  have HR : Hid (Blk ((((w3.setCell ⟨P, 0, none⟩ (.int .i64 n)).setCell ⟨P, 1, none⟩ (.slice oa m oc)).setCell ⟨P, 2, none⟩ (.slice qa lq qc)).setCell ⟨P, 3, none⟩ (.int .i64 t)) P (D4 n (.slice oa m oc) (.slice qa lq qc) t) 27) := (((K_w3.out.set 0 _).set 1 _).set 2 _).set 3 _
  have HZ : Hid (DsR g cv zs w (.returned (.agg (D4 n (.slice oa m oc) (.slice qa lq qc) t))) ((((w3.setCell ⟨P, 0, none⟩ (.int .i64 n)).setCell ⟨P, 1, none⟩ (.slice oa m oc)).setCell ⟨P, 2, none⟩ (.slice qa lq qc)).setCell ⟨P, 3, none⟩ (.int .i64 t))) := by
    have hd := D_w3.out.app (fun k e => by cases e; rw [HP.out]; exact Nat.le_refl _) gf
    exact ⟨_, _, _, _, gs, qs, rfl, by rw [HP.out]; exact OwD.off O_w3.out K_w3.out gf, HLB.out, hd.dr, hd.gr⟩
  clear gf
  go_wp2
  exact bodyPost_ret (v := .agg (D4 n (.slice oa m oc) (.slice qa lq qc) t)) (results_cell_row rfl _ _ _ 27 _ (0, 0) _ rfl HR.out Try.underlying27 rfl sizeDk) rfl HZ.out
end Go.Proofs.Ytpmmgbinogokfaa
namespace Go.Proofs.Ytpmmgbinogokfaa
open Go.RowKit Go.ChangeShapes Go.WideShapes Go.ChangeAt
set_option linter.unusedVariables false
set_option linter.unusedSimpArgs false
set_option maxRecDepth 8000
/-- from w on nothing old was turned; the cursor g is new -/
structure Dq (w W : World) (g : Nat) (cv : Value) (zs : List Int) : Prop where
  dr : Dr W g cv zs
  bel : Below w.heap.size w W
  gl : w.heap.size < g
  cl : zs = [] ∨ ∀ k, cv.ownBlock = some k → k < w.heap.size
theorem Dq.below {w W W' : World} {g : Nat} {cv : Value} {zs : List Int} (h : Dq w W g cv zs) (hb : Below W.heap.size W W') : Dq w W' g cv zs := ⟨h.dr.below hb, belowCall h.bel hb h.bel.size, h.gl, h.cl⟩
theorem Dq.draw {w W W' : World} {g : Nat} {cv : Value} {zs : List Int} (h : Dq w W g cv zs) (hd : Dr W' g cv zs) (hg : W.grownBy W' (some g)) : Dq w W' g cv zs :=
  ⟨hd, h.bel.trans (grown_below hg h.bel.size (fun k e => by cases e; exact Nat.le_of_lt h.gl)), h.gl, h.cl⟩
theorem Dq.app {w W W' : World} {g : Nat} {cv : Value} {zs : List Int} {R : Nat} (h : Dq w W g cv zs) (hr : w.heap.size ≤ R) (hne : R ≠ g) (hg : W.grownBy W' (some R)) : Dq w W' g cv zs := by
  have hd : Dr W' g cv zs := by
    obtain ⟨i, hh, k, h1, h2⟩ := h.dr.cur
    refine ⟨⟨i, hh, k.grown hg (fun e => hne (by cases e; rfl)), h1, h2⟩, h.dr.rd.grownE hg ?_, h.dr.ap, h.dr.ok, h.dr.len⟩
    rcases h.cl with h0 | h0
    · exact .inl h0
    · cases hv : cv.ownBlock with
      | none => exact .inr (.inl rfl)
      | some k => exact .inr (.inr (fun e => by have := h0 k hv; cases e; omega))
  exact ⟨hd, h.bel.trans (grown_below hg h.bel.size (fun k e => by cases e; exact hr)), h.gl, h.cl⟩
theorem Dq.drew {w W : World} {g : Nat} {cv : Value} {zs : List Int} (h : Dq w W g cv zs) : Dq w W.drew g cv zs := ⟨h.dr.below (Below.refl _ _).drew, h.bel.drew, h.gl, h.cl⟩
structure Sr (w : World) (P : Nat) (g : Nat) (cv : Value) (zs : List Int) (X : Nat) (R : Nat) (n : Int) (t : Int) (va : Value) (vq : Value) (gs : List Ag) (qs : List Wt) (m : Nat) (nn : Int) (d : Nat → Bool) (W : World) (v0 v1 v2 v3 v4 v5 v6 v7 v8 v9 v10 : Value) (os : List Do) : Prop where
  D : Dq w W g cv zs
  B : Blk W X (D4 n va vq t) 27
  K0 : d 9 = false → Blk W R (D4 0 (.slice none 0 0) (.slice none 0 0) 0) 27
  K1 : d 9 = true → Blk W R (D4 n va vq t) 27
  o : OwD P W va vq gs qs
  sz : P ≤ W.heap.size
  f0 : d 0 = true → v0 = .agg (D4 n va vq t)
  f1 : d 1 = true → v1 = .pointer (some ⟨g, 0, none⟩)
  f2 : d 2 = true → v2 = .pointer (some ⟨X, 0, none⟩)
  f3 : d 3 = true → v3 = .int .i64 n
  f4 : d 4 = true → v4 = .pointer (some ⟨X, 1, none⟩)
  f5 : d 5 = true → v5 = va
  f6 : d 6 = true → v6 = .int .i64 (m : Int)
  f7 : d 7 = true → v7 = .int .i64 nn
  o8 : d 8 = true → Og 5 doC 38 P W v8 os
  l8 : d 8 = true → os.length ≤ 1000
  f10 : d 10 = true → v10 = v8 ∧ d 8 = true
def SrS (w : World) (P : Nat) (g : Nat) (cv : Value) (zs : List Int) (X : Nat) (R : Nat) (n : Int) (t : Int) (va : Value) (vq : Value) (gs : List Ag) (qs : List Wt) (m : Nat) (nn : Int) (d : Nat → Bool) (q : List Value) (W : World) : Prop := ∃ v0 v1 v2 v3 v4 v5 v6 v7 v8 v9 v10 os, q = [v0, v1, v2, v3, v4, v5, v6, v7, v8, v9, v10] ∧ Sr w P g cv zs X R n t va vq gs qs m nn d W v0 v1 v2 v3 v4 v5 v6 v7 v8 v9 v10 os
theorem Sr.below {w : World} {P : Nat} {g : Nat} {cv : Value} {zs : List Int} {X : Nat} {R : Nat} {n : Int} {t : Int} {va : Value} {vq : Value} {gs : List Ag} {qs : List Wt} {m : Nat} {nn : Int} {d : Nat → Bool} {W W' : World} {v0 v1 v2 v3 v4 v5 v6 v7 v8 v9 v10 : Value} {os : List Do} (h : Sr w P g cv zs X R n t va vq gs qs m nn d W v0 v1 v2 v3 v4 v5 v6 v7 v8 v9 v10 os) (hb : Below W.heap.size W W') : Sr w P g cv zs X R n t va vq gs qs m nn d W' v0 v1 v2 v3 v4 v5 v6 v7 v8 v9 v10 os :=
  { h with
    D := h.D.below hb
    B := h.B.below hb h.B.lt
    K0 := fun e0 => (h.K0 e0).below hb (h.K0 e0).lt
    K1 := fun e0 => (h.K1 e0).below hb (h.K1 e0).lt
    o := h.o.below hb
    sz := Nat.le_trans h.sz hb.size
    o8 := fun e0 => (h.o8 e0).below hb
  }
theorem Sr.draw {w : World} {P : Nat} {g : Nat} {cv : Value} {zs : List Int} {X : Nat} {R : Nat} {n : Int} {t : Int} {va : Value} {vq : Value} {gs : List Ag} {qs : List Wt} {m : Nat} {nn : Int} {d : Nat → Bool} {W W' : World} {v0 v1 v2 v3 v4 v5 v6 v7 v8 v9 v10 : Value} {os : List Do} (h : Sr w P g cv zs X R n t va vq gs qs m nn d W v0 v1 v2 v3 v4 v5 v6 v7 v8 v9 v10 os) (hgC : g < P) (hBg : X ≠ g) (hKg : R ≠ g) (hd : Dr W' g cv zs) (hg : W.grownBy W' (some g)) : Sr w P g cv zs X R n t va vq gs qs m nn d W' v0 v1 v2 v3 v4 v5 v6 v7 v8 v9 v10 os :=
  { h with
    D := h.D.draw hd hg
    B := h.B.grown hg (by have := hBg; simpa using this)
    K0 := fun e0 => (h.K0 e0).grown hg (by simpa using hKg)
    K1 := fun e0 => (h.K1 e0).grown hg (by simpa using hKg)
    o := h.o.draw hg hgC
    sz := Nat.le_trans h.sz hg.size
    o8 := fun e0 => (h.o8 e0).draw hg hgC
  }
theorem results_Db {fn : Func} {p u : Tmp} (h : fn.results = #[.cell p 27, .tmp u]) (tmps : Array Value) (w : World) (g : Nat) (n : Int) (va vq : Value) (gg : Int) (x : Value)
    (hp : tmps.getD p undef = .pointer (some ⟨g, 0, none⟩)) (hx : tmps.getD u undef = x) (hg : Blk w g (D4 n va vq gg) 27) :
    (results fn tmps).run Try.prog w = .ok (.tuple #[.agg (D4 n va vq gg), x]) w := by
  have hp' : tmps[p]?.getD undef = .pointer (some ⟨g, 0, none⟩) := by simpa using hp
  have hx' : tmps[u]?.getD undef = x := by simpa using hx
  have hr := run_loadVar_row (P := Try.prog) w g 27 27 (D4 n va vq gg) (0, 0) _ hg Try.underlying27 rfl sizeDk
  simp [results, h, hp', hx', asAddr, hr]
def RdR (w : World) (e : Ending) (w' : World) : Prop := ∃ n t va vq gs qs vo os, e = .returned (.tuple #[.agg (D4 n va vq t), vo]) ∧ OwD w.heap.size w' va vq gs qs ∧ (gs.length ≤ 100 ∧ qs.length ≤ 100 ∧ os.length ≤ 1000) ∧ Rg 5 doC w' vo os ∧ Below w.heap.size w w'
set_option maxHeartbeats 25600000 in
theorem drawRun_c (v : Value) (cs : List Int) (w : World) (h : Rd .u8 w v cs) (hok : ∀ z ∈ cs, 0 ≤ z ∧ z ≤ 255) (hlen : cs.length ≤ 1048576) : Calls Try.prog 10 #[v] w (RdR w) := by
  have hcl : cs = [] ∨ ∀ k, v.ownBlock = some k → k < w.heap.size := by
    obtain ⟨a, cap, rfl, -, -, h3⟩ := h
    rcases h3 with h3 | ⟨b, off, rfl, h4⟩
    · exact .inl h3
    · cases cs with
      | nil => exact .inl rfl
      | cons z r => exact .inr (fun k e => by simp [Value.ownBlock] at e; subst e; exact block_lt_of_cell (h4 0 (by simp)))
  have ba : Below w.heap.size w (w.alloc (Obj.cells (D4 0 (.slice none 0 0) (.slice none 0 0) 0) 27)) := (Below.refl _ _).alloc (Nat.le_refl _) _
  have kb : Blk (w.alloc (Obj.cells (D4 0 (.slice none 0 0) (.slice none 0 0) 0) 27)) w.heap.size (D4 0 (.slice none 0 0) (.slice none 0 0) 0) 27 := Blk.new _ _ _
  obtain ⟨R, hR⟩ : ∃ R, w.heap.size = R := ⟨_, rfl⟩
  have HRe : Hid (w.heap.size = R) := hR
  have hsz : (w.alloc (Obj.cells (D4 0 (.slice none 0 0) (.slice none 0 0) 0) 27)).heap.size = R + 1 := by simp [hR]
  have HV : Hid (∀ W, Below w.heap.size w W → Rd .u8 W v cs) := fun W hb => h.below hb
  obtain ⟨W0, hW0⟩ : ∃ W, w.alloc (Obj.cells (D4 0 (.slice none 0 0) (.slice none 0 0) 0) 27) = W := ⟨_, rfl⟩
  rw [hW0] at ba kb hsz
  rw [hR] at kb
  go_enter Try.func10, Try.ntmps10
  go_wp2_with (fail)
  refine (new_c v cs W0 (HV.out _ ba) hok (by omega)).mono ?_
  rintro e w0 ⟨g, rfl, hd, hgl, hb0⟩
  rw [hsz] at hgl
  have NEK : Hid (R ≠ g) := by show R ≠ g; omega
  have HRG : Hid (R ≠ g) := NEK.out
  have HRW : Hid (w.heap.size ≤ R) := by rw [Hid, HRe.out]; exact Nat.le_refl _
  have D0 : Dq w w0 g v cs := ⟨hd, belowCall ba hb0 ba.size, by rw [hR]; omega, hcl⟩
  have K0 : Blk w0 R (D4 0 (.slice none 0 0) (.slice none 0 0) 0) 27 := kb.below hb0 kb.lt
  have hvg : v.ownBlock = none ∨ v.ownBlock ≠ some g ∨ cs = [] := by
    rcases hcl with h0 | h0
    · exact .inr (.inr h0)
    · cases hv : v.ownBlock with
      | none => exact .inl rfl
      | some k => exact .inr (.inl (fun e => by have := h0 k hv; have := Option.some.inj e; rw [hR] at *; omega))
  obtain ⟨P, hP⟩ : ∃ P, w0.heap.size = P := ⟨_, rfl⟩
  have HP : Hid (w0.heap.size = P) := hP
  have HRPl : Hid (R ≤ P) := by rw [Hid, ← hP]; exact Nat.le_of_lt K0.lt
  have HGP : Hid (g < P) := by rw [Hid, ← hP]; exact hd.lt
  have hcg : cs = [] ∨ v.ownBlock = none ∨ v.ownBlock ≠ some g := by
    rcases hvg with h1 | h1 | h1
    · exact .inr (.inl h1)
    · exact .inr (.inr h1)
    · exact .inl h1
  obtain ⟨cv, hcv⟩ : ∃ cv, v = cv := ⟨_, rfl⟩
  rw [hcv] at D0 hcg HV ⊢
  go_wp2_with (fail)
  refine (l8Any_c g cv cs cv cs w0 D0.dr (HV.out _ D0.bel) hcg).mono ?_
  rintro e w1 ⟨n, t, va, vq, gs, qs, rfl, ho, hb, d1, g1⟩
  have HLB : Hid (1 ≤ gs.length ∧ gs.length ≤ 100 ∧ qs.length ≤ 100) := hb
  have D_w1 : Hid (Dq w w1 g cv cs) := D0.draw d1 g1
  have K_w1 : Hid (Blk w1 R (D4 0 (.slice none 0 0) (.slice none 0 0) 0) 27) := K0.grown g1 (by have := NEK.out; simpa using this)
  have O_w1 : Hid (OwD P w1 va vq gs qs) := by rw [← HP.out]; exact ho
  have HPW : Hid (P ≤ w1.heap.size) := by rw [Hid, ← HP.out]; exact g1.size
  clear D0 K0 ho hb d1 g1 hcg hvg hd hgl hb0 ba kb hcl h hok hlen hW0 hsz hP hcv
  obtain ⟨oa, oc, rfl⟩ := O_w1.out.1.form
  obtain ⟨qa, qc, rfl⟩ := O_w1.out.2.1.form
  obtain ⟨m, hm⟩ : ∃ m, gs.length = m := ⟨_, rfl⟩
  obtain ⟨lq, hlq⟩ : ∃ m, qs.length = m := ⟨_, rfl⟩
  have HM : Hid (gs.length = m) := hm
  have HMB : Hid (m ≤ 100) := by rw [Hid, ← hm]; exact HLB.out.2.1
  rw [hm, hlq] at O_w1 ⊢
  clear hm hlq
  have hgx : g < w1.heap.size := D_w1.out.dr.lt
  have hrx : R < w1.heap.size := K_w1.out.lt
  have hpx : P ≤ w1.heap.size := by exact HPW.out
  have ba : Below w1.heap.size w1 (w1.alloc (Obj.cells (D4 n (.slice oa m oc) (.slice qa lq qc) t) 27)) := (Below.refl _ _).alloc (Nat.le_refl _) _
  have kb : Blk (w1.alloc (Obj.cells (D4 n (.slice oa m oc) (.slice qa lq qc) t) 27)) w1.heap.size (D4 n (.slice oa m oc) (.slice qa lq qc) t) 27 := Blk.new _ _ _
  obtain ⟨X2, hX2⟩ : ∃ X, w1.heap.size = X := ⟨_, rfl⟩
  obtain ⟨W2, hW2⟩ : ∃ W, w1.alloc (Obj.cells (D4 n (.slice oa m oc) (.slice qa lq qc) t) 27) = W := ⟨_, rfl⟩
  rw [hW2] at ba kb
  rw [hX2] at kb
  have D_W2 : Hid (Dq w W2 g cv cs) := D_w1.out.below ba
  have K_W2 : Hid (Blk W2 R (D4 0 (.slice none 0 0) (.slice none 0 0) 0) 27) := K_w1.out.below ba K_w1.out.lt
  have O_W2 : Hid (OwD P W2 (.slice oa m oc) (.slice qa lq qc) gs qs) := O_w1.out.below ba
  have T_W2 : Hid (Blk W2 X2 (D4 n (.slice oa m oc) (.slice qa lq qc) t) 27) := kb
  clear ba kb D_w1 K_w1 O_w1
  have NET : Hid (X2 ≠ g) := by show X2 ≠ g; omega
  have HXG : Hid (X2 ≠ g) := NET.out
  have HXR : Hid (X2 ≠ R) := by show X2 ≠ R; omega
  have HPX : Hid (P ≤ X2) := by show _ ≤ _; omega
  clear hgx hrx hpx
  go_wp2_with (fail)
  refine (size_c cv cs 20 W2 (HV.out _ D_W2.out.bel) (by omega) (by omega)).mono ?_
  rintro e w3 ⟨x, rfl, hx0, hx1, hw⟩
  rw [hw]
  clear hw w3 hW2 hX2
  go_wp2_with (fail)
  refine (below_c g cv cs (2 * x) _ D_W2.out.dr (by omega)).mono ?_
  rintro e w3 ⟨y, rfl, hy0, hy1, hy2, d1, g1⟩
  have D_w3 : Hid (Dq w w3 g cv cs) := D_W2.out.draw d1 g1
  have K_w3 : Hid (Blk w3 R (D4 0 (.slice none 0 0) (.slice none 0 0) 0) 27) := K_W2.out.grown g1 (by have := NEK.out; simpa using this)
  have O_w3 : Hid (OwD P w3 (.slice oa m oc) (.slice qa lq qc) gs qs) := O_W2.out.draw g1 HGP.out
  have T_w3 : Hid (Blk w3 X2 (D4 n (.slice oa m oc) (.slice qa lq qc) t) 27) := T_W2.out.grown g1 (by have := NET.out; simpa using this)
  clear d1 g1 D_W2 K_W2 O_W2 T_W2
  have hy3 : y ≤ 1000 := by have := hy1 (by omega); omega
  clear hy1 hy2
  go_wp2_with (fail)
  refine (once_c g cv cs 60 _ D_w3.out.dr (by omega)).mono ?_
  rintro e w4 ⟨r, rfl, d1, g1⟩
  have D_w4 : Hid (Dq w w4 g cv cs) := D_w3.out.draw d1 g1
  have K_w4 : Hid (Blk w4 R (D4 0 (.slice none 0 0) (.slice none 0 0) 0) 27) := K_w3.out.grown g1 (by have := NEK.out; simpa using this)
  have O_w4 : Hid (OwD P w4 (.slice oa m oc) (.slice qa lq qc) gs qs) := O_w3.out.draw g1 HGP.out
  have T_w4 : Hid (Blk w4 X2 (D4 n (.slice oa m oc) (.slice qa lq qc) t) 27) := T_w3.out.grown g1 (by have := NET.out; simpa using this)
  clear d1 g1 D_w3 K_w3 O_w3 T_w3
  cases r with
  | false =>
    have HNN : Hid (y ≤ 1000) := hy3
    have HS0 : Hid (Dq w (w4.drew) g cv cs ∧ Blk (w4.drew) X2 (D4 n (.slice oa m oc) (.slice qa lq qc) t) 27 ∧ Blk (w4.drew) R (D4 0 (.slice none 0 0) (.slice none 0 0) 0) 27 ∧ OwD P (w4.drew) (.slice oa m oc) (.slice qa lq qc) gs qs) := ⟨D_w4.out.drew, T_w4.out, K_w4.out, O_w4.out.below (Below.refl _ _).drew⟩
    have HSZ : Hid (P ≤ (w4.drew).heap.size) := by have h1 := T_w4.out.lt; have h2 := HPX.out; show P ≤ w4.heap.size; omega
    clear D_w4 K_w4 T_w4 O_w4
    go_upto_region 6 with (fail)
    refine region_vals [undef, undef, undef, undef, undef, undef, undef, undef, undef, undef, undef] (SrS (w) (P) (g) (cv) (cs) (X2) (R) (n) (t) (.slice oa m oc) (.slice qa lq qc) (gs) (qs) (m) (y)) (by kernel_rfl) (by kernel_rfl) ?_ ⟨?_, ?_, ?_, ?_, ?_, ?_, ?_, ?_, ?_, ?_, ?_, trivial⟩ ?_
    · refine ⟨_, _, _, _, _, _, _, _, _, _, _, [], rfl, ⟨(HS0.out.1), (HS0.out.2.1), (fun _ => HS0.out.2.2.1), (fun e => by cases e), (HS0.out.2.2.2), (HSZ.out), ?_, ?_, ?_, ?_, ?_, ?_, ?_, ?_, ?_, ?_, ?_⟩⟩ <;> simp
    · rintro d vs W ⟨v0, v1, v2, v3, v4, v5, v6, v7, v8, v9, v10, os, rfl, H⟩ hn hd
      simp only [putAll, Act.put, List.setIfInBounds_toArray, List.set_cons_succ, List.set_cons_zero]
      have y0 := H.B.cell 0
      have y1 := H.B.cell 1
      have y2 := H.B.cell 2
      have y3 := H.B.cell 3
      simp at y0 y1 y2 y3
      have HH1 : Hid (Sr (w) (P) (g) (cv) (cs) (X2) (R) (n) (t) (.slice oa m oc) (.slice qa lq qc) (gs) (qs) (m) (y) d W v0 v1 v2 v3 v4 v5 v6 v7 v8 v9 v10 os) := H
      clear H
      have HHN : Hid (d 0 = false) := hn
      clear hd hn
      go_wp2
      have H0 := HH1.out
      have H := HH1.out
      have hn := HHN.out
      refine ⟨rfl, [.agg (D4 n (.slice oa m oc) (.slice qa lq qc) t), v1, v2, v3, v4, v5, v6, v7, v8, v9, v10], ?_, .agg (D4 n (.slice oa m oc) (.slice qa lq qc) t), v1, v2, v3, v4, v5, v6, v7, v8, v9, v10, os, rfl, ⟨H.D, H.B, (by have h := H.K0; simpa [doneSet] using h), (by have h := H.K1; simpa [doneSet] using h), H.o, H.sz, (fun _ => rfl), (by have h := H.f1; simpa [doneSet] using h), (by have h := H.f2; simpa [doneSet] using h), (by have h := H.f3; simpa [doneSet] using h), (by have h := H.f4; simpa [doneSet] using h), (by have h := H.f5; simpa [doneSet] using h), (by have h := H.f6; simpa [doneSet] using h), (by have h := H.f7; simpa [doneSet] using h), (by have h := H.o8; simpa [doneSet] using h), (by have h := H.l8; simpa [doneSet] using h), (by have h := H.f10; simpa [doneSet] using h)⟩⟩
      simp only [putAll, Act.put, List.setIfInBounds_toArray, List.set_cons_succ, List.set_cons_zero]
    · rintro d vs W ⟨v0, v1, v2, v3, v4, v5, v6, v7, v8, v9, v10, os, rfl, H⟩ hn hd
      simp only [putAll, Act.put, List.setIfInBounds_toArray, List.set_cons_succ, List.set_cons_zero]
      have HH1 : Hid (Sr (w) (P) (g) (cv) (cs) (X2) (R) (n) (t) (.slice oa m oc) (.slice qa lq qc) (gs) (qs) (m) (y) d W v0 v1 v2 v3 v4 v5 v6 v7 v8 v9 v10 os) := H
      clear H
      have HHN : Hid (d 1 = false) := hn
      clear hd hn
      go_wp2
      have H0 := HH1.out
      have H := HH1.out
      have hn := HHN.out
      refine ⟨rfl, [v0, .pointer (some ⟨g, 0, none⟩), v2, v3, v4, v5, v6, v7, v8, v9, v10], ?_, v0, .pointer (some ⟨g, 0, none⟩), v2, v3, v4, v5, v6, v7, v8, v9, v10, os, rfl, ⟨H.D, H.B, (by have h := H.K0; simpa [doneSet] using h), (by have h := H.K1; simpa [doneSet] using h), H.o, H.sz, (by have h := H.f0; simpa [doneSet] using h), (fun _ => rfl), (by have h := H.f2; simpa [doneSet] using h), (by have h := H.f3; simpa [doneSet] using h), (by have h := H.f4; simpa [doneSet] using h), (by have h := H.f5; simpa [doneSet] using h), (by have h := H.f6; simpa [doneSet] using h), (by have h := H.f7; simpa [doneSet] using h), (by have h := H.o8; simpa [doneSet] using h), (by have h := H.l8; simpa [doneSet] using h), (by have h := H.f10; simpa [doneSet] using h)⟩⟩
      simp only [putAll, Act.put, List.setIfInBounds_toArray, List.set_cons_succ, List.set_cons_zero]
    · rintro d vs W ⟨v0, v1, v2, v3, v4, v5, v6, v7, v8, v9, v10, os, rfl, H⟩ hn hd
      simp only [putAll, Act.put, List.setIfInBounds_toArray, List.set_cons_succ, List.set_cons_zero]
      have HH1 : Hid (Sr (w) (P) (g) (cv) (cs) (X2) (R) (n) (t) (.slice oa m oc) (.slice qa lq qc) (gs) (qs) (m) (y) d W v0 v1 v2 v3 v4 v5 v6 v7 v8 v9 v10 os) := H
      clear H
      have HHN : Hid (d 2 = false) := hn
      clear hd hn
      go_wp2
      have H0 := HH1.out
      have H := HH1.out
      have hn := HHN.out
      refine ⟨rfl, [v0, v1, .pointer (some ⟨X2, 0, none⟩), v3, v4, v5, v6, v7, v8, v9, v10], ?_, v0, v1, .pointer (some ⟨X2, 0, none⟩), v3, v4, v5, v6, v7, v8, v9, v10, os, rfl, ⟨H.D, H.B, (by have h := H.K0; simpa [doneSet] using h), (by have h := H.K1; simpa [doneSet] using h), H.o, H.sz, (by have h := H.f0; simpa [doneSet] using h), (by have h := H.f1; simpa [doneSet] using h), (fun _ => rfl), (by have h := H.f3; simpa [doneSet] using h), (by have h := H.f4; simpa [doneSet] using h), (by have h := H.f5; simpa [doneSet] using h), (by have h := H.f6; simpa [doneSet] using h), (by have h := H.f7; simpa [doneSet] using h), (by have h := H.o8; simpa [doneSet] using h), (by have h := H.l8; simpa [doneSet] using h), (by have h := H.f10; simpa [doneSet] using h)⟩⟩
      simp only [putAll, Act.put, List.setIfInBounds_toArray, List.set_cons_succ, List.set_cons_zero]
    · rintro d vs W ⟨v0, v1, v2, v3, v4, v5, v6, v7, v8, v9, v10, os, rfl, H⟩ hn hd
      simp only [putAll, Act.put, List.setIfInBounds_toArray, List.set_cons_succ, List.set_cons_zero]
      have h2 : d 2 = true := hd { on := 2, ground := .data } (by simp) rfl
      have yc := H.B.cell 0
      simp at yc
      obtain rfl := H.f2 h2
      have HH1 : Hid (Sr (w) (P) (g) (cv) (cs) (X2) (R) (n) (t) (.slice oa m oc) (.slice qa lq qc) (gs) (qs) (m) (y) d W v0 v1 (.pointer (some ⟨X2, 0, none⟩)) v3 v4 v5 v6 v7 v8 v9 v10 os) := H
      clear H
      have HHN : Hid (d 3 = false) := hn
      have HHD : Hid (d 2 = true) := h2
      clear hd hn h2
      go_wp2
      have H0 := HH1.out
      have H := HH1.out
      have hn := HHN.out
      have h2 := HHD.out
      refine ⟨rfl, [v0, v1, .pointer (some ⟨X2, 0, none⟩), .int .i64 n, v4, v5, v6, v7, v8, v9, v10], ?_, v0, v1, .pointer (some ⟨X2, 0, none⟩), .int .i64 n, v4, v5, v6, v7, v8, v9, v10, os, rfl, ⟨H.D, H.B, (by have h := H.K0; simpa [doneSet] using h), (by have h := H.K1; simpa [doneSet] using h), H.o, H.sz, (by have h := H.f0; simpa [doneSet] using h), (by have h := H.f1; simpa [doneSet] using h), (fun _ => rfl), (fun _ => rfl), (by have h := H.f4; simpa [doneSet] using h), (by have h := H.f5; simpa [doneSet] using h), (by have h := H.f6; simpa [doneSet] using h), (by have h := H.f7; simpa [doneSet] using h), (by have h := H.o8; simpa [doneSet] using h), (by have h := H.l8; simpa [doneSet] using h), (by have h := H.f10; simpa [doneSet] using h)⟩⟩
      simp only [putAll, Act.put, List.setIfInBounds_toArray, List.set_cons_succ, List.set_cons_zero]
    · rintro d vs W ⟨v0, v1, v2, v3, v4, v5, v6, v7, v8, v9, v10, os, rfl, H⟩ hn hd
      simp only [putAll, Act.put, List.setIfInBounds_toArray, List.set_cons_succ, List.set_cons_zero]
      have HH1 : Hid (Sr (w) (P) (g) (cv) (cs) (X2) (R) (n) (t) (.slice oa m oc) (.slice qa lq qc) (gs) (qs) (m) (y) d W v0 v1 v2 v3 v4 v5 v6 v7 v8 v9 v10 os) := H
      clear H
      have HHN : Hid (d 4 = false) := hn
      clear hd hn
      go_wp2
      have H0 := HH1.out
      have H := HH1.out
      have hn := HHN.out
      refine ⟨rfl, [v0, v1, v2, v3, .pointer (some ⟨X2, 1, none⟩), v5, v6, v7, v8, v9, v10], ?_, v0, v1, v2, v3, .pointer (some ⟨X2, 1, none⟩), v5, v6, v7, v8, v9, v10, os, rfl, ⟨H.D, H.B, (by have h := H.K0; simpa [doneSet] using h), (by have h := H.K1; simpa [doneSet] using h), H.o, H.sz, (by have h := H.f0; simpa [doneSet] using h), (by have h := H.f1; simpa [doneSet] using h), (by have h := H.f2; simpa [doneSet] using h), (by have h := H.f3; simpa [doneSet] using h), (fun _ => rfl), (by have h := H.f5; simpa [doneSet] using h), (by have h := H.f6; simpa [doneSet] using h), (by have h := H.f7; simpa [doneSet] using h), (by have h := H.o8; simpa [doneSet] using h), (by have h := H.l8; simpa [doneSet] using h), (by have h := H.f10; simpa [doneSet] using h)⟩⟩
      simp only [putAll, Act.put, List.setIfInBounds_toArray, List.set_cons_succ, List.set_cons_zero]
    · rintro d vs W ⟨v0, v1, v2, v3, v4, v5, v6, v7, v8, v9, v10, os, rfl, H⟩ hn hd
      simp only [putAll, Act.put, List.setIfInBounds_toArray, List.set_cons_succ, List.set_cons_zero]
      have h4 : d 4 = true := hd { on := 4, ground := .data } (by simp) rfl
      have yc := H.B.cell 1
      simp at yc
      obtain rfl := H.f4 h4
      have HH1 : Hid (Sr (w) (P) (g) (cv) (cs) (X2) (R) (n) (t) (.slice oa m oc) (.slice qa lq qc) (gs) (qs) (m) (y) d W v0 v1 v2 v3 (.pointer (some ⟨X2, 1, none⟩)) v5 v6 v7 v8 v9 v10 os) := H
      clear H
      have HHN : Hid (d 5 = false) := hn
      have HHD : Hid (d 4 = true) := h4
      clear hd hn h4
      go_wp2
      have H0 := HH1.out
      have H := HH1.out
      have hn := HHN.out
      have h4 := HHD.out
      refine ⟨rfl, [v0, v1, v2, v3, .pointer (some ⟨X2, 1, none⟩), .slice oa m oc, v6, v7, v8, v9, v10], ?_, v0, v1, v2, v3, .pointer (some ⟨X2, 1, none⟩), .slice oa m oc, v6, v7, v8, v9, v10, os, rfl, ⟨H.D, H.B, (by have h := H.K0; simpa [doneSet] using h), (by have h := H.K1; simpa [doneSet] using h), H.o, H.sz, (by have h := H.f0; simpa [doneSet] using h), (by have h := H.f1; simpa [doneSet] using h), (by have h := H.f2; simpa [doneSet] using h), (by have h := H.f3; simpa [doneSet] using h), (fun _ => rfl), (fun _ => rfl), (by have h := H.f6; simpa [doneSet] using h), (by have h := H.f7; simpa [doneSet] using h), (by have h := H.o8; simpa [doneSet] using h), (by have h := H.l8; simpa [doneSet] using h), (by have h := H.f10; simpa [doneSet] using h)⟩⟩
      simp only [putAll, Act.put, List.setIfInBounds_toArray, List.set_cons_succ, List.set_cons_zero]
    · rintro d vs W ⟨v0, v1, v2, v3, v4, v5, v6, v7, v8, v9, v10, os, rfl, H⟩ hn hd
      simp only [putAll, Act.put, List.setIfInBounds_toArray, List.set_cons_succ, List.set_cons_zero]
      have h5 : d 5 = true := hd { on := 5, ground := .data } (by simp) rfl
      obtain rfl := H.f5 h5
      have HH1 : Hid (Sr (w) (P) (g) (cv) (cs) (X2) (R) (n) (t) (.slice oa m oc) (.slice qa lq qc) (gs) (qs) (m) (y) d W v0 v1 v2 v3 v4 ((.slice oa m oc)) v6 v7 v8 v9 v10 os) := H
      clear H
      have HHN : Hid (d 6 = false) := hn
      have HHD : Hid (d 5 = true) := h5
      clear hd hn h5
      go_wp2
      have H0 := HH1.out
      have H := HH1.out
      have hn := HHN.out
      have h5 := HHD.out
      refine ⟨rfl, [v0, v1, v2, v3, v4, (.slice oa m oc), .int .i64 (m : Int), v7, v8, v9, v10], ?_, v0, v1, v2, v3, v4, (.slice oa m oc), .int .i64 (m : Int), v7, v8, v9, v10, os, rfl, ⟨H.D, H.B, (by have h := H.K0; simpa [doneSet] using h), (by have h := H.K1; simpa [doneSet] using h), H.o, H.sz, (by have h := H.f0; simpa [doneSet] using h), (by have h := H.f1; simpa [doneSet] using h), (by have h := H.f2; simpa [doneSet] using h), (by have h := H.f3; simpa [doneSet] using h), (by have h := H.f4; simpa [doneSet] using h), (fun _ => rfl), (fun _ => rfl), (by have h := H.f7; simpa [doneSet] using h), (by have h := H.o8; simpa [doneSet] using h), (by have h := H.l8; simpa [doneSet] using h), (by have h := H.f10; simpa [doneSet] using h)⟩⟩
      simp only [putAll, Act.put, List.setIfInBounds_toArray, List.set_cons_succ, List.set_cons_zero]
    · rintro d vs W ⟨v0, v1, v2, v3, v4, v5, v6, v7, v8, v9, v10, os, rfl, H⟩ hn hd
      simp only [putAll, Act.put, List.setIfInBounds_toArray, List.set_cons_succ, List.set_cons_zero]
      have HH1 : Hid (Sr (w) (P) (g) (cv) (cs) (X2) (R) (n) (t) (.slice oa m oc) (.slice qa lq qc) (gs) (qs) (m) (y) d W v0 v1 v2 v3 v4 v5 v6 v7 v8 v9 v10 os) := H
      clear H
      have HHN : Hid (d 7 = false) := hn
      clear hd hn
      go_wp2
      have H0 := HH1.out
      have H := HH1.out
      have hn := HHN.out
      refine ⟨rfl, [v0, v1, v2, v3, v4, v5, v6, .int .i64 y, v8, v9, v10], ?_, v0, v1, v2, v3, v4, v5, v6, .int .i64 y, v8, v9, v10, os, rfl, ⟨H.D, H.B, (by have h := H.K0; simpa [doneSet] using h), (by have h := H.K1; simpa [doneSet] using h), H.o, H.sz, (by have h := H.f0; simpa [doneSet] using h), (by have h := H.f1; simpa [doneSet] using h), (by have h := H.f2; simpa [doneSet] using h), (by have h := H.f3; simpa [doneSet] using h), (by have h := H.f4; simpa [doneSet] using h), (by have h := H.f5; simpa [doneSet] using h), (by have h := H.f6; simpa [doneSet] using h), (fun _ => rfl), (by have h := H.o8; simpa [doneSet] using h), (by have h := H.l8; simpa [doneSet] using h), (by have h := H.f10; simpa [doneSet] using h)⟩⟩
      simp only [putAll, Act.put, List.setIfInBounds_toArray, List.set_cons_succ, List.set_cons_zero]
    · rintro d vs W ⟨v0, v1, v2, v3, v4, v5, v6, v7, v8, v9, v10, os, rfl, H⟩ hn hd
      simp only [putAll, Act.put, List.setIfInBounds_toArray, List.set_cons_succ, List.set_cons_zero]
      have h1 : d 1 = true := hd { on := 1, ground := .data } (by simp) rfl
      have h3 : d 3 = true := hd { on := 3, ground := .data } (by simp) rfl
      have h6 : d 6 = true := hd { on := 6, ground := .data } (by simp) rfl
      have h7 : d 7 = true := hd { on := 7, ground := .data } (by simp) rfl
      obtain rfl := H.f1 h1
      obtain rfl := H.f3 h3
      obtain rfl := H.f6 h6
      obtain rfl := H.f7 h7
      have HH1 : Hid (Sr (w) (P) (g) (cv) (cs) (X2) (R) (n) (t) (.slice oa m oc) (.slice qa lq qc) (gs) (qs) (m) (y) d W v0 (.pointer (some ⟨g, 0, none⟩)) v2 (.int .i64 n) v4 v5 (.int .i64 (m : Int)) (.int .i64 y) v8 v9 v10 os) := H
      clear H
      have HHN : Hid (d 8 = false) := hn
      have HHD : Hid (d 1 = true ∧ d 3 = true ∧ d 6 = true ∧ d 7 = true) := ⟨h1, h3, h6, h7⟩
      clear hd hn h1 h3 h6 h7
      go_wp2_with (fail)
      refine (drawOps_c g cv cs n (m : Int) (y) W HH1.out.D.dr (by have := HMB.out; omega) (by have := HNN.out; omega)).mono ?_
      rintro e W3 ⟨v8', os', rfl, ho, hl, d1, g1⟩
      have HO8 : Hid (Og 5 doC 38 P W3 v8' os' ∧ os'.length ≤ 1000) := ⟨Og.mono ho HH1.out.sz, by have := HNN.out; omega⟩
      have HDR : Hid (Dr W3 g cv cs ∧ W.grownBy W3 (some g)) := ⟨d1, g1⟩
      clear d1 g1 ho hl
      go_wp2
      have H0 := HH1.out
      have H := HH1.out.draw HGP.out HXG.out HRG.out HDR.out.1 HDR.out.2
      have hn := HHN.out
      have h1 := HHD.out.1
      have h3 := HHD.out.2.1
      have h6 := HHD.out.2.2.1
      have h7 := HHD.out.2.2.2
      refine ⟨rfl, [v0, .pointer (some ⟨g, 0, none⟩), v2, .int .i64 n, v4, v5, .int .i64 (m : Int), .int .i64 y, v8', v9, v10], ?_, v0, .pointer (some ⟨g, 0, none⟩), v2, .int .i64 n, v4, v5, .int .i64 (m : Int), .int .i64 y, v8', v9, v10, os', rfl, ⟨H.D, H.B, (by have h := H.K0; simpa [doneSet] using h), (by have h := H.K1; simpa [doneSet] using h), H.o, H.sz, (by have h := H.f0; simpa [doneSet] using h), (fun _ => rfl), (by have h := H.f2; simpa [doneSet] using h), (fun _ => rfl), (by have h := H.f4; simpa [doneSet] using h), (by have h := H.f5; simpa [doneSet] using h), (fun _ => rfl), (fun _ => rfl), (fun _ => HO8.out.1), (fun _ => HO8.out.2), (fun e => absurd (H0.f10 (by simpa [doneSet] using e)).2 (by rw [hn]; simp))⟩⟩
      simp only [putAll, Act.put, List.setIfInBounds_toArray, List.set_cons_succ, List.set_cons_zero]
    · rintro d vs W ⟨v0, v1, v2, v3, v4, v5, v6, v7, v8, v9, v10, os, rfl, H⟩ hn hd
      simp only [putAll, Act.put, List.setIfInBounds_toArray, List.set_cons_succ, List.set_cons_zero]
      have h0 : d 0 = true := hd { on := 0, ground := .data } (by simp) rfl
      have hb := H.K0 hn
      have y0 := hb.cell 0
      have yf0 := hb.frozen 0
      have y1 := hb.cell 1
      have yf1 := hb.frozen 1
      have y2 := hb.cell 2
      have yf2 := hb.frozen 2
      have y3 := hb.cell 3
      have yf3 := hb.frozen 3
      simp at y0 y1 y2 y3
      clear hb
      obtain rfl := H.f0 h0
      have HH1 : Hid (Sr (w) (P) (g) (cv) (cs) (X2) (R) (n) (t) (.slice oa m oc) (.slice qa lq qc) (gs) (qs) (m) (y) d W (.agg (D4 n (.slice oa m oc) (.slice qa lq qc) t)) v1 v2 v3 v4 v5 v6 v7 v8 v9 v10 os) := H
      clear H
      have HHN : Hid (d 9 = false) := hn
      have HHD : Hid (d 0 = true) := h0
      clear hd hn h0
      go_wp2
      have gf := grow4 W R (.int .i64 n) (.slice oa m oc) (.slice qa lq qc) (.int .i64 t)
      have H0 := HH1.out
      have H := HH1.out
      have hn := HHN.out
      have h0 := HHD.out
      refine ⟨rfl, [.agg (D4 n (.slice oa m oc) (.slice qa lq qc) t), v1, v2, v3, v4, v5, v6, v7, v8, undef, v10], ?_, .agg (D4 n (.slice oa m oc) (.slice qa lq qc) t), v1, v2, v3, v4, v5, v6, v7, v8, undef, v10, os, rfl, ⟨(H.D.app HRW.out HRG.out gf), (H.B.grown gf (fun e => HXR.out (Option.some.inj e))), (fun e => by simp [doneSet] at e), (fun _ => ((((H.K0 hn).set 0 _).set 1 _).set 2 _).set 3 _), (H.o.off (H.K0 hn) gf), (by simpa using H.sz), (fun _ => rfl), (by have h := H.f1; simpa [doneSet] using h), (by have h := H.f2; simpa [doneSet] using h), (by have h := H.f3; simpa [doneSet] using h), (by have h := H.f4; simpa [doneSet] using h), (by have h := H.f5; simpa [doneSet] using h), (by have h := H.f6; simpa [doneSet] using h), (by have h := H.f7; simpa [doneSet] using h), (fun e => World.ownsRow.kept (H.o8 (by simpa [doneSet] using e)) gf (.inr (row_blk (H.o8 (by simpa [doneSet] using e)) (H.K0 hn) (by decide)))), (by have h := H.l8; simpa [doneSet] using h), (by have h := H.f10; simpa [doneSet] using h)⟩⟩
      simp only [putAll, Act.put, List.setIfInBounds_toArray, List.set_cons_succ, List.set_cons_zero]
    · rintro d vs W ⟨v0, v1, v2, v3, v4, v5, v6, v7, v8, v9, v10, os, rfl, H⟩ hn hd
      simp only [putAll, Act.put, List.setIfInBounds_toArray, List.set_cons_succ, List.set_cons_zero]
      have h8 : d 8 = true := hd { on := 8, ground := .data } (by simp) rfl
      have HH1 : Hid (Sr (w) (P) (g) (cv) (cs) (X2) (R) (n) (t) (.slice oa m oc) (.slice qa lq qc) (gs) (qs) (m) (y) d W v0 v1 v2 v3 v4 v5 v6 v7 v8 v9 v10 os) := H
      clear H
      have HHN : Hid (d 10 = false) := hn
      have HHD : Hid (d 8 = true) := h8
      clear hd hn h8
      go_wp2
      have H0 := HH1.out
      have H := HH1.out
      have hn := HHN.out
      have h8 := HHD.out
      refine ⟨rfl, [v0, v1, v2, v3, v4, v5, v6, v7, v8, v9, v8], ?_, v0, v1, v2, v3, v4, v5, v6, v7, v8, v9, v8, os, rfl, ⟨H.D, H.B, (by have h := H.K0; simpa [doneSet] using h), (by have h := H.K1; simpa [doneSet] using h), H.o, H.sz, (by have h := H.f0; simpa [doneSet] using h), (by have h := H.f1; simpa [doneSet] using h), (by have h := H.f2; simpa [doneSet] using h), (by have h := H.f3; simpa [doneSet] using h), (by have h := H.f4; simpa [doneSet] using h), (by have h := H.f5; simpa [doneSet] using h), (by have h := H.f6; simpa [doneSet] using h), (by have h := H.f7; simpa [doneSet] using h), (by have h := H.o8; simpa [doneSet] using h), (by have h := H.l8; simpa [doneSet] using h), (fun _ => ⟨rfl, by simpa [doneSet] using h8⟩)⟩⟩
      simp only [putAll, Act.put, List.setIfInBounds_toArray, List.set_cons_succ, List.set_cons_zero]
    rintro d vs W9 ⟨v0, v1, v2, v3, v4, v5, v6, v7, v8, v9, v10, os, rfl, H⟩ hn
    obtain ⟨e10, -⟩ := H.f10 (hn 10 (by decide))
    have HO8 : Hid (Og 5 doC 38 P W9 v8 os ∧ os.length ≤ 1000) := ⟨H.o8 (hn 8 (by decide)), H.l8 (hn 8 (by decide))⟩
    have HK9 : Hid (Blk W9 R (D4 n (.slice oa m oc) (.slice qa lq qc) t) 27) := H.K1 (hn 9 (by decide))
    have HB9 : Hid (Below w.heap.size w W9 ∧ OwD P W9 (.slice oa m oc) (.slice qa lq qc) gs qs) := ⟨H.D.bel, H.o⟩
    subst e10
    simp only [putAll, Act.put, List.setIfInBounds_toArray, List.set_cons_succ, List.set_cons_zero]
    have HRP : Hid (R ≤ P) := by have h1 := HPX.out; have h2 := HRPl.out; show R ≤ P; omega
    clear H hn HS0
    go_wp2
    exact bodyPost_ret (v := .tuple #[.agg (D4 n (.slice oa m oc) (.slice qa lq qc) t), v10]) (results_Db rfl _ _ _ _ _ _ _ _ rfl rfl HK9.out) rfl ⟨_, _, _, _, gs, qs, _, os, rfl, by rw [HRe.out]; exact HB9.out.2.mono HRP.out, ⟨HLB.out.2.1, HLB.out.2.2, HO8.out.2⟩, HO8.out.1.rd doC_len, HB9.out.1⟩
  | true =>
    go_wp2_with (fail)
    refine (below_c g cv cs 2 _ D_w4.out.dr (by omega)).mono ?_
    rintro e w5 ⟨u, rfl, hu0, hu1, hu2, d1, g1⟩
    have D_w5 : Hid (Dq w w5 g cv cs) := D_w4.out.draw d1 g1
    have K_w5 : Hid (Blk w5 R (D4 0 (.slice none 0 0) (.slice none 0 0) 0) 27) := K_w4.out.grown g1 (by have := NEK.out; simpa using this)
    have O_w5 : Hid (OwD P w5 (.slice oa m oc) (.slice qa lq qc) gs qs) := O_w4.out.draw g1 HGP.out
    have T_w5 : Hid (Blk w5 X2 (D4 n (.slice oa m oc) (.slice qa lq qc) t) 27) := T_w4.out.grown g1 (by have := NET.out; simpa using this)
    clear d1 g1 D_w4 K_w4 O_w4 T_w4
    have hu3 := hu1 (by omega)
    clear hu1 hu2
    have HNN : Hid (200 + u ≤ 1000) := by show _ ≤ _; omega
    have HS0 : Hid (Dq w (w5.drew) g cv cs ∧ Blk (w5.drew) X2 (D4 n (.slice oa m oc) (.slice qa lq qc) t) 27 ∧ Blk (w5.drew) R (D4 0 (.slice none 0 0) (.slice none 0 0) 0) 27 ∧ OwD P (w5.drew) (.slice oa m oc) (.slice qa lq qc) gs qs) := ⟨D_w5.out.drew, T_w5.out, K_w5.out, O_w5.out.below (Below.refl _ _).drew⟩
    have HSZ : Hid (P ≤ (w5.drew).heap.size) := by have h1 := T_w5.out.lt; have h2 := HPX.out; show P ≤ w5.heap.size; omega
    clear D_w5 K_w5 T_w5 O_w5
    go_upto_region 6 with (fail)
    refine region_vals [undef, undef, undef, undef, undef, undef, undef, undef, undef, undef, undef] (SrS (w) (P) (g) (cv) (cs) (X2) (R) (n) (t) (.slice oa m oc) (.slice qa lq qc) (gs) (qs) (m) (200 + u)) (by kernel_rfl) (by kernel_rfl) ?_ ⟨?_, ?_, ?_, ?_, ?_, ?_, ?_, ?_, ?_, ?_, ?_, trivial⟩ ?_
    · refine ⟨_, _, _, _, _, _, _, _, _, _, _, [], rfl, ⟨(HS0.out.1), (HS0.out.2.1), (fun _ => HS0.out.2.2.1), (fun e => by cases e), (HS0.out.2.2.2), (HSZ.out), ?_, ?_, ?_, ?_, ?_, ?_, ?_, ?_, ?_, ?_, ?_⟩⟩ <;> simp
    · rintro d vs W ⟨v0, v1, v2, v3, v4, v5, v6, v7, v8, v9, v10, os, rfl, H⟩ hn hd
      simp only [putAll, Act.put, List.setIfInBounds_toArray, List.set_cons_succ, List.set_cons_zero]
      have y0 := H.B.cell 0
      have y1 := H.B.cell 1
      have y2 := H.B.cell 2
      have y3 := H.B.cell 3
      simp at y0 y1 y2 y3
      have HH1 : Hid (Sr (w) (P) (g) (cv) (cs) (X2) (R) (n) (t) (.slice oa m oc) (.slice qa lq qc) (gs) (qs) (m) (200 + u) d W v0 v1 v2 v3 v4 v5 v6 v7 v8 v9 v10 os) := H
      clear H
      have HHN : Hid (d 0 = false) := hn
      clear hd hn
      go_wp2
      have H0 := HH1.out
      have H := HH1.out
      have hn := HHN.out
      refine ⟨rfl, [.agg (D4 n (.slice oa m oc) (.slice qa lq qc) t), v1, v2, v3, v4, v5, v6, v7, v8, v9, v10], ?_, .agg (D4 n (.slice oa m oc) (.slice qa lq qc) t), v1, v2, v3, v4, v5, v6, v7, v8, v9, v10, os, rfl, ⟨H.D, H.B, (by have h := H.K0; simpa [doneSet] using h), (by have h := H.K1; simpa [doneSet] using h), H.o, H.sz, (fun _ => rfl), (by have h := H.f1; simpa [doneSet] using h), (by have h := H.f2; simpa [doneSet] using h), (by have h := H.f3; simpa [doneSet] using h), (by have h := H.f4; simpa [doneSet] using h), (by have h := H.f5; simpa [doneSet] using h), (by have h := H.f6; simpa [doneSet] using h), (by have h := H.f7; simpa [doneSet] using h), (by have h := H.o8; simpa [doneSet] using h), (by have h := H.l8; simpa [doneSet] using h), (by have h := H.f10; simpa [doneSet] using h)⟩⟩
      simp only [putAll, Act.put, List.setIfInBounds_toArray, List.set_cons_succ, List.set_cons_zero]
    · rintro d vs W ⟨v0, v1, v2, v3, v4, v5, v6, v7, v8, v9, v10, os, rfl, H⟩ hn hd
      simp only [putAll, Act.put, List.setIfInBounds_toArray, List.set_cons_succ, List.set_cons_zero]
      have HH1 : Hid (Sr (w) (P) (g) (cv) (cs) (X2) (R) (n) (t) (.slice oa m oc) (.slice qa lq qc) (gs) (qs) (m) (200 + u) d W v0 v1 v2 v3 v4 v5 v6 v7 v8 v9 v10 os) := H
      clear H
      have HHN : Hid (d 1 = false) := hn
      clear hd hn
      go_wp2
      have H0 := HH1.out
      have H := HH1.out
      have hn := HHN.out
      refine ⟨rfl, [v0, .pointer (some ⟨g, 0, none⟩), v2, v3, v4, v5, v6, v7, v8, v9, v10], ?_, v0, .pointer (some ⟨g, 0, none⟩), v2, v3, v4, v5, v6, v7, v8, v9, v10, os, rfl, ⟨H.D, H.B, (by have h := H.K0; simpa [doneSet] using h), (by have h := H.K1; simpa [doneSet] using h), H.o, H.sz, (by have h := H.f0; simpa [doneSet] using h), (fun _ => rfl), (by have h := H.f2; simpa [doneSet] using h), (by have h := H.f3; simpa [doneSet] using h), (by have h := H.f4; simpa [doneSet] using h), (by have h := H.f5; simpa [doneSet] using h), (by have h := H.f6; simpa [doneSet] using h), (by have h := H.f7; simpa [doneSet] using h), (by have h := H.o8; simpa [doneSet] using h), (by have h := H.l8; simpa [doneSet] using h), (by have h := H.f10; simpa [doneSet] using h)⟩⟩
      simp only [putAll, Act.put, List.setIfInBounds_toArray, List.set_cons_succ, List.set_cons_zero]
    · rintro d vs W ⟨v0, v1, v2, v3, v4, v5, v6, v7, v8, v9, v10, os, rfl, H⟩ hn hd
      simp only [putAll, Act.put, List.setIfInBounds_toArray, List.set_cons_succ, List.set_cons_zero]
      have HH1 : Hid (Sr (w) (P) (g) (cv) (cs) (X2) (R) (n) (t) (.slice oa m oc) (.slice qa lq qc) (gs) (qs) (m) (200 + u) d W v0 v1 v2 v3 v4 v5 v6 v7 v8 v9 v10 os) := H
      clear H
      have HHN : Hid (d 2 = false) := hn
      clear hd hn
      go_wp2
      have H0 := HH1.out
      have H := HH1.out
      have hn := HHN.out
      refine ⟨rfl, [v0, v1, .pointer (some ⟨X2, 0, none⟩), v3, v4, v5, v6, v7, v8, v9, v10], ?_, v0, v1, .pointer (some ⟨X2, 0, none⟩), v3, v4, v5, v6, v7, v8, v9, v10, os, rfl, ⟨H.D, H.B, (by have h := H.K0; simpa [doneSet] using h), (by have h := H.K1; simpa [doneSet] using h), H.o, H.sz, (by have h := H.f0; simpa [doneSet] using h), (by have h := H.f1; simpa [doneSet] using h), (fun _ => rfl), (by have h := H.f3; simpa [doneSet] using h), (by have h := H.f4; simpa [doneSet] using h), (by have h := H.f5; simpa [doneSet] using h), (by have h := H.f6; simpa [doneSet] using h), (by have h := H.f7; simpa [doneSet] using h), (by have h := H.o8; simpa [doneSet] using h), (by have h := H.l8; simpa [doneSet] using h), (by have h := H.f10; simpa [doneSet] using h)⟩⟩
      simp only [putAll, Act.put, List.setIfInBounds_toArray, List.set_cons_succ, List.set_cons_zero]
    · rintro d vs W ⟨v0, v1, v2, v3, v4, v5, v6, v7, v8, v9, v10, os, rfl, H⟩ hn hd
      simp only [putAll, Act.put, List.setIfInBounds_toArray, List.set_cons_succ, List.set_cons_zero]
      have h2 : d 2 = true := hd { on := 2, ground := .data } (by simp) rfl
      have yc := H.B.cell 0
      simp at yc
      obtain rfl := H.f2 h2
      have HH1 : Hid (Sr (w) (P) (g) (cv) (cs) (X2) (R) (n) (t) (.slice oa m oc) (.slice qa lq qc) (gs) (qs) (m) (200 + u) d W v0 v1 (.pointer (some ⟨X2, 0, none⟩)) v3 v4 v5 v6 v7 v8 v9 v10 os) := H
      clear H
      have HHN : Hid (d 3 = false) := hn
      have HHD : Hid (d 2 = true) := h2
      clear hd hn h2
      go_wp2
      have H0 := HH1.out
      have H := HH1.out
      have hn := HHN.out
      have h2 := HHD.out
      refine ⟨rfl, [v0, v1, .pointer (some ⟨X2, 0, none⟩), .int .i64 n, v4, v5, v6, v7, v8, v9, v10], ?_, v0, v1, .pointer (some ⟨X2, 0, none⟩), .int .i64 n, v4, v5, v6, v7, v8, v9, v10, os, rfl, ⟨H.D, H.B, (by have h := H.K0; simpa [doneSet] using h), (by have h := H.K1; simpa [doneSet] using h), H.o, H.sz, (by have h := H.f0; simpa [doneSet] using h), (by have h := H.f1; simpa [doneSet] using h), (fun _ => rfl), (fun _ => rfl), (by have h := H.f4; simpa [doneSet] using h), (by have h := H.f5; simpa [doneSet] using h), (by have h := H.f6; simpa [doneSet] using h), (by have h := H.f7; simpa [doneSet] using h), (by have h := H.o8; simpa [doneSet] using h), (by have h := H.l8; simpa [doneSet] using h), (by have h := H.f10; simpa [doneSet] using h)⟩⟩
      simp only [putAll, Act.put, List.setIfInBounds_toArray, List.set_cons_succ, List.set_cons_zero]
    · rintro d vs W ⟨v0, v1, v2, v3, v4, v5, v6, v7, v8, v9, v10, os, rfl, H⟩ hn hd
      simp only [putAll, Act.put, List.setIfInBounds_toArray, List.set_cons_succ, List.set_cons_zero]
      have HH1 : Hid (Sr (w) (P) (g) (cv) (cs) (X2) (R) (n) (t) (.slice oa m oc) (.slice qa lq qc) (gs) (qs) (m) (200 + u) d W v0 v1 v2 v3 v4 v5 v6 v7 v8 v9 v10 os) := H
      clear H
      have HHN : Hid (d 4 = false) := hn
      clear hd hn
      go_wp2
      have H0 := HH1.out
      have H := HH1.out
      have hn := HHN.out
      refine ⟨rfl, [v0, v1, v2, v3, .pointer (some ⟨X2, 1, none⟩), v5, v6, v7, v8, v9, v10], ?_, v0, v1, v2, v3, .pointer (some ⟨X2, 1, none⟩), v5, v6, v7, v8, v9, v10, os, rfl, ⟨H.D, H.B, (by have h := H.K0; simpa [doneSet] using h), (by have h := H.K1; simpa [doneSet] using h), H.o, H.sz, (by have h := H.f0; simpa [doneSet] using h), (by have h := H.f1; simpa [doneSet] using h), (by have h := H.f2; simpa [doneSet] using h), (by have h := H.f3; simpa [doneSet] using h), (fun _ => rfl), (by have h := H.f5; simpa [doneSet] using h), (by have h := H.f6; simpa [doneSet] using h), (by have h := H.f7; simpa [doneSet] using h), (by have h := H.o8; simpa [doneSet] using h), (by have h := H.l8; simpa [doneSet] using h), (by have h := H.f10; simpa [doneSet] using h)⟩⟩
      simp only [putAll, Act.put, List.setIfInBounds_toArray, List.set_cons_succ, List.set_cons_zero]
    · rintro d vs W ⟨v0, v1, v2, v3, v4, v5, v6, v7, v8, v9, v10, os, rfl, H⟩ hn hd
      simp only [putAll, Act.put, List.setIfInBounds_toArray, List.set_cons_succ, List.set_cons_zero]
      have h4 : d 4 = true := hd { on := 4, ground := .data } (by simp) rfl
      have yc := H.B.cell 1
      simp at yc
      obtain rfl := H.f4 h4
      have HH1 : Hid (Sr (w) (P) (g) (cv) (cs) (X2) (R) (n) (t) (.slice oa m oc) (.slice qa lq qc) (gs) (qs) (m) (200 + u) d W v0 v1 v2 v3 (.pointer (some ⟨X2, 1, none⟩)) v5 v6 v7 v8 v9 v10 os) := H
      clear H
      have HHN : Hid (d 5 = false) := hn
      have HHD : Hid (d 4 = true) := h4
      clear hd hn h4
      go_wp2
      have H0 := HH1.out
      have H := HH1.out
      have hn := HHN.out
      have h4 := HHD.out
      refine ⟨rfl, [v0, v1, v2, v3, .pointer (some ⟨X2, 1, none⟩), .slice oa m oc, v6, v7, v8, v9, v10], ?_, v0, v1, v2, v3, .pointer (some ⟨X2, 1, none⟩), .slice oa m oc, v6, v7, v8, v9, v10, os, rfl, ⟨H.D, H.B, (by have h := H.K0; simpa [doneSet] using h), (by have h := H.K1; simpa [doneSet] using h), H.o, H.sz, (by have h := H.f0; simpa [doneSet] using h), (by have h := H.f1; simpa [doneSet] using h), (by have h := H.f2; simpa [doneSet] using h), (by have h := H.f3; simpa [doneSet] using h), (fun _ => rfl), (fun _ => rfl), (by have h := H.f6; simpa [doneSet] using h), (by have h := H.f7; simpa [doneSet] using h), (by have h := H.o8; simpa [doneSet] using h), (by have h := H.l8; simpa [doneSet] using h), (by have h := H.f10; simpa [doneSet] using h)⟩⟩
      simp only [putAll, Act.put, List.setIfInBounds_toArray, List.set_cons_succ, List.set_cons_zero]
    · rintro d vs W ⟨v0, v1, v2, v3, v4, v5, v6, v7, v8, v9, v10, os, rfl, H⟩ hn hd
      simp only [putAll, Act.put, List.setIfInBounds_toArray, List.set_cons_succ, List.set_cons_zero]
      have h5 : d 5 = true := hd { on := 5, ground := .data } (by simp) rfl
      obtain rfl := H.f5 h5
      have HH1 : Hid (Sr (w) (P) (g) (cv) (cs) (X2) (R) (n) (t) (.slice oa m oc) (.slice qa lq qc) (gs) (qs) (m) (200 + u) d W v0 v1 v2 v3 v4 ((.slice oa m oc)) v6 v7 v8 v9 v10 os) := H
      clear H
      have HHN : Hid (d 6 = false) := hn
      have HHD : Hid (d 5 = true) := h5
      clear hd hn h5
      go_wp2
      have H0 := HH1.out
      have H := HH1.out
      have hn := HHN.out
      have h5 := HHD.out
      refine ⟨rfl, [v0, v1, v2, v3, v4, (.slice oa m oc), .int .i64 (m : Int), v7, v8, v9, v10], ?_, v0, v1, v2, v3, v4, (.slice oa m oc), .int .i64 (m : Int), v7, v8, v9, v10, os, rfl, ⟨H.D, H.B, (by have h := H.K0; simpa [doneSet] using h), (by have h := H.K1; simpa [doneSet] using h), H.o, H.sz, (by have h := H.f0; simpa [doneSet] using h), (by have h := H.f1; simpa [doneSet] using h), (by have h := H.f2; simpa [doneSet] using h), (by have h := H.f3; simpa [doneSet] using h), (by have h := H.f4; simpa [doneSet] using h), (fun _ => rfl), (fun _ => rfl), (by have h := H.f7; simpa [doneSet] using h), (by have h := H.o8; simpa [doneSet] using h), (by have h := H.l8; simpa [doneSet] using h), (by have h := H.f10; simpa [doneSet] using h)⟩⟩
      simp only [putAll, Act.put, List.setIfInBounds_toArray, List.set_cons_succ, List.set_cons_zero]
    · rintro d vs W ⟨v0, v1, v2, v3, v4, v5, v6, v7, v8, v9, v10, os, rfl, H⟩ hn hd
      simp only [putAll, Act.put, List.setIfInBounds_toArray, List.set_cons_succ, List.set_cons_zero]
      have HH1 : Hid (Sr (w) (P) (g) (cv) (cs) (X2) (R) (n) (t) (.slice oa m oc) (.slice qa lq qc) (gs) (qs) (m) (200 + u) d W v0 v1 v2 v3 v4 v5 v6 v7 v8 v9 v10 os) := H
      clear H
      have HHN : Hid (d 7 = false) := hn
      clear hd hn
      go_wp2
      have H0 := HH1.out
      have H := HH1.out
      have hn := HHN.out
      refine ⟨rfl, [v0, v1, v2, v3, v4, v5, v6, .int .i64 (200 + u), v8, v9, v10], ?_, v0, v1, v2, v3, v4, v5, v6, .int .i64 (200 + u), v8, v9, v10, os, rfl, ⟨H.D, H.B, (by have h := H.K0; simpa [doneSet] using h), (by have h := H.K1; simpa [doneSet] using h), H.o, H.sz, (by have h := H.f0; simpa [doneSet] using h), (by have h := H.f1; simpa [doneSet] using h), (by have h := H.f2; simpa [doneSet] using h), (by have h := H.f3; simpa [doneSet] using h), (by have h := H.f4; simpa [doneSet] using h), (by have h := H.f5; simpa [doneSet] using h), (by have h := H.f6; simpa [doneSet] using h), (fun _ => rfl), (by have h := H.o8; simpa [doneSet] using h), (by have h := H.l8; simpa [doneSet] using h), (by have h := H.f10; simpa [doneSet] using h)⟩⟩
      simp only [putAll, Act.put, List.setIfInBounds_toArray, List.set_cons_succ, List.set_cons_zero]
    · rintro d vs W ⟨v0, v1, v2, v3, v4, v5, v6, v7, v8, v9, v10, os, rfl, H⟩ hn hd
      simp only [putAll, Act.put, List.setIfInBounds_toArray, List.set_cons_succ, List.set_cons_zero]
      have h1 : d 1 = true := hd { on := 1, ground := .data } (by simp) rfl
      have h3 : d 3 = true := hd { on := 3, ground := .data } (by simp) rfl
      have h6 : d 6 = true := hd { on := 6, ground := .data } (by simp) rfl
      have h7 : d 7 = true := hd { on := 7, ground := .data } (by simp) rfl
      obtain rfl := H.f1 h1
      obtain rfl := H.f3 h3
      obtain rfl := H.f6 h6
      obtain rfl := H.f7 h7
      have HH1 : Hid (Sr (w) (P) (g) (cv) (cs) (X2) (R) (n) (t) (.slice oa m oc) (.slice qa lq qc) (gs) (qs) (m) (200 + u) d W v0 (.pointer (some ⟨g, 0, none⟩)) v2 (.int .i64 n) v4 v5 (.int .i64 (m : Int)) (.int .i64 (200 + u)) v8 v9 v10 os) := H
      clear H
      have HHN : Hid (d 8 = false) := hn
      have HHD : Hid (d 1 = true ∧ d 3 = true ∧ d 6 = true ∧ d 7 = true) := ⟨h1, h3, h6, h7⟩
      clear hd hn h1 h3 h6 h7
      go_wp2_with (fail)
      refine (drawOps_c g cv cs n (m : Int) (200 + u) W HH1.out.D.dr (by have := HMB.out; omega) (by have := HNN.out; omega)).mono ?_
      rintro e W3 ⟨v8', os', rfl, ho, hl, d1, g1⟩
      have HO8 : Hid (Og 5 doC 38 P W3 v8' os' ∧ os'.length ≤ 1000) := ⟨Og.mono ho HH1.out.sz, by have := HNN.out; omega⟩
      have HDR : Hid (Dr W3 g cv cs ∧ W.grownBy W3 (some g)) := ⟨d1, g1⟩
      clear d1 g1 ho hl
      go_wp2
      have H0 := HH1.out
      have H := HH1.out.draw HGP.out HXG.out HRG.out HDR.out.1 HDR.out.2
      have hn := HHN.out
      have h1 := HHD.out.1
      have h3 := HHD.out.2.1
      have h6 := HHD.out.2.2.1
      have h7 := HHD.out.2.2.2
      refine ⟨rfl, [v0, .pointer (some ⟨g, 0, none⟩), v2, .int .i64 n, v4, v5, .int .i64 (m : Int), .int .i64 (200 + u), v8', v9, v10], ?_, v0, .pointer (some ⟨g, 0, none⟩), v2, .int .i64 n, v4, v5, .int .i64 (m : Int), .int .i64 (200 + u), v8', v9, v10, os', rfl, ⟨H.D, H.B, (by have h := H.K0; simpa [doneSet] using h), (by have h := H.K1; simpa [doneSet] using h), H.o, H.sz, (by have h := H.f0; simpa [doneSet] using h), (fun _ => rfl), (by have h := H.f2; simpa [doneSet] using h), (fun _ => rfl), (by have h := H.f4; simpa [doneSet] using h), (by have h := H.f5; simpa [doneSet] using h), (fun _ => rfl), (fun _ => rfl), (fun _ => HO8.out.1), (fun _ => HO8.out.2), (fun e => absurd (H0.f10 (by simpa [doneSet] using e)).2 (by rw [hn]; simp))⟩⟩
      simp only [putAll, Act.put, List.setIfInBounds_toArray, List.set_cons_succ, List.set_cons_zero]
    · rintro d vs W ⟨v0, v1, v2, v3, v4, v5, v6, v7, v8, v9, v10, os, rfl, H⟩ hn hd
      simp only [putAll, Act.put, List.setIfInBounds_toArray, List.set_cons_succ, List.set_cons_zero]
      have h0 : d 0 = true := hd { on := 0, ground := .data } (by simp) rfl
      have hb := H.K0 hn
      have y0 := hb.cell 0
      have yf0 := hb.frozen 0
      have y1 := hb.cell 1
      have yf1 := hb.frozen 1
      have y2 := hb.cell 2
      have yf2 := hb.frozen 2
      have y3 := hb.cell 3
      have yf3 := hb.frozen 3
      simp at y0 y1 y2 y3
      clear hb
      obtain rfl := H.f0 h0
      have HH1 : Hid (Sr (w) (P) (g) (cv) (cs) (X2) (R) (n) (t) (.slice oa m oc) (.slice qa lq qc) (gs) (qs) (m) (200 + u) d W (.agg (D4 n (.slice oa m oc) (.slice qa lq qc) t)) v1 v2 v3 v4 v5 v6 v7 v8 v9 v10 os) := H
      clear H
      have HHN : Hid (d 9 = false) := hn
      have HHD : Hid (d 0 = true) := h0
      clear hd hn h0
      go_wp2
      have gf := grow4 W R (.int .i64 n) (.slice oa m oc) (.slice qa lq qc) (.int .i64 t)
      have H0 := HH1.out
      have H := HH1.out
      have hn := HHN.out
      have h0 := HHD.out
      refine ⟨rfl, [.agg (D4 n (.slice oa m oc) (.slice qa lq qc) t), v1, v2, v3, v4, v5, v6, v7, v8, undef, v10], ?_, .agg (D4 n (.slice oa m oc) (.slice qa lq qc) t), v1, v2, v3, v4, v5, v6, v7, v8, undef, v10, os, rfl, ⟨(H.D.app HRW.out HRG.out gf), (H.B.grown gf (fun e => HXR.out (Option.some.inj e))), (fun e => by simp [doneSet] at e), (fun _ => ((((H.K0 hn).set 0 _).set 1 _).set 2 _).set 3 _), (H.o.off (H.K0 hn) gf), (by simpa using H.sz), (fun _ => rfl), (by have h := H.f1; simpa [doneSet] using h), (by have h := H.f2; simpa [doneSet] using h), (by have h := H.f3; simpa [doneSet] using h), (by have h := H.f4; simpa [doneSet] using h), (by have h := H.f5; simpa [doneSet] using h), (by have h := H.f6; simpa [doneSet] using h), (by have h := H.f7; simpa [doneSet] using h), (fun e => World.ownsRow.kept (H.o8 (by simpa [doneSet] using e)) gf (.inr (row_blk (H.o8 (by simpa [doneSet] using e)) (H.K0 hn) (by decide)))), (by have h := H.l8; simpa [doneSet] using h), (by have h := H.f10; simpa [doneSet] using h)⟩⟩
      simp only [putAll, Act.put, List.setIfInBounds_toArray, List.set_cons_succ, List.set_cons_zero]
    · rintro d vs W ⟨v0, v1, v2, v3, v4, v5, v6, v7, v8, v9, v10, os, rfl, H⟩ hn hd
      simp only [putAll, Act.put, List.setIfInBounds_toArray, List.set_cons_succ, List.set_cons_zero]
      have h8 : d 8 = true := hd { on := 8, ground := .data } (by simp) rfl
      have HH1 : Hid (Sr (w) (P) (g) (cv) (cs) (X2) (R) (n) (t) (.slice oa m oc) (.slice qa lq qc) (gs) (qs) (m) (200 + u) d W v0 v1 v2 v3 v4 v5 v6 v7 v8 v9 v10 os) := H
      clear H
      have HHN : Hid (d 10 = false) := hn
      have HHD : Hid (d 8 = true) := h8
      clear hd hn h8
      go_wp2
      have H0 := HH1.out
      have H := HH1.out
      have hn := HHN.out
      have h8 := HHD.out
      refine ⟨rfl, [v0, v1, v2, v3, v4, v5, v6, v7, v8, v9, v8], ?_, v0, v1, v2, v3, v4, v5, v6, v7, v8, v9, v8, os, rfl, ⟨H.D, H.B, (by have h := H.K0; simpa [doneSet] using h), (by have h := H.K1; simpa [doneSet] using h), H.o, H.sz, (by have h := H.f0; simpa [doneSet] using h), (by have h := H.f1; simpa [doneSet] using h), (by have h := H.f2; simpa [doneSet] using h), (by have h := H.f3; simpa [doneSet] using h), (by have h := H.f4; simpa [doneSet] using h), (by have h := H.f5; simpa [doneSet] using h), (by have h := H.f6; simpa [doneSet] using h), (by have h := H.f7; simpa [doneSet] using h), (by have h := H.o8; simpa [doneSet] using h), (by have h := H.l8; simpa [doneSet] using h), (fun _ => ⟨rfl, by simpa [doneSet] using h8⟩)⟩⟩
      simp only [putAll, Act.put, List.setIfInBounds_toArray, List.set_cons_succ, List.set_cons_zero]
    rintro d vs W9 ⟨v0, v1, v2, v3, v4, v5, v6, v7, v8, v9, v10, os, rfl, H⟩ hn
    obtain ⟨e10, -⟩ := H.f10 (hn 10 (by decide))
    have HO8 : Hid (Og 5 doC 38 P W9 v8 os ∧ os.length ≤ 1000) := ⟨H.o8 (hn 8 (by decide)), H.l8 (hn 8 (by decide))⟩
    have HK9 : Hid (Blk W9 R (D4 n (.slice oa m oc) (.slice qa lq qc) t) 27) := H.K1 (hn 9 (by decide))
    have HB9 : Hid (Below w.heap.size w W9 ∧ OwD P W9 (.slice oa m oc) (.slice qa lq qc) gs qs) := ⟨H.D.bel, H.o⟩
    subst e10
    simp only [putAll, Act.put, List.setIfInBounds_toArray, List.set_cons_succ, List.set_cons_zero]
    have HRP : Hid (R ≤ P) := by have h1 := HPX.out; have h2 := HRPl.out; show R ≤ P; omega
    clear H hn HS0
    go_wp2
    exact bodyPost_ret (v := .tuple #[.agg (D4 n (.slice oa m oc) (.slice qa lq qc) t), v10]) (results_Db rfl _ _ _ _ _ _ _ _ rfl rfl HK9.out) rfl ⟨_, _, _, _, gs, qs, _, os, rfl, by rw [HRe.out]; exact HB9.out.2.mono HRP.out, ⟨HLB.out.2.1, HLB.out.2.2, HO8.out.2⟩, HO8.out.1.rd doC_len, HB9.out.1⟩
end Go.Proofs.Ytpmmgbinogokfaa
