/- Put on a trunk whose other rows are only read; no condition. -/
import Derived.Test.YtkehcalijamhjaaPut
namespace Go.Proofs.Ytkehcalijamhjaa
open Go.RowKit Go.ChangeShapes Go.WideShapes Go.ChangeAt
set_option linter.unusedVariables false
set_option linter.unusedSimpArgs false
set_option maxRecDepth 8000
theorem Rd.fr {X : Nat → Prop} {w w' : World} {v : Value} {ls : List Int} (h : Rd .i64 w v ls) (hf : Fr X w w') (hx : ∀ k, v.ownBlock = some k → k < w.heap.size ∧ ¬ X k) : Rd .i64 w' v ls := by
  obtain ⟨a, cap, rfl, h1, h2, h3⟩ := h
  refine ⟨a, cap, rfl, h1, h2, ?_⟩
  rcases h3 with h3 | ⟨b, off, rfl, h4⟩
  · exact .inl h3
  · have hb := hx b rfl
    have e := hf.block b hb.1 hb.2
    exact .inr ⟨b, off, rfl, fun i hi => by rw [World.cell?_of_block (w := w) (a := ⟨b, off + i, none⟩) e]; exact h4 i hi⟩
theorem Rp.fr {X : Nat → Prop} {w w' : World} {v : Value} {ls : Mvs} (h : Rp mf mg w v ls) (hf : Fr X w w') (hx : ∀ k, v.ownBlock = some k → k < w.heap.size ∧ ¬ X k) : Rp mf mg w' v ls := by
  obtain ⟨a, cap, rfl, h1, h2, h3⟩ := h
  refine ⟨a, cap, rfl, h1, h2, ?_⟩
  rcases h3 with h3 | ⟨b, off, rfl, h4⟩
  · exact .inl h3
  · have hb := hx b rfl
    have e := hf.block b hb.1 hb.2
    exact .inr ⟨b, off, rfl, fun i hi => by rw [World.cell?_of_block (w := w) (a := ⟨b, off + i * 2, none⟩) e, World.cell?_of_block (w := w) (a := ⟨b, off + i * 2 + 1, none⟩) e]; exact h4 i hi⟩
/-- a trunk that is only read, in blocks from b on and below h -/
structure Rb (b h : Nat) (W : World) (c0 c1 w0 w1 : Value) (z0 z1 : List Int) (n0 n1 : Mvs) : Prop where
  rk : Rk W c0 c1 w0 w1 z0 z1 n0 n1
  ge : ∀ k, InT c0 c1 w0 w1 k → b ≤ k ∧ k < h
section
variable {b h : Nat} {W W' : World} {c0 c1 w0 w1 : Value} {z0 z1 : List Int} {n0 n1 : Mvs}
theorem Ok6.rb (x : Ok6 b h W c0 c1 w0 w1 z0 z1 n0 n1) : Rb b h W c0 c1 w0 w1 z0 z1 n0 n1 := ⟨x.rd, x.ge⟩
theorem Rb.below (x : Rb b h W c0 c1 w0 w1 z0 z1 n0 n1) (hb : Below W.heap.size W W') : Rb b h W' c0 c1 w0 w1 z0 z1 n0 n1 := ⟨x.rk.below hb, x.ge⟩
theorem Rb.mono {b' h' : Nat} (x : Rb b h W c0 c1 w0 w1 z0 z1 n0 n1) (hb : b' ≤ b) (hh : h ≤ h') : Rb b' h' W c0 c1 w0 w1 z0 z1 n0 n1 := ⟨x.rk, fun k hk => by have := x.ge k hk; omega⟩
theorem Rb.fr {X : Nat → Prop} (x : Rb b h W c0 c1 w0 w1 z0 z1 n0 n1) (hh : h ≤ W.heap.size) (hf : Fr X W W') (hx : ∀ k, InT c0 c1 w0 w1 k → ¬ X k) : Rb b h W' c0 c1 w0 w1 z0 z1 n0 n1 :=
  have lt : ∀ k, InT c0 c1 w0 w1 k → k < W.heap.size := fun k hk => Nat.lt_of_lt_of_le (x.ge k hk).2 hh
  ⟨⟨x.rk.r0.fr hf (fun k e => ⟨lt k (.inl (.inl e)), hx k (.inl (.inl e))⟩), x.rk.r1.fr hf (fun k e => ⟨lt k (.inl (.inr e)), hx k (.inl (.inr e))⟩), x.rk.r2.fr hf (fun k e => ⟨lt k (.inr (.inl e)), hx k (.inr (.inl e))⟩), x.rk.r3.fr hf (fun k e => ⟨lt k (.inr (.inr e)), hx k (.inr (.inr e))⟩)⟩, x.ge⟩
end
/-- what a function hands back beside a trunk that is only read -/
def TwQ (b : Nat) (l0 l1 : Int) (z0 z1 : List Int) (n0 n1 : Mvs) (x : Value) (w : World) (e : Ending) (w' : World) : Prop := ∃ c0 c1 w0 w1, e = .returned (.tuple #[.agg (T6 c0 c1 l0 l1 w0 w1), x]) ∧ Rb b w'.heap.size w' c0 c1 w0 w1 z0 z1 n0 n1 ∧ Below b w w'
theorem Fr.trans2 {X Y : Nat → Prop} {a b c : World} (h : Fr X a b) (h' : Fr Y b c) (hy : ∀ k, Y k → a.heap.size ≤ k ∨ X k) : Fr X a c :=
  ⟨h'.os.trans h.os, h'.tape.trans h.tape, h'.output.trans h.output, Nat.le_trans h.size h'.size, fun k hk hx => (h'.block k (Nat.lt_of_lt_of_le hk h.size) (fun e => by rcases hy k e with h1 | h1; omega; exact hx h1)).trans (h.block k hk hx)⟩
/-- the same, and but for X nothing old is turned -/
def TwF (X Y : Nat → Prop) (b : Nat) (l0 l1 : Int) (z0 z1 : List Int) (n0 n1 : Mvs) (x : Value) (w : World) (e : Ending) (w' : World) : Prop := (∃ c0 c1 w0 w1, e = .returned (.tuple #[.agg (T6 c0 c1 l0 l1 w0 w1), x]) ∧ (Rb b w'.heap.size w' c0 c1 w0 w1 z0 z1 n0 n1 ∧ ∀ k, InT c0 c1 w0 w1 k → Y k ∨ w.heap.size ≤ k) ∧ Below b w w') ∧ Fr X w w'
/-- a trunk whose way to side 0 is owned, all else only read -/
structure Pw0 (b h : Nat) (W : World) (c0 c1 w0 w1 : Value) (z0 z1 : List Int) (n0 n1 : Mvs) : Prop where
  rb : Rb b h W c0 c1 w0 w1 z0 z1 n0 n1
  own : Op mf mg 68 b W w0 n0
  ap : ∀ k, w0.ownBlock = some k → ¬ (c0.ownBlock = some k ∨ c1.ownBlock = some k ∨ w1.ownBlock = some k)
theorem Pw0.below {b h : Nat} {W W' : World} {c0 c1 w0 w1 : Value} {z0 z1 : List Int} {n0 n1 : Mvs} (x : Pw0 b h W c0 c1 w0 w1 z0 z1 n0 n1) (hb : Below W.heap.size W W') : Pw0 b h W' c0 c1 w0 w1 z0 z1 n0 n1 := ⟨x.rb.below hb, x.own.below hb, x.ap⟩
/-- a trunk whose way to side 1 is owned, all else only read -/
structure Pw1 (b h : Nat) (W : World) (c0 c1 w0 w1 : Value) (z0 z1 : List Int) (n0 n1 : Mvs) : Prop where
  rb : Rb b h W c0 c1 w0 w1 z0 z1 n0 n1
  own : Op mf mg 68 b W w1 n1
  ap : ∀ k, w1.ownBlock = some k → ¬ (c0.ownBlock = some k ∨ c1.ownBlock = some k ∨ w0.ownBlock = some k)
theorem Pw1.below {b h : Nat} {W W' : World} {c0 c1 w0 w1 : Value} {z0 z1 : List Int} {n0 n1 : Mvs} (x : Pw1 b h W c0 c1 w0 w1 z0 z1 n0 n1) (hb : Below W.heap.size W W') : Pw1 b h W' c0 c1 w0 w1 z0 z1 n0 n1 := ⟨x.rb.below hb, x.own.below hb, x.ap⟩
set_option maxHeartbeats 6400000 in
theorem putR0_c (b : Nat) (c0 c1 w0 w1 : Value) (l0 l1 : Int) (z0 z1 : List Int) (n0 n1 : Mvs) (kd ci : Int) (w : World) (h : Pw0 b w.heap.size w c0 c1 w0 w1 z0 z1 n0 n1) (hb : b ≤ w.heap.size) (hl : n0.length ≤ 60) :
    Calls Try.prog 46 #[.agg (T6 c0 c1 l0 l1 w0 w1), .int .i64 0, .int .i64 kd, .int .i64 ci] w fun e w' => (n0.length = 60 → TwF (fun k => w0.ownBlock = some k) (fun k => InT c0 c1 w0 w1 k) b l0 l1 z0 z1 n0 n1 (.bool false) w e w') ∧ (n0.length < 60 → TwF (fun k => w0.ownBlock = some k) (fun k => InT c0 c1 w0 w1 k) b l0 l1 z0 z1 (n0 ++ [(kd, ci)]) n1 (.bool true) w e w') := by
  obtain ⟨W0, hW0⟩ : ∃ W0, (w.alloc (Obj.cells (T6 c0 c1 l0 l1 w0 w1) 33)).alloc (Obj.cells (T6 (.slice none 0 0) (.slice none 0 0) 0 0 (.slice none 0 0) (.slice none 0 0)) 33) = W0 := ⟨_, rfl⟩
  have HS : Hid (W0.heap.size = w.heap.size + 2) := by rw [← hW0]; simp [Hid]
  have hb0 : Below w.heap.size w W0 := by rw [← hW0]; exact ((Below.refl _ _).alloc (Nat.le_refl _) _).alloc (by simp) _
  have HB0 : Hid (Below w.heap.size w W0) := hb0
  have KP : Hid (Blk W0 w.heap.size (T6 c0 c1 l0 l1 w0 w1) 33) := by rw [← hW0]; exact (Blk.new _ _ _).alloc _
  have KR : Hid (Blk W0 (w.heap.size + 1) (T6 (.slice none 0 0) (.slice none 0 0) 0 0 (.slice none 0 0) (.slice none 0 0)) 33) := by rw [← hW0]; exact Blk.newAt _ (w.heap.size + 1) _ 33 (by simp)
  have HO : Hid (Pw0 b w.heap.size W0 c0 c1 w0 w1 z0 z1 n0 n1) := h.below hb0
  obtain ⟨a0, p0, hv0, -⟩ := h.rb.rk.r0
  obtain ⟨a1, p1, hv1, -⟩ := h.rb.rk.r1
  obtain ⟨a2, p2, hv2, -⟩ := h.rb.rk.r2
  obtain ⟨a3, p3, hv3, -⟩ := h.rb.rk.r3
  obtain ⟨m0, hm0⟩ : ∃ m, z0.length = m := ⟨_, rfl⟩
  obtain ⟨m1, hm1⟩ : ∃ m, z1.length = m := ⟨_, rfl⟩
  obtain ⟨m2, hm2⟩ : ∃ m, n0.length = m := ⟨_, rfl⟩
  obtain ⟨m3, hm3⟩ : ∃ m, n1.length = m := ⟨_, rfl⟩
  have HMT : Hid (n0.length = m2) := hm2
  rw [hm0] at hv0
  rw [hm1] at hv1
  rw [hm2] at hv2
  rw [hm3] at hv3
  rw [hm2] at hl
  subst hv0 hv1 hv2 hv3
  clear h hb0 hm0 hm1 hm2 hm3
  have x0 := KP.out.cell 0
  have xf0 := KP.out.frozen 0
  have x1 := KP.out.cell 1
  have xf1 := KP.out.frozen 1
  have x2 := KP.out.cell 2
  have xf2 := KP.out.frozen 2
  have x3 := KP.out.cell 3
  have xf3 := KP.out.frozen 3
  have x4 := KP.out.cell 4
  have xf4 := KP.out.frozen 4
  have x5 := KP.out.cell 5
  have xf5 := KP.out.frozen 5
  have xl := KP.out.lt
  simp at x0 x1 x2 x3 x4 x5
  have y0 := KR.out.cell 0
  have yf0 := KR.out.frozen 0
  have y1 := KR.out.cell 1
  have yf1 := KR.out.frozen 1
  have y2 := KR.out.cell 2
  have yf2 := KR.out.frozen 2
  have y3 := KR.out.cell 3
  have yf3 := KR.out.frozen 3
  have y4 := KR.out.cell 4
  have yf4 := KR.out.frozen 4
  have y5 := KR.out.cell 5
  have yf5 := KR.out.frozen 5
  have yl := KR.out.lt
  simp at y0 y1 y2 y3 y4 y5
  by_cases hf : m2 = 60
  · have hfb : ((m2 : Int) == 60) = true := by simp; omega
    have HF : Hid (∀ W, st6 W0 (w.heap.size + 1) (.slice a0 m0 p0) (.slice a1 m1 p1) l0 l1 (.slice a2 m2 p2) (.slice a3 m3 p3) = W → Blk W (w.heap.size + 1) (T6 (.slice a0 m0 p0) (.slice a1 m1 p1) l0 l1 (.slice a2 m2 p2) (.slice a3 m3 p3)) 33 ∧ TwF (fun k => (Value.slice a2 m2 p2).ownBlock = some k) (fun k => InT (.slice a0 m0 p0) (.slice a1 m1 p1) (.slice a2 m2 p2) (.slice a3 m3 p3) k) b l0 l1 z0 z1 n0 n1 (.bool false) w (.returned (.tuple #[.agg (T6 (.slice a0 m0 p0) (.slice a1 m1 p1) l0 l1 (.slice a2 m2 p2) (.slice a3 m3 p3)), .bool false])) W) := by
      rintro _ rfl
      have hfr := fr_put6 W0 (w.heap.size + 1) (.slice a0 m0 p0) (.slice a1 m1 p1) l0 l1 (.slice a2 m2 p2) (.slice a3 m3 p3)
      refine ⟨put6 KR.out _ _ _ _ _ _, ⟨_, _, _, _, rfl, ⟨(HO.out.rb.fr (by have := HB0.out.size; omega) hfr (fun k hk e => by have := HO.out.rb.ge k hk; omega)).mono (Nat.le_refl _) (by have := hfr.size; have := HB0.out.size; omega), fun k hk => .inl hk⟩, (HB0.out.mono hb).trans (hfr.below (by have := HB0.out.size; omega) (fun j e => by omega))⟩, (Fr.ofBelow HB0.out).trans2 hfr (fun k e => .inl (by omega))⟩
    have HFF : Hid (n0.length = 60) := by have := HMT.out; show _ = _; omega
    unfold st6 at HF
    clear hf
    go_enter Try.func46, Try.ntmps46
    go_wp2
    exact bodyPost_ret (v := .tuple #[.agg (T6 (.slice a0 m0 p0) (.slice a1 m1 p1) l0 l1 (.slice a2 m2 p2) (.slice a3 m3 p3)), .bool false]) (results_T rfl _ _ _ _ _ _ _ _ _ _ rfl rfl (HF.out _ rfl).1) rfl ⟨fun _ => (HF.out _ rfl).2, fun h => absurd h (by have := HFF.out; omega)⟩
  · have hfb : ((m2 : Int) == 60) = false := by simp; omega
    have HNF : Hid (n0.length < 60) := by have := HMT.out; show _ < _; omega
    have HON : Hid (Op mf mg 68 b (W0.alloc (Obj.cells (H2 kd ci) 68)) (.slice a2 m2 p2) n0 ∧ Rp mf mg (W0.alloc (Obj.cells (H2 kd ci) 68)) (.slice (some ⟨W0.heap.size, 0, none⟩) 1 1) [(kd, ci)]) := oneNote HO.out.own kd ci
    clear hf
    go_enter Try.func46, Try.ntmps46
    go_wp2_with (at_builtin; refine appNt rfl _ _ rfl b _ n0 rfl HON.out.1 _ [(kd, ci)] (by simp [Act.eval]) HON.out.2 (by have := HNF.out; simp; omega) (by have := HB0.out.size; simp; omega) ?_)
    intro vx u0 oo gg nn
    clear hW0
    have ba : Below W0.heap.size W0 (W0.alloc (Obj.cells (H2 kd ci) 68)) := (Below.refl _ _).alloc (Nat.le_refl _) _
    obtain ⟨e9, f9, hfx, -⟩ := own_form oo
    obtain ⟨N9, hN9⟩ : ∃ n, (n0 ++ [(kd, ci)]).length = n := ⟨_, rfl⟩
    rw [hN9] at hfx
    subst hfx
    have hs0 := HS.out
    have frg : Fr (fun j => (Value.slice a2 m2 p2).ownBlock = some j) (W0.alloc (Obj.cells (H2 kd ci) 68)) u0 := Fr.ofGrown gg (fun k e => e)
    have hlo : ∀ k, InT (.slice a0 m0 p0) (.slice a1 m1 p1) (.slice a2 m2 p2) (.slice a3 m3 p3) k → b ≤ k ∧ k < w.heap.size := fun k hk => HO.out.rb.ge k hk
    have hnew : ∀ k, (Value.slice e9 N9 f9).ownBlock = some k → (Value.slice a2 m2 p2).ownBlock = some k ∨ k = W0.heap.size + 1 := fun k e => by
      rcases nn with nn | nn
      · exact .inl (nn ▸ e)
      · rw [nn] at e; exact .inr ((Option.some.inj e).symm.trans (by simp))
    have k1 := (KP.out.below ba KP.out.lt).fr frg (fun e => by have := hlo _ (.inr (.inl e)); omega)
    have k2 := (KR.out.below ba KR.out.lt).fr frg (fun e => by have := hlo _ (.inr (.inl e)); omega)
    have szu : W0.heap.size + 1 ≤ u0.heap.size := by have := frg.size; simpa using this
    have OA := HO.out.below ba
    have HF : Hid (∀ W, st6 (u0.setCell ⟨w.heap.size, 4, none⟩ (.slice e9 N9 f9)) (w.heap.size + 1) (.slice a0 m0 p0) (.slice a1 m1 p1) l0 l1 (.slice e9 N9 f9) (.slice a3 m3 p3) = W → Blk W (w.heap.size + 1) (T6 (.slice a0 m0 p0) (.slice a1 m1 p1) l0 l1 (.slice e9 N9 f9) (.slice a3 m3 p3)) 33 ∧ TwF (fun k => (Value.slice a2 m2 p2).ownBlock = some k) (fun k => InT (.slice a0 m0 p0) (.slice a1 m1 p1) (.slice a2 m2 p2) (.slice a3 m3 p3) k) b l0 l1 z0 z1 (n0 ++ [(kd, ci)]) n1 (.bool true) w (.returned (.tuple #[.agg (T6 (.slice a0 m0 p0) (.slice a1 m1 p1) l0 l1 (.slice e9 N9 f9) (.slice a3 m3 p3)), .bool true])) W) := by
      rintro _ rfl
      have hfr : Fr (fun j => j = w.heap.size ∨ j = w.heap.size + 1) u0 (st6 (u0.setCell ⟨w.heap.size, 4, none⟩ (.slice e9 N9 f9)) (w.heap.size + 1) (.slice a0 m0 p0) (.slice a1 m1 p1) l0 l1 (.slice e9 N9 f9) (.slice a3 m3 p3)) := ((Fr.refl _ _).set (.inl rfl) _ _).trans ((fr_put6 _ _ _ _ _ _ _ _).mono (fun k _ e => .inr e))
      have szf := hfr.size
      have hin : ∀ k, (Value.slice e9 N9 f9).ownBlock = some k → b ≤ k ∧ (k < w.heap.size ∨ k = W0.heap.size + 1) := fun k e => by
        rcases hnew k e with h | h
        · have := hlo k (.inr (.inl h)); omega
        · omega
      refine ⟨put6 (k2.other _ _ (by simp)) _ _ _ _ _ _, ⟨_, _, _, _, rfl, ⟨⟨⟨?_, ?_, ?_, ?_⟩, ?_⟩, ?_⟩, ?_⟩, (((Fr.ofBelow HB0.out).trans2 (Fr.ofBelow (X := fun _ => False) ba) (fun k e => e.elim)).trans2 frg (fun k e => .inr e)).trans2 hfr (fun k e => .inl (by omega))⟩
      · exact ((OA.rb.rk.r0.fr frg (fun k e => ⟨by have := hlo k (.inl (.inl e)); simp; omega, fun h => HO.out.ap k h (.inl e)⟩)).fr hfr (fun k e => ⟨by have := hlo k (.inl (.inl e)); omega, fun h => by have := hlo k (.inl (.inl e)); omega⟩))
      · exact ((OA.rb.rk.r1.fr frg (fun k e => ⟨by have := hlo k (.inl (.inr e)); simp; omega, fun h => HO.out.ap k h (.inr (.inl e))⟩)).fr hfr (fun k e => ⟨by have := hlo k (.inl (.inr e)); omega, fun h => by have := hlo k (.inl (.inr e)); omega⟩))
      · exact Op.rd (ownsRow_fr oo hfr (fun k e h => by have := hin k e; omega))
      · exact ((OA.rb.rk.r3.fr frg (fun k e => ⟨by have := hlo k (.inr (.inr e)); simp; omega, fun h => HO.out.ap k h (.inr (.inr e))⟩)).fr hfr (fun k e => ⟨by have := hlo k (.inr (.inr e)); omega, fun h => by have := hlo k (.inr (.inr e)); omega⟩))
      · intro k hk
        rcases hk with (e | e) | (e | e)
        · have := hlo k (.inl (.inl e)); omega
        · have := hlo k (.inl (.inr e)); omega
        · have := World.ownsRow.lt oo k e; omega
        · have := hlo k (.inr (.inr e)); omega
      · intro k hk
        rcases hk with (e | e) | (e | e)
        · exact .inl (.inl (.inl e))
        · exact .inl (.inl (.inr e))
        · rcases hnew k e with h | h
          · exact .inl (.inr (.inl h))
          · exact .inr (by omega)
        · exact .inl (.inr (.inr e))
      · have b1 : Below b w (W0.alloc (Obj.cells (H2 kd ci) 68)) := (HB0.out.mono hb).trans (ba.mono (by have := HB0.out.size; omega))
        have b2 := b1.trans (frg.below (by simp; omega) (fun k e => (hlo k (.inr (.inl e))).1))
        exact b2.trans (hfr.below (by omega) (fun j e => by omega))
    clear x0 xf0 x1 xf1 x2 xf2 x3 xf3 x4 xf4 x5 xf5 xl y0 yf0 y1 yf1 y2 yf2 y3 yf3 y4 yf4 y5 yf5 yl
    have x0 := k1.cell 0
    have xf0 := k1.frozen 0
    have x1 := k1.cell 1
    have xf1 := k1.frozen 1
    have x2 := k1.cell 2
    have xf2 := k1.frozen 2
    have x3 := k1.cell 3
    have xf3 := k1.frozen 3
    have x4 := k1.cell 4
    have xf4 := k1.frozen 4
    have x5 := k1.cell 5
    have xf5 := k1.frozen 5
    have xl := k1.lt
    simp at x0 x1 x2 x3 x4 x5
    have y0 := k2.cell 0
    have yf0 := k2.frozen 0
    have y1 := k2.cell 1
    have yf1 := k2.frozen 1
    have y2 := k2.cell 2
    have yf2 := k2.frozen 2
    have y3 := k2.cell 3
    have yf3 := k2.frozen 3
    have y4 := k2.cell 4
    have yf4 := k2.frozen 4
    have y5 := k2.cell 5
    have yf5 := k2.frozen 5
    have yl := k2.lt
    simp at y0 y1 y2 y3 y4 y5
    unfold st6 at HF
    clear ba oo gg nn frg hlo hnew k1 k2 OA HON HO hs0 szu hN9
    go_wp2
    exact bodyPost_ret (v := .tuple #[.agg (T6 (.slice a0 m0 p0) (.slice a1 m1 p1) l0 l1 (.slice e9 N9 f9) (.slice a3 m3 p3)), .bool true]) (results_T rfl _ _ _ _ _ _ _ _ _ _ rfl rfl (HF.out _ rfl).1) rfl ⟨fun h => absurd h (by have := HNF.out; omega), fun _ => (HF.out _ rfl).2⟩

set_option maxHeartbeats 6400000 in
theorem putR1_c (b : Nat) (c0 c1 w0 w1 : Value) (l0 l1 : Int) (z0 z1 : List Int) (n0 n1 : Mvs) (kd ci : Int) (w : World) (h : Pw1 b w.heap.size w c0 c1 w0 w1 z0 z1 n0 n1) (hb : b ≤ w.heap.size) (hl : n1.length ≤ 60) :
    Calls Try.prog 46 #[.agg (T6 c0 c1 l0 l1 w0 w1), .int .i64 1, .int .i64 kd, .int .i64 ci] w fun e w' => (n1.length = 60 → TwF (fun k => w1.ownBlock = some k) (fun k => InT c0 c1 w0 w1 k) b l0 l1 z0 z1 n0 n1 (.bool false) w e w') ∧ (n1.length < 60 → TwF (fun k => w1.ownBlock = some k) (fun k => InT c0 c1 w0 w1 k) b l0 l1 z0 z1 n0 (n1 ++ [(kd, ci)]) (.bool true) w e w') := by
  obtain ⟨W0, hW0⟩ : ∃ W0, (w.alloc (Obj.cells (T6 c0 c1 l0 l1 w0 w1) 33)).alloc (Obj.cells (T6 (.slice none 0 0) (.slice none 0 0) 0 0 (.slice none 0 0) (.slice none 0 0)) 33) = W0 := ⟨_, rfl⟩
  have HS : Hid (W0.heap.size = w.heap.size + 2) := by rw [← hW0]; simp [Hid]
  have hb0 : Below w.heap.size w W0 := by rw [← hW0]; exact ((Below.refl _ _).alloc (Nat.le_refl _) _).alloc (by simp) _
  have HB0 : Hid (Below w.heap.size w W0) := hb0
  have KP : Hid (Blk W0 w.heap.size (T6 c0 c1 l0 l1 w0 w1) 33) := by rw [← hW0]; exact (Blk.new _ _ _).alloc _
  have KR : Hid (Blk W0 (w.heap.size + 1) (T6 (.slice none 0 0) (.slice none 0 0) 0 0 (.slice none 0 0) (.slice none 0 0)) 33) := by rw [← hW0]; exact Blk.newAt _ (w.heap.size + 1) _ 33 (by simp)
  have HO : Hid (Pw1 b w.heap.size W0 c0 c1 w0 w1 z0 z1 n0 n1) := h.below hb0
  obtain ⟨a0, p0, hv0, -⟩ := h.rb.rk.r0
  obtain ⟨a1, p1, hv1, -⟩ := h.rb.rk.r1
  obtain ⟨a2, p2, hv2, -⟩ := h.rb.rk.r2
  obtain ⟨a3, p3, hv3, -⟩ := h.rb.rk.r3
  obtain ⟨m0, hm0⟩ : ∃ m, z0.length = m := ⟨_, rfl⟩
  obtain ⟨m1, hm1⟩ : ∃ m, z1.length = m := ⟨_, rfl⟩
  obtain ⟨m2, hm2⟩ : ∃ m, n0.length = m := ⟨_, rfl⟩
  obtain ⟨m3, hm3⟩ : ∃ m, n1.length = m := ⟨_, rfl⟩
  have HMT : Hid (n1.length = m3) := hm3
  rw [hm0] at hv0
  rw [hm1] at hv1
  rw [hm2] at hv2
  rw [hm3] at hv3
  rw [hm3] at hl
  subst hv0 hv1 hv2 hv3
  clear h hb0 hm0 hm1 hm2 hm3
  have x0 := KP.out.cell 0
  have xf0 := KP.out.frozen 0
  have x1 := KP.out.cell 1
  have xf1 := KP.out.frozen 1
  have x2 := KP.out.cell 2
  have xf2 := KP.out.frozen 2
  have x3 := KP.out.cell 3
  have xf3 := KP.out.frozen 3
  have x4 := KP.out.cell 4
  have xf4 := KP.out.frozen 4
  have x5 := KP.out.cell 5
  have xf5 := KP.out.frozen 5
  have xl := KP.out.lt
  simp at x0 x1 x2 x3 x4 x5
  have y0 := KR.out.cell 0
  have yf0 := KR.out.frozen 0
  have y1 := KR.out.cell 1
  have yf1 := KR.out.frozen 1
  have y2 := KR.out.cell 2
  have yf2 := KR.out.frozen 2
  have y3 := KR.out.cell 3
  have yf3 := KR.out.frozen 3
  have y4 := KR.out.cell 4
  have yf4 := KR.out.frozen 4
  have y5 := KR.out.cell 5
  have yf5 := KR.out.frozen 5
  have yl := KR.out.lt
  simp at y0 y1 y2 y3 y4 y5
  by_cases hf : m3 = 60
  · have hfb : ((m3 : Int) == 60) = true := by simp; omega
    have HF : Hid (∀ W, st6 W0 (w.heap.size + 1) (.slice a0 m0 p0) (.slice a1 m1 p1) l0 l1 (.slice a2 m2 p2) (.slice a3 m3 p3) = W → Blk W (w.heap.size + 1) (T6 (.slice a0 m0 p0) (.slice a1 m1 p1) l0 l1 (.slice a2 m2 p2) (.slice a3 m3 p3)) 33 ∧ TwF (fun k => (Value.slice a3 m3 p3).ownBlock = some k) (fun k => InT (.slice a0 m0 p0) (.slice a1 m1 p1) (.slice a2 m2 p2) (.slice a3 m3 p3) k) b l0 l1 z0 z1 n0 n1 (.bool false) w (.returned (.tuple #[.agg (T6 (.slice a0 m0 p0) (.slice a1 m1 p1) l0 l1 (.slice a2 m2 p2) (.slice a3 m3 p3)), .bool false])) W) := by
      rintro _ rfl
      have hfr := fr_put6 W0 (w.heap.size + 1) (.slice a0 m0 p0) (.slice a1 m1 p1) l0 l1 (.slice a2 m2 p2) (.slice a3 m3 p3)
      refine ⟨put6 KR.out _ _ _ _ _ _, ⟨_, _, _, _, rfl, ⟨(HO.out.rb.fr (by have := HB0.out.size; omega) hfr (fun k hk e => by have := HO.out.rb.ge k hk; omega)).mono (Nat.le_refl _) (by have := hfr.size; have := HB0.out.size; omega), fun k hk => .inl hk⟩, (HB0.out.mono hb).trans (hfr.below (by have := HB0.out.size; omega) (fun j e => by omega))⟩, (Fr.ofBelow HB0.out).trans2 hfr (fun k e => .inl (by omega))⟩
    have HFF : Hid (n1.length = 60) := by have := HMT.out; show _ = _; omega
    unfold st6 at HF
    clear hf
    go_enter Try.func46, Try.ntmps46
    go_wp2
    exact bodyPost_ret (v := .tuple #[.agg (T6 (.slice a0 m0 p0) (.slice a1 m1 p1) l0 l1 (.slice a2 m2 p2) (.slice a3 m3 p3)), .bool false]) (results_T rfl _ _ _ _ _ _ _ _ _ _ rfl rfl (HF.out _ rfl).1) rfl ⟨fun _ => (HF.out _ rfl).2, fun h => absurd h (by have := HFF.out; omega)⟩
  · have hfb : ((m3 : Int) == 60) = false := by simp; omega
    have HNF : Hid (n1.length < 60) := by have := HMT.out; show _ < _; omega
    have HON : Hid (Op mf mg 68 b (W0.alloc (Obj.cells (H2 kd ci) 68)) (.slice a3 m3 p3) n1 ∧ Rp mf mg (W0.alloc (Obj.cells (H2 kd ci) 68)) (.slice (some ⟨W0.heap.size, 0, none⟩) 1 1) [(kd, ci)]) := oneNote HO.out.own kd ci
    clear hf
    go_enter Try.func46, Try.ntmps46
    go_wp2_with (at_builtin; refine appNt rfl _ _ rfl b _ n1 rfl HON.out.1 _ [(kd, ci)] (by simp [Act.eval]) HON.out.2 (by have := HNF.out; simp; omega) (by have := HB0.out.size; simp; omega) ?_)
    intro vx u0 oo gg nn
    clear hW0
    have ba : Below W0.heap.size W0 (W0.alloc (Obj.cells (H2 kd ci) 68)) := (Below.refl _ _).alloc (Nat.le_refl _) _
    obtain ⟨e9, f9, hfx, -⟩ := own_form oo
    obtain ⟨N9, hN9⟩ : ∃ n, (n1 ++ [(kd, ci)]).length = n := ⟨_, rfl⟩
    rw [hN9] at hfx
    subst hfx
    have hs0 := HS.out
    have frg : Fr (fun j => (Value.slice a3 m3 p3).ownBlock = some j) (W0.alloc (Obj.cells (H2 kd ci) 68)) u0 := Fr.ofGrown gg (fun k e => e)
    have hlo : ∀ k, InT (.slice a0 m0 p0) (.slice a1 m1 p1) (.slice a2 m2 p2) (.slice a3 m3 p3) k → b ≤ k ∧ k < w.heap.size := fun k hk => HO.out.rb.ge k hk
    have hnew : ∀ k, (Value.slice e9 N9 f9).ownBlock = some k → (Value.slice a3 m3 p3).ownBlock = some k ∨ k = W0.heap.size + 1 := fun k e => by
      rcases nn with nn | nn
      · exact .inl (nn ▸ e)
      · rw [nn] at e; exact .inr ((Option.some.inj e).symm.trans (by simp))
    have k1 := (KP.out.below ba KP.out.lt).fr frg (fun e => by have := hlo _ (.inr (.inr e)); omega)
    have k2 := (KR.out.below ba KR.out.lt).fr frg (fun e => by have := hlo _ (.inr (.inr e)); omega)
    have szu : W0.heap.size + 1 ≤ u0.heap.size := by have := frg.size; simpa using this
    have OA := HO.out.below ba
    have HF : Hid (∀ W, st6 (u0.setCell ⟨w.heap.size, 5, none⟩ (.slice e9 N9 f9)) (w.heap.size + 1) (.slice a0 m0 p0) (.slice a1 m1 p1) l0 l1 (.slice a2 m2 p2) (.slice e9 N9 f9) = W → Blk W (w.heap.size + 1) (T6 (.slice a0 m0 p0) (.slice a1 m1 p1) l0 l1 (.slice a2 m2 p2) (.slice e9 N9 f9)) 33 ∧ TwF (fun k => (Value.slice a3 m3 p3).ownBlock = some k) (fun k => InT (.slice a0 m0 p0) (.slice a1 m1 p1) (.slice a2 m2 p2) (.slice a3 m3 p3) k) b l0 l1 z0 z1 n0 (n1 ++ [(kd, ci)]) (.bool true) w (.returned (.tuple #[.agg (T6 (.slice a0 m0 p0) (.slice a1 m1 p1) l0 l1 (.slice a2 m2 p2) (.slice e9 N9 f9)), .bool true])) W) := by
      rintro _ rfl
      have hfr : Fr (fun j => j = w.heap.size ∨ j = w.heap.size + 1) u0 (st6 (u0.setCell ⟨w.heap.size, 5, none⟩ (.slice e9 N9 f9)) (w.heap.size + 1) (.slice a0 m0 p0) (.slice a1 m1 p1) l0 l1 (.slice a2 m2 p2) (.slice e9 N9 f9)) := ((Fr.refl _ _).set (.inl rfl) _ _).trans ((fr_put6 _ _ _ _ _ _ _ _).mono (fun k _ e => .inr e))
      have szf := hfr.size
      have hin : ∀ k, (Value.slice e9 N9 f9).ownBlock = some k → b ≤ k ∧ (k < w.heap.size ∨ k = W0.heap.size + 1) := fun k e => by
        rcases hnew k e with h | h
        · have := hlo k (.inr (.inr h)); omega
        · omega
      refine ⟨put6 (k2.other _ _ (by simp)) _ _ _ _ _ _, ⟨_, _, _, _, rfl, ⟨⟨⟨?_, ?_, ?_, ?_⟩, ?_⟩, ?_⟩, ?_⟩, (((Fr.ofBelow HB0.out).trans2 (Fr.ofBelow (X := fun _ => False) ba) (fun k e => e.elim)).trans2 frg (fun k e => .inr e)).trans2 hfr (fun k e => .inl (by omega))⟩
      · exact ((OA.rb.rk.r0.fr frg (fun k e => ⟨by have := hlo k (.inl (.inl e)); simp; omega, fun h => HO.out.ap k h (.inl e)⟩)).fr hfr (fun k e => ⟨by have := hlo k (.inl (.inl e)); omega, fun h => by have := hlo k (.inl (.inl e)); omega⟩))
      · exact ((OA.rb.rk.r1.fr frg (fun k e => ⟨by have := hlo k (.inl (.inr e)); simp; omega, fun h => HO.out.ap k h (.inr (.inl e))⟩)).fr hfr (fun k e => ⟨by have := hlo k (.inl (.inr e)); omega, fun h => by have := hlo k (.inl (.inr e)); omega⟩))
      · exact ((OA.rb.rk.r2.fr frg (fun k e => ⟨by have := hlo k (.inr (.inl e)); simp; omega, fun h => HO.out.ap k h (.inr (.inr e))⟩)).fr hfr (fun k e => ⟨by have := hlo k (.inr (.inl e)); omega, fun h => by have := hlo k (.inr (.inl e)); omega⟩))
      · exact Op.rd (ownsRow_fr oo hfr (fun k e h => by have := hin k e; omega))
      · intro k hk
        rcases hk with (e | e) | (e | e)
        · have := hlo k (.inl (.inl e)); omega
        · have := hlo k (.inl (.inr e)); omega
        · have := hlo k (.inr (.inl e)); omega
        · have := World.ownsRow.lt oo k e; omega
      · intro k hk
        rcases hk with (e | e) | (e | e)
        · exact .inl (.inl (.inl e))
        · exact .inl (.inl (.inr e))
        · exact .inl (.inr (.inl e))
        · rcases hnew k e with h | h
          · exact .inl (.inr (.inr h))
          · exact .inr (by omega)
      · have b1 : Below b w (W0.alloc (Obj.cells (H2 kd ci) 68)) := (HB0.out.mono hb).trans (ba.mono (by have := HB0.out.size; omega))
        have b2 := b1.trans (frg.below (by simp; omega) (fun k e => (hlo k (.inr (.inr e))).1))
        exact b2.trans (hfr.below (by omega) (fun j e => by omega))
    clear x0 xf0 x1 xf1 x2 xf2 x3 xf3 x4 xf4 x5 xf5 xl y0 yf0 y1 yf1 y2 yf2 y3 yf3 y4 yf4 y5 yf5 yl
    have x0 := k1.cell 0
    have xf0 := k1.frozen 0
    have x1 := k1.cell 1
    have xf1 := k1.frozen 1
    have x2 := k1.cell 2
    have xf2 := k1.frozen 2
    have x3 := k1.cell 3
    have xf3 := k1.frozen 3
    have x4 := k1.cell 4
    have xf4 := k1.frozen 4
    have x5 := k1.cell 5
    have xf5 := k1.frozen 5
    have xl := k1.lt
    simp at x0 x1 x2 x3 x4 x5
    have y0 := k2.cell 0
    have yf0 := k2.frozen 0
    have y1 := k2.cell 1
    have yf1 := k2.frozen 1
    have y2 := k2.cell 2
    have yf2 := k2.frozen 2
    have y3 := k2.cell 3
    have yf3 := k2.frozen 3
    have y4 := k2.cell 4
    have yf4 := k2.frozen 4
    have y5 := k2.cell 5
    have yf5 := k2.frozen 5
    have yl := k2.lt
    simp at y0 y1 y2 y3 y4 y5
    unfold st6 at HF
    clear ba oo gg nn frg hlo hnew k1 k2 OA HON HO hs0 szu hN9
    go_wp2
    exact bodyPost_ret (v := .tuple #[.agg (T6 (.slice a0 m0 p0) (.slice a1 m1 p1) l0 l1 (.slice a2 m2 p2) (.slice e9 N9 f9)), .bool true]) (results_T rfl _ _ _ _ _ _ _ _ _ _ rfl rfl (HF.out _ rfl).1) rfl ⟨fun h => absurd h (by have := HNF.out; omega), fun _ => (HF.out _ rfl).2⟩
end Go.Proofs.Ytkehcalijamhjaa
