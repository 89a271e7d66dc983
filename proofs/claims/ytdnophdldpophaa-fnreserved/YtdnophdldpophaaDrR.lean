/- DrawReserve; no condition. -/
import Derived.Test.YtdnophdldpophaaDrH
import Derived.Test.YtdnophdldpophaaInv
import Derived.Deep.DeepCutAuto
namespace Go.Proofs.Ytdnophdldpophaa
open Go.RowKit Go.ChangeShapes Go.WideShapes Go.ChangeAt
set_option linter.unusedVariables false
set_option linter.unusedSimpArgs false
set_option maxRecDepth 8000
theorem results_P5 {fn : Func} {p t u v x : Tmp} (h : fn.results = #[.cell p 25, .tmp t, .tmp u, .tmp v, .tmp x]) (tmps : Array Value) (w : World) (g : Nat) (l k : Int) (a b c d : Value)
    (hp : tmps.getD p undef = .pointer (some ⟨g, 0, none⟩)) (ht : tmps.getD t undef = a) (hu : tmps.getD u undef = b) (hv : tmps.getD v undef = c) (hx : tmps.getD x undef = d) (hg : Blk w g (P2 l k) 25) :
    (results fn tmps).run Try.prog w = .ok (.tuple #[.agg (P2 l k), a, b, c, d]) w := by
  have hp' : tmps[p]?.getD undef = .pointer (some ⟨g, 0, none⟩) := by simpa using hp
  have ht' : tmps[t]?.getD undef = a := by simpa using ht
  have hu' : tmps[u]?.getD undef = b := by simpa using hu
  have hv' : tmps[v]?.getD undef = c := by simpa using hv
  have hx' : tmps[x]?.getD undef = d := by simpa using hx
  have hr := run_loadVar_row (P := Try.prog) w g 25 25 (P2 l k) (0, 0) _ hg Try.underlying25 rfl sizeP
  simp [results, h, hp', ht', hu', hv', hx', asAddr, hr]
/-- from w on nothing old was turned; the cursor g is new -/
structure Dq (w W : World) (g : Nat) (cv : Value) (zs : List Int) : Prop where
  dr : Dr W g cv zs
  bel : Below w.heap.size w W
  gl : w.heap.size < g
  cl : zs = [] ∨ ∀ k, cv.ownBlock = some k → k < w.heap.size
theorem Dq.below {w W W' : World} {g : Nat} {cv : Value} {zs : List Int} (h : Dq w W g cv zs) (hb : Below W.heap.size W W') : Dq w W' g cv zs := ⟨h.dr.below hb, belowCall h.bel hb h.bel.size, h.gl, h.cl⟩
theorem Dq.draw {w W W' : World} {g : Nat} {cv : Value} {zs : List Int} (h : Dq w W g cv zs) (hd : Dr W' g cv zs) (hg : W.grownBy W' (some g)) : Dq w W' g cv zs :=
  ⟨hd, h.bel.trans (grown_below hg h.bel.size (fun k e => by cases e; exact Nat.le_of_lt h.gl)), h.gl, h.cl⟩
theorem Dq.app {w W W' : World} {g : Nat} {cv : Value} {zs : List Int} {R : Nat} (h : Dq w W g cv zs) (hr : w.heap.size ≤ R) (hne : R ≠ g) (hg : W.grownBy W' (some R)) : Dq w W' g cv zs := by
  have hd : Dr W' g cv zs := by
    obtain ⟨i, hh, k, h1, h2⟩ := h.dr.cur
    refine ⟨⟨i, hh, k.grown hg (fun e => hne (by cases e; rfl)), h1, h2⟩, h.dr.rd.grownE hg ?_, h.dr.ap, h.dr.ok, h.dr.len⟩
    rcases h.cl with h0 | h0
    · exact .inl h0
    · cases hv : cv.ownBlock with
      | none => exact .inr (.inl rfl)
      | some k => exact .inr (.inr (fun e => by have := h0 k hv; cases e; omega))
  exact ⟨hd, h.bel.trans (grown_below hg h.bel.size (fun k e => by cases e; exact hr)), h.gl, h.cl⟩
structure Sv (w : World) (C R X g : Nat) (cv : Value) (zs : List Int) (l k : Int) (d : Nat → Bool) (W : World) (v0 v1 v2 v3 v4 v5 v6 v7 v8 v9 v10 v11 v12 v13 v14 : Value) (ls : List Tf) (Y : Nat) : Prop where
  D : Dq w W g cv zs
  K0 : d 10 = false → Blk W R (P2 0 0) 25
  K1 : d 10 = true → Blk W R (P2 l k) 25
  T : Blk W X (P2 l k) 25
  sz : C ≤ W.heap.size
  f0 : d 0 = true → v0 = .agg (P2 l k)
  f1 : d 1 = true → v1 = .pointer (some ⟨g, 0, none⟩)
  f3 : d 3 = true → v3 = .pointer (some ⟨g, 0, none⟩)
  f5 : d 5 = true → v5 = .pointer (some ⟨g, 0, none⟩)
  f7 : d 7 = true → v7 = .pointer (some ⟨g, 0, none⟩)
  o2 : d 2 = true → Og 5 tfC 32 C W v2 ls
  f4 : d 4 = true → ∃ z : Int, v4 = .int .i64 z
  f6 : d 6 = true → ∃ z : Int, v6 = .int .i64 z
  f9 : d 9 = true → ∃ z : Int, v9 = .int .i64 z
  f8 : d 8 = true → v8 = .slice (some ⟨Y, 0, none⟩) 9 9 ∧ C ≤ Y
  o8 : d 8 = true → d 9 = false → Rd .i64 W v8 [1, 30, 100, 600, 3000, 86400, 86401, 0, 1000]
  f11 : d 11 = true → v11 = v2 ∧ d 2 = true
  f12 : d 12 = true → v12 = v4 ∧ d 4 = true
  f13 : d 13 = true → v13 = v6 ∧ d 6 = true
  f14 : d 14 = true → v14 = v9 ∧ d 9 = true
  g9 : d 9 = true → d 8 = true
def SvS (w : World) (C R X g : Nat) (cv : Value) (zs : List Int) (l k : Int) (d : Nat → Bool) (q : List Value) (W : World) : Prop := ∃ v0 v1 v2 v3 v4 v5 v6 v7 v8 v9 v10 v11 v12 v13 v14 ls Y, q = [v0, v1, v2, v3, v4, v5, v6, v7, v8, v9, v10, v11, v12, v13, v14] ∧ Sv w C R X g cv zs l k d W v0 v1 v2 v3 v4 v5 v6 v7 v8 v9 v10 v11 v12 v13 v14 ls Y
theorem Sv.below {w : World} {C R X g : Nat} {cv : Value} {zs : List Int} {l k : Int} {d : Nat → Bool} {W W' : World} {v0 v1 v2 v3 v4 v5 v6 v7 v8 v9 v10 v11 v12 v13 v14 : Value} {ls : List Tf} {Y : Nat} (h : Sv w C R X g cv zs l k d W v0 v1 v2 v3 v4 v5 v6 v7 v8 v9 v10 v11 v12 v13 v14 ls Y) (hb : Below W.heap.size W W') : Sv w C R X g cv zs l k d W' v0 v1 v2 v3 v4 v5 v6 v7 v8 v9 v10 v11 v12 v13 v14 ls Y :=
  { h with
    D := h.D.below hb
    K0 := fun e => (h.K0 e).below hb (h.K0 e).lt
    K1 := fun e => (h.K1 e).below hb (h.K1 e).lt
    T := h.T.below hb h.T.lt
    sz := Nat.le_trans h.sz hb.size
    o2 := fun e => (h.o2 e).below hb
    o8 := fun e e2 => (h.o8 e e2).below hb }
theorem Rd.gone {W W' : World} {v : Value} {Y q n c : Nat} {zs : List Int} (h : Rd .i64 W v zs) (hv : v = .slice (some ⟨Y, 0, none⟩) n c) (hne : q ≠ Y) (hg : W.grownBy W' (some q)) : Rd .i64 W' v zs :=
  h.grown hg (.inr (by rw [hv]; simp [Value.ownBlock]; exact fun e => hne e.symm))
theorem Sv.draw {w : World} {C R X g : Nat} {cv : Value} {zs : List Int} {l k : Int} {d : Nat → Bool} {W W' : World} {v0 v1 v2 v3 v4 v5 v6 v7 v8 v9 v10 v11 v12 v13 v14 : Value} {ls : List Tf} {Y : Nat} (h : Sv w C R X g cv zs l k d W v0 v1 v2 v3 v4 v5 v6 v7 v8 v9 v10 v11 v12 v13 v14 ls Y) (hRC : R < C) (hgC : g < C) (hRg : R ≠ g) (hXg : X ≠ g) (hd : Dr W' g cv zs) (hg : W.grownBy W' (some g)) : Sv w C R X g cv zs l k d W' v0 v1 v2 v3 v4 v5 v6 v7 v8 v9 v10 v11 v12 v13 v14 ls Y :=
  { h with
    D := h.D.draw hd hg
    K0 := fun e => (h.K0 e).grown hg (by simpa using hRg)
    K1 := fun e => (h.K1 e).grown hg (by simpa using hRg)
    T := h.T.grown hg (by simpa using hXg)
    sz := Nat.le_trans h.sz hg.size
    o2 := fun e => (h.o2 e).draw hg hgC
    o8 := fun e e2 => (h.o8 e e2).gone (h.f8 e).1 (by have := (h.f8 e).2; omega) hg }
theorem Dq.drew {w W : World} {g : Nat} {cv : Value} {zs : List Int} (h : Dq w W g cv zs) : Dq w W.drew g cv zs := ⟨h.dr.below (Below.refl _ _).drew, h.bel.drew, h.gl, h.cl⟩
def RvR (w : World) (e : Ending) (w' : World) : Prop := ∃ l k v ls z b m, e = .returned (.tuple #[.agg (P2 l k), v, .int .i64 z, .int .i64 b, .int .i64 m]) ∧ Rg 5 tfC w' v ls ∧ Below w.heap.size w w'
set_option maxHeartbeats 25600000 in
theorem drawRes_c (v : Value) (zs : List Int) (w : World) (h : Rd .u8 w v zs) (hok : ∀ z ∈ zs, 0 ≤ z ∧ z ≤ 255) (hlen : zs.length ≤ 1048576) : Calls Try.prog 10 #[v] w (RvR w) := by
  have hcl : zs = [] ∨ ∀ k, v.ownBlock = some k → k < w.heap.size := by
    obtain ⟨a, cap, rfl, -, -, h3⟩ := h
    rcases h3 with h3 | ⟨b, off, rfl, h4⟩
    · exact .inl h3
    · cases zs with
      | nil => exact .inl rfl
      | cons z r => exact .inr (fun k e => by simp [Value.ownBlock] at e; subst e; exact block_lt_of_cell (h4 0 (by simp)))
  have ba : Below w.heap.size w (w.alloc (Obj.cells (P2 0 0) 25)) := (Below.refl _ _).alloc (Nat.le_refl _) _
  have kb : Blk (w.alloc (Obj.cells (P2 0 0) 25)) w.heap.size (P2 0 0) 25 := Blk.new _ _ _
  obtain ⟨R, hR⟩ : ∃ R, w.heap.size = R := ⟨_, rfl⟩
  have HRe : Hid (w.heap.size = R) := hR
  have hsz : (w.alloc (Obj.cells (P2 0 0) 25)).heap.size = R + 1 := by simp [hR]
  obtain ⟨W0, hW0⟩ : ∃ W, w.alloc (Obj.cells (P2 0 0) 25) = W := ⟨_, rfl⟩
  rw [hW0] at ba kb hsz
  rw [hR] at kb
  go_enter Try.func10, Try.ntmps10
  go_wp2_with (fail)
  refine (new_c v zs W0 (h.below ba) hok (by omega)).mono ?_
  rintro e w0 ⟨g, rfl, hd, hgl, hb0⟩
  rw [hsz] at hgl
  obtain ⟨cv, hcv⟩ : ∃ cv, v = cv := ⟨_, rfl⟩
  rw [hcv] at hd hcl ⊢
  have NEK : Hid (R ≠ g) := by show R ≠ g; omega
  have D_w0 : Hid (Dq w w0 g cv zs) := ⟨hd, belowCall ba hb0 ba.size, by rw [hR]; omega, hcl⟩
  have K_w0 : Hid (Blk w0 R (P2 0 0) 25) := kb.below hb0 kb.lt
  clear hd hgl h hok hlen hcl ba kb hb0 hsz hW0 hcv
  go_wp2_with (fail)
  refine (below_c g cv zs 400 _ D_w0.out.dr (by omega)).mono ?_
  rintro e w1 ⟨l, rfl, hl0, hl1, hl2, d1, g1⟩
  have D_w1 : Hid (Dq w w1 g cv zs) := D_w0.out.draw d1 g1
  have K_w1 : Hid (Blk w1 R (P2 0 0) 25) := K_w0.out.grown g1 (by have := NEK.out; simpa using this)
  clear d1 g1 D_w0 K_w0
  go_wp2_with (fail)
  refine (below_c g cv zs 100 _ D_w1.out.dr (by omega)).mono ?_
  rintro e w2 ⟨q, rfl, hq0, hq1, hq2, d1, g1⟩
  have D_w2 : Hid (Dq w w2 g cv zs) := D_w1.out.draw d1 g1
  have K_w2 : Hid (Blk w2 R (P2 0 0) 25) := K_w1.out.grown g1 (by have := NEK.out; simpa using this)
  clear d1 g1 D_w1 K_w1
  clear hl0 hl1 hl2 hq0 hq1 hq2
  have hgx : g < w2.heap.size := D_w2.out.dr.lt
  have hRl : R < w2.heap.size := K_w2.out.lt
  have ba : Below w2.heap.size w2 (w2.alloc (Obj.cells (P2 l q) 25)) := (Below.refl _ _).alloc (Nat.le_refl _) _
  have kb : Blk (w2.alloc (Obj.cells (P2 l q) 25)) w2.heap.size (P2 l q) 25 := Blk.new _ _ _
  obtain ⟨X3, hX3⟩ : ∃ X, w2.heap.size = X := ⟨_, rfl⟩
  obtain ⟨W3, hW3⟩ : ∃ W, w2.alloc (Obj.cells (P2 l q) 25) = W := ⟨_, rfl⟩
  rw [hW3] at ba kb
  rw [hX3] at kb hgx
  have D_W3 : Hid (Dq w W3 g cv zs) := D_w2.out.below ba
  have K_W3 : Hid (Blk W3 R (P2 0 0) 25) := K_w2.out.below ba K_w2.out.lt
  have T_W3 : Hid (Blk W3 X3 (P2 l q) 25) := kb
  clear ba kb D_w2 K_w2
  have NET : Hid (X3 ≠ g) := by show X3 ≠ g; omega
  have HRXl : Hid (R < X3) := by rw [Hid, ← hX3]; exact hRl
  have NRX : Hid (R ≠ X3) := by show R ≠ X3; have := K_W3.out.lt; rw [← hX3]; have := hRl; omega
  clear hgx
  go_wp2_with (fail)
  refine (once_c g cv zs 30 _ D_W3.out.dr (by omega)).mono ?_
  rintro e w4 ⟨r, rfl, d1, g1⟩
  have D_w4 : Hid (Dq w w4 g cv zs) := D_W3.out.draw d1 g1
  have K_w4 : Hid (Blk w4 R (P2 0 0) 25) := K_W3.out.grown g1 (by have := NEK.out; simpa using this)
  have T_w4 : Hid (Blk w4 X3 (P2 l q) 25) := T_W3.out.grown g1 (by have := NET.out; simpa using this)
  clear d1 g1 D_W3 K_W3 T_W3 hW3 hX3 hRl
  cases r with
  | false =>
    obtain ⟨C, hC⟩ : ∃ C, w4.heap.size = C := ⟨_, rfl⟩
    have HD : Hid (Dq w w4 g cv zs) := D_w4.out
    have HDd : Hid (Dq w (w4.drew) g cv zs) := D_w4.out.drew
    have HK : Hid (Blk (w4.drew) R (P2 0 0) 25) := K_w4.out
    have HT : Hid (Blk (w4.drew) X3 (P2 l q) 25) := T_w4.out
    have HSZ : Hid (C ≤ (w4.drew).heap.size) := by show C ≤ w4.heap.size; omega
    have HRC : Hid (R < C) := by rw [Hid, ← hC]; exact K_w4.out.lt
    have HGC : Hid (g < C) := by rw [Hid, ← hC]; exact D_w4.out.dr.lt
    have HRg : Hid (R ≠ g) := NEK.out
    have HXg : Hid (X3 ≠ g) := NET.out
    have HRX : Hid (X3 ≠ R) := fun e => NRX.out e.symm
    have HRW : Hid (w.heap.size ≤ R) := by rw [Hid, HRe.out]; exact Nat.le_refl _
    clear hC D_w4 K_w4 T_w4
    go_upto_region 5 with (fail)
    refine region_vals [undef, undef, undef, undef, undef, undef, undef, undef, undef, undef, undef, undef, undef, undef, undef] (SvS w C R X3 g cv zs l q) (by kernel_rfl) (by kernel_rfl) ?_ ⟨?_, ?_, ?_, ?_, ?_, ?_, ?_, ?_, ?_, ?_, ?_, ?_, ?_, ?_, ?_, trivial⟩ ?_
    · refine ⟨_, _, _, _, _, _, _, _, _, _, _, _, _, _, _, [], 0, rfl, ⟨HDd.out, fun _ => HK.out, fun e => (by cases e), HT.out, HSZ.out, ?_, ?_, ?_, ?_, ?_, ?_, ?_, ?_, ?_, ?_, ?_, ?_, ?_, ?_, ?_, ?_⟩⟩ <;> simp
    · rintro d vs W ⟨v0, v1, v2, v3, v4, v5, v6, v7, v8, v9, v10, v11, v12, v13, v14, ls, Y, rfl, H⟩ hn hd
      simp only [putAll, Act.put, List.setIfInBounds_toArray, List.set_cons_succ, List.set_cons_zero]
      have y0 := H.T.cell 0
      have y1 := H.T.cell 1
      simp at y0 y1
      have HH1 : Hid (Sv w C R X3 g cv zs l q d W v0 v1 v2 v3 v4 v5 v6 v7 v8 v9 v10 v11 v12 v13 v14 ls Y) := H
      clear H
      clear hd
      go_wp2
      have H := HH1.out
      refine ⟨rfl, [.agg (P2 l q), v1, v2, v3, v4, v5, v6, v7, v8, v9, v10, v11, v12, v13, v14], ?_, .agg (P2 l q), v1, v2, v3, v4, v5, v6, v7, v8, v9, v10, v11, v12, v13, v14, ls, Y, rfl, ⟨H.D, (by have h := H.K0; simpa [doneSet] using h), (by have h := H.K1; simpa [doneSet] using h), H.T, H.sz, (fun _ => rfl), (by have h := H.f1; simpa [doneSet] using h), (by have h := H.f3; simpa [doneSet] using h), (by have h := H.f5; simpa [doneSet] using h), (by have h := H.f7; simpa [doneSet] using h), (by have h := H.o2; simpa [doneSet] using h), (by have h := H.f4; simpa [doneSet] using h), (by have h := H.f6; simpa [doneSet] using h), (by have h := H.f9; simpa [doneSet] using h), (by have h := H.f8; simpa [doneSet] using h), (by have h := H.o8; simpa [doneSet] using h), (by have h := H.f11; simpa [doneSet] using h), (by have h := H.f12; simpa [doneSet] using h), (by have h := H.f13; simpa [doneSet] using h), (by have h := H.f14; simpa [doneSet] using h), (by have h := H.g9; simpa [doneSet] using h)⟩⟩
      simp only [putAll, Act.put, List.setIfInBounds_toArray, List.set_cons_succ, List.set_cons_zero]
    · rintro d vs W ⟨v0, v1, v2, v3, v4, v5, v6, v7, v8, v9, v10, v11, v12, v13, v14, ls, Y, rfl, H⟩ hn hd
      simp only [putAll, Act.put, List.setIfInBounds_toArray, List.set_cons_succ, List.set_cons_zero]
      have HH1 : Hid (Sv w C R X3 g cv zs l q d W v0 v1 v2 v3 v4 v5 v6 v7 v8 v9 v10 v11 v12 v13 v14 ls Y) := H
      clear H
      clear hd
      go_wp2
      have H := HH1.out
      refine ⟨rfl, [v0, .pointer (some ⟨g, 0, none⟩), v2, v3, v4, v5, v6, v7, v8, v9, v10, v11, v12, v13, v14], ?_, v0, .pointer (some ⟨g, 0, none⟩), v2, v3, v4, v5, v6, v7, v8, v9, v10, v11, v12, v13, v14, ls, Y, rfl, ⟨H.D, (by have h := H.K0; simpa [doneSet] using h), (by have h := H.K1; simpa [doneSet] using h), H.T, H.sz, (by have h := H.f0; simpa [doneSet] using h), (fun _ => rfl), (by have h := H.f3; simpa [doneSet] using h), (by have h := H.f5; simpa [doneSet] using h), (by have h := H.f7; simpa [doneSet] using h), (by have h := H.o2; simpa [doneSet] using h), (by have h := H.f4; simpa [doneSet] using h), (by have h := H.f6; simpa [doneSet] using h), (by have h := H.f9; simpa [doneSet] using h), (by have h := H.f8; simpa [doneSet] using h), (by have h := H.o8; simpa [doneSet] using h), (by have h := H.f11; simpa [doneSet] using h), (by have h := H.f12; simpa [doneSet] using h), (by have h := H.f13; simpa [doneSet] using h), (by have h := H.f14; simpa [doneSet] using h), (by have h := H.g9; simpa [doneSet] using h)⟩⟩
      simp only [putAll, Act.put, List.setIfInBounds_toArray, List.set_cons_succ, List.set_cons_zero]
    · rintro d vs W ⟨v0, v1, v2, v3, v4, v5, v6, v7, v8, v9, v10, v11, v12, v13, v14, ls, Y, rfl, H⟩ hn hd
      simp only [putAll, Act.put, List.setIfInBounds_toArray, List.set_cons_succ, List.set_cons_zero]
      have h1 : d 1 = true := hd { on := 1, ground := .data } (by simp) rfl
      obtain rfl := H.f1 h1
      have HH1 : Hid (Sv w C R X3 g cv zs l q d W v0 (.pointer (some ⟨g, 0, none⟩)) v2 v3 v4 v5 v6 v7 v8 v9 v10 v11 v12 v13 v14 ls Y) := H
      clear H
      have HHN : Hid (d 2 = false) := hn
      clear hd hn
      clear h1
      go_wp2_with (fail)
      refine (l9Any_c g cv zs W HH1.out.D.dr).mono ?_
      rintro e W3 ⟨v3', ls', rfl, ho, -, d1, g1⟩
      have HO : Hid (Og 5 tfC 32 C W3 v3' ls') := Og.mono ho HH1.out.sz
      clear ho
      have HH2 : Hid (_ ∧ True) := ⟨HH1.out.draw HRC.out HGC.out HRg.out HXg.out d1 g1, trivial⟩
      clear d1 g1 HH1
      go_wp2
      have H := HH2.out.1
      have hn := HHN.out
      refine ⟨rfl, [v0, .pointer (some ⟨g, 0, none⟩), v3', v3, v4, v5, v6, v7, v8, v9, v10, v11, v12, v13, v14], ?_, v0, .pointer (some ⟨g, 0, none⟩), v3', v3, v4, v5, v6, v7, v8, v9, v10, v11, v12, v13, v14, ls', Y, rfl, ⟨H.D, (by have h := H.K0; simpa [doneSet] using h), (by have h := H.K1; simpa [doneSet] using h), H.T, H.sz, (by have h := H.f0; simpa [doneSet] using h), (fun _ => rfl), (by have h := H.f3; simpa [doneSet] using h), (by have h := H.f5; simpa [doneSet] using h), (by have h := H.f7; simpa [doneSet] using h), (fun _ => HO.out), (by have h := H.f4; simpa [doneSet] using h), (by have h := H.f6; simpa [doneSet] using h), (by have h := H.f9; simpa [doneSet] using h), (by have h := H.f8; simpa [doneSet] using h), (by have h := H.o8; simpa [doneSet] using h), (fun e => absurd (H.f11 (by simpa [doneSet] using e)).2 (by rw [hn]; simp)), (by have h := H.f12; simpa [doneSet] using h), (by have h := H.f13; simpa [doneSet] using h), (by have h := H.f14; simpa [doneSet] using h), (by have h := H.g9; simpa [doneSet] using h)⟩⟩
      simp only [putAll, Act.put, List.setIfInBounds_toArray, List.set_cons_succ, List.set_cons_zero]
    · rintro d vs W ⟨v0, v1, v2, v3, v4, v5, v6, v7, v8, v9, v10, v11, v12, v13, v14, ls, Y, rfl, H⟩ hn hd
      simp only [putAll, Act.put, List.setIfInBounds_toArray, List.set_cons_succ, List.set_cons_zero]
      have HH1 : Hid (Sv w C R X3 g cv zs l q d W v0 v1 v2 v3 v4 v5 v6 v7 v8 v9 v10 v11 v12 v13 v14 ls Y) := H
      clear H
      clear hd
      go_wp2
      have H := HH1.out
      refine ⟨rfl, [v0, v1, v2, .pointer (some ⟨g, 0, none⟩), v4, v5, v6, v7, v8, v9, v10, v11, v12, v13, v14], ?_, v0, v1, v2, .pointer (some ⟨g, 0, none⟩), v4, v5, v6, v7, v8, v9, v10, v11, v12, v13, v14, ls, Y, rfl, ⟨H.D, (by have h := H.K0; simpa [doneSet] using h), (by have h := H.K1; simpa [doneSet] using h), H.T, H.sz, (by have h := H.f0; simpa [doneSet] using h), (by have h := H.f1; simpa [doneSet] using h), (fun _ => rfl), (by have h := H.f5; simpa [doneSet] using h), (by have h := H.f7; simpa [doneSet] using h), (by have h := H.o2; simpa [doneSet] using h), (by have h := H.f4; simpa [doneSet] using h), (by have h := H.f6; simpa [doneSet] using h), (by have h := H.f9; simpa [doneSet] using h), (by have h := H.f8; simpa [doneSet] using h), (by have h := H.o8; simpa [doneSet] using h), (by have h := H.f11; simpa [doneSet] using h), (by have h := H.f12; simpa [doneSet] using h), (by have h := H.f13; simpa [doneSet] using h), (by have h := H.f14; simpa [doneSet] using h), (by have h := H.g9; simpa [doneSet] using h)⟩⟩
      simp only [putAll, Act.put, List.setIfInBounds_toArray, List.set_cons_succ, List.set_cons_zero]
    · rintro d vs W ⟨v0, v1, v2, v3, v4, v5, v6, v7, v8, v9, v10, v11, v12, v13, v14, ls, Y, rfl, H⟩ hn hd
      simp only [putAll, Act.put, List.setIfInBounds_toArray, List.set_cons_succ, List.set_cons_zero]
      have h3 : d 3 = true := hd { on := 3, ground := .data } (by simp) rfl
      obtain rfl := H.f3 h3
      have HH1 : Hid (Sv w C R X3 g cv zs l q d W v0 v1 v2 (.pointer (some ⟨g, 0, none⟩)) v4 v5 v6 v7 v8 v9 v10 v11 v12 v13 v14 ls Y) := H
      clear H
      have HHN : Hid (d 4 = false) := hn
      clear hd hn
      clear h3
      go_wp2_with (fail)
      refine (below_c g cv zs 3 W HH1.out.D.dr (by omega)).mono ?_
      rintro e W3 ⟨z, rfl, -, -, -, d1, g1⟩
      have HH2 : Hid (_ ∧ True) := ⟨HH1.out.draw HRC.out HGC.out HRg.out HXg.out d1 g1, trivial⟩
      clear d1 g1 HH1
      go_wp2
      have H := HH2.out.1
      have hn := HHN.out
      refine ⟨rfl, [v0, v1, v2, .pointer (some ⟨g, 0, none⟩), .int .i64 z, v5, v6, v7, v8, v9, v10, v11, v12, v13, v14], ?_, v0, v1, v2, .pointer (some ⟨g, 0, none⟩), .int .i64 z, v5, v6, v7, v8, v9, v10, v11, v12, v13, v14, ls, Y, rfl, ⟨H.D, (by have h := H.K0; simpa [doneSet] using h), (by have h := H.K1; simpa [doneSet] using h), H.T, H.sz, (by have h := H.f0; simpa [doneSet] using h), (by have h := H.f1; simpa [doneSet] using h), (fun _ => rfl), (by have h := H.f5; simpa [doneSet] using h), (by have h := H.f7; simpa [doneSet] using h), (by have h := H.o2; simpa [doneSet] using h), (fun _ => ⟨z, rfl⟩), (by have h := H.f6; simpa [doneSet] using h), (by have h := H.f9; simpa [doneSet] using h), (by have h := H.f8; simpa [doneSet] using h), (by have h := H.o8; simpa [doneSet] using h), (by have h := H.f11; simpa [doneSet] using h), (fun e => absurd (H.f12 (by simpa [doneSet] using e)).2 (by rw [hn]; simp)), (by have h := H.f13; simpa [doneSet] using h), (by have h := H.f14; simpa [doneSet] using h), (by have h := H.g9; simpa [doneSet] using h)⟩⟩
      simp only [putAll, Act.put, List.setIfInBounds_toArray, List.set_cons_succ, List.set_cons_zero]
    · rintro d vs W ⟨v0, v1, v2, v3, v4, v5, v6, v7, v8, v9, v10, v11, v12, v13, v14, ls, Y, rfl, H⟩ hn hd
      simp only [putAll, Act.put, List.setIfInBounds_toArray, List.set_cons_succ, List.set_cons_zero]
      have HH1 : Hid (Sv w C R X3 g cv zs l q d W v0 v1 v2 v3 v4 v5 v6 v7 v8 v9 v10 v11 v12 v13 v14 ls Y) := H
      clear H
      clear hd
      go_wp2
      have H := HH1.out
      refine ⟨rfl, [v0, v1, v2, v3, v4, .pointer (some ⟨g, 0, none⟩), v6, v7, v8, v9, v10, v11, v12, v13, v14], ?_, v0, v1, v2, v3, v4, .pointer (some ⟨g, 0, none⟩), v6, v7, v8, v9, v10, v11, v12, v13, v14, ls, Y, rfl, ⟨H.D, (by have h := H.K0; simpa [doneSet] using h), (by have h := H.K1; simpa [doneSet] using h), H.T, H.sz, (by have h := H.f0; simpa [doneSet] using h), (by have h := H.f1; simpa [doneSet] using h), (by have h := H.f3; simpa [doneSet] using h), (fun _ => rfl), (by have h := H.f7; simpa [doneSet] using h), (by have h := H.o2; simpa [doneSet] using h), (by have h := H.f4; simpa [doneSet] using h), (by have h := H.f6; simpa [doneSet] using h), (by have h := H.f9; simpa [doneSet] using h), (by have h := H.f8; simpa [doneSet] using h), (by have h := H.o8; simpa [doneSet] using h), (by have h := H.f11; simpa [doneSet] using h), (by have h := H.f12; simpa [doneSet] using h), (by have h := H.f13; simpa [doneSet] using h), (by have h := H.f14; simpa [doneSet] using h), (by have h := H.g9; simpa [doneSet] using h)⟩⟩
      simp only [putAll, Act.put, List.setIfInBounds_toArray, List.set_cons_succ, List.set_cons_zero]
    · rintro d vs W ⟨v0, v1, v2, v3, v4, v5, v6, v7, v8, v9, v10, v11, v12, v13, v14, ls, Y, rfl, H⟩ hn hd
      simp only [putAll, Act.put, List.setIfInBounds_toArray, List.set_cons_succ, List.set_cons_zero]
      have h5 : d 5 = true := hd { on := 5, ground := .data } (by simp) rfl
      obtain rfl := H.f5 h5
      have HH1 : Hid (Sv w C R X3 g cv zs l q d W v0 v1 v2 v3 v4 (.pointer (some ⟨g, 0, none⟩)) v6 v7 v8 v9 v10 v11 v12 v13 v14 ls Y) := H
      clear H
      have HHN : Hid (d 6 = false) := hn
      clear hd hn
      clear h5
      go_wp2_with (fail)
      refine (begin_c g cv zs W HH1.out.D.dr).mono ?_
      rintro e W3 ⟨z, rfl, d1, g1⟩
      have HH2 : Hid (_ ∧ True) := ⟨HH1.out.draw HRC.out HGC.out HRg.out HXg.out d1 g1, trivial⟩
      clear d1 g1 HH1
      go_wp2
      have H := HH2.out.1
      have hn := HHN.out
      refine ⟨rfl, [v0, v1, v2, v3, v4, .pointer (some ⟨g, 0, none⟩), .int .i64 z, v7, v8, v9, v10, v11, v12, v13, v14], ?_, v0, v1, v2, v3, v4, .pointer (some ⟨g, 0, none⟩), .int .i64 z, v7, v8, v9, v10, v11, v12, v13, v14, ls, Y, rfl, ⟨H.D, (by have h := H.K0; simpa [doneSet] using h), (by have h := H.K1; simpa [doneSet] using h), H.T, H.sz, (by have h := H.f0; simpa [doneSet] using h), (by have h := H.f1; simpa [doneSet] using h), (by have h := H.f3; simpa [doneSet] using h), (fun _ => rfl), (by have h := H.f7; simpa [doneSet] using h), (by have h := H.o2; simpa [doneSet] using h), (by have h := H.f4; simpa [doneSet] using h), (fun _ => ⟨z, rfl⟩), (by have h := H.f9; simpa [doneSet] using h), (by have h := H.f8; simpa [doneSet] using h), (by have h := H.o8; simpa [doneSet] using h), (by have h := H.f11; simpa [doneSet] using h), (by have h := H.f12; simpa [doneSet] using h), (fun e => absurd (H.f13 (by simpa [doneSet] using e)).2 (by rw [hn]; simp)), (by have h := H.f14; simpa [doneSet] using h), (by have h := H.g9; simpa [doneSet] using h)⟩⟩
      simp only [putAll, Act.put, List.setIfInBounds_toArray, List.set_cons_succ, List.set_cons_zero]
    · rintro d vs W ⟨v0, v1, v2, v3, v4, v5, v6, v7, v8, v9, v10, v11, v12, v13, v14, ls, Y, rfl, H⟩ hn hd
      simp only [putAll, Act.put, List.setIfInBounds_toArray, List.set_cons_succ, List.set_cons_zero]
      have HH1 : Hid (Sv w C R X3 g cv zs l q d W v0 v1 v2 v3 v4 v5 v6 v7 v8 v9 v10 v11 v12 v13 v14 ls Y) := H
      clear H
      clear hd
      go_wp2
      have H := HH1.out
      refine ⟨rfl, [v0, v1, v2, v3, v4, v5, v6, .pointer (some ⟨g, 0, none⟩), v8, v9, v10, v11, v12, v13, v14], ?_, v0, v1, v2, v3, v4, v5, v6, .pointer (some ⟨g, 0, none⟩), v8, v9, v10, v11, v12, v13, v14, ls, Y, rfl, ⟨H.D, (by have h := H.K0; simpa [doneSet] using h), (by have h := H.K1; simpa [doneSet] using h), H.T, H.sz, (by have h := H.f0; simpa [doneSet] using h), (by have h := H.f1; simpa [doneSet] using h), (by have h := H.f3; simpa [doneSet] using h), (by have h := H.f5; simpa [doneSet] using h), (fun _ => rfl), (by have h := H.o2; simpa [doneSet] using h), (by have h := H.f4; simpa [doneSet] using h), (by have h := H.f6; simpa [doneSet] using h), (by have h := H.f9; simpa [doneSet] using h), (by have h := H.f8; simpa [doneSet] using h), (by have h := H.o8; simpa [doneSet] using h), (by have h := H.f11; simpa [doneSet] using h), (by have h := H.f12; simpa [doneSet] using h), (by have h := H.f13; simpa [doneSet] using h), (by have h := H.f14; simpa [doneSet] using h), (by have h := H.g9; simpa [doneSet] using h)⟩⟩
      simp only [putAll, Act.put, List.setIfInBounds_toArray, List.set_cons_succ, List.set_cons_zero]
    · rintro d vs W ⟨v0, v1, v2, v3, v4, v5, v6, v7, v8, v9, v10, v11, v12, v13, v14, ls, Y, rfl, H⟩ hn hd
      simp only [putAll, Act.put, List.setIfInBounds_toArray, List.set_cons_succ, List.set_cons_zero]
      have HH1 : Hid (Sv w C R X3 g cv zs l q d W v0 v1 v2 v3 v4 v5 v6 v7 v8 v9 v10 v11 v12 v13 v14 ls Y) := H
      clear H
      have HHN : Hid (d 8 = false) := hn
      clear hd hn
      go_wp2
      have hn := HHN.out
      have H0 := HH1.out
      have H := HH1.out.below ((Below.refl _ W).alloc (Nat.le_refl _) (.cells #[.int .i64 1, .int .i64 30, .int .i64 100, .int .i64 600, .int .i64 3000, .int .i64 86400, .int .i64 86401, .int .i64 0, .int .i64 1000] 3))
      refine ⟨rfl, [v0, v1, v2, v3, v4, v5, v6, v7, .slice (some ⟨W.heap.size, 0, none⟩) 9 9, v9, v10, v11, v12, v13, v14], ?_, v0, v1, v2, v3, v4, v5, v6, v7, .slice (some ⟨W.heap.size, 0, none⟩) 9 9, v9, v10, v11, v12, v13, v14, ls, W.heap.size, rfl, ⟨H.D, (by have h := H.K0; simpa [doneSet] using h), (by have h := H.K1; simpa [doneSet] using h), H.T, H.sz, (by have h := H.f0; simpa [doneSet] using h), (by have h := H.f1; simpa [doneSet] using h), (by have h := H.f3; simpa [doneSet] using h), (by have h := H.f5; simpa [doneSet] using h), (by have h := H.f7; simpa [doneSet] using h), (by have h := H.o2; simpa [doneSet] using h), (by have h := H.f4; simpa [doneSet] using h), (by have h := H.f6; simpa [doneSet] using h), (by have h := H.f9; simpa [doneSet] using h), (fun _ => ⟨rfl, H0.sz⟩), (fun _ _ => Rd.lit W [1, 30, 100, 600, 3000, 86400, 86401, 0, 1000] (by decide)), (by have h := H.f11; simpa [doneSet] using h), (by have h := H.f12; simpa [doneSet] using h), (by have h := H.f13; simpa [doneSet] using h), (by have h := H.f14; simpa [doneSet] using h), (fun _ => by simp [doneSet])⟩⟩
      simp only [putAll, Act.put, List.setIfInBounds_toArray, List.set_cons_succ, List.set_cons_zero]
    · rintro d vs W ⟨v0, v1, v2, v3, v4, v5, v6, v7, v8, v9, v10, v11, v12, v13, v14, ls, Y, rfl, H⟩ hn hd
      simp only [putAll, Act.put, List.setIfInBounds_toArray, List.set_cons_succ, List.set_cons_zero]
      have h7 : d 7 = true := hd { on := 7, ground := .data } (by simp) rfl
      have h8 : d 8 = true := hd { on := 8, ground := .data } (by simp) rfl
      obtain rfl := H.f7 h7
      obtain ⟨hv8, hY⟩ := H.f8 h8
      subst hv8
      have HR8 : Hid (Rd .i64 W (.slice (some ⟨Y, 0, none⟩) 9 9) [1, 30, 100, 600, 3000, 86400, 86401, 0, 1000] ∧ C ≤ Y) := ⟨H.o8 h8 hn, hY⟩
      have HE : Hid (d 8 = true) := h8
      have HH1 : Hid (Sv w C R X3 g cv zs l q d W v0 v1 v2 v3 v4 v5 v6 (.pointer (some ⟨g, 0, none⟩)) (.slice (some ⟨Y, 0, none⟩) 9 9) v9 v10 v11 v12 v13 v14 ls Y) := H
      clear H
      have HHN : Hid (d 9 = false) := hn
      clear hd hn
      clear h7 h8 hY
      go_wp2_with (fail)
      refine (pickInt_c g cv zs (.slice (some ⟨Y, 0, none⟩) 9 9) [1, 30, 100, 600, 3000, 86400, 86401, 0, 1000] W HH1.out.D.dr HR8.out.1 (.inr (by have := HR8.out.2; have := HGC.out; simp [Value.ownBlock]; omega)) (by decide) (by decide)).mono ?_
      rintro e W3 ⟨z, rfl, d1, g1⟩
      have HH2 : Hid (_ ∧ True) := ⟨HH1.out.draw HRC.out HGC.out HRg.out HXg.out d1 g1, trivial⟩
      clear d1 g1 HH1
      go_wp2
      have H := HH2.out.1
      have hn := HHN.out
      have h8 := HE.out
      refine ⟨rfl, [v0, v1, v2, v3, v4, v5, v6, .pointer (some ⟨g, 0, none⟩), .slice (some ⟨Y, 0, none⟩) 9 9, .int .i64 z, v10, v11, v12, v13, v14], ?_, v0, v1, v2, v3, v4, v5, v6, .pointer (some ⟨g, 0, none⟩), .slice (some ⟨Y, 0, none⟩) 9 9, .int .i64 z, v10, v11, v12, v13, v14, ls, Y, rfl, ⟨H.D, (by have h := H.K0; simpa [doneSet] using h), (by have h := H.K1; simpa [doneSet] using h), H.T, H.sz, (by have h := H.f0; simpa [doneSet] using h), (by have h := H.f1; simpa [doneSet] using h), (by have h := H.f3; simpa [doneSet] using h), (by have h := H.f5; simpa [doneSet] using h), (fun _ => rfl), (by have h := H.o2; simpa [doneSet] using h), (by have h := H.f4; simpa [doneSet] using h), (by have h := H.f6; simpa [doneSet] using h), (fun _ => ⟨z, rfl⟩), (fun _ => ⟨rfl, HR8.out.2⟩), (fun _ e => by simp [doneSet] at e), (by have h := H.f11; simpa [doneSet] using h), (by have h := H.f12; simpa [doneSet] using h), (by have h := H.f13; simpa [doneSet] using h), (fun e => absurd (H.f14 (by simpa [doneSet] using e)).2 (by rw [hn]; simp)), (fun _ => by simpa [doneSet] using h8)⟩⟩
      simp only [putAll, Act.put, List.setIfInBounds_toArray, List.set_cons_succ, List.set_cons_zero]
    · rintro d vs W ⟨v0, v1, v2, v3, v4, v5, v6, v7, v8, v9, v10, v11, v12, v13, v14, ls, Y, rfl, H⟩ hn hd
      simp only [putAll, Act.put, List.setIfInBounds_toArray, List.set_cons_succ, List.set_cons_zero]
      have h0 : d 0 = true := hd { on := 0, ground := .data } (by simp) rfl
      obtain rfl := H.f0 h0
      have hb := H.K0 hn
      have e0 := hb.cell 0
      have u0' := hb.frozen 0
      have e1 := hb.cell 1
      have u1' := hb.frozen 1
      simp at e0 e1
      have HH1 : Hid (Sv w C R X3 g cv zs l q d W (.agg (P2 l q)) v1 v2 v3 v4 v5 v6 v7 v8 v9 v10 v11 v12 v13 v14 ls Y) := H
      clear H
      have HHN : Hid (d 10 = false) := hn
      clear hd hn
      clear h0 hb
      go_wp2
      have hn := HHN.out
      have H := HH1.out
      have gf : W.grownBy ((W.setCell ⟨R, 0, none⟩ (.int .i64 l)).setCell ⟨R, 1, none⟩ (.int .i64 q)) (some R) := grown_trans (grown_set' _ _ _ _) (grown_set' _ _ _ _)
      refine ⟨rfl, [.agg (P2 l q), v1, v2, v3, v4, v5, v6, v7, v8, v9, undef, v11, v12, v13, v14], ?_, .agg (P2 l q), v1, v2, v3, v4, v5, v6, v7, v8, v9, undef, v11, v12, v13, v14, ls, Y, rfl, ⟨(H.D.app HRW.out HRg.out gf), (fun e => by simp [doneSet] at e), (fun _ => ((H.K0 hn).set 0 _).set 1 _), (H.T.grown gf (by have := HRX.out; simpa using this)), (by simpa using H.sz), (fun _ => rfl), (by have h := H.f1; simpa [doneSet] using h), (by have h := H.f3; simpa [doneSet] using h), (by have h := H.f5; simpa [doneSet] using h), (by have h := H.f7; simpa [doneSet] using h), (fun e => (H.o2 (by simpa [doneSet] using e)).draw gf HRC.out), (by have h := H.f4; simpa [doneSet] using h), (by have h := H.f6; simpa [doneSet] using h), (by have h := H.f9; simpa [doneSet] using h), (by have h := H.f8; simpa [doneSet] using h), (fun e e2 => (H.o8 (by simpa [doneSet] using e) (by simpa [doneSet] using e2)).gone (H.f8 (by simpa [doneSet] using e)).1 (by have := (H.f8 (by simpa [doneSet] using e)).2; have := HRC.out; omega) gf), (by have h := H.f11; simpa [doneSet] using h), (by have h := H.f12; simpa [doneSet] using h), (by have h := H.f13; simpa [doneSet] using h), (by have h := H.f14; simpa [doneSet] using h), (by have h := H.g9; simpa [doneSet] using h)⟩⟩
      simp only [putAll, Act.put, List.setIfInBounds_toArray, List.set_cons_succ, List.set_cons_zero]
    · rintro d vs W ⟨v0, v1, v2, v3, v4, v5, v6, v7, v8, v9, v10, v11, v12, v13, v14, ls, Y, rfl, H⟩ hn hd
      simp only [putAll, Act.put, List.setIfInBounds_toArray, List.set_cons_succ, List.set_cons_zero]
      have h2 : d 2 = true := hd { on := 2, ground := .data } (by simp) rfl
      have HH1 : Hid (Sv w C R X3 g cv zs l q d W v0 v1 v2 v3 v4 v5 v6 v7 v8 v9 v10 v11 v12 v13 v14 ls Y) := H
      clear H
      clear hd
      have HE : Hid (d 2 = true) := h2
      clear h2
      go_wp2
      have H := HH1.out
      have h2 := HE.out
      refine ⟨rfl, [v0, v1, v2, v3, v4, v5, v6, v7, v8, v9, v10, v2, v12, v13, v14], ?_, v0, v1, v2, v3, v4, v5, v6, v7, v8, v9, v10, v2, v12, v13, v14, ls, Y, rfl, ⟨H.D, (by have h := H.K0; simpa [doneSet] using h), (by have h := H.K1; simpa [doneSet] using h), H.T, H.sz, (by have h := H.f0; simpa [doneSet] using h), (by have h := H.f1; simpa [doneSet] using h), (by have h := H.f3; simpa [doneSet] using h), (by have h := H.f5; simpa [doneSet] using h), (by have h := H.f7; simpa [doneSet] using h), (by have h := H.o2; simpa [doneSet] using h), (by have h := H.f4; simpa [doneSet] using h), (by have h := H.f6; simpa [doneSet] using h), (by have h := H.f9; simpa [doneSet] using h), (by have h := H.f8; simpa [doneSet] using h), (by have h := H.o8; simpa [doneSet] using h), (fun _ => ⟨rfl, by simpa [doneSet] using h2⟩), (by have h := H.f12; simpa [doneSet] using h), (by have h := H.f13; simpa [doneSet] using h), (by have h := H.f14; simpa [doneSet] using h), (by have h := H.g9; simpa [doneSet] using h)⟩⟩
      simp only [putAll, Act.put, List.setIfInBounds_toArray, List.set_cons_succ, List.set_cons_zero]
    · rintro d vs W ⟨v0, v1, v2, v3, v4, v5, v6, v7, v8, v9, v10, v11, v12, v13, v14, ls, Y, rfl, H⟩ hn hd
      simp only [putAll, Act.put, List.setIfInBounds_toArray, List.set_cons_succ, List.set_cons_zero]
      have h4 : d 4 = true := hd { on := 4, ground := .data } (by simp) rfl
      have HH1 : Hid (Sv w C R X3 g cv zs l q d W v0 v1 v2 v3 v4 v5 v6 v7 v8 v9 v10 v11 v12 v13 v14 ls Y) := H
      clear H
      clear hd
      have HE : Hid (d 4 = true) := h4
      clear h4
      go_wp2
      have H := HH1.out
      have h4 := HE.out
      refine ⟨rfl, [v0, v1, v2, v3, v4, v5, v6, v7, v8, v9, v10, v11, v4, v13, v14], ?_, v0, v1, v2, v3, v4, v5, v6, v7, v8, v9, v10, v11, v4, v13, v14, ls, Y, rfl, ⟨H.D, (by have h := H.K0; simpa [doneSet] using h), (by have h := H.K1; simpa [doneSet] using h), H.T, H.sz, (by have h := H.f0; simpa [doneSet] using h), (by have h := H.f1; simpa [doneSet] using h), (by have h := H.f3; simpa [doneSet] using h), (by have h := H.f5; simpa [doneSet] using h), (by have h := H.f7; simpa [doneSet] using h), (by have h := H.o2; simpa [doneSet] using h), (by have h := H.f4; simpa [doneSet] using h), (by have h := H.f6; simpa [doneSet] using h), (by have h := H.f9; simpa [doneSet] using h), (by have h := H.f8; simpa [doneSet] using h), (by have h := H.o8; simpa [doneSet] using h), (by have h := H.f11; simpa [doneSet] using h), (fun _ => ⟨rfl, by simpa [doneSet] using h4⟩), (by have h := H.f13; simpa [doneSet] using h), (by have h := H.f14; simpa [doneSet] using h), (by have h := H.g9; simpa [doneSet] using h)⟩⟩
      simp only [putAll, Act.put, List.setIfInBounds_toArray, List.set_cons_succ, List.set_cons_zero]
    · rintro d vs W ⟨v0, v1, v2, v3, v4, v5, v6, v7, v8, v9, v10, v11, v12, v13, v14, ls, Y, rfl, H⟩ hn hd
      simp only [putAll, Act.put, List.setIfInBounds_toArray, List.set_cons_succ, List.set_cons_zero]
      have h6 : d 6 = true := hd { on := 6, ground := .data } (by simp) rfl
      have HH1 : Hid (Sv w C R X3 g cv zs l q d W v0 v1 v2 v3 v4 v5 v6 v7 v8 v9 v10 v11 v12 v13 v14 ls Y) := H
      clear H
      clear hd
      have HE : Hid (d 6 = true) := h6
      clear h6
      go_wp2
      have H := HH1.out
      have h6 := HE.out
      refine ⟨rfl, [v0, v1, v2, v3, v4, v5, v6, v7, v8, v9, v10, v11, v12, v6, v14], ?_, v0, v1, v2, v3, v4, v5, v6, v7, v8, v9, v10, v11, v12, v6, v14, ls, Y, rfl, ⟨H.D, (by have h := H.K0; simpa [doneSet] using h), (by have h := H.K1; simpa [doneSet] using h), H.T, H.sz, (by have h := H.f0; simpa [doneSet] using h), (by have h := H.f1; simpa [doneSet] using h), (by have h := H.f3; simpa [doneSet] using h), (by have h := H.f5; simpa [doneSet] using h), (by have h := H.f7; simpa [doneSet] using h), (by have h := H.o2; simpa [doneSet] using h), (by have h := H.f4; simpa [doneSet] using h), (by have h := H.f6; simpa [doneSet] using h), (by have h := H.f9; simpa [doneSet] using h), (by have h := H.f8; simpa [doneSet] using h), (by have h := H.o8; simpa [doneSet] using h), (by have h := H.f11; simpa [doneSet] using h), (by have h := H.f12; simpa [doneSet] using h), (fun _ => ⟨rfl, by simpa [doneSet] using h6⟩), (by have h := H.f14; simpa [doneSet] using h), (by have h := H.g9; simpa [doneSet] using h)⟩⟩
      simp only [putAll, Act.put, List.setIfInBounds_toArray, List.set_cons_succ, List.set_cons_zero]
    · rintro d vs W ⟨v0, v1, v2, v3, v4, v5, v6, v7, v8, v9, v10, v11, v12, v13, v14, ls, Y, rfl, H⟩ hn hd
      simp only [putAll, Act.put, List.setIfInBounds_toArray, List.set_cons_succ, List.set_cons_zero]
      have h9 : d 9 = true := hd { on := 9, ground := .data } (by simp) rfl
      have HH1 : Hid (Sv w C R X3 g cv zs l q d W v0 v1 v2 v3 v4 v5 v6 v7 v8 v9 v10 v11 v12 v13 v14 ls Y) := H
      clear H
      clear hd
      have HE : Hid (d 9 = true) := h9
      clear h9
      go_wp2
      have H := HH1.out
      have h9 := HE.out
      refine ⟨rfl, [v0, v1, v2, v3, v4, v5, v6, v7, v8, v9, v10, v11, v12, v13, v9], ?_, v0, v1, v2, v3, v4, v5, v6, v7, v8, v9, v10, v11, v12, v13, v9, ls, Y, rfl, ⟨H.D, (by have h := H.K0; simpa [doneSet] using h), (by have h := H.K1; simpa [doneSet] using h), H.T, H.sz, (by have h := H.f0; simpa [doneSet] using h), (by have h := H.f1; simpa [doneSet] using h), (by have h := H.f3; simpa [doneSet] using h), (by have h := H.f5; simpa [doneSet] using h), (by have h := H.f7; simpa [doneSet] using h), (by have h := H.o2; simpa [doneSet] using h), (by have h := H.f4; simpa [doneSet] using h), (by have h := H.f6; simpa [doneSet] using h), (by have h := H.f9; simpa [doneSet] using h), (by have h := H.f8; simpa [doneSet] using h), (by have h := H.o8; simpa [doneSet] using h), (by have h := H.f11; simpa [doneSet] using h), (by have h := H.f12; simpa [doneSet] using h), (by have h := H.f13; simpa [doneSet] using h), (fun _ => ⟨rfl, by simpa [doneSet] using h9⟩), (by have h := H.g9; simpa [doneSet] using h)⟩⟩
      simp only [putAll, Act.put, List.setIfInBounds_toArray, List.set_cons_succ, List.set_cons_zero]
    rintro d vs W9 ⟨v0, v1, v2, v3, v4, v5, v6, v7, v8, v9, v10, v11, v12, v13, v14, ls, Y, rfl, H⟩ hn
    obtain ⟨e11, -⟩ := H.f11 (hn 11 (by decide))
    obtain ⟨e12, -⟩ := H.f12 (hn 12 (by decide))
    obtain ⟨e13, -⟩ := H.f13 (hn 13 (by decide))
    obtain ⟨e14, -⟩ := H.f14 (hn 14 (by decide))
    obtain ⟨z, hz⟩ := H.f4 (hn 4 (by decide))
    obtain ⟨b, hb⟩ := H.f6 (hn 6 (by decide))
    obtain ⟨m, hm⟩ := H.f9 (hn 9 (by decide))
    have HO : Hid (Og 5 tfC 32 C W9 v2 ls) := H.o2 (hn 2 (by decide))
    have HK9 : Hid (Blk W9 R (P2 l q) 25) := H.K1 (hn 10 (by decide))
    have HB9 : Hid (Below w.heap.size w W9) := H.D.bel
    subst e11 e12 e13 e14
    rw [hz, hb, hm]
    simp only [putAll, Act.put, List.setIfInBounds_toArray, List.set_cons_succ, List.set_cons_zero]
    clear H hn HD HDd HK HT HSZ HRC HGC HRg HXg HRX
    go_wp2
    exact bodyPost_ret (v := .tuple #[.agg (P2 l q), v11, .int .i64 z, .int .i64 b, .int .i64 m]) (results_P5 rfl _ _ _ _ _ _ _ _ _ rfl rfl rfl rfl rfl HK9.out) rfl ⟨_, _, _, ls, _, _, _, rfl, HO.out.rd tfC_len, HB9.out⟩
  | true =>
    have ba : Below w4.heap.size w4 (w4.alloc (Obj.cells #[.int .i64 (-1), .int .i64 1000000000, .int .i64 1000000001] 3)) := (Below.refl _ _).alloc (Nat.le_refl _) _
    have lr : Rd .i64 (w4.alloc (Obj.cells #[.int .i64 (-1), .int .i64 1000000000, .int .i64 1000000001] 3)) (.slice (some ⟨w4.heap.size, 0, none⟩) 3 3) [-1, 1000000000, 1000000001] := Rd.lit w4 [-1, 1000000000, 1000000001] (by decide)
    have hgl : g < w4.heap.size := D_w4.out.dr.lt
    obtain ⟨W5, hW5⟩ : ∃ W, w4.alloc (Obj.cells #[.int .i64 (-1), .int .i64 1000000000, .int .i64 1000000001] 3) = W := ⟨_, rfl⟩
    obtain ⟨qW5, hqW5⟩ : ∃ X, w4.heap.size = X := ⟨_, rfl⟩
    rw [hW5] at ba lr
    rw [hqW5] at lr hgl
    have LR : Hid (Rd .i64 W5 (.slice (some ⟨qW5, 0, none⟩) 3 3) [-1, 1000000000, 1000000001]) := lr
    have LN : Hid (g < qW5) := hgl
    have D_W5 : Hid (Dq w W5 g cv zs) := D_w4.out.below ba
    have K_W5 : Hid (Blk W5 R (P2 0 0) 25) := K_w4.out.below ba K_w4.out.lt
    have T_W5 : Hid (Blk W5 X3 (P2 l q) 25) := T_w4.out.below ba T_w4.out.lt
    clear ba lr hgl D_w4 K_w4 T_w4
    go_wp2_with (fail)
    refine (pickInt_c g cv zs (.slice (some ⟨qW5, 0, none⟩) 3 3) [-1, 1000000000, 1000000001] _ D_W5.out.dr LR.out (.inr (by have := LN.out; simp [Value.ownBlock]; omega)) (by decide) (by decide)).mono ?_
    rintro e w6 ⟨y, rfl, d1, g1⟩
    have D_w6 : Hid (Dq w w6 g cv zs) := D_W5.out.draw d1 g1
    have K_w6 : Hid (Blk w6 R (P2 0 0) 25) := K_W5.out.grown g1 (by have := NEK.out; simpa using this)
    have T_w6 : Hid (Blk w6 X3 (P2 l q) 25) := T_W5.out.grown g1 (by have := NET.out; simpa using this)
    clear d1 g1 D_W5 K_W5 T_W5 hW5 hqW5 LR LN
    have t0 := T_w6.out.cell 0
    have tf0 := T_w6.out.frozen 0
    simp at t0
    have gs : w6.grownBy (w6.setCell ⟨X3, 0, none⟩ (.int .i64 y)) (some X3) := grown_set' _ _ _ _
    have D_WW : Hid (Dq w (w6.setCell ⟨X3, 0, none⟩ (.int .i64 y)) g cv zs) := D_w6.out.app (by rw [HRe.out]; have := NRX.out; have := K_w6.out.lt; have := HRXl.out; omega) NET.out gs
    have K_WW : Hid (Blk (w6.setCell ⟨X3, 0, none⟩ (.int .i64 y)) R (P2 0 0) 25) := K_w6.out.grown gs (by have := NRX.out; simpa using this)
    have T_WW : Hid (Blk (w6.setCell ⟨X3, 0, none⟩ (.int .i64 y)) X3 (P2 y q) 25) := T_w6.out.set 0 _
    obtain ⟨WW, hWW⟩ : ∃ W, w6.setCell ⟨X3, 0, none⟩ (.int .i64 y) = W := ⟨_, rfl⟩
    rw [hWW] at D_WW K_WW T_WW
    clear gs D_w6 K_w6 T_w6
    obtain ⟨C, hC⟩ : ∃ C, WW.heap.size = C := ⟨_, rfl⟩
    have HD : Hid (Dq w WW g cv zs) := D_WW.out
    have HDd : Hid (Dq w (WW.drew) g cv zs) := D_WW.out.drew
    have HK : Hid (Blk (WW.drew) R (P2 0 0) 25) := K_WW.out
    have HT : Hid (Blk (WW.drew) X3 (P2 y q) 25) := T_WW.out
    have HSZ : Hid (C ≤ (WW.drew).heap.size) := by show C ≤ WW.heap.size; omega
    have HRC : Hid (R < C) := by rw [Hid, ← hC]; exact K_WW.out.lt
    have HGC : Hid (g < C) := by rw [Hid, ← hC]; exact D_WW.out.dr.lt
    have HRg : Hid (R ≠ g) := NEK.out
    have HXg : Hid (X3 ≠ g) := NET.out
    have HRX : Hid (X3 ≠ R) := fun e => NRX.out e.symm
    have HRW : Hid (w.heap.size ≤ R) := by rw [Hid, HRe.out]; exact Nat.le_refl _
    clear hC D_WW K_WW T_WW
    go_upto_region 5 with (fail)
    clear hWW t0 tf0
    refine region_vals [undef, undef, undef, undef, undef, undef, undef, undef, undef, undef, undef, undef, undef, undef, undef] (SvS w C R X3 g cv zs y q) (by kernel_rfl) (by kernel_rfl) ?_ ⟨?_, ?_, ?_, ?_, ?_, ?_, ?_, ?_, ?_, ?_, ?_, ?_, ?_, ?_, ?_, trivial⟩ ?_
    · refine ⟨_, _, _, _, _, _, _, _, _, _, _, _, _, _, _, [], 0, rfl, ⟨HDd.out, fun _ => HK.out, fun e => (by cases e), HT.out, HSZ.out, ?_, ?_, ?_, ?_, ?_, ?_, ?_, ?_, ?_, ?_, ?_, ?_, ?_, ?_, ?_, ?_⟩⟩ <;> simp
    · rintro d vs W ⟨v0, v1, v2, v3, v4, v5, v6, v7, v8, v9, v10, v11, v12, v13, v14, ls, Y, rfl, H⟩ hn hd
      simp only [putAll, Act.put, List.setIfInBounds_toArray, List.set_cons_succ, List.set_cons_zero]
      have y0 := H.T.cell 0
      have y1 := H.T.cell 1
      simp at y0 y1
      have HH1 : Hid (Sv w C R X3 g cv zs y q d W v0 v1 v2 v3 v4 v5 v6 v7 v8 v9 v10 v11 v12 v13 v14 ls Y) := H
      clear H
      clear hd
      go_wp2
      have H := HH1.out
      refine ⟨rfl, [.agg (P2 y q), v1, v2, v3, v4, v5, v6, v7, v8, v9, v10, v11, v12, v13, v14], ?_, .agg (P2 y q), v1, v2, v3, v4, v5, v6, v7, v8, v9, v10, v11, v12, v13, v14, ls, Y, rfl, ⟨H.D, (by have h := H.K0; simpa [doneSet] using h), (by have h := H.K1; simpa [doneSet] using h), H.T, H.sz, (fun _ => rfl), (by have h := H.f1; simpa [doneSet] using h), (by have h := H.f3; simpa [doneSet] using h), (by have h := H.f5; simpa [doneSet] using h), (by have h := H.f7; simpa [doneSet] using h), (by have h := H.o2; simpa [doneSet] using h), (by have h := H.f4; simpa [doneSet] using h), (by have h := H.f6; simpa [doneSet] using h), (by have h := H.f9; simpa [doneSet] using h), (by have h := H.f8; simpa [doneSet] using h), (by have h := H.o8; simpa [doneSet] using h), (by have h := H.f11; simpa [doneSet] using h), (by have h := H.f12; simpa [doneSet] using h), (by have h := H.f13; simpa [doneSet] using h), (by have h := H.f14; simpa [doneSet] using h), (by have h := H.g9; simpa [doneSet] using h)⟩⟩
      simp only [putAll, Act.put, List.setIfInBounds_toArray, List.set_cons_succ, List.set_cons_zero]
    · rintro d vs W ⟨v0, v1, v2, v3, v4, v5, v6, v7, v8, v9, v10, v11, v12, v13, v14, ls, Y, rfl, H⟩ hn hd
      simp only [putAll, Act.put, List.setIfInBounds_toArray, List.set_cons_succ, List.set_cons_zero]
      have HH1 : Hid (Sv w C R X3 g cv zs y q d W v0 v1 v2 v3 v4 v5 v6 v7 v8 v9 v10 v11 v12 v13 v14 ls Y) := H
      clear H
      clear hd
      go_wp2
      have H := HH1.out
      refine ⟨rfl, [v0, .pointer (some ⟨g, 0, none⟩), v2, v3, v4, v5, v6, v7, v8, v9, v10, v11, v12, v13, v14], ?_, v0, .pointer (some ⟨g, 0, none⟩), v2, v3, v4, v5, v6, v7, v8, v9, v10, v11, v12, v13, v14, ls, Y, rfl, ⟨H.D, (by have h := H.K0; simpa [doneSet] using h), (by have h := H.K1; simpa [doneSet] using h), H.T, H.sz, (by have h := H.f0; simpa [doneSet] using h), (fun _ => rfl), (by have h := H.f3; simpa [doneSet] using h), (by have h := H.f5; simpa [doneSet] using h), (by have h := H.f7; simpa [doneSet] using h), (by have h := H.o2; simpa [doneSet] using h), (by have h := H.f4; simpa [doneSet] using h), (by have h := H.f6; simpa [doneSet] using h), (by have h := H.f9; simpa [doneSet] using h), (by have h := H.f8; simpa [doneSet] using h), (by have h := H.o8; simpa [doneSet] using h), (by have h := H.f11; simpa [doneSet] using h), (by have h := H.f12; simpa [doneSet] using h), (by have h := H.f13; simpa [doneSet] using h), (by have h := H.f14; simpa [doneSet] using h), (by have h := H.g9; simpa [doneSet] using h)⟩⟩
      simp only [putAll, Act.put, List.setIfInBounds_toArray, List.set_cons_succ, List.set_cons_zero]
    · rintro d vs W ⟨v0, v1, v2, v3, v4, v5, v6, v7, v8, v9, v10, v11, v12, v13, v14, ls, Y, rfl, H⟩ hn hd
      simp only [putAll, Act.put, List.setIfInBounds_toArray, List.set_cons_succ, List.set_cons_zero]
      have h1 : d 1 = true := hd { on := 1, ground := .data } (by simp) rfl
      obtain rfl := H.f1 h1
      have HH1 : Hid (Sv w C R X3 g cv zs y q d W v0 (.pointer (some ⟨g, 0, none⟩)) v2 v3 v4 v5 v6 v7 v8 v9 v10 v11 v12 v13 v14 ls Y) := H
      clear H
      have HHN : Hid (d 2 = false) := hn
      clear hd hn
      clear h1
      go_wp2_with (fail)
      refine (l9Any_c g cv zs W HH1.out.D.dr).mono ?_
      rintro e W3 ⟨v3', ls', rfl, ho, -, d1, g1⟩
      have HO : Hid (Og 5 tfC 32 C W3 v3' ls') := Og.mono ho HH1.out.sz
      clear ho
      have HH2 : Hid (_ ∧ True) := ⟨HH1.out.draw HRC.out HGC.out HRg.out HXg.out d1 g1, trivial⟩
      clear d1 g1 HH1
      go_wp2
      have H := HH2.out.1
      have hn := HHN.out
      refine ⟨rfl, [v0, .pointer (some ⟨g, 0, none⟩), v3', v3, v4, v5, v6, v7, v8, v9, v10, v11, v12, v13, v14], ?_, v0, .pointer (some ⟨g, 0, none⟩), v3', v3, v4, v5, v6, v7, v8, v9, v10, v11, v12, v13, v14, ls', Y, rfl, ⟨H.D, (by have h := H.K0; simpa [doneSet] using h), (by have h := H.K1; simpa [doneSet] using h), H.T, H.sz, (by have h := H.f0; simpa [doneSet] using h), (fun _ => rfl), (by have h := H.f3; simpa [doneSet] using h), (by have h := H.f5; simpa [doneSet] using h), (by have h := H.f7; simpa [doneSet] using h), (fun _ => HO.out), (by have h := H.f4; simpa [doneSet] using h), (by have h := H.f6; simpa [doneSet] using h), (by have h := H.f9; simpa [doneSet] using h), (by have h := H.f8; simpa [doneSet] using h), (by have h := H.o8; simpa [doneSet] using h), (fun e => absurd (H.f11 (by simpa [doneSet] using e)).2 (by rw [hn]; simp)), (by have h := H.f12; simpa [doneSet] using h), (by have h := H.f13; simpa [doneSet] using h), (by have h := H.f14; simpa [doneSet] using h), (by have h := H.g9; simpa [doneSet] using h)⟩⟩
      simp only [putAll, Act.put, List.setIfInBounds_toArray, List.set_cons_succ, List.set_cons_zero]
    · rintro d vs W ⟨v0, v1, v2, v3, v4, v5, v6, v7, v8, v9, v10, v11, v12, v13, v14, ls, Y, rfl, H⟩ hn hd
      simp only [putAll, Act.put, List.setIfInBounds_toArray, List.set_cons_succ, List.set_cons_zero]
      have HH1 : Hid (Sv w C R X3 g cv zs y q d W v0 v1 v2 v3 v4 v5 v6 v7 v8 v9 v10 v11 v12 v13 v14 ls Y) := H
      clear H
      clear hd
      go_wp2
      have H := HH1.out
      refine ⟨rfl, [v0, v1, v2, .pointer (some ⟨g, 0, none⟩), v4, v5, v6, v7, v8, v9, v10, v11, v12, v13, v14], ?_, v0, v1, v2, .pointer (some ⟨g, 0, none⟩), v4, v5, v6, v7, v8, v9, v10, v11, v12, v13, v14, ls, Y, rfl, ⟨H.D, (by have h := H.K0; simpa [doneSet] using h), (by have h := H.K1; simpa [doneSet] using h), H.T, H.sz, (by have h := H.f0; simpa [doneSet] using h), (by have h := H.f1; simpa [doneSet] using h), (fun _ => rfl), (by have h := H.f5; simpa [doneSet] using h), (by have h := H.f7; simpa [doneSet] using h), (by have h := H.o2; simpa [doneSet] using h), (by have h := H.f4; simpa [doneSet] using h), (by have h := H.f6; simpa [doneSet] using h), (by have h := H.f9; simpa [doneSet] using h), (by have h := H.f8; simpa [doneSet] using h), (by have h := H.o8; simpa [doneSet] using h), (by have h := H.f11; simpa [doneSet] using h), (by have h := H.f12; simpa [doneSet] using h), (by have h := H.f13; simpa [doneSet] using h), (by have h := H.f14; simpa [doneSet] using h), (by have h := H.g9; simpa [doneSet] using h)⟩⟩
      simp only [putAll, Act.put, List.setIfInBounds_toArray, List.set_cons_succ, List.set_cons_zero]
    · rintro d vs W ⟨v0, v1, v2, v3, v4, v5, v6, v7, v8, v9, v10, v11, v12, v13, v14, ls, Y, rfl, H⟩ hn hd
      simp only [putAll, Act.put, List.setIfInBounds_toArray, List.set_cons_succ, List.set_cons_zero]
      have h3 : d 3 = true := hd { on := 3, ground := .data } (by simp) rfl
      obtain rfl := H.f3 h3
      have HH1 : Hid (Sv w C R X3 g cv zs y q d W v0 v1 v2 (.pointer (some ⟨g, 0, none⟩)) v4 v5 v6 v7 v8 v9 v10 v11 v12 v13 v14 ls Y) := H
      clear H
      have HHN : Hid (d 4 = false) := hn
      clear hd hn
      clear h3
      go_wp2_with (fail)
      refine (below_c g cv zs 3 W HH1.out.D.dr (by omega)).mono ?_
      rintro e W3 ⟨z, rfl, -, -, -, d1, g1⟩
      have HH2 : Hid (_ ∧ True) := ⟨HH1.out.draw HRC.out HGC.out HRg.out HXg.out d1 g1, trivial⟩
      clear d1 g1 HH1
      go_wp2
      have H := HH2.out.1
      have hn := HHN.out
      refine ⟨rfl, [v0, v1, v2, .pointer (some ⟨g, 0, none⟩), .int .i64 z, v5, v6, v7, v8, v9, v10, v11, v12, v13, v14], ?_, v0, v1, v2, .pointer (some ⟨g, 0, none⟩), .int .i64 z, v5, v6, v7, v8, v9, v10, v11, v12, v13, v14, ls, Y, rfl, ⟨H.D, (by have h := H.K0; simpa [doneSet] using h), (by have h := H.K1; simpa [doneSet] using h), H.T, H.sz, (by have h := H.f0; simpa [doneSet] using h), (by have h := H.f1; simpa [doneSet] using h), (fun _ => rfl), (by have h := H.f5; simpa [doneSet] using h), (by have h := H.f7; simpa [doneSet] using h), (by have h := H.o2; simpa [doneSet] using h), (fun _ => ⟨z, rfl⟩), (by have h := H.f6; simpa [doneSet] using h), (by have h := H.f9; simpa [doneSet] using h), (by have h := H.f8; simpa [doneSet] using h), (by have h := H.o8; simpa [doneSet] using h), (by have h := H.f11; simpa [doneSet] using h), (fun e => absurd (H.f12 (by simpa [doneSet] using e)).2 (by rw [hn]; simp)), (by have h := H.f13; simpa [doneSet] using h), (by have h := H.f14; simpa [doneSet] using h), (by have h := H.g9; simpa [doneSet] using h)⟩⟩
      simp only [putAll, Act.put, List.setIfInBounds_toArray, List.set_cons_succ, List.set_cons_zero]
    · rintro d vs W ⟨v0, v1, v2, v3, v4, v5, v6, v7, v8, v9, v10, v11, v12, v13, v14, ls, Y, rfl, H⟩ hn hd
      simp only [putAll, Act.put, List.setIfInBounds_toArray, List.set_cons_succ, List.set_cons_zero]
      have HH1 : Hid (Sv w C R X3 g cv zs y q d W v0 v1 v2 v3 v4 v5 v6 v7 v8 v9 v10 v11 v12 v13 v14 ls Y) := H
      clear H
      clear hd
      go_wp2
      have H := HH1.out
      refine ⟨rfl, [v0, v1, v2, v3, v4, .pointer (some ⟨g, 0, none⟩), v6, v7, v8, v9, v10, v11, v12, v13, v14], ?_, v0, v1, v2, v3, v4, .pointer (some ⟨g, 0, none⟩), v6, v7, v8, v9, v10, v11, v12, v13, v14, ls, Y, rfl, ⟨H.D, (by have h := H.K0; simpa [doneSet] using h), (by have h := H.K1; simpa [doneSet] using h), H.T, H.sz, (by have h := H.f0; simpa [doneSet] using h), (by have h := H.f1; simpa [doneSet] using h), (by have h := H.f3; simpa [doneSet] using h), (fun _ => rfl), (by have h := H.f7; simpa [doneSet] using h), (by have h := H.o2; simpa [doneSet] using h), (by have h := H.f4; simpa [doneSet] using h), (by have h := H.f6; simpa [doneSet] using h), (by have h := H.f9; simpa [doneSet] using h), (by have h := H.f8; simpa [doneSet] using h), (by have h := H.o8; simpa [doneSet] using h), (by have h := H.f11; simpa [doneSet] using h), (by have h := H.f12; simpa [doneSet] using h), (by have h := H.f13; simpa [doneSet] using h), (by have h := H.f14; simpa [doneSet] using h), (by have h := H.g9; simpa [doneSet] using h)⟩⟩
      simp only [putAll, Act.put, List.setIfInBounds_toArray, List.set_cons_succ, List.set_cons_zero]
    · rintro d vs W ⟨v0, v1, v2, v3, v4, v5, v6, v7, v8, v9, v10, v11, v12, v13, v14, ls, Y, rfl, H⟩ hn hd
      simp only [putAll, Act.put, List.setIfInBounds_toArray, List.set_cons_succ, List.set_cons_zero]
      have h5 : d 5 = true := hd { on := 5, ground := .data } (by simp) rfl
      obtain rfl := H.f5 h5
      have HH1 : Hid (Sv w C R X3 g cv zs y q d W v0 v1 v2 v3 v4 (.pointer (some ⟨g, 0, none⟩)) v6 v7 v8 v9 v10 v11 v12 v13 v14 ls Y) := H
      clear H
      have HHN : Hid (d 6 = false) := hn
      clear hd hn
      clear h5
      go_wp2_with (fail)
      refine (begin_c g cv zs W HH1.out.D.dr).mono ?_
      rintro e W3 ⟨z, rfl, d1, g1⟩
      have HH2 : Hid (_ ∧ True) := ⟨HH1.out.draw HRC.out HGC.out HRg.out HXg.out d1 g1, trivial⟩
      clear d1 g1 HH1
      go_wp2
      have H := HH2.out.1
      have hn := HHN.out
      refine ⟨rfl, [v0, v1, v2, v3, v4, .pointer (some ⟨g, 0, none⟩), .int .i64 z, v7, v8, v9, v10, v11, v12, v13, v14], ?_, v0, v1, v2, v3, v4, .pointer (some ⟨g, 0, none⟩), .int .i64 z, v7, v8, v9, v10, v11, v12, v13, v14, ls, Y, rfl, ⟨H.D, (by have h := H.K0; simpa [doneSet] using h), (by have h := H.K1; simpa [doneSet] using h), H.T, H.sz, (by have h := H.f0; simpa [doneSet] using h), (by have h := H.f1; simpa [doneSet] using h), (by have h := H.f3; simpa [doneSet] using h), (fun _ => rfl), (by have h := H.f7; simpa [doneSet] using h), (by have h := H.o2; simpa [doneSet] using h), (by have h := H.f4; simpa [doneSet] using h), (fun _ => ⟨z, rfl⟩), (by have h := H.f9; simpa [doneSet] using h), (by have h := H.f8; simpa [doneSet] using h), (by have h := H.o8; simpa [doneSet] using h), (by have h := H.f11; simpa [doneSet] using h), (by have h := H.f12; simpa [doneSet] using h), (fun e => absurd (H.f13 (by simpa [doneSet] using e)).2 (by rw [hn]; simp)), (by have h := H.f14; simpa [doneSet] using h), (by have h := H.g9; simpa [doneSet] using h)⟩⟩
      simp only [putAll, Act.put, List.setIfInBounds_toArray, List.set_cons_succ, List.set_cons_zero]
    · rintro d vs W ⟨v0, v1, v2, v3, v4, v5, v6, v7, v8, v9, v10, v11, v12, v13, v14, ls, Y, rfl, H⟩ hn hd
      simp only [putAll, Act.put, List.setIfInBounds_toArray, List.set_cons_succ, List.set_cons_zero]
      have HH1 : Hid (Sv w C R X3 g cv zs y q d W v0 v1 v2 v3 v4 v5 v6 v7 v8 v9 v10 v11 v12 v13 v14 ls Y) := H
      clear H
      clear hd
      go_wp2
      have H := HH1.out
      refine ⟨rfl, [v0, v1, v2, v3, v4, v5, v6, .pointer (some ⟨g, 0, none⟩), v8, v9, v10, v11, v12, v13, v14], ?_, v0, v1, v2, v3, v4, v5, v6, .pointer (some ⟨g, 0, none⟩), v8, v9, v10, v11, v12, v13, v14, ls, Y, rfl, ⟨H.D, (by have h := H.K0; simpa [doneSet] using h), (by have h := H.K1; simpa [doneSet] using h), H.T, H.sz, (by have h := H.f0; simpa [doneSet] using h), (by have h := H.f1; simpa [doneSet] using h), (by have h := H.f3; simpa [doneSet] using h), (by have h := H.f5; simpa [doneSet] using h), (fun _ => rfl), (by have h := H.o2; simpa [doneSet] using h), (by have h := H.f4; simpa [doneSet] using h), (by have h := H.f6; simpa [doneSet] using h), (by have h := H.f9; simpa [doneSet] using h), (by have h := H.f8; simpa [doneSet] using h), (by have h := H.o8; simpa [doneSet] using h), (by have h := H.f11; simpa [doneSet] using h), (by have h := H.f12; simpa [doneSet] using h), (by have h := H.f13; simpa [doneSet] using h), (by have h := H.f14; simpa [doneSet] using h), (by have h := H.g9; simpa [doneSet] using h)⟩⟩
      simp only [putAll, Act.put, List.setIfInBounds_toArray, List.set_cons_succ, List.set_cons_zero]
    · rintro d vs W ⟨v0, v1, v2, v3, v4, v5, v6, v7, v8, v9, v10, v11, v12, v13, v14, ls, Y, rfl, H⟩ hn hd
      simp only [putAll, Act.put, List.setIfInBounds_toArray, List.set_cons_succ, List.set_cons_zero]
      have HH1 : Hid (Sv w C R X3 g cv zs y q d W v0 v1 v2 v3 v4 v5 v6 v7 v8 v9 v10 v11 v12 v13 v14 ls Y) := H
      clear H
      have HHN : Hid (d 8 = false) := hn
      clear hd hn
      go_wp2
      have hn := HHN.out
      have H0 := HH1.out
      have H := HH1.out.below ((Below.refl _ W).alloc (Nat.le_refl _) (.cells #[.int .i64 1, .int .i64 30, .int .i64 100, .int .i64 600, .int .i64 3000, .int .i64 86400, .int .i64 86401, .int .i64 0, .int .i64 1000] 3))
      refine ⟨rfl, [v0, v1, v2, v3, v4, v5, v6, v7, .slice (some ⟨W.heap.size, 0, none⟩) 9 9, v9, v10, v11, v12, v13, v14], ?_, v0, v1, v2, v3, v4, v5, v6, v7, .slice (some ⟨W.heap.size, 0, none⟩) 9 9, v9, v10, v11, v12, v13, v14, ls, W.heap.size, rfl, ⟨H.D, (by have h := H.K0; simpa [doneSet] using h), (by have h := H.K1; simpa [doneSet] using h), H.T, H.sz, (by have h := H.f0; simpa [doneSet] using h), (by have h := H.f1; simpa [doneSet] using h), (by have h := H.f3; simpa [doneSet] using h), (by have h := H.f5; simpa [doneSet] using h), (by have h := H.f7; simpa [doneSet] using h), (by have h := H.o2; simpa [doneSet] using h), (by have h := H.f4; simpa [doneSet] using h), (by have h := H.f6; simpa [doneSet] using h), (by have h := H.f9; simpa [doneSet] using h), (fun _ => ⟨rfl, H0.sz⟩), (fun _ _ => Rd.lit W [1, 30, 100, 600, 3000, 86400, 86401, 0, 1000] (by decide)), (by have h := H.f11; simpa [doneSet] using h), (by have h := H.f12; simpa [doneSet] using h), (by have h := H.f13; simpa [doneSet] using h), (by have h := H.f14; simpa [doneSet] using h), (fun _ => by simp [doneSet])⟩⟩
      simp only [putAll, Act.put, List.setIfInBounds_toArray, List.set_cons_succ, List.set_cons_zero]
    · rintro d vs W ⟨v0, v1, v2, v3, v4, v5, v6, v7, v8, v9, v10, v11, v12, v13, v14, ls, Y, rfl, H⟩ hn hd
      simp only [putAll, Act.put, List.setIfInBounds_toArray, List.set_cons_succ, List.set_cons_zero]
      have h7 : d 7 = true := hd { on := 7, ground := .data } (by simp) rfl
      have h8 : d 8 = true := hd { on := 8, ground := .data } (by simp) rfl
      obtain rfl := H.f7 h7
      obtain ⟨hv8, hY⟩ := H.f8 h8
      subst hv8
      have HR8 : Hid (Rd .i64 W (.slice (some ⟨Y, 0, none⟩) 9 9) [1, 30, 100, 600, 3000, 86400, 86401, 0, 1000] ∧ C ≤ Y) := ⟨H.o8 h8 hn, hY⟩
      have HE : Hid (d 8 = true) := h8
      have HH1 : Hid (Sv w C R X3 g cv zs y q d W v0 v1 v2 v3 v4 v5 v6 (.pointer (some ⟨g, 0, none⟩)) (.slice (some ⟨Y, 0, none⟩) 9 9) v9 v10 v11 v12 v13 v14 ls Y) := H
      clear H
      have HHN : Hid (d 9 = false) := hn
      clear hd hn
      clear h7 h8 hY
      go_wp2_with (fail)
      refine (pickInt_c g cv zs (.slice (some ⟨Y, 0, none⟩) 9 9) [1, 30, 100, 600, 3000, 86400, 86401, 0, 1000] W HH1.out.D.dr HR8.out.1 (.inr (by have := HR8.out.2; have := HGC.out; simp [Value.ownBlock]; omega)) (by decide) (by decide)).mono ?_
      rintro e W3 ⟨z, rfl, d1, g1⟩
      have HH2 : Hid (_ ∧ True) := ⟨HH1.out.draw HRC.out HGC.out HRg.out HXg.out d1 g1, trivial⟩
      clear d1 g1 HH1
      go_wp2
      have H := HH2.out.1
      have hn := HHN.out
      have h8 := HE.out
      refine ⟨rfl, [v0, v1, v2, v3, v4, v5, v6, .pointer (some ⟨g, 0, none⟩), .slice (some ⟨Y, 0, none⟩) 9 9, .int .i64 z, v10, v11, v12, v13, v14], ?_, v0, v1, v2, v3, v4, v5, v6, .pointer (some ⟨g, 0, none⟩), .slice (some ⟨Y, 0, none⟩) 9 9, .int .i64 z, v10, v11, v12, v13, v14, ls, Y, rfl, ⟨H.D, (by have h := H.K0; simpa [doneSet] using h), (by have h := H.K1; simpa [doneSet] using h), H.T, H.sz, (by have h := H.f0; simpa [doneSet] using h), (by have h := H.f1; simpa [doneSet] using h), (by have h := H.f3; simpa [doneSet] using h), (by have h := H.f5; simpa [doneSet] using h), (fun _ => rfl), (by have h := H.o2; simpa [doneSet] using h), (by have h := H.f4; simpa [doneSet] using h), (by have h := H.f6; simpa [doneSet] using h), (fun _ => ⟨z, rfl⟩), (fun _ => ⟨rfl, HR8.out.2⟩), (fun _ e => by simp [doneSet] at e), (by have h := H.f11; simpa [doneSet] using h), (by have h := H.f12; simpa [doneSet] using h), (by have h := H.f13; simpa [doneSet] using h), (fun e => absurd (H.f14 (by simpa [doneSet] using e)).2 (by rw [hn]; simp)), (fun _ => by simpa [doneSet] using h8)⟩⟩
      simp only [putAll, Act.put, List.setIfInBounds_toArray, List.set_cons_succ, List.set_cons_zero]
    · rintro d vs W ⟨v0, v1, v2, v3, v4, v5, v6, v7, v8, v9, v10, v11, v12, v13, v14, ls, Y, rfl, H⟩ hn hd
      simp only [putAll, Act.put, List.setIfInBounds_toArray, List.set_cons_succ, List.set_cons_zero]
      have h0 : d 0 = true := hd { on := 0, ground := .data } (by simp) rfl
      obtain rfl := H.f0 h0
      have hb := H.K0 hn
      have e0 := hb.cell 0
      have u0' := hb.frozen 0
      have e1 := hb.cell 1
      have u1' := hb.frozen 1
      simp at e0 e1
      have HH1 : Hid (Sv w C R X3 g cv zs y q d W (.agg (P2 y q)) v1 v2 v3 v4 v5 v6 v7 v8 v9 v10 v11 v12 v13 v14 ls Y) := H
      clear H
      have HHN : Hid (d 10 = false) := hn
      clear hd hn
      clear h0 hb
      go_wp2
      have hn := HHN.out
      have H := HH1.out
      have gf : W.grownBy ((W.setCell ⟨R, 0, none⟩ (.int .i64 y)).setCell ⟨R, 1, none⟩ (.int .i64 q)) (some R) := grown_trans (grown_set' _ _ _ _) (grown_set' _ _ _ _)
      refine ⟨rfl, [.agg (P2 y q), v1, v2, v3, v4, v5, v6, v7, v8, v9, undef, v11, v12, v13, v14], ?_, .agg (P2 y q), v1, v2, v3, v4, v5, v6, v7, v8, v9, undef, v11, v12, v13, v14, ls, Y, rfl, ⟨(H.D.app HRW.out HRg.out gf), (fun e => by simp [doneSet] at e), (fun _ => ((H.K0 hn).set 0 _).set 1 _), (H.T.grown gf (by have := HRX.out; simpa using this)), (by simpa using H.sz), (fun _ => rfl), (by have h := H.f1; simpa [doneSet] using h), (by have h := H.f3; simpa [doneSet] using h), (by have h := H.f5; simpa [doneSet] using h), (by have h := H.f7; simpa [doneSet] using h), (fun e => (H.o2 (by simpa [doneSet] using e)).draw gf HRC.out), (by have h := H.f4; simpa [doneSet] using h), (by have h := H.f6; simpa [doneSet] using h), (by have h := H.f9; simpa [doneSet] using h), (by have h := H.f8; simpa [doneSet] using h), (fun e e2 => (H.o8 (by simpa [doneSet] using e) (by simpa [doneSet] using e2)).gone (H.f8 (by simpa [doneSet] using e)).1 (by have := (H.f8 (by simpa [doneSet] using e)).2; have := HRC.out; omega) gf), (by have h := H.f11; simpa [doneSet] using h), (by have h := H.f12; simpa [doneSet] using h), (by have h := H.f13; simpa [doneSet] using h), (by have h := H.f14; simpa [doneSet] using h), (by have h := H.g9; simpa [doneSet] using h)⟩⟩
      simp only [putAll, Act.put, List.setIfInBounds_toArray, List.set_cons_succ, List.set_cons_zero]
    · rintro d vs W ⟨v0, v1, v2, v3, v4, v5, v6, v7, v8, v9, v10, v11, v12, v13, v14, ls, Y, rfl, H⟩ hn hd
      simp only [putAll, Act.put, List.setIfInBounds_toArray, List.set_cons_succ, List.set_cons_zero]
      have h2 : d 2 = true := hd { on := 2, ground := .data } (by simp) rfl
      have HH1 : Hid (Sv w C R X3 g cv zs y q d W v0 v1 v2 v3 v4 v5 v6 v7 v8 v9 v10 v11 v12 v13 v14 ls Y) := H
      clear H
      clear hd
      have HE : Hid (d 2 = true) := h2
      clear h2
      go_wp2
      have H := HH1.out
      have h2 := HE.out
      refine ⟨rfl, [v0, v1, v2, v3, v4, v5, v6, v7, v8, v9, v10, v2, v12, v13, v14], ?_, v0, v1, v2, v3, v4, v5, v6, v7, v8, v9, v10, v2, v12, v13, v14, ls, Y, rfl, ⟨H.D, (by have h := H.K0; simpa [doneSet] using h), (by have h := H.K1; simpa [doneSet] using h), H.T, H.sz, (by have h := H.f0; simpa [doneSet] using h), (by have h := H.f1; simpa [doneSet] using h), (by have h := H.f3; simpa [doneSet] using h), (by have h := H.f5; simpa [doneSet] using h), (by have h := H.f7; simpa [doneSet] using h), (by have h := H.o2; simpa [doneSet] using h), (by have h := H.f4; simpa [doneSet] using h), (by have h := H.f6; simpa [doneSet] using h), (by have h := H.f9; simpa [doneSet] using h), (by have h := H.f8; simpa [doneSet] using h), (by have h := H.o8; simpa [doneSet] using h), (fun _ => ⟨rfl, by simpa [doneSet] using h2⟩), (by have h := H.f12; simpa [doneSet] using h), (by have h := H.f13; simpa [doneSet] using h), (by have h := H.f14; simpa [doneSet] using h), (by have h := H.g9; simpa [doneSet] using h)⟩⟩
      simp only [putAll, Act.put, List.setIfInBounds_toArray, List.set_cons_succ, List.set_cons_zero]
    · rintro d vs W ⟨v0, v1, v2, v3, v4, v5, v6, v7, v8, v9, v10, v11, v12, v13, v14, ls, Y, rfl, H⟩ hn hd
      simp only [putAll, Act.put, List.setIfInBounds_toArray, List.set_cons_succ, List.set_cons_zero]
      have h4 : d 4 = true := hd { on := 4, ground := .data } (by simp) rfl
      have HH1 : Hid (Sv w C R X3 g cv zs y q d W v0 v1 v2 v3 v4 v5 v6 v7 v8 v9 v10 v11 v12 v13 v14 ls Y) := H
      clear H
      clear hd
      have HE : Hid (d 4 = true) := h4
      clear h4
      go_wp2
      have H := HH1.out
      have h4 := HE.out
      refine ⟨rfl, [v0, v1, v2, v3, v4, v5, v6, v7, v8, v9, v10, v11, v4, v13, v14], ?_, v0, v1, v2, v3, v4, v5, v6, v7, v8, v9, v10, v11, v4, v13, v14, ls, Y, rfl, ⟨H.D, (by have h := H.K0; simpa [doneSet] using h), (by have h := H.K1; simpa [doneSet] using h), H.T, H.sz, (by have h := H.f0; simpa [doneSet] using h), (by have h := H.f1; simpa [doneSet] using h), (by have h := H.f3; simpa [doneSet] using h), (by have h := H.f5; simpa [doneSet] using h), (by have h := H.f7; simpa [doneSet] using h), (by have h := H.o2; simpa [doneSet] using h), (by have h := H.f4; simpa [doneSet] using h), (by have h := H.f6; simpa [doneSet] using h), (by have h := H.f9; simpa [doneSet] using h), (by have h := H.f8; simpa [doneSet] using h), (by have h := H.o8; simpa [doneSet] using h), (by have h := H.f11; simpa [doneSet] using h), (fun _ => ⟨rfl, by simpa [doneSet] using h4⟩), (by have h := H.f13; simpa [doneSet] using h), (by have h := H.f14; simpa [doneSet] using h), (by have h := H.g9; simpa [doneSet] using h)⟩⟩
      simp only [putAll, Act.put, List.setIfInBounds_toArray, List.set_cons_succ, List.set_cons_zero]
    · rintro d vs W ⟨v0, v1, v2, v3, v4, v5, v6, v7, v8, v9, v10, v11, v12, v13, v14, ls, Y, rfl, H⟩ hn hd
      simp only [putAll, Act.put, List.setIfInBounds_toArray, List.set_cons_succ, List.set_cons_zero]
      have h6 : d 6 = true := hd { on := 6, ground := .data } (by simp) rfl
      have HH1 : Hid (Sv w C R X3 g cv zs y q d W v0 v1 v2 v3 v4 v5 v6 v7 v8 v9 v10 v11 v12 v13 v14 ls Y) := H
      clear H
      clear hd
      have HE : Hid (d 6 = true) := h6
      clear h6
      go_wp2
      have H := HH1.out
      have h6 := HE.out
      refine ⟨rfl, [v0, v1, v2, v3, v4, v5, v6, v7, v8, v9, v10, v11, v12, v6, v14], ?_, v0, v1, v2, v3, v4, v5, v6, v7, v8, v9, v10, v11, v12, v6, v14, ls, Y, rfl, ⟨H.D, (by have h := H.K0; simpa [doneSet] using h), (by have h := H.K1; simpa [doneSet] using h), H.T, H.sz, (by have h := H.f0; simpa [doneSet] using h), (by have h := H.f1; simpa [doneSet] using h), (by have h := H.f3; simpa [doneSet] using h), (by have h := H.f5; simpa [doneSet] using h), (by have h := H.f7; simpa [doneSet] using h), (by have h := H.o2; simpa [doneSet] using h), (by have h := H.f4; simpa [doneSet] using h), (by have h := H.f6; simpa [doneSet] using h), (by have h := H.f9; simpa [doneSet] using h), (by have h := H.f8; simpa [doneSet] using h), (by have h := H.o8; simpa [doneSet] using h), (by have h := H.f11; simpa [doneSet] using h), (by have h := H.f12; simpa [doneSet] using h), (fun _ => ⟨rfl, by simpa [doneSet] using h6⟩), (by have h := H.f14; simpa [doneSet] using h), (by have h := H.g9; simpa [doneSet] using h)⟩⟩
      simp only [putAll, Act.put, List.setIfInBounds_toArray, List.set_cons_succ, List.set_cons_zero]
    · rintro d vs W ⟨v0, v1, v2, v3, v4, v5, v6, v7, v8, v9, v10, v11, v12, v13, v14, ls, Y, rfl, H⟩ hn hd
      simp only [putAll, Act.put, List.setIfInBounds_toArray, List.set_cons_succ, List.set_cons_zero]
      have h9 : d 9 = true := hd { on := 9, ground := .data } (by simp) rfl
      have HH1 : Hid (Sv w C R X3 g cv zs y q d W v0 v1 v2 v3 v4 v5 v6 v7 v8 v9 v10 v11 v12 v13 v14 ls Y) := H
      clear H
      clear hd
      have HE : Hid (d 9 = true) := h9
      clear h9
      go_wp2
      have H := HH1.out
      have h9 := HE.out
      refine ⟨rfl, [v0, v1, v2, v3, v4, v5, v6, v7, v8, v9, v10, v11, v12, v13, v9], ?_, v0, v1, v2, v3, v4, v5, v6, v7, v8, v9, v10, v11, v12, v13, v9, ls, Y, rfl, ⟨H.D, (by have h := H.K0; simpa [doneSet] using h), (by have h := H.K1; simpa [doneSet] using h), H.T, H.sz, (by have h := H.f0; simpa [doneSet] using h), (by have h := H.f1; simpa [doneSet] using h), (by have h := H.f3; simpa [doneSet] using h), (by have h := H.f5; simpa [doneSet] using h), (by have h := H.f7; simpa [doneSet] using h), (by have h := H.o2; simpa [doneSet] using h), (by have h := H.f4; simpa [doneSet] using h), (by have h := H.f6; simpa [doneSet] using h), (by have h := H.f9; simpa [doneSet] using h), (by have h := H.f8; simpa [doneSet] using h), (by have h := H.o8; simpa [doneSet] using h), (by have h := H.f11; simpa [doneSet] using h), (by have h := H.f12; simpa [doneSet] using h), (by have h := H.f13; simpa [doneSet] using h), (fun _ => ⟨rfl, by simpa [doneSet] using h9⟩), (by have h := H.g9; simpa [doneSet] using h)⟩⟩
      simp only [putAll, Act.put, List.setIfInBounds_toArray, List.set_cons_succ, List.set_cons_zero]
    rintro d vs W9 ⟨v0, v1, v2, v3, v4, v5, v6, v7, v8, v9, v10, v11, v12, v13, v14, ls, Y, rfl, H⟩ hn
    obtain ⟨e11, -⟩ := H.f11 (hn 11 (by decide))
    obtain ⟨e12, -⟩ := H.f12 (hn 12 (by decide))
    obtain ⟨e13, -⟩ := H.f13 (hn 13 (by decide))
    obtain ⟨e14, -⟩ := H.f14 (hn 14 (by decide))
    obtain ⟨z, hz⟩ := H.f4 (hn 4 (by decide))
    obtain ⟨b, hb⟩ := H.f6 (hn 6 (by decide))
    obtain ⟨m, hm⟩ := H.f9 (hn 9 (by decide))
    have HO : Hid (Og 5 tfC 32 C W9 v2 ls) := H.o2 (hn 2 (by decide))
    have HK9 : Hid (Blk W9 R (P2 y q) 25) := H.K1 (hn 10 (by decide))
    have HB9 : Hid (Below w.heap.size w W9) := H.D.bel
    subst e11 e12 e13 e14
    rw [hz, hb, hm]
    simp only [putAll, Act.put, List.setIfInBounds_toArray, List.set_cons_succ, List.set_cons_zero]
    clear H hn HD HDd HK HT HSZ HRC HGC HRg HXg HRX
    go_wp2
    exact bodyPost_ret (v := .tuple #[.agg (P2 y q), v11, .int .i64 z, .int .i64 b, .int .i64 m]) (results_P5 rfl _ _ _ _ _ _ _ _ _ rfl rfl rfl rfl rfl HK9.out) rfl ⟨_, _, _, ls, _, _, _, rfl, HO.out.rd tfC_len, HB9.out⟩
end Go.Proofs.Ytdnophdldpophaa
