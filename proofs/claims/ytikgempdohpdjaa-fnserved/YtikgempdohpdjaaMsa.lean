/- Rows that are drawn beside one that is turned; no condition. -/
import Derived.Test.YtikgempdohpdjaaGng
import Derived.Test.YtikgempdohpdjaaAdw
namespace Go.Proofs.Ytikgempdohpdjaa
open Go.RowKit Go.ChangeShapes Go.WideShapes Go.ChangeAt
set_option linter.unusedVariables false
set_option linter.unusedSimpArgs false
set_option maxRecDepth 8000

theorem own_b {base B s n : Nat} {e : TypeId} {W W' : World} {v : Value} {xs : List Value} (h : W.ownsRow base e s v n xs) (hb : Below B W W') (hl : ∀ k, v.ownBlock = some k → k < B) : W'.ownsRow base e s v n xs := by
  refine ⟨h.1, ?_⟩
  rcases h.2 with q | ⟨g, cap, cur, rfl, hg, hh, r⟩
  · exact .inl q
  · exact .inr ⟨g, cap, cur, rfl, hg, (hb.block g (hl g rfl)).trans hh, r⟩
theorem own_lt {base s n : Nat} {e : TypeId} {W : World} {v : Value} {xs : List Value} (h : W.ownsRow base e s v n xs) : ∀ k, v.ownBlock = some k → k < W.heap.size := fun k hk => (World.ownsRow.lt h k hk).2
theorem Gd.belowB {w1 W W' : World} {g B : Nat} {cv : Value} {code : List Int} {v : Value} {us : List Value} {ls : List (List Int)} (h : Gd w1 W g cv code v us ls) (hb : Below B W W') (hB : w1.heap.size ≤ B) (hv : ∀ k, v.ownBlock = some k → k < B) (hu : ∀ i, i < ls.length → ∀ k, (us.getD i vN).ownBlock = some k → k < B) : Gd w1 W' g cv code v us ls :=
  ⟨h.len, own_b h.row hb hv, fun i hi => own_b (h.own i hi) hb (hu i hi), h.ne, h.ap, h.dc.belowB (hb.mono hB)⟩
/-- rows that are drawn, beside a row of what is now, which is turned -/
structure Gm (w W : World) (g : Nat) (cv : Value) (code : List Int) (v : Value) (us : List Value) (ls : List (List Int)) (bn cap : Nat) (zs : List Int) : Prop where
  gd : Gd w W g cv code v us ls
  now : Ow .i64 3 w.heap.size W (.slice (some ⟨bn, 0, none⟩) zs.length cap) zs
  nv : v.ownBlock ≠ some bn
  nu : ∀ i, i < ls.length → (us.getD i vN).ownBlock ≠ some bn
theorem Gm.lo {w W : World} {g : Nat} {cv : Value} {code : List Int} {v : Value} {us : List Value} {ls : List (List Int)} {bn cap : Nat} {zs : List Int} (h : Gm w W g cv code v us ls bn cap zs) : w.heap.size ≤ bn ∧ bn < W.heap.size := World.ownsRow.lt h.now bn rfl
theorem Gm.draw {w W W' : World} {g : Nat} {cv : Value} {code : List Int} {v : Value} {us : List Value} {ls : List (List Int)} {bn cap : Nat} {zs : List Int} (h : Gm w W g cv code v us ls bn cap zs) (hd : Dr W' g cv code) (hg : W.grownBy W' (some g)) : Gm w W' g cv code v us ls bn cap zs :=
  ⟨h.gd.draw hd hg, h.now.drawn hg h.gd.dc.lt, h.nv, h.nu⟩
theorem Gm.belowB {w W W' : World} {g B : Nat} {cv : Value} {code : List Int} {v : Value} {us : List Value} {ls : List (List Int)} {bn cap : Nat} {zs : List Int} (h : Gm w W g cv code v us ls bn cap zs) (hb : Below B W W') (hB : w.heap.size ≤ B) (hn : bn < B) (hv : ∀ k, v.ownBlock = some k → k < B) (hu : ∀ i, i < ls.length → ∀ k, (us.getD i vN).ownBlock = some k → k < B) : Gm w W' g cv code v us ls bn cap zs :=
  ⟨h.gd.belowB hb hB hv hu, own_b h.now hb (fun k hk => by cases hk; exact hn), h.nv, h.nu⟩
theorem Gm.below {w W W' : World} {g : Nat} {cv : Value} {code : List Int} {v : Value} {us : List Value} {ls : List (List Int)} {bn cap : Nat} {zs : List Int} (h : Gm w W g cv code v us ls bn cap zs) (hb : Below W.heap.size W W') : Gm w W' g cv code v us ls bn cap zs :=
  ⟨h.gd.below hb, h.now.below hb, h.nv, h.nu⟩
theorem Gm.set {w W : World} {g : Nat} {cv : Value} {code : List Int} {v : Value} {us : List Value} {ls : List (List Int)} {bn cap : Nat} {zs : List Int} (h : Gm w W g cv code v us ls bn cap zs) (k : Nat) (hk : k < zs.length) (x : Int) : Gm w (W.setCell ⟨bn, k, none⟩ (.int .i64 x)) g cv code v us ls bn cap (zs.set k x) := by
  have hgr : W.grownBy (W.setCell ⟨bn, k, none⟩ (.int .i64 x)) (some bn) := ⟨rfl, rfl, rfl, by simp [World.setCell], fun j _ hj => Below.heap_setCell _ _ _ _ (fun e => hj (by simp [e]))⟩
  have hbl : Below w.heap.size W (W.setCell ⟨bn, k, none⟩ (.int .i64 x)) := ⟨rfl, rfl, rfl, by simp [World.setCell], fun j hj => Below.heap_setCell _ _ _ _ (fun e => by have := h.lo.1; rw [e] at hj; exact absurd hj (by simp; omega))⟩
  refine ⟨⟨h.gd.len, World.ownsRow.kept h.gd.row hgr (.inr h.nv), fun i hi => World.ownsRow.kept (h.gd.own i hi) hgr (.inr (h.nu i hi)), h.gd.ne, h.gd.ap, h.gd.dc.belowB hbl⟩, ?_, h.nv, h.nu⟩
  have hs := (World.ownsRow.stored h.now k (.int .i64 x)).1
  rw [Ow, List.length_set, List.map_set]
  exact hs

end Go.Proofs.Ytikgempdohpdjaa
