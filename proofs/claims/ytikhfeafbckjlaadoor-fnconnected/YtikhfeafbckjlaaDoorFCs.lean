/- The program's walk of the chain: what it keeps; no condition. -/
import Derived.Test.YtikhfeafbckjlaaDoorFGo
namespace Go.Proofs.YtikhfeafbckjlaaDoor
open Go.RowKit Go.ChangeShapes Go.WideShapes Go.ChangeAt
set_option linter.unusedVariables false
set_option linter.unusedSimpArgs false
set_option maxRecDepth 8000
/-- the path at a place, or the one that is none -/
def pV (ps : Tri) (c : Int) : Int × Int × Int := if c < 0 then (-1, -1, -1) else pAt ps c
theorem fstP_pV (q : Int × Int × Int → Bool) (ps : Tri) : fstP q ps = pV ps (ixV q ps) := by
  rw [fstP, ixV, pV]
  cases hf : ps.findIdx? q with
  | none =>
    have : ps.find? q = none := by
      rw [List.findIdx?_eq_none_iff] at hf
      rw [List.find?_eq_none]; intro x hx; simp [hf x hx]
    rw [this]; rfl
  | some k =>
    have h1 := hf
    rw [List.findIdx?_eq_some_iff_getElem] at h1
    obtain ⟨h1, h2, h3⟩ := h1
    have : ps.find? q = some ps[k] := by
      rw [List.find?_eq_some_iff_getElem]
      exact ⟨h2, k, h1, rfl, fun j hj => by simpa using h3 j hj⟩
    rw [this]
    dsimp only
    rw [if_neg (by omega), pAt_eq (by simpa using h1)]; simp
/-- the walk of the chain, behind k moves -/
structure Cs (s p m : Int) (V : Value) (ps : Tri) (h t : Int) (o : Bool) (c0 : Int) (w W : World) (k : Nat) (mv : Value) : Prop where
  fb : Blk W w.heap.size (F4 s p m V) 26
  pb : Blk W (w.heap.size + 1) (P3 (pV ps (stt p ps h t o c0 k)).1 (pV ps (stt p ps h t o c0 k)).2.1 (pV ps (stt p ps h t o c0 k)).2.2) 35
  own : Op mf mg 74 (w.heap.size + 2) W mv (mvL p ps h t o c0 k)
  bel : Below w.heap.size w W
  ge : ∀ i, i < k → 0 ≤ stt p ps h t o c0 i
theorem th_of {a b h t : Int} {o : Bool} (hab : (o = true ∧ h = a ∧ t = b) ∨ (o = false ∧ h = b ∧ t = a)) (k : Nat) : (par k o (!o) = true → par k t h = b) ∧ (par k o (!o) = false → par k t h = a) := by
  unfold par
  rcases hab with ⟨rfl, rfl, rfl⟩ | ⟨rfl, rfl, rfl⟩ <;> by_cases hk : k % 2 = 0 <;> simp [hk]
section
variable {s p m : Int} {V : Value} {ps : Tri} {h t : Int} {o : Bool} {c0 : Int} {w W W' : World} {k : Nat} {mv : Value}
theorem Cs.below (H : Cs s p m V ps h t o c0 w W k mv) (hb : Below W.heap.size W W') : Cs s p m V ps h t o c0 w W' k mv :=
  ⟨H.fb.below hb H.fb.lt, H.pb.below hb H.pb.lt, H.own.below hb, belowCall H.bel hb H.bel.size, H.ge⟩
/-- a move was put behind, the next path was found -/
theorem Cs.next {W2 : World} {nv : Value} {x y z th : Int} (H : Cs s p m V ps h t o c0 w W k mv) (hx : pV ps (stt p ps h t o c0 k) = (x, y, z)) (hpos : 0 ≤ stt p ps h t o c0 k) (hth : par k t h = th) (ho : Op mf mg 74 (w.heap.size + 2) W2 nv (mvL p ps h t o c0 k ++ [(x, th)]))
    (hg : W.grownBy W2 mv.ownBlock) : (Blk W2 w.heap.size (F4 s p m V) 26 ∧ Blk W2 (w.heap.size + 1) (P3 x y z) 35 ∧ Below w.heap.size w W2) ∧
    ∀ (W3 : World) (q : Int × Int × Int), Below W2.heap.size W2 W3 → q = pV ps (stt p ps h t o c0 (k + 1)) → Cs s p m V ps h t o c0 w (((W3.setCell ⟨w.heap.size + 1, 0, none⟩ (.int .i64 q.1)).setCell ⟨w.heap.size + 1, 1, none⟩ (.int .i64 q.2.1)).setCell ⟨w.heap.size + 1, 2, none⟩ (.int .i64 q.2.2)) (k + 1) nv := by
  have hob : ∀ q, mv.ownBlock = some q → w.heap.size + 2 ≤ q ∧ q < W.heap.size := fun q e => World.ownsRow.lt H.own q e
  have f2 : Blk W2 w.heap.size (F4 s p m V) 26 := (hg.block _ H.fb.lt (fun e => by have := hob _ e.symm; omega)).trans H.fb
  have hpb := H.pb
  rw [hx] at hpb
  have p2 : Blk W2 (w.heap.size + 1) (P3 x y z) 35 := (hg.block _ hpb.lt (fun e => by have := hob _ e.symm; omega)).trans hpb
  have b2 : Below w.heap.size w W2 := H.bel.trans (grown_below hg H.bel.size (fun q e => by have := hob _ e; omega))
  refine ⟨⟨f2, p2, b2⟩, ?_⟩
  rintro W3 q b3 rfl
  have e : mvL p ps h t o c0 (k + 1) = mvL p ps h t o c0 k ++ [(x, th)] := by
    have : pAt ps (stt p ps h t o c0 k) = (x, y, z) := by rw [← hx, pV, if_neg (by omega)]
    rw [mvL_succ, this, hth]
  have o3 : Op mf mg 74 (w.heap.size + 2) W3 nv (mvL p ps h t o c0 (k + 1)) := by rw [e]; exact Op.below ho b3
  have hne : nv.ownBlock ≠ some (w.heap.size + 1) := fun e => by have := (World.ownsRow.lt o3 _ e).1; omega
  have f3 := f2.below b3 f2.lt
  have p3 := p2.below b3 p2.lt
  refine ⟨((f3.other _ _ (by dsimp only; omega)).other _ _ (by dsimp only; omega)).other _ _ (by dsimp only; omega), ?_, World.ownsRow.kept (World.ownsRow.kept (World.ownsRow.kept o3 (grown_set _ _ _ _) (.inr hne)) (grown_set _ _ _ _) (.inr hne)) (grown_set _ _ _ _) (.inr hne), ?_, fun i hi => ?_⟩
  · have := ((p3.set 0 (.int .i64 (pV ps (stt p ps h t o c0 (k + 1))).1)).set 1 (.int .i64 (pV ps (stt p ps h t o c0 (k + 1))).2.1)).set 2 (.int .i64 (pV ps (stt p ps h t o c0 (k + 1))).2.2)
    simpa using this
  · exact (((belowCall b2 b3 b2.size).setCell (p := ⟨w.heap.size + 1, 0, none⟩) (by dsimp only; omega) _).setCell (p := ⟨w.heap.size + 1, 1, none⟩) (by dsimp only; omega) _).setCell (p := ⟨w.heap.size + 1, 2, none⟩) (by dsimp only; omega) _
  · by_cases hik : i < k
    · exact H.ge i hik
    · obtain rfl : i = k := by omega
      exact hpos
end
end Go.Proofs.YtikhfeafbckjlaaDoor
