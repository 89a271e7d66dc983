/- Connections drawn, and how strong a fabric is; no condition. -/
import Derived.Test.YtikhfeafbckjlaaDoorKMath
import Derived.Test.YtikhfeafbckjlaaDoorMixC
import Derived.Test.YtikhfeafbckjlaaDoorSl
namespace Go.Proofs.YtikhfeafbckjlaaDoor
open Go.RowKit Go.ChangeShapes Go.WideShapes Go.ChangeAt
set_option linter.unusedVariables false
set_option linter.unusedSimpArgs false
set_option maxRecDepth 8000
/-- how strong so many Mids are -/
def strV (p m : Int) : Int := if p < 1 ∨ 4 < p then 0 else if 2 * p - 1 ≤ m then 2 else if p ≤ m then 1 else 0
theorem strI_c (p m : Int) (w : World) : Calls Tryd.prog 12 #[.int .i64 p, .int .i64 m] w fun e w' => e = .returned (.int .i64 (strV p m)) ∧ Below w.heap.size w w' := by
  by_cases h1 : p < 1
  · have e : strV p m = 0 := if_pos (.inl h1)
    rw [e]
    go_enter Tryd.func12, Tryd.ntmps12
    go_wp2
    go_ret
    exact ⟨rfl, Below.refl _ _⟩
  by_cases h2 : 4 < p
  · have e : strV p m = 0 := if_pos (.inr h2)
    rw [e]
    go_enter Tryd.func12, Tryd.ntmps12
    go_wp2
    go_ret
    exact ⟨rfl, Below.refl _ _⟩
  by_cases h3 : 2 * p - 1 ≤ m
  · have e : strV p m = 2 := by rw [strV, if_neg (by omega), if_pos h3]
    rw [e]
    clear e
    go_enter Tryd.func12, Tryd.ntmps12
    go_wp2
    go_ret
    exact ⟨rfl, Below.refl _ _⟩
  by_cases h4 : p ≤ m
  · have e : strV p m = 1 := by rw [strV, if_neg (by omega), if_neg h3, if_pos h4]
    rw [e]
    clear e
    go_enter Tryd.func12, Tryd.ntmps12
    go_wp2
    go_ret
    exact ⟨rfl, Below.refl _ _⟩
  · have e : strV p m = 0 := by rw [strV, if_neg (by omega), if_neg h3, if_neg h4]
    rw [e]
    clear e
    go_enter Tryd.func12, Tryd.ntmps12
    go_wp2
    go_ret
    exact ⟨rfl, Below.refl _ _⟩
theorem strM_c (p m : Int) (w : World) (hp : 1 ≤ p ∧ p ≤ 4) : Calls Tryd.prog 14 #[.int .i64 p, .int .i64 m] w fun e w' => e = .returned (.int .i64 (strV p m)) ∧ Below w.heap.size w w' := by
  obtain ⟨h1, h2⟩ := hp
  by_cases h3 : 2 * p - 1 ≤ m
  · have e : strV p m = 2 := by rw [strV, if_neg (by omega), if_pos h3]
    rw [e]
    clear e
    go_enter Tryd.func14, Tryd.ntmps14
    go_wp2
    go_ret
    exact ⟨rfl, Below.refl _ _⟩
  by_cases h4 : p ≤ m
  · have e : strV p m = 1 := by rw [strV, if_neg (by omega), if_neg h3, if_pos h4]
    rw [e]
    clear e
    go_enter Tryd.func14, Tryd.ntmps14
    go_wp2
    go_ret
    exact ⟨rfl, Below.refl _ _⟩
  · have e : strV p m = 0 := by rw [strV, if_neg (by omega), if_neg h3, if_neg h4]
    rw [e]
    clear e
    go_enter Tryd.func14, Tryd.ntmps14
    go_wp2
    go_ret
    exact ⟨rfl, Below.refl _ _⟩
/-- a connection drawn: the cursor, the answer's place, the fabric -/
structure Dc (g : Nat) (cv : Value) (zs : List Int) (w : World) (b6 : Nat) (s p m : Int) (V : Value) (ls : Tri) (W : World) : Prop where
  D : Dr W g cv zs
  bel : Below w.heap.size w W
  R : Blk W w.heap.size (F4 0 0 0 (.slice none 0 0)) 26
  B : Blk W b6 (F4 s p m V) 26
  O : Ot 35 (w.heap.size + 1) W V ls
  lt : w.heap.size < g ∧ w.heap.size < b6
section
variable {g : Nat} {cv : Value} {zs : List Int} {w W W' : World} {b6 : Nat} {s p m : Int} {V : Value} {ls : Tri}
theorem Dc.ob (h : Dc g cv zs w b6 s p m V ls W) : g ≠ b6 ∧ V.ownBlock ≠ some g := by
  obtain ⟨i, hh, k, -⟩ := h.D.cur
  constructor
  · intro e
    subst e
    have h1 := h.B
    rw [Blk, k] at h1
    cases h1
  · intro e
    rcases h.O.2 with ⟨rfl, hn⟩ | ⟨g', cap, cur, rfl, hb, hg', -⟩
    · simp [Value.ownBlock] at e
    · simp [Value.ownBlock] at e
      subst e
      rw [Blk, hg'] at k
      cases k
theorem Dc.draw (h : Dc g cv zs w b6 s p m V ls W) (hd : Dr W' g cv zs) (hg : W.grownBy W' (some g)) : Dc g cv zs w b6 s p m V ls W' := by
  have hlt := h.lt
  refine ⟨hd, h.bel.trans (grown_below hg h.bel.size (fun k e => by cases e; omega)), (hg.block _ h.R.lt (fun e => by cases e; omega)).trans h.R, (hg.block _ h.B.lt (fun e => by cases e; exact h.ob.1 rfl)).trans h.B, World.ownsRow.kept h.O hg (.inr h.ob.2), hlt⟩
theorem Dc.below (h : Dc g cv zs w b6 s p m V ls W) (hb : Below W.heap.size W W') : Dc g cv zs w b6 s p m V ls W' :=
  ⟨h.D.below hb, belowCall h.bel hb h.bel.size, h.R.below hb h.R.lt, h.B.below hb h.B.lt, h.O.below hb, h.lt⟩
end
/-- what DrawConnect answers -/
def DcR (w : World) (e : Ending) (w' : World) : Prop := ∃ (s p m : Int) (V : Value) (ls : Tri) (f t : Int), e = .returned (.tuple #[.agg (F4 s p m V), .int .i64 f, .int .i64 t]) ∧ (1 ≤ p ∧ p ≤ 4) ∧ ls.length ≤ 28 ∧ Ot 35 w.heap.size w' V ls ∧ Below w.heap.size w w'
set_option maxHeartbeats 6400000 in
theorem drawConnect_c (v : Value) (zs : List Int) (w : World) (h : Rd .u8 w v zs) (hok : ∀ z ∈ zs, 0 ≤ z ∧ z ≤ 255) (hlen : zs.length ≤ 1048576) : Calls Tryd.prog 9 #[v] w (DcR w) := by
  obtain ⟨W1, hW1⟩ : ∃ W1, w.alloc (Obj.cells (F4 0 0 0 (.slice none 0 0)) 26) = W1 := ⟨_, rfl⟩
  have b1 : Below w.heap.size w W1 := hW1 ▸ (Below.refl _ _).alloc (Nat.le_refl _) _
  have HR1 : Hid (Blk W1 w.heap.size (F4 0 0 0 (.slice none 0 0)) 26) := hW1 ▸ Blk.new _ _ _
  have HB1 : Hid (Below w.heap.size w W1) := b1
  have HRD : Hid (Rd .u8 W1 v zs) := h.below b1
  have HOK : Hid (∀ z ∈ zs, 0 ≤ z ∧ z ≤ 255) := hok
  have HW1 : Hid (w.alloc (Obj.cells (F4 0 0 0 (.slice none 0 0)) 26) = W1) := hW1
  obtain ⟨ac, cc, rfl, -⟩ := id h
  obtain ⟨cv, hcv⟩ : ∃ cv, Value.slice ac zs.length cc = cv := ⟨_, rfl⟩
  rw [hcv] at HRD ⊢
  clear b1 hW1 h hok hcv
  go_enter Tryd.func9, Tryd.ntmps9
  go_wp2_with (fail)
  rw [HW1.out]
  refine (new_c cv zs W1 HRD.out HOK.out hlen).mono ?_
  rintro e w2 ⟨g, rfl, d2, hg2, b2⟩
  have HD2 : Hid (Dr w2 g cv zs) := d2
  have HB2 : Hid (Below w.heap.size w w2) := belowCall HB1.out b2 HB1.out.size
  have HR2 : Hid (Blk w2 w.heap.size (F4 0 0 0 (.slice none 0 0)) 26) := HR1.out.below b2 HR1.out.lt
  have hgw : w.heap.size < g := Nat.lt_of_lt_of_le HR1.out.lt hg2
  clear d2 b2 HB1 HR1 HRD HW1 hg2
  go_wp2_with (fail)
  refine (l3DrawAny_c g cv zs w2 HD2.out).mono ?_
  rintro e w3 ⟨s, p, m, V, ls, rfl, hs, hp, hm, hl, o3, d3, g3⟩
  have hsz := HB2.out.size
  have r3 : Blk w3 w.heap.size (F4 0 0 0 (.slice none 0 0)) 26 := (g3.block _ HR2.out.lt (fun e => by cases e; omega)).trans HR2.out
  have b3 : Below w.heap.size w w3 := HB2.out.trans (grown_below g3 hsz (fun k e => by cases e; omega))
  have o3' : Ot 35 (w.heap.size + 1) w3 V ls := o3.mono (by have := HR2.out.lt; omega)
  obtain ⟨av, cpv, hV, -⟩ := own_form o3
  obtain ⟨ln, hln⟩ : ∃ ln, ls.length = ln := ⟨_, rfl⟩
  rw [hln] at hV
  subst hV
  obtain ⟨W4, hW4⟩ : ∃ W4, w3.alloc (Obj.cells (F4 s p m (.slice av ln cpv)) 26) = W4 := ⟨_, rfl⟩
  obtain ⟨b6, hb6⟩ : ∃ b6, w3.heap.size = b6 := ⟨_, rfl⟩
  have b34 : Below w3.heap.size w3 W4 := hW4 ▸ (Below.refl _ _).alloc (Nat.le_refl _) _
  have F4' : Hid (Dc g cv zs w b6 s p m (.slice av ln cpv) ls W4) := ⟨d3.below b34, belowCall b3 b34 b3.size, r3.below b34 r3.lt, by rw [← hb6]; exact hW4 ▸ Blk.new _ _ _, o3'.below b34, hgw, by rw [← hb6]; exact r3.lt⟩
  have HW4 : Hid (w3.alloc (Obj.cells (F4 s p m (.slice av ln cpv)) 26) = W4) := hW4
  have hn1 : 0 ≤ s * p := Int.mul_nonneg hs.1 (by omega)
  have hn2 : s * p ≤ 28 := by
    have : s * p ≤ 7 * 4 := Int.mul_le_mul hs.2 hp.2 (by omega) (by decide)
    omega
  clear hW4 b34 r3 b3 o3 o3' d3 g3 HD2 HB2 HR2
  go_wp2_with (fail)
  rw [HW4.out]
  clear HW4 hb6
  obtain ⟨S, hS⟩ : ∃ S : World → Prop, ∀ W, S W ↔ Blk W b6 (F4 s p m (.slice av ln cpv)) 26 := ⟨_, fun _ => Iff.rfl⟩
  have t0 : ∀ W : At S, W.wd.cell? ⟨b6, 0, none⟩ = some (.int .i64 s) := fun W => ((hS _).1 W.ok).cell 0
  have t1 : ∀ W : At S, W.wd.cell? ⟨b6, 1, none⟩ = some (.int .i64 p) := fun W => ((hS _).1 W.ok).cell 1
  have t2 : ∀ W : At S, W.wd.cell? ⟨b6, 2, none⟩ = some (.int .i64 m) := fun W => ((hS _).1 W.ok).cell 2
  have t3 : ∀ W : At S, W.wd.cell? ⟨b6, 3, none⟩ = some (.slice av ln cpv) := fun W => ((hS _).1 W.ok).cell 3
  have HSI : Hid (∀ W, Blk W b6 (F4 s p m (.slice av ln cpv)) 26 → S W) := fun W h => (hS W).2 h
  have FA : Hid (Dc g cv zs w b6 s p m (.slice av ln cpv) ls W4.drew) := F4'.out.below (Below.refl _ _).drew
  have HSD : Hid (S W4.drew) := HSI.out _ FA.out.B
  have ne1 : Nonempty (At S) := ⟨⟨_, HSD.out⟩⟩
  clear hS
  refine region_anyS S (by kernel_rfl) ?_
  refine anyS_quiet [true, true, true, true, false, true, false, false, false, true, true, true, false, false, false, false] 8 rfl (by kernel_rfl) (fun _ _ _ _ _ h => h) HSD.out ?_
  simp only [selT]
  repeat (go_big_quiet_step (fail))
  refine wpQuiet_nil ?_
  clear t0 t1 t2 t3 HSD F4'
  obtain ⟨u0, hu0⟩ : ∃ x, W4.drew = x := ⟨_, rfl⟩
  rw [hu0] at FA ⊢
  clear hu0
  refine anyS_one 4 (by kernel_rfl) rfl ?_
  go_wp2_with (fail)
  refine (below_c g cv zs (s * p + 2) u0 FA.out.D (by omega)).mono ?_
  rintro e u1 ⟨x1, rfl, x1a, x1b, -, d', g'⟩
  have FB : Hid (Dc g cv zs w b6 s p m (.slice av ln cpv) ls u1) := FA.out.draw d' g'
  have HSFB : Hid (S u1) := HSI.out _ FB.out.B
  clear d' g' FA
  go_wp2
  refine ⟨HSFB.out, ?_⟩
  refine anyS_one 6 (by kernel_rfl) rfl ?_
  go_wp2_with (fail)
  refine (below_c g cv zs 20 u1 FB.out.D (by omega)).mono ?_
  rintro e u2 ⟨x2, rfl, x2a, x2b, -, d', g'⟩
  have FC : Hid (Dc g cv zs w b6 s p m (.slice av ln cpv) ls u2) := FB.out.draw d' g'
  have HSFC : Hid (S u2) := HSI.out _ FC.out.B
  clear d' g' FB
  go_wp2
  refine ⟨HSFC.out, ?_⟩
  have x2c := x2b (by decide)
  have x1c := x1b (by omega)
  refine anyS_quiet [false, false, false, false, false, false, false, true, true, false, false, false, false, false, false, false] 4 rfl (by kernel_rfl) (fun _ _ _ _ _ h => h) HSFC.out ?_
  simp only [selT]
  repeat (go_big_quiet_step (fail))
  refine wpQuiet_nil ?_
  refine anyS_one 12 (by kernel_rfl) rfl ?_
  go_wp2_with (fail)
  refine (below_c g cv zs (s * p + 1) u2 FC.out.D (by omega)).mono ?_
  rintro e u3 ⟨x3, rfl, x3a, x3b, -, d', g'⟩
  have FE : Hid (Dc g cv zs w b6 s p m (.slice av ln cpv) ls u3) := FC.out.draw d' g'
  have HSFE : Hid (S u3) := HSI.out _ FE.out.B
  clear d' g' FC
  go_wp2
  refine ⟨HSFE.out, ?_⟩
  refine anyS_one 13 (by kernel_rfl) rfl ?_
  have d0 := FE.out.R.cell 0
  have d1 := FE.out.R.cell 1
  have d2 := FE.out.R.cell 2
  have d3 := FE.out.R.cell 3
  have e0 := FE.out.R.frozen 0
  have e1 := FE.out.R.frozen 1
  have e2 := FE.out.R.frozen 2
  have e3 := FE.out.R.frozen 3
  simp at d0 d1 d2 d3
  obtain ⟨u9, hu9⟩ : ∃ x, (((u3.setCell ⟨w.heap.size, 0, none⟩ (.int .i64 s)).setCell ⟨w.heap.size, 1, none⟩ (.int .i64 p)).setCell ⟨w.heap.size, 2, none⟩ (.int .i64 m)).setCell ⟨w.heap.size, 3, none⟩ (.slice av ln cpv) = x := ⟨_, rfl⟩
  have HFN : Hid (Blk u9 w.heap.size (F4 s p m (.slice av ln cpv)) 26 ∧ Ot 35 (w.heap.size + 1) u9 (.slice av ln cpv) ls ∧ Below w.heap.size w u9 ∧ u9.heap.size = u3.heap.size) := finF FE.out.R FE.out.O FE.out.bel (Nat.le_refl _) u9 hu9
  have hs9 : S u9 := HSI.out _ (by
    have hg := grown_put4 u3 w.heap.size (.int .i64 s) (.int .i64 p) (.int .i64 m) (.slice av ln cpv)
    rw [hu9] at hg
    have := FE.out.lt
    exact (hg.block _ FE.out.B.lt (fun e => by cases e; omega)).trans FE.out.B)
  have HS9 : Hid (S u9) := hs9
  have HU9 : Hid ((((u3.setCell ⟨w.heap.size, 0, none⟩ (.int .i64 s)).setCell ⟨w.heap.size, 1, none⟩ (.int .i64 p)).setCell ⟨w.heap.size, 2, none⟩ (.int .i64 m)).setCell ⟨w.heap.size, 3, none⟩ (.slice av ln cpv) = u9) := hu9
  clear hu9 hs9
  go_wp2
  rw [HU9.out]
  refine ⟨HS9.out, ?_⟩
  refine anyS_quiet [false, false, false, false, false, false, false, false, false, false, false, false, false, false, true, true] 0 rfl (by kernel_rfl) (fun _ _ _ _ _ h => h) HS9.out ?_
  simp only [selT]
  repeat (go_big_quiet_step (fail))
  refine wpQuiet_nil ?_
  refine anyS_end (by kernel_rfl) ?_
  clear HS9 HU9 d0 d1 d2 d3 e0 e1 e2 e3 FE HSI ne1
  have hlb : ls.length ≤ 28 := hl
  go_wp2
  exact bodyPost_ret (v := .tuple #[.agg (F4 s p m (.slice av ln cpv)), .int .i64 (x1 - x2 / 19), .int .i64 x3]) (results_F3 rfl _ _ _ _ _ _ _ _ _ rfl rfl rfl HFN.out.1) rfl ⟨s, p, m, _, ls, _, _, rfl, hp, hlb, HFN.out.2.1.mono (by omega), HFN.out.2.2.1⟩
end Go.Proofs.YtikhfeafbckjlaaDoor
