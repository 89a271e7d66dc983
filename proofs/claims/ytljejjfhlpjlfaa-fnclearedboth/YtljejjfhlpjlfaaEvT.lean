/- What the law of an event stands on: boxes, rows, marks; no condition. -/
import Derived.Test.YtljejjfhlpjlfaaEvE
import Derived.Test.YtljejjfhlpjlfaaDMk
import Derived.Test.YtljejjfhlpjlfaaOpenD
namespace Go.Proofs.Ytljejjfhlpjlfaa
open Go.RowKit Go.ChangeShapes Go.WideShapes Go.ChangeAt
set_option linter.unusedVariables false
set_option linter.unusedSimpArgs false
set_option maxRecDepth 8000

theorem size35 : (Try.prog.info? 35).map (·.size) = some 2 := by kernel_rfl
theorem toEvent_c (x y : Int) (w : World) : Calls Try.prog 25 #[.agg (H2 x y)] w fun e w' => e = .returned (.agg (H2 x y)) ∧ Below w.heap.size w w' := by
  go_enter Try.func25, Try.ntmps25
  go_wp2
  have h1 : ((((w.alloc (Obj.cells (H2 x y) 49)).alloc (Obj.cells (H2 x y) 35)).alloc (Obj.cells (H2 x y) 35))).heap[w.heap.size + 1]? = some (.cells (H2 x y) 35 (0, 0)) :=
    ((Blk.newAt _ (w.heap.size + 1) _ 35 (by simp)).alloc _ : Blk _ _ _ _)
  exact bodyPost_ret (v := .agg (H2 x y)) (results_cell_row rfl _ _ _ 35 _ (0, 0) _ rfl h1 Try.underlying35 rfl size35) rfl ⟨rfl, (((Below.refl _ _).alloc (Nat.le_refl _) _).alloc (by simp) _).alloc (by simp; omega) _⟩
/-- behind a statement whose order is open: the frame by what was made -/
def Cut5 (A : Nat → Option Addr → Nat → Option Addr → Nat → Act) (F : Nat → Option Addr → Nat → Option Addr → Nat → World → Prop) (ex : Exit) (a : Act) (w : World) : Prop :=
  ex = .normal ∧ ∃ g a2 c2 a3 c3, a = A g a2 c2 a3 c3 ∧ F g a2 c2 a3 c3 w
theorem reg_cut {P : Program} {Q : Exit → Act → World → Prop} {c : Code} {a : Act} {w : World} {A : Nat → Option Addr → Nat → Option Addr → Nat → Act} {F : Nat → Option Addr → Nat → Option Addr → Nat → World → Prop}
    (h : c.wp P (Cut5 A F) a w) (hk : ∀ g a2 c2 a3 c3 w, F g a2 c2 a3 c3 w → Q .normal (A g a2 c2 a3 c3) w) : c.wp P Q a w := by
  intro b k cs
  obtain ⟨e, a', w', ⟨rfl, g, a2, c2, a3, c3, rfl, hF⟩, harr⟩ := h b k cs
  exact ⟨.normal, _, w', hk _ _ _ _ _ _ hF, harr⟩
/-- the law's own boxes -/
structure Lb (w W : World) (s c s' c' k i : Int) (lv : Value) : Prop where
  bel : Below w.heap.size w W
  kd : Blk W w.heap.size (D5 s c s' c' lv) 44
  ke : Blk W (w.heap.size + 1) (H2 k i) 49
theorem Lb.below {w W W' : World} {s c s' c' k i : Int} {lv : Value} (h : Lb w W s c s' c' k i lv) (hb : Below W.heap.size W W') : Lb w W' s c s' c' k i lv :=
  ⟨belowCall h.bel hb h.bel.size, h.kd.below hb h.kd.lt, h.ke.below hb h.ke.lt⟩
theorem Lb.mid {w W W' : World} {lo hi : Nat} {s c s' c' k i : Int} {lv : Value} (h : Lb w W s c s' c' k i lv) (hm : Mid lo hi W W') (hl : w.heap.size + 1 < lo) : Lb w W' s c s' c' k i lv :=
  ⟨⟨hm.os.trans h.bel.os, hm.tape.trans h.bel.tape, hm.output.trans h.bel.output, Nat.le_trans h.bel.size hm.size, fun j hj => (hm.block j (Nat.lt_of_lt_of_le hj h.bel.size) (.inl (by omega))).trans (h.bel.block j hj)⟩, h.kd.mid hm (.inl (by omega)), h.ke.mid hm (.inl hl)⟩
theorem Lb.alloc {w W : World} {s c s' c' k i : Int} {lv : Value} (h : Lb w W s c s' c' k i lv) (o : Obj) : Lb w (W.alloc o) s c s' c' k i lv := h.below ((Below.refl _ _).alloc (Nat.le_refl _) _)
theorem Lb.st {w W : World} {s c s' c' k i : Int} {lv : Value} (h : Lb w W s c s' c' k i lv) {g : Nat} (hg : w.heap.size + 1 < g) (x y x' y' : Int) (v : Value) : Lb w (st5 W g x y x' y' v) s c s' c' k i lv :=
  ⟨h.bel.trans (grown_below (grown_put5 ..) h.bel.size (fun k e => by cases e; omega)), h.kd.grown (grown_put5 ..) (by intro e; have := Option.some.inj e; omega), h.ke.grown (grown_put5 ..) (by intro e; have := Option.some.inj e; omega)⟩
/-- a duo of one's own, between n and N: its box, its row -/
def Rw (n N : Nat) (W : World) (g : Nat) (s c s' c' : Int) (v : Value) (ls : Tri) : Prop :=
  ∃ b h, OtH b h W v ls ∧ n ≤ b ∧ b ≤ h ∧ h ≤ N ∧ n ≤ g ∧ g < N ∧ (g < b ∨ h ≤ g) ∧ Blk W g (D5 s c s' c' v) 31
theorem Rw.rd {n N : Nat} {W : World} {g : Nat} {s c s' c' : Int} {v : Value} {ls : Tri} (h : Rw n N W g s c s' c' v ls) : Rt W v ls := by
  obtain ⟨b, e, h1, -⟩ := h; exact h1.rd
theorem Rw.box {n N : Nat} {W : World} {g : Nat} {s c s' c' : Int} {v : Value} {ls : Tri} (h : Rw n N W g s c s' c' v ls) : Blk W g (D5 s c s' c' v) 31 := by
  obtain ⟨b, e, h1, -, -, -, -, -, -, h2⟩ := h; exact h2
theorem Rw.rng {n N : Nat} {W : World} {g : Nat} {s c s' c' : Int} {v : Value} {ls : Tri} (h : Rw n N W g s c s' c' v ls) : n ≤ g ∧ g < N := by
  obtain ⟨b, e, h1, -, -, -, h4, h5, -⟩ := h; exact ⟨h4, h5⟩
theorem Rw.below {n N : Nat} {W W' : World} {g : Nat} {s c s' c' : Int} {v : Value} {ls : Tri} (h : Rw n N W g s c s' c' v ls) (hb : Below W.heap.size W W') : Rw n N W' g s c s' c' v ls := by
  obtain ⟨b, e, h1, h2, h3, h4, h5, h6, h7, h8⟩ := h
  exact ⟨b, e, h1.below hb, h2, h3, h4, h5, h6, h7, h8.below hb h8.lt⟩
theorem Rw.mid {n N lo hi : Nat} {W W' : World} {g : Nat} {s c s' c' : Int} {v : Value} {ls : Tri} (h : Rw n N W g s c s' c' v ls) (hm : Mid lo hi W W') (ho : hi ≤ n ∨ N ≤ lo) : Rw n N W' g s c s' c' v ls := by
  obtain ⟨b, e, h1, h2, h3, h4, h5, h6, h7, h8⟩ := h
  exact ⟨b, e, h1.mid hm (by omega), h2, h3, h4, h5, h6, h7, h8.mid hm (by omega)⟩
/-- its row is marked -/
theorem Rw.mark {n N : Nat} {W : World} {g : Nat} {s c s' c' : Int} {v : Value} {ls : Tri} (h : Rw n N W g s c s' c' v ls) (q : Int) (h0 : 0 ≤ q) (hq : q + 3 * ls.length ≤ 1152921504606846976) :
    Calls Try.prog 26 #[.agg (D5 s c s' c' v), .int .i64 q] W fun e W' => e = .returned (.int .i64 (q + 3 * ls.length)) ∧ Rw n N W' g s c s' c' v (mkT q ls.length) ∧ Mid n N W W' := by
  obtain ⟨b, e, h1, h2, h3, h4, h5, h6, h7, h8⟩ := h
  refine (markDuo_c s c s' c' v ls q b e W h1 h0 hq).mono ?_
  rintro _ W' ⟨rfl, o1, m1⟩
  exact ⟨rfl, ⟨b, e, o1, h2, h3, h4, h5, h6, h7, h8.mid m1 (by omega)⟩, m1.mono h2 h4⟩
/-- what an event makes, told once for both -/
theorem evM_t (s c s' c' : Int) (v : Value) (ls : Tri) (k i : Int) (w : World) (h : Rt w v ls) (hn : ls.length ≤ 1048576) (d : Dt) (ok : Bool) (h1 : DOk s c s' c' ls → (d, ok) = doE (s, c, s', c', ls) k i) (h2 : ¬ DOk s c s' c' ls → (d, ok) = ((s, c, s', c', ls), false)) :
    Calls Try.prog 13 #[.agg (D5 s c s' c' v), .agg (H2 k i)] w (DuR w.heap.size w (.slice none 0 0) d ok) := by
  refine (evM_c s c s' c' v ls k i w h hn).mono ?_
  rintro e w' ⟨r, r1, r2, r3⟩
  have : r = (d, ok) := by
    by_cases hd : DOk s c s' c' ls
    · rw [r1 hd, h1 hd]
    · rw [r2 hd, h2 hd]
  subst this; exact r3
theorem evI_t (s c s' c' : Int) (v : Value) (ls : Tri) (k i : Int) (w : World) (h : Rt w v ls) (hn : ls.length ≤ 1048576) (d : Dt) (ok : Bool) (h1 : DOk s c s' c' ls → (d, ok) = doE (s, c, s', c', ls) k i) (h2 : ¬ DOk s c s' c' ls → (d, ok) = ((s, c, s', c', ls), false)) :
    Calls Try.prog 12 #[.agg (D5 s c s' c' v), .agg (H2 k i)] w (DuR w.heap.size w (.slice none 0 0) d ok) := by
  refine (evI_c s c s' c' v ls k i w h hn).mono ?_
  rintro e w' ⟨r, r1, r2, r3⟩
  have : r = (d, ok) := by
    by_cases hd : DOk s c s' c' ls
    · rw [r1 hd, h1 hd, ev_same s c s' c' ls k i hd]
    · rw [r2 hd, h2 hd]
  subst this; exact r3
theorem ev_told (s c s' c' : Int) (ls : Tri) (k i : Int) (hn : ls.length ≤ 1048576) : ∃ (t1 t2 t3 t4 : Int) (tl : Tri) (ok : Bool), (DOk s c s' c' ls → ((t1, t2, t3, t4, tl), ok) = doE (s, c, s', c', ls) k i) ∧ (¬ DOk s c s' c' ls → ((t1, t2, t3, t4, tl), ok) = ((s, c, s', c', ls), false)) ∧ tl.length ≤ 1048576 := by
  by_cases hd : DOk s c s' c' ls
  · obtain ⟨⟨⟨t1, t2, t3, t4, tl⟩, ok⟩, hT⟩ : ∃ T, doE (s, c, s', c', ls) k i = T := ⟨_, rfl⟩
    refine ⟨t1, t2, t3, t4, tl, ok, fun _ => hT.symm, fun h => absurd hd h, ?_⟩
    have hl := hd.2.2.2.2.2.2.1
    unfold doE at hT
    split at hT
    · rename_i hh
      have h2 := hh.2
      have := congrArg (fun x => x.1.2.2.2.2.length) hT
      simp only at this
      omega
    · have := congrArg (fun x => x.1.2.2.2.2.length) hT
      simp only at this
      omega
  · exact ⟨s, c, s', c', ls, false, fun h => absurd h hd, fun _ => rfl, hn⟩

end Go.Proofs.Ytljejjfhlpjlfaa
