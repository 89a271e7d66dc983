/- What Release answers, and the contract of the model's; nothing is too long; no condition. -/
import Derived.Test.YtikhfeafbckjlaaDoorFDel
import Derived.Test.YtikhfeafbckjlaaDoorFOk
import Derived.Test.YtikhfeafbckjlaaDoorFCp
import Derived.Test.YtikhfeafbckjlaaDoorFMk
namespace Go.Proofs.YtikhfeafbckjlaaDoor
open Go.RowKit Go.ChangeShapes Go.WideShapes Go.ChangeAt
set_option linter.unusedVariables false
set_option linter.unusedSimpArgs false
set_option maxRecDepth 8000
/-- what is left when the path of an inlet is taken out, and the answer -/
def RelS (s p m f : Int) (ps ps' : Tri) (c : Int) : Prop :=
  (¬ (FOk s p m ps ∧ FEnd (s * p) f) ∧ ps' = ps ∧ c = 1) ∨ ((FOk s p m ps ∧ FEnd (s * p) f) ∧ None3 (fun x => x.1 == f) ps ∧ ps' = ps ∧ c = 2) ∨
  ((FOk s p m ps ∧ FEnd (s * p) f) ∧ ∃ k, Fst (fun x => x.1 == f) ps k ∧ ps' = ps.eraseIdx k ∧ c = 0)
theorem Fst.same {q : Int × Int × Int → Bool} {ps : Tri} {k k' : Nat} (h : Fst q ps k) (h' : Fst q ps k') : k = k' := by
  obtain ⟨l, a, b⟩ := h
  obtain ⟨l', a', b'⟩ := h'
  rcases Nat.lt_trichotomy k k' with e | e | e
  · have := b' k e; rw [a] at this; cases this
  · exact e
  · have := b k' e; rw [a'] at this; cases this
theorem Fst.some {q : Int × Int × Int → Bool} {ps : Tri} {k : Nat} (h : Fst q ps k) (h' : None3 q ps) : False := by
  obtain ⟨l, a, b⟩ := h
  have := h' k l; rw [a] at this; cases this
theorem RelS.same {s p m f : Int} {ps a b : Tri} {c d : Int} (h : RelS s p m f ps a c) (h' : RelS s p m f ps b d) : a = b ∧ c = d := by
  rcases h with ⟨h1, rfl, rfl⟩ | ⟨h1, h2, rfl, rfl⟩ | ⟨h1, k, h2, rfl, rfl⟩ <;> rcases h' with ⟨g1, rfl, rfl⟩ | ⟨g1, g2, rfl, rfl⟩ | ⟨g1, k', g2, rfl, rfl⟩
  · exact ⟨rfl, rfl⟩
  · exact absurd g1 h1
  · exact absurd g1 h1
  · exact absurd h1 g1
  · exact ⟨rfl, rfl⟩
  · exact (g2.some h2).elim
  · exact absurd h1 g1
  · exact (h2.some g2).elim
  · rw [h2.same g2]; exact ⟨rfl, rfl⟩
theorem RelS.len {s p m f : Int} {ps a : Tri} {c : Int} (h : RelS s p m f ps a c) : a.length ≤ ps.length := by
  rcases h with ⟨h1, rfl, rfl⟩ | ⟨h1, h2, rfl, rfl⟩ | ⟨h1, k, h2, rfl, rfl⟩
  · exact Nat.le_refl _
  · exact Nat.le_refl _
  · exact List.length_eraseIdx_le ..
def RelR (s p m f : Int) (ps : Tri) (w : World) (e : Ending) (w' : World) : Prop := ∃ v' ps' c, e = .returned (.tuple #[.agg (F4 s p m v'), .int .i64 c]) ∧ RelS s p m f ps ps' c ∧ Ot 35 w.heap.size w' v' ps' ∧ Below w.heap.size w w'
theorem results_F {fn : Func} {p u : Tmp} (h : fn.results = #[.cell p 26, .tmp u]) (tmps : Array Value) (w : World) (g : Nat) (s q m : Int) (v x : Value)
    (hp : tmps.getD p undef = .pointer (some ⟨g, 0, none⟩)) (hx : tmps.getD u undef = x) (hg : Blk w g (F4 s q m v) 26) :
    (results fn tmps).run Tryd.prog w = .ok (.tuple #[.agg (F4 s q m v), x]) w := by
  have hp' : tmps[p]?.getD undef = .pointer (some ⟨g, 0, none⟩) := by simpa using hp
  have hx' : tmps[u]?.getD undef = x := by simpa using hx
  have hr := run_loadVar_row (P := Tryd.prog) w g 26 26 (F4 s q m v) (0, 0) _ hg Tryd.underlying26 rfl size29
  simp [results, h, hp', hx', asAddr, hr]
/-- a fabric is stored into a block of its own -/
theorem putF {W : World} {r : Nat} {a b c : Int} {d : Value} (h : Blk W r (F4 a b c d) 26) (s p m : Int) (V : Value) : Blk ((((W.setCell ⟨r, 0, none⟩ (.int .i64 s)).setCell ⟨r, 1, none⟩ (.int .i64 p)).setCell ⟨r, 2, none⟩ (.int .i64 m)).setCell ⟨r, 3, none⟩ V) r (F4 s p m V) 26 := by
  have := (((h.set 0 (.int .i64 s)).set 1 (.int .i64 p)).set 2 (.int .i64 m)).set 3 V
  simpa using this
theorem grown_put4 (W : World) (r : Nat) (a b c d : Value) : W.grownBy ((((W.setCell ⟨r, 0, none⟩ a).setCell ⟨r, 1, none⟩ b).setCell ⟨r, 2, none⟩ c).setCell ⟨r, 3, none⟩ d) (some r) :=
  grown_trans (grown_trans (grown_trans (grown_set _ _ _ _) (grown_set _ _ _ _)) (grown_set _ _ _ _)) (grown_set _ _ _ _)
theorem Ot.off {base r : Nat} {W W' : World} {V : Value} {ls : Tri} (h : Ot 35 base W V ls) (hg : W.grownBy W' (some r)) (hr : r < base) : Ot 35 base W' V ls :=
  World.ownsRow.kept h hg (.inr (fun e => by have := (World.ownsRow.lt h r e).1; omega))
theorem finF {w W : World} {B r : Nat} {a b c : Int} {d : Value} {s p m : Int} {V : Value} {ls : Tri} (h : Blk W r (F4 a b c d) 26) (hO : Ot 35 (r + 1) W V ls) (hb : Below B w W) (hB : B ≤ r) : ∀ W4, (((W.setCell ⟨r, 0, none⟩ (.int .i64 s)).setCell ⟨r, 1, none⟩ (.int .i64 p)).setCell ⟨r, 2, none⟩ (.int .i64 m)).setCell ⟨r, 3, none⟩ V = W4 →
    Blk W4 r (F4 s p m V) 26 ∧ Ot 35 (r + 1) W4 V ls ∧ Below B w W4 ∧ W4.heap.size = W.heap.size := by
  rintro _ rfl
  exact ⟨putF h s p m V, hO.off (grown_put4 ..) (by omega), hb.trans (grown_below (grown_put4 ..) (by have := h.lt; omega) (fun k e => by cases e; exact hB)), by simp⟩
set_option maxHeartbeats 3200000 in
theorem relM_c (s p m f : Int) (v : Value) (ls : Tri) (w : World) (h : Rt w v ls) (hn : ls.length ≤ 4194304) :
   Calls Tryd.prog 29 #[.agg (F4 s p m v), .int .i64 f] w (RelR s p m f ls w) := by
  obtain ⟨W2, hW2⟩ : ∃ W2, ((w.alloc (Obj.cells (F4 s p m v) 26)).alloc (Obj.cells (F4 0 0 0 (.slice none 0 0)) 26)) = W2 := ⟨_, rfl⟩
  have z2 : W2.heap.size = w.heap.size + 2 := by rw [← hW2]; simp
  have k0 : Blk W2 w.heap.size (F4 s p m v) 26 := hW2 ▸ (Blk.new _ _ _).alloc _
  have k1 : Blk W2 (w.heap.size + 1) (F4 0 0 0 (.slice none 0 0)) 26 := hW2 ▸ Blk.newAt _ _ _ _ (by simp)
  have bl : Below w.heap.size w W2 := hW2 ▸ ((Below.refl _ _).alloc (Nat.le_refl _) _).alloc (by simp) _
  have HC : Hid (Calls Tryd.prog 44 #[.agg (F4 s p m v)] W2 fun e w' => ∃ v', e = .returned (.agg (F4 s p m v')) ∧ Ot 35 W2.heap.size w' v' ls ∧ Below W2.heap.size W2 w') := l3Copy_c s p m v ls W2 (h.below bl) hn
  have HK : Hid (Blk W2 w.heap.size (F4 s p m v) 26 ∧ Blk W2 (w.heap.size + 1) (F4 0 0 0 (.slice none 0 0)) 26 ∧ Below w.heap.size w W2) := ⟨k0, k1, bl⟩
  have HZ : Hid (W2.heap.size = w.heap.size + 2) := z2
  obtain ⟨a, cap, e, -⟩ := h
  obtain ⟨n, hn'⟩ : ∃ n, ls.length = n := ⟨_, rfl⟩
  rw [hn'] at e
  subst e
  have HN : Hid (ls.length = n) := hn'
  have HW2 : Hid (((w.alloc (Obj.cells (F4 s p m (.slice a n cap)) 26)).alloc (Obj.cells (F4 0 0 0 (.slice none 0 0)) 26)) = W2) := hW2
  clear hn' bl k0 k1 hW2 z2
  go_enter Tryd.func29, Tryd.ntmps29
  go_wp2_with (fail)
  rw [HW2.out]
  refine HC.out.mono ?_
  rintro e w3 ⟨v', rfl, o3, b3⟩
  rw [HZ.out] at o3
  have q0 := HK.out.1.below b3 (by rw [HZ.out]; omega)
  have q1 := HK.out.2.1.below b3 (by rw [HZ.out]; omega)
  have b3' : Below w.heap.size w w3 := HK.out.2.2.trans (b3.mono (by rw [HZ.out]; omega))
  obtain ⟨a', cap', hv', hc1, hc2, hc3⟩ := own_form o3
  rw [HN.out] at hv' hc1 hc3
  subst hv'
  have c0 := q0.cell 0
  have c1 := q0.cell 1
  have c2 := q0.cell 2
  have c3 := q0.cell 3
  have f0 := q0.frozen 0
  have f1 := q0.frozen 1
  have f2 := q0.frozen 2
  have f3 := q0.frozen 3
  simp at c0 c1 c2 c3
  have hs3 : w.heap.size + 2 ≤ w3.heap.size := by have := b3.size; have := HZ.out; omega
  have E4 : Hid (∀ W4, (((w3.setCell ⟨w.heap.size, 0, none⟩ (.int .i64 s)).setCell ⟨w.heap.size, 1, none⟩ (.int .i64 p)).setCell ⟨w.heap.size, 2, none⟩ (.int .i64 m)).setCell ⟨w.heap.size, 3, none⟩ (.slice a' n cap') = W4 →
      Blk W4 w.heap.size (F4 s p m (.slice a' n cap')) 26 ∧ Blk W4 (w.heap.size + 1) (F4 0 0 0 (.slice none 0 0)) 26 ∧ Ot 35 (w.heap.size + 2) W4 (.slice a' n cap') ls ∧ Below w.heap.size w W4 ∧ w.heap.size + 2 ≤ W4.heap.size) := by
    intro W4 e
    have g := grown_put4 w3 w.heap.size (.int .i64 s) (.int .i64 p) (.int .i64 m) (.slice a' n cap')
    rw [e] at g
    refine ⟨e ▸ putF q0 s p m _, (g.block _ (by omega) (by simp)).trans q1, o3.off g (by omega), b3'.trans (grown_below g (by omega) (fun k e => by cases e; exact Nat.le_refl _)), by have := g.size; omega⟩
  clear HC HK HW2 q0 q1 b3' b3 o3
  go_wp2_with (fail)
  obtain ⟨W4, hW4⟩ : ∃ W4, (((w3.setCell ⟨w.heap.size, 0, none⟩ (.int .i64 s)).setCell ⟨w.heap.size, 1, none⟩ (.int .i64 p)).setCell ⟨w.heap.size, 2, none⟩ (.int .i64 m)).setCell ⟨w.heap.size, 3, none⟩ (.slice a' n cap') = W4 := ⟨_, rfl⟩
  rw [hW4]
  obtain ⟨k0, k1, o4, b4, s4⟩ := E4.out W4 hW4
  have HD : Hid (Blk W4 w.heap.size (F4 s p m (.slice a' n cap')) 26 ∧ Blk W4 (w.heap.size + 1) (F4 0 0 0 (.slice none 0 0)) 26 ∧ Ot 35 (w.heap.size + 2) W4 (.slice a' n cap') ls ∧ Below w.heap.size w W4) := ⟨k0, k1, o4, b4⟩
  clear hW4 E4 c0 c1 c2 c3 f0 f1 f2 f3
  refine (ok_c s p m _ ls W4 o4.rd).mono ?_
  rintro e w5 ⟨r, rfl, hr, b5⟩
  have HR : Hid (r = true ↔ FOk s p m ls) := hr
  have D5 : Hid (Blk w5 w.heap.size (F4 s p m (.slice a' n cap')) 26 ∧ Blk w5 (w.heap.size + 1) (F4 0 0 0 (.slice none 0 0)) 26 ∧ Ot 35 (w.heap.size + 2) w5 (.slice a' n cap') ls ∧ Below w.heap.size w w5) := ⟨k0.below b5 (by omega), k1.below b5 (by omega), o4.below b5, b4.trans (b5.mono (by omega))⟩
  have s5 : w.heap.size + 2 ≤ w5.heap.size := by have := b5.size; omega
  clear HD k0 k1 o4 b4 b5 s4 hr
  have c0 := D5.out.1.cell 0
  have c1 := D5.out.1.cell 1
  have c2 := D5.out.1.cell 2
  have c3 := D5.out.1.cell 3
  have r0 := D5.out.2.1.cell 0
  have r1 := D5.out.2.1.cell 1
  have r2 := D5.out.2.1.cell 2
  have r3 := D5.out.2.1.cell 3
  have f0 := D5.out.2.1.frozen 0
  have f1 := D5.out.2.1.frozen 1
  have f2 := D5.out.2.1.frozen 2
  have f3 := D5.out.2.1.frozen 3
  simp at c0 c1 c2 c3 r0 r1 r2 r3
  have hq0 : w.heap.size < w5.heap.size := by omega
  have hq1 : w.heap.size + 1 < w5.heap.size := by omega
  have FIN : Hid (∀ W (c : Int) V ls', Blk W (w.heap.size + 1) (F4 0 0 0 (.slice none 0 0)) 26 → Ot 35 (w.heap.size + 2) W V ls' → Below w.heap.size w W → ∀ W4, (((W.setCell ⟨w.heap.size + 1, 0, none⟩ (.int .i64 s)).setCell ⟨w.heap.size + 1, 1, none⟩ (.int .i64 p)).setCell ⟨w.heap.size + 1, 2, none⟩ (.int .i64 m)).setCell ⟨w.heap.size + 1, 3, none⟩ V = W4 →
      Blk W4 (w.heap.size + 1) (F4 s p m V) 26 ∧ (RelS s p m f ls ls' c → RelR s p m f ls w (.returned (.tuple #[.agg (F4 s p m V), .int .i64 c])) W4)) := by
    intro W c V ls' h1 h2 h3 W4 e
    obtain ⟨g1, g2, g3, -⟩ := finF h1 h2 h3 (by omega) W4 e
    exact ⟨g1, fun hS => ⟨_, _, _, rfl, hS, g2.mono (by omega), g3⟩⟩
  cases r with
  | false =>
    have HS : Hid (RelS s p m f ls ls 1) := .inl ⟨fun h => (by have := HR.out.2 h.1; cases this), rfl, rfl⟩
    go_wp2
    exact bodyPost_ret (v := .tuple #[.agg (F4 s p m (.slice a' n cap')), .int .i64 1]) (results_F rfl _ _ _ _ _ _ _ _ rfl rfl (FIN.out w5 1 _ _ D5.out.2.1 D5.out.2.2.1 D5.out.2.2.2 _ rfl).1) rfl ((FIN.out w5 1 _ _ D5.out.2.1 D5.out.2.2.1 D5.out.2.2.2 _ rfl).2 HS.out)
  | true =>
  have hok := HR.out.1 rfl
  obtain ⟨hn1, hn2⟩ := sides hok.1 hok.2.1
  have HOK : Hid (FOk s p m ls) := hok
  clear hok HR
  go_wp2_with (fail)
  refine (end_c s p m (s * p) _ f w5 rfl hn1 hn2).mono ?_
  rintro e w6 ⟨rfl, b6⟩
  have D6 : Hid (Blk w6 w.heap.size (F4 s p m (.slice a' n cap')) 26 ∧ Blk w6 (w.heap.size + 1) (F4 0 0 0 (.slice none 0 0)) 26 ∧ Ot 35 (w.heap.size + 2) w6 (.slice a' n cap') ls ∧ Below w.heap.size w w6) := ⟨D5.out.1.below b6 (by omega), D5.out.2.1.below b6 (by omega), D5.out.2.2.1.below b6, D5.out.2.2.2.trans (b6.mono (by omega))⟩
  have s6 : w.heap.size + 2 ≤ w6.heap.size := by have := b6.size; omega
  clear D5 b6 c0 c1 c2 c3 r0 r1 r2 r3 f0 f1 f2 f3 hq0 hq1 s5
  have c0 := D6.out.1.cell 0
  have c1 := D6.out.1.cell 1
  have c2 := D6.out.1.cell 2
  have c3 := D6.out.1.cell 3
  have r0 := D6.out.2.1.cell 0
  have r1 := D6.out.2.1.cell 1
  have r2 := D6.out.2.1.cell 2
  have r3 := D6.out.2.1.cell 3
  have e3 := D6.out.1.frozen 3
  have f0 := D6.out.2.1.frozen 0
  have f1 := D6.out.2.1.frozen 1
  have f2 := D6.out.2.1.frozen 2
  have f3 := D6.out.2.1.frozen 3
  simp at c0 c1 c2 c3 r0 r1 r2 r3
  have hq0 : w.heap.size < w6.heap.size := by omega
  have hq1 : w.heap.size + 1 < w6.heap.size := by omega
  by_cases hE : FEnd (s * p) f
  case neg =>
    have hd : decide (FEnd (s * p) f) = false := decide_eq_false hE
    rw [hd]
    have HS : Hid (RelS s p m f ls ls 1) := .inl ⟨fun h => hE h.2, rfl, rfl⟩
    clear hE hd
    go_wp2
    exact bodyPost_ret (v := .tuple #[.agg (F4 s p m (.slice a' n cap')), .int .i64 1]) (results_F rfl _ _ _ _ _ _ _ _ rfl rfl (FIN.out w6 1 _ _ D6.out.2.1 D6.out.2.2.1 D6.out.2.2.2 _ rfl).1) rfl ((FIN.out w6 1 _ _ D6.out.2.1 D6.out.2.2.1 D6.out.2.2.2 _ rfl).2 HS.out)
  case pos =>
  have hd : decide (FEnd (s * p) f) = true := decide_eq_true hE
  rw [hd]
  have HFE : Hid (FOk s p m ls ∧ FEnd (s * p) f) := ⟨HOK.out, hE⟩
  clear hE hd HOK
  go_wp2
  go_loopw [6] (fun i wr => ∃ j : Nat, j ≤ n ∧ i = .int .i64 j ∧ wr = w6 ∧ Hid (∀ t (ht : t < ls.length), t < j → (ls[t].1 == f) = false)) (fun i _ => n - (intOf i).toNat)
  case atStart => exact ⟨0, Nat.zero_le _, rfl, rfl, fun t _ h => by omega⟩
  case round =>
    obtain ⟨j, hj, rfl, rfl, hA⟩ := hrel
    have hnm : n ≤ 4194304 := by have := HN.out; omega
    by_cases hlt : j < n
    case neg =>
      obtain rfl : j = n := by omega
      have HS : Hid (RelS s p m f ls ls 2) := .inr (.inl ⟨HFE.out, fun t ht => hA.out t ht (by have := HN.out; omega), rfl, rfl⟩)
      go_wp2
      exact bodyPost_ret (v := .tuple #[.agg (F4 s p m (.slice a' j cap')), .int .i64 2]) (results_F rfl _ _ _ _ _ _ _ _ rfl rfl (FIN.out wr 2 _ _ D6.out.2.1 D6.out.2.2.1 D6.out.2.2.2 _ rfl).1) rfl ((FIN.out wr 2 _ _ D6.out.2.1 D6.out.2.2.1 D6.out.2.2.2 _ rfl).2 HS.out)
    case pos =>
    obtain ⟨g, rfl⟩ : ∃ g, a' = some ⟨g, 0, none⟩ := by
      rcases hc3 with h | h
      · omega
      · exact h
    have hjl : j < ls.length := by have := HN.out; omega
    have hO : wr.ownsRow (w.heap.size + 2) 35 3 (.slice (some ⟨g, 0, none⟩) n cap') n (tr ls) := by have := D6.out.2.2.1; rw [Ot, HN.out] at this; exact this
    have hp := tr_at ls j hjl
    obtain ⟨x, ex⟩ : ∃ x, ls[j].1 = x := ⟨_, rfl⟩
    have d0 : wr.cell? ⟨g, j * 3, none⟩ = some (.int .i64 x) := by rw [← ex]; exact (World.ownsRow.cellAt hO (j * 3) (by omega)).trans hp.1
    have hgl := World.ownsRow.lt hO g rfl
    have HOW : Hid (wr.ownsRow (w.heap.size + 2) 35 3 (.slice (some ⟨g, 0, none⟩) n cap') n (tr ls)) := hO
    have HEX : Hid (ls[j].1 = x) := ex
    clear hO hp ex
    by_cases hxf : x = f
    case neg =>
      have hb : (x == f) = false := by simpa using hxf
      have HA : Hid (∀ t (ht : t < ls.length), t < j + 1 → (ls[t].1 == f) = false) := fun t ht h => by
        by_cases htj : t < j
        · exact hA.out t ht htj
        · obtain rfl : t = j := by omega
          rw [HEX.out]; exact hb
      clear hxf hA
      go_wp2
      go_roundw
      case rel => exact ⟨j + 1, by omega, by go_num, by first | rfl | trivial, HA.out⟩
      case measure => simp [intOf]; omega
    case pos =>
    subst hxf
    have HF : Hid (Fst (fun y => y.1 == x) ls j) := ⟨hjl, (by simp [HEX.out]), fun i hi => hA.out i _ hi⟩
    have HS : Hid (RelS s p m x ls (ls.eraseIdx j) 0) := .inr (.inr ⟨HFE.out, j, HF.out, rfl, rfl⟩)
    have hxx : (x == x) = true := by simp
    obtain ⟨mm, rfl⟩ : ∃ mm, n = mm + 1 := ⟨n - 1, by omega⟩
    have hsub : mm + 1 - (j + 1) = mm - j := by omega
    have hjm : j ≤ mm := by omega
    have HC3 : Hid (wr.cell? ⟨w.heap.size, 3, none⟩ = some (.slice (some ⟨g, 0, none⟩) (mm + 1) cap')) := c3
    clear hA HF HFE
    go_wp2
    obtain ⟨S, hS⟩ : ∃ S : World → Prop, ∀ W, S W ↔ W.cell? ⟨w.heap.size, 3, none⟩ = some (.slice (some ⟨g, 0, none⟩) (mm + 1) cap') := ⟨_, fun _ => Iff.rfl⟩
    have zz : ∀ W : At S, W.wd.cell? ⟨w.heap.size, 3, none⟩ = some (.slice (some ⟨g, 0, none⟩) (mm + 1) cap') := fun W => (hS _).1 W.ok
    have HSI : Hid (∀ W, W.cell? ⟨w.heap.size, 3, none⟩ = some (.slice (some ⟨g, 0, none⟩) (mm + 1) cap') → S W) := fun W h => (hS W).2 h
    have ne2 : Nonempty (At S) := ⟨⟨wr, HSI.out _ c3⟩⟩
    clear hS
    refine region_mixA [true, true, true, true, true, true, true, true, true, false, false, false] 10 1 S (by kernel_rfl) rfl (by kernel_rfl) (fun _ _ _ _ _ h => h) (HSI.out _ HC3.out) ?_
    simp only [selT, selF]
    repeat (go_big_quiet_step (fail))
    refine wpQuiet_nil ?_
    clear ne2 zz
    obtain ⟨ad, had⟩ : ∃ ad, (if cap' = j + 1 then some (⟨g, 0, none⟩ : Addr) else some ⟨g, (j + 1) * 3, none⟩) = ad := ⟨_, rfl⟩
    rw [had]
    have HAD : Hid ((if cap' = j + 1 then some (⟨g, 0, none⟩ : Addr) else some ⟨g, (j + 1) * 3, none⟩) = ad) := had
    clear had
    refine tail_step ?_
    go_wp2_with (at_builtin; refine cutTri rfl _ _ rfl (w.heap.size + 2) g mm cap' j ls (World.ownsRow.drew HOW.out) HN.out hjm rfl ad (cap' - (j + 1)) HAD.out (by rw [hsub]; rfl) ?_)
    intro w7 ho7 hg7
    have hg7' : wr.grownBy w7 (some g) := ⟨hg7.os, hg7.tape, hg7.output, hg7.size, hg7.block⟩
    have m0 : Blk w7 w.heap.size (F4 s p m (.slice (some ⟨g, 0, none⟩) (mm + 1) cap')) 26 := (hg7'.block _ (by omega) (by simp; omega)).trans D6.out.1
    have m1 : Blk w7 (w.heap.size + 1) (F4 0 0 0 (.slice none 0 0)) 26 := (hg7'.block _ (by omega) (by simp; omega)).trans D6.out.2.1
    have o7 : Ot 35 (w.heap.size + 2) w7 (.slice (some ⟨g, 0, none⟩) mm cap') (ls.eraseIdx j) := by
      have e : (ls.eraseIdx j).length = mm := by rw [List.length_eraseIdx_of_lt hjl, HN.out]; omega
      rw [Ot, e]; exact ho7
    have b7 : Below w.heap.size w w7 := D6.out.2.2.2.trans (grown_below hg7' (by omega) (fun k e => by cases e; omega))
    have U1 : Hid (S w7) := HSI.out _ (by have := m0.cell 3; simpa using this)
    have s7 : w.heap.size + 2 ≤ w7.heap.size := by have := hg7'.size; omega
    have HD7 : Hid (Blk (w7.setCell ⟨w.heap.size, 3, none⟩ (.slice (some ⟨g, 0, none⟩) mm cap')) (w.heap.size + 1) (F4 0 0 0 (.slice none 0 0)) 26 ∧ Ot 35 (w.heap.size + 2) (w7.setCell ⟨w.heap.size, 3, none⟩ (.slice (some ⟨g, 0, none⟩) mm cap')) (.slice (some ⟨g, 0, none⟩) mm cap') (ls.eraseIdx j) ∧ Below w.heap.size w (w7.setCell ⟨w.heap.size, 3, none⟩ (.slice (some ⟨g, 0, none⟩) mm cap'))) :=
      ⟨m1.other _ _ (by dsimp only; omega), o7.off (grown_set ..) (by omega), b7.setCell (Nat.le_refl _) _⟩
    clear c0 c1 c2 c3 r0 r1 r2 r3 f0 f1 f2 f3 e3 hg7 hg7' ho7 o7 b7 D6 HOW hgl hq0 hq1 s6 d0 HC3
    have c0 := m0.cell 0
    have c1 := m0.cell 1
    have c2 := m0.cell 2
    have c3 := m0.cell 3
    have e3 := m0.frozen 3
    have r0 := m1.cell 0
    have r1 := m1.cell 1
    have r2 := m1.cell 2
    have r3 := m1.cell 3
    have f0 := m1.frozen 0
    have f1 := m1.frozen 1
    have f2 := m1.frozen 2
    have f3 := m1.frozen 3
    simp at c0 c1 c2 c3 r0 r1 r2 r3
    clear m0 m1
    go_wp2
    refine ⟨U1.out, tail_end ?_⟩
    go_wp2
    exact bodyPost_ret (v := .tuple #[.agg (F4 s p m (.slice (some ⟨g, 0, none⟩) mm cap')), .int .i64 0]) (results_F rfl _ _ _ _ _ _ _ _ rfl rfl (FIN.out _ 0 _ _ HD7.out.1 HD7.out.2.1 HD7.out.2.2 _ rfl).1) rfl ((FIN.out _ 0 _ _ HD7.out.1 HD7.out.2.1 HD7.out.2.2 _ rfl).2 HS.out)
end Go.Proofs.YtikhfeafbckjlaaDoor
