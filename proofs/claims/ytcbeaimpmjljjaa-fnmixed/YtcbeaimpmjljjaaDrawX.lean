/- draw a panel and levels; no condition. -/
import Derived.Test.YtcbeaimpmjljjaaDrawR
import Derived.Test.YtcbeaimpmjljjaaDrawK
import Derived.Test.YtcbeaimpmjljjaaDrawL
namespace Go.Proofs.Ytcbeaimpmjljjaa
open Go.RowKit Go.ChangeShapes Go.WideShapes Go.ChangeAt
set_option linter.unusedVariables false
set_option linter.unusedSimpArgs false
set_option maxRecDepth 8000
def DrX (w : World) (e : Ending) (w' : World) : Prop := ∃ (n : Int) (V : Value) (cs : Calls2) (U : Value) (lev : List Int), e = .returned (.tuple #[.agg #[.int .i64 n, V], U]) ∧ RdC w' V cs ∧ Rd .i64 w' U lev ∧ lev.length ≤ 50 ∧ Below w.heap.size w w'
set_option maxHeartbeats 6400000 in
theorem drawMix_c (v : Value) (zs : List Int) (w : World) (h : Rd .u8 w v zs) (hok : ∀ z ∈ zs, 0 ≤ z ∧ z ≤ 255) (hlen : zs.length ≤ 1048576) :
   Calls Try.prog 27 #[v] w (DrX w) := by
  have kb : Below w.heap.size w (w.alloc (Obj.cells #[.int .i64 0, .slice none 0 0] 26)) := (Below.refl _ _).alloc (Nat.le_refl _) _
  have KB : Hid (Below w.heap.size w (w.alloc (Obj.cells #[.int .i64 0, .slice none 0 0] 26))) := kb
  have HK : Hid (Blk (w.alloc (Obj.cells #[.int .i64 0, .slice none 0 0] 26)) w.heap.size #[.int .i64 0, .slice none 0 0] 26) := Blk.new _ _ _
  have HR : Hid (Rd .u8 (w.alloc (Obj.cells #[.int .i64 0, .slice none 0 0] 26)) v zs) := h.below kb
  have HZ : Hid (∀ z ∈ zs, 0 ≤ z ∧ z ≤ 255) := hok
  clear h hok kb
  go_enter Try.func27, Try.ntmps27
  go_wp2_with (fail)
  refine (new_c _ zs _ HR.out HZ.out hlen).mono ?_
  rintro e w2 ⟨g, rfl, d2, hg, b2⟩
  have k2 : Blk w2 w.heap.size #[.int .i64 0, .slice none 0 0] 26 := HK.out.below b2 HK.out.lt
  have B2 : Hid (Below w.heap.size w w2) := belowCall KB.out b2 KB.out.size
  have D2 : Hid (Dr w2 g v zs) := d2
  have hgl : w.heap.size < g := by have : (w.alloc (Obj.cells #[.int .i64 0, .slice none 0 0] 26)).heap.size = w.heap.size + 1 := by simp
                                   omega
  have K2 : Hid (Blk w2 w.heap.size #[.int .i64 0, .slice none 0 0] 26) := k2
  clear KB HK HR d2 hg b2 k2
  go_wp2_with (fail)
  refine (drawAnyB_c g _ zs _ D2.out).mono ?_
  rintro e w3 ⟨n, V, cs, rfl, o3, l3, n3, d3, g3⟩
  obtain ⟨a2, c2, ln2, hV⟩ : ∃ a2 c2 ln2, V = .slice a2 ln2 c2 := by
    obtain ⟨lv, -, hrow, -⟩ := o3
    obtain ⟨a2, c2, hV, -⟩ := own_form hrow
    exact ⟨a2, c2, _, hV⟩
  subst hV
  have k3 : Blk w3 w.heap.size #[.int .i64 0, .slice none 0 0] 26 := K2.out.grownE g3 (by omega)
  have hs2 : w.heap.size < w2.heap.size := K2.out.lt
  have hg2 : g < w2.heap.size := D2.out.lt
  have B3 : Hid (Below w.heap.size w w3) := B2.out.trans (grown_below g3 (by omega) (fun k e => by cases e; omega))
  have K3 : Hid (Blk w3 w.heap.size #[.int .i64 0, .slice none 0 0] 26) := k3
  have D3 : Hid (Dr w3 g v zs) := d3
  have O3 : Hid (OwC w2.heap.size w3 (.slice a2 ln2 c2) cs) := o3
  obtain ⟨W5, hW5⟩ : ∃ W5, w3.alloc (Obj.cells #[.int .i64 n, .slice a2 ln2 c2] 26) = W5 := ⟨_, rfl⟩
  obtain ⟨b5, hb5⟩ : ∃ b5, b5 = w3.heap.size := ⟨_, rfl⟩
  have ba : Below w3.heap.size w3 W5 := hW5 ▸ (Below.refl _ _).alloc (Nat.le_refl _) _
  have hsz : W5.heap.size = b5 + 1 := by rw [← hW5, hb5]; simp
  have D5 : Hid (Dr W5 g v zs) := D3.out.below ba
  have B5 : Hid (Below w.heap.size w W5) := belowCall B3.out ba B3.out.size
  have K5 : Hid (Blk W5 w.heap.size #[.int .i64 0, .slice none 0 0] 26) := K3.out.below ba K3.out.lt
  have X5 : Hid (Blk W5 b5 #[.int .i64 n, .slice a2 ln2 c2] 26) := hb5 ▸ hW5 ▸ Blk.new _ _ _
  have P5 : Hid (OwCH w2.heap.size b5 W5 (.slice a2 ln2 c2) cs) := hb5 ▸ O3.out.hi.below ba
  have hb2 : w2.heap.size ≤ b5 := by have := g3.size; omega
  have FIN : Hid (∀ W U lev, W5.grownBy W (some g) → Ow .i64 3 W5.heap.size W U lev → lev.length ≤ 50 → ∀ W4, (W.setCell ⟨w.heap.size, 0, none⟩ (.int .i64 n)).setCell ⟨w.heap.size, 1, none⟩ (.slice a2 ln2 c2) = W4 → Blk W4 w.heap.size #[.int .i64 n, .slice a2 ln2 c2] 26 ∧ DrX w (.returned (.tuple #[.agg #[.int .i64 n, .slice a2 ln2 c2], U])) W4) := by
    rintro W U lev hgr ho hll _ rfl
    have hne : U.ownBlock ≠ some w.heap.size := fun e => by have := (World.ownsRow.lt ho _ e).1; omega
    refine ⟨?_, n, _, cs, U, lev, rfl, ?_, ?_, hll, ?_⟩
    · have := ((K5.out.grownE hgr (by omega)).set 0 (.int .i64 n)).set 1 (.slice a2 ln2 c2)
      simpa using this
    · exact (((P5.out.off1 hgr (.inl hg2)).off1 (grown_set _ _ _ _) (.inl hs2)).off1 (grown_set _ _ _ _) (.inl hs2)).ow.rd
    · have o1 : Ow .i64 3 W5.heap.size _ U lev := World.ownsRow.kept (World.ownsRow.kept ho (grown_set W w.heap.size 0 (.int .i64 n)) (.inr hne)) (grown_set _ w.heap.size 1 (.slice a2 ln2 c2)) (.inr hne)
      exact o1.rd
    · exact ((B5.out.trans (grown_below hgr (by omega) (fun k e => by cases e; omega))).setCell (p := ⟨w.heap.size, 0, none⟩) (Nat.le_refl _) _).setCell (p := ⟨w.heap.size, 1, none⟩) (Nat.le_refl _) _
  have BX : Hid (∀ W, W5.grownBy W (some g) → (W.cell? ⟨b5, 0, none⟩ = some (.int .i64 n) ∧ W.cell? ⟨b5, 1, none⟩ = some (.slice a2 ln2 c2) ∧ b5 < W.heap.size) ∧ (W.cell? ⟨w.heap.size, 0, none⟩ = some (.int .i64 0) ∧ W.cell? ⟨w.heap.size, 1, none⟩ = some (.slice none 0 0) ∧ W.frozen? ⟨w.heap.size, 0, none⟩ = false ∧ W.frozen? ⟨w.heap.size, 1, none⟩ = false ∧ w.heap.size < W.heap.size)) := fun W hgr => by
    have q := X5.out.grownE hgr (by omega)
    have r := K5.out.grownE hgr (by omega)
    exact ⟨⟨q.cell 0, q.cell 1, q.lt⟩, r.cell 0, r.cell 1, r.frozen 0, r.frozen 1, r.lt⟩
  have HW5 : Hid (w3.alloc (Obj.cells #[.int .i64 n, .slice a2 ln2 c2] 26) = W5) := hW5
  have HB5 : Hid (b5 = w3.heap.size) := hb5
  have HSZ : Hid (W5.heap.size = b5 + 1) := hsz
  have hwb : w.heap.size < b5 := by omega
  have hgb : g < b5 := by omega
  have nb1 : ¬ (w.heap.size = b5) := by omega
  have nb2 : ¬ (b5 = w.heap.size) := by omega
  clear k3 o3 d3 g3 K2 B2 D2 hW5 hb5 ba hsz D3 K3 O3 B3 l3
  go_wp2_with (fail)
  rw [HW5.out, ← HB5.out]
  refine (drawLevels_c g _ zs n _ D5.out (by omega)).mono ?_
  rintro e w6 ⟨U, lev, rfl, o6, l6, d6, g6⟩
  obtain ⟨au, cu, hU, u1, u2, u3⟩ := own_form o6
  subst hU
  have hl6 : lev.length ≤ 41 := by omega
  have D6 : Hid (Dr w6 g v zs) := d6
  have G6 : Hid (W5.grownBy w6 (some g)) := g6
  have O6 : Hid (Ow .i64 3 W5.heap.size w6 (.slice au lev.length cu) lev) := o6
  clear o6 d6 g6 l6
  go_wp2_with (fail)
  refine (below_c g _ zs 25 _ D6.out (by decide)).mono ?_
  rintro e w7 ⟨x, rfl, x0, x1, -, d7, g7⟩
  have D7 : Hid (Dr w7 g v zs) := d7
  have G7 : Hid (W5.grownBy w7 (some g)) := grown_trans G6.out g7
  have O7 : Hid (Ow .i64 3 W5.heap.size w7 (.slice au lev.length cu) lev) := World.ownsRow.kept O6.out g7 (.inr (fun e => by have := (World.ownsRow.lt O6.out _ e).1; have := HSZ.out; omega))
  have x2 := x1 (by decide)
  obtain ⟨⟨c0, c1, c2'⟩, r0, r1, f0, f1, hwl⟩ := BX.out w7 G7.out
  clear D6 G6 O6 d7 g7 x1
  by_cases h0 : x = 0
  · subst h0
    have hb9 : W5.heap.size ≤ w7.heap.size := G7.out.size
    have HO2 : Hid (Ow .i64 3 W5.heap.size (w7.alloc (Obj.cells #[.int .i64 0] 3)) (.slice au lev.length cu) lev) := World.ownsRow.alloc O7.out _
    have HC2 : Hid ((w7.alloc (Obj.cells #[.int .i64 0] 3)).cell? ⟨w7.heap.size, 0, none⟩ = some (.int .i64 0)) := by
      show World.cell? _ _ = _
      rw [(Blk.new w7 #[.int .i64 0] 3).cell 0]; rfl
    go_wp2_with (at_builtin; refine appI rfl _ _ rfl W5.heap.size _ lev rfl HO2.out w7.heap.size 0 rfl HC2.out (by omega) (by simp; omega) ?_)
    intro v' w8 ho8 hb8
    have G8 : Hid (W5.grownBy w8 (some g)) := grown_then_below G7.out (((Below.refl _ _).alloc hb9 _).trans hb8)
    have O8 : Hid (Ow .i64 3 W5.heap.size w8 v' (lev ++ [0])) := ho8
    obtain ⟨a8, c8, e8, -, -, -⟩ := own_form ho8
    rw [show (lev ++ [(0 : Int)]).length = lev.length + 1 by simp] at e8
    subst e8
    clear ho8 hb8 HO2 HC2 c0 c1 c2' r0 r1 f0 f1 hwl
    obtain ⟨⟨c0, c1, c2'⟩, r0, r1, f0, f1, hwl⟩ := BX.out w8 G8.out
    go_wp2
    exact bodyPost_ret (v := .tuple #[.agg #[.int .i64 n, .slice a2 ln2 c2], .slice a8 (lev.length + 1) c8]) (results_26 rfl _ _ _ _ _ _ rfl rfl (FIN.out _ _ _ G8.out O8.out (by simp; omega) _ rfl).1) rfl (FIN.out _ _ _ G8.out O8.out (by simp; omega) _ rfl).2
  by_cases h1 : x = 1
  · subst h1
    by_cases hlp : lev.length = 0
    · have hlz : ¬ (0 < (lev.length : Int)) := by omega
      clear hlp
      go_wp2
      exact bodyPost_ret (v := .tuple #[.agg #[.int .i64 n, .slice a2 ln2 c2], .slice au lev.length cu]) (results_26 rfl _ _ _ _ _ _ rfl rfl (FIN.out _ _ _ G7.out O7.out (by omega) _ rfl).1) rfl (FIN.out _ _ _ G7.out O7.out (by omega) _ rfl).2
    · have hlz : (0 : Int) < (lev.length : Int) := by omega
      have hb9 : W5.heap.size ≤ w7.heap.size := G7.out.size
      have hgw : g < w7.heap.size := D7.out.lt
      obtain ⟨bu, rfl⟩ : ∃ bu, au = some ⟨bu, 0, none⟩ := by
        rcases u3 with h | h
        · omega
        · exact h
      have ba : Below w7.heap.size w7 (w7.alloc (Obj.cells #[.int .i64 32768, .int .i64 (-32768)] 3)) := (Below.refl _ _).alloc (Nat.le_refl _) _
      have kl : Blk (w7.alloc (Obj.cells #[.int .i64 32768, .int .i64 (-32768)] 3)) w7.heap.size #[.int .i64 32768, .int .i64 (-32768)] 3 := Blk.new _ _ _
      have HRL : Hid (Rd .i64 (w7.alloc (Obj.cells #[.int .i64 32768, .int .i64 (-32768)] 3)) (.slice (some ⟨w7.heap.size, 0, none⟩) 2 2) [32768, -32768]) := by
        refine ⟨_, 2, rfl, by simp, by simp [maxLen], .inr ⟨w7.heap.size, 0, rfl, fun i hi => ?_⟩⟩
        have hi4 : i < 2 := hi
        rw [Nat.zero_add, kl.cell i]
        rcases i with _ | _ | i
        · rfl
        · rfl
        · omega
      have D8 : Hid (Dr (w7.alloc (Obj.cells #[.int .i64 32768, .int .i64 (-32768)] 3)) g v zs) := D7.out.below ba
      have G8 : Hid (W5.grownBy (w7.alloc (Obj.cells #[.int .i64 32768, .int .i64 (-32768)] 3)) (some g)) := grown_then_below G7.out (ba.mono hb9)
      have O8 : Hid (Ow .i64 3 W5.heap.size (w7.alloc (Obj.cells #[.int .i64 32768, .int .i64 (-32768)] 3)) (.slice (some ⟨bu, 0, none⟩) lev.length cu) lev) := World.ownsRow.alloc O7.out _
      clear ba kl D7 G7 O7
      go_wp2_with (fail)
      refine (pickInt_c g _ zs _ [32768, -32768] _ D8.out HRL.out (.inr (by simp [Value.ownBlock]; omega)) (by decide) (by decide)).mono ?_
      rintro e w9 ⟨y, rfl, -, g9⟩
      have G9 : Hid (W5.grownBy w9 (some g)) := grown_trans G8.out g9
      have hbu := World.ownsRow.lt O8.out bu rfl
      have hsz := HSZ.out
      have o9 : Ow .i64 3 W5.heap.size w9 (.slice (some ⟨bu, 0, none⟩) lev.length cu) lev := World.ownsRow.kept O8.out g9 (.inr (fun e => by have := Option.some.inj e; dsimp only at this; omega))
      have q9 := World.ownsRow.lt o9 bu rfl
      have cu0 : w9.cell? ⟨bu, 0, none⟩ = some (.int .i64 (lev.getD 0 0)) := by
        have hl0 : 0 < lev.length := by omega
        have := World.ownsRow.cellAt o9 0 (by omega)
        rw [this]; simp [List.getElem?_eq_getElem hl0]
      have fu0 : w9.frozen? ⟨bu, 0, none⟩ = false := World.ownsRow.frozenAt o9 0
      have O10 : Hid (Ow .i64 3 W5.heap.size (w9.setCell ⟨bu, 0, none⟩ (.int .i64 y)) (.slice (some ⟨bu, 0, none⟩) lev.length cu) (lev.set 0 y)) := Ow.setE o9 0 y
      have G10 : Hid (W5.grownBy (w9.setCell ⟨bu, 0, none⟩ (.int .i64 y)) (some g)) := grown_then_below G9.out ((Below.refl _ _).setCell (p := ⟨bu, 0, none⟩) (by dsimp only; omega) _)
      have hbn : ¬ (bu = w.heap.size) := by omega
      have hbn2 : ¬ (w.heap.size = bu) := by omega
      have hbn3 : ¬ (bu = b5) := by omega
      have hbn4 : ¬ (b5 = bu) := by omega
      clear o9 g9 D8 G8 O8 HRL c0 c1 c2' r0 r1 f0 f1 hwl hsz hlp
      obtain ⟨⟨c0, c1, c2'⟩, r0, r1, f0, f1, hwl⟩ := BX.out w9 G9.out
      go_wp2
      exact bodyPost_ret (v := .tuple #[.agg #[.int .i64 n, .slice a2 ln2 c2], .slice (some ⟨bu, 0, none⟩) lev.length cu]) (results_26 rfl _ _ _ _ _ _ rfl rfl (FIN.out _ _ _ G10.out O10.out (by simp; omega) _ rfl).1) rfl (FIN.out _ _ _ G10.out O10.out (by simp; omega) _ rfl).2
  · go_wp2
    exact bodyPost_ret (v := .tuple #[.agg #[.int .i64 n, .slice a2 ln2 c2], .slice au lev.length cu]) (results_26 rfl _ _ _ _ _ _ rfl rfl (FIN.out _ _ _ G7.out O7.out (by omega) _ rfl).1) rfl (FIN.out _ _ _ G7.out O7.out (by omega) _ rfl).2
end Go.Proofs.Ytcbeaimpmjljjaa
