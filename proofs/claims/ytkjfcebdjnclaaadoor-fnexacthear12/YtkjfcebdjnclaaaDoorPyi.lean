/- The program: what is played next; the table is as it was laid. -/
import Derived.Test.YtkjfcebdjnclaaaDoorNxl
import Derived.Test.YtkjfcebdjnclaaaDoorCpp
namespace Go.Proofs.YtkjfcebdjnclaaaDoor
open Go.RowKit Go.ChangeShapes Go.WideShapes Go.ChangeAt
set_option linter.unusedVariables false
set_option linter.unusedSimpArgs false
set_option maxRecDepth 8000

/-- what Play may play -/
def PyP (p : Pl) (ls : List Pk) : Prop := (PlP p ∧ StOk p.n ls) ∧ p.n ≠ 1000000 ∧ p.g ≠ 1000000000
/-- the player behind a played frame -/
def pyF (p : Pl) (ls : List Pk) : Pl := ⟨p.n + 1, p.d, p.l, if (lvF ls p.n p.x).2 then p.g + 1 else p.g, (lvF ls p.n p.x).1.getD 29 0⟩
/-- what Play tells -/
def PyR (p : Pl) (st : List Pk) (out : List Int) (ok : Bool) (w : World) (e : Ending) (w' : World) : Prop := ∃ v u, e = .returned (.tuple #[.agg (plA p v), u, .bool ok]) ∧ Og 18 pkC 40 w.heap.size w' v st ∧ Ow .i64 3 w.heap.size w' u out ∧ Below w.heap.size w w'
theorem results_P3 {fn : Func} {t u q : Tmp} (h : fn.results = #[.cell q 42, .tmp t, .tmp u]) (tmps : Array Value) (w : World) (g : Nat) (p : Pl) (v a b : Value)
    (ht : tmps.getD t undef = a) (hu : tmps.getD u undef = b) (hq : tmps.getD q undef = .pointer (some ⟨g, 0, none⟩)) (hg : Blk w g (plA p v) 42) :
    (results fn tmps).run Tryd.prog w = .ok (.tuple #[.agg (plA p v), a, b]) w := by
  have hq' : tmps[q]?.getD undef = .pointer (some ⟨g, 0, none⟩) := by simpa using hq
  have ht' : tmps[t]?.getD undef = a := by simpa using ht
  have hu' : tmps[u]?.getD undef = b := by simpa using hu
  have hr := run_loadVar_row (P := Tryd.prog) w g 42 42 (plA p v) (0, 0) _ hg Tryd.underlying42 rfl (by kernel_rfl)
  simp [results, h, hq', ht', hu', asAddr, hr]
theorem lvF_len (ls : List Pk) (n l : Int) : (lvF ls n l).1.length = 30 := by
  unfold lvF
  split
  · rw [exL_len, frNs_len]
  · rw [fdL_len]
theorem ogRow {base g : Nat} {w : World} {a : Option Addr} {n cap : Nat} {ls : List Pk} {cs : Array Value} (h : Og 18 pkC 40 base w (.slice a n cap) ls) (hg : g < base) : Og 18 pkC 40 base (w.setRow g cs) (.slice a n cap) ls := by
  refine World.ownsRow.kept (row := some g) h ⟨rfl, rfl, rfl, by simp, fun i _ hi => setRow_other w _ i _ (fun e => hi (by simp [e]))⟩ ?_
  cases a with
  | none => exact .inl rfl
  | some ad =>
    refine .inr fun e => ?_
    have h2 := (h.lt ad.block rfl).1
    simp [Value.ownBlock] at e
    omega
set_option maxHeartbeats 6400000 in
theorem playI_c (p : Pl) (v : Value) (ls : List Pk) (w : World) (h : Rg 18 pkC w v ls) (hn : ls.length ≤ 1048576) (hG : ChG w) (hb : ∀ k ∈ ls, PkBy k) : Calls Tryd.prog 28 #[.agg (plA p v)] w fun e w' => (PyP p ls → PyR (pyF p ls) (ls.drop (pcF ls (p.n + 1))) (lvF ls p.n p.x).1 true w e w') ∧ (¬ PyP p ls → PyR p ls [] false w e w') := by
  have HR : Hid (Rg 18 pkC w v ls) := h
  have HN : Hid (ls.length ≤ 1048576) := hn
  have HG : Hid (ChG w) := hG
  have HPB : Hid (∀ k ∈ ls, PkBy k) := hb
  obtain ⟨a, cap, rfl, h1, h2, -⟩ := h
  obtain ⟨W2, hW2⟩ : ∃ W, (w.alloc (Obj.cells (plA p (.slice a ls.length cap)) 42)).alloc (Obj.cells (plA ⟨0, 0, 0, 0, 0⟩ (.slice none 0 0)) 42) = W := ⟨_, rfl⟩
  obtain ⟨g, hg⟩ : ∃ g, w.heap.size = g := ⟨_, rfl⟩
  have HB2 : Hid (Below w.heap.size w W2) := by rw [← hW2]; exact ((Below.refl _ _).alloc (Nat.le_refl _) _).alloc (by simp) _
  have HP2 : Hid (Blk W2 g (plA p (.slice a ls.length cap)) 42) := by rw [← hW2, ← hg]; exact (Blk.new _ _ _).alloc _
  have HZ2 : Hid (Blk W2 (g + 1) (plA ⟨0, 0, 0, 0, 0⟩ (.slice none 0 0)) 42) := by rw [← hW2, ← hg]; exact Blk.newAt _ _ _ _ (by simp)
  have HGG : Hid (w.heap.size = g) := hg
  have HW2 : Hid ((w.alloc (Obj.cells (plA p (.slice a ls.length cap)) 42)).alloc (Obj.cells (plA ⟨0, 0, 0, 0, 0⟩ (.slice none 0 0)) 42) = W2) := hW2
  clear hn hG hb hW2 hg
  go_enter Tryd.func28, Tryd.ntmps28
  go_wp2_with (fail)
  rw [HW2.out, HGG.out]
  refine (plI_c p _ ls W2 (HR.out.below HB2.out)).mono ?_
  rintro e w3 ⟨r, rfl, hr, b3⟩
  have HP3 : Hid (Blk w3 g (plA p (.slice a ls.length cap)) 42) := HP2.out.below b3 HP2.out.lt
  have HZ3 : Hid (Blk w3 (g + 1) (plA ⟨0, 0, 0, 0, 0⟩ (.slice none 0 0)) 42) := HZ2.out.below b3 HZ2.out.lt
  have HB3 : Hid (Below w.heap.size w w3) := belowCall HB2.out b3 HB2.out.size
  have HRR : Hid (r = true ↔ PlP p ∧ StOk p.n ls) := hr
  clear b3 hr HP2 HZ2 HB2 HW2
  have x0 := HP3.out.cell 0
  have x1 := HP3.out.cell 1
  have x2 := HP3.out.cell 2
  have x3 := HP3.out.cell 3
  have x4 := HP3.out.cell 4
  have x5 := HP3.out.cell 5
  simp at x0 x1 x2 x3 x4 x5
  by_cases hP : PyP p ls
  case neg =>
    have HNP : Hid (¬ PyP p ls) := hP
    clear hP
    cases r
    · go_wp2_with (fail)
      refine (copyI_c p _ ls w3 (HR.out.below HB3.out) HN.out).mono ?_
      rintro e w4 ⟨v', rfl, o4, b4⟩
      obtain ⟨a', cap', rfl⟩ := o4.form
      have HZ4 : Hid (Blk w4 (g + 1) (plA ⟨0, 0, 0, 0, 0⟩ (.slice none 0 0)) 42) := HZ3.out.below b4 HZ3.out.lt
      have HB4 : Hid (Below w.heap.size w w4) := belowCall HB3.out b4 HB3.out.size
      have HO4 : Hid (Og 18 pkC 40 w3.heap.size w4 (.slice a' ls.length cap') ls) := o4
      have HLT : Hid (g + 1 < w3.heap.size) := HZ3.out.lt
      clear o4 b4 x0 x1 x2 x3 x4 x5
      go_wp2_with (refine wpList_store_row rfl 42 _ _ rfl (g + 1) (plA p (.slice a' ls.length cap')) rfl rfl 42 (plA ⟨0, 0, 0, 0, 0⟩ (.slice none 0 0)) HZ4.out (by kernel_rfl) rfl (by simp [Value.oneCell']) ?_)
      exact bodyPost_ret (results_P3 rfl _ _ (g + 1) p (.slice a' ls.length cap') _ _ rfl rfl rfl (HZ4.out.row _)) rfl ⟨fun h => absurd h HNP.out, fun _ => ⟨_, _, rfl, Og.mono (ogRow HO4.out HLT.out) HB3.out.size, Ow.nil _ _ _ _, belowRow HB4.out _ (by have := HGG.out; omega) _⟩⟩
    · have hPS := HRR.out.1 rfl
      by_cases hn1 : p.n = 1000000
      · have hnb : (p.n == 1000000) = true := by simp [hn1]
        clear hPS hn1
        go_wp2_with (fail)
        refine (copyI_c p _ ls w3 (HR.out.below HB3.out) HN.out).mono ?_
        rintro e w4 ⟨v', rfl, o4, b4⟩
        obtain ⟨a', cap', rfl⟩ := o4.form
        have HZ4 : Hid (Blk w4 (g + 1) (plA ⟨0, 0, 0, 0, 0⟩ (.slice none 0 0)) 42) := HZ3.out.below b4 HZ3.out.lt
        have HB4 : Hid (Below w.heap.size w w4) := belowCall HB3.out b4 HB3.out.size
        have HO4 : Hid (Og 18 pkC 40 w3.heap.size w4 (.slice a' ls.length cap') ls) := o4
        have HLT : Hid (g + 1 < w3.heap.size) := HZ3.out.lt
        clear o4 b4 x0 x1 x2 x3 x4 x5
        go_wp2_with (refine wpList_store_row rfl 42 _ _ rfl (g + 1) (plA p (.slice a' ls.length cap')) rfl rfl 42 (plA ⟨0, 0, 0, 0, 0⟩ (.slice none 0 0)) HZ4.out (by kernel_rfl) rfl (by simp [Value.oneCell']) ?_)
        exact bodyPost_ret (results_P3 rfl _ _ (g + 1) p (.slice a' ls.length cap') _ _ rfl rfl rfl (HZ4.out.row _)) rfl ⟨fun h => absurd h HNP.out, fun _ => ⟨_, _, rfl, Og.mono (ogRow HO4.out HLT.out) HB3.out.size, Ow.nil _ _ _ _, belowRow HB4.out _ (by have := HGG.out; omega) _⟩⟩
      · have hnb : (p.n == 1000000) = false := by simpa using hn1
        have hgb : (p.g == 1000000000) = true := by
          rw [beq_iff_eq]
          by_cases hg : p.g = 1000000000
          · exact hg
          · exact absurd ⟨hPS, hn1, hg⟩ HNP.out
        clear hPS hn1
        go_wp2_with (fail)
        refine (copyI_c p _ ls w3 (HR.out.below HB3.out) HN.out).mono ?_
        rintro e w4 ⟨v', rfl, o4, b4⟩
        obtain ⟨a', cap', rfl⟩ := o4.form
        have HZ4 : Hid (Blk w4 (g + 1) (plA ⟨0, 0, 0, 0, 0⟩ (.slice none 0 0)) 42) := HZ3.out.below b4 HZ3.out.lt
        have HB4 : Hid (Below w.heap.size w w4) := belowCall HB3.out b4 HB3.out.size
        have HO4 : Hid (Og 18 pkC 40 w3.heap.size w4 (.slice a' ls.length cap') ls) := o4
        have HLT : Hid (g + 1 < w3.heap.size) := HZ3.out.lt
        clear o4 b4 x0 x1 x2 x3 x4 x5
        go_wp2_with (refine wpList_store_row rfl 42 _ _ rfl (g + 1) (plA p (.slice a' ls.length cap')) rfl rfl 42 (plA ⟨0, 0, 0, 0, 0⟩ (.slice none 0 0)) HZ4.out (by kernel_rfl) rfl (by simp [Value.oneCell']) ?_)
        exact bodyPost_ret (results_P3 rfl _ _ (g + 1) p (.slice a' ls.length cap') _ _ rfl rfl rfl (HZ4.out.row _)) rfl ⟨fun h => absurd h HNP.out, fun _ => ⟨_, _, rfl, Og.mono (ogRow HO4.out HLT.out) HB3.out.size, Ow.nil _ _ _ _, belowRow HB4.out _ (by have := HGG.out; omega) _⟩⟩
  case pos =>
    obtain rfl : r = true := HRR.out.2 hP.1
    have HPY : Hid (PyP p ls) := hP
    have hnb : (p.n == 1000000) = false := by simpa using hP.2.1
    have hgb : (p.g == 1000000000) = false := by simpa using hP.2.2
    clear hP
    go_wp2_with (fail)
    refine (storeOf_c p a ls.length cap w3).mono ?_
    rintro e w4 ⟨rfl, b4⟩
    have HP4 : Hid (Blk w4 g (plA p (.slice a ls.length cap)) 42) := HP3.out.below b4 HP3.out.lt
    have HZ4 : Hid (Blk w4 (g + 1) (plA ⟨0, 0, 0, 0, 0⟩ (.slice none 0 0)) 42) := HZ3.out.below b4 HZ3.out.lt
    have HB4 : Hid (Below w.heap.size w w4) := belowCall HB3.out b4 HB3.out.size
    clear b4 HP3 HZ3 HB3 x0 x1 x2 x3 x4 x5
    obtain ⟨W5, hW5⟩ : ∃ W, w4.alloc (Obj.cells #[.slice a ls.length cap, .int .i64 p.n] 94) = W := ⟨_, rfl⟩
    obtain ⟨gS, hgS⟩ : ∃ g, w4.heap.size = g := ⟨_, rfl⟩
    have al : Below w4.heap.size w4 W5 := by rw [← hW5]; exact (Below.refl _ _).alloc (Nat.le_refl _) _
    have HP5 : Hid (Blk W5 g (plA p (.slice a ls.length cap)) 42) := HP4.out.below al HP4.out.lt
    have HZ5 : Hid (Blk W5 (g + 1) (plA ⟨0, 0, 0, 0, 0⟩ (.slice none 0 0)) 42) := HZ4.out.below al HZ4.out.lt
    have HS5 : Hid (Blk W5 gS #[.slice a ls.length cap, .int .i64 p.n] 94) := by rw [← hW5, ← hgS]; exact Blk.new _ _ _
    have HB5 : Hid (Below w.heap.size w W5) := belowCall HB4.out al HB4.out.size
    have HGS : Hid (g + 1 < gS) := by rw [← hgS]; exact HZ4.out.lt
    clear al HP4 HZ4 HB4
    have x0 := HP5.out.cell 0
    have x4 := HP5.out.cell 4
    have s0 := HS5.out.cell 0
    have s1 := HS5.out.cell 1
    simp at x0 x4 s0 s1
    have HPX : Hid (-32767 ≤ p.x ∧ p.x ≤ 32767) := HPY.out.1.1.2.2.2.2
    have HPN : Hid ((0 ≤ p.n ∧ p.n ≤ 1000000) ∧ 0 ≤ p.g ∧ p.g ≤ 1000000000) := ⟨HPY.out.1.1.1, HPY.out.1.1.2.2.2.1⟩
    go_wp2_with (fail)
    refine (next_c _ ls p.n p.x HPX.out W5 (HR.out.below HB5.out) (HG.out.below HB5.out HG.out.lt) HPB.out).mono ?_
    obtain ⟨og, hog⟩ : ∃ q, lvF ls p.n p.x = q := ⟨_, rfl⟩
    obtain ⟨out, gap⟩ := og
    have HOG : Hid (lvF ls p.n p.x = (out, gap)) := hog
    have HL30 : Hid (out.length = 30) := by have := lvF_len ls p.n p.x; rw [hog] at this; exact this
    rw [hog]
    clear hog
    rintro e w6 ⟨u, rfl, o6, b6⟩
    have HO6 : Hid (Ow .i64 3 W5.heap.size w6 u out) := o6
    have HP6 : Hid (Blk w6 g (plA p (.slice a ls.length cap)) 42) := HP5.out.below b6 HP5.out.lt
    have HZ6 : Hid (Blk w6 (g + 1) (plA ⟨0, 0, 0, 0, 0⟩ (.slice none 0 0)) 42) := HZ5.out.below b6 HZ5.out.lt
    have HS6 : Hid (Blk w6 gS #[.slice a ls.length cap, .int .i64 p.n] 94) := HS5.out.below b6 HS5.out.lt
    have HB6 : Hid (Below w.heap.size w w6) := belowCall HB5.out b6 HB5.out.size
    have HLT5 : Hid (gS < W5.heap.size) := HS5.out.lt
    obtain ⟨bu, cu, hu, hbu, hcu⟩ : ∃ bu cu, u = .slice (some ⟨bu, 0, none⟩) 30 cu ∧ W5.heap.size ≤ bu ∧ w6.cell? ⟨bu, 29, none⟩ = some (.int .i64 (out.getD 29 0)) := by
      have h0 : w6.ownsRow W5.heap.size 3 1 u out.length (out.map (Value.int .i64)) := o6
      rcases o6.2 with ⟨-, hz⟩ | ⟨k, c, cur, rfl, hb, -⟩
      · rw [HL30.out] at hz; cases hz
      · rw [HL30.out] at h0 ⊢
        refine ⟨k, c, rfl, hb, ?_⟩
        rw [h0.cellAt 29 (by omega)]
        simp [List.getElem?_eq_getElem (show 29 < out.length by rw [HL30.out]; omega)]
    subst hu
    obtain ⟨y, hy⟩ : ∃ y, out.getD 29 0 = y := ⟨_, rfl⟩
    have HY : Hid (out.getD 29 0 = y) := hy
    rw [hy] at hcu
    have hne1 : ¬ bu = g := by have := HGS.out; have := HLT5.out; omega
    have hne2 : ¬ g = bu := fun e => hne1 e.symm
    have HBU : Hid (W5.heap.size ≤ bu) := hbu
    clear o6 b6 hbu hy HP5 HZ5 HS5 x0 x4 s0 s1 hW5 hgS
    have x0 := HP6.out.cell 0
    have x3 := HP6.out.cell 3
    have x4 := HP6.out.cell 4
    have s0 := HS6.out.cell 0
    simp at x0 x3 x4 s0
    have f0 := HP6.out.frozen 0
    have f3 := HP6.out.frozen 3
    have f4 := HP6.out.frozen 4
    have hneS : ¬ gS = g := by have := HGS.out; omega
    have hneT : ¬ g = gS := fun e => hneS e.symm
    have hpn0 := HPN.out.1.1
    have hpn1 := HPN.out.1.2
    have hpg0 := HPN.out.2.1
    have hpg1 := HPN.out.2.2
    cases gap
    · go_wp2_with (fail)
      obtain ⟨W8, hW8⟩ : ∃ W, (w6.setCell ⟨g, 0, none⟩ (.int .i64 (p.n + 1))).setCell ⟨g, 4, none⟩ (.int .i64 y) = W := ⟨_, rfl⟩
      have hgW : g + 1 < W5.heap.size := Nat.lt_trans HGS.out HLT5.out
      have hgw := HGG.out
      have HP8 : Hid (Blk W8 g (plA ⟨p.n + 1, p.d, p.l, p.g, y⟩ (.slice a ls.length cap)) 42) := by rw [← hW8]; exact (HP6.out.set 0 _).set 4 _
      have HZ8 : Hid (Blk W8 (g + 1) (plA ⟨0, 0, 0, 0, 0⟩ (.slice none 0 0)) 42) := by rw [← hW8]; exact (HZ6.out.other ⟨g, 0, none⟩ _ (by dsimp only; omega)).other ⟨g, 4, none⟩ _ (by dsimp only; omega)
      have HB8 : Hid (Below w.heap.size w W8) := by rw [← hW8]; exact (HB6.out.setCell (by dsimp only; omega) _).setCell (by dsimp only; omega) _
      have HO8 : Hid (Ow .i64 3 W5.heap.size W8 (.slice (some ⟨bu, 0, none⟩) 30 cu) out) := by rw [← hW8]; exact ownsRow_setCell_below (a := ⟨g, 4, none⟩) (ownsRow_setCell_below (a := ⟨g, 0, none⟩) HO6.out (by dsimp only; omega) _) (by dsimp only; omega) _
      rw [hW8]
      clear hW8 HP6 HZ6 HB6 HO6 HS6 x0 x3 x4 s0 f0 f3 f4 hcu
      refine (from_c _ ls (p.n + 1) W8 (HR.out.below HB8.out) (by have := HPY.out.1.2.len; omega)).mono ?_
      rintro e w9 ⟨v9, rfl, o9, b9⟩
      obtain ⟨a9, c9, rfl⟩ := o9.form
      obtain ⟨n9, hn9⟩ : ∃ n, (ls.drop (pcF ls (p.n + 1))).length = n := ⟨_, rfl⟩
      rw [hn9] at o9 ⊢
      have K9 := HP8.out.below b9 HP8.out.lt
      have Z9 := HZ8.out.below b9 HZ8.out.lt
      have B9 : Below w.heap.size w w9 := belowCall HB8.out b9 HB8.out.size
      have O9 := HO8.out.below b9
      have hs8 : W5.heap.size ≤ W8.heap.size := by
        rcases HO8.out.2 with ⟨h, -⟩ | ⟨k, c, cur, -, hb, hh, -⟩
        · cases h
        · have := Blk.lt hh; omega
      have c5 := K9.cell 5
      have f5 := K9.frozen 5
      simp at c5
      obtain ⟨WT, hWT⟩ : ∃ W, w9.setCell ⟨g, 5, none⟩ (.slice a9 n9 c9) = W := ⟨_, rfl⟩
      have HPT : Hid (Blk WT g (plA ⟨p.n + 1, p.d, p.l, p.g, y⟩ (.slice a9 n9 c9)) 42) := by rw [← hWT]; exact K9.set 5 _
      have HZT : Hid (Blk WT (g + 1) (plA ⟨0, 0, 0, 0, 0⟩ (.slice none 0 0)) 42) := by rw [← hWT]; exact Z9.other _ _ (by dsimp only; omega)
      have HBT : Hid (Below w.heap.size w WT) := by rw [← hWT]; exact B9.setCell (by dsimp only; omega) _
      have HOT : Hid (Ow .i64 3 W5.heap.size WT (.slice (some ⟨bu, 0, none⟩) 30 cu) out) := by rw [← hWT]; exact ownsRow_setCell_below (a := ⟨g, 5, none⟩) O9 (by dsimp only; omega) _
      have HQT : Hid (Og 18 pkC 40 W8.heap.size WT (.slice a9 n9 c9) (ls.drop (pcF ls (p.n + 1)))) := by rw [← hWT]; exact ownsRow_setCell_below (a := ⟨g, 5, none⟩) o9 (by dsimp only; omega) _
      have HWT : Hid (w9.setCell ⟨g, 5, none⟩ (.slice a9 n9 c9) = WT) := hWT
      have HSS : Hid (g + 1 < W5.heap.size ∧ W5.heap.size ≤ W8.heap.size ∧ w.heap.size ≤ W5.heap.size) := ⟨hgW, hs8, HB5.out.size⟩
      clear K9 Z9 B9 O9 o9 b9 hs8 hWT hgW hgw HP8 HZ8 HB8 HO8 hn9
      go_wp2_with (first | (rw [HWT.out]; refine wpList_load_row rfl 42 _ rfl g rfl 42 (plA ⟨p.n + 1, p.d, p.l, p.g, y⟩ (.slice a9 n9 c9)) (0, 0) _ HPT.out Tryd.underlying42 rfl (by kernel_rfl) ?_) | refine wpList_store_row rfl 42 _ _ rfl (g + 1) (plA ⟨p.n + 1, p.d, p.l, p.g, y⟩ (.slice a9 n9 c9)) rfl rfl 42 (plA ⟨0, 0, 0, 0, 0⟩ (.slice none 0 0)) HZT.out (by kernel_rfl) rfl (by simp [Value.oneCell']) ?_)
      have hpy : pyF p ls = ⟨p.n + 1, p.d, p.l, p.g, y⟩ := by
        unfold pyF; rw [HOG.out]
        show (⟨p.n + 1, p.d, p.l, p.g, out.getD 29 0⟩ : Pl) = _
        rw [HY.out]
      have hl : (lvF ls p.n p.x).1 = out := by rw [HOG.out]
      have hss := HSS.out
      have hgw := HGG.out
      exact bodyPost_ret (results_P3 rfl _ _ (g + 1) ⟨p.n + 1, p.d, p.l, p.g, y⟩ (.slice a9 n9 c9) _ _ rfl rfl rfl (HZT.out.row _)) rfl ⟨fun _ => ⟨_, _, by rw [hpy]; rfl, Og.mono (ogRow HQT.out (by omega)) (by omega), by rw [hl]; exact Ow.mono (Ow.putRow HOT.out (by omega)) (by omega), belowRow HBT.out _ (by omega) _⟩, fun h => absurd HPY.out h⟩
    · go_wp2_with (fail)
      obtain ⟨W8, hW8⟩ : ∃ W, ((w6.setCell ⟨g, 3, none⟩ (.int .i64 (p.g + 1))).setCell ⟨g, 0, none⟩ (.int .i64 (p.n + 1))).setCell ⟨g, 4, none⟩ (.int .i64 y) = W := ⟨_, rfl⟩
      have hgW : g + 1 < W5.heap.size := Nat.lt_trans HGS.out HLT5.out
      have hgw := HGG.out
      have HP8 : Hid (Blk W8 g (plA ⟨p.n + 1, p.d, p.l, p.g + 1, y⟩ (.slice a ls.length cap)) 42) := by rw [← hW8]; exact ((HP6.out.set 3 _).set 0 _).set 4 _
      have HZ8 : Hid (Blk W8 (g + 1) (plA ⟨0, 0, 0, 0, 0⟩ (.slice none 0 0)) 42) := by rw [← hW8]; exact ((HZ6.out.other ⟨g, 3, none⟩ _ (by dsimp only; omega)).other ⟨g, 0, none⟩ _ (by dsimp only; omega)).other ⟨g, 4, none⟩ _ (by dsimp only; omega)
      have HB8 : Hid (Below w.heap.size w W8) := by rw [← hW8]; exact ((HB6.out.setCell (by dsimp only; omega) _).setCell (by dsimp only; omega) _).setCell (by dsimp only; omega) _
      have HO8 : Hid (Ow .i64 3 W5.heap.size W8 (.slice (some ⟨bu, 0, none⟩) 30 cu) out) := by rw [← hW8]; exact ownsRow_setCell_below (a := ⟨g, 4, none⟩) (ownsRow_setCell_below (a := ⟨g, 0, none⟩) (ownsRow_setCell_below (a := ⟨g, 3, none⟩) HO6.out (by dsimp only; omega) _) (by dsimp only; omega) _) (by dsimp only; omega) _
      rw [hW8]
      clear hW8 HP6 HZ6 HB6 HO6 HS6 x0 x3 x4 s0 f0 f3 f4 hcu
      refine (from_c _ ls (p.n + 1) W8 (HR.out.below HB8.out) (by have := HPY.out.1.2.len; omega)).mono ?_
      rintro e w9 ⟨v9, rfl, o9, b9⟩
      obtain ⟨a9, c9, rfl⟩ := o9.form
      obtain ⟨n9, hn9⟩ : ∃ n, (ls.drop (pcF ls (p.n + 1))).length = n := ⟨_, rfl⟩
      rw [hn9] at o9 ⊢
      have K9 := HP8.out.below b9 HP8.out.lt
      have Z9 := HZ8.out.below b9 HZ8.out.lt
      have B9 : Below w.heap.size w w9 := belowCall HB8.out b9 HB8.out.size
      have O9 := HO8.out.below b9
      have hs8 : W5.heap.size ≤ W8.heap.size := by
        rcases HO8.out.2 with ⟨h, -⟩ | ⟨k, c, cur, -, hb, hh, -⟩
        · cases h
        · have := Blk.lt hh; omega
      have c5 := K9.cell 5
      have f5 := K9.frozen 5
      simp at c5
      obtain ⟨WT, hWT⟩ : ∃ W, w9.setCell ⟨g, 5, none⟩ (.slice a9 n9 c9) = W := ⟨_, rfl⟩
      have HPT : Hid (Blk WT g (plA ⟨p.n + 1, p.d, p.l, p.g + 1, y⟩ (.slice a9 n9 c9)) 42) := by rw [← hWT]; exact K9.set 5 _
      have HZT : Hid (Blk WT (g + 1) (plA ⟨0, 0, 0, 0, 0⟩ (.slice none 0 0)) 42) := by rw [← hWT]; exact Z9.other _ _ (by dsimp only; omega)
      have HBT : Hid (Below w.heap.size w WT) := by rw [← hWT]; exact B9.setCell (by dsimp only; omega) _
      have HOT : Hid (Ow .i64 3 W5.heap.size WT (.slice (some ⟨bu, 0, none⟩) 30 cu) out) := by rw [← hWT]; exact ownsRow_setCell_below (a := ⟨g, 5, none⟩) O9 (by dsimp only; omega) _
      have HQT : Hid (Og 18 pkC 40 W8.heap.size WT (.slice a9 n9 c9) (ls.drop (pcF ls (p.n + 1)))) := by rw [← hWT]; exact ownsRow_setCell_below (a := ⟨g, 5, none⟩) o9 (by dsimp only; omega) _
      have HWT : Hid (w9.setCell ⟨g, 5, none⟩ (.slice a9 n9 c9) = WT) := hWT
      have HSS : Hid (g + 1 < W5.heap.size ∧ W5.heap.size ≤ W8.heap.size ∧ w.heap.size ≤ W5.heap.size) := ⟨hgW, hs8, HB5.out.size⟩
      clear K9 Z9 B9 O9 o9 b9 hs8 hWT hgW hgw HP8 HZ8 HB8 HO8 hn9
      go_wp2_with (first | (rw [HWT.out]; refine wpList_load_row rfl 42 _ rfl g rfl 42 (plA ⟨p.n + 1, p.d, p.l, p.g + 1, y⟩ (.slice a9 n9 c9)) (0, 0) _ HPT.out Tryd.underlying42 rfl (by kernel_rfl) ?_) | refine wpList_store_row rfl 42 _ _ rfl (g + 1) (plA ⟨p.n + 1, p.d, p.l, p.g + 1, y⟩ (.slice a9 n9 c9)) rfl rfl 42 (plA ⟨0, 0, 0, 0, 0⟩ (.slice none 0 0)) HZT.out (by kernel_rfl) rfl (by simp [Value.oneCell']) ?_)
      have hpy : pyF p ls = ⟨p.n + 1, p.d, p.l, p.g + 1, y⟩ := by
        unfold pyF; rw [HOG.out]
        show (⟨p.n + 1, p.d, p.l, p.g + 1, out.getD 29 0⟩ : Pl) = _
        rw [HY.out]
      have hl : (lvF ls p.n p.x).1 = out := by rw [HOG.out]
      have hss := HSS.out
      have hgw := HGG.out
      exact bodyPost_ret (results_P3 rfl _ _ (g + 1) ⟨p.n + 1, p.d, p.l, p.g + 1, y⟩ (.slice a9 n9 c9) _ _ rfl rfl rfl (HZT.out.row _)) rfl ⟨fun _ => ⟨_, _, by rw [hpy]; rfl, Og.mono (ogRow HQT.out (by omega)) (by omega), by rw [hl]; exact Ow.mono (Ow.putRow HOT.out (by omega)) (by omega), belowRow HBT.out _ (by omega) _⟩, fun h => absurd HPY.out h⟩

end Go.Proofs.YtkjfcebdjnclaaaDoor
