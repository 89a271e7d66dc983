/- FnTurns8's body answers true at every code; no condition. -/
import Derived.Test.YtpmmgbinogokfaaTuS
import Derived.Test.YtpmmgbinogokfaaOpen
namespace Go.Proofs.Ytpmmgbinogokfaa
open Go.RowKit Go.ChangeShapes Go.WideShapes Go.ChangeAt
set_option linter.unusedVariables false
set_option linter.unusedSimpArgs false
set_option maxRecDepth 8000
set_option maxHeartbeats 12800000 in
theorem turnsLaw (v : Value) (zs : List Int) (w : World) (h : Rd .u8 w v zs) (hwz : ∀ z ∈ zs, (Lit.int .u8 z).wf = true) :
   Calls Try.prog 4 #[v] w fun e w' => e = .returned (.bool true) ∧ Below w.heap.size w w' := by
  have hz : ∀ z ∈ zs, 0 ≤ z ∧ z ≤ 255 := fun z hm => bounds_u8 (hwz z hm)
  clear hwz
  have HR : Hid (∀ W, Below w.heap.size w W → Rd .u8 W v zs) := fun W hb => h.below hb
  have HZ : Hid (∀ z ∈ zs, 0 ≤ z ∧ z ≤ 255) := hz
  obtain ⟨a, cap, rfl, h1, h2, h3⟩ := h
  clear h3 hz
  unfold maxLen at h2
  obtain ⟨L, hL⟩ : ∃ L, zs.length = L := ⟨_, rfl⟩
  have HLL : Hid (zs.length = L) := hL
  rw [hL] at h1 HR ⊢
  have HBG := big_c (.slice a L cap) zs w (HR.out w (Below.refl _ _))
  rw [hL] at HBG
  have HBG' : Hid (Calls Try.prog 9 #[.slice a L cap] w fun e w' => e = .returned (.bool (decide ((1048576 : Int) < (L : Int)))) ∧ w' = w) := HBG
  clear hL HBG
  by_cases hbig : 1048576 < L
  · have hb : decide ((1048576 : Int) < (L : Int)) = true := by simp; omega
    go_enter Try.func4, Try.ntmps4
    go_wp2_with (fail)
    refine HBG'.out.mono ?_
    rw [hb]
    rintro e w' ⟨rfl, rfl⟩
    go_wp2
    go_ret
    exact ⟨rfl, Below.refl _ _⟩
  have hb : decide ((1048576 : Int) < (L : Int)) = false := by simp; omega
  have HLN : Hid (zs.length ≤ 1048576) := by show _ ≤ _; rw [HLL.out]; omega
  obtain ⟨B, hB⟩ : ∃ B, w.heap.size = B := ⟨_, rfl⟩
  have HBq : Hid (w.heap.size = B) := hB
  obtain ⟨W1, hW1⟩ : ∃ W1, (w.alloc (Obj.cells #[.int .i64 4, .int .i64 (-1), .int .i64 0] 36)).alloc (Obj.cells (D4 0 (.slice (some ⟨B, 0, none⟩) 1 1) (.slice none 0 0) 0) 27) = W1 := ⟨_, rfl⟩
  have HW1 : Hid (Tu B w (W1.alloc (Obj.cells #[] 3)) 0 0 (.slice (some ⟨B, 0, none⟩) 1 1) (.slice none 0 0) [(4, -1, 0)] [] (.slice (some ⟨B + 2, 0, none⟩) 0 0) []) := by
    have hz1 : W1.heap.size = B + 2 := by rw [← hW1]; simp [hB]
    have b1 : Below B w W1 := by rw [← hB, ← hW1]; exact ((Below.refl _ _).alloc (Nat.le_refl _) _).alloc (by simp) _
    have k1 : Blk W1 (B + 1) (D4 0 (.slice (some ⟨B, 0, none⟩) 1 1) (.slice none 0 0) 0) 27 := by rw [← hW1]; exact Blk.newAt _ (B + 1) _ 27 (by simp [hB])
    have o1 : Og 3 agC 36 B W1 (.slice (some ⟨B, 0, none⟩) 1 1) [(4, -1, 0)] := by
      have := World.ownsRow.alloc (World.ownsRow_lit (e := 36) (size := 3) (base := w.heap.size) w #[.int .i64 4, .int .i64 (-1), .int .i64 0] 1 (Nat.le_refl _) (by unfold maxLen; omega) rfl) (Obj.cells (D4 0 (.slice (some ⟨B, 0, none⟩) 1 1) (.slice none 0 0) 0) 27)
      rw [hW1, hB] at this
      exact this
    have ba : Below W1.heap.size W1 (W1.alloc (Obj.cells #[] 3)) := (Below.refl _ _).alloc (Nat.le_refl _) _
    have ol := Ow.empty .i64 3 B W1 (by omega)
    rw [hz1] at ol
    exact ⟨hB, k1.alloc _, ⟨o1.below ba, Og.nil _ _ _ _ _, .inr (by simp [Value.ownBlock]), .inl rfl⟩, ol, b1.trans (ba.mono (by omega))⟩
  have HB1 : Hid (Below w.heap.size w W1) := by show Below _ _ _; rw [← hW1]; exact ((Below.refl _ _).alloc (Nat.le_refl _) _).alloc (by simp) _
  have hz1 : W1.heap.size = B + 2 := by rw [← hW1]; simp [hB]
  have HW1e : Hid ((w.alloc (Obj.cells #[.int .i64 4, .int .i64 (-1), .int .i64 0] 36)).alloc (Obj.cells (D4 0 (.slice (some ⟨B, 0, none⟩) 1 1) (.slice none 0 0) 0) 27) = W1) := hW1
  clear hW1
  go_enter Try.func4, Try.ntmps4
  go_wp2_with (fail)
  refine HBG'.out.mono ?_
  rw [hb]
  rintro e w' ⟨rfl, hw⟩
  rw [hw]
  clear hw w'
  go_wp2_with (fail)
  rw [HW1e.out]
  refine (at_c (.slice a L cap) zs 0 W1 (HR.out W1 HB1.out) HZ.out (by omega) (by omega) HLN.out).mono ?_
  rintro e w2 ⟨x, rfl, hx0, hx1, hw⟩
  rw [hw]
  obtain ⟨m, hm, hm1, hm2⟩ : ∃ m : Nat, 1 + x % 12 = (m : Int) ∧ 1 ≤ m ∧ m ≤ 12 := ⟨(1 + x % 12).toNat, by omega, by omega, by omega⟩
  clear hw HW1e HB1
  go_wp2
  clear hz1 hm hx0 hx1
  go_loopw [4, 6, 7] (fun tk al i wr => ∃ (j : Nat) (t : Int), j ≤ m ∧ i = .int .i64 j ∧ tk = .int .i64 t ∧ 0 ≤ t ∧ t ≤ 2 * j ∧ Hid (∃ n g va vq gs qs ls, Tu B w wr n g va vq gs qs al ls ∧ St1 j t n g gs qs ls)) (fun _ _ i _ => m - (intOf i).toNat)
  case atStart => exact ⟨0, 0, Nat.zero_le _, rfl, rfl, by omega, by omega, 0, 0, _, _, _, _, _, HW1.out, .inl ⟨rfl, rfl, rfl, rfl, rfl, rfl⟩⟩
  case round =>
    obtain ⟨j, t, hj, rfl, rfl, ht0, ht1, hrest⟩ := hrel
    obtain ⟨n, g, va, vq, gs, qs, ls, hT, hS⟩ := hrest.out
    clear hrest HW1
    have HT : Hid (Tu B w wr n g va vq gs qs u6 ls) := hT
    have hL : gs.length ≤ 100 ∧ qs.length ≤ 100 ∧ ls.length ≤ 100 := by
      rcases hS with ⟨-, -, -, rfl, rfl, rfl⟩ | ⟨t0, ts, hl, -, -, rfl, rfl, rfl, -⟩
      · simp
      · rw [qo_len]; simp; omega
    clear hT
    by_cases hlt : j < m
    · have hjI : (j : Int) < (m : Int) := by omega
      have HSS : Hid (St1 j t n g gs qs ls) := hS
      clear hS
      go_wp2_with (fail)
      refine (at_c (.slice a L cap) zs ((j : Int) + 1) wr (HR.out wr (by rw [HBq.out]; exact HT.out.bel)) HZ.out (by omega) (by omega) HLN.out).mono ?_
      rintro e w2 ⟨x, rfl, hx0, hx1, hw⟩
      rw [hw]
      clear hw w2
      obtain ⟨g1, gs1, qs1, cl1, hdo, hS1⟩ := HSS.out.step (t' := t + x % 3) ht0 (by omega) (by omega) (by omega)
      have HDO : Hid (doF n g gs qs 1 (t + x % 3) (100 + (j : Int)) 4 2 = ((t + x % 3, g1, gs1, qs1), cl1, 0)) := hdo
      have HS1 : Hid (St1 (j + 1) (t + x % 3) (t + x % 3) g1 gs1 qs1 (ls ++ cl1)) := hS1
      have hln := stp_bd (n, g, gs, qs) (1, t + x % 3, (100 + (j : Int)), 4, 2)
      unfold stp at hln
      dsimp only at hln
      rw [hdo] at hln
      have HLC : Hid (cl1.length ≤ 12 ∧ gs.length ≤ 100 ∧ qs.length ≤ 100 ∧ ls.length ≤ 100) := ⟨hln.2.2, hL.1, hL.2.1, hL.2.2⟩
      clear hdo hS1 hln hL
      obtain ⟨f1, t1, rfl⟩ := HT.out.own.1.form
      obtain ⟨f2, t2, rfl⟩ := HT.out.own.2.1.form
      have x0 := HT.out.box.cell 0
      have x1 := HT.out.box.cell 1
      have x2 := HT.out.box.cell 2
      have x3 := HT.out.box.cell 3
      simp at x0 x1 x2 x3
      go_wp2_with (fail)
      refine (doI_c n g _ _ gs qs 1 (t + x % 3) (100 + (j : Int)) 4 2 wr (HT.out.own.1.rd agC_len) (HT.out.own.2.1.rd wtC_len) (by have := HLC.out; omega) (by have := HLC.out; omega)).mono ?_
      rw [HDO.out]
      rintro e w3 ⟨va1, vq1, vcl, rfl, o3, oc3, -, b3⟩
      dsimp only at o3 oc3 ⊢
      have T3 := HT.out.below b3
      have hwB : B ≤ wr.heap.size := by have := HT.out.box.lt; omega
      have ba : Below w3.heap.size w3 (w3.alloc (Obj.cells (D4 (t + x % 3) va1 vq1 g1) 27)) := (Below.refl _ _).alloc (Nat.le_refl _) _
      have T4 := T3.below ba
      have o4 := (o3.below ba).mono hwB
      have k4 : Blk (w3.alloc (Obj.cells (D4 (t + x % 3) va1 vq1 g1) 27)) w3.heap.size (D4 (t + x % 3) va1 vq1 g1) 27 := Blk.new _ _ _
      have hXB : B + 1 < w3.heap.size := T3.box.lt
      obtain ⟨X, hX⟩ : ∃ X, w3.heap.size = X := ⟨_, rfl⟩
      obtain ⟨W4, hW4⟩ : ∃ W, w3.alloc (Obj.cells (D4 (t + x % 3) va1 vq1 g1) 27) = W := ⟨_, rfl⟩
      rw [hW4] at T4 o4 k4
      rw [hX] at k4 hXB
      have HT4 : Hid (Tu B w W4 n g (.slice f1 gs.length t1) (.slice f2 qs.length t2) gs qs u6 ls) := T4
      have HO4 : Hid (OwD B W4 va1 vq1 gs1 qs1 ∧ Blk W4 X (D4 (t + x % 3) va1 vq1 g1) 27) := ⟨o4, k4⟩
      have HC4 : Hid (Rd .i64 W4 vcl cl1) := by have := (oc3.below ba).rd; rw [hW4] at this; exact this
      have HB4 : Hid (B ≤ W4.heap.size) := by have := T4.box.lt; show _ ≤ _; omega
      obtain ⟨c1, d1, rfl⟩ := o4.1.form
      obtain ⟨c2, d2, rfl⟩ := o4.2.1.form
      have HW4 : Hid (w3.alloc (Obj.cells (D4 (t + x % 3) (.slice c1 gs1.length d1) (.slice c2 qs1.length d2) g1) 27) = W4) := hW4
      clear T3 T4 o3 o4 oc3 b3 ba k4 hwB HT x0 x1 x2 x3 hW4
      go_wp2_with (at_builtin; rw [HW4.out]; refine appIs rfl _ _ rfl B _ ls rfl HT4.out.all _ cl1 rfl HC4.out (by have := HLC.out; omega) HB4.out ?_)
      intro vl' w5 ho5 hg5 hv5
      have T5 := HT4.out.app hg5 ho5
      have k5 := HO4.out.2.offI HT4.out.all hg5
      have o5 := HO4.out.1.offI HT4.out.all hg5
      have y0 := k5.cell 0
      have y1 := k5.cell 1
      have y2 := k5.cell 2
      have y3 := k5.cell 3
      simp at y0 y1 y2 y3
      have x0 := T5.box.cell 0
      have x1 := T5.box.cell 1
      have x2 := T5.box.cell 2
      have x3 := T5.box.cell 3
      simp at x0 x1 x2 x3
      have z0 := T5.box.frozen 0
      have z1 := T5.box.frozen 1
      have z2 := T5.box.frozen 2
      have z3 := T5.box.frozen 3
      have HT6 : Hid (Tu B w ((((w5.setCell ⟨B + 1, 0, none⟩ (.int .i64 (t + x % 3))).setCell ⟨B + 1, 1, none⟩ (.slice c1 gs1.length d1)).setCell ⟨B + 1, 2, none⟩ (.slice c2 qs1.length d2)).setCell ⟨B + 1, 3, none⟩ (.int .i64 g1)) (t + x % 3) g1 (.slice c1 gs1.length d1) (.slice c2 qs1.length d2) gs1 qs1 vl' (ls ++ cl1)) := T5.put o5
      clear T5 k5 o5 ho5 hg5 hv5 HT4 HO4 HC4 HB4 HW4 hX
      go_wp2
      go_roundw
      case rel => exact ⟨j + 1, t + x % 3, by omega, by go_num, rfl, by omega, by omega, _, _, _, _, _, _, _, HT6.out, HS1.out⟩
      case measure => simp [intOf]; omega
    · obtain rfl : j = m := by omega
      obtain ⟨hnt, hS2⟩ := hS.two hm1
      have HS2 : Hid (St2 j 0 n g gs qs ls) := hS2
      have HNT : Hid (n = t) := hnt
      clear hS2 hS hnt hlt hL
      go_wp2
      go_loopw [6, 11] (fun al i wr => ∃ k : Nat, k ≤ j ∧ i = .int .i64 k ∧ Hid (∃ n g va vq gs qs ls, Tu B w wr n g va vq gs qs al ls ∧ St2 j k n g gs qs ls ∧ 0 ≤ n ∧ n ≤ t + k)) (fun _ i _ => j - (intOf i).toNat)
      case atStart => exact ⟨0, Nat.zero_le _, rfl, _, _, _, _, _, _, _, HT.out, HS2.out, by rw [HNT.out]; exact ht0, by rw [HNT.out]; simp⟩
      case round =>
        obtain ⟨k, hk, rfl, hrest⟩ := hrel
        clear HT HS2 HNT
        clear n g va vq gs qs ls
        obtain ⟨n, g, va, vq, gs, qs, ls, hT, hS, hn0, hn1⟩ := hrest.out
        clear hrest
        have HT : Hid (Tu B w wr n g va vq gs qs u6 ls) := hT
        clear hT
        by_cases hlt : k < j
        case pos =>
          have hkI : (k : Int) < (j : Int) := by omega
          have hL : gs.length ≤ 100 ∧ qs.length ≤ 100 ∧ ls.length ≤ 100 := by
            rcases hS with ⟨-, t0, ts, hl, -, rfl, rfl, rfl, -⟩ | ⟨rfl, -⟩
            · rw [qo_len, mkR_len]; simp; omega
            · omega
          have HSS : Hid (St2 j k n g gs qs ls) := hS
          clear hS
          obtain ⟨g1, gs1, qs1, cl1, hdo, hS1⟩ := HSS.out.step hlt (by omega) (t' := t + (k : Int)) hn0 (by omega) (by omega)
          have HDO : Hid (doF n g gs qs 3 (t + (k : Int)) 0 0 0 = ((t + (k : Int), g1, gs1, qs1), cl1, 0)) := hdo
          have HS1 : Hid (St2 j (k + 1) (t + (k : Int)) g1 gs1 qs1 (ls ++ cl1)) := hS1
          have hln := stp_bd (n, g, gs, qs) (3, t + (k : Int), 0, 0, 0)
          unfold stp at hln
          dsimp only at hln
          rw [hdo] at hln
          have HLC : Hid (cl1.length ≤ 12 ∧ gs.length ≤ 100 ∧ qs.length ≤ 100 ∧ ls.length ≤ 100) := ⟨hln.2.2, hL.1, hL.2.1, hL.2.2⟩
          clear hdo hS1 hln hL
          obtain ⟨f1, t1, rfl⟩ := HT.out.own.1.form
          obtain ⟨f2, t2, rfl⟩ := HT.out.own.2.1.form
          have x0 := HT.out.box.cell 0
          have x1 := HT.out.box.cell 1
          have x2 := HT.out.box.cell 2
          have x3 := HT.out.box.cell 3
          simp at x0 x1 x2 x3
          go_wp2_with (fail)
          refine (doI_c n g _ _ gs qs 3 (t + (k : Int)) 0 0 0 wr (HT.out.own.1.rd agC_len) (HT.out.own.2.1.rd wtC_len) (by have := HLC.out; omega) (by have := HLC.out; omega)).mono ?_
          rw [HDO.out]
          rintro e w3 ⟨va1, vq1, vcl, rfl, o3, oc3, -, b3⟩
          dsimp only at o3 oc3 ⊢
          have T3 := HT.out.below b3
          have hwB : B ≤ wr.heap.size := by have := HT.out.box.lt; omega
          have ba : Below w3.heap.size w3 (w3.alloc (Obj.cells (D4 (t + (k : Int)) va1 vq1 g1) 27)) := (Below.refl _ _).alloc (Nat.le_refl _) _
          have T4 := T3.below ba
          have o4 := (o3.below ba).mono hwB
          have k4 : Blk (w3.alloc (Obj.cells (D4 (t + (k : Int)) va1 vq1 g1) 27)) w3.heap.size (D4 (t + (k : Int)) va1 vq1 g1) 27 := Blk.new _ _ _
          have hXB : B + 1 < w3.heap.size := T3.box.lt
          obtain ⟨X, hX⟩ : ∃ X, w3.heap.size = X := ⟨_, rfl⟩
          obtain ⟨W4, hW4⟩ : ∃ W, w3.alloc (Obj.cells (D4 (t + (k : Int)) va1 vq1 g1) 27) = W := ⟨_, rfl⟩
          rw [hW4] at T4 o4 k4
          rw [hX] at k4 hXB
          have HT4 : Hid (Tu B w W4 n g (.slice f1 gs.length t1) (.slice f2 qs.length t2) gs qs u6 ls) := T4
          have HO4 : Hid (OwD B W4 va1 vq1 gs1 qs1 ∧ Blk W4 X (D4 (t + (k : Int)) va1 vq1 g1) 27) := ⟨o4, k4⟩
          have HC4 : Hid (Rd .i64 W4 vcl cl1) := by have := (oc3.below ba).rd; rw [hW4] at this; exact this
          have HB4 : Hid (B ≤ W4.heap.size) := by have := T4.box.lt; show _ ≤ _; omega
          obtain ⟨c1, d1, rfl⟩ := o4.1.form
          obtain ⟨c2, d2, rfl⟩ := o4.2.1.form
          have HW4 : Hid (w3.alloc (Obj.cells (D4 (t + (k : Int)) (.slice c1 gs1.length d1) (.slice c2 qs1.length d2) g1) 27) = W4) := hW4
          clear T3 T4 o3 o4 oc3 b3 ba k4 hwB HT x0 x1 x2 x3 hW4
          go_wp2_with (at_builtin; rw [HW4.out]; refine appIs rfl _ _ rfl B _ ls rfl HT4.out.all _ cl1 rfl HC4.out (by have := HLC.out; omega) HB4.out ?_)
          intro vl' w5 ho5 hg5 hv5
          have T5 := HT4.out.app hg5 ho5
          have k5 := HO4.out.2.offI HT4.out.all hg5
          have o5 := HO4.out.1.offI HT4.out.all hg5
          have y0 := k5.cell 0
          have y1 := k5.cell 1
          have y2 := k5.cell 2
          have y3 := k5.cell 3
          simp at y0 y1 y2 y3
          have x0 := T5.box.cell 0
          have x1 := T5.box.cell 1
          have x2 := T5.box.cell 2
          have x3 := T5.box.cell 3
          simp at x0 x1 x2 x3
          have z0 := T5.box.frozen 0
          have z1 := T5.box.frozen 1
          have z2 := T5.box.frozen 2
          have z3 := T5.box.frozen 3
          have HT6 : Hid (Tu B w ((((w5.setCell ⟨B + 1, 0, none⟩ (.int .i64 (t + (k : Int)))).setCell ⟨B + 1, 1, none⟩ (.slice c1 gs1.length d1)).setCell ⟨B + 1, 2, none⟩ (.slice c2 qs1.length d2)).setCell ⟨B + 1, 3, none⟩ (.int .i64 g1)) (t + (k : Int)) g1 (.slice c1 gs1.length d1) (.slice c2 qs1.length d2) gs1 qs1 vl' (ls ++ cl1)) := T5.put o5
          clear T5 k5 o5 ho5 hg5 hv5 HT4 HO4 HC4 HB4 HW4 hX
          go_wp2
          go_roundw
          case rel => exact ⟨k + 1, by omega, by go_num, _, _, _, _, _, _, _, HT6.out, HS1.out, by omega, by omega⟩
          case measure => simp [intOf]; omega
        case neg =>
        obtain rfl : k = j := by omega
        obtain ⟨rfl, rfl⟩ : qs = [] ∧ ls = mkR k := by
          rcases hS with ⟨h, -⟩ | ⟨-, h1, h2⟩
          · omega
          · exact ⟨h1, h2⟩
        have HBE : Hid (Below w.heap.size w wr) := by rw [Hid, HBq.out]; exact HT.out.bel
        have hal := HT.out.all.rd
        obtain ⟨f2, t2, rfl⟩ := HT.out.own.2.1.form
        have x2 := HT.out.box.cell 2
        simp at x2
        obtain ⟨va5, cap5, hv5, h51, h52, h53⟩ := hal
        rw [mkR_len] at hv5 h51 h53
        subst hv5
        unfold maxLen at h52
        have hne : mkR k ≠ [] := fun e => by have := mkR_len k; rw [e] at this; simp at this; omega
        obtain ⟨b5, off5, rfl, h54⟩ : ∃ b off, va5 = some ⟨b, off, none⟩ ∧ ∀ i, i < k → wr.cell? ⟨b, off + i, none⟩ = some (.int .i64 (100 + (i : Int))) := by
          rcases h53 with h | ⟨b, off, h1, h2⟩
          · exact absurd h hne
          · exact ⟨b, off, h1, fun i hi => by rw [h2 i hi, mkR_at k i hi]⟩
        have H54 : Hid (∀ i, i < k → wr.cell? ⟨b5, off5 + i, none⟩ = some (.int .i64 (100 + (i : Int)))) := h54
        clear h53 h54 hne HT hS
        go_wp2
        go_loop [15] (fun i => ∃ q : Nat, q ≤ k ∧ i = .int .i64 q) (fun i => k - (intOf i).toNat)
        case atStart => exact ⟨0, Nat.zero_le _, rfl⟩
        case round =>
          obtain ⟨q, hq, rfl⟩ := hrel
          by_cases hqk : q < k
          · have hqI : (q : Int) < (k : Int) := by omega
            have y0 := H54.out q hqk
            have hbb : ((100 : Int) + q != 100 + q) = false := by simp
            go_wp2
            go_round
            case rel => exact ⟨q + 1, by omega, by go_num⟩
            case measure => simp [intOf]; omega
          · obtain rfl : q = k := by omega
            have hbb : ((q : Int) == (q : Int)) = true := by simp
            go_wp2
            go_ret
            exact ⟨rfl, by rw [← HBq.out]; exact HBE.out⟩
end Go.Proofs.Ytpmmgbinogokfaa
