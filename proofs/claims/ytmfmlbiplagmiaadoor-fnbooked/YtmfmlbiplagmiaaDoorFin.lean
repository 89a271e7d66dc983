/- All faults, within; no condition. -/
import Derived.Test.YtmfmlbiplagmiaaDoorFwh
namespace Go.Proofs.YtmfmlbiplagmiaaDoor
open Go.RowKit Go.ChangeShapes Go.WideShapes Go.ChangeAt
set_option linter.unusedVariables false
set_option linter.unusedSimpArgs false
set_option maxRecDepth 8000

set_option maxHeartbeats 3200000 in
theorem numbers_c (k1 k2 : Int) (nv fv : Value) (zs fs : List Int) (w : World) (hz : Rd .i64 w nv zs) (hf : Rd .i64 w fv fs) (hlen : fs.length = zs.length) (hn : zs.length ≤ 30) :
   Calls Tryd.prog 73 #[.int .i64 k1, .int .i64 k2, nv, fv] w (EfR (nuF k1 k2 zs fs) w) := by
  obtain ⟨P, hP⟩ : ∃ P, w.heap.size = P := ⟨_, rfl⟩
  obtain ⟨W1, hW1⟩ : ∃ W, (w.alloc (Obj.cells #[nv] 25)).alloc (Obj.cells #[fv] 25) = W := ⟨_, rfl⟩
  have HB1 : Hid (Below w.heap.size w W1) := by rw [← hW1]; exact ((Below.refl _ _).alloc (Nat.le_refl _) _).alloc (by simp) _
  have HK : Hid (Blk W1 P #[nv] 25 ∧ Blk W1 (P + 1) #[fv] 25) := ⟨by rw [← hW1, ← hP]; exact (Blk.new _ _ _).alloc _, by rw [← hW1]; exact Blk.newAt _ (P + 1) _ 25 (by simp [hP])⟩
  have HR : Hid (Rd .i64 W1 nv zs ∧ Rd .i64 W1 fv fs) := ⟨hz.below HB1.out, hf.below HB1.out⟩
  have HN : Hid (fs.length = zs.length ∧ zs.length ≤ 30) := ⟨hlen, hn⟩
  have HP : Hid (w.heap.size = P) := hP
  have HW1 : Hid (_ = W1) := hW1
  have H3 : Hid (∀ W0, Below W1.heap.size W1 W0 → Calls Tryd.prog 69 #[.int .i64 k1, .int .i64 (zs.length : Int), .func (.func 84) #[] #[.pointer (some ⟨P + 1, 0, none⟩), .pointer (some ⟨P, 0, none⟩)]] W0 (EfR (fw k1 (wrB zs fs) zs.length) W0)) := fun W0 h0 => where3_c k1 zs.length (wrB zs fs) (P + 1) P W0 HN.out.2 fun i W hi hb => clo3_c (P + 1) P fv nv fs zs i W ((HK.out.2.below h0 HK.out.2.lt).below hb (HK.out.2.below h0 HK.out.2.lt).lt) ((HK.out.1.below h0 HK.out.1.lt).below hb (HK.out.1.below h0 HK.out.1.lt).lt) ((HR.out.2.below h0).below hb) ((HR.out.1.below h0).below hb) hi HN.out.1
  have H4 : Hid (∀ W0, Below W1.heap.size W1 W0 → Calls Tryd.prog 69 #[.int .i64 k2, .int .i64 (zs.length : Int), .func (.func 85) #[] #[.pointer (some ⟨P + 1, 0, none⟩), .pointer (some ⟨P, 0, none⟩)]] W0 (EfR (fw k2 (frB' zs fs) zs.length) W0)) := fun W0 h0 => where4_c k2 zs.length (frB' zs fs) (P + 1) P W0 HN.out.2 fun i W hi hb => clo4_c (P + 1) P fv nv fs zs i W ((HK.out.2.below h0 HK.out.2.lt).below hb (HK.out.2.below h0 HK.out.2.lt).lt) ((HK.out.1.below h0 HK.out.1.lt).below hb (HK.out.1.below h0 HK.out.1.lt).lt) ((HR.out.2.below h0).below hb) ((HR.out.1.below h0).below hb) hi HN.out.1
  have HE : Hid (nuF k1 k2 zs fs = fw k1 (wrB zs fs) zs.length ++ fw k2 (frB' zs fs) zs.length) := rfl
  have HL : Hid ((fw k1 (wrB zs fs) zs.length).length ≤ 30 ∧ (fw k2 (frB' zs fs) zs.length).length ≤ 30) := ⟨Nat.le_trans (fw_len _ _ _) hn, Nat.le_trans (fw_len _ _ _) hn⟩
  obtain ⟨A, hA⟩ : ∃ A, fw k1 (wrB zs fs) zs.length = A := ⟨_, rfl⟩
  obtain ⟨B, hB⟩ : ∃ B, fw k2 (frB' zs fs) zs.length = B := ⟨_, rfl⟩
  rw [hA] at H3 HE HL
  rw [hB] at H4 HE HL
  obtain ⟨a, cap, rfl⟩ : ∃ a cap, nv = .slice a zs.length cap := by obtain ⟨a, c, e, -⟩ := hz; exact ⟨a, c, e⟩
  obtain ⟨fa, fL, fcap, rfl⟩ : ∃ a L cap, fv = .slice a L cap := by obtain ⟨a, c, e, -⟩ := hf; exact ⟨a, _, c, e⟩
  have x0 := HK.out.1.cell 0
  simp at x0
  have hmf : ∀ (fn : Fn) (first cap : Array Value) (w : World), (Instr.makeFunc fn first cap).run Tryd.prog w = .ok (.func fn first cap) w := fun _ _ _ _ => rfl
  clear hP hW1 hz hf hlen hn hA hB
  go_enter Tryd.func73, Tryd.ntmps73
  go_wp2_with (fail)
  rw [HW1.out, HP.out]
  refine (H3.out W1 (Below.refl _ _)).mono ?_
  rintro e w2 ⟨v2, rfl, o2, b2⟩
  have HO2 : Hid (Og 1 erC 71 w.heap.size w2 v2 A) := o2.mono HB1.out.size
  have HBB : Hid (Below W1.heap.size W1 w2) := b2
  have HB2 : Hid (Below w.heap.size w w2) := belowCall HB1.out b2 HB1.out.size
  have k2 := HK.out.1.below b2 HK.out.1.lt
  clear x0 o2 b2
  have x0 := k2.cell 0
  simp at x0
  clear k2
  go_wp2_with (fail)
  refine (H4.out w2 HBB.out).mono ?_
  rintro e w3 ⟨v3, rfl, o3, b3⟩
  have HO3 : Hid (Og 1 erC 71 w.heap.size w3 v2 A) := HO2.out.below b3
  have HR3 : Hid (Rg 1 erC w3 v3 B) := o3.rd erC_len
  have HB3 : Hid (Below w.heap.size w w3) := belowCall HB2.out b3 HB2.out.size
  clear x0 o3 b3 HO2 HB2 HBB
  go_wp2_with (at_builtin; refine appEs rfl _ _ rfl w.heap.size _ A rfl HO3.out _ B rfl HR3.out (by have := HL.out; omega) HB3.out.size ?_)
  intro v4 w4 o4 g4 p4
  have HO4 : Hid (Og 1 erC 71 w.heap.size w4 v4 (nuF k1 k2 zs fs)) := by show Og _ _ _ _ _ _ _; rw [HE.out]; exact o4
  have HB4 : Hid (Below w.heap.size w w4) := HB3.out.trans (grown_below g4 HB3.out.size (fun k e => (World.ownsRow.lt HO3.out k e).1))
  clear o4 g4 p4 HO3 HR3 HB3
  go_wp2
  go_ret
  exact ⟨_, rfl, HO4.out, HB4.out⟩
set_option maxHeartbeats 12800000 in
theorem faultsIn_c (va vl vc : Value) (ts : List Tk) (ls cs : List Int) (w : World) (h : Rbk w va vl vc ts ls cs) (hok : bkB ts ls cs = true) :
   Calls Tryd.prog 39 #[.agg (B3 va vl vc)] w (EfR (ftL ts ls cs) w) := by
  obtain ⟨P, hP⟩ : ∃ P, w.heap.size = P := ⟨_, rfl⟩
  obtain ⟨W0, hW0⟩ : ∃ W, w.alloc (Obj.cells (B3 va vl vc) 27) = W := ⟨_, rfl⟩
  have HB0 : Hid (Below w.heap.size w W0) := by rw [← hW0]; exact (Below.refl _ _).alloc (Nat.le_refl _) _
  have HK0 : Hid (Blk W0 P (B3 va vl vc) 27) := by show Blk _ _ _ _; rw [← hW0, ← hP]; exact Blk.new _ _ _
  have HP : Hid (w.heap.size = P) := hP
  have HW0 : Hid (_ = W0) := hW0
  have HLN : Hid (ts.length ≤ 30 ∧ ls.length ≤ 30 ∧ cs.length ≤ 30) := bkB_len hok
  have HBA : Hid (∀ k (hk : k < ts.length), (0 ≤ ts[k].1 ∧ ts[k].1 ≤ (ls.length : Int) - 1) ∧ (0 ≤ ts[k].2.1 ∧ ts[k].2.1 ≤ (ls.length : Int) - 1) ∧ (-1 ≤ ts[k].2.2 ∧ ts[k].2.2 ≤ (cs.length : Int) - 1)) := bkB_at hok
  have HRD : Hid (∀ W, Below w.heap.size w W → Rbk W va vl vc ts ls cs) := fun W hb => h.below hb
  have HFT : Hid (Calls Tryd.prog 68 #[.agg (B3 va vl vc)] W0 (FtR ls.length cs.length ts W0)) := firsts_c va vl vc ts ls cs W0 (h.below HB0.out) hok
  have ha := h.1
  have hl := h.2.1
  have hc := h.2.2
  obtain ⟨a, cap, rfl, -⟩ := ha
  obtain ⟨a', cap', rfl, -⟩ := hl
  obtain ⟨a'', cap'', rfl, -⟩ := hc
  have x0 := HK0.out.cell 0
  have x1 := HK0.out.cell 1
  have x2 := HK0.out.cell 2
  simp at x0 x1 x2
  have hmf : ∀ (fn : Fn) (first cap : Array Value) (w : World), (Instr.makeFunc fn first cap).run Tryd.prog w = .ok (.func fn first cap) w := fun _ _ _ _ => rfl
  clear hP hW0 h hok
  go_enter Tryd.func39, Tryd.ntmps39
  go_wp2_with (fail)
  rw [HW0.out, HP.out]
  refine HFT.out.mono ?_
  rintro e w2 ⟨ul, uc, rfl, ol, oc, hap, b2⟩
  obtain ⟨la, lL, lc, rfl⟩ : ∃ a L c, ul = .slice a L c := by obtain ⟨a, c, e⟩ := ol.form; exact ⟨a, _, c, e⟩
  obtain ⟨ca, cL, cc, rfl⟩ : ∃ a L c, uc = .slice a L c := by obtain ⟨a, c, e⟩ := oc.form; exact ⟨a, _, c, e⟩
  obtain ⟨X, hX⟩ : ∃ X, w2.heap.size = X := ⟨_, rfl⟩
  obtain ⟨W3, hW3⟩ : ∃ W, w2.alloc (Obj.cells (B3 (.slice none 0 0) (.slice la lL lc) (.slice ca cL cc)) 27) = W := ⟨_, rfl⟩
  have ba : Below w2.heap.size w2 W3 := by rw [← hW3]; exact (Below.refl _ _).alloc (Nat.le_refl _) _
  have q0 := HK0.out.below b2 HK0.out.lt
  obtain ⟨BK, hBK⟩ : ∃ c : Array Value, B3 (.slice a ts.length cap) (.slice a' ls.length cap') (.slice a'' cs.length cap'') = c := ⟨_, rfl⟩
  have HBK : Hid (B3 (.slice a ts.length cap) (.slice a' ls.length cap') (.slice a'' cs.length cap'') = BK) := hBK
  rw [hBK] at q0
  have HK3 : Hid (Blk W3 P BK 27 ∧ Blk W3 X (B3 (.slice none 0 0) (.slice la lL lc) (.slice ca cL cc)) 27) := ⟨q0.below ba q0.lt, by rw [← hW3, ← hX]; exact Blk.new _ _ _⟩
  have HF3 : Hid (Rd .i64 W3 (.slice la lL lc) (wr18 hasL ls.length ts) ∧ Rd .i64 W3 (.slice ca cL cc) (wr18 hasC cs.length ts)) := ⟨ol.rd.below ba, oc.rd.below ba⟩
  have HB3 : Hid (Below w.heap.size w W3) := belowCall (belowCall HB0.out b2 HB0.out.size) ba (Nat.le_trans HB0.out.size b2.size)
  have HW3 : Hid (w2.alloc (Obj.cells (B3 (.slice none 0 0) (.slice la lL lc) (.slice ca cL cc)) 27) = W3 ∧ w2.heap.size = X) := ⟨hW3, hX⟩
  have hPl := q0.lt
  have t0 := q0.cell 0
  rw [← hBK] at t0
  simp at t0
  have H1 : Hid (Calls Tryd.prog 69 #[.int .i64 1, .int .i64 (ts.length : Int), .func (.func 70) #[] #[.pointer (some ⟨X, 0, none⟩), .pointer (some ⟨P, 0, none⟩)]] W3 (EfR (fw 1 (twB ts) ts.length) W3)) := by
    refine where1_c 1 ts.length (twB ts) X P W3 HLN.out.1 fun i W hi hb => ?_
    have hbt := HBA.out i hi
    have hk2 := HK3.out.1.below hb HK3.out.1.lt
    rw [← HBK.out] at hk2
    have := clo1_c X P (.slice none 0 0) (.slice la lL lc) (.slice ca cL cc) _ _ _ ts (wr18 hasL ls.length ts) (wr18 hasC cs.length ts) i W (HK3.out.2.below hb HK3.out.2.lt) hk2 (HRD.out W (belowCall HB3.out hb HB3.out.size)).1 (HF3.out.1.below hb) (HF3.out.2.below hb) hi ⟨_, _, _, rfl⟩ (by rw [wr18_len]; exact hbt.1) (by rw [wr18_len]; exact hbt.2.1) (by rw [wr18_len]; exact hbt.2.2)
    rw [twF_eq ls.length cs.length ts i hi hbt.1 hbt.2.1 hbt.2.2] at this
    exact this
  have H2 : Hid (∀ W0, Below W3.heap.size W3 W0 → Calls Tryd.prog 69 #[.int .i64 2, .int .i64 (ts.length : Int), .func (.func 72) #[] #[.pointer (some ⟨P, 0, none⟩)]] W0 (EfR (fw 2 (seB ts) ts.length) W0)) := fun W0 h0 => by
    refine where2_c 2 ts.length (seB ts) P W0 HLN.out.1 fun i W hi hb => ?_
    have hb' := belowCall h0 hb h0.size
    have hk2 := HK3.out.1.below hb' HK3.out.1.lt
    rw [← HBK.out] at hk2
    exact clo2_c P _ _ _ ts i W hk2 (HRD.out W (belowCall HB3.out hb' HB3.out.size)).1 hi
  have HE : Hid (ftL ts ls cs = (fw 1 (twB ts) ts.length ++ fw 2 (seB ts) ts.length) ++ nuF 3 4 ls (wr18 hasL ls.length ts) ++ nuF 5 6 cs (wr18 hasC cs.length ts)) := rfl
  have HLL : Hid ((fw 1 (twB ts) ts.length).length ≤ 30 ∧ (fw 2 (seB ts) ts.length).length ≤ 30 ∧ (nuF 3 4 ls (wr18 hasL ls.length ts)).length ≤ 60 ∧ (nuF 5 6 cs (wr18 hasC cs.length ts)).length ≤ 60) := ⟨Nat.le_trans (fw_len _ _ _) HLN.out.1, Nat.le_trans (fw_len _ _ _) HLN.out.1, by have := nuF_len 3 4 ls (wr18 hasL ls.length ts); have := HLN.out; omega, by have := nuF_len 5 6 cs (wr18 hasC cs.length ts); have := HLN.out; omega⟩
  have HN1 : Hid (∀ W0, Below W3.heap.size W3 W0 → Calls Tryd.prog 73 #[.int .i64 3, .int .i64 4, .slice a' ls.length cap', .slice la lL lc] W0 (EfR (nuF 3 4 ls (wr18 hasL ls.length ts)) W0)) := fun W0 h0 => numbers_c 3 4 _ _ ls (wr18 hasL ls.length ts) W0 (HRD.out W0 (belowCall HB3.out h0 HB3.out.size)).2.1 (HF3.out.1.below h0) (wr18_len _ _ _) HLN.out.2.1
  have HN2 : Hid (∀ W0, Below W3.heap.size W3 W0 → Calls Tryd.prog 73 #[.int .i64 5, .int .i64 6, .slice a'' cs.length cap'', .slice ca cL cc] W0 (EfR (nuF 5 6 cs (wr18 hasC cs.length ts)) W0)) := fun W0 h0 => numbers_c 5 6 _ _ cs (wr18 hasC cs.length ts) W0 (HRD.out W0 (belowCall HB3.out h0 HB3.out.size)).2.2 (HF3.out.2.below h0) (wr18_len _ _ _) HLN.out.2.2
  obtain ⟨A, hA⟩ : ∃ A, fw 1 (twB ts) ts.length = A := ⟨_, rfl⟩
  obtain ⟨B, hB⟩ : ∃ A, fw 2 (seB ts) ts.length = A := ⟨_, rfl⟩
  obtain ⟨C, hC⟩ : ∃ A, nuF 3 4 ls (wr18 hasL ls.length ts) = A := ⟨_, rfl⟩
  obtain ⟨D, hD⟩ : ∃ A, nuF 5 6 cs (wr18 hasC cs.length ts) = A := ⟨_, rfl⟩
  rw [hA] at H1 HE HLL
  rw [hB] at H2 HE HLL
  rw [hC] at HN1 HE HLL
  rw [hD] at HN2 HE HLL
  have HBW : Hid (∀ W, Below W3.heap.size W3 W → W.cell? ⟨P, 0, none⟩ = some (.slice a ts.length cap) ∧ W.cell? ⟨P, 1, none⟩ = some (.slice a' ls.length cap') ∧ W.cell? ⟨P, 2, none⟩ = some (.slice a'' cs.length cap'') ∧ W.cell? ⟨X, 1, none⟩ = some (.slice la lL lc) ∧ W.cell? ⟨X, 2, none⟩ = some (.slice ca cL cc)) := fun W hb => by
    have k1 := HK3.out.1.below hb HK3.out.1.lt
    have k2 := HK3.out.2.below hb HK3.out.2.lt
    rw [← HBK.out] at k1
    exact ⟨by have := k1.cell 0; simpa using this, by have := k1.cell 1; simpa using this, by have := k1.cell 2; simpa using this, by have := k2.cell 1; simpa using this, by have := k2.cell 2; simpa using this⟩
  clear x0 x1 x2 hX hW3 ba ol oc hap b2 q0 hBK hA hB hC hD HB0 HK0 HFT HW0
  go_wp2_with (fail)
  rw [HW3.out.1, HW3.out.2]
  clear HW3 t0 hPl
  refine H1.out.mono ?_
  rintro e w4 ⟨v4, rfl, o4, b4⟩
  have HO4 : Hid (Og 1 erC 71 W3.heap.size w4 v4 A) := o4
  have HBB4 : Hid (Below W3.heap.size W3 w4) := b4
  obtain ⟨x0, -, -, -, -⟩ := HBW.out w4 b4
  clear o4 b4
  go_wp2_with (fail)
  refine (H2.out w4 HBB4.out).mono ?_
  rintro e w5 ⟨v5, rfl, o5, b5⟩
  have HBB5 : Hid (Below W3.heap.size W3 w5) := belowCall HBB4.out b5 HBB4.out.size
  have HO5 : Hid (Og 1 erC 71 W3.heap.size w5 v4 A) := HO4.out.below b5
  have HR5 : Hid (Rg 1 erC w5 v5 B) := o5.rd erC_len
  have HS5 : Hid (W3.heap.size ≤ w5.heap.size) := HBB5.out.size
  clear x0 o5 b5 HO4 HBB4
  go_wp2_with (at_builtin; refine appEs rfl _ _ rfl W3.heap.size _ (A) rfl HO5.out _ B rfl HR5.out (by have := HLL.out; simp; omega) HS5.out ?_)
  intro v6 w6 o g p
  have HO6 : Hid (Og 1 erC 71 W3.heap.size w6 v6 (A ++ B)) := by show Og _ _ _ _ _ _ _; simpa only [List.append_assoc] using o
  have HBB6 : Hid (Below W3.heap.size W3 w6) := HBB5.out.trans (grown_below g HBB5.out.size (fun k e => (World.ownsRow.lt HO5.out k e).1))
  clear o g p HO5 HR5 HS5 HBB5
  obtain ⟨-, x1, -, y1, -⟩ := HBW.out w6 HBB6.out
  go_wp2_with (fail)
  refine (HN1.out w6 HBB6.out).mono ?_
  rintro e w7 ⟨v7, rfl, o, b⟩
  have HBB7 : Hid (Below W3.heap.size W3 w7) := belowCall HBB6.out b HBB6.out.size
  have HO7 : Hid (Og 1 erC 71 W3.heap.size w7 v6 (A ++ B)) := HO6.out.below b
  have HR7 : Hid (Rg 1 erC w7 v7 C) := o.rd erC_len
  have HS7 : Hid (W3.heap.size ≤ w7.heap.size) := HBB7.out.size
  clear x1 y1 o b HO6 HBB6
  go_wp2_with (at_builtin; refine appEs rfl _ _ rfl W3.heap.size _ (A ++ B) rfl HO7.out _ C rfl HR7.out (by have := HLL.out; simp; omega) HS7.out ?_)
  intro v8 w8 o g p
  have HO8 : Hid (Og 1 erC 71 W3.heap.size w8 v8 (A ++ B ++ C)) := by show Og _ _ _ _ _ _ _; simpa only [List.append_assoc] using o
  have HBB8 : Hid (Below W3.heap.size W3 w8) := HBB7.out.trans (grown_below g HBB7.out.size (fun k e => (World.ownsRow.lt HO7.out k e).1))
  clear o g p HO7 HR7 HS7 HBB7
  obtain ⟨-, -, x1, -, y1⟩ := HBW.out w8 HBB8.out
  go_wp2_with (fail)
  refine (HN2.out w8 HBB8.out).mono ?_
  rintro e w9 ⟨v9, rfl, o, b⟩
  have HBB9 : Hid (Below W3.heap.size W3 w9) := belowCall HBB8.out b HBB8.out.size
  have HO9 : Hid (Og 1 erC 71 W3.heap.size w9 v8 (A ++ B ++ C)) := HO8.out.below b
  have HR9 : Hid (Rg 1 erC w9 v9 D) := o.rd erC_len
  have HS9 : Hid (W3.heap.size ≤ w9.heap.size) := HBB9.out.size
  clear x1 y1 o b HO8 HBB8
  go_wp2_with (at_builtin; refine appEs rfl _ _ rfl W3.heap.size _ (A ++ B ++ C) rfl HO9.out _ D rfl HR9.out (by have := HLL.out; simp; omega) HS9.out ?_)
  intro v10 w10 o g p
  have HO10 : Hid (Og 1 erC 71 W3.heap.size w10 v10 (A ++ B ++ C ++ D)) := by show Og _ _ _ _ _ _ _; simpa only [List.append_assoc] using o
  have HBB10 : Hid (Below W3.heap.size W3 w10) := HBB9.out.trans (grown_below g HBB9.out.size (fun k e => (World.ownsRow.lt HO9.out k e).1))
  clear o g p HO9 HR9 HS9 HBB9
  have HZ : Hid (Og 1 erC 71 w.heap.size w10 v10 (ftL ts ls cs)) := by show Og _ _ _ _ _ _ _; rw [HE.out]; exact HO10.out.mono HB3.out.size
  have HBZ : Hid (Below w.heap.size w w10) := belowCall HB3.out HBB10.out HB3.out.size
  clear HO10 HBB10
  go_wp2
  go_ret
  exact ⟨_, rfl, HZ.out, HBZ.out⟩

end Go.Proofs.YtmfmlbiplagmiaaDoor
