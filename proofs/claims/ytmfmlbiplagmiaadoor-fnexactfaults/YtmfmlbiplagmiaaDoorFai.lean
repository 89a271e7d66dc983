/- Faults, by the program; no condition beside the variable of the library. -/
import Derived.Test.YtmfmlbiplagmiaaDoorFls
import Derived.Test.YtmfmlbiplagmiaaDoorFin
import Derived.Test.YtmfmlbiplagmiaaDoorTof
import Derived.Test.YtmfmlbiplagmiaaDoorMixC
import Derived.Recover
import Derived.Defers
namespace Go.Proofs.YtmfmlbiplagmiaaDoor
open Go.RowKit Go.ChangeShapes Go.WideShapes Go.ChangeAt
set_option linter.unusedVariables false
set_option linter.unusedSimpArgs false
set_option maxRecDepth 8000

set_option maxHeartbeats 1600000 in
theorem caught_c (k a : Int) (w : World) (hg : HgV w) : Calls Tryd.prog 37 #[nfV k a] w fun e w' => e = .returned (.agg (F2 k a)) ∧ Below w.heap.size w w' := by
  obtain ⟨P, hP⟩ : ∃ P, w.heap.size = P := ⟨_, rfl⟩
  obtain ⟨W1, hW1⟩ : ∃ W, w.alloc (Obj.cells (F2 0 0) 65) = W := ⟨_, rfl⟩
  have HB1 : Hid (Below w.heap.size w W1) := by rw [← hW1]; exact (Below.refl _ _).alloc (Nat.le_refl _) _
  have HK1 : Hid (Blk W1 P (F2 0 0) 65) := by show Blk _ _ _ _; rw [← hW1, ← hP]; exact Blk.new _ _ _
  have HG1 : Hid (HgV W1) := hg.below HB1.out
  have HP : Hid (w.heap.size = P) := hP
  have q2 : ∀ (v : Value) (w : World), (Instr.typeAssert (.iface 103 v) 20 71 true).run Tryd.prog w = .ok (.tuple #[.iface 103 v, .bool true]) w := fun v w => by kernel_rfl
  have HW1 : Hid (_ = W1) := hW1
  clear hP hW1 hg
  go_enter Tryd.func37, Tryd.ntmps37
  go_wp2_with (fail)
  rw [HW1.out, HP.out]
  refine (told_c k a W1 HG1.out).mono ?_
  rintro e w2 ⟨rfl, b2⟩
  have k2 := HK1.out.below b2 HK1.out.lt
  have HBF : Hid (Below w.heap.size w ((w2.setCell ⟨P, 0, none⟩ (.int .i64 k)).setCell ⟨P, 1, none⟩ (.int .i64 a))) := ((belowCall HB1.out b2 HB1.out.size).setCell (by have := HP.out; dsimp only; omega) _).setCell (by have := HP.out; dsimp only; omega) _
  have HKF : Hid (Blk ((w2.setCell ⟨P, 0, none⟩ (.int .i64 k)).setCell ⟨P, 1, none⟩ (.int .i64 a)) P (F2 k a) 65) := by
    show Blk _ _ _ _
    have := (k2.set 0 (.int .i64 k)).set 1 (.int .i64 a)
    simpa using this
  have z0 := k2.cell 0
  have z1 := k2.cell 1
  have h0 := k2.frozen 0
  have h1 := k2.frozen 1
  simp at z0 z1
  clear b2 k2 HK1 HB1 HG1
  go_wp2
  exact bodyPost_ret (v := .agg (F2 k a)) (results_cell_row rfl _ _ _ 65 _ (0, 0) _ rfl HKF.out Tryd.underlying65 rfl sizeFl) rfl ⟨rfl, HBF.out⟩
theorem catchF_r (L : Nat) (w : World) :
    CallsD Tryd.prog 36 #[.pointer (some ⟨L, 0, none⟩)] .returning w fun e u' w' => e = .returned (.tuple #[]) ∧ u' = .returning ∧ w' = w := by
  refine callsD_of_wpS Tryd.func36 rfl fun c₀ cs hu => ?_
  refine wpS_seq (wpS_region ?_)
  cases c₀
  simp_all [wpOpsS, go_sem, recoverD, Tryd.ntmps36, Exit.thenS]
  refine wpS_of_wp ?_
  go_wp2
  simp_all [bodyPostS, results, Tryd.results36]
set_option maxHeartbeats 1600000 in
theorem catchF_p (L : Nat) (old : Value) (w : World) (hg : HgV w) (hK : Blk w L #[old] 31) :
    CallsD Tryd.prog 36 #[.pointer (some ⟨L, 0, none⟩)] (.panicking [{ v := nfV 7 0, recovered := false }]) w fun e u' w' =>
      e = .returned (.tuple #[]) ∧ u' = .panicking [{ v := nfV 7 0, recovered := true }] ∧ ∃ w1, Below w.heap.size w w1 ∧ w' = (w1.setCell ⟨L, 0, none⟩ (.slice (some ⟨w1.heap.size, 0, none⟩) 1 1)).alloc (Obj.cells (F2 7 0) 65) := by
  refine callsD_of_wpS Tryd.func36 rfl fun c₀ cs hu => ?_
  refine wpS_seq (wpS_region ?_)
  simp [wpOpsS, go_sem, recoverD, hu, Tryd.ntmps36, Exit.thenS]
  have HG : Hid (HgV w) := hg
  have HK : Hid (Blk w L #[old] 31) := hK
  have HU : Hid (c₀.mode = _) := hu
  clear hg hK
  refine wpS_of_wp ?_
  go_wp2_with (fail)
  refine (caught_c 7 0 w HG.out).mono ?_
  rintro e w1 ⟨rfl, b1⟩
  have k1 := HK.out.below b1 HK.out.lt
  have HB : Hid (Below w.heap.size w w1) := b1
  have hl := k1.lt
  have z0 := k1.cell 0
  have f0 := k1.frozen 0
  simp at z0
  clear b1 k1
  go_wp2
  simp [bodyPostS, results, Tryd.results36]
  exact ⟨_, HB.out, rfl⟩
/-- what Faults answers -/
def FaR (l : List Fl) (w : World) (e : Ending) (w' : World) : Prop := ∃ v, e = .returned v ∧ Og 2 flC 65 w.heap.size w' v l ∧ Below w.heap.size w w'
theorem faL_no {ts : List Tk} {ls cs : List Int} (h : bkB ts ls cs = false) : faL ts ls cs = [(7, 0)] := by unfold faL; rw [h]; rfl
theorem faL_yes {ts : List Tk} {ls cs : List Int} (h : bkB ts ls cs = true) : faL ts ls cs = ftL ts ls cs := by unfold faL; rw [h]; rfl
theorem ftL_len {ts : List Tk} {ls cs : List Int} (h1 : ts.length ≤ 30) (h2 : ls.length ≤ 30) (h3 : cs.length ≤ 30) : (ftL ts ls cs).length ≤ 200 := by
  have a1 := fw_len 1 (twB ts) ts.length
  have a2 := fw_len 2 (seB ts) ts.length
  have a3 := nuF_len 3 4 ls (wr18 hasL ls.length ts)
  have a4 := nuF_len 5 6 cs (wr18 hasC cs.length ts)
  unfold ftL
  simp only [List.length_append]
  omega
theorem er_at {w : World} {v : Value} {ls : List (Int × Int)} (h : Rg 1 erC w v ls) {j : Nat} (hj : j < ls.length) : ∃ b off cap, v = .slice (some ⟨b, off, none⟩) ls.length cap ∧ w.cell? ⟨b, off + j, none⟩ = some (nfV ls[j].1 ls[j].2) := by
  obtain ⟨a, cap, rfl, h1, h2, h3⟩ := h
  rcases h3 with h3 | ⟨b, off, rfl, h4⟩
  · subst h3; simp at hj
  · exact ⟨b, off, cap, rfl, by have := h4 j hj 0 _ rfl; simpa using this⟩
set_option maxHeartbeats 12800000 in
theorem faultsI_c (va vl vc : Value) (ts : List Tk) (ls cs : List Int) (w : World) (hg : HgV w) (h : Rbk w va vl vc ts ls cs) :
   Calls Tryd.prog 11 #[.agg (B3 va vl vc)] w (FaR (faL ts ls cs) w) := by
  have hmf : ∀ (fn : Fn) (first cap : Array Value) (w : World), (Instr.makeFunc fn first cap).run Tryd.prog w = .ok (.func fn first cap) w := fun _ _ _ _ => rfl
  obtain ⟨P, hP⟩ : ∃ P, w.heap.size = P := ⟨_, rfl⟩
  obtain ⟨W1, hW1⟩ : ∃ W1, (w.alloc (Obj.cells (B3 va vl vc) 27)).alloc (Obj.cells #[.slice none 0 0] 31) = W1 := ⟨_, rfl⟩
  have hb : Below w.heap.size w W1 := hW1 ▸ ((Below.refl _ _).alloc (Nat.le_refl _) _).alloc (by simp) _
  have HB : Hid (Below w.heap.size w W1) := hb
  obtain ⟨BK, hBK⟩ : ∃ c : Array Value, B3 va vl vc = c := ⟨_, rfl⟩
  have K0 : Hid (Blk W1 P BK 27 ∧ Blk W1 (P + 1) #[.slice none 0 0] 31) := ⟨by rw [← hW1, ← hP, ← hBK]; exact (Blk.new _ _ _).alloc _, by rw [← hW1]; exact Blk.newAt _ (P + 1) _ 31 (by simp [hP])⟩
  have HBK : Hid (B3 va vl vc = BK) := hBK
  have HP : Hid (w.heap.size = P) := hP
  have HGW : Hid (∀ W, Below w.heap.size w W → HgV W) := fun W hb => hg.below hb
  have HRD : Hid (∀ W, Below w.heap.size w W → Rbk W va vl vc ts ls cs) := fun W hb => h.below hb
  have ha := h.1
  have hl := h.2.1
  have hc := h.2.2
  obtain ⟨a, cap, rfl, -⟩ := ha
  obtain ⟨a', cap', rfl, -⟩ := hl
  obtain ⟨a'', cap'', rfl, -⟩ := hc
  have x0 := K0.out.1.cell 0
  have x1 := K0.out.1.cell 1
  have x2 := K0.out.1.cell 2
  rw [← hBK] at x0 x1 x2
  simp at x0 x1 x2
  have HW1 : Hid (_ = W1) := hW1
  have HNO : Hid (bkB ts ls cs = false → faL ts ls cs = [(7, 0)]) := faL_no
  have HYE : Hid (bkB ts ls cs = true → faL ts ls cs = ftL ts ls cs ∧ (ftL ts ls cs).length ≤ 200 ∧ ∀ W, Below w.heap.size w W → Calls Tryd.prog 39 #[.agg (B3 (.slice a ts.length cap) (.slice a' ls.length cap') (.slice a'' cs.length cap''))] W (EfR (ftL ts ls cs) W)) := fun e => ⟨faL_yes e, by have := bkB_len e; exact ftL_len this.1 this.2.1 this.2.2, fun W hb => faultsIn_c _ _ _ ts ls cs W (HRD.out W hb) e⟩
  obtain ⟨Q, hQ⟩ : ∃ Q, bkB ts ls cs = Q := ⟨_, rfl⟩
  have HC : Hid (∀ W, Below w.heap.size w W → Calls Tryd.prog 38 #[.agg (B3 (.slice a ts.length cap) (.slice a' ls.length cap') (.slice a'' cs.length cap''))] W fun e w' => e = enB Q ∧ Below W.heap.size W w') := fun W hb => by have := mustRead_c _ _ _ ts ls cs W (HRD.out W hb); rw [hQ] at this; exact this
  rw [hQ] at HNO HYE
  clear hb hW1 h hg hQ hBK hP
  go_enter_defers Tryd.func11, Tryd.ntmps11
  go_wp2_with (fail)
  rw [HW1.out, HP.out]
  refine (HC.out W1 HB.out).mono ?_
  rintro e w2 ⟨rfl, b2⟩
  have HK2 : Hid (Blk w2 P BK 27 ∧ Blk w2 (P + 1) #[.slice none 0 0] 31) := ⟨K0.out.1.below b2 K0.out.1.lt, K0.out.2.below b2 K0.out.2.lt⟩
  have HB2 : Hid (Below w.heap.size w w2) := belowCall HB.out b2 HB.out.size
  clear x0 x1 x2 b2 K0 HB HW1
  cases Q with
  | false =>
    refine leaves_cons (f := 36) (args := #[.pointer (some ⟨P + 1, 0, none⟩)]) (by simp) (by simp [go_sem]) ?_
    refine (catchF_p (P + 1) _ w2 (HGW.out _ HB2.out) HK2.out.2).mono ?_
    rintro e u' w'' ⟨rfl, rfl, v2, b2, rfl⟩
    have k1 := HK2.out.2.below b2 HK2.out.2.lt
    have kz := (k1.set 0 (.slice (some ⟨v2.heap.size, 0, none⟩) 1 1)).alloc (Obj.cells (F2 7 0) 65)
    have z0 := kz.cell 0
    simp at z0
    have hbv := belowCall HB2.out b2 HB2.out.size
    have HF : Hid (FaR (faL ts ls cs) w (.returned (.slice (some ⟨v2.heap.size, 0, none⟩) 1 1)) ((v2.setCell ⟨P + 1, 0, none⟩ (.slice (some ⟨v2.heap.size, 0, none⟩) 1 1)).alloc (Obj.cells (F2 7 0) 65))) := by
      show FaR _ _ _ _
      rw [HNO.out (by first | rfl | trivial)]
      refine ⟨_, rfl, ?_, (hbv.setCell (by have := HP.out; dsimp only; omega) _).alloc (by have := hbv.size; simp; omega) _⟩
      have := World.ownsRow_lit (e := 65) (size := 2) (base := w.heap.size) (v2.setCell ⟨P + 1, 0, none⟩ (.slice (some ⟨v2.heap.size, 0, none⟩) 1 1)) (F2 7 0) 1 (by have := hbv.size; simp; omega) (by first | decide | simp | rfl) (by first | decide | simp | rfl)
      simpa [Og] using this
    clear k1 kz b2 hbv
    simp [Leaves, settle, results, Tryd.results11, go_sem, z0]
    exact HF.out
  | true =>
    obtain ⟨hE, hL, hI⟩ := HYE.out (by first | rfl | trivial)
    have HL : Hid ((ftL ts ls cs).length ≤ 200) := hL
    have HE : Hid (faL ts ls cs = ftL ts ls cs) := hE
    have HI : Hid (∀ W, Below w.heap.size w W → Calls Tryd.prog 39 #[.agg (B3 (.slice a ts.length cap) (.slice a' ls.length cap') (.slice a'' cs.length cap''))] W (EfR (ftL ts ls cs) W)) := hI
    obtain ⟨l, hl⟩ : ∃ l, ftL ts ls cs = l := ⟨_, rfl⟩
    rw [hl] at HL HE HI
    have x0 := HK2.out.1.cell 0
    have x1 := HK2.out.1.cell 1
    have x2 := HK2.out.1.cell 2
    rw [← HBK.out] at x0 x1 x2
    simp at x0 x1 x2
    clear hE hL hI hl HYE HNO HC
    simp only [enB, if_true]
    go_wp2_with (fail)
    refine (HI.out w2 HB2.out).mono ?_
    rintro e w3 ⟨ve, rfl, oe, b3⟩
    have HK3 : Hid (Blk w3 (P + 1) #[.slice none 0 0] 31) := HK2.out.2.below b3 HK2.out.2.lt
    have HB3 : Hid (Below w.heap.size w w3) := belowCall HB2.out b3 HB2.out.size
    have HO3 : Hid (Og 1 erC 71 w.heap.size w3 ve l) := oe.mono HB2.out.size
    obtain ⟨ea, eL, ec, rfl⟩ : ∃ a L c, ve = .slice a L c := by obtain ⟨a, c, e⟩ := oe.form; exact ⟨a, _, c, e⟩
    have HEL : Hid (l.length = eL) := by obtain ⟨a, c, e⟩ := oe.form; cases e; rfl
    have HN3 : Hid (Og 2 flC 65 w.heap.size w3 (.slice none 0 0) (l.take 0)) := Og.nil _ _ _ _ _
    clear x0 x1 x2 oe b3 HK2 HB2 HI
    go_wp2
    go_loopw [11] (fun i wr => ∃ (j : Nat) (la : Option Addr) (lL lc : Nat), i = .int .i64 (j : Int) ∧ j ≤ l.length ∧ Hid (Blk wr (P + 1) #[.slice la lL lc] 31) ∧ Hid (Og 2 flC 65 w.heap.size wr (.slice la lL lc) (l.take j)) ∧ Hid (Og 1 erC 71 w.heap.size wr (.slice ea eL ec) l) ∧ Hid (Below w.heap.size w wr)) (fun i _ => l.length - (intOf i).toNat)
    case atStart => exact ⟨0, _, _, _, rfl, Nat.zero_le _, HK3.out, HN3.out, HO3.out, HB3.out⟩
    case round =>
      obtain ⟨j, la, lL, lc, rfl, hj, hK, hO, hR, hB⟩ := hrel
      clear HK3 HN3 HO3 HB3
      obtain rfl : l.length = eL := HEL.out
      by_cases hlt : j < l.length
      case neg =>
        obtain rfl : l.length = j := by omega
        clear hlt hj
        have hnl : ¬ ((l.length : Int) < (l.length : Int)) := by omega
        have z0 := hK.out.cell 0
        have f0 := hK.out.frozen 0
        simp at z0
        have kf := hK.out.set 0 (.slice la lL lc)
        have y0 := kf.cell 0
        simp at y0
        have HF : Hid (FaR (faL ts ls cs) w (.returned (.slice la lL lc)) (wr.setCell ⟨P + 1, 0, none⟩ (.slice la lL lc))) := by
          show FaR _ _ _ _
          rw [HE.out]
          have e1 := hO.out
          rw [List.take_length] at e1
          exact ⟨_, rfl, World.ownsRow.kept e1 (grown_set' _ _ _ _) (.inr (row_blk e1 hK.out (by decide))), hB.out.setCell (by have := HP.out; dsimp only; omega) _⟩
        clear hK hO hR hB kf
        go_wp2
        refine leaves_cons (f := 36) (args := #[.pointer (some ⟨P + 1, 0, none⟩)]) (by simp) (by simp [go_sem]) ?_
        refine (catchF_r (P + 1) _).mono ?_
        rintro e u' w'' ⟨rfl, rfl, rfl⟩
        simp [Leaves, settle, results, Tryd.results11, go_sem, y0]
        exact HF.out
      case pos =>
      obtain ⟨b, off, cp, he, c0⟩ := er_at (hR.out.rd erC_len) hlt
      cases he
      have HTK : Hid (l.take (j + 1) = l.take j ++ [l[j]]) := (List.take_append_getElem hlt).symm
      obtain ⟨x, hx⟩ : ∃ x, l[j] = x := ⟨_, rfl⟩
      rw [hx] at c0 HTK
      obtain ⟨k, q⟩ := x
      dsimp only at c0
      have hi0 : (0 : Int) ≤ (j : Int) := by omega
      have hi1 : (j : Int) < (l.length : Int) := by omega
      have hwj : wrap64 ((j : Int) + 1) = (j : Int) + 1 := wrap64_in (by have := HL.out; omega)
      have HLT : Hid ((l.take j).length ≤ 1000) := by show _ ≤ _; rw [List.length_take]; have := HL.out; omega
      obtain ⟨wd, hwd⟩ : ∃ W, wr.drew = W := ⟨_, rfl⟩
      have HK_0 : Hid (Blk wd (P + 1) #[.slice la lL lc] 31) := by show Blk _ _ _ _; rw [← hwd]; exact hK.out
      have HO_0 : Hid (Og 2 flC 65 w.heap.size wd (.slice la lL lc) (l.take j)) := by show Og _ _ _ _ _ _ _; rw [← hwd]; exact hO.out.below (Below.refl _ _).drew
      have HR_0 : Hid (Og 1 erC 71 w.heap.size wd (.slice (some ⟨b, off, none⟩) l.length ec) l) := by show Og _ _ _ _ _ _ _; rw [← hwd]; exact hR.out.below (Below.refl _ _).drew
      have HB_0 : Hid (Below w.heap.size w wd) := by rw [← hwd]; exact hB.out.drew
      have HWD : Hid (wr.drew = wd) := hwd
      clear hx hwd hK hO hR hB hj
      go_wp2
      refine region_any0 (by kernel_rfl) ?_
      rw [HWD.out]
      clear c0
      refine any_two 0 1 (by kernel_rfl) rfl rfl ?_ ?_
      · have z0 := HK_0.out.cell 0
        simp at z0
        go_wp2
        clear z0
        refine any_one 1 (by kernel_rfl) rfl ?_
        go_wp2
        refine any_one 2 (by kernel_rfl) rfl ?_
        go_wp2_with (fail)
        refine (told_c k q _ (HGW.out _ HB_0.out)).mono ?_
        rintro e w1_ ⟨rfl, b4⟩
        have HK_1 : Hid (Blk w1_ (P + 1) #[.slice la lL lc] 31) := HK_0.out.below b4 HK_0.out.lt
        have HO_1 : Hid (Og 2 flC 65 w.heap.size w1_ (.slice la lL lc) (l.take j)) := HO_0.out.below b4
        have HR_1 : Hid (Og 1 erC 71 w.heap.size w1_ (.slice (some ⟨b, off, none⟩) l.length ec) l) := HR_0.out.below b4
        have HB_1 : Hid (Below w.heap.size w w1_) := belowCall HB_0.out b4 HB_0.out.size
        clear b4 HK_0 HO_0 HR_0 HB_0
        go_wp2
        refine any_one 3 (by kernel_rfl) rfl ?_
        go_wp2
        obtain ⟨w2_, hW5⟩ : ∃ W, w1_.alloc (Obj.cells #[.int .i64 k, .int .i64 q] 65) = W := ⟨_, rfl⟩
        rw [hW5]
        have ba : Below w1_.heap.size w1_ w2_ := by rw [← hW5]; exact (Below.refl _ _).alloc (Nat.le_refl _) _
        obtain ⟨g5, hg5⟩ : ∃ g, w1_.heap.size = g := ⟨_, rfl⟩
        have HC5 : Hid (Blk w2_ g5 #[.int .i64 k, .int .i64 q] 65) := by show Blk _ _ _ _; rw [← hW5, ← hg5]; exact Blk.new _ _ _
        rw [hg5]
        have HK_2 : Hid (Blk w2_ (P + 1) #[.slice la lL lc] 31) := HK_1.out.below ba HK_1.out.lt
        have HO_2 : Hid (Og 2 flC 65 w.heap.size w2_ (.slice la lL lc) (l.take j)) := HO_1.out.below ba
        have HR_2 : Hid (Og 1 erC 71 w.heap.size w2_ (.slice (some ⟨b, off, none⟩) l.length ec) l) := HR_1.out.below ba
        have HB_2 : Hid (Below w.heap.size w w2_) := belowCall HB_1.out ba HB_1.out.size
        clear ba hW5 hg5 HK_1 HO_1 HR_1 HB_1
        refine any_one 4 (by kernel_rfl) rfl ?_
        refine appF rfl _ _ rfl w.heap.size _ (l.take j) rfl HO_2.out g5 (k, q) rfl HC5.out HLT.out HB_2.out.size ?_
        intro V6 w3_ o6 g6 p6
        obtain ⟨a6, L6, c6, rfl⟩ : ∃ a L c, V6 = .slice a L c := by obtain ⟨a, c, e⟩ := o6.form; exact ⟨a, _, c, e⟩
        have HK_3 : Hid (Blk w3_ (P + 1) #[.slice la lL lc] 31) := HK_2.out.grown g6 (row_blk HO_2.out HK_2.out (by decide))
        have HO_3 : Hid (Og 2 flC 65 w.heap.size w3_ (.slice a6 L6 c6) (l.take (j + 1))) := by show Og _ _ _ _ _ _ _; rw [HTK.out]; exact o6
        have HR_3 : Hid (Og 1 erC 71 w.heap.size w3_ (.slice (some ⟨b, off, none⟩) l.length ec) l) := World.ownsRow.kept HR_2.out g6 (own_tag HR_2.out HO_2.out (by decide))
        have HB_3 : Hid (Below w.heap.size w w3_) := HB_2.out.trans (grown_below g6 HB_2.out.size (fun k e => (World.ownsRow.lt HO_2.out k e).1))
        clear o6 g6 p6 HC5 HK_2 HO_2 HR_2 HB_2
        go_wp2
        refine any_one 5 (by kernel_rfl) rfl ?_
        have z0 := HK_3.out.cell 0
        have f0 := HK_3.out.frozen 0
        simp at z0
        go_wp2
        obtain ⟨w4_, hW7⟩ : ∃ W, w3_.setCell ⟨P + 1, 0, none⟩ (.slice a6 L6 c6) = W := ⟨_, rfl⟩
        rw [hW7]
        have gg : w3_.grownBy w4_ (some (P + 1)) := by rw [← hW7]; exact grown_set' _ _ _ _
        have HK_4 : Hid (Blk w4_ (P + 1) #[.slice a6 L6 c6] 31) := by show Blk _ _ _ _; rw [← hW7]; have := HK_3.out.set 0 (.slice a6 L6 c6); simpa using this
        have HO_4 : Hid (Og 2 flC 65 w.heap.size w4_ (.slice a6 L6 c6) (l.take (j + 1))) := World.ownsRow.kept HO_3.out gg (.inr (row_blk HO_3.out HK_3.out (by decide)))
        have HR_4 : Hid (Og 1 erC 71 w.heap.size w4_ (.slice (some ⟨b, off, none⟩) l.length ec) l) := World.ownsRow.kept HR_3.out gg (.inr (row_blk HR_3.out HK_3.out (by decide)))
        have HB_4 : Hid (Below w.heap.size w w4_) := by rw [← hW7]; exact HB_3.out.setCell (by have := HP.out; dsimp only; omega) _
        clear z0 f0 hW7 gg HK_3 HO_3 HR_3 HB_3
        refine any_end (by kernel_rfl) ?_
        go_wp2
        go_roundw
        case rel => exact ⟨j + 1, _, _, _, by go_num, by omega, HK_4.out, HO_4.out, HR_4.out, HB_4.out⟩
        case measure => (rw [hwj]; exact meas18 hlt)
      · go_wp2
        refine any_two 0 2 (by kernel_rfl) rfl rfl ?_ ?_
        · have z0 := HK_0.out.cell 0
          simp at z0
          go_wp2
          clear z0
          refine any_one 2 (by kernel_rfl) rfl ?_
          go_wp2_with (fail)
          refine (told_c k q _ (HGW.out _ HB_0.out)).mono ?_
          rintro e w5_ ⟨rfl, b4⟩
          have HK_5 : Hid (Blk w5_ (P + 1) #[.slice la lL lc] 31) := HK_0.out.below b4 HK_0.out.lt
          have HO_5 : Hid (Og 2 flC 65 w.heap.size w5_ (.slice la lL lc) (l.take j)) := HO_0.out.below b4
          have HR_5 : Hid (Og 1 erC 71 w.heap.size w5_ (.slice (some ⟨b, off, none⟩) l.length ec) l) := HR_0.out.below b4
          have HB_5 : Hid (Below w.heap.size w w5_) := belowCall HB_0.out b4 HB_0.out.size
          clear b4 HK_0 HO_0 HR_0 HB_0
          go_wp2
          refine any_one 3 (by kernel_rfl) rfl ?_
          go_wp2
          obtain ⟨w6_, hW5⟩ : ∃ W, w5_.alloc (Obj.cells #[.int .i64 k, .int .i64 q] 65) = W := ⟨_, rfl⟩
          rw [hW5]
          have ba : Below w5_.heap.size w5_ w6_ := by rw [← hW5]; exact (Below.refl _ _).alloc (Nat.le_refl _) _
          obtain ⟨g5, hg5⟩ : ∃ g, w5_.heap.size = g := ⟨_, rfl⟩
          have HC5 : Hid (Blk w6_ g5 #[.int .i64 k, .int .i64 q] 65) := by show Blk _ _ _ _; rw [← hW5, ← hg5]; exact Blk.new _ _ _
          rw [hg5]
          have HK_6 : Hid (Blk w6_ (P + 1) #[.slice la lL lc] 31) := HK_5.out.below ba HK_5.out.lt
          have HO_6 : Hid (Og 2 flC 65 w.heap.size w6_ (.slice la lL lc) (l.take j)) := HO_5.out.below ba
          have HR_6 : Hid (Og 1 erC 71 w.heap.size w6_ (.slice (some ⟨b, off, none⟩) l.length ec) l) := HR_5.out.below ba
          have HB_6 : Hid (Below w.heap.size w w6_) := belowCall HB_5.out ba HB_5.out.size
          clear ba hW5 hg5 HK_5 HO_5 HR_5 HB_5
          refine any_one 4 (by kernel_rfl) rfl ?_
          refine appF rfl _ _ rfl w.heap.size _ (l.take j) rfl HO_6.out g5 (k, q) rfl HC5.out HLT.out HB_6.out.size ?_
          intro V6 w7_ o6 g6 p6
          obtain ⟨a6, L6, c6, rfl⟩ : ∃ a L c, V6 = .slice a L c := by obtain ⟨a, c, e⟩ := o6.form; exact ⟨a, _, c, e⟩
          have HK_7 : Hid (Blk w7_ (P + 1) #[.slice la lL lc] 31) := HK_6.out.grown g6 (row_blk HO_6.out HK_6.out (by decide))
          have HO_7 : Hid (Og 2 flC 65 w.heap.size w7_ (.slice a6 L6 c6) (l.take (j + 1))) := by show Og _ _ _ _ _ _ _; rw [HTK.out]; exact o6
          have HR_7 : Hid (Og 1 erC 71 w.heap.size w7_ (.slice (some ⟨b, off, none⟩) l.length ec) l) := World.ownsRow.kept HR_6.out g6 (own_tag HR_6.out HO_6.out (by decide))
          have HB_7 : Hid (Below w.heap.size w w7_) := HB_6.out.trans (grown_below g6 HB_6.out.size (fun k e => (World.ownsRow.lt HO_6.out k e).1))
          clear o6 g6 p6 HC5 HK_6 HO_6 HR_6 HB_6
          go_wp2
          refine any_one 5 (by kernel_rfl) rfl ?_
          have z0 := HK_7.out.cell 0
          have f0 := HK_7.out.frozen 0
          simp at z0
          go_wp2
          obtain ⟨w8_, hW7⟩ : ∃ W, w7_.setCell ⟨P + 1, 0, none⟩ (.slice a6 L6 c6) = W := ⟨_, rfl⟩
          rw [hW7]
          have gg : w7_.grownBy w8_ (some (P + 1)) := by rw [← hW7]; exact grown_set' _ _ _ _
          have HK_8 : Hid (Blk w8_ (P + 1) #[.slice a6 L6 c6] 31) := by show Blk _ _ _ _; rw [← hW7]; have := HK_7.out.set 0 (.slice a6 L6 c6); simpa using this
          have HO_8 : Hid (Og 2 flC 65 w.heap.size w8_ (.slice a6 L6 c6) (l.take (j + 1))) := World.ownsRow.kept HO_7.out gg (.inr (row_blk HO_7.out HK_7.out (by decide)))
          have HR_8 : Hid (Og 1 erC 71 w.heap.size w8_ (.slice (some ⟨b, off, none⟩) l.length ec) l) := World.ownsRow.kept HR_7.out gg (.inr (row_blk HR_7.out HK_7.out (by decide)))
          have HB_8 : Hid (Below w.heap.size w w8_) := by rw [← hW7]; exact HB_7.out.setCell (by have := HP.out; dsimp only; omega) _
          clear z0 f0 hW7 gg HK_7 HO_7 HR_7 HB_7
          refine any_end (by kernel_rfl) ?_
          go_wp2
          go_roundw
          case rel => exact ⟨j + 1, _, _, _, by go_num, by omega, HK_8.out, HO_8.out, HR_8.out, HB_8.out⟩
          case measure => (rw [hwj]; exact meas18 hlt)
        · go_wp2_with (fail)
          refine (told_c k q _ (HGW.out _ HB_0.out)).mono ?_
          rintro e w9_ ⟨rfl, b4⟩
          have HK_9 : Hid (Blk w9_ (P + 1) #[.slice la lL lc] 31) := HK_0.out.below b4 HK_0.out.lt
          have HO_9 : Hid (Og 2 flC 65 w.heap.size w9_ (.slice la lL lc) (l.take j)) := HO_0.out.below b4
          have HR_9 : Hid (Og 1 erC 71 w.heap.size w9_ (.slice (some ⟨b, off, none⟩) l.length ec) l) := HR_0.out.below b4
          have HB_9 : Hid (Below w.heap.size w w9_) := belowCall HB_0.out b4 HB_0.out.size
          clear b4 HK_0 HO_0 HR_0 HB_0
          go_wp2
          refine any_two 0 3 (by kernel_rfl) rfl rfl ?_ ?_
          · have z0 := HK_9.out.cell 0
            simp at z0
            go_wp2
            clear z0
            refine any_one 3 (by kernel_rfl) rfl ?_
            go_wp2
            obtain ⟨w10_, hW5⟩ : ∃ W, w9_.alloc (Obj.cells #[.int .i64 k, .int .i64 q] 65) = W := ⟨_, rfl⟩
            rw [hW5]
            have ba : Below w9_.heap.size w9_ w10_ := by rw [← hW5]; exact (Below.refl _ _).alloc (Nat.le_refl _) _
            obtain ⟨g5, hg5⟩ : ∃ g, w9_.heap.size = g := ⟨_, rfl⟩
            have HC5 : Hid (Blk w10_ g5 #[.int .i64 k, .int .i64 q] 65) := by show Blk _ _ _ _; rw [← hW5, ← hg5]; exact Blk.new _ _ _
            rw [hg5]
            have HK_10 : Hid (Blk w10_ (P + 1) #[.slice la lL lc] 31) := HK_9.out.below ba HK_9.out.lt
            have HO_10 : Hid (Og 2 flC 65 w.heap.size w10_ (.slice la lL lc) (l.take j)) := HO_9.out.below ba
            have HR_10 : Hid (Og 1 erC 71 w.heap.size w10_ (.slice (some ⟨b, off, none⟩) l.length ec) l) := HR_9.out.below ba
            have HB_10 : Hid (Below w.heap.size w w10_) := belowCall HB_9.out ba HB_9.out.size
            clear ba hW5 hg5 HK_9 HO_9 HR_9 HB_9
            refine any_one 4 (by kernel_rfl) rfl ?_
            refine appF rfl _ _ rfl w.heap.size _ (l.take j) rfl HO_10.out g5 (k, q) rfl HC5.out HLT.out HB_10.out.size ?_
            intro V6 w11_ o6 g6 p6
            obtain ⟨a6, L6, c6, rfl⟩ : ∃ a L c, V6 = .slice a L c := by obtain ⟨a, c, e⟩ := o6.form; exact ⟨a, _, c, e⟩
            have HK_11 : Hid (Blk w11_ (P + 1) #[.slice la lL lc] 31) := HK_10.out.grown g6 (row_blk HO_10.out HK_10.out (by decide))
            have HO_11 : Hid (Og 2 flC 65 w.heap.size w11_ (.slice a6 L6 c6) (l.take (j + 1))) := by show Og _ _ _ _ _ _ _; rw [HTK.out]; exact o6
            have HR_11 : Hid (Og 1 erC 71 w.heap.size w11_ (.slice (some ⟨b, off, none⟩) l.length ec) l) := World.ownsRow.kept HR_10.out g6 (own_tag HR_10.out HO_10.out (by decide))
            have HB_11 : Hid (Below w.heap.size w w11_) := HB_10.out.trans (grown_below g6 HB_10.out.size (fun k e => (World.ownsRow.lt HO_10.out k e).1))
            clear o6 g6 p6 HC5 HK_10 HO_10 HR_10 HB_10
            go_wp2
            refine any_one 5 (by kernel_rfl) rfl ?_
            have z0 := HK_11.out.cell 0
            have f0 := HK_11.out.frozen 0
            simp at z0
            go_wp2
            obtain ⟨w12_, hW7⟩ : ∃ W, w11_.setCell ⟨P + 1, 0, none⟩ (.slice a6 L6 c6) = W := ⟨_, rfl⟩
            rw [hW7]
            have gg : w11_.grownBy w12_ (some (P + 1)) := by rw [← hW7]; exact grown_set' _ _ _ _
            have HK_12 : Hid (Blk w12_ (P + 1) #[.slice a6 L6 c6] 31) := by show Blk _ _ _ _; rw [← hW7]; have := HK_11.out.set 0 (.slice a6 L6 c6); simpa using this
            have HO_12 : Hid (Og 2 flC 65 w.heap.size w12_ (.slice a6 L6 c6) (l.take (j + 1))) := World.ownsRow.kept HO_11.out gg (.inr (row_blk HO_11.out HK_11.out (by decide)))
            have HR_12 : Hid (Og 1 erC 71 w.heap.size w12_ (.slice (some ⟨b, off, none⟩) l.length ec) l) := World.ownsRow.kept HR_11.out gg (.inr (row_blk HR_11.out HK_11.out (by decide)))
            have HB_12 : Hid (Below w.heap.size w w12_) := by rw [← hW7]; exact HB_11.out.setCell (by have := HP.out; dsimp only; omega) _
            clear z0 f0 hW7 gg HK_11 HO_11 HR_11 HB_11
            refine any_end (by kernel_rfl) ?_
            go_wp2
            go_roundw
            case rel => exact ⟨j + 1, _, _, _, by go_num, by omega, HK_12.out, HO_12.out, HR_12.out, HB_12.out⟩
            case measure => (rw [hwj]; exact meas18 hlt)
          · go_wp2
            obtain ⟨w13_, hW5⟩ : ∃ W, w9_.alloc (Obj.cells #[.int .i64 k, .int .i64 q] 65) = W := ⟨_, rfl⟩
            rw [hW5]
            have ba : Below w9_.heap.size w9_ w13_ := by rw [← hW5]; exact (Below.refl _ _).alloc (Nat.le_refl _) _
            obtain ⟨g5, hg5⟩ : ∃ g, w9_.heap.size = g := ⟨_, rfl⟩
            have HC5 : Hid (Blk w13_ g5 #[.int .i64 k, .int .i64 q] 65) := by show Blk _ _ _ _; rw [← hW5, ← hg5]; exact Blk.new _ _ _
            rw [hg5]
            have HK_13 : Hid (Blk w13_ (P + 1) #[.slice la lL lc] 31) := HK_9.out.below ba HK_9.out.lt
            have HO_13 : Hid (Og 2 flC 65 w.heap.size w13_ (.slice la lL lc) (l.take j)) := HO_9.out.below ba
            have HR_13 : Hid (Og 1 erC 71 w.heap.size w13_ (.slice (some ⟨b, off, none⟩) l.length ec) l) := HR_9.out.below ba
            have HB_13 : Hid (Below w.heap.size w w13_) := belowCall HB_9.out ba HB_9.out.size
            clear ba hW5 hg5 HK_9 HO_9 HR_9 HB_9
            refine any_one 0 (by kernel_rfl) rfl ?_
            have z0 := HK_13.out.cell 0
            simp at z0
            go_wp2
            clear z0
            refine any_one 4 (by kernel_rfl) rfl ?_
            refine appF rfl _ _ rfl w.heap.size _ (l.take j) rfl HO_13.out g5 (k, q) rfl HC5.out HLT.out HB_13.out.size ?_
            intro V6 w14_ o6 g6 p6
            obtain ⟨a6, L6, c6, rfl⟩ : ∃ a L c, V6 = .slice a L c := by obtain ⟨a, c, e⟩ := o6.form; exact ⟨a, _, c, e⟩
            have HK_14 : Hid (Blk w14_ (P + 1) #[.slice la lL lc] 31) := HK_13.out.grown g6 (row_blk HO_13.out HK_13.out (by decide))
            have HO_14 : Hid (Og 2 flC 65 w.heap.size w14_ (.slice a6 L6 c6) (l.take (j + 1))) := by show Og _ _ _ _ _ _ _; rw [HTK.out]; exact o6
            have HR_14 : Hid (Og 1 erC 71 w.heap.size w14_ (.slice (some ⟨b, off, none⟩) l.length ec) l) := World.ownsRow.kept HR_13.out g6 (own_tag HR_13.out HO_13.out (by decide))
            have HB_14 : Hid (Below w.heap.size w w14_) := HB_13.out.trans (grown_below g6 HB_13.out.size (fun k e => (World.ownsRow.lt HO_13.out k e).1))
            clear o6 g6 p6 HC5 HK_13 HO_13 HR_13 HB_13
            go_wp2
            refine any_one 5 (by kernel_rfl) rfl ?_
            have z0 := HK_14.out.cell 0
            have f0 := HK_14.out.frozen 0
            simp at z0
            go_wp2
            obtain ⟨w15_, hW7⟩ : ∃ W, w14_.setCell ⟨P + 1, 0, none⟩ (.slice a6 L6 c6) = W := ⟨_, rfl⟩
            rw [hW7]
            have gg : w14_.grownBy w15_ (some (P + 1)) := by rw [← hW7]; exact grown_set' _ _ _ _
            have HK_15 : Hid (Blk w15_ (P + 1) #[.slice a6 L6 c6] 31) := by show Blk _ _ _ _; rw [← hW7]; have := HK_14.out.set 0 (.slice a6 L6 c6); simpa using this
            have HO_15 : Hid (Og 2 flC 65 w.heap.size w15_ (.slice a6 L6 c6) (l.take (j + 1))) := World.ownsRow.kept HO_14.out gg (.inr (row_blk HO_14.out HK_14.out (by decide)))
            have HR_15 : Hid (Og 1 erC 71 w.heap.size w15_ (.slice (some ⟨b, off, none⟩) l.length ec) l) := World.ownsRow.kept HR_14.out gg (.inr (row_blk HR_14.out HK_14.out (by decide)))
            have HB_15 : Hid (Below w.heap.size w w15_) := by rw [← hW7]; exact HB_14.out.setCell (by have := HP.out; dsimp only; omega) _
            clear z0 f0 hW7 gg HK_14 HO_14 HR_14 HB_14
            refine any_end (by kernel_rfl) ?_
            go_wp2
            go_roundw
            case rel => exact ⟨j + 1, _, _, _, by go_num, by omega, HK_15.out, HO_15.out, HR_15.out, HB_15.out⟩
            case measure => (rw [hwj]; exact meas18 hlt)

end Go.Proofs.YtmfmlbiplagmiaaDoor
