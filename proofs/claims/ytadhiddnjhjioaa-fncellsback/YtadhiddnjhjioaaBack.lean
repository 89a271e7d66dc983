/- Proved: at every code FnCellsBack returns true and leaves it as it was (drawn bytes come back from their cells; each cell is what Cut takes of all of them one behind the other); no condition. -/
import Derived.Test.YtadhiddnjhjioaaCMath
import Derived.Test.YtadhiddnjhjioaaCellsS
import Derived.Test.YtadhiddnjhjioaaDrawY
import Derived.Test.YtadhiddnjhjioaaCutI
import Derived.Test.YtadhiddnjhjioaaOpen
import Derived.Laws.BytesString
import Derived.ChangeOld
namespace Go.Proofs.Ytadhiddnjhjioaa
open Go.RowKit Go.ChangeShapes Go.WideShapes Go.ChangeAt
set_option linter.unusedVariables false
set_option linter.unusedSimpArgs false
def JB (c : List Int) (vl : Value) (j b o : Nat) (F : Value → Value → Value → Value → Value → Value → Value → Value → Value → Value → Act) (S : World → Prop) (d : Nat → Bool) (A : Act) (W : World) : Prop :=
  ∃ u72 u73 u74 u75 u76 u77 u78 u79 u80 u81 : Value, A = F u72 u73 u74 u75 u76 u77 u78 u79 u80 u81 ∧ S W ∧ (d 0 = true → u72 = .bool true) ∧ (d 1 = true → u73 = .bool false) ∧ (d 2 = true → u74 = .bool false) ∧ (d 3 = true → u75 = .agg (A16 c)) ∧ (d 4 = true → u76 = vl) ∧ (d 5 = true → u77 = .int .i64 j) ∧ (d 6 = true → u78 = .pointer (some ⟨b, o, none⟩)) ∧ (d 7 = true → u79 = .agg (A16 c)) ∧ (d 8 = true → u80 = .bool false) ∧ (d 9 = true → u81 = .bool false)
def strOf (zs : List Int) : ByteArray := zs.foldl (fun r n => r.push (UInt8.ofNat n.toNat)) ByteArray.empty
theorem conv_c {w : World} {v : Value} {zs : List Int} (h : Rd .u8 w v zs) (h0 : 0 < zs.length) : (convert 22 9 v).run Try.prog w = .ok (.string (strOf zs)) w := by
  obtain ⟨a, cap, rfl, h1, h2, h3⟩ := h
  rcases h3 with h3 | ⟨b, off, rfl, h4⟩
  · subst h3; simp at h0
  rw [run_convert_bytes_string w 22 9 5 _ _ _ Try.underlying22 Try.underlying5 Try.underlying9]
  refine run_bytesToString w ⟨b, off, none⟩ zs.length cap zs ?_
  have := run_loadCells_list (P := Try.prog) w ⟨b, off, none⟩ (zs.map (Value.int .u8)) (fun i u hu => by
    have hi : i < zs.length := by have := (List.getElem?_eq_some_iff.1 hu).1; simpa using this
    have hadd : (⟨b, off, none⟩ : Addr).add i = ⟨b, off + i, none⟩ := by unfold Addr.add; split <;> simp_all
    rw [hadd, h4 i hi]
    simp [List.getElem?_eq_getElem hi] at hu ⊢
    exact hu)
  simpa using this
theorem cut_ch {C : List Int} {n : Nat} (hl : C.length = n * 16) (j : Nat) (hj : j < n) : cutL C (16 * (j : Int)) = ch C j ∧ cutOk C (16 * (j : Int)) = true := by
  have hk : cutOk C (16 * (j : Int)) = true := by simp [cutOk]; omega
  refine ⟨?_, hk⟩
  rw [cutL, if_pos hk, ch, show (16 * (j : Int)).toNat = j * 16 by omega]
set_option maxHeartbeats 3200000 in
theorem law3 (v : Value) (zs : List Int) (w : World) (h : Rd .u8 w v zs) (hwz : ∀ z ∈ zs, (Lit.int .u8 z).wf = true) :
   Calls Try.prog 3 #[v] w fun e w' => e = .returned (.bool true) ∧ Below w.heap.size w w' := by
  have hz : ∀ z ∈ zs, 0 ≤ z ∧ z ≤ 255 := fun z hm => bounds_u8 (hwz z hm)
  clear hwz
  obtain ⟨a0, cap0, hv, h1, h2, h3⟩ := id h
  subst hv
  clear h3
  unfold maxLen at h2
  by_cases hbig : 1048576 < zs.length
  · have hb : decide ((1048576 : Int) < (zs.length : Int)) = true := by simp; omega
    clear hz h
    go_enter Try.func3, Try.ntmps3
    go_wp2
    go_ret
    exact ⟨rfl, Below.refl _ _⟩
  · have hb : decide ((1048576 : Int) < (zs.length : Int)) = false := by simp; omega
    have hlen : zs.length ≤ 1048576 := by omega
    have HZ : Hid (∀ z ∈ zs, 0 ≤ z ∧ z ≤ 255) := hz
    clear hz
    go_enter Try.func3, Try.ntmps3
    go_wp2_with (go_at_call 13; go_in)
    refine (drawCells_c _ zs _ h HZ.out hlen).mono ?_
    rintro e w1 ⟨vb, yb, rfl, ob, yo, lb, c1⟩
    have HYO : Hid (bytesOk yb) := yo
    clear h HZ yo
    go_wp2_with fail
    refine (cells_impl _ yb _ ob.rd HYO.out).mono ?_
    rintro e w2 ⟨vl, rfl, ol, b2⟩
    have c2 := belowCall c1 b2 c1.size
    have ob2 := ob.below b2
    obtain ⟨a1, cap1, hvl, n1, n2, cl, cok, n3⟩ := id ol.rd
    subst hvl
    clear n3
    unfold maxLen at n2
    have hnle : cellsN yb ≤ 60 := by unfold cellsN; split <;> omega
    go_wp2_with fail
    refine (cells_spec _ yb _ ob2.rd HYO.out).mono ?_
    rintro e w3 ⟨vs, rfl, os, b3⟩
    have c3 := belowCall c2 b3 c2.size
    have ob3 := ob2.below b3
    have ol3 := ol.below b3
    obtain ⟨a2, cap2, hvs, _, _, _, _, _⟩ := id os.rd
    subst hvs
    have hneb : ((cellsN yb : Int) != (cellsN yb : Int)) = false := by simp
    have hlit : Ow .u8 5 w3.heap.size (w3.alloc (.cells #[.int .u8 7] 5)) (.slice (some ⟨w3.heap.size, 0, none⟩) 1 1) [7] := World.ownsRow_lit w3 #[.int .u8 7] 1 (Nat.le_refl _) (by simp [maxLen]) (by simp)
    have hbA : Below w3.heap.size w3 (w3.alloc (.cells #[.int .u8 7] 5)) := (Below.refl _ _).alloc (Nat.le_refl _) _
    have cA := belowCall c3 hbA c3.size
    have obA := ob3.below hbA
    have olA := ol3.below hbA
    clear os b3 ob ob2 ob3 ol ol3 b2 c1 c2 c3
    go_wp2_with fail
    refine (cells_impl _ [7] _ hlit.rd (by simp [bytesOk])).mono ?_
    rintro e w4 ⟨v7, rfl, o7, b4⟩
    rw [seven] at o7
    obtain ⟨a7, cap7, hv7, _, _, _, _, _⟩ := id o7.rd
    subst hv7
    have c4 := belowCall cA b4 cA.size
    have ob4 := obA.below b4
    have ol4 := olA.below b4
    clear o7 b4 obA olA hlit hbA cA
    by_cases hn0 : cellsN yb = 0
    · have hn0b : ((cellsN yb : Int) == 0) = true := by simp; omega
      clear hn0
      go_wp2
      go_ret
      exact ⟨rfl, c4⟩
    have hn0b : ((cellsN yb : Int) == 0) = false := by simp; omega
    have HBK : Hid (uncRes (cellsL yb) (cellsN yb) = (yb, 0)) := cells_back HYO.out (by omega)
    have hyl : 0 < yb.length := by
      have : ¬ yb.length = 0 := by intro h0; apply hn0; unfold cellsN; rw [h0]; rfl
      omega
    generalize cellsN yb = n at *
    generalize cellsL yb = C at *
    go_wp2_with fail
    refine (unc_impl _ n C _ ol4.rd).mono ?_
    rintro e w5 ⟨v5, rfl, o5, b5⟩
    rw [HBK.out] at o5
    rw [HBK.out]
    have c5 := belowCall c4 b5 c4.size
    have ob5 := ob4.below b5
    have ol5 := ol4.below b5
    clear ob4 ol4 b5 c4 HBK
    go_wp2
    have HOL : Hid (RdA w5 (.slice a1 n cap1) n C) := ol5.rd
    obtain ⟨a1', cap1', hv1, _, _, hCl, hCo, hC3⟩ := id HOL.out
    simp only [Value.slice.injEq] at hv1
    obtain ⟨rfl, _, rfl⟩ := hv1
    obtain ⟨b, off, rfl, h4⟩ : ∃ b off, a1 = some ⟨b, off, none⟩ ∧ ∀ i, i < n * 16 → w5.cell? ⟨b, off + i, none⟩ = some (.int .u8 (C.getD i 0)) := by
      rcases hC3 with hC3 | hC3
      · exact absurd hC3 hn0
      · exact hC3
    have HCL : Hid (∀ (q : Nat) (W : World), q < n * 16 → Below w5.heap.size w5 W → W.cell? ⟨b, off + q, none⟩ = some (.int .u8 (C.getD q 0))) := by
      intro q W hq hW; have := h4 q hq; rw [hW.cell (block_lt_of_cell this)]; exact this
    have hb0 : Below w5.heap.size w5 (w5.alloc (.cells #[] 5)) := (Below.refl _ _).alloc (Nat.le_refl _) _
    have he0 := Ow.empty .u8 5 w5.heap.size w5 (Nat.le_refl _)
    clear hC3 h4 hneb hn0
    go_loopw [7, 8] (fun u i wr => ∃ j : Nat, j ≤ n ∧ i = .int .i64 j ∧ Ow .u8 5 w5.heap.size wr u (C.take (j * 16)) ∧ Below w5.heap.size w5 wr) (fun _ i _ => n - (intOf i).toNat)
    case atStart => exact ⟨0, Nat.zero_le _, rfl, by simpa using he0, hb0⟩
    case round =>
      clear he0 hb0
      obtain ⟨j, hj, rfl, hw, hbr⟩ := hrel
      by_cases hlt : j < n
      · have hi : (0 : Int) ≤ (j : Int) := by omega
        have hi2 : (j : Int) < (n : Int) := by omega
        go_wp2
        go_loopw [7, 9] (fun u i wr => ∃ t : Nat, t ≤ 16 ∧ i = .int .i64 t ∧ Ow .u8 5 w5.heap.size wr u (C.take (j * 16 + t)) ∧ Below w5.heap.size w5 wr) (fun _ i _ => 16 - (intOf i).toNat)
        case atStart => exact ⟨0, by omega, rfl, by simpa using hw, hbr⟩
        case round =>
          clear hw hbr
          obtain ⟨t, ht, rfl, hw, hbr⟩ := hrel
          by_cases hlt2 : t < 16
          · have hq : j * 16 + t < n * 16 := by omega
            have hc := HCL.out (j * 16 + t) wr hq hbr
            rw [show off + (j * 16 + t) = off + j * 16 + t by omega] at hc
            have hs0 := hbr.size
            have HTK : Hid (C.take (j * 16 + (t + 1)) = C.take (j * 16 + t) ++ [C.getD (j * 16 + t) 0]) := by
              show C.take (j * 16 + (t + 1)) = _
              rw [show j * 16 + (t + 1) = (j * 16 + t) + 1 by omega, List.take_succ_eq_append_getElem (by omega)]
              simp [List.getElem?_eq_getElem (show j * 16 + t < C.length by omega)]
            generalize C.getD (j * 16 + t) 0 = q at hc HTK
            have hll : (C.take (j * 16 + t)).length ≤ 2000 := by simp; omega
            go_wp2_with (at_builtin; refine appB rfl (.tmp 50) (.tmp 57) rfl w5.heap.size _ (C.take (j * 16 + t)) rfl (hw.alloc _) wr.heap.size q rfl (by simp) (by omega) (by simp; omega) ?_)
            intro v8 w8 ho8 hb8
            have hbr8 : Below w5.heap.size w5 w8 := (hbr.alloc hs0 _).trans hb8
            clear hb8 hbr hw hc
            go_wp2
            go_roundw
            case rel => exact ⟨t + 1, by omega, by go_num, by rw [HTK.out]; exact ho8, hbr8⟩
            case measure => simp [intOf]; omega
          · obtain rfl : t = 16 := by omega
            go_wp2
            go_roundw
            case rel => exact ⟨j + 1, by omega, by go_num, by rw [show (j + 1) * 16 = j * 16 + 16 by omega]; exact hw, hbr⟩
            case measure => simp [intOf]; omega
      · obtain rfl : n = j := by omega
        rw [List.take_of_length_le (by omega)] at hw
        go_wp2
        go_loopw [10] (fun i wq => ∃ j : Nat, j ≤ n ∧ i = .int .i64 j ∧ Ow .u8 5 w5.heap.size wq u7 C ∧ Below w5.heap.size w5 wq) (fun i _ => n - (intOf i).toNat)
        case atStart => exact ⟨0, Nat.zero_le _, rfl, hw, hbr⟩
        case round =>
          clear hw hbr hlt hj
          obtain ⟨j, hj, rfl, hw, hbr⟩ := hrel
          by_cases hlt : j < n
          · obtain ⟨hcut, hcutok⟩ := cut_ch hCl j hlt
            have hc := ch_B hCl hCo j hlt
            have hcc := fun W (hr : Rd .u8 W u7 C) => cut_impl u7 C hCo (16 * (j : Int)) W hr (by omega)
            rw [hcut, hcutok] at hcc
            have HCC : Hid (∀ W, Rd .u8 W u7 C → Calls Try.prog 18 #[u7, .int .i64 (16 * (j : Int))] W fun e w' => e = .returned (.tuple #[.agg (A16 (ch C j)), .bool true]) ∧ Below W.heap.size W w') := hcc
            have HRG : Hid (∀ W, Below w5.heap.size w5 W → W.rangeAt b (off + j * 16) ((ch C j).map (Value.int .u8))) := fun W hW => range_ch hCl (fun i hi => HCL.out i W hi hW) j hlt _ rfl
            have hi : (0 : Int) ≤ (j : Int) := by omega
            have hi2 : (j : Int) < (n : Int) := by omega
            have hs0 := hbr.size
            have hsc := A16_size hc
            clear hcut hcutok hcc
            generalize ch C j = c at hc hsc HCC HRG
            go_wp2_with fail
            refine (HCC.out _ hw.rd).mono ?_
            rintro e w9 ⟨rfl, b9⟩
            have hw9 := hw.below b9
            have c9 := belowCall hbr b9 hs0
            have s9 := c9.size
            have p0 : Blk (w9.alloc (.cells (A16 (List.replicate 16 0)) 29)) w9.heap.size (A16 (List.replicate 16 0)) 29 := Blk.newAt _ _ _ _ rfl
            have p1 := p0.row (A16 c)
            have hwA := (hw9.alloc (.cells (A16 (List.replicate 16 0)) 29)).row w9.heap.size (hw9.high _ (Nat.le_refl _)) (A16 c)
            have cA : Below w5.heap.size w5 ((w9.alloc (.cells (A16 (List.replicate 16 0)) 29)).setRow w9.heap.size (A16 c)) := belowRow (c9.alloc s9 _) _ s9 _
            have Z16z : B16 (List.replicate 16 0) := ⟨rfl, by intro z hz; simp at hz; omega⟩
            clear hw hbr HCC b9 hw9 c9
            go_wp2_with (refine st29 rfl (.tmp 11) (.tmp 70) rfl w9.heap.size rfl c hc rfl 29 _ p0 (A16_size Z16z) ?_)
            refine region_invG (by kernel_rfl) (by kernel_rfl) (JB c (.slice (some ⟨b, off, none⟩) n cap1) j b (off + j * 16) (fun u72' u73' u74' u75' u76' u77' u78' u79' u80' u81' => ⟨#[Value.slice a0 zs.length cap0, undef, u2, vb, Value.slice (some ⟨b, off, none⟩) n cap1, v5, Value.int IntKind.i64 0, u7, Value.int IntKind.i64 (n : Int), u9, Value.int IntKind.i64 (j : Int), Value.pointer (some ⟨w9.heap.size, 0, none⟩), Value.bool true, Value.slice a0 zs.length cap0, Value.bool false, Value.slice a0 zs.length cap0, vb, vb, Value.slice (some ⟨b, off, none⟩) n cap1, Value.slice (some ⟨b, off, none⟩) n cap1, Value.int IntKind.i64 (n : Int), vb, Value.slice a2 n cap2, Value.int IntKind.i64 (n : Int), Value.bool false, Value.bool false, Value.slice (some ⟨w3.heap.size, 0, none⟩) 1 1, Value.slice a7 1 cap7, Value.int IntKind.i64 1, Value.bool false, Value.bool false, Value.slice (some ⟨b, off, none⟩) n cap1, Value.int IntKind.i64 (n : Int), Value.bool false, Value.tuple #[v5, Value.int IntKind.i64 0], Value.slice (some ⟨b, off, none⟩) n cap1, Value.tuple #[v5, Value.int IntKind.i64 0], v5, Value.int IntKind.i64 0, Value.slice (some ⟨w5.heap.size, 0, none⟩) 0 0, Value.int IntKind.i64 (n : Int), Value.slice (some ⟨b, off, none⟩) n cap1, Value.int IntKind.i64 (n : Int), Value.bool false, u44, u45, u46, u47, u48, u49, u50, u51, u52, u53, u54, u55, u56, u57, u58, Value.int IntKind.i64 (j : Int), Value.slice (some ⟨b, off, none⟩) n cap1, Value.int IntKind.i64 (n : Int), Value.bool true, u63, u64, Value.tuple #[Value.agg (A16 c), Value.bool true], u7, Value.int IntKind.i64 (j : Int), Value.int IntKind.i64 (16 * (j : Int)), Value.tuple #[Value.agg (A16 c), Value.bool true], Value.agg (A16 c), Value.bool true, u72', u73', u74', u75', u76', u77', u78', u79', u80', u81', undef, undef, undef, undef, undef, undef, undef, undef, undef], []⟩) (fun W => Blk W w9.heap.size (A16 c) 29 ∧ Below w5.heap.size w5 W ∧ Ow .u8 5 w5.heap.size W u7 C)) ⟨_, _, _, _, _, _, _, _, _, _, rfl, ⟨p1.drew, cA.drew, hwA⟩, by simp, by simp, by simp, by simp, by simp, by simp, by simp, by simp, by simp, by simp⟩ ⟨?_, ?_, ?_, ?_, ?_, ?_, ?_, ?_, ?_, ?_, trivial⟩ ?_
            · rintro d A W ⟨u72, u73, u74, u75, u76, u77, u78, u79, u80, u81, rfl, I, e0, e1, e2, e3, e4, e5, e6, e7, e8, e9⟩ hn hd
              simp at hd
              refine ⟨fun _ => ?_, fun hw => absurd (show (true : Bool) = false from hw) (by decide)⟩
              exact wp_val _ rfl ⟨_, u73, u74, u75, u76, u77, u78, u79, u80, u81, rfl, I, fun _ => rfl, e1, e2, e3, e4, e5, e6, e7, e8, e9⟩
            · rintro d A W ⟨u72, u73, u74, u75, u76, u77, u78, u79, u80, u81, rfl, I, e0, e1, e2, e3, e4, e5, e6, e7, e8, e9⟩ hn hd
              simp at hd
              obtain rfl := e0 (by simp [hd])
              refine ⟨fun _ => ?_, fun hw => absurd (show (true : Bool) = false from hw) (by decide)⟩
              exact wp_val _ rfl ⟨_, _, u74, u75, u76, u77, u78, u79, u80, u81, rfl, I, e0, fun _ => rfl, e2, e3, e4, e5, e6, e7, e8, e9⟩
            · rintro d A W ⟨u72, u73, u74, u75, u76, u77, u78, u79, u80, u81, rfl, I, e0, e1, e2, e3, e4, e5, e6, e7, e8, e9⟩ hn hd
              simp at hd
              obtain rfl := e1 (by simp [hd])
              refine ⟨fun _ => ?_, fun hw => absurd (show (true : Bool) = false from hw) (by decide)⟩
              exact wp_val _ rfl ⟨u72, _, _, u75, u76, u77, u78, u79, u80, u81, rfl, I, e0, e1, fun _ => rfl, e3, e4, e5, e6, e7, e8, e9⟩
            · rintro d A W ⟨u72, u73, u74, u75, u76, u77, u78, u79, u80, u81, rfl, I, e0, e1, e2, e3, e4, e5, e6, e7, e8, e9⟩ hn hd
              simp at hd
              obtain rfl := e2 (by simp [hd])
              refine ⟨fun _ => ?_, fun hw => absurd (show (true : Bool) = false from hw) (by decide)⟩
              exact wp_load_row 29 _ rfl w9.heap.size rfl 29 (A16 c) (0, 0) _ I.1 Try.underlying29 rfl (by rw [hsc]; exact size29) ⟨u72, u73, _, _, u76, u77, u78, u79, u80, u81, rfl, I, e0, e1, e2, fun _ => rfl, e4, e5, e6, e7, e8, e9⟩
            · rintro d A W ⟨u72, u73, u74, u75, u76, u77, u78, u79, u80, u81, rfl, I, e0, e1, e2, e3, e4, e5, e6, e7, e8, e9⟩ hn hd
              simp at hd
              obtain rfl := e2 (by simp [hd])
              refine ⟨fun _ => ?_, fun hw => absurd (show (true : Bool) = false from hw) (by decide)⟩
              exact wp_val _ rfl ⟨u72, u73, _, u75, _, u77, u78, u79, u80, u81, rfl, I, e0, e1, e2, e3, fun _ => rfl, e5, e6, e7, e8, e9⟩
            · rintro d A W ⟨u72, u73, u74, u75, u76, u77, u78, u79, u80, u81, rfl, I, e0, e1, e2, e3, e4, e5, e6, e7, e8, e9⟩ hn hd
              simp at hd
              obtain rfl := e2 (by simp [hd])
              refine ⟨fun _ => ?_, fun hw => absurd (show (true : Bool) = false from hw) (by decide)⟩
              exact wp_val _ rfl ⟨u72, u73, _, u75, u76, _, u78, u79, u80, u81, rfl, I, e0, e1, e2, e3, e4, fun _ => rfl, e6, e7, e8, e9⟩
            · rintro d A W ⟨u72, u73, u74, u75, u76, u77, u78, u79, u80, u81, rfl, I, e0, e1, e2, e3, e4, e5, e6, e7, e8, e9⟩ hn hd
              simp at hd
              obtain rfl := e2 (by simp [hd])
              obtain rfl := e4 (by simp [hd])
              obtain rfl := e5 (by simp [hd])
              refine ⟨fun _ => ?_, fun hw => absurd (show (true : Bool) = false from hw) (by decide)⟩
              exact wp_idxA _ _ rfl b off n cap1 j rfl rfl hlt ⟨u72, u73, _, u75, _, _, _, u79, u80, u81, rfl, I, e0, e1, e2, e3, e4, e5, fun _ => rfl, e7, e8, e9⟩
            · rintro d A W ⟨u72, u73, u74, u75, u76, u77, u78, u79, u80, u81, rfl, I, e0, e1, e2, e3, e4, e5, e6, e7, e8, e9⟩ hn hd
              simp at hd
              obtain rfl := e2 (by simp [hd])
              obtain rfl := e6 (by simp [hd])
              refine ⟨fun _ => ?_, fun hw => absurd (show (true : Bool) = false from hw) (by decide)⟩
              exact wp_load_mid 29 _ rfl b (off + j * 16) rfl (c.map (Value.int .u8)) _ (HRG.out W I.2.1) Try.underlying29 rfl (by rw [List.length_map, hc.1]; exact size29) ⟨u72, u73, _, u75, u76, u77, _, _, u80, u81, rfl, I, e0, e1, e2, e3, e4, e5, e6, fun _ => rfl, e8, e9⟩
            · rintro d A W ⟨u72, u73, u74, u75, u76, u77, u78, u79, u80, u81, rfl, I, e0, e1, e2, e3, e4, e5, e6, e7, e8, e9⟩ hn hd
              simp at hd
              obtain rfl := e2 (by simp [hd])
              obtain rfl := e3 (by simp [hd])
              obtain rfl := e7 (by simp [hd])
              refine ⟨fun _ => ?_, fun hw => absurd (show (true : Bool) = false from hw) (by decide)⟩
              exact wp_neq29 _ _ rfl c c hc hc rfl rfl ⟨u72, u73, _, _, u76, u77, u78, _, _, u81, rfl, I, e0, e1, e2, e3, e4, e5, e6, e7, fun _ => by simp, e9⟩
            · rintro d A W ⟨u72, u73, u74, u75, u76, u77, u78, u79, u80, u81, rfl, I, e0, e1, e2, e3, e4, e5, e6, e7, e8, e9⟩ hn hd
              simp at hd
              obtain rfl := e2 (by simp [hd])
              obtain rfl := e8 (by simp [hd])
              refine ⟨fun _ => ?_, fun hw => absurd (show (true : Bool) = false from hw) (by decide)⟩
              exact wp_val _ rfl ⟨u72, u73, _, u75, u76, u77, u78, u79, _, _, rfl, I, e0, e1, e2, e3, e4, e5, e6, e7, e8, fun _ => rfl⟩
            · rintro d A W ⟨u72, u73, u74, u75, u76, u77, u78, u79, u80, u81, rfl, I, e0, e1, e2, e3, e4, e5, e6, e7, e8, e9⟩ hd
              obtain rfl := e9 (hd 9 (by decide))
              clear e0 e1 e2 e3 e4 e5 e6 e7 e8 e9 hd
              go_wp2
              go_roundw
              case rel => exact ⟨j + 1, by omega, by go_num, I.2.2, I.2.1⟩
              case measure => simp [intOf]; omega
          · have hr5 := (o5.rd).below hbr
            have hrb := (ob5.rd).below hbr
            obtain ⟨a5, k5, hv5, _, _, _⟩ := id hr5
            obtain ⟨a6, k6, hv6, _, _, _⟩ := id hrb
            subst hv5 hv6
            have cv5 := conv_c hr5 hyl
            have cvb := conv_c hrb hyl
            have hcF := belowCall c5 hbr c5.size
            have hse : ((strOf yb).toList == (strOf yb).toList) = true := by simp
            have hnlt : ¬ (j : Int) < (n : Int) := by omega
            clear hw hbr HCL hCl hCo hr5 hrb
            go_wp2
            go_ret
            exact ⟨rfl, hcF⟩

set_option maxRecDepth 100000 in
theorem lifted3 (os : Os) (started : os.Started) (H : Type) (enc : TypeId × Value → H) :
    ReturnsInHanded {} Try.checked os 3 .any (Rows.fnCellsBackSpec.pre6 enc Try.prog Try.f3 Rows.fnCellsBackRow.domain false) (Rows.fnCellsBackSpec.post enc Try.prog Try.f3 false true false false) := by
  refine returnsInHanded_of_change (C := Try.checked) own started (by kernel_rfl) Try.func3
    (ChangeSpec.witness6 (enc := enc) (C := Try.checked) false ⟨#[], #[.slice none 0 0], []⟩ 8 (by kernel_rfl) (by kernel_rfl) (by kernel_rfl) (by kernel_rfl)) ?_
  intro W base args ds gs before hval0 hW hcnd _
  have hval : ∀ (j : Nat) t v, Try.f3.params[j]? = some t → args[j]? = some v → Value.okWide Try.prog W .any base t v := hval0
  have hW' := hW
  obtain ⟨p, q, hA0, hV, rfl, hfz, hnd⟩ := hW
  have hA : DataW.TrodAll enc Try.prog W 0 (fun _ => true) true Try.f3.params.toList args.toList ds p := hA0
  rw [Try.params3] at hA hval
  obtain ⟨v0, vs0, d0, ds0, p0, q0, hargs, rfl, rfl, h0, rr0⟩ := trodAll_cons hA
  obtain ⟨rfl, rfl, rfl⟩ := trodAll_nil rr0
  obtain rfl : args = #[v0] := by cases args; simp_all
  obtain ⟨rfl, rfl⟩ := trodVars_none hV
  have lt0 : ∀ x ∈ p0, x.block < W.heap.size := by obtain ⟨m, hm⟩ := h0; exact DataW.trod_lt m _ _ _ hm
  obtain ⟨a0, len0, cap0, rfl⟩ := okWide_slice Try.underlying22 (hval 0 22 v0 rfl rfl)
  obtain ⟨z0, r0, wz0⟩ := openRow Try.underlying22 Try.underlying5 (by kernel_rfl) h0
  clear hA0 hval0
  refine (law3 _ z0 W r0 wz0).mono fun e W' ⟨he, bel⟩ => ?_
  subst he
  exact ⟨_, rfl, _, _, _, [], _, [], hW', trodAll_mk1 (shut_bool Try.underlying4 _), (trodAll_cons_mk (Below.trod laidOut (by kernel_rfl) (of_decide_eq_true (by kernel_rfl)) h0 bel lt0) trodAll_mk0), rfl, bel.frame _, fun h => by cases h⟩

theorem backProved : Rows.FnCellsBackSaid :=
  OpenClaim.holds_of_wide 3 Try.f3 rfl rfl rfl rfl rfl rfl rfl ⟨rfl, rfl, rfl, rfl, rfl⟩ rfl rfl rfl rfl rfl (by kernel_rfl) Try.func3 (by kernel_rfl)
    (of_decide_eq_true (by kernel_rfl)) (by unfold Func.isWrapper; first | (rw [if_pos (by decide +kernel)]; kernel_rfl) | (rw [if_neg (by decide +kernel)]; exact ⟨rfl, rfl⟩))
    (fun os started H enc _ => lifted3 os started H enc)
#print axioms backProved
end Go.Proofs.Ytadhiddnjhjioaa
