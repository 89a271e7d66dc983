/- The plain function that Uncells computes, and the contract of the program's; no condition. -/
import Derived.Test.YtadhiddnjhjioaaFault
import Derived.Test.YtadhiddnjhjioaaApp
namespace Go.Proofs.Ytadhiddnjhjioaa
open Go.RowKit Go.ChangeShapes Go.WideShapes Go.ChangeAt
set_option linter.unusedVariables false
set_option linter.unusedSimpArgs false
def bytesOf (c : List Int) : List Int := (c.drop 1).take (cnt c).toNat
def outTo (zs : List Int) : Nat → List Int
  | 0 => []
  | j + 1 => outTo zs j ++ bytesOf (ch zs j)
def overAt (zs : List Int) : Nat → Bool
  | 0 => false
  | j + 1 => lastB (ch zs j)
def uncAt (zs : List Int) : Nat → Nat → List Int × Int
  | 0, j => (outTo zs j, if overAt zs j then 0 else 4)
  | k + 1, j => if faultF (ch zs j) j (overAt zs j) ≠ 0 then (outTo zs j, faultF (ch zs j) j (overAt zs j)) else uncAt zs k (j + 1)
def uncRes (zs : List Int) (n : Nat) : List Int × Int := if n ≤ 60 then uncAt zs n 0 else ([], 5)
theorem bytesOf_len {c : List Int} (hc : B16 c) : (bytesOf c).length = (cnt c).toNat := by
  have := cnt_bd c
  have h1 := hc.1
  simp [bytesOf]; omega
theorem bytesOf_at (c : List Int) (i : Nat) (hi : i < (cnt c).toNat) : (bytesOf c).getD i 0 = c.getD (i + 1) 0 := by
  simp [bytesOf, List.getElem?_take, hi, List.getElem?_drop, Nat.add_comm]
theorem outTo_len (zs : List Int) : ∀ j, (outTo zs j).length ≤ 15 * j
  | 0 => by simp [outTo]
  | j + 1 => by
    have := outTo_len zs j
    have h2 := cnt_bd (ch zs j)
    have : (bytesOf (ch zs j)).length ≤ (cnt (ch zs j)).toNat := List.length_take_le _ _
    simp [outTo]; omega
theorem unc_step {zs : List Int} {k j : Nat} {R : List Int × Int} (h : uncAt zs (k + 1) j = R) (h0 : faultF (ch zs j) j (overAt zs j) = 0) : uncAt zs k (j + 1) = R := by
  rw [uncAt, if_neg (by simpa using h0)] at h; exact h
theorem unc_fault {zs : List Int} {k j : Nat} {R : List Int × Int} (h : uncAt zs (k + 1) j = R) (h0 : faultF (ch zs j) j (overAt zs j) ≠ 0) : R = (outTo zs j, faultF (ch zs j) j (overAt zs j)) := by
  rw [uncAt, if_pos h0] at h; exact h.symm
theorem Ow.row {k : IntKind} {e : TypeId} {base : Nat} {w : World} {v : Value} {zs : List Int} (h : Ow k e base w v zs) (g : Nat) (hne : v.ownBlock = none ∨ v.ownBlock ≠ some g) (cs : Array Value) : Ow k e base (w.setRow g cs) v zs :=
  World.ownsRow.kept h ⟨rfl, rfl, rfl, by simp, fun i _ hi => setRow_other w g i cs (fun e => hi (by simp [e]))⟩ hne
theorem Ow.high {k : IntKind} {e : TypeId} {base : Nat} {w : World} {v : Value} {zs : List Int} (h : Ow k e base w v zs) (g : Nat) (hg : w.heap.size ≤ g) : v.ownBlock = none ∨ v.ownBlock ≠ some g := by
  cases hv : v.ownBlock with
  | none => exact .inl rfl
  | some j => refine .inr fun e => ?_; have := (World.ownsRow.lt h j hv).2; simp at e; omega
theorem Blk.kept {w w' : World} {b : Nat} {row : Option Nat} {cs : Array Value} {t : TypeId} (h : Blk w b cs t) (hg : w.grownBy w' row) (hne : row = none ∨ row ≠ some b) : Blk w' b cs t := by
  have hne' : some b ≠ row := by
    rcases hne with h1 | h1
    · rw [h1]; simp
    · exact Ne.symm h1
  rw [Blk, hg.block b h.lt hne']; exact h
/-- an array of sixteen out of the midst of a block -/
theorem ldm {ops : Array Oper} {rest : List Oper} {o : Oper} {a : Act} {w : World} {Q : Exit → Act → World → Prop} (hgd : o.guard = none) (x : Operand) (ho : o.op = .load 29 x)
    (b off : Nat) (hx : a.eval x = .pointer (some ⟨b, off, none⟩)) (c : List Int) (hB : B16 c) (hc : w.rangeAt b off (c.map (Value.int .u8)))
    (h : wpList Try.prog ops Q rest (a.put o.dst (.agg (A16 c))) w) : wpList Try.prog ops Q (o :: rest) a w :=
  wpList_load_mid hgd 29 x ho b off hx (c.map (Value.int .u8)) _ hc Try.underlying29 rfl (by rw [List.length_map, hB.1]; exact size29) h
/-- the bytes of a cell behind a slice of the call's own -/
theorem appBN {ops : Array Oper} {rest : List Oper} {o : Oper} {a : Act} {w : World} {Q : Exit → Act → World → Prop} (hgd : o.guard = none) (s x : Operand)
    (ho : o.op = .call { callee := .builtin .append, args := #[s, x], argTypes := #[22, 22] }) (base : Nat) (v : Value) (zs : List Int) (hs : a.eval s = v) (hown : Ow .u8 5 base w v zs)
    (g n k : Nat) (c : List Int) (hB : B16 c) (hn : (n : Int) = cnt c) (hx : a.eval x = .slice (some ⟨g, 1, none⟩) n k) (hc : Blk w g (A16 c) 29) (hl : zs.length ≤ 1099511627776) (hbase : base ≤ w.heap.size)
    (h : ∀ v' w', Ow .u8 5 base w' v' (zs ++ bytesOf c) → Below base w w' → w.grownBy w' v.ownBlock → wpList Try.prog ops Q rest (a.put o.dst v') w') : wpList Try.prog ops Q (o :: rest) a w := by
  obtain ⟨i0, hi, hz0, hz1, hz2⟩ := info_parts toBInfo
  have hbl := bytesOf_len hB
  have hb := cnt_bd c
  refine wpList_append_own w hgd s x 22 ho base 5 i0 (.int .u8 0) 1 1 Try.underlying22 hi hz0 hz1 hz2 rfl (by decide) v zs.length (zs.map (Value.int .u8)) hs hown ⟨g, 1, none⟩ n k ((bytesOf c).map (Value.int .u8)) hx (by simp; omega) ?_ ?_ ?_ ?_ hbase ?_
  · intro j u hj
    have hjl : j < (cnt c).toNat := by have := (List.getElem?_eq_some_iff.1 hj).1; simp at this; omega
    have hadd : (⟨g, 1, none⟩ : Addr).add j = ⟨g, 1 + j, none⟩ := by unfold Addr.add; split <;> simp_all
    rw [hadd, hc.cell (1 + j), A16_at hB _ (by omega), show 1 + j = j + 1 by omega, ← bytesOf_at c j hjl]
    simp [List.getElem?_eq_getElem (show j < (bytesOf c).length by omega)] at hj ⊢
    exact hj
  · intro u hu; simp at hu; obtain ⟨z, _, rfl⟩ := hu; rfl
  · unfold maxLen; omega
  · omega
  · intro v' w' h1 h2 h3
    refine h v' w' ?_ (hown.belowOf h2 hbase) h2
    have e : zs.length + n = (zs ++ bytesOf c).length := by simp; omega
    rw [e] at h1
    simpa [Ow] using h1
set_option maxHeartbeats 3200000 in
theorem unc_impl (v : Value) (n : Nat) (zs : List Int) (w : World) (h : RdA w v n zs) :
   Calls Try.prog 17 #[v] w fun e w' => ∃ v', e = .returned (.tuple #[v', .int .i64 (uncRes zs n).2]) ∧ Ow .u8 5 w.heap.size w' v' (uncRes zs n).1 ∧ Below w.heap.size w w' := by
  obtain ⟨a, cap, rfl, h1, h2, hl, hbx, h3⟩ := h
  unfold maxLen at h2
  by_cases hbig : 60 < n
  · have hR : uncRes zs n = ([], 5) := by rw [uncRes, if_neg (by omega)]
    rw [hR]
    have hd : decide ((60 : Int) < (n : Int)) = true := by simp; omega
    clear h3 hbx hR
    go_enter Try.func17, Try.ntmps17
    go_wp2
    go_ret2
    exact ⟨_, rfl, Ow.nil _ _ _ _, Below.refl _ _⟩
  have hR : uncAt zs n 0 = uncRes zs n := by rw [uncRes, if_pos (by omega)]
  generalize uncRes zs n = R at hR
  have HR0 : Hid (uncAt zs n 0 = R) := hR
  clear hR
  have hd : decide ((60 : Int) < (n : Int)) = false := by simp; omega
  have Z16z : B16 (List.replicate 16 0) := ⟨rfl, by intro z hz; simp at hz; omega⟩
  go_enter Try.func17, Try.ntmps17
  go_wp2
  go_loopw [4, 5, 14] (fun u o i wr => ∃ j : Nat, j ≤ n ∧ i = .int .i64 j ∧ o = .bool (overAt zs j) ∧ Hid (uncAt zs (n - j) j = R) ∧ Ow .u8 5 w.heap.size wr u (outTo zs j) ∧ Below w.heap.size w wr) (fun _ _ i _ => n - (intOf i).toNat)
  case atStart => exact ⟨0, Nat.zero_le _, rfl, rfl, HR0, Ow.nil _ _ _ _, Below.refl _ _⟩
  case round =>
    clear HR0
    obtain ⟨j, hj, rfl, rfl, HR, hw, hbr⟩ := hrel
    have hs0 := hbr.size
    by_cases hlt : j < n
    · rcases h3 with h3 | ⟨b, off, rfl, h4⟩
      · omega
      have hX := ch_B hl hbx j hlt
      have hsX := A16_size hX
      have hr : wr.rangeAt b (off + j * 16) ((ch zs j).map (Value.int .u8)) := range_ch hl (fun i hi => by have := h4 i hi; rw [hbr.cell (block_lt_of_cell this)]; exact this) j hlt _ rfl
      have HRG : Hid _ := hr
      have hol := outTo_len zs j
      have HO1 : Hid (outTo zs (j + 1) = outTo zs j ++ bytesOf (ch zs j)) := rfl
      have HV1 : Hid (overAt zs (j + 1) = lastB (ch zs j)) := rfl
      have HRn : Hid (uncAt zs (n - (j + 1) + 1) j = R) := by
        have := HR.out
        rw [show n - j = n - (j + 1) + 1 by omega] at this; exact this
      clear h4 hr HR
      have hi : (0 : Int) ≤ (j : Int) := by omega
      have hi2 : (j : Int) < (n : Int) := by omega
      have HST : Hid (faultF (ch zs j) j (overAt zs j) = 0 → uncAt zs (n - (j + 1)) (j + 1) = R) := fun h0 => unc_step HRn.out h0
      have HFT : Hid (faultF (ch zs j) j (overAt zs j) ≠ 0 → R = (outTo zs j, faultF (ch zs j) j (overAt zs j))) := fun h0 => unc_fault HRn.out h0
      clear HRn
      have hfc := fun W => fault_c (ch zs j) hX j (overAt zs j) (by omega) W
      have HFC : Hid _ := hfc
      clear hfc
      generalize faultF (ch zs j) j (overAt zs j) = f at HST HFT HFC
      generalize overAt zs j = ov at HFC
      generalize ch zs j = c at hX hsX HRG HO1 HV1 HFC
      generalize outTo zs j = O at hw hol HO1 HFT
      have p0 : Blk (wr.alloc (.cells (A16 (List.replicate 16 0)) 29)) wr.heap.size (A16 (List.replicate 16 0)) 29 := Blk.newAt _ _ _ _ rfl
      have p1 := p0.row (A16 c)
      go_wp2_with (first | refine ldm rfl (.tmp 17) rfl b (off + j * 16) rfl c hX HRG.out ?_ | refine st29 rfl (.tmp 7) (.tmp 18) rfl wr.heap.size rfl c hX rfl 29 _ p0 (A16_size Z16z) ?_ | refine ld29 rfl (.tmp 7) rfl wr.heap.size rfl 29 (A16 c) (0, 0) p1 hsX ?_)
      have HHI : Hid (u4.ownBlock = none ∨ u4.ownBlock ≠ some wr.heap.size) := hw.high _ (Nat.le_refl _)
      have hwA := (hw.alloc (.cells (A16 (List.replicate 16 0)) 29)).row wr.heap.size (hw.high _ (Nat.le_refl _)) (A16 c)
      have cA : Below w.heap.size w ((wr.alloc (.cells (A16 (List.replicate 16 0)) 29)).setRow wr.heap.size (A16 c)) := belowRow (hbr.alloc hs0 _) _ hs0 _
      refine (HFC.out _).mono ?_
      rintro e w1 ⟨rfl, b1⟩
      have k1 := p1.below b1 p1.lt
      have hw1 := hwA.below b1
      have c1 := belowCall cA b1 cA.size
      clear p0 p1 hwA cA hw hbr HFC HRG b1
      by_cases hf : f = 0
      · subst hf
        have HN : Hid (uncAt zs (n - (j + 1)) (j + 1) = R) := HST.out rfl
        clear HST HFT
        have hb := cnt_bd c
        obtain ⟨m, hm⟩ := Int.eq_ofNat_of_zero_le hb.1
        have hcnt : ∀ W, Calls Try.prog 55 #[.agg (A16 c)] W fun e w' => e = .returned (.int .i64 (m : Int)) ∧ Below W.heap.size W w' := by
          intro W; have := cnt_c c hX W; rw [hm] at this; exact this
        have HCN : Hid _ := hcnt
        have HM : Hid ((m : Int) = cnt c) := hm.symm
        have hm15 : m ≤ 15 := by omega
        clear hcnt hm hb
        go_wp2_with (refine ld29 rfl (.tmp 7) rfl wr.heap.size rfl 29 (A16 c) (0, 0) k1 hsX ?_)
        refine (HCN.out _).mono ?_
        rintro e w2 ⟨rfl, b2⟩
        have k2 := k1.below b2 k1.lt
        have hw2 := hw1.below b2
        have c2 := belowCall c1 b2 c1.size
        have s2 := c2.size
        clear k1 hw1 c1 b2 HCN
        have hsl := slc2 wr.heap.size m hm15
        go_wp2_with (at_builtin; refine appBN rfl (.tmp 27) (.tmp 31) rfl w.heap.size _ O rfl hw2 wr.heap.size m 15 c hX HM.out rfl k2 (by omega) s2 ?_)
        intro v3 w3 ho3 b3 g3
        have k3 := k2.kept g3 HHI.out
        have c3 := c2.trans b3
        clear k2 hw2 c2 b3 g3
        go_wp2_with (refine ld29 rfl (.tmp 7) rfl wr.heap.size rfl 29 (A16 c) (0, 0) k3 hsX ?_)
        refine (last_c c hX _).mono ?_
        rintro e w4 ⟨rfl, b4⟩
        have ho4 := ho3.below b4
        have c4 := belowCall c3 b4 c3.size
        clear ho3 c3 k3 b4
        go_wp2
        go_roundw
        case rel => exact ⟨j + 1, by omega, by go_num, by rw [HV1.out], HN, by rw [HO1.out]; exact ho4, c4⟩
        case measure => simp [intOf]; omega
      · have hR := HFT.out hf
        have hfb : (f != 0) = true := by rw [bne_iff_ne]; exact hf
        clear HST HFT hf
        go_wp2
        go_ret2
        exact ⟨_, by rw [hR]; rfl, by rw [hR]; exact hw1, c1⟩
    · obtain rfl : j = n := by omega
      have hR := HR.out
      rw [Nat.sub_self, uncAt] at hR
      clear h3 hbx HR
      cases hov : overAt zs j with
      | true =>
        rw [hov] at hR
        go_wp2
        go_ret2
        exact ⟨_, by rw [← hR]; rfl, by rw [← hR]; exact hw, hbr⟩
      | false =>
        rw [hov] at hR
        go_wp2
        go_ret2
        exact ⟨_, by rw [← hR]; rfl, by rw [← hR]; exact hw, hbr⟩
end Go.Proofs.Ytadhiddnjhjioaa
