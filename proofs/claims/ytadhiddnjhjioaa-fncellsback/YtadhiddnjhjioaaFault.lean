/- Contracts of withoutPad and faultOfCell; no condition. -/
import Derived.Test.YtadhiddnjhjioaaUnc
namespace Go.Proofs.Ytadhiddnjhjioaa
open Go.RowKit Go.ChangeShapes Go.WideShapes Go.ChangeAt
set_option linter.unusedVariables false
set_option linter.unusedSimpArgs false
theorem ld29g {ops : Array Oper} {rest : List Oper} {o : Oper} {a : Act} {w : World} {Q : Exit → Act → World → Prop} (hw : Region.wanted o (yielded ops a.tmps) = true) (x : Operand) (ho : o.op = .load 29 x)
    (g : Nat) (hx : a.eval x = .pointer (some ⟨g, 0, none⟩)) (t : TypeId) (cs : Array Value) (fr : Nat × Nat) (hg : w.heap[g]? = some (.cells cs t fr)) (hs : cs.size = 16)
    (h : wpList Try.prog ops Q rest (a.put o.dst (.agg cs)) w) : wpList Try.prog ops Q (o :: rest) a w := by
  unfold wpList
  rw [if_pos hw]
  left
  exact wp_load_row 29 x ho g hx t cs fr _ hg Try.underlying29 rfl (by rw [hs]; exact size29) h
def JF (c : List Int) (F : Value → Value → Value → Value → Value → Act) (S : World → Prop) (d : Nat → Bool) (A : Act) (W : World) : Prop :=
  ∃ u0 u1 u2 u3 u4 : Value, A = F u0 u1 u2 u3 u4 ∧ S W ∧ (d 0 = true → u0 = .agg (A16 c)) ∧ (d 1 = true → u1 = .agg (A16 c)) ∧ (d 2 = true → u2 = .agg (A16 (noPad c))) ∧ (d 3 = true → u3 = .bool (!decide (c = noPad c))) ∧ (d 4 = true → u4 = .bool (!decide (c = noPad c)))
theorem zero5 (w : World) : (zeroValue 5).run Try.prog w = .ok (.int .u8 0) w := rfl
theorem clr29 {ops : Array Oper} {rest : List Oper} {o : Oper} {a : Act} {w : World} {Q : Exit → Act → World → Prop} (hgd : o.guard = none) (x : Operand)
    (ho : o.op = .call { callee := .builtin .clear, args := #[x], argTypes := #[22] }) (g n k : Nat) (c : List Int) (hc : B16 c) (hn : (n : Int) = cnt c) (hn15 : n < 15)
    (hx : a.eval x = .slice (some ⟨g, n + 1, none⟩) (15 - n) k) (hg : Blk w g (A16 c) 29)
    (h : wpList Try.prog ops Q rest (a.put o.dst (.tuple #[])) (w.setCells g (n + 1) (List.replicate (15 - n) (.int .u8 0)))) : wpList Try.prog ops Q (o :: rest) a w := by
  refine wpList_plain hgd fun K hK => ?_
  refine wp_val (.tuple #[]) (w' := w.setCells g (n + 1) (List.replicate (15 - n) (.int .u8 0))) ?_ (hK _ _ h)
  have hrun := Lib.run_clear_slice (P := Try.prog) w 22 5 o.type (.int .u8 0) Try.underlying22 zero5 rfl rfl g (n + 1) (15 - n) k (by omega) (fun j hj => by rw [hg.cell, A16_at hc _ (by omega)]; rfl) (fun j hj => hg.frozen _)
  simp [execOp, ho, resolve, invoke, builtin, hx, hrun]
theorem size1of5 (W : World) : (sizeOf 5).run Try.prog W = .ok 1 W := rfl
theorem sbound (i : Int) (m : Nat) (h0 : 0 ≤ i) (h1 : i ≤ (m : Int)) (c : BoundsCode) (W : World) : (Instr.sliceBound (.int .i64 i) m c).run Try.prog W = .ok i.toNat W := by
  simp [Instr.sliceBound, asIntOf, asInt, h0, h1]
theorem slc (g n : Nat) (hn : n < 15) (W : World) : (Instr.sliceAt 29 (.pointer (some ⟨g, 0, none⟩)) (some (.int .i64 (1 + (n : Int)))) none none).run Try.prog W = .ok (.slice (some ⟨g, n + 1, none⟩) (15 - n) (15 - n)) W := by
  have h1 : ¬ (16 = (1 + (n : Int)).toNat) := by omega
  have h2 : (1 + (n : Int)).toNat = n + 1 := by omega
  have h3 : 0 ≤ 1 + (n : Int) := by omega
  have h4 : 1 + (n : Int) ≤ 16 := by omega
  have hadd : ∀ m, (⟨g, 0, none⟩ : Addr).add m = ⟨g, m, none⟩ := by intro m; unfold Addr.add; split <;> simp_all
  have hs := sbound (1 + (n : Int)) 16 h3 (by omega) .sliceB W
  simp [Instr.sliceAt, run_underlying Try.underlying29, Instr.sureAddr, Instr.sliceBounds, size1of5, hs, h2, hadd]
  omega
theorem slc2 (g n : Nat) (hn : n ≤ 15) (W : World) : (Instr.sliceAt 29 (.pointer (some ⟨g, 0, none⟩)) (some (.int .i64 1)) (some (.int .i64 (1 + (n : Int)))) none).run Try.prog W = .ok (.slice (some ⟨g, 1, none⟩) n 15) W := by
  have h2 : (1 + (n : Int)).toNat = n + 1 := by omega
  have h3 : 0 ≤ 1 + (n : Int) := by omega
  have h4 : 1 + (n : Int) ≤ 16 := by omega
  have hadd : ∀ m, (⟨g, 0, none⟩ : Addr).add m = ⟨g, m, none⟩ := by intro m; unfold Addr.add; split <;> simp_all
  have hs := sbound (1 + (n : Int)) 16 h3 (by omega) .sliceAlen W
  have hs2 := sbound 1 (n + 1) (by omega) (by omega) .sliceB W
  simp [Instr.sliceAt, run_underlying Try.underlying29, Instr.sureAddr, Instr.sliceBounds, size1of5, hs, hs2, h2, hadd]
set_option maxHeartbeats 1600000 in
theorem noPad_c (c : List Int) (hc : B16 c) (w : World) : Calls Try.prog 65 #[.agg (A16 c)] w fun e w' => e = .returned (.agg (A16 (noPad c))) ∧ Below w.heap.size w w' := by
  have hb := cnt_bd c
  obtain ⟨n, hn⟩ := Int.eq_ofNat_of_zero_le hb.1
  have hs := A16_size hc
  have hN := noPad_B hc
  have hsN := A16_size hN
  have k0 : Blk ((w.alloc (.cells (A16 c) 29)).alloc (.cells (A16 (List.replicate 16 0)) 29)) w.heap.size (A16 c) 29 := (Blk.newAt _ _ _ _ rfl).alloc _
  have k1 : Blk ((w.alloc (.cells (A16 c) 29)).alloc (.cells (A16 (List.replicate 16 0)) 29)) (w.heap.size + 1) (A16 (List.replicate 16 0)) 29 := Blk.newAt _ _ _ _ (by simp)
  have hb0 : Below w.heap.size w ((w.alloc (.cells (A16 c) 29)).alloc (.cells (A16 (List.replicate 16 0)) 29)) := ((Below.refl _ _).alloc (Nat.le_refl _) _).alloc (by simp) _
  have hcnt : ∀ W, Calls Try.prog 55 #[.agg (A16 c)] W fun e w' => e = .returned (.int .i64 (n : Int)) ∧ Below W.heap.size W w' := by
    intro W; have := cnt_c c hc W; rw [hn] at this; exact this
  have HN : Hid ((n : Int) = cnt c) := hn.symm
  have hn15 : n ≤ 15 := by omega
  clear hn hb
  have Z16z : B16 (List.replicate 16 0) := ⟨rfl, by intro z hz; simp at hz; omega⟩
  go_enter Try.func65, Try.ntmps65
  go_wp2_with (refine ld29 rfl (.tmp 1) rfl w.heap.size rfl 29 (A16 c) (0, 0) k0 hs ?_)
  refine (hcnt _).mono ?_
  rintro e w1 ⟨rfl, b1⟩
  have q0 := k0.below b1 k0.lt
  have q1 := k1.below b1 k1.lt
  have c1 := belowCall hb0 b1 hb0.size
  clear k0 k1 hb0 b1
  by_cases hn2 : n < 15
  · have r0 := Blk.clear hc q0 n HN.out
    have r1 := Blk.cellsOther (g := w.heap.size) (b := w.heap.size + 1) (by omega) (List.replicate (15 - n) (.int .u8 0)) (n + 1) w1 q1
    have c2 := belowCells (g := w.heap.size) (Nat.le_refl _) (List.replicate (15 - n) (.int .u8 0)) (n + 1) w1 c1
    have hsl := slc w.heap.size n hn2
    have r1' := r1.row (A16 (noPad c))
    go_wp2_with (first | refine clr29 rfl (.tmp 6) rfl w.heap.size n _ c hc HN.out hn2 rfl q0 ?_ | refine ld29 rfl (.tmp 1) rfl w.heap.size rfl 29 (A16 (noPad c)) (0, 0) r0 hsN ?_ | refine st29 rfl (.tmp 2) (.tmp 7) rfl (w.heap.size + 1) rfl (noPad c) hN rfl 29 _ r1 (A16_size Z16z) ?_)
    exact bodyPost_ret (v := .agg (A16 (noPad c))) (results_cell_row rfl _ _ _ 29 _ (0, 0) _ rfl r1' Try.underlying29 rfl (by rw [hsN]; exact size29)) rfl ⟨rfl, belowRow c2 _ (by omega) _⟩
  · obtain rfl : n = 15 := by omega
    have hsame : noPad c = c := B16_ext hN hc fun i hi => by rw [noPad_at c i hi, if_pos (by have := HN.out; omega)]
    have q1' := q1.row (A16 c)
    have hsl : ∀ W, (Instr.sliceAt 29 (.pointer (some ⟨w.heap.size, 0, none⟩)) (some (.int .i64 16)) none none).run Try.prog W = .ok (.slice (some ⟨w.heap.size, 0, none⟩) 0 0) W := fun W => by kernel_rfl
    have hcl : ∀ W, (Builtin.clear_ #[22] 0 #[.slice (some ⟨w.heap.size, 0, none⟩) 0 0]).run Try.prog W = .ok (.tuple #[]) W := fun W => by kernel_rfl
    have HS : Hid (noPad c = c) := hsame
    clear hsame
    go_wp2_with (first | refine ld29 rfl (.tmp 1) rfl w.heap.size rfl 29 (A16 c) (0, 0) q0 hs ?_ | refine st29 rfl (.tmp 2) (.tmp 7) rfl (w.heap.size + 1) rfl c hc rfl 29 _ q1 (A16_size Z16z) ?_)
    exact bodyPost_ret (v := .agg (A16 c)) (results_cell_row rfl _ _ _ 29 _ (0, 0) _ rfl q1' Try.underlying29 rfl (by rw [hs]; exact size29)) rfl ⟨by rw [HS.out], belowRow c1 _ (by omega) _⟩
theorem faultF_1 {c : List Int} {j : Nat} {over : Bool} (h : cnt c = 0 ∨ (cnt c < 15 ∧ lastB c = false)) : faultF c j over = 1 := by rw [faultF, if_pos h]
theorem faultF_go {c : List Int} {j : Nat} {over : Bool} (h : ¬ (cnt c = 0 ∨ (cnt c < 15 ∧ lastB c = false))) : faultF c j over = if c ≠ noPad c then 2 else if numB c ≠ (j : Int) % 8 then 3 else if over then 4 else 0 := by rw [faultF, if_neg h]
set_option maxHeartbeats 1600000 in
theorem fault_c (c : List Int) (hc : B16 c) (j : Nat) (over : Bool) (hj : j ≤ 1000000) (w : World) : Calls Try.prog 54 #[.agg (A16 c), .int .i64 j, .bool over] w fun e w' => e = .returned (.int .i64 (faultF c j over)) ∧ Below w.heap.size w w' := by
  have hb := cnt_bd c
  have hs := A16_size hc
  have k0 := Blk.new w (A16 c) 29
  have c0 : Below w.heap.size w (w.alloc (.cells (A16 c) 29)) := (Below.refl _ _).alloc (Nat.le_refl _) _
  have H1 : Hid (cnt c = 0 ∨ (cnt c < 15 ∧ lastB c = false) → faultF c j over = 1) := fun h => faultF_1 h
  have H2 : Hid (¬ (cnt c = 0 ∨ (cnt c < 15 ∧ lastB c = false)) → faultF c j over = if c ≠ noPad c then 2 else if numB c ≠ (j : Int) % 8 then 3 else if over then 4 else 0) := fun h => faultF_go h
  go_enter Try.func54, Try.ntmps54
  go_wp2_with (refine ld29 rfl (.tmp 3) rfl w.heap.size rfl 29 (A16 c) (0, 0) k0 hs ?_)
  refine (cnt_c c hc _).mono ?_
  rintro e w1 ⟨rfl, b1⟩
  have k1 := k0.below b1 k0.lt
  have c1 := belowCall c0 b1 c0.size
  clear k0 c0 b1
  by_cases hz : cnt c = 0
  · have hF := H1.out (.inl hz)
    have hzb : (cnt c == 0) = true := by simpa using hz
    clear hz H1 H2
    go_wp2
    go_ret
    exact ⟨by rw [hF]; rfl, c1⟩
  have hzb : (cnt c == 0) = false := by simpa using hz
  by_cases h15 : cnt c < 15
  · go_wp2_with (refine ld29g rfl (.tmp 3) rfl w.heap.size rfl 29 (A16 c) (0, 0) k1 hs ?_)
    refine (last_c c hc _).mono ?_
    rintro e w2 ⟨rfl, b2⟩
    have k2 := k1.below b2 k1.lt
    have c2 := belowCall c1 b2 c1.size
    clear k1 c1 b2
    cases hl : lastB c with
    | false =>
      have hF := H1.out (.inr ⟨h15, hl⟩)
      clear H1 H2 hl
      go_wp2
      go_ret
      exact ⟨by rw [hF]; rfl, c2⟩
    | true =>
      have hF := H2.out (by rw [hl]; simp [hz])
      clear H1 H2 hl
      have HF : Hid _ := hF
      clear hF
      go_wp2
      refine region_inv (by kernel_rfl) (by kernel_rfl) (JF c (fun u0 u1 u2 u3 u4 => ⟨#[Value.agg (A16 c), Value.int .i64 j, Value.bool over, Value.pointer (some ⟨w.heap.size, 0, none⟩), undef, undef, Value.int .i64 0, Value.int .i64 (cnt c), Value.agg (A16 c), Value.int .i64 (cnt c), Value.bool false, Value.int .i64 (cnt c), Value.bool false, Value.int .i64 (cnt c), Value.bool true, Value.bool true, Value.agg (A16 c), Value.bool true, Value.bool false, Value.bool false, u4, u0, u1, u2, u3, undef, undef, undef, undef, undef, undef, undef, undef], []⟩) (fun W => Blk W w.heap.size (A16 c) 29 ∧ Below w.heap.size w W)) ⟨_, _, _, _, _, rfl, ⟨k2.drew, c2.drew⟩, by simp, by simp, by simp, by simp, by simp⟩ ⟨?_, ?_, ?_, ?_, ?_, trivial⟩ ?_
      · rintro d A W ⟨u0, u1, u2, u3, u4, rfl, I, e0, e1, e2, e3, e4⟩ hn hd
        simp at hd
        exact wp_load_row 29 _ rfl w.heap.size rfl 29 (A16 c) (0, 0) _ I.1 Try.underlying29 rfl (by rw [hs]; exact size29) ⟨_, u1, u2, u3, u4, rfl, I, fun _ => rfl, e1, e2, e3, e4⟩
      · rintro d A W ⟨u0, u1, u2, u3, u4, rfl, I, e0, e1, e2, e3, e4⟩ hn hd
        simp at hd
        exact wp_load_row 29 _ rfl w.heap.size rfl 29 (A16 c) (0, 0) _ I.1 Try.underlying29 rfl (by rw [hs]; exact size29) ⟨u0, _, u2, u3, u4, rfl, I, e0, fun _ => rfl, e2, e3, e4⟩
      · rintro d A W ⟨u0, u1, u2, u3, u4, rfl, I, e0, e1, e2, e3, e4⟩ hn hd
        simp at hd
        obtain rfl := e1 (by simp [hd])
        refine wp_call 65 #[.agg (A16 c)] (by kernel_rfl) _ (noPad_c c hc W) ?_
        rintro e W' ⟨rfl, hb1⟩
        exact ⟨_, rfl, u0, _, _, u3, u4, rfl, ⟨I.1.below hb1 I.1.lt, belowCall I.2 hb1 I.2.size⟩, e0, e1, fun _ => rfl, e3, e4⟩
      · rintro d A W ⟨u0, u1, u2, u3, u4, rfl, I, e0, e1, e2, e3, e4⟩ hn hd
        simp at hd
        obtain rfl := e0 (by simp [hd])
        obtain rfl := e2 (by simp [hd])
        exact wp_neq29 _ _ rfl c (noPad c) hc (noPad_B hc) rfl rfl ⟨_, u1, _, _, u4, rfl, I, e0, e1, e2, fun _ => rfl, e4⟩
      · rintro d A W ⟨u0, u1, u2, u3, u4, rfl, I, e0, e1, e2, e3, e4⟩ hn hd
        simp at hd
        obtain rfl := e3 (by simp [hd])
        exact wp_val _ rfl ⟨u0, u1, u2, _, _, rfl, I, e0, e1, e2, e3, fun _ => rfl⟩
      · rintro d A W ⟨u0, u1, u2, u3, u4, rfl, I, e0, e1, e2, e3, e4⟩ hd
        obtain rfl := e4 (hd 4 (by decide))
        clear e0 e1 e2 e3 e4 hd
        cases hpd : decide (c = noPad c) with
        | false =>
          have hp : c ≠ noPad c := by simpa using hpd
          have hF := HF.out
          rw [if_pos hp] at hF
          clear HF hpd hp
          go_wp2
          go_ret
          exact ⟨by rw [hF]; rfl, I.2⟩
        | true =>
          have hp : ¬ c ≠ noPad c := by simpa using hpd
          have hF := HF.out
          rw [if_neg hp] at hF
          have HF2 : Hid _ := hF
          clear HF hpd hp hF
          go_wp2_with (refine ld29 rfl (.tmp 3) rfl w.heap.size rfl 29 (A16 c) (0, 0) I.1 hs ?_)
          refine (num_c c hc _).mono ?_
          rintro e w5 ⟨rfl, b5⟩
          have c5 := belowCall I.2 b5 I.2.size
          by_cases hnum : numB c = (j : Int) % 8
          · have hF := HF2.out
            rw [if_neg (by simpa using hnum)] at hF
            have hnb : (numB c != (j : Int) % 8) = false := by simpa using hnum
            clear HF2 hnum
            cases over with
            | true =>
              go_wp2
              go_ret
              exact ⟨by rw [hF]; rfl, c5⟩
            | false =>
              go_wp2
              go_ret
              exact ⟨by rw [hF]; rfl, c5⟩
          · have hF := HF2.out
            rw [if_pos hnum] at hF
            have hnb : (numB c != (j : Int) % 8) = true := by rw [bne_iff_ne]; exact hnum
            clear HF2 hnum
            go_wp2
            go_ret
            exact ⟨by rw [hF]; rfl, c5⟩
  · have hF := H2.out (by omega)
    have HF : Hid _ := hF
    clear H1 H2 hF
    go_wp2
    refine region_inv (by kernel_rfl) (by kernel_rfl) (JF c (fun u0 u1 u2 u3 u4 => ⟨#[Value.agg (A16 c), Value.int .i64 j, Value.bool over, Value.pointer (some ⟨w.heap.size, 0, none⟩), undef, undef, Value.int .i64 0, Value.int .i64 (cnt c), Value.agg (A16 c), Value.int .i64 (cnt c), Value.bool false, Value.int .i64 (cnt c), Value.bool false, Value.int .i64 (cnt c), Value.bool false, Value.bool false, undef, undef, undef, Value.bool false, u4, u0, u1, u2, u3, undef, undef, undef, undef, undef, undef, undef, undef], []⟩) (fun W => Blk W w.heap.size (A16 c) 29 ∧ Below w.heap.size w W)) ⟨_, _, _, _, _, rfl, ⟨k1.drew, c1.drew⟩, by simp, by simp, by simp, by simp, by simp⟩ ⟨?_, ?_, ?_, ?_, ?_, trivial⟩ ?_
    · rintro d A W ⟨u0, u1, u2, u3, u4, rfl, I, e0, e1, e2, e3, e4⟩ hn hd
      simp at hd
      exact wp_load_row 29 _ rfl w.heap.size rfl 29 (A16 c) (0, 0) _ I.1 Try.underlying29 rfl (by rw [hs]; exact size29) ⟨_, u1, u2, u3, u4, rfl, I, fun _ => rfl, e1, e2, e3, e4⟩
    · rintro d A W ⟨u0, u1, u2, u3, u4, rfl, I, e0, e1, e2, e3, e4⟩ hn hd
      simp at hd
      exact wp_load_row 29 _ rfl w.heap.size rfl 29 (A16 c) (0, 0) _ I.1 Try.underlying29 rfl (by rw [hs]; exact size29) ⟨u0, _, u2, u3, u4, rfl, I, e0, fun _ => rfl, e2, e3, e4⟩
    · rintro d A W ⟨u0, u1, u2, u3, u4, rfl, I, e0, e1, e2, e3, e4⟩ hn hd
      simp at hd
      obtain rfl := e1 (by simp [hd])
      refine wp_call 65 #[.agg (A16 c)] (by kernel_rfl) _ (noPad_c c hc W) ?_
      rintro e W' ⟨rfl, hb1⟩
      exact ⟨_, rfl, u0, _, _, u3, u4, rfl, ⟨I.1.below hb1 I.1.lt, belowCall I.2 hb1 I.2.size⟩, e0, e1, fun _ => rfl, e3, e4⟩
    · rintro d A W ⟨u0, u1, u2, u3, u4, rfl, I, e0, e1, e2, e3, e4⟩ hn hd
      simp at hd
      obtain rfl := e0 (by simp [hd])
      obtain rfl := e2 (by simp [hd])
      exact wp_neq29 _ _ rfl c (noPad c) hc (noPad_B hc) rfl rfl ⟨_, u1, _, _, u4, rfl, I, e0, e1, e2, fun _ => rfl, e4⟩
    · rintro d A W ⟨u0, u1, u2, u3, u4, rfl, I, e0, e1, e2, e3, e4⟩ hn hd
      simp at hd
      obtain rfl := e3 (by simp [hd])
      exact wp_val _ rfl ⟨u0, u1, u2, _, _, rfl, I, e0, e1, e2, e3, fun _ => rfl⟩
    · rintro d A W ⟨u0, u1, u2, u3, u4, rfl, I, e0, e1, e2, e3, e4⟩ hd
      obtain rfl := e4 (hd 4 (by decide))
      clear e0 e1 e2 e3 e4 hd
      cases hpd : decide (c = noPad c) with
      | false =>
        have hp : c ≠ noPad c := by simpa using hpd
        have hF := HF.out
        rw [if_pos hp] at hF
        clear HF hpd hp
        go_wp2
        go_ret
        exact ⟨by rw [hF]; rfl, I.2⟩
      | true =>
        have hp : ¬ c ≠ noPad c := by simpa using hpd
        have hF := HF.out
        rw [if_neg hp] at hF
        have HF2 : Hid _ := hF
        clear HF hpd hp hF
        go_wp2_with (refine ld29 rfl (.tmp 3) rfl w.heap.size rfl 29 (A16 c) (0, 0) I.1 hs ?_)
        refine (num_c c hc _).mono ?_
        rintro e w5 ⟨rfl, b5⟩
        have c5 := belowCall I.2 b5 I.2.size
        by_cases hnum : numB c = (j : Int) % 8
        · have hF := HF2.out
          rw [if_neg (by simpa using hnum)] at hF
          have hnb : (numB c != (j : Int) % 8) = false := by simpa using hnum
          clear HF2 hnum
          cases over with
          | true =>
            go_wp2
            go_ret
            exact ⟨by rw [hF]; rfl, c5⟩
          | false =>
            go_wp2
            go_ret
            exact ⟨by rw [hF]; rfl, c5⟩
        · have hF := HF2.out
          rw [if_pos hnum] at hF
          have hnb : (numB c != (j : Int) % 8) = true := by rw [bne_iff_ne]; exact hnum
          clear HF2 hnum
          go_wp2
          go_ret
          exact ⟨by rw [hF]; rfl, c5⟩
end Go.Proofs.Ytadhiddnjhjioaa
