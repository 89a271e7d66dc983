/- Proved: at every code FnCellHurt returns true and leaves it as it was (a drawn cell of which one byte is turned, by any number but 251, has another sum; cells exclusive-or one another twice are what they were); no condition. -/
import Derived.Test.YtadhiddnjhjioaaHMath
import Derived.Test.YtadhiddnjhjioaaDrawC
import Derived.Test.YtadhiddnjhjioaaRegG
import Derived.Test.YtadhiddnjhjioaaOpen
import Derived.ChangeOld
namespace Go.Proofs.Ytadhiddnjhjioaa
open Go.RowKit Go.ChangeShapes Go.WideShapes Go.ChangeAt
set_option linter.unusedVariables false
set_option linter.unusedSimpArgs false
theorem wp_eqlI {o : Oper} {a : Act} {w : World} {K : Act → World → Prop} {Q : Exit → Act → World → Prop} (x y : Operand) (ho : o.op = .binOp .eql 3 x y 3) (p q : Int) (hx : a.eval x = .int .i64 p) (hy : a.eval y = .int .i64 q)
    (h : K (a.put o.dst (.bool (p == q))) w) : o.wp Try.prog a w K Q := by
  refine wp_val (.bool (p == q)) ?_ h
  simp [execOp, ho, hx, hy, eqGuard, binOp, Op.intCmp]
theorem wp_neqI {o : Oper} {a : Act} {w : World} {K : Act → World → Prop} {Q : Exit → Act → World → Prop} (x y : Operand) (ho : o.op = .binOp .neq 3 x y 3) (p q : Int) (hx : a.eval x = .int .i64 p) (hy : a.eval y = .int .i64 q)
    (h : K (a.put o.dst (.bool (p != q))) w) : o.wp Try.prog a w K Q := by
  refine wp_val (.bool (p != q)) ?_ h
  simp [execOp, ho, hx, hy, eqGuard, binOp, Op.intCmp]
def JH (X a b H : List Int) (D S1 S2 : Int) (zz : Bool) (F : Value → Value → Value → Value → Value → Value → Value → Value → Value → Value → Value → Value → Value → Value → Value → Value → Value → Value → Value → Value → Value → Value → Act) (S : World → Prop) (d : Nat → Bool) (A : Act) (W : World) : Prop :=
  ∃ u48 u49 u50 u51 u52 u53 u54 u55 u56 u57 u58 u59 u60 u61 u62 u63 u64 u65 u66 u67 u68 u2 : Value, A = F u48 u49 u50 u51 u52 u53 u54 u55 u56 u57 u58 u59 u60 u61 u62 u63 u64 u65 u66 u67 u68 u2 ∧ S W ∧ (d 0 = true → u48 = .agg (A16 X)) ∧ (d 1 = true → u49 = .agg (A16 b)) ∧ (d 2 = true → u50 = .agg (A16 a)) ∧ (d 3 = true → u51 = .agg (A16 a)) ∧ (d 4 = true → u52 = .bool true) ∧ (d 5 = true → u53 = .bool true) ∧ (d 6 = true → u54 = .int .i64 D) ∧ (d 7 = true → u55 = .bool zz) ∧ (d 8 = true → u56 = .bool zz) ∧ (d 9 = true → zz = false → u57 = .agg (A16 H)) ∧ (d 10 = true → zz = false → u58 = .int .i64 S1) ∧ (d 11 = true → zz = false → u59 = .agg (A16 a)) ∧ (d 12 = true → zz = false → u60 = .int .i64 S2) ∧ (d 13 = true → zz = false → u61 = .bool true) ∧ (d 14 = true → u62 = .bool true) ∧ (d 15 = true → u63 = .bool true) ∧ (d 16 = true → u64 = .bool true) ∧ (d 17 = true → u65 = .agg (A16 (0 :: 1 :: List.replicate 14 0))) ∧ (d 18 = true → u66 = .int .i64 2) ∧ (d 19 = true → u67 = .bool true) ∧ (d 20 = true → u68 = .bool true) ∧ (d 21 = true → u2 = .bool true)
set_option maxHeartbeats 3200000 in
theorem law4 (v : Value) (zs : List Int) (w : World) (h : Rd .u8 w v zs) (hwz : ∀ z ∈ zs, (Lit.int .u8 z).wf = true) :
   Calls Try.prog 4 #[v] w fun e w' => e = .returned (.bool true) ∧ Below w.heap.size w w' := by
  have hz : ∀ z ∈ zs, 0 ≤ z ∧ z ≤ 255 := fun z hm => bounds_u8 (hwz z hm)
  clear hwz
  obtain ⟨a0, cap, hv, h1, h2, h3⟩ := id h
  subst hv
  clear h3
  unfold maxLen at h2
  by_cases hbig : 1048576 < zs.length
  · have hb : decide ((1048576 : Int) < (zs.length : Int)) = true := by simp; omega
    clear hz h
    go_enter Try.func4, Try.ntmps4
    go_wp2
    go_ret
    exact ⟨rfl, Below.refl _ _⟩
  · have hb : decide ((1048576 : Int) < (zs.length : Int)) = false := by simp; omega
    have hlen : zs.length ≤ 1048576 := by omega
    have HZ : Hid (∀ z ∈ zs, 0 ≤ z ∧ z ≤ 255) := hz
    clear hz
    go_enter Try.func4, Try.ntmps4
    go_wp2_with (go_at_call 13; go_in)
    refine (drawXor_c _ zs _ h HZ.out hlen).mono ?_
    rintro e w1 ⟨a, b, rfl, ha, hb', c1⟩
    have s1 := c1.size
    have sa := A16_size ha
    have sb := A16_size hb'
    have hX := xz_B16 b ha 16
    -- a and b into blocks of their own
    have p0 : Blk ((w1.alloc (.cells (A16 (List.replicate 16 0)) 29)).alloc (.cells (A16 (List.replicate 16 0)) 29)) w1.heap.size (A16 (List.replicate 16 0)) 29 := (Blk.newAt _ _ _ _ rfl).alloc _
    have p1 : Blk (((w1.alloc (.cells (A16 (List.replicate 16 0)) 29)).alloc (.cells (A16 (List.replicate 16 0)) 29)).setRow w1.heap.size (A16 a)) (w1.heap.size + 1) (A16 (List.replicate 16 0)) 29 := (Blk.newAt _ _ _ _ (by simp)).rowOther _ _ (by omega)
    have q3 := (p0.row (A16 a)).rowOther (w1.heap.size + 1) (A16 b) (by omega)
    have q4 := p1.row (A16 b)
    have c2 : Below w.heap.size w ((((w1.alloc (.cells (A16 (List.replicate 16 0)) 29)).alloc (.cells (A16 (List.replicate 16 0)) 29)).setRow w1.heap.size (A16 a)).setRow (w1.heap.size + 1) (A16 b)) := belowRow (belowRow ((c1.alloc s1 _).alloc (by simp; omega) _) _ s1 _) _ (by omega) _
    have z2 : ((((w1.alloc (.cells (A16 (List.replicate 16 0)) 29)).alloc (.cells (A16 (List.replicate 16 0)) 29)).setRow w1.heap.size (A16 a)).setRow (w1.heap.size + 1) (A16 b)).heap.size = w1.heap.size + 1 + 1 := by simp
    go_wp2_with (first | refine st29 rfl (.tmp 3) (.tmp 15) rfl w1.heap.size rfl a ha rfl 29 _ p0 (A16_size Z_B) ?_ | refine st29 rfl (.tmp 4) (.tmp 16) rfl (w1.heap.size + 1) rfl b hb' rfl 29 _ p1 (A16_size Z_B) ?_ | refine ld29 rfl (.tmp 3) rfl w1.heap.size rfl 29 (A16 a) (0, 0) q3 sa ?_ | refine ld29 rfl (.tmp 4) rfl (w1.heap.size + 1) rfl 29 (A16 b) (0, 0) q4 sb ?_)
    refine (xor_impl a b ha hb' _).mono ?_
    rintro e w2 ⟨rfl, b2⟩
    have r3 := q3.below b2 q3.lt
    have r4 := q4.below b2 q4.lt
    have c3 := belowCall c2 b2 c2.size
    have z3 := r4.lt
    have z3' := c3.size
    clear p0 p1 q3 q4 c2 z2 b2
    -- the third and the fourth block
    have u5 : Blk (w2.alloc (.cells (A16 (List.replicate 16 0)) 29)) w2.heap.size (A16 (List.replicate 16 0)) 29 := Blk.newAt _ _ _ _ rfl
    have u3 := (r3.alloc (.cells (A16 (List.replicate 16 0)) 29)).rowOther w2.heap.size (A16 (xz a b 16)) (by omega)
    have u6 : Blk (((w2.alloc (.cells (A16 (List.replicate 16 0)) 29)).setRow w2.heap.size (A16 (xz a b 16))).alloc (.cells (A16 (List.replicate 16 0)) 29)) (w2.heap.size + 1) (A16 (List.replicate 16 0)) 29 := Blk.newAt _ _ _ _ (by simp)
    have t3 := (u3.alloc (.cells (A16 (List.replicate 16 0)) 29)).rowOther (w2.heap.size + 1) (A16 a) (by omega)
    have t4 := (((r4.alloc (.cells (A16 (List.replicate 16 0)) 29)).rowOther w2.heap.size (A16 (xz a b 16)) (by omega)).alloc (.cells (A16 (List.replicate 16 0)) 29)).rowOther (w2.heap.size + 1) (A16 a) (by omega)
    have t5 := ((u5.row (A16 (xz a b 16))).alloc (.cells (A16 (List.replicate 16 0)) 29)).rowOther (w2.heap.size + 1) (A16 a) (by omega)
    have t6 := u6.row (A16 a)
    have c4 : Below w.heap.size w ((((w2.alloc (.cells (A16 (List.replicate 16 0)) 29)).setRow w2.heap.size (A16 (xz a b 16))).alloc (.cells (A16 (List.replicate 16 0)) 29)).setRow (w2.heap.size + 1) (A16 a)) := belowRow ((belowRow (c3.alloc z3' _) _ z3' _).alloc (by simp; omega) _) _ (by omega) _
    have hr4 := h.below c4
    go_wp2_with (first | refine st29 rfl (.tmp 5) (.tmp 19) rfl w2.heap.size rfl (xz a b 16) hX rfl 29 _ u5 (A16_size Z_B) ?_ | refine st29 rfl (.tmp 6) (.tmp 20) rfl (w2.heap.size + 1) rfl a ha rfl 29 _ u6 (A16_size Z_B) ?_ | refine ld29 rfl (.tmp 3) rfl w1.heap.size rfl 29 (A16 a) (0, 0) u3 sa ?_)
    refine (at_c _ zs 0 _ hr4 HZ.out (by omega) hlen).mono ?_
    rintro e w3 ⟨x, rfl, x0, x1, hw3⟩
    rw [← hw3] at t3 t4 t5 t6 c4 hr4
    clear hw3 u3 u5 u6 r3 r4 c3
    go_wp2_with fail
    refine (at_c _ zs 1 _ hr4 HZ.out (by omega) hlen).mono ?_
    rintro e w4 ⟨y, rfl, y0, y1, hw4⟩
    have hw4' := hw4.symm
    subst hw4'
    clear hr4 h HZ
    obtain ⟨k, hk⟩ : ∃ k : Nat, x % 16 = (k : Int) := Int.eq_ofNat_of_zero_le (by omega)
    have hk16 : k < 16 := by omega
    obtain ⟨m, hm⟩ : ∃ m : Int, 1 + y % 250 = m := ⟨_, rfl⟩
    have hm1 : 1 ≤ m ∧ m ≤ 250 := by omega
    have cell6 := t6.cell k
    rw [A16_at ha k hk16] at cell6
    have cell3 := t3.cell k
    rw [A16_at ha k hk16] at cell3
    have fz6 := t6.frozen k
    have hak := B16_at ha k
    generalize hA : a.getD k 0 = z at cell6 cell3 hak
    have HAZ : Hid (a.getD k 0 = z) := hA
    clear hA
    have hi : (0 : Int) ≤ (k : Int) := by omega
    have hi2 : (k : Int) < 16 := by omega
    have cell6' : (w3.setCell ⟨w2.heap.size + 1, k, none⟩ (.int .u8 ((z + m) % 256))).cell? ⟨w2.heap.size + 1, k, none⟩ = some (.int .u8 ((z + m) % 256)) := World.cell?_setCell_same _ _ _ cell6
    have cell3' : (w3.setCell ⟨w2.heap.size + 1, k, none⟩ (.int .u8 ((z + m) % 256))).cell? ⟨w1.heap.size, k, none⟩ = some (.int .u8 z) := by
      rw [World.cell?_setCell_other _ _ _ _ (by intro e; injection e with e1; omega)]; exact cell3
    go_wp2
    go_quiet (fail)
    go_wp2
    obtain ⟨hset, hH⟩ := A16_put ha k hk16 ((z + m) % 256) (by omega)
    have t6' := t6.set k (.int .u8 ((z + m) % 256))
    rw [hset] at t6'
    have hS0 : Blk (w3.setCell ⟨w2.heap.size + 1, k, none⟩ (.int .u8 ((z + m) % 256))) w1.heap.size (A16 a) 29 ∧ Blk (w3.setCell ⟨w2.heap.size + 1, k, none⟩ (.int .u8 ((z + m) % 256))) (w1.heap.size + 1) (A16 b) 29 ∧ Blk (w3.setCell ⟨w2.heap.size + 1, k, none⟩ (.int .u8 ((z + m) % 256))) w2.heap.size (A16 (xz a b 16)) 29 ∧ Blk (w3.setCell ⟨w2.heap.size + 1, k, none⟩ (.int .u8 ((z + m) % 256))) (w2.heap.size + 1) (A16 (a.set k ((z + m) % 256))) 29 ∧ Below w.heap.size w (w3.setCell ⟨w2.heap.size + 1, k, none⟩ (.int .u8 ((z + m) % 256))) :=
      ⟨t3.other _ _ (by dsimp only; omega), t4.other _ _ (by dsimp only; omega), t5.other _ _ (by dsimp only; omega), t6', c4.setCell (by dsimp only; omega) _⟩
    have hxor : ∀ W, Calls Try.prog 20 #[.agg (A16 (xz a b 16)), .agg (A16 b)] W fun e w' => e = .returned (.agg (A16 a)) ∧ Below W.heap.size W w' := by
      intro W; have := xor_impl (xz a b 16) b hX hb' W; rw [xz_xz ha hb'] at this; exact this
    have hT : B16 (0 :: 1 :: List.replicate 14 0) := ⟨rfl, by intro q hq; simp at hq; omega⟩
    have hsum := hurt_sum ha k hk16 ((z + m) % 256)
    rw [HAZ.out] at hsum
    generalize hzz : (((z + m) % 256 - z).tmod 251 == 0) = zz
    have hSne : zz = false → ((sumTo (a.set k ((z + m) % 256)) 16 % 251) != (sumTo a 16 % 251)) = true := by
      intro hz0
      rw [bne_iff_ne]
      apply hsum
      rw [hz0] at hzz
      have : ¬ ((z + m) % 256 - z).tmod 251 = 0 := by simpa using hzz
      exact tmod_ne this
    generalize hHd : a.set k ((z + m) % 256) = H at hH hS0 hSne
    generalize hS1 : sumTo H 16 % 251 = S1 at hSne
    generalize hS2 : sumTo a 16 % 251 = S2 at hSne
    clear t3 t4 t5 t6 t6' c4 hset hsum cell3 cell6 cell3' cell6' fz6 hHd
    generalize xz a b 16 = X at *
    generalize hDD : ((z + m) % 256 - z).tmod 251 = D at *
    have SC : ∀ W W' : World, (Blk W w1.heap.size (A16 a) 29 ∧ Blk W (w1.heap.size + 1) (A16 b) 29 ∧ Blk W w2.heap.size (A16 X) 29 ∧ Blk W (w2.heap.size + 1) (A16 H) 29 ∧ Below w.heap.size w W) → Below W.heap.size W W' → (Blk W' w1.heap.size (A16 a) 29 ∧ Blk W' (w1.heap.size + 1) (A16 b) 29 ∧ Blk W' w2.heap.size (A16 X) 29 ∧ Blk W' (w2.heap.size + 1) (A16 H) 29 ∧ Below w.heap.size w W') :=
      fun W W' I hb => ⟨I.1.below hb I.1.lt, I.2.1.below hb I.2.1.lt, I.2.2.1.below hb I.2.2.1.lt, I.2.2.2.1.below hb I.2.2.2.1.lt, belowCall I.2.2.2.2 hb I.2.2.2.2.size⟩
    refine region_invG (by kernel_rfl) (by kernel_rfl) (JH X a b H D S1 S2 zz (fun u48 u49 u50 u51 u52 u53 u54 u55 u56 u57 u58 u59 u60 u61 u62 u63 u64 u65 u66 u67 u68 u2 => ⟨#[Value.slice a0 zs.length cap, undef, u2, Value.pointer (some ⟨w1.heap.size, 0, none⟩), Value.pointer (some ⟨w1.heap.size + 1, 0, none⟩), Value.pointer (some ⟨w2.heap.size, 0, none⟩), Value.pointer (some ⟨w2.heap.size + 1, 0, none⟩), Value.int .i64 k, Value.int .i64 m, Value.int .i64 (D), Value.slice a0 zs.length cap, Value.bool false, Value.tuple #[Value.agg (A16 a), Value.agg (A16 b)], Value.slice a0 zs.length cap, Value.tuple #[Value.agg (A16 a), Value.agg (A16 b)], Value.agg (A16 a), Value.agg (A16 b), Value.agg (A16 a), Value.agg (A16 b), Value.agg (A16 (X)), Value.agg (A16 a), Value.slice a0 zs.length cap, Value.int .i64 x, Value.int .i64 k, Value.slice a0 zs.length cap, Value.int .i64 y, Value.int .i64 (y % 250), Value.int .i64 m, Value.int .i64 k, Value.int .i64 k, Value.pointer (some ⟨w2.heap.size + 1, k, none⟩), Value.int .u8 z, Value.int .i64 z, Value.int .i64 m, Value.int .i64 (z + m), Value.int .i64 ((z + m) % 256), Value.int .u8 ((z + m) % 256), Value.pointer (some ⟨w2.heap.size + 1, k, none⟩), Value.int .i64 k, Value.pointer (some ⟨w2.heap.size + 1, k, none⟩), Value.int .u8 ((z + m) % 256), Value.int .i64 ((z + m) % 256), Value.int .i64 k, Value.pointer (some ⟨w1.heap.size, k, none⟩), Value.int .u8 z, Value.int .i64 z, Value.int .i64 ((z + m) % 256 - z), Value.int .i64 (D), u48, u49, u50, u51, u52, u53, u54, u55, u56, u57, u58, u59, u60, u61, u62, u63, u64, u65, u66, u67, u68], []⟩) (fun W => Blk W w1.heap.size (A16 a) 29 ∧ Blk W (w1.heap.size + 1) (A16 b) 29 ∧ Blk W w2.heap.size (A16 X) 29 ∧ Blk W (w2.heap.size + 1) (A16 H) 29 ∧ Below w.heap.size w W)) ⟨_, _, _, _, _, _, _, _, _, _, _, _, _, _, _, _, _, _, _, _, _, _, rfl, ⟨(hS0.1.drewN _).drew, (hS0.2.1.drewN _).drew, (hS0.2.2.1.drewN _).drew, (hS0.2.2.2.1.drewN _).drew, (below_drewN hS0.2.2.2.2 _).drew⟩, by simp, by simp, by simp, by simp, by simp, by simp, by simp, by simp, by simp, by simp, by simp, by simp, by simp, by simp, by simp, by simp, by simp, by simp, by simp, by simp, by simp, by simp⟩ ⟨?_, ?_, ?_, ?_, ?_, ?_, ?_, ?_, ?_, ?_, ?_, ?_, ?_, ?_, ?_, ?_, ?_, ?_, ?_, ?_, ?_, ?_, trivial⟩ ?_
    · rintro d A W ⟨u48, u49, u50, u51, u52, u53, u54, u55, u56, u57, u58, u59, u60, u61, u62, u63, u64, u65, u66, u67, u68, u2, rfl, I, e0, e1, e2, e3, e4, e5, e6, e7, e8, e9, e10, e11, e12, e13, e14, e15, e16, e17, e18, e19, e20, e21⟩ hn hd
      simp at hd
      refine ⟨fun _ => ?_, fun hw => absurd (show (true : Bool) = false from hw) (by decide)⟩
      exact wp_load_row 29 _ rfl w2.heap.size rfl 29 (A16 X) (0, 0) _ I.2.2.1 Try.underlying29 rfl (by rw [A16_size hX]; exact size29) ⟨_, u49, u50, u51, u52, u53, u54, u55, u56, u57, u58, u59, u60, u61, u62, u63, u64, u65, u66, u67, u68, u2, rfl, I, fun _ => rfl, e1, e2, e3, e4, e5, e6, e7, e8, e9, e10, e11, e12, e13, e14, e15, e16, e17, e18, e19, e20, e21⟩
    · rintro d A W ⟨u48, u49, u50, u51, u52, u53, u54, u55, u56, u57, u58, u59, u60, u61, u62, u63, u64, u65, u66, u67, u68, u2, rfl, I, e0, e1, e2, e3, e4, e5, e6, e7, e8, e9, e10, e11, e12, e13, e14, e15, e16, e17, e18, e19, e20, e21⟩ hn hd
      simp at hd
      refine ⟨fun _ => ?_, fun hw => absurd (show (true : Bool) = false from hw) (by decide)⟩
      exact wp_load_row 29 _ rfl (w1.heap.size + 1) rfl 29 (A16 b) (0, 0) _ I.2.1 Try.underlying29 rfl (by rw [A16_size hb']; exact size29) ⟨u48, _, u50, u51, u52, u53, u54, u55, u56, u57, u58, u59, u60, u61, u62, u63, u64, u65, u66, u67, u68, u2, rfl, I, e0, fun _ => rfl, e2, e3, e4, e5, e6, e7, e8, e9, e10, e11, e12, e13, e14, e15, e16, e17, e18, e19, e20, e21⟩
    · rintro d A W ⟨u48, u49, u50, u51, u52, u53, u54, u55, u56, u57, u58, u59, u60, u61, u62, u63, u64, u65, u66, u67, u68, u2, rfl, I, e0, e1, e2, e3, e4, e5, e6, e7, e8, e9, e10, e11, e12, e13, e14, e15, e16, e17, e18, e19, e20, e21⟩ hn hd
      simp at hd
      obtain rfl := e0 (by simp [hd])
      obtain rfl := e1 (by simp [hd])
      refine ⟨fun _ => ?_, fun hw => absurd (show (true : Bool) = false from hw) (by decide)⟩
      refine wp_call 20 #[.agg (A16 X), .agg (A16 b)] (by kernel_rfl) _ (hxor W) ?_
      rintro e W' ⟨rfl, hb1⟩
      exact ⟨_, rfl, _, _, _, u51, u52, u53, u54, u55, u56, u57, u58, u59, u60, u61, u62, u63, u64, u65, u66, u67, u68, u2, rfl, SC W W' I hb1, e0, e1, fun _ => rfl, e3, e4, e5, e6, e7, e8, e9, e10, e11, e12, e13, e14, e15, e16, e17, e18, e19, e20, e21⟩
    · rintro d A W ⟨u48, u49, u50, u51, u52, u53, u54, u55, u56, u57, u58, u59, u60, u61, u62, u63, u64, u65, u66, u67, u68, u2, rfl, I, e0, e1, e2, e3, e4, e5, e6, e7, e8, e9, e10, e11, e12, e13, e14, e15, e16, e17, e18, e19, e20, e21⟩ hn hd
      simp at hd
      refine ⟨fun _ => ?_, fun hw => absurd (show (true : Bool) = false from hw) (by decide)⟩
      exact wp_load_row 29 _ rfl w1.heap.size rfl 29 (A16 a) (0, 0) _ I.1 Try.underlying29 rfl (by rw [A16_size ha]; exact size29) ⟨u48, u49, u50, _, u52, u53, u54, u55, u56, u57, u58, u59, u60, u61, u62, u63, u64, u65, u66, u67, u68, u2, rfl, I, e0, e1, e2, fun _ => rfl, e4, e5, e6, e7, e8, e9, e10, e11, e12, e13, e14, e15, e16, e17, e18, e19, e20, e21⟩
    · rintro d A W ⟨u48, u49, u50, u51, u52, u53, u54, u55, u56, u57, u58, u59, u60, u61, u62, u63, u64, u65, u66, u67, u68, u2, rfl, I, e0, e1, e2, e3, e4, e5, e6, e7, e8, e9, e10, e11, e12, e13, e14, e15, e16, e17, e18, e19, e20, e21⟩ hn hd
      simp at hd
      obtain rfl := e2 (by simp [hd])
      obtain rfl := e3 (by simp [hd])
      refine ⟨fun _ => ?_, fun hw => absurd (show (true : Bool) = false from hw) (by decide)⟩
      refine wp_eql29 _ _ rfl a a ha ha rfl rfl ?_
      exact ⟨u48, u49, _, _, _, u53, u54, u55, u56, u57, u58, u59, u60, u61, u62, u63, u64, u65, u66, u67, u68, u2, rfl, I, e0, e1, e2, e3, fun _ => by simp, e5, e6, e7, e8, e9, e10, e11, e12, e13, e14, e15, e16, e17, e18, e19, e20, e21⟩
    · rintro d A W ⟨u48, u49, u50, u51, u52, u53, u54, u55, u56, u57, u58, u59, u60, u61, u62, u63, u64, u65, u66, u67, u68, u2, rfl, I, e0, e1, e2, e3, e4, e5, e6, e7, e8, e9, e10, e11, e12, e13, e14, e15, e16, e17, e18, e19, e20, e21⟩ hn hd
      simp at hd
      obtain rfl := e4 (by simp [hd])
      refine ⟨fun _ => ?_, fun hw => absurd (show (true : Bool) = false from hw) (by decide)⟩
      exact wp_val _ rfl ⟨u48, u49, u50, u51, _, _, u54, u55, u56, u57, u58, u59, u60, u61, u62, u63, u64, u65, u66, u67, u68, u2, rfl, I, e0, e1, e2, e3, e4, fun _ => rfl, e6, e7, e8, e9, e10, e11, e12, e13, e14, e15, e16, e17, e18, e19, e20, e21⟩
    · rintro d A W ⟨u48, u49, u50, u51, u52, u53, u54, u55, u56, u57, u58, u59, u60, u61, u62, u63, u64, u65, u66, u67, u68, u2, rfl, I, e0, e1, e2, e3, e4, e5, e6, e7, e8, e9, e10, e11, e12, e13, e14, e15, e16, e17, e18, e19, e20, e21⟩ hn hd
      simp at hd
      obtain rfl := e5 (by simp [hd])
      refine ⟨fun _ => ?_, fun hw => absurd (show (true : Bool) = false from hw) (by decide)⟩
      exact wp_val _ rfl ⟨u48, u49, u50, u51, u52, _, _, u55, u56, u57, u58, u59, u60, u61, u62, u63, u64, u65, u66, u67, u68, u2, rfl, I, e0, e1, e2, e3, e4, e5, fun _ => rfl, e7, e8, e9, e10, e11, e12, e13, e14, e15, e16, e17, e18, e19, e20, e21⟩
    · rintro d A W ⟨u48, u49, u50, u51, u52, u53, u54, u55, u56, u57, u58, u59, u60, u61, u62, u63, u64, u65, u66, u67, u68, u2, rfl, I, e0, e1, e2, e3, e4, e5, e6, e7, e8, e9, e10, e11, e12, e13, e14, e15, e16, e17, e18, e19, e20, e21⟩ hn hd
      simp at hd
      obtain rfl := e5 (by simp [hd])
      obtain rfl := e6 (by simp [hd])
      refine ⟨fun _ => ?_, fun hw => absurd (show (true : Bool) = false from hw) (by decide)⟩
      exact wp_eqlI _ _ rfl D 0 rfl rfl ⟨u48, u49, u50, u51, u52, _, _, _, u56, u57, u58, u59, u60, u61, u62, u63, u64, u65, u66, u67, u68, u2, rfl, I, e0, e1, e2, e3, e4, e5, e6, fun _ => by rw [hzz], e8, e9, e10, e11, e12, e13, e14, e15, e16, e17, e18, e19, e20, e21⟩
    · rintro d A W ⟨u48, u49, u50, u51, u52, u53, u54, u55, u56, u57, u58, u59, u60, u61, u62, u63, u64, u65, u66, u67, u68, u2, rfl, I, e0, e1, e2, e3, e4, e5, e6, e7, e8, e9, e10, e11, e12, e13, e14, e15, e16, e17, e18, e19, e20, e21⟩ hn hd
      simp at hd
      obtain rfl := e5 (by simp [hd])
      obtain rfl := e7 (by simp [hd])
      refine ⟨fun _ => ?_, fun hw => absurd (show (true : Bool) = false from hw) (by decide)⟩
      exact wp_val _ rfl ⟨u48, u49, u50, u51, u52, _, u54, _, _, u57, u58, u59, u60, u61, u62, u63, u64, u65, u66, u67, u68, u2, rfl, I, e0, e1, e2, e3, e4, e5, e6, e7, fun _ => rfl, e9, e10, e11, e12, e13, e14, e15, e16, e17, e18, e19, e20, e21⟩
    · rintro d A W ⟨u48, u49, u50, u51, u52, u53, u54, u55, u56, u57, u58, u59, u60, u61, u62, u63, u64, u65, u66, u67, u68, u2, rfl, I, e0, e1, e2, e3, e4, e5, e6, e7, e8, e9, e10, e11, e12, e13, e14, e15, e16, e17, e18, e19, e20, e21⟩ hn hd
      simp at hd
      obtain rfl := e8 (by simp [hd])
      cases zz with
      | true => exact ⟨fun hw => absurd (show (false : Bool) = true from hw) (by decide), fun _ => ⟨u48, u49, u50, u51, u52, u53, u54, u55, _, _, u58, u59, u60, u61, u62, u63, u64, u65, u66, u67, u68, u2, rfl, I, e0, e1, e2, e3, e4, e5, e6, e7, e8, fun _ h => absurd h (by decide), e10, e11, e12, e13, e14, e15, e16, e17, e18, e19, e20, e21⟩⟩
      | false =>
        refine ⟨fun _ => ?_, fun hw => absurd (show (true : Bool) = false from hw) (by decide)⟩
        exact wp_load_row 29 _ rfl (w2.heap.size + 1) rfl 29 (A16 H) (0, 0) _ I.2.2.2.1 Try.underlying29 rfl (by rw [A16_size hH]; exact size29) ⟨u48, u49, u50, u51, u52, u53, u54, u55, _, _, u58, u59, u60, u61, u62, u63, u64, u65, u66, u67, u68, u2, rfl, I, e0, e1, e2, e3, e4, e5, e6, e7, e8, fun _ _ => rfl, e10, e11, e12, e13, e14, e15, e16, e17, e18, e19, e20, e21⟩
    · rintro d A W ⟨u48, u49, u50, u51, u52, u53, u54, u55, u56, u57, u58, u59, u60, u61, u62, u63, u64, u65, u66, u67, u68, u2, rfl, I, e0, e1, e2, e3, e4, e5, e6, e7, e8, e9, e10, e11, e12, e13, e14, e15, e16, e17, e18, e19, e20, e21⟩ hn hd
      simp at hd
      obtain rfl := e8 (by simp [hd])
      cases zz with
      | true => exact ⟨fun hw => absurd (show (false : Bool) = true from hw) (by decide), fun _ => ⟨u48, u49, u50, u51, u52, u53, u54, u55, _, u57, _, u59, u60, u61, u62, u63, u64, u65, u66, u67, u68, u2, rfl, I, e0, e1, e2, e3, e4, e5, e6, e7, e8, e9, fun _ h => absurd h (by decide), e11, e12, e13, e14, e15, e16, e17, e18, e19, e20, e21⟩⟩
      | false =>
        obtain rfl := e9 (by simp [hd]) rfl
        refine ⟨fun _ => ?_, fun hw => absurd (show (true : Bool) = false from hw) (by decide)⟩
        refine wp_call 22 #[.agg (A16 H)] (by kernel_rfl) _ (sum_impl _ H hH rfl W) ?_
        rintro e W' ⟨rfl, hb1⟩
        exact ⟨_, rfl, u48, u49, u50, u51, u52, u53, u54, u55, _, _, _, u59, u60, u61, u62, u63, u64, u65, u66, u67, u68, u2, rfl, SC W W' I hb1, e0, e1, e2, e3, e4, e5, e6, e7, e8, e9, fun _ _ => by rw [hS1], e11, e12, e13, e14, e15, e16, e17, e18, e19, e20, e21⟩
    · rintro d A W ⟨u48, u49, u50, u51, u52, u53, u54, u55, u56, u57, u58, u59, u60, u61, u62, u63, u64, u65, u66, u67, u68, u2, rfl, I, e0, e1, e2, e3, e4, e5, e6, e7, e8, e9, e10, e11, e12, e13, e14, e15, e16, e17, e18, e19, e20, e21⟩ hn hd
      simp at hd
      obtain rfl := e8 (by simp [hd])
      cases zz with
      | true => exact ⟨fun hw => absurd (show (false : Bool) = true from hw) (by decide), fun _ => ⟨u48, u49, u50, u51, u52, u53, u54, u55, _, u57, u58, _, u60, u61, u62, u63, u64, u65, u66, u67, u68, u2, rfl, I, e0, e1, e2, e3, e4, e5, e6, e7, e8, e9, e10, fun _ h => absurd h (by decide), e12, e13, e14, e15, e16, e17, e18, e19, e20, e21⟩⟩
      | false =>
        refine ⟨fun _ => ?_, fun hw => absurd (show (true : Bool) = false from hw) (by decide)⟩
        exact wp_load_row 29 _ rfl w1.heap.size rfl 29 (A16 a) (0, 0) _ I.1 Try.underlying29 rfl (by rw [A16_size ha]; exact size29) ⟨u48, u49, u50, u51, u52, u53, u54, u55, _, u57, u58, _, u60, u61, u62, u63, u64, u65, u66, u67, u68, u2, rfl, I, e0, e1, e2, e3, e4, e5, e6, e7, e8, e9, e10, fun _ _ => rfl, e12, e13, e14, e15, e16, e17, e18, e19, e20, e21⟩
    · rintro d A W ⟨u48, u49, u50, u51, u52, u53, u54, u55, u56, u57, u58, u59, u60, u61, u62, u63, u64, u65, u66, u67, u68, u2, rfl, I, e0, e1, e2, e3, e4, e5, e6, e7, e8, e9, e10, e11, e12, e13, e14, e15, e16, e17, e18, e19, e20, e21⟩ hn hd
      simp at hd
      obtain rfl := e8 (by simp [hd])
      cases zz with
      | true => exact ⟨fun hw => absurd (show (false : Bool) = true from hw) (by decide), fun _ => ⟨u48, u49, u50, u51, u52, u53, u54, u55, _, u57, u58, u59, _, u61, u62, u63, u64, u65, u66, u67, u68, u2, rfl, I, e0, e1, e2, e3, e4, e5, e6, e7, e8, e9, e10, e11, fun _ h => absurd h (by decide), e13, e14, e15, e16, e17, e18, e19, e20, e21⟩⟩
      | false =>
        obtain rfl := e11 (by simp [hd]) rfl
        refine ⟨fun _ => ?_, fun hw => absurd (show (true : Bool) = false from hw) (by decide)⟩
        refine wp_call 22 #[.agg (A16 a)] (by kernel_rfl) _ (sum_impl _ a ha rfl W) ?_
        rintro e W' ⟨rfl, hb1⟩
        exact ⟨_, rfl, u48, u49, u50, u51, u52, u53, u54, u55, _, u57, u58, _, _, u61, u62, u63, u64, u65, u66, u67, u68, u2, rfl, SC W W' I hb1, e0, e1, e2, e3, e4, e5, e6, e7, e8, e9, e10, e11, fun _ _ => by rw [hS2], e13, e14, e15, e16, e17, e18, e19, e20, e21⟩
    · rintro d A W ⟨u48, u49, u50, u51, u52, u53, u54, u55, u56, u57, u58, u59, u60, u61, u62, u63, u64, u65, u66, u67, u68, u2, rfl, I, e0, e1, e2, e3, e4, e5, e6, e7, e8, e9, e10, e11, e12, e13, e14, e15, e16, e17, e18, e19, e20, e21⟩ hn hd
      simp at hd
      obtain rfl := e8 (by simp [hd])
      cases zz with
      | true => exact ⟨fun hw => absurd (show (false : Bool) = true from hw) (by decide), fun _ => ⟨u48, u49, u50, u51, u52, u53, u54, u55, _, u57, u58, u59, u60, _, u62, u63, u64, u65, u66, u67, u68, u2, rfl, I, e0, e1, e2, e3, e4, e5, e6, e7, e8, e9, e10, e11, e12, fun _ h => absurd h (by decide), e14, e15, e16, e17, e18, e19, e20, e21⟩⟩
      | false =>
        obtain rfl := e10 (by simp [hd]) rfl
        obtain rfl := e12 (by simp [hd]) rfl
        refine ⟨fun _ => ?_, fun hw => absurd (show (true : Bool) = false from hw) (by decide)⟩
        exact wp_neqI _ _ rfl S1 S2 rfl rfl ⟨u48, u49, u50, u51, u52, u53, u54, u55, _, u57, _, u59, _, _, u62, u63, u64, u65, u66, u67, u68, u2, rfl, I, e0, e1, e2, e3, e4, e5, e6, e7, e8, e9, e10, e11, e12, fun _ _ => by rw [hSne rfl], e14, e15, e16, e17, e18, e19, e20, e21⟩
    · rintro d A W ⟨u48, u49, u50, u51, u52, u53, u54, u55, u56, u57, u58, u59, u60, u61, u62, u63, u64, u65, u66, u67, u68, u2, rfl, I, e0, e1, e2, e3, e4, e5, e6, e7, e8, e9, e10, e11, e12, e13, e14, e15, e16, e17, e18, e19, e20, e21⟩ hn hd
      simp at hd
      obtain rfl := e5 (by simp [hd])
      obtain rfl := e8 (by simp [hd])
      refine ⟨fun _ => ?_, fun hw => absurd (show (true : Bool) = false from hw) (by decide)⟩
      cases zz with
      | true => exact wp_val _ rfl ⟨u48, u49, u50, u51, u52, _, u54, u55, _, u57, u58, u59, u60, u61, _, u63, u64, u65, u66, u67, u68, u2, rfl, I, e0, e1, e2, e3, e4, e5, e6, e7, e8, e9, e10, e11, e12, e13, fun _ => rfl, e15, e16, e17, e18, e19, e20, e21⟩
      | false =>
        obtain rfl := e13 (by simp [hd]) rfl
        exact wp_val _ rfl ⟨u48, u49, u50, u51, u52, _, u54, u55, _, u57, u58, u59, u60, _, _, u63, u64, u65, u66, u67, u68, u2, rfl, I, e0, e1, e2, e3, e4, e5, e6, e7, e8, e9, e10, e11, e12, e13, fun _ => rfl, e15, e16, e17, e18, e19, e20, e21⟩
    · rintro d A W ⟨u48, u49, u50, u51, u52, u53, u54, u55, u56, u57, u58, u59, u60, u61, u62, u63, u64, u65, u66, u67, u68, u2, rfl, I, e0, e1, e2, e3, e4, e5, e6, e7, e8, e9, e10, e11, e12, e13, e14, e15, e16, e17, e18, e19, e20, e21⟩ hn hd
      simp at hd
      obtain rfl := e5 (by simp [hd])
      obtain rfl := e14 (by simp [hd])
      refine ⟨fun _ => ?_, fun hw => absurd (show (true : Bool) = false from hw) (by decide)⟩
      exact wp_val _ rfl ⟨u48, u49, u50, u51, u52, _, u54, u55, u56, u57, u58, u59, u60, u61, _, _, u64, u65, u66, u67, u68, u2, rfl, I, e0, e1, e2, e3, e4, e5, e6, e7, e8, e9, e10, e11, e12, e13, e14, fun _ => rfl, e16, e17, e18, e19, e20, e21⟩
    · rintro d A W ⟨u48, u49, u50, u51, u52, u53, u54, u55, u56, u57, u58, u59, u60, u61, u62, u63, u64, u65, u66, u67, u68, u2, rfl, I, e0, e1, e2, e3, e4, e5, e6, e7, e8, e9, e10, e11, e12, e13, e14, e15, e16, e17, e18, e19, e20, e21⟩ hn hd
      simp at hd
      obtain rfl := e15 (by simp [hd])
      refine ⟨fun _ => ?_, fun hw => absurd (show (true : Bool) = false from hw) (by decide)⟩
      exact wp_val _ rfl ⟨u48, u49, u50, u51, u52, u53, u54, u55, u56, u57, u58, u59, u60, u61, u62, _, _, u65, u66, u67, u68, u2, rfl, I, e0, e1, e2, e3, e4, e5, e6, e7, e8, e9, e10, e11, e12, e13, e14, e15, fun _ => rfl, e17, e18, e19, e20, e21⟩
    · rintro d A W ⟨u48, u49, u50, u51, u52, u53, u54, u55, u56, u57, u58, u59, u60, u61, u62, u63, u64, u65, u66, u67, u68, u2, rfl, I, e0, e1, e2, e3, e4, e5, e6, e7, e8, e9, e10, e11, e12, e13, e14, e15, e16, e17, e18, e19, e20, e21⟩ hn hd
      simp at hd
      obtain rfl := e16 (by simp [hd])
      refine ⟨fun _ => ?_, fun hw => absurd (show (true : Bool) = false from hw) (by decide)⟩
      exact wp_val (.agg (A16 (0 :: 1 :: List.replicate 14 0))) (by kernel_rfl) ⟨u48, u49, u50, u51, u52, u53, u54, u55, u56, u57, u58, u59, u60, u61, u62, u63, _, _, u66, u67, u68, u2, rfl, I, e0, e1, e2, e3, e4, e5, e6, e7, e8, e9, e10, e11, e12, e13, e14, e15, e16, fun _ => rfl, e18, e19, e20, e21⟩
    · rintro d A W ⟨u48, u49, u50, u51, u52, u53, u54, u55, u56, u57, u58, u59, u60, u61, u62, u63, u64, u65, u66, u67, u68, u2, rfl, I, e0, e1, e2, e3, e4, e5, e6, e7, e8, e9, e10, e11, e12, e13, e14, e15, e16, e17, e18, e19, e20, e21⟩ hn hd
      simp at hd
      obtain rfl := e16 (by simp [hd])
      obtain rfl := e17 (by simp [hd])
      refine ⟨fun _ => ?_, fun hw => absurd (show (true : Bool) = false from hw) (by decide)⟩
      refine wp_call 22 #[.agg (A16 (0 :: 1 :: List.replicate 14 0))] (by kernel_rfl) _ (sum_impl _ _ hT rfl W) ?_
      rintro e W' ⟨rfl, hb1⟩
      exact ⟨_, rfl, u48, u49, u50, u51, u52, u53, u54, u55, u56, u57, u58, u59, u60, u61, u62, u63, _, _, _, u67, u68, u2, rfl, SC W W' I hb1, e0, e1, e2, e3, e4, e5, e6, e7, e8, e9, e10, e11, e12, e13, e14, e15, e16, e17, fun _ => by rw [two_sum], e19, e20, e21⟩
    · rintro d A W ⟨u48, u49, u50, u51, u52, u53, u54, u55, u56, u57, u58, u59, u60, u61, u62, u63, u64, u65, u66, u67, u68, u2, rfl, I, e0, e1, e2, e3, e4, e5, e6, e7, e8, e9, e10, e11, e12, e13, e14, e15, e16, e17, e18, e19, e20, e21⟩ hn hd
      simp at hd
      obtain rfl := e16 (by simp [hd])
      obtain rfl := e18 (by simp [hd])
      refine ⟨fun _ => ?_, fun hw => absurd (show (true : Bool) = false from hw) (by decide)⟩
      exact wp_eqlI _ _ rfl 2 2 rfl rfl ⟨u48, u49, u50, u51, u52, u53, u54, u55, u56, u57, u58, u59, u60, u61, u62, u63, _, u65, _, _, u68, u2, rfl, I, e0, e1, e2, e3, e4, e5, e6, e7, e8, e9, e10, e11, e12, e13, e14, e15, e16, e17, e18, fun _ => by simp, e20, e21⟩
    · rintro d A W ⟨u48, u49, u50, u51, u52, u53, u54, u55, u56, u57, u58, u59, u60, u61, u62, u63, u64, u65, u66, u67, u68, u2, rfl, I, e0, e1, e2, e3, e4, e5, e6, e7, e8, e9, e10, e11, e12, e13, e14, e15, e16, e17, e18, e19, e20, e21⟩ hn hd
      simp at hd
      obtain rfl := e16 (by simp [hd])
      obtain rfl := e19 (by simp [hd])
      refine ⟨fun _ => ?_, fun hw => absurd (show (true : Bool) = false from hw) (by decide)⟩
      exact wp_val _ rfl ⟨u48, u49, u50, u51, u52, u53, u54, u55, u56, u57, u58, u59, u60, u61, u62, u63, _, u65, u66, _, _, u2, rfl, I, e0, e1, e2, e3, e4, e5, e6, e7, e8, e9, e10, e11, e12, e13, e14, e15, e16, e17, e18, e19, fun _ => rfl, e21⟩
    · rintro d A W ⟨u48, u49, u50, u51, u52, u53, u54, u55, u56, u57, u58, u59, u60, u61, u62, u63, u64, u65, u66, u67, u68, u2, rfl, I, e0, e1, e2, e3, e4, e5, e6, e7, e8, e9, e10, e11, e12, e13, e14, e15, e16, e17, e18, e19, e20, e21⟩ hn hd
      simp at hd
      obtain rfl := e20 (by simp [hd])
      refine ⟨fun _ => ?_, fun hw => absurd (show (true : Bool) = false from hw) (by decide)⟩
      exact wp_val _ rfl ⟨u48, u49, u50, u51, u52, u53, u54, u55, u56, u57, u58, u59, u60, u61, u62, u63, u64, u65, u66, u67, _, _, rfl, I, e0, e1, e2, e3, e4, e5, e6, e7, e8, e9, e10, e11, e12, e13, e14, e15, e16, e17, e18, e19, e20, fun _ => rfl⟩
    · rintro d A W ⟨u48, u49, u50, u51, u52, u53, u54, u55, u56, u57, u58, u59, u60, u61, u62, u63, u64, u65, u66, u67, u68, u2, rfl, I, e0, e1, e2, e3, e4, e5, e6, e7, e8, e9, e10, e11, e12, e13, e14, e15, e16, e17, e18, e19, e20, e21⟩ hd
      obtain rfl := e21 (hd 21 (by decide))
      clear e0 e1 e2 e3 e4 e5 e6 e7 e8 e9 e10 e11 e12 e13 e14 e15 e16 e17 e18 e19 e20 e21 hd
      go_wp2
      go_ret
      exact ⟨rfl, I.2.2.2.2⟩

set_option maxRecDepth 100000 in
theorem lifted4 (os : Os) (started : os.Started) (H : Type) (enc : TypeId × Value → H) :
    ReturnsInHanded {} Try.checked os 4 .any (Rows.fnCellHurtSpec.pre6 enc Try.prog Try.f4 Rows.fnCellHurtRow.domain false) (Rows.fnCellHurtSpec.post enc Try.prog Try.f4 false true false false) := by
  refine returnsInHanded_of_change (C := Try.checked) own started (by kernel_rfl) Try.func4
    (ChangeSpec.witness6 (enc := enc) (C := Try.checked) false ⟨#[], #[.slice none 0 0], []⟩ 8 (by kernel_rfl) (by kernel_rfl) (by kernel_rfl) (by kernel_rfl)) ?_
  intro W base args ds gs before hval0 hW hcnd _
  have hval : ∀ (j : Nat) t v, Try.f4.params[j]? = some t → args[j]? = some v → Value.okWide Try.prog W .any base t v := hval0
  have hW' := hW
  obtain ⟨p, q, hA0, hV, rfl, hfz, hnd⟩ := hW
  have hA : DataW.TrodAll enc Try.prog W 0 (fun _ => true) true Try.f4.params.toList args.toList ds p := hA0
  rw [Try.params4] at hA hval
  obtain ⟨v0, vs0, d0, ds0, p0, q0, hargs, rfl, rfl, h0, rr0⟩ := trodAll_cons hA
  obtain ⟨rfl, rfl, rfl⟩ := trodAll_nil rr0
  obtain rfl : args = #[v0] := by cases args; simp_all
  obtain ⟨rfl, rfl⟩ := trodVars_none hV
  have lt0 : ∀ x ∈ p0, x.block < W.heap.size := by obtain ⟨m, hm⟩ := h0; exact DataW.trod_lt m _ _ _ hm
  obtain ⟨a0, len0, cap0, rfl⟩ := okWide_slice Try.underlying22 (hval 0 22 v0 rfl rfl)
  obtain ⟨z0, r0, wz0⟩ := openRow Try.underlying22 Try.underlying5 (by kernel_rfl) h0
  clear hA0 hval0
  refine (law4 _ z0 W r0 wz0).mono fun e W' ⟨he, bel⟩ => ?_
  subst he
  exact ⟨_, rfl, _, _, _, [], _, [], hW', trodAll_mk1 (shut_bool Try.underlying4 _), (trodAll_cons_mk (Below.trod laidOut (by kernel_rfl) (of_decide_eq_true (by kernel_rfl)) h0 bel lt0) trodAll_mk0), rfl, bel.frame _, fun h => by cases h⟩

theorem hurtProved : Rows.FnCellHurtSaid :=
  OpenClaim.holds_of_wide 4 Try.f4 rfl rfl rfl rfl rfl rfl rfl ⟨rfl, rfl, rfl, rfl, rfl⟩ rfl rfl rfl rfl rfl (by kernel_rfl) Try.func4 (by kernel_rfl)
    (of_decide_eq_true (by kernel_rfl)) (by unfold Func.isWrapper; first | (rw [if_pos (by decide +kernel)]; kernel_rfl) | (rw [if_neg (by decide +kernel)]; exact ⟨rfl, rfl⟩))
    (fun os started H enc _ => lifted4 os started H enc)
#print axioms hurtProved
end Go.Proofs.Ytadhiddnjhjioaa
