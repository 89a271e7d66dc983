/- Proved: at every two arrays of sixteen bytes FnExactCellXor returns true and leaves its arguments as they were (CellXor answers as its model does); no condition. -/
import Derived.Test.YtadhiddnjhjioaaXor
import Derived.Test.YtadhiddnjhjioaaReg
namespace Go.Proofs.Ytadhiddnjhjioaa
open Go.RowKit Go.ChangeShapes Go.WideShapes Go.ChangeAt
set_option linter.unusedVariables false
set_option linter.unusedSimpArgs false
def Inv2 (w : World) (a b : List Int) (W : World) : Prop := Blk W w.heap.size (A16 a) 29 ∧ Blk W (w.heap.size + 1) (A16 b) 29 ∧ Below w.heap.size w W ∧ w.heap.size + 2 ≤ W.heap.size
theorem Inv2.drew {w W : World} {a b : List Int} (h : Inv2 w a b W) : Inv2 w a b W.drew := ⟨h.1, h.2.1, h.2.2.1.drew, h.2.2.2⟩
theorem Inv2.call {w W W' : World} {a b : List Int} (h : Inv2 w a b W) (hb : Below W.heap.size W W') : Inv2 w a b W' :=
  have h4 := h.2.2.2
  have h5 := hb.size
  ⟨h.1.below hb (by omega), h.2.1.below hb (by omega), belowCall h.2.2.1 hb (by omega), by omega⟩
theorem Inv2.alloc {w W : World} {a b : List Int} (h : Inv2 w a b W) (o : Obj) : Inv2 w a b (W.alloc o) :=
  have h4 := h.2.2.2
  ⟨h.1.alloc _, h.2.1.alloc _, h.2.2.1.alloc (by omega) _, by simp; omega⟩
theorem Inv2.ld0 {w W : World} {a b : List Int} (ha : B16 a) (h : Inv2 w a b W) : (Instr.loadAt 29 (.pointer (some ⟨w.heap.size, 0, none⟩))).run Try.prog W = .ok (.agg (A16 a)) W := by
  simp only [Instr.loadAt, Instr.sureAddr, Sem.run_bind, Sem.run_pure, Result.andThen_ok, run_loadVar_row W _ 29 29 (A16 a) (0, 0) _ h.1 Try.underlying29 rfl (by rw [A16_size ha]; exact size29)]
theorem Inv2.ld1 {w W : World} {a b : List Int} (hb : B16 b) (h : Inv2 w a b W) : (Instr.loadAt 29 (.pointer (some ⟨w.heap.size + 1, 0, none⟩))).run Try.prog W = .ok (.agg (A16 b)) W := by
  simp only [Instr.loadAt, Instr.sureAddr, Sem.run_bind, Sem.run_pure, Result.andThen_ok, run_loadVar_row W _ 29 29 (A16 b) (0, 0) _ h.2.1 Try.underlying29 rfl (by rw [A16_size hb]; exact size29)]
theorem Inv2.row {w W : World} {a b : List Int} (h : Inv2 w a b W) (g : Nat) (hg : w.heap.size + 2 ≤ g) (cs : Array Value) : Inv2 w a b (W.setRow g cs) :=
  ⟨h.1.rowOther _ _ (by omega), h.2.1.rowOther _ _ (by omega), belowRow h.2.2.1 _ (by omega) _, by simp; exact h.2.2.2⟩

def J1 (w : World) (a b : List Int) (d : Nat → Bool) (A : Act) (W : World) : Prop := ∃ u5 u7 u8 u9 u10 u11 : Value, A = ⟨#[Value.agg (A16 a), Value.agg (A16 b), Value.pointer (some ⟨w.heap.size, 0, none⟩), Value.pointer (some ⟨w.heap.size + 1, 0, none⟩), Value.bool false, u5, undef, u7, u8, u9, u10, u11, undef, undef, undef, undef, undef, undef, undef, undef, undef], []⟩ ∧ Inv2 w a b W ∧
  (d 0 = true → u7 = .agg (A16 a)) ∧ (d 1 = true → u8 = .agg (A16 a)) ∧ (d 2 = true → u9 = .agg (A16 b)) ∧ (d 3 = true → u10 = .agg (A16 b)) ∧ (d 4 = true → u11 = .agg (A16 (xz a b 16))) ∧
  (d 6 = true → d 5 = true) ∧ (d 5 = true → ∃ g c, u5 = .pointer (some ⟨g, 0, none⟩) ∧ w.heap.size + 2 ≤ g ∧ Blk W g c 29 ∧ c.size = 16 ∧ (d 6 = true → c = A16 (xz a b 16)))

def J2 (w : World) (a b : List Int) (g5 : Nat) (d : Nat → Bool) (A : Act) (W : World) : Prop := ∃ u6 u12 u13 u14 u15 u16 : Value, A = ⟨#[Value.agg (A16 a), Value.agg (A16 b), Value.pointer (some ⟨w.heap.size, 0, none⟩), Value.pointer (some ⟨w.heap.size + 1, 0, none⟩), Value.bool false, Value.pointer (some ⟨g5, 0, none⟩), u6, Value.agg (A16 a), Value.agg (A16 a), Value.agg (A16 b), Value.agg (A16 b), Value.agg (A16 (xz a b 16)), u12, u13, u14, u15, u16, undef, undef, undef, undef], []⟩ ∧ Inv2 w a b W ∧ Blk W g5 (A16 (xz a b 16)) 29 ∧
  (d 0 = true → u12 = .agg (A16 a)) ∧ (d 1 = true → u13 = .agg (A16 a)) ∧ (d 2 = true → u14 = .agg (A16 b)) ∧ (d 3 = true → u15 = .agg (A16 b)) ∧ (d 4 = true → u16 = .agg (A16 (xz a b 16))) ∧
  (d 6 = true → d 5 = true) ∧ (d 5 = true → ∃ g c, u6 = .pointer (some ⟨g, 0, none⟩) ∧ w.heap.size + 2 ≤ g ∧ g5 ≠ g ∧ Blk W g c 29 ∧ c.size = 16 ∧ (d 6 = true → c = A16 (xz a b 16)))
set_option maxHeartbeats 800000 in
theorem law10 (a b : List Int) (ha : B16 a) (hb : B16 b) (w : World) :
   Calls Try.prog 10 #[.agg (A16 a), .agg (A16 b)] w fun e w' => e = .returned (.bool true) ∧ Below w.heap.size w w' := by
  have I0 : Inv2 w a b ((w.alloc (.cells (A16 a) 29)).alloc (.cells (A16 b) 29)) := ⟨(Blk.new _ _ _).alloc _, Blk.newAt _ _ _ _ (by simp), ((Below.refl _ _).alloc (Nat.le_refl _) _).alloc (by simp) _, by simp⟩
  have hx := xz_B16 b ha 16
  have hs16 := A16_size hx
  go_enter Try.func10, Try.ntmps10
  go_wp2
  refine region_inv (by kernel_rfl) (by kernel_rfl) (J1 w a b) ⟨_, _, _, _, _, _, rfl, I0.drew, by simp, by simp, by simp, by simp, by simp, by simp, by simp⟩ ⟨?_, ?_, ?_, ?_, ?_, ?_, ?_, trivial⟩ ?_
  · rintro d A W ⟨u5, u7, u8, u9, u10, u11, rfl, I, e0, e1, e2, e3, e4, e6, e5⟩ hn hd
    refine wp_load_row 29 _ rfl _ rfl 29 (A16 a) (0, 0) _ I.1 Try.underlying29 rfl (by rw [A16_size ha]; exact size29) ?_
    exact ⟨u5, .agg (A16 a), u8, u9, u10, u11, rfl, I, fun _ => rfl, e1, e2, e3, e4, e6, e5⟩
  · rintro d A W ⟨u5, u7, u8, u9, u10, u11, rfl, I, e0, e1, e2, e3, e4, e6, e5⟩ hn hd
    obtain rfl := e0 (hd _ (List.mem_cons_self ..))
    refine wp_call 41 #[.agg (A16 a)] (by kernel_rfl) _ (to16 a ha W) ?_
    rintro e W' ⟨rfl, hb1⟩
    exact ⟨_, rfl, u5, _, .agg (A16 a), u9, u10, u11, rfl, I.call hb1, e0, fun _ => rfl, e2, e3, e4, e6, fun h => by obtain ⟨g, c, h1, h2, h3, h4⟩ := e5 h; exact ⟨g, c, h1, h2, h3.below hb1 h3.lt, h4⟩⟩
  · rintro d A W ⟨u5, u7, u8, u9, u10, u11, rfl, I, e0, e1, e2, e3, e4, e6, e5⟩ hn hd
    refine wp_load_row 29 _ rfl _ rfl 29 (A16 b) (0, 0) _ I.2.1 Try.underlying29 rfl (by rw [A16_size hb]; exact size29) ?_
    exact ⟨u5, u7, u8, .agg (A16 b), u10, u11, rfl, I, e0, e1, fun _ => rfl, e3, e4, e6, e5⟩
  · rintro d A W ⟨u5, u7, u8, u9, u10, u11, rfl, I, e0, e1, e2, e3, e4, e6, e5⟩ hn hd
    obtain rfl := e2 (hd _ (List.mem_cons_self ..))
    refine wp_call 41 #[.agg (A16 b)] (by kernel_rfl) _ (to16 b hb W) ?_
    rintro e W' ⟨rfl, hb1⟩
    exact ⟨_, rfl, u5, u7, u8, _, .agg (A16 b), u11, rfl, I.call hb1, e0, e1, e2, fun _ => rfl, e4, e6, fun h => by obtain ⟨g, c, h1, h2, h3, h4⟩ := e5 h; exact ⟨g, c, h1, h2, h3.below hb1 h3.lt, h4⟩⟩
  · rintro d A W ⟨u5, u7, u8, u9, u10, u11, rfl, I, e0, e1, e2, e3, e4, e6, e5⟩ hn hd
    obtain rfl := e1 (hd ⟨0 + 1, .data⟩ (by simp))
    obtain rfl := e3 (hd ⟨3, .data⟩ (by simp))
    refine wp_call 42 #[.agg (A16 a), .agg (A16 b)] (by kernel_rfl) _ (xor_spec a b ha hb W) ?_
    rintro e W' ⟨rfl, hb1⟩
    exact ⟨_, rfl, u5, u7, _, u9, _, .agg (A16 (xz a b 16)), rfl, I.call hb1, e0, e1, e2, e3, fun _ => rfl, e6, fun h => by obtain ⟨g, c, h1, h2, h3, h4⟩ := e5 h; exact ⟨g, c, h1, h2, h3.below hb1 h3.lt, h4⟩⟩
  · rintro d A W ⟨u5, u7, u8, u9, u10, u11, rfl, I, e0, e1, e2, e3, e4, e6, e5⟩ hn hd
    refine wp_val (w' := W.alloc (.cells (cp a 0) 29)) (.pointer (some ⟨W.heap.size, 0, none⟩)) (by rw [cp_zero]; rfl) ?_
    exact ⟨.pointer (some ⟨W.heap.size, 0, none⟩), u7, u8, u9, u10, u11, rfl, I.alloc _, e0, e1, e2, e3, e4, fun _ => rfl, fun h => ⟨_, _, rfl, I.2.2.2, Blk.new _ _ _, cp_size ha 0 (by omega), fun h6 => absurd (e6 h6) (by rw [hn]; simp)⟩⟩
  · rintro d A W ⟨u5, u7, u8, u9, u10, u11, rfl, I, e0, e1, e2, e3, e4, e6, e5⟩ hn hd
    obtain ⟨g, c, rfl, h2, h3, h4, _⟩ := e5 (hd ⟨5, .data⟩ (by simp))
    obtain rfl := e4 (hd ⟨4, .data⟩ (by simp))
    refine wp_store_row 29 _ _ rfl g (A16 (xz a b 16)) rfl rfl 29 c h3 (by rw [A16_size hx]; exact size29) (by rw [A16_size hx]; exact h4) (by simp [A16, Value.oneCell']) ?_
    exact ⟨_, u7, u8, u9, u10, _, rfl, I.row _ h2 _, e0, e1, e2, e3, e4, fun _ => hd ⟨5, .data⟩ (by simp), fun _ => ⟨g, _, rfl, h2, h3.row _, A16_size hx, fun _ => rfl⟩⟩
  · rintro d A W ⟨u5, u7, u8, u9, u10, u11, rfl, I, e0, e1, e2, e3, e4, e6, e5⟩ hd
    obtain rfl := e0 (hd 0 (by decide))
    obtain rfl := e1 (hd 1 (by decide))
    obtain rfl := e2 (hd 2 (by decide))
    obtain rfl := e3 (hd 3 (by decide))
    obtain rfl := e4 (hd 4 (by decide))
    obtain ⟨g5, c, rfl, h2, h3, h4, h5⟩ := e5 (hd 5 (by decide))
    obtain rfl := h5 (hd 6 (by decide))
    clear e0 e1 e2 e3 e4 e5 e6 hd h5 I0
    go_wp2
    refine region_inv (by kernel_rfl) (by kernel_rfl) (J2 w a b g5) ⟨_, _, _, _, _, _, rfl, I.drew, h3, by simp, by simp, by simp, by simp, by simp, by simp, by simp⟩ ⟨?_, ?_, ?_, ?_, ?_, ?_, ?_, trivial⟩ ?_
    · rintro d A W ⟨u6, u12, u13, u14, u15, u16, rfl, I, x, e0, e1, e2, e3, e4, e6, e5⟩ hn hd
      refine wp_load_row 29 _ rfl _ rfl 29 (A16 a) (0, 0) _ I.1 Try.underlying29 rfl (by rw [A16_size ha]; exact size29) ?_
      exact ⟨u6, .agg (A16 a), u13, u14, u15, u16, rfl, I, x, fun _ => rfl, e1, e2, e3, e4, e6, e5⟩
    · rintro d A W ⟨u6, u12, u13, u14, u15, u16, rfl, I, x, e0, e1, e2, e3, e4, e6, e5⟩ hn hd
      obtain rfl := e0 (hd _ (List.mem_cons_self ..))
      refine wp_call 41 #[.agg (A16 a)] (by kernel_rfl) _ (to16 a ha W) ?_
      rintro e W' ⟨rfl, hb1⟩
      exact ⟨_, rfl, u6, _, .agg (A16 a), u14, u15, u16, rfl, I.call hb1, x.below hb1 x.lt, e0, fun _ => rfl, e2, e3, e4, e6, fun h => by obtain ⟨g, c, h1, h2, h2', h3, h4⟩ := e5 h; exact ⟨g, c, h1, h2, h2', h3.below hb1 h3.lt, h4⟩⟩
    · rintro d A W ⟨u6, u12, u13, u14, u15, u16, rfl, I, x, e0, e1, e2, e3, e4, e6, e5⟩ hn hd
      refine wp_load_row 29 _ rfl _ rfl 29 (A16 b) (0, 0) _ I.2.1 Try.underlying29 rfl (by rw [A16_size hb]; exact size29) ?_
      exact ⟨u6, u12, u13, .agg (A16 b), u15, u16, rfl, I, x, e0, e1, fun _ => rfl, e3, e4, e6, e5⟩
    · rintro d A W ⟨u6, u12, u13, u14, u15, u16, rfl, I, x, e0, e1, e2, e3, e4, e6, e5⟩ hn hd
      obtain rfl := e2 (hd _ (List.mem_cons_self ..))
      refine wp_call 41 #[.agg (A16 b)] (by kernel_rfl) _ (to16 b hb W) ?_
      rintro e W' ⟨rfl, hb1⟩
      exact ⟨_, rfl, u6, u12, u13, _, .agg (A16 b), u16, rfl, I.call hb1, x.below hb1 x.lt, e0, e1, e2, fun _ => rfl, e4, e6, fun h => by obtain ⟨g, c, h1, h2, h2', h3, h4⟩ := e5 h; exact ⟨g, c, h1, h2, h2', h3.below hb1 h3.lt, h4⟩⟩
    · rintro d A W ⟨u6, u12, u13, u14, u15, u16, rfl, I, x, e0, e1, e2, e3, e4, e6, e5⟩ hn hd
      obtain rfl := e1 (hd ⟨0 + 1, .data⟩ (by simp))
      obtain rfl := e3 (hd ⟨3, .data⟩ (by simp))
      refine wp_call 20 #[.agg (A16 a), .agg (A16 b)] (by kernel_rfl) _ (xor_impl a b ha hb W) ?_
      rintro e W' ⟨rfl, hb1⟩
      exact ⟨_, rfl, u6, u12, _, u14, _, .agg (A16 (xz a b 16)), rfl, I.call hb1, x.below hb1 x.lt, e0, e1, e2, e3, fun _ => rfl, e6, fun h => by obtain ⟨g, c, h1, h2, h2', h3, h4⟩ := e5 h; exact ⟨g, c, h1, h2, h2', h3.below hb1 h3.lt, h4⟩⟩
    · rintro d A W ⟨u6, u12, u13, u14, u15, u16, rfl, I, x, e0, e1, e2, e3, e4, e6, e5⟩ hn hd
      refine wp_val (w' := W.alloc (.cells (cp a 0) 29)) (.pointer (some ⟨W.heap.size, 0, none⟩)) (by rw [cp_zero]; rfl) ?_
      exact ⟨.pointer (some ⟨W.heap.size, 0, none⟩), u12, u13, u14, u15, u16, rfl, I.alloc _, x.alloc _, e0, e1, e2, e3, e4, fun _ => rfl, fun h => ⟨_, _, rfl, I.2.2.2, Nat.ne_of_lt x.lt, Blk.new _ _ _, cp_size ha 0 (by omega), fun h6 => absurd (e6 h6) (by rw [hn]; simp)⟩⟩
    · rintro d A W ⟨u6, u12, u13, u14, u15, u16, rfl, I, x, e0, e1, e2, e3, e4, e6, e5⟩ hn hd
      obtain ⟨g, c, rfl, h2, h2', h3, h4, _⟩ := e5 (hd ⟨5, .data⟩ (by simp))
      obtain rfl := e4 (hd ⟨4, .data⟩ (by simp))
      refine wp_store_row 29 _ _ rfl g (A16 (xz a b 16)) rfl rfl 29 c h3 (by rw [A16_size hx]; exact size29) (by rw [A16_size hx]; exact h4) (by simp [A16, Value.oneCell']) ?_
      exact ⟨_, u12, u13, u14, u15, _, rfl, I.row _ h2 _, x.rowOther _ _ h2', e0, e1, e2, e3, e4, fun _ => hd ⟨5, .data⟩ (by simp), fun _ => ⟨g, _, rfl, h2, h2', h3.row _, A16_size hx, fun _ => rfl⟩⟩
    · rintro d A W2 ⟨u6, u12, u13, u14, u15, u16, rfl, I2, x, e0, e1, e2, e3, e4, e6, e5⟩ hd
      obtain rfl := e0 (hd 0 (by decide))
      obtain rfl := e1 (hd 1 (by decide))
      obtain rfl := e2 (hd 2 (by decide))
      obtain rfl := e3 (hd 3 (by decide))
      obtain rfl := e4 (hd 4 (by decide))
      obtain ⟨g6, c, rfl, k2, k2', k3, k4, k5⟩ := e5 (hd 5 (by decide))
      obtain rfl := k5 (hd 6 (by decide))
      clear e0 e1 e2 e3 e4 e5 e6 hd k5
      go_wp2_with (first | refine ld29 rfl _ rfl g6 rfl 29 (A16 (xz a b 16)) (0, 0) k3 hs16 ?_ | refine ld29 rfl _ rfl g5 rfl 29 (A16 (xz a b 16)) (0, 0) x hs16 ?_)
      refine (eq_16 _ _ hx hx _).mono ?_
      rintro e W3 ⟨rfl, hb3⟩
      have heq : eq16 (xz a b 16) (xz a b 16) = true := by simp [eq16]
      rw [heq]
      go_wp2
      go_ret
      exact ⟨rfl, belowCall I2.2.2.1 hb3 (by have := I2.2.2.2; omega)⟩
set_option maxRecDepth 100000 in
theorem lifted10 (os : Os) (started : os.Started) (H : Type) (enc : TypeId × Value → H) :
    ReturnsInHanded {} Try.checked os 10 .any (Rows.fnExactCellXorSpec.pre6 enc Try.prog Try.f10 Rows.fnExactCellXorRow.domain false) (Rows.fnExactCellXorSpec.post enc Try.prog Try.f10 false true false false) := by
  refine returnsInHanded_of_change (C := Try.checked) own started (by kernel_rfl) Try.func10
    (ChangeSpec.witness6 (enc := enc) (C := Try.checked) false ⟨#[], #[.agg (A16 (List.replicate 16 0)), .agg (A16 (List.replicate 16 0))], []⟩ 8 (by kernel_rfl) (by kernel_rfl) (by kernel_rfl) (by kernel_rfl)) ?_
  intro W base args ds gs before hval0 hW hcnd _
  have hval : ∀ (j : Nat) t v, Try.f10.params[j]? = some t → args[j]? = some v → Value.okWide Try.prog W .any base t v := hval0
  have hW' := hW
  obtain ⟨p, q, hA0, hV, rfl, hfz, hnd⟩ := hW
  have hA : DataW.TrodAll enc Try.prog W 0 (fun _ => true) true Try.f10.params.toList args.toList ds p := hA0
  rw [Try.params10] at hA hval
  obtain ⟨v0, vs0, d0, ds0, p0, q0, hargs, rfl, rfl, h0, rr0⟩ := trodAll_cons hA
  obtain ⟨v1, vs1, d1, ds1, p1, q1, rfl, rfl, rfl, h1, rr1⟩ := trodAll_cons rr0
  obtain ⟨rfl, rfl, rfl⟩ := trodAll_nil rr1
  obtain rfl : args = #[v0, v1] := by cases args; simp_all
  obtain ⟨rfl, rfl⟩ := trodVars_none hV
  have lt0 : ∀ x ∈ p0, x.block < W.heap.size := by obtain ⟨m, hm⟩ := h0; exact DataW.trod_lt m _ _ _ hm
  have lt1 : ∀ x ∈ p1, x.block < W.heap.size := by obtain ⟨m, hm⟩ := h1; exact DataW.trod_lt m _ _ _ hm
  obtain ⟨z0, hz0, rfl⟩ := open16 (hval 0 29 v0 rfl rfl) h0
  obtain ⟨z1, hz1, rfl⟩ := open16 (hval 1 29 v1 rfl rfl) h1
  clear hA0 hval0
  refine (law10 z0 z1 hz0 hz1 W).mono fun e W' ⟨he, bel⟩ => ?_
  subst he
  exact ⟨_, rfl, _, _, _, [], _, [], hW', trodAll_mk1 (shut_bool Try.underlying4 _), (trodAll_cons_mk (Below.trod laidOut (by kernel_rfl) (of_decide_eq_true (by kernel_rfl)) h0 bel lt0) (trodAll_cons_mk (Below.trod laidOut (by kernel_rfl) (of_decide_eq_true (by kernel_rfl)) h1 bel lt1) trodAll_mk0)), rfl, bel.frame _, fun h => by cases h⟩

theorem cellXorProved : Rows.FnExactCellXorSaid :=
  OpenClaim.holds_of_wide 10 Try.f10 rfl rfl rfl rfl rfl rfl rfl ⟨rfl, rfl, rfl, rfl, rfl⟩ rfl rfl rfl rfl rfl (by kernel_rfl) Try.func10 (by kernel_rfl)
    (of_decide_eq_true (by kernel_rfl)) (by unfold Func.isWrapper; first | (rw [if_pos (by decide +kernel)]; kernel_rfl) | (rw [if_neg (by decide +kernel)]; exact ⟨rfl, rfl⟩))
    (fun os started H enc _ => lifted10 os started H enc)
#print axioms cellXorProved
end Go.Proofs.Ytadhiddnjhjioaa
