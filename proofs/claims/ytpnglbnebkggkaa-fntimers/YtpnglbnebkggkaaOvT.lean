/- Outcomes behind the timer; no condition. -/
import Derived.Test.YtpnglbnebkggkaaOvD
import Derived.Handy
namespace Go.Proofs.Ytpnglbnebkggkaa
open Go.RowKit Go.ChangeShapes Go.WideShapes Go.ChangeAt
set_option linter.unusedVariables false
set_option linter.unusedSimpArgs false
set_option maxRecDepth 8000
theorem as72_98 (v : Value) (w : World) : (Instr.typeAssert (.iface 72 v) 61 98 true).run Try.prog w = .ok (.tuple #[.agg #[], .bool false]) w := by kernel_rfl
theorem as98_98 (v : Value) (w : World) : (Instr.typeAssert (.iface 98 v) 61 98 true).run Try.prog w = .ok (.tuple #[v, .bool true]) w := by kernel_rfl
theorem as92_98 (v : Value) (w : World) : (Instr.typeAssert (.iface 92 v) 61 98 true).run Try.prog w = .ok (.tuple #[.agg #[], .bool false]) w := by kernel_rfl
theorem as93_98 (v : Value) (w : World) : (Instr.typeAssert (.iface 93 v) 61 98 true).run Try.prog w = .ok (.tuple #[.agg #[], .bool false]) w := by kernel_rfl
theorem as72_72 (v : Value) (w : World) : (Instr.typeAssert (.iface 72 v) 61 72 true).run Try.prog w = .ok (.tuple #[v, .bool true]) w := by kernel_rfl
theorem as101_92 (v : Value) (w : World) : (Instr.typeAssert (.iface 101 v) 61 92 true).run Try.prog w = .ok (.tuple #[.agg #[.int .i64 0], .bool false]) w := by kernel_rfl
theorem as101_93 (v : Value) (w : World) : (Instr.typeAssert (.iface 101 v) 61 93 true).run Try.prog w = .ok (.tuple #[.agg #[.int .i64 0], .bool false]) w := by kernel_rfl
theorem code92_c (w : World) : Calls Try.prog 92 #[.agg #[]] w fun e w' => e = .returned (.int .i64 4) ∧ Below w.heap.size w w' := by
  have HB : Hid (Below w.heap.size w (w.alloc (Obj.cells #[] 101))) := (Below.refl _ _).alloc (Nat.le_refl _) _
  go_enter Try.func92, Try.ntmps92
  go_wp2
  go_ret
  exact ⟨rfl, HB.out⟩
abbrev oLate : Value := .iface 101 (.agg #[])
set_option maxHeartbeats 3200000 in
theorem dial101_c (v : Value) (ls : Rls) (s : ByteArray) (w : World) (h : Rr w v ls) : Calls Try.prog 30 #[v, .string s, .iface 101 (.agg #[])] w fun e w' => e = .returned (.agg (D4 4 (-1) ⟨#[]⟩ (-1))) ∧ Below w.heap.size w w' := by
  obtain ⟨a, cap, rfl, -⟩ := h
  obtain ⟨W0, hW0⟩ : ∃ W0, w.alloc (Obj.cells (D4 0 0 ⟨#[]⟩ 0) 28) = W0 := ⟨_, rfl⟩
  have K0 : Hid (Below w.heap.size w W0 ∧ Blk W0 w.heap.size (D4 0 0 ⟨#[]⟩ 0) 28) := hW0 ▸ ⟨(Below.refl _ _).alloc (Nat.le_refl _) _, Blk.new _ _ _⟩
  have HW0 : Hid (w.alloc (Obj.cells (D4 0 0 ⟨#[]⟩ 0) 28) = W0) := hW0
  have a1 := as101_92 (.agg #[])
  have a2 := as101_93 (.agg #[])
  clear hW0
  go_enter Try.func30, Try.ntmps30
  go_wp2_with (fail)
  rw [HW0.out]
  refine (code92_c W0).mono ?_
  rintro e w1 ⟨rfl, b1⟩
  have K1 : Hid (Below w.heap.size w w1 ∧ Blk w1 w.heap.size (D4 0 0 ⟨#[]⟩ 0) 28) := ⟨belowCall K0.out.1 b1 K0.out.1.size, K0.out.2.below b1 K0.out.2.lt⟩
  clear b1 K0 HW0
  go_wp2_with (fail)
  refine (without_c 4 w1).mono ?_
  rintro e w9 ⟨rfl, b9⟩
  have K9 : Hid (Below w.heap.size w w9 ∧ Blk w9 w.heap.size (D4 0 0 ⟨#[]⟩ 0) 28) := ⟨belowCall K1.out.1 b9 K1.out.1.size, K1.out.2.below b9 K1.out.2.lt⟩
  clear b9 K1 a1 a2
  have HF : Hid (∀ W4, (((w9.setCell ⟨w.heap.size, 0, none⟩ (.int .i64 4)).setCell ⟨w.heap.size, 1, none⟩ (.int .i64 (-1))).setCell ⟨w.heap.size, 2, none⟩ (.string ⟨#[]⟩)).setCell ⟨w.heap.size, 3, none⟩ (.int .i64 (-1)) = W4 → Blk W4 w.heap.size (D4 4 (-1) ⟨#[]⟩ (-1)) 28 ∧ Below w.heap.size w W4) := finD K9.out.2 K9.out.1 (Nat.le_refl _) _ _ _ _
  have d0 := K9.out.2.cell 0
  have d1 := K9.out.2.cell 1
  have d2 := K9.out.2.cell 2
  have d3 := K9.out.2.cell 3
  have f0 := K9.out.2.frozen 0
  have f1 := K9.out.2.frozen 1
  have f2 := K9.out.2.frozen 2
  have f3 := K9.out.2.frozen 3
  simp at d0 d1 d2 d3
  clear K9
  go_wp2
  exact bodyPost_ret (v := .agg (D4 4 (-1) ⟨#[]⟩ (-1))) (results_cell_row rfl _ _ _ 28 _ (0, 0) _ rfl (HF.out _ rfl).1 Try.underlying28 rfl size28) rfl ⟨rfl, (HF.out _ rfl).2⟩
theorem fin72_c (w : World) : Calls Try.prog 41 #[.iface 72 (.agg #[])] w fun e w' => e = .returned (.bool false) ∧ Below w.heap.size w w' := by
  have a1 := as72_93 (.agg #[])
  have a2 := as72_98 (.agg #[])
  have HB : Hid (Below w.heap.size w w) := Below.refl _ _
  go_enter Try.func41, Try.ntmps41
  go_wp2
  go_ret
  exact ⟨rfl, HB.out⟩
theorem fin92_c (k : Int) (w : World) : Calls Try.prog 41 #[.iface 92 (.agg #[.int .i64 k])] w fun e w' => e = .returned (.bool false) ∧ Below w.heap.size w w' := by
  have a1 := as92_93 (.agg #[.int .i64 k])
  have a2 := as92_98 (.agg #[.int .i64 k])
  have HB : Hid (Below w.heap.size w w) := Below.refl _ _
  go_enter Try.func41, Try.ntmps41
  go_wp2
  go_ret
  exact ⟨rfl, HB.out⟩
theorem fin93_c (k : Int) (w : World) : Calls Try.prog 41 #[.iface 93 (.agg #[.int .i64 k])] w fun e w' => e = .returned (.bool true) ∧ Below w.heap.size w w' := by
  have a1 := as93_93 (.agg #[.int .i64 k])
  have a2 := as93_98 (.agg #[.int .i64 k])
  have HB : Hid (Below w.heap.size w w) := Below.refl _ _
  go_enter Try.func41, Try.ntmps41
  go_wp2
  go_ret
  exact ⟨rfl, HB.out⟩
theorem fin98_c (w : World) : Calls Try.prog 41 #[.iface 98 (.agg #[])] w fun e w' => e = .returned (.bool true) ∧ Below w.heap.size w w' := by
  have a1 := as98_93 (.agg #[])
  have a2 := as98_98 (.agg #[])
  have HB : Hid (Below w.heap.size w w) := Below.refl _ _
  go_enter Try.func41, Try.ntmps41
  go_wp2
  go_ret
  exact ⟨rfl, HB.out⟩
theorem after92_c (k : Int) (w : World) : Calls Try.prog 42 #[oMay k] w fun e w' => e = .returned (oDone k) ∧ Below w.heap.size w w' := by
  have a1 := as92_92 (.agg #[.int .i64 k])
  have HB : Hid (Below w.heap.size w (w.alloc (Obj.cells #[.int .i64 k] 92))) := (Below.refl _ _).alloc (Nat.le_refl _) _
  go_enter Try.func42, Try.ntmps42
  go_wp2
  go_ret
  exact ⟨rfl, HB.out⟩
theorem after72_c (w : World) : Calls Try.prog 42 #[oMore] w fun e w' => e = .returned oLate ∧ Below w.heap.size w w' := by
  have a1 := as72_92 (.agg #[])
  have a2 := as72_72 (.agg #[])
  have HB : Hid (Below w.heap.size w (w.alloc (Obj.cells #[] 72))) := (Below.refl _ _).alloc (Nat.le_refl _) _
  go_enter Try.func42, Try.ntmps42
  go_wp2
  go_ret
  exact ⟨rfl, HB.out⟩
/-- an outcome beside what is told of it -/
theorem out_told {ls : Rls} {s : ByteArray} {o : Value} (hok : RsOk ls) (hd : DgOk s) (ho : OutS ls s o) :
    (o = oMore ∧ DialS ls s (0, -1, ⟨#[]⟩, -1)) ∨ (o = oNone ∧ DialS ls s (3, -1, ⟨#[]⟩, -1)) ∨ ∃ k : Nat, ∃ hk : k < ls.length, ls[k].st ≤ s.size ∧ ((o = oDone k ∧ DialS ls s (2, ls[k].ro, numV ls[k] s, k)) ∨ (o = oMay k ∧ DialS ls s (1, ls[k].ro, numV ls[k] s, k))) := by
  have hru : ∀ k (hk : k < ls.length), ls[k].st ≤ ls[k].le := fun k hk => (hok.2 k hk hk).1.2.2.2.2.2.1.2
  rcases ho with ⟨h0, rfl⟩ | ⟨h0, ⟨hb, rfl⟩ | ⟨k, hk, hb, ⟨hm, rfl⟩ | ⟨hl, rfl⟩ | ⟨hl, rfl⟩ | ⟨hl, rfl⟩⟩⟩
  · obtain ⟨k, hk, e, -, hq⟩ := lfi_at (q := qF s) ls.length (Nat.le_refl _) h0
    have := hru k hk
    simp only [qF, Bool.and_eq_true, decide_eq_true_eq] at hq
    exact .inr (.inr ⟨k, hk, by omega, .inl ⟨by rw [e], .inr ⟨⟨hok, hd⟩, .inl ⟨h0, k, hk, e, rfl⟩⟩⟩⟩)
  · by_cases ha : ls.any (oB s) = true
    · rw [if_pos ha]
      exact .inl ⟨rfl, .inr ⟨⟨hok, hd⟩, .inr ⟨h0, .inl ⟨hb, by rw [if_pos ha]; rfl⟩⟩⟩⟩
    · rw [if_neg ha]
      exact .inr (.inl ⟨rfl, .inr ⟨⟨hok, hd⟩, .inr ⟨h0, .inl ⟨hb, by rw [if_neg ha]; rfl⟩⟩⟩⟩)
  · by_cases ha : ls.any (oB s) = true
    · rw [if_pos ha]
      exact .inl ⟨rfl, .inr ⟨⟨hok, hd⟩, .inr ⟨h0, .inr ⟨k, hk, hb, .inr (.inl ⟨hm, by rw [if_pos ha]; rfl⟩)⟩⟩⟩⟩
    · rw [if_neg ha]
      exact .inr (.inl ⟨rfl, .inr ⟨⟨hok, hd⟩, .inr ⟨h0, .inr ⟨k, hk, hb, .inr (.inl ⟨hm, by rw [if_neg ha]; rfl⟩)⟩⟩⟩⟩)
  · exact .inl ⟨rfl, .inr ⟨⟨hok, hd⟩, .inr ⟨h0, .inr ⟨k, hk, hb, .inl ⟨hl, rfl⟩⟩⟩⟩⟩
  · have := hru k hk
    exact .inr (.inr ⟨k, hk, by omega, .inl ⟨rfl, .inr ⟨⟨hok, hd⟩, .inr ⟨h0, .inr ⟨k, hk, hb, .inr (.inr (.inl ⟨hl, k, hk, rfl, rfl⟩))⟩⟩⟩⟩⟩)
  · have := hru k hk
    exact .inr (.inr ⟨k, hk, by omega, .inr ⟨rfl, .inr ⟨⟨hok, hd⟩, .inr ⟨h0, .inr ⟨k, hk, hb, .inr (.inr (.inr ⟨hl, k, hk, rfl, rfl⟩))⟩⟩⟩⟩⟩)
theorem results_28 {fn : Func} {p u : Tmp} (h : fn.results = #[.cell p 28, .tmp u]) (tmps : Array Value) (w : World) (g : Nat) (c r : Int) (nu : ByteArray) (k : Int) (x : Value)
    (hp : tmps.getD p undef = .pointer (some ⟨g, 0, none⟩)) (hx : tmps.getD u undef = x) (hg : Blk w g (D4 c r nu k) 28) :
    (results fn tmps).run Try.prog w = .ok (.tuple #[.agg (D4 c r nu k), x]) w := by
  have hp' : tmps[p]?.getD undef = .pointer (some ⟨g, 0, none⟩) := by simpa using hp
  have hx' : tmps[u]?.getD undef = x := by simpa using hx
  have hr := run_loadVar_row (P := Try.prog) w g 28 28 (D4 c r nu k) (0, 0) _ hg Try.underlying28 rfl size28
  simp [results, h, hp', hx', asAddr, hr]
def OvR (ls : Rls) (ps : Prs) (wt : Int) (w : World) (e : Ending) (w' : World) : Prop := ∃ (c r : Int) (nu : ByteArray) (k t : Int), e = .returned (.tuple #[.agg (D4 c r nu k), .int .i64 t]) ∧ OvS ls ps wt (c, r, nu, k) t ∧ Below w.heap.size w w'
end Go.Proofs.Ytpnglbnebkggkaa
