/- Beginnings, copies of texts, what is told; no condition. -/
import Derived.Test.YtpnglbnebkggkaaRsI
import Derived.Shelf.LaysM
import Derived.Shelf.Strconv.Clone
namespace Go.Proofs.Ytpnglbnebkggkaa
open Go.RowKit Go.ChangeShapes Go.WideShapes Go.ChangeAt
set_option linter.unusedVariables false
set_option linter.unusedSimpArgs false
set_option maxRecDepth 8000
/-- t is the beginning of s, as both sides ask it -/
def begB (s t : ByteArray) : Bool := decide (t.size ≤ s.size) && ((s.extract 0 t.size).toList == t.toList)
theorem l4Begins_c (s t : ByteArray) (w : World) (hs : s.size ≤ 1048576) (ht : t.size ≤ 1048576) : Calls Try.prog 34 #[.string s, .string t] w fun e w' => e = .returned (.bool (begB s t)) ∧ w' = w := by
  by_cases hn : t.size ≤ s.size
  · have h : (t.size : Int) ≤ (s.size : Int) := by omega
    have e : begB s t = ((s.extract 0 t.size).toList == t.toList) := by rw [begB, decide_eq_true hn, Bool.true_and]
    rw [e]
    clear e
    go_enter Try.func34, Try.ntmps34
    go_wp2
    go_ret
    exact ⟨rfl, rfl⟩
  · have h : ¬ ((t.size : Int) ≤ (s.size : Int)) := by omega
    have e : begB s t = false := by rw [begB, decide_eq_false hn, Bool.false_and]
    rw [e]
    clear e
    go_enter Try.func34, Try.ntmps34
    go_wp2
    go_ret
    exact ⟨rfl, rfl⟩
theorem hasPrefix_s (s t : ByteArray) (w : World) (hs : s.size ≤ 1048576) (ht : t.size ≤ 1048576) : Calls Try.prog 72 #[.string s, .string t] w fun e w' => e = .returned (.bool (begB s t)) ∧ w' = w := by
  by_cases hn : t.size ≤ s.size
  · have h : (t.size : Int) ≤ (s.size : Int) := by omega
    have e : begB s t = ((s.extract 0 t.size).toList == t.toList) := by rw [begB, decide_eq_true hn, Bool.true_and]
    rw [e]
    clear e
    go_enter Try.func72, Try.ntmps72
    go_wp2
    go_ret
    exact ⟨rfl, rfl⟩
  · have h : ¬ ((t.size : Int) ≤ (s.size : Int)) := by omega
    have e : begB s t = false := by rw [begB, decide_eq_false hn, Bool.false_and]
    rw [e]
    clear e
    go_enter Try.func72, Try.ntmps72
    go_wp2
    go_ret
    exact ⟨rfl, rfl⟩
theorem hasPrefix_c (s t : ByteArray) (w : World) (hs : s.size ≤ 1048576) (ht : t.size ≤ 1048576) : Calls Try.prog 69 #[.string s, .string t] w fun e w' => e = .returned (.bool (begB s t)) ∧ w' = w := by
  go_enter Try.func69, Try.ntmps69
  go_wp2_with (fail)
  refine (hasPrefix_s s t w hs ht).mono ?_
  rintro e w2 ⟨rfl, hw2⟩
  obtain rfl : w = w2 := hw2.symm
  go_wp2
  go_ret
  exact ⟨rfl, rfl⟩
/-- the numbers of the library's function and types, for its contract -/
def renC : Go.Shelf.Ren := ⟨fun | 316 => 68 | n => n, fun | 9 => 9 | 3 => 3 | 4 => 4 | 37 => 22 | 0 => 0 | 127 => 107 | 5 => 5 | n => n, fun | n => n⟩
theorem laysC : Go.Proofs.LaysM.n316 Try.prog renC := {
  mixed := by kernel_rfl
  f316 := Try.func68.trans (congrArg some (by kernel_rfl))
  t0 := Try.underlying0
  a0 := Try.isAgg0
  z0 := Try.sizeOf0
  v0 := Try.zeroValue0
  t3 := Try.underlying3
  a3 := Try.isAgg3
  z3 := Try.sizeOf3
  v3 := Try.zeroValue3
  t4 := Try.underlying4
  a4 := Try.isAgg4
  z4 := Try.sizeOf4
  v4 := Try.zeroValue4
  t9 := Try.underlying9
  a9 := Try.isAgg9
  z9 := Try.sizeOf9
  v9 := Try.zeroValue9
  t37 := Try.underlying22
  a37 := Try.isAgg22
  z37 := Try.sizeOf22
  v37 := Try.zeroValue22
  t127 := Try.underlying107
  a127 := Try.isAgg107
  z127 := Try.sizeOf107
  v127 := Try.zeroValue107
  t5 := Try.underlying5
  a5 := Try.isAgg5
  z5 := Try.sizeOf5
  v5 := Try.zeroValue5
  i0 := by kernel_rfl
  i3 := by kernel_rfl
  i4 := by kernel_rfl
  i5 := by kernel_rfl
  i9 := by kernel_rfl
  i37 := by kernel_rfl
  i127 := by kernel_rfl }
theorem clone_s (s : ByteArray) (w : World) (hs : s.size ≤ 281474976710656) : Calls Try.prog 68 #[.string s] w fun e w' => e = .returned (.string s) ∧ Below w.heap.size w w' := Any.stringslite_Clone laysC s w hs
theorem clone_c (s : ByteArray) (w : World) (hs : s.size ≤ 281474976710656) : Calls Try.prog 56 #[.string s] w fun e w' => e = .returned (.string s) ∧ Below w.heap.size w w' := by
  go_enter Try.func56, Try.ntmps56
  go_wp2_with (fail)
  refine (clone_s s w hs).mono ?_
  rintro e w2 ⟨rfl, b2⟩
  have HB : Hid (Below w.heap.size w w2) := b2
  clear b2
  go_wp2
  go_ret
  exact ⟨rfl, HB.out⟩
abbrev D4 (c r : Int) (nu : ByteArray) (k : Int) : Array Value := #[.int .i64 c, .int .i64 r, .string nu, .int .i64 k]
theorem size28 : (Try.prog.info? 28).map (·.size) = some 4 := by kernel_rfl
theorem none_c (c : Int) (w : World) : Calls Try.prog 33 #[.int .i64 c] w fun e w' => e = .returned (.agg (D4 c (-1) ⟨#[]⟩ (-1))) ∧ Below w.heap.size w w' := by
  go_enter Try.func33, Try.ntmps33
  go_wp2
  exact bodyPost_ret (v := .agg (D4 c (-1) ⟨#[]⟩ (-1))) (results_cell_row rfl _ _ _ 28 _ (0, 0) _ rfl (Blk.new _ _ _) Try.underlying28 rfl size28) rfl ⟨rfl, (Below.refl _ _).alloc (Nat.le_refl _) _⟩
theorem without_c (c : Int) (w : World) : Calls Try.prog 29 #[.int .i64 c] w fun e w' => e = .returned (.agg (D4 c (-1) ⟨#[]⟩ (-1))) ∧ Below w.heap.size w w' := by
  go_enter Try.func29, Try.ntmps29
  go_wp2
  exact bodyPost_ret (v := .agg (D4 c (-1) ⟨#[]⟩ (-1))) (results_cell_row rfl _ _ _ 28 _ (0, 0) _ rfl (Blk.new _ _ _) Try.underlying28 rfl size28) rfl ⟨rfl, (Below.refl _ _).alloc (Nat.le_refl _) _⟩
theorem eqDialled_t (c r : Int) (nu : ByteArray) (k : Int) (w : World) : Calls Try.prog 21 #[.agg (D4 c r nu k), .agg (D4 c r nu k)] w fun e w' => e = .returned (.bool true) ∧ Below w.heap.size w w' := by
  have HB : Hid (Below w.heap.size w ((w.alloc (Obj.cells (D4 c r nu k) 28)).alloc (Obj.cells (D4 c r nu k) 28))) := ((Below.refl _ _).alloc (Nat.le_refl _) _).alloc (by simp) _
  have g1 : (nu.toList != nu.toList) = false := by simp
  have g3 : (c != c) = false := by simp
  have g4 : (r != r) = false := by simp
  have g5 : (k != k) = false := by simp
  go_enter Try.func21, Try.ntmps21
  go_wp2
  go_ret
  exact ⟨rfl, HB.out⟩
/-- what is told is stored into its place -/
theorem finD {w W : World} {g : Nat} {a b : Int} {u : ByteArray} {d : Int} (h : Blk W g (D4 a b u d) 28) (hb : Below w.heap.size w W) (hg : w.heap.size ≤ g) (c r : Int) (nu : ByteArray) (k : Int) : ∀ W4, (((W.setCell ⟨g, 0, none⟩ (.int .i64 c)).setCell ⟨g, 1, none⟩ (.int .i64 r)).setCell ⟨g, 2, none⟩ (.string nu)).setCell ⟨g, 3, none⟩ (.int .i64 k) = W4 → Blk W4 g (D4 c r nu k) 28 ∧ Below w.heap.size w W4 := by
  rintro _ rfl
  refine ⟨?_, (((hb.setCell hg _).setCell hg _).setCell hg _).setCell hg _⟩
  have := (((h.set 0 (.int .i64 c)).set 1 (.int .i64 r)).set 2 (.string nu)).set 3 (.int .i64 k)
  simpa using this
/-- where a text is cut from a place on, another one ahead -/
def numV (r : Rl) (s : ByteArray) : ByteArray := r.ad ++ s.extract r.st.toNat s.size
set_option maxHeartbeats 3200000 in
theorem of_c (v : Value) (ls : Rls) (c : Int) (k : Nat) (s : ByteArray) (w : World) (h : Rr w v ls) (hk : k < ls.length) (h0 : 0 ≤ ls[k].st) (h1 : ls[k].st ≤ s.size) (hs : s.size ≤ 1048576) (ha : ls[k].ad.size ≤ 1048576) :
   Calls Try.prog 36 #[v, .int .i64 c, .int .i64 (k : Int), .string s] w fun e w' => e = .returned (.agg (D4 c ls[k].ro (numV ls[k] s) k)) ∧ Below w.heap.size w w' := by
  obtain ⟨a, cap, rfl, h1', h2', h3⟩ := h
  unfold maxLen at h2'
  rcases h3 with h3 | ⟨b, off, rfl, h4⟩
  · subst h3; simp at hk
  have hc := h4 k hk
  have hcb : b < w.heap.size := block_lt_of_cell hc.1
  obtain ⟨r, hr⟩ : ∃ r, ls[k] = r := ⟨_, rfl⟩
  rw [hr] at hc h0 h1 ha ⊢
  obtain ⟨e0, e1, e2, e3, e4, e5⟩ := hc
  clear h4 hr
  have hkI : (k : Int) < (ls.length : Int) := by omega
  obtain ⟨st, hst⟩ : ∃ st : Nat, r.st = st := ⟨r.st.toNat, by omega⟩
  have hnv : numV r s = r.ad ++ s.extract st s.size := by rw [numV, hst]; rfl
  rw [hst] at e4 h1
  have hs1 : st ≤ s.size := by omega
  obtain ⟨W2, hW2⟩ : ∃ W2, (w.alloc (Obj.cells (D4 0 0 ⟨#[]⟩ 0) 28)).alloc (Obj.cells #[.string r.pre, .int .i64 r.le, .int .i64 r.mo, .int .i64 r.ro, .int .i64 (st : Int), .string r.ad] 31) = W2 := ⟨_, rfl⟩
  have B2 : Hid (Below w.heap.size w W2) := hW2 ▸ ((Below.refl _ _).alloc (Nat.le_refl _) _).alloc (by simp) _
  have K0 : Hid (Blk W2 w.heap.size (D4 0 0 ⟨#[]⟩ 0) 28) := hW2 ▸ (Blk.new _ _ _).alloc _
  have K1 : Hid (Blk W2 (w.heap.size + 1) #[.string r.pre, .int .i64 r.le, .int .i64 r.mo, .int .i64 r.ro, .int .i64 (st : Int), .string r.ad] 31) := hW2 ▸ Blk.newAt _ _ _ _ (by simp)
  have HW2 : Hid ((w.alloc (Obj.cells (D4 0 0 ⟨#[]⟩ 0) 28)).alloc (Obj.cells #[.string r.pre, .int .i64 r.le, .int .i64 r.mo, .int .i64 r.ro, .int .i64 (st : Int), .string r.ad] 31) = W2) := hW2
  have HNV : Hid (numV r s = r.ad ++ s.extract st s.size) := hnv
  obtain ⟨S, hS⟩ : ∃ S : World → Prop, ∀ W, S W ↔ Blk W (w.heap.size + 1) #[.string r.pre, .int .i64 r.le, .int .i64 r.mo, .int .i64 r.ro, .int .i64 (st : Int), .string r.ad] 31 := ⟨_, fun _ => Iff.rfl⟩
  have y3 : ∀ W : At S, W.wd.cell? ⟨w.heap.size + 1, 3, none⟩ = some (.int .i64 r.ro) := fun W => ((hS _).1 W.ok).cell 3
  have y4 : ∀ W : At S, W.wd.cell? ⟨w.heap.size + 1, 4, none⟩ = some (.int .i64 (st : Int)) := fun W => ((hS _).1 W.ok).cell 4
  have y5 : ∀ W : At S, W.wd.cell? ⟨w.heap.size + 1, 5, none⟩ = some (.string r.ad) := fun W => ((hS _).1 W.ok).cell 5
  have HSD : Hid (S W2.drew) := (hS _).2 K1.out
  have ne1 : Nonempty (At S) := ⟨⟨_, HSD.out⟩⟩
  have hstI : (st : Int) ≤ (s.size : Int) := by omega
  clear hnv hW2 hS hst
  go_enter Try.func36, Try.ntmps36
  go_wp2
  rw [HW2.out]
  refine region_mixA [true, true, true, true, true, true, true, true, true, true, true, true, false] 12 0 S (by kernel_rfl) rfl (by kernel_rfl) (fun _ _ _ _ _ h => h) HSD.out ?_
  simp only [selT, selF]
  repeat (go_big_quiet_step (fail))
  refine wpQuiet_nil ?_
  refine tail_end ?_
  have k0 : Blk W2.drew w.heap.size (D4 0 0 ⟨#[]⟩ 0) 28 := K0.out
  have b2 : Below w.heap.size w W2.drew := B2.out.drew
  obtain ⟨W3, hW3⟩ : ∃ W3, W2.drew = W3 := ⟨_, rfl⟩
  rw [hW3] at k0 b2 ⊢
  have K3 : Hid (Blk W3 w.heap.size (D4 0 0 ⟨#[]⟩ 0) 28) := k0
  have B3 : Hid (Below w.heap.size w W3) := b2
  have d0 := k0.cell 0
  have d1 := k0.cell 1
  have d2 := k0.cell 2
  have d3 := k0.cell 3
  have f0 := k0.frozen 0
  have f1 := k0.frozen 1
  have f2 := k0.frozen 2
  have f3 := k0.frozen 3
  simp at d0 d1 d2 d3
  clear hW3 y3 y4 y5 ne1 HSD S K0 K1 B2 HW2 k0 b2
  have HF : Hid (∀ W4, (((W3.setCell ⟨w.heap.size, 0, none⟩ (.int .i64 c)).setCell ⟨w.heap.size, 1, none⟩ (.int .i64 r.ro)).setCell ⟨w.heap.size, 2, none⟩ (.string (r.ad ++ s.extract st s.size))).setCell ⟨w.heap.size, 3, none⟩ (.int .i64 (k : Int)) = W4 → Blk W4 w.heap.size (D4 c r.ro (r.ad ++ s.extract st s.size) k) 28 ∧ Below w.heap.size w W4) := finD K3.out B3.out (Nat.le_refl _) c r.ro _ k
  go_wp2
  rw [HNV.out]
  exact bodyPost_ret (v := .agg (D4 c r.ro (r.ad ++ s.extract st s.size) k)) (results_cell_row rfl _ _ _ 28 _ (0, 0) _ rfl (HF.out _ rfl).1 Try.underlying28 rfl size28) rfl ⟨rfl, (HF.out _ rfl).2⟩
end Go.Proofs.Ytpnglbnebkggkaa
