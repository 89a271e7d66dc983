/- Screens, the program's way; no condition. -/
import Derived.Test.YtfaflnhembceoaaRiA
namespace Go.Proofs.Ytfaflnhembceoaa
open Go.RowKit Go.ChangeShapes Go.WideShapes Go.ChangeAt
set_option linter.unusedVariables false
set_option linter.unusedSimpArgs false
set_option maxRecDepth 8000
theorem part_one (p : String → Bool) (s : String) (u e : List String) (h : List.partition p [s] = (u, e)) : (u = [s] ∧ e = []) ∨ (u = [] ∧ e = [s]) := by
  cases hp : p s with
  | true => simp [List.partition, List.partition.loop, hp] at h; exact .inl (by simp [h.1.symm, h.2])
  | false => simp [List.partition, List.partition.loop, hp] at h; exact .inr (by simp [h.1, h.2.symm])
theorem miss_some {want : Array (String × TypeId)} {got : Array Method} (h : ((want.toList.filter fun (x : String × TypeId) => !got.any fun m => m.name == x.1 && m.sig == x.2).map (·.1)).length = 1) : ∃ m, Go.Instr.missingMethod want got = some m := by
  obtain ⟨s, hl⟩ := List.length_eq_one_iff.1 h
  unfold Go.Instr.missingMethod
  have e : (want.toList.filter fun x => match x with | (name, sig) => !got.any fun m => m.name == name && m.sig == sig).map (fun x => x.1) = [s] := hl
  rw [e]
  dsimp only
  generalize heq : List.partition _ [s] = q
  obtain ⟨u, e'⟩ := q
  rcases part_one _ s _ _ heq with ⟨rfl, rfl⟩ | ⟨rfl, rfl⟩
  · exact ⟨_, rfl⟩
  · exact ⟨_, rfl⟩
theorem assert_no {t asserted : TypeId} (v : Value) (w : World) (hn : (match Try.prog.underlying asserted, Try.prog.info? t with
  | some (.interface want), some i => ((want.toList.filter fun (x : String × TypeId) => !i.methods.any fun m => m.name == x.1 && m.sig == x.2).map (·.1)).length
  | _, _ => 0) = 1) (hz : (zeroValue asserted).run Try.prog w = .ok .nilIface w) :
    (Instr.typeAssert (.iface t v) 103 asserted true).run Try.prog w = .ok (.tuple #[.nilIface, .bool false]) w := by
  cases hu : Try.prog.underlying asserted with
  | none => rw [hu] at hn; simp at hn
  | some d =>
    cases hi : Try.prog.info? t with
    | none => rw [hu, hi] at hn; simp at hn
    | some info =>
      rw [hu, hi] at hn
      cases d with
      | interface want =>
        obtain ⟨m, hmm⟩ := miss_some hn
        simp [Instr.typeAssert, run_underlying hu, typeInfo, Sem.run_bind, hi, hmm, hz]
      | _ => simp at hn
theorem asS129 (v : Value) (w : World) : (Instr.typeAssert (.iface 129 v) 103 155 true).run Try.prog w = .ok (.tuple #[.nilIface, .bool false]) w := assert_no v w (by kernel_rfl) (by kernel_rfl)
theorem asS131 (v : Value) (w : World) : (Instr.typeAssert (.iface 131 v) 103 155 true).run Try.prog w = .ok (.tuple #[.iface 131 v, .bool true]) w := by kernel_rfl
theorem asS133 (v : Value) (w : World) : (Instr.typeAssert (.iface 133 v) 103 155 true).run Try.prog w = .ok (.tuple #[.nilIface, .bool false]) w := assert_no v w (by kernel_rfl) (by kernel_rfl)
theorem asS135 (v : Value) (w : World) : (Instr.typeAssert (.iface 135 v) 103 155 true).run Try.prog w = .ok (.tuple #[.nilIface, .bool false]) w := assert_no v w (by kernel_rfl) (by kernel_rfl)
theorem asF129 (v : Value) (w : World) : (Instr.typeAssert (.iface 129 v) 103 158 true).run Try.prog w = .ok (.tuple #[.iface 129 v, .bool true]) w := by kernel_rfl
theorem asF131 (v : Value) (w : World) : (Instr.typeAssert (.iface 131 v) 103 158 true).run Try.prog w = .ok (.tuple #[.nilIface, .bool false]) w := assert_no v w (by kernel_rfl) (by kernel_rfl)
theorem asF133 (v : Value) (w : World) : (Instr.typeAssert (.iface 133 v) 103 158 true).run Try.prog w = .ok (.tuple #[.nilIface, .bool false]) w := assert_no v w (by kernel_rfl) (by kernel_rfl)
theorem asF135 (v : Value) (w : World) : (Instr.typeAssert (.iface 135 v) 103 158 true).run Try.prog w = .ok (.tuple #[.nilIface, .bool false]) w := assert_no v w (by kernel_rfl) (by kernel_rfl)
theorem asW129 (v : Value) (w : World) : (Instr.typeAssert (.iface 129 v) 103 162 true).run Try.prog w = .ok (.tuple #[.nilIface, .bool false]) w := assert_no v w (by kernel_rfl) (by kernel_rfl)
theorem asW131 (v : Value) (w : World) : (Instr.typeAssert (.iface 131 v) 103 162 true).run Try.prog w = .ok (.tuple #[.nilIface, .bool false]) w := assert_no v w (by kernel_rfl) (by kernel_rfl)
theorem asW133 (v : Value) (w : World) : (Instr.typeAssert (.iface 133 v) 103 162 true).run Try.prog w = .ok (.tuple #[.iface 133 v, .bool true]) w := by kernel_rfl
theorem asW135 (v : Value) (w : World) : (Instr.typeAssert (.iface 135 v) 103 162 true).run Try.prog w = .ok (.tuple #[.nilIface, .bool false]) w := assert_no v w (by kernel_rfl) (by kernel_rfl)
theorem size109 : (Try.prog.info? 109).map (·.size) = some 2 := by kernel_rfl
theorem any_no {f : Int × Int → Bool} {fs : Fts} (h : ∀ t (ht : t < fs.length), f fs[t] = false) : fs.any f = false := by
  rw [List.any_eq_false]
  intro x hx
  obtain ⟨i, hi, rfl⟩ := List.getElem_of_mem hx
  simpa using h i hi
theorem any_yes {f : Int × Int → Bool} {fs : Fts} {t : Nat} (ht : t < fs.length) (h : f fs[t] = true) : fs.any f = true := by
  rw [List.any_eq_true]; exact ⟨fs[t], List.getElem_mem ht, h⟩
theorem no_succ {f : Int × Int → Bool} {fs : Fts} {j : Nat} (h : ∀ t (ht : t < j) (h : t < fs.length), f fs[t] = false) (hj : j < fs.length) (h1 : f fs[j] = false) : ∀ t (ht : t < j + 1) (h : t < fs.length), f fs[t] = false := by
  intro t htt hl
  by_cases htj : t < j
  · exact h t htj hl
  · obtain rfl : t = j := by omega
    exact h1
/-- one feature of a row that is read -/
theorem Rx.at {w : World} {a : Option Addr} {n cap : Nat} {fs : Fts} (h : Rx w (.slice a n cap) fs) (j : Nat) (hj : j < fs.length) : ∃ b off, a = some ⟨b, off, none⟩ ∧ b < w.heap.size ∧ w.cell? ⟨b, off + j, none⟩ = some (exV fs[j]) := by
  obtain ⟨a', cap', e, h1, h2, h3⟩ := h
  injection e with e1 e2 e3
  subst e1
  rcases h3 with h3 | ⟨b, off, rfl, h4⟩
  · subst h3; simp at hj
  · exact ⟨b, off, rfl, block_lt_of_cell (h4 j hj), h4 j hj⟩
set_option maxHeartbeats 3200000 in
theorem screens_c (p q : Bool) (v : Value) (fs : Fts) (x : Int) (pv : Bool) (w : World) (h : Rx w v fs) : Calls Try.prog 90 #[.agg (S3 p q v), .agg #[.int .i64 x, .bool pv]] w fun e w' => e = .returned (.bool (fs.any (scF pv x))) ∧ Below w.heap.size w w' := by
  obtain ⟨a, cap, rfl, h1, h2, -⟩ := id h
  unfold maxLen at h2
  obtain ⟨m, hm⟩ : ∃ m, fs.length = m := ⟨_, rfl⟩
  have HM : Hid (fs.length = m) := hm
  rw [hm] at h h1 ⊢
  have HX : Hid (Rx w (.slice a m cap) fs) := h
  obtain ⟨W0, hW0⟩ : ∃ W0, (w.alloc (Obj.cells (S3 p q (.slice a m cap)) 101)).alloc (Obj.cells #[.int .i64 x, .bool pv] 107) = W0 := ⟨_, rfl⟩
  have hb0 : Below w.heap.size w W0 := hW0 ▸ ((Below.refl _ _).alloc (Nat.le_refl _) _).alloc (by simp) _
  have B0 : Hid (Below w.heap.size w W0) := hb0
  have kw : Blk W0 (w.heap.size + 1) #[.int .i64 x, .bool pv] 107 := hW0 ▸ Blk.newAt _ (w.heap.size + 1) _ 107 (by simp)
  have KW : Hid (Blk W0 (w.heap.size + 1) #[.int .i64 x, .bool pv] 107) := kw
  have HW0 : Hid ((w.alloc (Obj.cells (S3 p q (.slice a m cap)) 101)).alloc (Obj.cells #[.int .i64 x, .bool pv] 107) = W0) := hW0
  clear hm hb0 hW0 kw h
  go_enter Try.func90, Try.ntmps90
  go_wp2
  rw [HW0.out]
  go_loopw [12] (fun i wr => ∃ j : Nat, j ≤ m ∧ i = .int .i64 j ∧ Hid (∀ t (ht : t < j) (h : t < fs.length), scF pv x fs[t] = false) ∧ Hid (Below W0.heap.size W0 wr)) (fun i _ => m - (intOf i).toNat)
  case atStart => exact ⟨0, Nat.zero_le _, rfl, fun t ht => by omega, Below.refl _ _⟩
  case round =>
    obtain ⟨j, hj, rfl, hA, BJ⟩ := hrel
    have BW : Hid (Below w.heap.size w wr) := belowCall B0.out BJ.out B0.out.size
    by_cases hlt : j < m
    case neg =>
      obtain rfl : m = j := by omega
      have HN : Hid (fs.any (scF pv x) = false) := any_no (fun t ht => hA.out t (by have := HM.out; omega) ht)
      go_wp2
      go_ret
      exact ⟨by rw [HN.out]; rfl, BW.out⟩
    case pos =>
    have hjl : j < fs.length := by rw [HM.out]; exact hlt
    obtain ⟨b, off, rfl, hcb, hc⟩ := HX.out.at j hjl
    obtain ⟨k, o, hr⟩ : ∃ k o, fs[j] = (k, o) := ⟨_, _, rfl⟩
    have HR : Hid (fs[j] = (k, o)) := hr
    rw [hr] at hc
    have e0 := (BW.out.cell (p := ⟨b, off + j, none⟩) hcb).trans hc
    have kx := KW.out.below BJ.out KW.out.lt
    have x0 := kx.cell 0
    have x1 := kx.cell 1
    simp at x0 x1
    have NO : Hid (scF pv x (k, o) = false → ∀ t (ht : t < j + 1) (h : t < fs.length), scF pv x fs[t] = false) := fun h => no_succ hA.out hjl (by rw [HR.out]; exact h)
    have YES : Hid (scF pv x (k, o) = true → fs.any (scF pv x) = true) := fun h => any_yes hjl (by rw [HR.out]; exact h)
    clear hc hr kx
    rcases exV_or k o with ⟨hk, e⟩ | ⟨rfl, e⟩ | ⟨rfl, e⟩ | ⟨hk, e⟩
    · rw [e] at e0
      have a1 := asS129 (.agg #[.int .i64 k, .int .i64 o])
      have HN : Hid (∀ t (ht : t < j + 1) (h : t < fs.length), scF pv x fs[t] = false) := NO.out (by unfold dvK at hk; simp [scF]; omega)
      clear e NO YES
      go_wp2
      go_roundw
      case rel => exact ⟨j + 1, by omega, by go_num, HN.out, BJ.out⟩
      case measure => simp [intOf]; omega
    · rw [e] at e0
      have a1 := asS131 (.agg #[.int .i64 o])
      clear e
      go_wp2_with (fail)
      refine (koS_c o x pv wr).mono ?_
      rintro e w2 ⟨rfl, b2⟩
      have B2 : Hid (Below w.heap.size w w2) := belowCall BW.out b2 BW.out.size
      have B2' : Hid (Below W0.heap.size W0 w2) := belowCall BJ.out b2 BJ.out.size
      obtain ⟨z, hz⟩ : ∃ z, (pv || o == x) = z := ⟨_, rfl⟩
      have HZ : Hid (scF pv x (5, o) = z) := by rw [← hz]; rfl
      rw [hz]
      clear hz b2 a1 e0 x0 x1
      cases z with
      | true =>
        have HF : Hid (fs.any (scF pv x) = true) := YES.out HZ.out
        clear NO YES HZ
        go_wp2
        go_ret
        exact ⟨by rw [HF.out]; rfl, B2.out⟩
      | false =>
        have HF := NO.out HZ.out
        have HN : Hid (∀ t (ht : t < j + 1) (h : t < fs.length), scF pv x fs[t] = false) := HF
        clear NO YES HZ HF
        go_wp2
        go_roundw
        case rel => exact ⟨j + 1, by omega, by go_num, HN.out, B2'.out⟩
        case measure => simp [intOf]; omega
    · rw [e] at e0
      have a1 := asS133 (.agg #[])
      have HN : Hid (∀ t (ht : t < j + 1) (h : t < fs.length), scF pv x fs[t] = false) := NO.out (rfl)
      clear e NO YES
      go_wp2
      go_roundw
      case rel => exact ⟨j + 1, by omega, by go_num, HN.out, BJ.out⟩
      case measure => simp [intOf]; omega
    · rw [e] at e0
      have a1 := asS135 (.agg #[.int .i64 k])
      have HN : Hid (∀ t (ht : t < j + 1) (h : t < fs.length), scF pv x fs[t] = false) := NO.out (by simp [scF, hk.2.1])
      clear e NO YES
      go_wp2
      go_roundw
      case rel => exact ⟨j + 1, by omega, by go_num, HN.out, BJ.out⟩
      case measure => simp [intOf]; omega
end Go.Proofs.Ytfaflnhembceoaa
