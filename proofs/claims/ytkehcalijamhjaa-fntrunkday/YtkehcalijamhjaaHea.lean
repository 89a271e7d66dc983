/- What a note does; a side; an owner; no condition. -/
import Derived.Test.YtkehcalijamhjaaChn
import Derived.OwnWalk
namespace Go.Proofs.Ytkehcalijamhjaa
open Go.RowKit Go.ChangeShapes Go.WideShapes Go.ChangeAt
set_option linter.unusedVariables false
set_option linter.unusedSimpArgs false
set_option maxRecDepth 8000
/-- what a note does where it arrives: how the circuit is seen then, what goes back (0: nothing), what is lost -/
def hearF (kd sn : Int) (own : Bool) : Int × Int × Int :=
  if kd = 1 then (if sn = 0 then (3, 2, 0) else if sn = 1 ∧ own = false then (3, 2, 1) else (sn, 3, 0))
  else if kd = 2 then (if sn = 1 then (2, 0, 0) else (sn, 0, 0))
  else if kd = 3 then (if sn = 1 then (0, 0, 1) else (sn, 0, 0))
  else if kd = 4 then (if sn = 3 then (0, 5, 0) else (sn, 5, 0))
  else (if sn = 4 then (0, 0, 0) else (sn, 0, 0))
abbrev N3 (x : Int × Int × Int) : Array Value := #[.int .i64 x.1, .int .i64 x.2.1, .int .i64 x.2.2]
theorem size96 : (Try.prog.info? 96).map (·.size) = some 3 := by kernel_rfl
theorem side_c (s : Int) (w : World) : Calls Try.prog 37 #[.int .i64 s] w fun e w' => e = .returned (.bool (decide (s = 0 ∨ s = 1))) ∧ w' = w := by
  by_cases h0 : s = 0
  · subst h0
    go_enter Try.func37, Try.ntmps37
    go_wp2
    go_ret
    exact ⟨rfl, rfl⟩
  have h0b : (s == 0) = false := by simpa using h0
  by_cases h1 : s = 1
  · subst h1
    go_enter Try.func37, Try.ntmps37
    go_wp2
    go_ret
    exact ⟨rfl, rfl⟩
  have h1b : (s == 1) = false := by simpa using h1
  have HN : Hid (¬ (s = 0 ∨ s = 1)) := by intro h; omega
  clear h0 h1
  go_enter Try.func37, Try.ntmps37
  go_wp2
  go_ret
  exact ⟨by rw [decide_eq_false HN.out]; rfl, rfl⟩

def HnR (kd sn : Int) (own : Bool) (w : World) (e : Ending) (w' : World) : Prop := e = .returned (.agg (N3 (hearF kd sn own))) ∧ Below w.heap.size w w'
def HmR (kd sn : Int) (own : Bool) (w : World) (e : Ending) (w' : World) : Prop := e = .returned (.tuple #[.int .i64 (hearF kd sn own).1, .int .i64 (hearF kd sn own).2.1, .bool (decide ((hearF kd sn own).2.2 = 1))]) ∧ w' = w
set_option maxHeartbeats 12800000 in
theorem hearM_c (kd sn : Int) (own : Bool) (w : World) (h1 : 1 ≤ kd ∧ kd ≤ 5) (h2 : 0 ≤ sn ∧ sn ≤ 4) : Calls Try.prog 50 #[.int .i64 sn, .int .i64 kd, .bool own] w (HmR kd sn own w) := by
  rcases (show kd = 1 ∨ kd = 2 ∨ kd = 3 ∨ kd = 4 ∨ kd = 5 by omega) with rfl | rfl | rfl | rfl | rfl <;> rcases (show sn = 0 ∨ sn = 1 ∨ sn = 2 ∨ sn = 3 ∨ sn = 4 by omega) with rfl | rfl | rfl | rfl | rfl <;> cases own
  all_goals
    clear h1 h2
    go_enter Try.func50, Try.ntmps50
    go_wp2
    go_ret3
    exact ⟨rfl, rfl⟩

set_option maxHeartbeats 12800000 in
theorem hearI_c (kd sn : Int) (own : Bool) (w : World) (h1 : 1 ≤ kd ∧ kd ≤ 5) (h2 : 0 ≤ sn ∧ sn ≤ 4) : Calls Try.prog 70 #[.int .i64 kd, .int .i64 sn, .bool own] w (HnR kd sn own w) := by
  rcases (show kd = 1 ∨ kd = 2 ∨ kd = 3 ∨ kd = 4 ∨ kd = 5 by omega) with rfl | rfl | rfl | rfl | rfl <;> rcases (show sn = 0 ∨ sn = 1 ∨ sn = 2 ∨ sn = 3 ∨ sn = 4 by omega) with rfl | rfl | rfl | rfl | rfl <;> cases own
  all_goals
    clear h1 h2
    go_enter Try.func70, Try.ntmps70
    go_wp2
    exact bodyPost_ret (results_cell_row rfl _ _ _ 96 _ (0, 0) _ rfl (Blk.new _ _ _) Try.underlying96 rfl size96) rfl ⟨rfl, (Below.refl _ _).alloc (Nat.le_refl _) _⟩
theorem owns_c (s : Int) (c : Nat) (w : World) (hc : c ≤ 1000) : Calls Try.prog 69 #[.int .i64 s, .int .i64 (c : Int)] w fun e w' => e = .returned (.bool ((c : Int) % 2 == s)) ∧ w' = w := by
  have hp : 0 ≤ (c : Int) := by omega
  go_enter Try.func69, Try.ntmps69
  go_wp2
  go_ret
  exact ⟨rfl, rfl⟩
theorem owner_c (c : Nat) (w : World) (hc : c ≤ 1000) : Calls Try.prog 45 #[.int .i64 (c : Int)] w fun e w' => e = .returned (.int .i64 ((c : Int) % 2)) ∧ w' = w := by
  have hp : 0 ≤ (c : Int) := by omega
  go_enter Try.func45, Try.ntmps45
  go_wp2
  go_ret
  exact ⟨rfl, rfl⟩
end Go.Proofs.Ytkehcalijamhjaa
