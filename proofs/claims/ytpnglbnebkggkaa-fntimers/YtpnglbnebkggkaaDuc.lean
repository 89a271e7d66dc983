/- Rules are drawn, some of them wrong; no condition. -/
import Derived.Test.YtpnglbnebkggkaaDub
namespace Go.Proofs.Ytpnglbnebkggkaa
open Go.RowKit Go.ChangeShapes Go.WideShapes Go.ChangeAt
set_option linter.unusedVariables false
set_option linter.unusedSimpArgs false
set_option maxRecDepth 8000
theorem rr_setj (j : Nat) (x : Value) (f : Rl → Rl) (hj : j < 6) (hf : ∀ o, (rr [o]).set j x = rr [f o]) : ∀ (ls : Rls) (k : Nat) (h : k < ls.length), (rr ls).set (k * 6 + j) x = rr (ls.set k (f ls[k]))
  | o :: r, 0, _ => by
    have e : rr (o :: r) = rr [o] ++ rr r := rr_app [o] r
    have e2 : rr (f o :: r) = rr [f o] ++ rr r := rr_app [f o] r
    rw [e, List.set_append_left _ _ (by simp [rr]; omega), Nat.zero_mul, Nat.zero_add, hf o, List.set_cons_zero, List.getElem_cons_zero, e2]
  | o :: r, k + 1, h => by
    have e1 : rr (o :: r) = rr [o] ++ rr r := rr_app [o] r
    have e2 : ∀ t : Rls, rr (o :: t) = rr [o] ++ rr t := fun t => rr_app [o] t
    rw [List.set_cons_succ, List.getElem_cons_succ, e1, e2 (r.set k _), ← rr_setj j x f hj hf r k (by simpa using h), List.set_append_right _ _ (by simp [rr]; omega)]
    congr 1
    have : (k + 1) * 6 + j - (rr [o]).length = k * 6 + j := by simp [rr]; omega
    rw [this]
/-- a field of a rule of one's own is written -/
theorem Orr.field {base b cap : Nat} {w : World} {ls : Rls} (h : Orr 31 base w (.slice (some ⟨b, 0, none⟩) ls.length cap) ls) (k : Nat) (hk : k < ls.length) (j : Nat) (x : Value) (f : Rl → Rl) (hj : j < 6) (hf : ∀ o, (rr [o]).set j x = rr [f o]) :
    Orr 31 base (w.setCell ⟨b, k * 6 + j, none⟩ x) (.slice (some ⟨b, 0, none⟩) ls.length cap) (ls.set k (f ls[k])) := by
  have h1 := (World.ownsRow.stored h (k * 6 + j) x).1
  rw [rr_setj j x f hj hf ls k hk] at h1
  rw [Orr, List.length_set]; exact h1
theorem small_set {ls : Rls} (hP : ∀ r ∈ ls, r.pre.size ≤ 100 ∧ r.ad.size ≤ 100) (k : Nat) (x : Rl) (hx : x.pre.size ≤ 100 ∧ x.ad.size ≤ 100) : ∀ r ∈ ls.set k x, r.pre.size ≤ 100 ∧ r.ad.size ≤ 100 := fun r hr => by
  rcases List.mem_or_eq_of_mem_set hr with h | rfl
  · exact hP r h
  · exact hx
set_option maxHeartbeats 25600000 in
theorem any_c (g : Nat) (cv : Value) (zs : List Int) (w : World) (h : Dr w g cv zs) : Calls Try.prog 26 #[.pointer (some ⟨g, 0, none⟩)] w (DuR g cv zs w) := by
  have HD0 : Hid (Dc w w g cv zs) := Dc.start h
  clear h
  go_enter Try.func26, Try.ntmps26
  go_wp2_with (fail)
  refine (rules_c g cv zs w HD0.out.dr).mono ?_
  rintro e w1 ⟨v, ls, rfl, o1, hl, hp, d1⟩
  have HO1 : Hid (Orr 31 w.heap.size w1 v ls) := o1
  have HD1 : Hid (Dc w w1 g cv zs) := d1
  have HP : Hid (∀ r ∈ ls, r.pre.size ≤ 100 ∧ r.ad.size ≤ 100) := hp
  have HL7 : Hid (ls.length ≤ 7) := hl
  clear o1 d1 hp HD0
  obtain ⟨a, cap, rfl, h1, h2, h3⟩ := own_form HO1.out
  by_cases hn : ls.length = 0
  · have e0 : ((ls.length : Int) == 0) = true := by simp [hn]
    have e1 : decide ((ls.length : Int) = 0) = true := by simp [hn]
    clear h3 hn
    go_wp2
    go_ret
    exact ⟨_, ls, rfl, HO1.out, HL7.out, HP.out, HD1.out⟩
  have e0 : ((ls.length : Int) == 0) = false := by rw [beq_eq_false_iff_ne]; omega
  rcases h3 with h3 | ⟨b, rfl⟩
  · exact absurd h3 hn
  go_wp2_with (fail)
  refine (once_c g cv zs _ _ HD1.out.dr (by omega)).mono ?_
  rintro e w2 ⟨q, rfl, d1, g1⟩
  have HD2 : Hid (Dc w w2 g cv zs) := HD1.out.draw d1 g1
  have HO2 : Hid (Orr 31 w.heap.size w2 (.slice (some ⟨b, 0, none⟩) ls.length cap) ls) := HO1.out.draw g1 HD1.out.lt
  clear d1 g1 HD1 HO1
  cases q
  · go_wp2
    go_ret
    exact ⟨_, ls, rfl, HO2.out, HL7.out, HP.out, HD2.out⟩
  go_wp2_with (fail)
  refine (below_c g cv zs _ _ HD2.out.dr (by omega)).mono ?_
  rintro e w3 ⟨k, rfl, k0, k1, -, d1, g1⟩
  have k2 := k1 (by omega)
  have HD3 : Hid (Dc w w3 g cv zs) := HD2.out.draw d1 g1
  have HO3 : Hid (Orr 31 w.heap.size w3 (.slice (some ⟨b, 0, none⟩) ls.length cap) ls) := HO2.out.draw g1 HD2.out.lt
  clear d1 g1 k1 HD2 HO2
  obtain ⟨k, rfl⟩ := Int.eq_ofNat_of_zero_le k0
  have hk : k < ls.length := by omega
  go_wp2_with (fail)
  refine (below_c g cv zs _ _ HD3.out.dr (by omega)).mono ?_
  rintro e w4 ⟨y, rfl, y0, y1, -, d1, g1⟩
  have y2 := y1 (by omega)
  have HD4 : Hid (Dc w w4 g cv zs) := HD3.out.draw d1 g1
  have HO4 : Hid (Orr 31 w.heap.size w4 (.slice (some ⟨b, 0, none⟩) ls.length cap) ls) := HO3.out.draw g1 HD3.out.lt
  clear d1 g1 y1 HD3 HO3
  have HBW : Hid (w.heap.size ≤ b ∧ b < w4.heap.size) := World.ownsRow.lt HO4.out b rfl
  have HGB : Hid (g < b) := Nat.lt_of_lt_of_le HD4.out.lt HBW.out.1
  have HPR : Hid (ls[k].pre.size ≤ 100 ∧ ls[k].ad.size ≤ 100) := HP.out _ (List.getElem_mem hk)
  have hy : y = 0 ∨ y = 1 ∨ y = 2 ∨ y = 3 ∨ y = 4 ∨ y = 5 := by omega
  clear y0 y2
  rcases hy with rfl | rfl | rfl | rfl | rfl | rfl
  · obtain ⟨X, hX⟩ : ∃ X, w4.heap.size = X := ⟨_, rfl⟩
    obtain ⟨W5, hW5⟩ : ∃ W, w4.alloc (Obj.cells #[.string ⟨#[]⟩, .string ⟨#[97]⟩, .string ⟨#[49]⟩, .string ⟨#[49, 50, 51, 52, 53, 54, 55, 56, 57, 48, 49, 50, 51, 52, 53, 54, 55, 56, 57, 48, 49]⟩] 9) = W := ⟨_, rfl⟩
    have HR : Hid (Rx W5 (.slice (some ⟨X, 0, none⟩) 4 4) [⟨#[]⟩, ⟨#[97]⟩, ⟨#[49]⟩, ⟨#[49, 50, 51, 52, 53, 54, 55, 56, 57, 48, 49, 50, 51, 52, 53, 54, 55, 56, 57, 48, 49]⟩]) := by rw [← hW5, ← hX]; exact Rx.lit w4 [⟨#[]⟩, ⟨#[97]⟩, ⟨#[49]⟩, ⟨#[49, 50, 51, 52, 53, 54, 55, 56, 57, 48, 49, 50, 51, 52, 53, 54, 55, 56, 57, 48, 49]⟩] (by decide)
    have al : Below w4.heap.size w4 W5 := by rw [← hW5]; exact (Below.refl _ _).alloc (Nat.le_refl _) _
    have HD5 : Hid (Dc w W5 g cv zs) := HD4.out.below al
    have HO5 : Hid (Orr 31 w.heap.size W5 (.slice (some ⟨b, 0, none⟩) ls.length cap) ls) := HO4.out.below al
    have HGX : Hid (g < X) := by rw [← hX]; exact HD4.out.dr.lt
    have HW5 : Hid (w4.alloc (Obj.cells #[.string ⟨#[]⟩, .string ⟨#[97]⟩, .string ⟨#[49]⟩, .string ⟨#[49, 50, 51, 52, 53, 54, 55, 56, 57, 48, 49, 50, 51, 52, 53, 54, 55, 56, 57, 48, 49]⟩] 9) = W5 ∧ w4.heap.size = X) := ⟨hW5, hX⟩
    clear hW5 hX al HD4 HO4
    go_wp2_with (fail)
    rw [HW5.out.1, HW5.out.2]
    refine (pick_c g cv zs _ [⟨#[]⟩, ⟨#[97]⟩, ⟨#[49]⟩, ⟨#[49, 50, 51, 52, 53, 54, 55, 56, 57, 48, 49, 50, 51, 52, 53, 54, 55, 56, 57, 48, 49]⟩] _ HD5.out.dr HR.out (.inr (by have := HGX.out; simp [Value.ownBlock]; omega)) (by decide) (by decide)).mono ?_
    rintro e w6 ⟨x, rfl, hx, d1, g1⟩
    have hxs : x.size ≤ 100 := by
      simp only [List.mem_cons, List.not_mem_nil, or_false] at hx
      rcases hx with rfl | rfl | rfl | rfl <;> decide
    have HD6 : Hid (Dc w w6 g cv zs) := HD5.out.draw d1 g1
    have HO6 : Hid (Orr 31 w.heap.size w6 (.slice (some ⟨b, 0, none⟩) ls.length cap) ls) := HO5.out.draw g1 HD5.out.lt
    clear d1 g1 hx HD5 HO5 HR HGX HW5
    have c6 : w6.cell? ⟨b, k * 6, none⟩ = some (.string ls[k].pre) := by have := World.ownsRow.cellAt HO6.out (k * 6) (by omega); rw [this]; exact (rr_at ls k hk).1
    have f6 : w6.frozen? ⟨b, k * 6, none⟩ = false := World.ownsRow.frozenAt HO6.out (k * 6)
    have HO7 : Hid (Orr 31 w.heap.size (w6.setCell ⟨b, k * 6, none⟩ (.string x)) (.slice (some ⟨b, 0, none⟩) ls.length cap) (ls.set k ((fun o : Rl => (⟨x, o.le, o.mo, o.ro, o.st, o.ad⟩ : Rl)) ls[k]))) := HO6.out.field k hk 0 (.string x) (fun o : Rl => (⟨x, o.le, o.mo, o.ro, o.st, o.ad⟩ : Rl)) (by decide) (fun o => rfl)
    have HD7 : Hid (Dc w (w6.setCell ⟨b, k * 6, none⟩ (.string x)) g cv zs) := HD6.out.app (fun k e => by have := HBW.out.1; have := Option.some.inj e; omega) (grown_set _ _ _ _)
    have HP7 : Hid (∀ r ∈ ls.set k ((fun o : Rl => (⟨x, o.le, o.mo, o.ro, o.st, o.ad⟩ : Rl)) ls[k]), r.pre.size ≤ 100 ∧ r.ad.size ≤ 100) := small_set HP.out k _ (by have := HPR.out; dsimp only; exact ⟨hxs, this.2⟩)
    have HL8 : Hid ((ls.set k ((fun o : Rl => (⟨x, o.le, o.mo, o.ro, o.st, o.ad⟩ : Rl)) ls[k])).length ≤ 7) := by rw [List.length_set]; exact HL7.out
    clear HD6 HO6
    go_wp2
    go_ret
    exact ⟨_, _, rfl, HO7.out, HL8.out, HP7.out, HD7.out⟩
  · obtain ⟨X, hX⟩ : ∃ X, w4.heap.size = X := ⟨_, rfl⟩
    obtain ⟨W5, hW5⟩ : ∃ W, w4.alloc (Obj.cells #[.int .i64 0, .int .i64 20, .int .i64 21] 3) = W := ⟨_, rfl⟩
    have HR : Hid (Rd .i64 W5 (.slice (some ⟨X, 0, none⟩) 3 3) [0, 20, 21]) := by rw [← hW5, ← hX]; exact Rd.lit w4 [0, 20, 21] (by decide)
    have al : Below w4.heap.size w4 W5 := by rw [← hW5]; exact (Below.refl _ _).alloc (Nat.le_refl _) _
    have HD5 : Hid (Dc w W5 g cv zs) := HD4.out.below al
    have HO5 : Hid (Orr 31 w.heap.size W5 (.slice (some ⟨b, 0, none⟩) ls.length cap) ls) := HO4.out.below al
    have HGX : Hid (g < X) := by rw [← hX]; exact HD4.out.dr.lt
    have HW5 : Hid (w4.alloc (Obj.cells #[.int .i64 0, .int .i64 20, .int .i64 21] 3) = W5 ∧ w4.heap.size = X) := ⟨hW5, hX⟩
    clear hW5 hX al HD4 HO4
    go_wp2_with (fail)
    rw [HW5.out.1, HW5.out.2]
    refine (pickInt_c g cv zs _ [0, 20, 21] _ HD5.out.dr HR.out (.inr (by have := HGX.out; simp [Value.ownBlock]; omega)) (by decide) (by decide)).mono ?_
    rintro e w6 ⟨x, rfl, hx, d1, g1⟩
    have HD6 : Hid (Dc w w6 g cv zs) := HD5.out.draw d1 g1
    have HO6 : Hid (Orr 31 w.heap.size w6 (.slice (some ⟨b, 0, none⟩) ls.length cap) ls) := HO5.out.draw g1 HD5.out.lt
    clear d1 g1 hx HD5 HO5 HR HGX HW5
    have c6 : w6.cell? ⟨b, k * 6 + 1, none⟩ = some (.int .i64 ls[k].le) := by have := World.ownsRow.cellAt HO6.out (k * 6 + 1) (by omega); rw [this]; exact (rr_at ls k hk).2.1
    have f6 : w6.frozen? ⟨b, k * 6 + 1, none⟩ = false := World.ownsRow.frozenAt HO6.out (k * 6 + 1)
    have HO7 : Hid (Orr 31 w.heap.size (w6.setCell ⟨b, k * 6 + 1, none⟩ (.int .i64 x)) (.slice (some ⟨b, 0, none⟩) ls.length cap) (ls.set k ((fun o : Rl => (⟨o.pre, x, o.mo, o.ro, o.st, o.ad⟩ : Rl)) ls[k]))) := HO6.out.field k hk 1 (.int .i64 x) (fun o : Rl => (⟨o.pre, x, o.mo, o.ro, o.st, o.ad⟩ : Rl)) (by decide) (fun o => rfl)
    have HD7 : Hid (Dc w (w6.setCell ⟨b, k * 6 + 1, none⟩ (.int .i64 x)) g cv zs) := HD6.out.app (fun k e => by have := HBW.out.1; have := Option.some.inj e; omega) (grown_set _ _ _ _)
    have HP7 : Hid (∀ r ∈ ls.set k ((fun o : Rl => (⟨o.pre, x, o.mo, o.ro, o.st, o.ad⟩ : Rl)) ls[k]), r.pre.size ≤ 100 ∧ r.ad.size ≤ 100) := small_set HP.out k _ (by have := HPR.out; dsimp only; exact ⟨this.1, this.2⟩)
    have HL8 : Hid ((ls.set k ((fun o : Rl => (⟨o.pre, x, o.mo, o.ro, o.st, o.ad⟩ : Rl)) ls[k])).length ≤ 7) := by rw [List.length_set]; exact HL7.out
    clear HD6 HO6
    go_wp2
    go_ret
    exact ⟨_, _, rfl, HO7.out, HL8.out, HP7.out, HD7.out⟩
  · obtain ⟨X, hX⟩ : ∃ X, w4.heap.size = X := ⟨_, rfl⟩
    obtain ⟨W5, hW5⟩ : ∃ W, w4.alloc (Obj.cells #[.int .i64 0, .int .i64 20, .int .i64 21] 3) = W := ⟨_, rfl⟩
    have HR : Hid (Rd .i64 W5 (.slice (some ⟨X, 0, none⟩) 3 3) [0, 20, 21]) := by rw [← hW5, ← hX]; exact Rd.lit w4 [0, 20, 21] (by decide)
    have al : Below w4.heap.size w4 W5 := by rw [← hW5]; exact (Below.refl _ _).alloc (Nat.le_refl _) _
    have HD5 : Hid (Dc w W5 g cv zs) := HD4.out.below al
    have HO5 : Hid (Orr 31 w.heap.size W5 (.slice (some ⟨b, 0, none⟩) ls.length cap) ls) := HO4.out.below al
    have HGX : Hid (g < X) := by rw [← hX]; exact HD4.out.dr.lt
    have HW5 : Hid (w4.alloc (Obj.cells #[.int .i64 0, .int .i64 20, .int .i64 21] 3) = W5 ∧ w4.heap.size = X) := ⟨hW5, hX⟩
    clear hW5 hX al HD4 HO4
    go_wp2_with (fail)
    rw [HW5.out.1, HW5.out.2]
    refine (pickInt_c g cv zs _ [0, 20, 21] _ HD5.out.dr HR.out (.inr (by have := HGX.out; simp [Value.ownBlock]; omega)) (by decide) (by decide)).mono ?_
    rintro e w6 ⟨x, rfl, hx, d1, g1⟩
    have HD6 : Hid (Dc w w6 g cv zs) := HD5.out.draw d1 g1
    have HO6 : Hid (Orr 31 w.heap.size w6 (.slice (some ⟨b, 0, none⟩) ls.length cap) ls) := HO5.out.draw g1 HD5.out.lt
    clear d1 g1 hx HD5 HO5 HR HGX HW5
    have c6 : w6.cell? ⟨b, k * 6 + 2, none⟩ = some (.int .i64 ls[k].mo) := by have := World.ownsRow.cellAt HO6.out (k * 6 + 2) (by omega); rw [this]; exact (rr_at ls k hk).2.2.1
    have f6 : w6.frozen? ⟨b, k * 6 + 2, none⟩ = false := World.ownsRow.frozenAt HO6.out (k * 6 + 2)
    have HO7 : Hid (Orr 31 w.heap.size (w6.setCell ⟨b, k * 6 + 2, none⟩ (.int .i64 x)) (.slice (some ⟨b, 0, none⟩) ls.length cap) (ls.set k ((fun o : Rl => (⟨o.pre, o.le, x, o.ro, o.st, o.ad⟩ : Rl)) ls[k]))) := HO6.out.field k hk 2 (.int .i64 x) (fun o : Rl => (⟨o.pre, o.le, x, o.ro, o.st, o.ad⟩ : Rl)) (by decide) (fun o => rfl)
    have HD7 : Hid (Dc w (w6.setCell ⟨b, k * 6 + 2, none⟩ (.int .i64 x)) g cv zs) := HD6.out.app (fun k e => by have := HBW.out.1; have := Option.some.inj e; omega) (grown_set _ _ _ _)
    have HP7 : Hid (∀ r ∈ ls.set k ((fun o : Rl => (⟨o.pre, o.le, x, o.ro, o.st, o.ad⟩ : Rl)) ls[k]), r.pre.size ≤ 100 ∧ r.ad.size ≤ 100) := small_set HP.out k _ (by have := HPR.out; dsimp only; exact ⟨this.1, this.2⟩)
    have HL8 : Hid ((ls.set k ((fun o : Rl => (⟨o.pre, o.le, x, o.ro, o.st, o.ad⟩ : Rl)) ls[k])).length ≤ 7) := by rw [List.length_set]; exact HL7.out
    clear HD6 HO6
    go_wp2
    go_ret
    exact ⟨_, _, rfl, HO7.out, HL8.out, HP7.out, HD7.out⟩
  · obtain ⟨X, hX⟩ : ∃ X, w4.heap.size = X := ⟨_, rfl⟩
    obtain ⟨W5, hW5⟩ : ∃ W, w4.alloc (Obj.cells #[.int .i64 (-1), .int .i64 1000, .int .i64 1001] 3) = W := ⟨_, rfl⟩
    have HR : Hid (Rd .i64 W5 (.slice (some ⟨X, 0, none⟩) 3 3) [-1, 1000, 1001]) := by rw [← hW5, ← hX]; exact Rd.lit w4 [-1, 1000, 1001] (by decide)
    have al : Below w4.heap.size w4 W5 := by rw [← hW5]; exact (Below.refl _ _).alloc (Nat.le_refl _) _
    have HD5 : Hid (Dc w W5 g cv zs) := HD4.out.below al
    have HO5 : Hid (Orr 31 w.heap.size W5 (.slice (some ⟨b, 0, none⟩) ls.length cap) ls) := HO4.out.below al
    have HGX : Hid (g < X) := by rw [← hX]; exact HD4.out.dr.lt
    have HW5 : Hid (w4.alloc (Obj.cells #[.int .i64 (-1), .int .i64 1000, .int .i64 1001] 3) = W5 ∧ w4.heap.size = X) := ⟨hW5, hX⟩
    clear hW5 hX al HD4 HO4
    go_wp2_with (fail)
    rw [HW5.out.1, HW5.out.2]
    refine (pickInt_c g cv zs _ [-1, 1000, 1001] _ HD5.out.dr HR.out (.inr (by have := HGX.out; simp [Value.ownBlock]; omega)) (by decide) (by decide)).mono ?_
    rintro e w6 ⟨x, rfl, hx, d1, g1⟩
    have HD6 : Hid (Dc w w6 g cv zs) := HD5.out.draw d1 g1
    have HO6 : Hid (Orr 31 w.heap.size w6 (.slice (some ⟨b, 0, none⟩) ls.length cap) ls) := HO5.out.draw g1 HD5.out.lt
    clear d1 g1 hx HD5 HO5 HR HGX HW5
    have c6 : w6.cell? ⟨b, k * 6 + 3, none⟩ = some (.int .i64 ls[k].ro) := by have := World.ownsRow.cellAt HO6.out (k * 6 + 3) (by omega); rw [this]; exact (rr_at ls k hk).2.2.2.1
    have f6 : w6.frozen? ⟨b, k * 6 + 3, none⟩ = false := World.ownsRow.frozenAt HO6.out (k * 6 + 3)
    have HO7 : Hid (Orr 31 w.heap.size (w6.setCell ⟨b, k * 6 + 3, none⟩ (.int .i64 x)) (.slice (some ⟨b, 0, none⟩) ls.length cap) (ls.set k ((fun o : Rl => (⟨o.pre, o.le, o.mo, x, o.st, o.ad⟩ : Rl)) ls[k]))) := HO6.out.field k hk 3 (.int .i64 x) (fun o : Rl => (⟨o.pre, o.le, o.mo, x, o.st, o.ad⟩ : Rl)) (by decide) (fun o => rfl)
    have HD7 : Hid (Dc w (w6.setCell ⟨b, k * 6 + 3, none⟩ (.int .i64 x)) g cv zs) := HD6.out.app (fun k e => by have := HBW.out.1; have := Option.some.inj e; omega) (grown_set _ _ _ _)
    have HP7 : Hid (∀ r ∈ ls.set k ((fun o : Rl => (⟨o.pre, o.le, o.mo, x, o.st, o.ad⟩ : Rl)) ls[k]), r.pre.size ≤ 100 ∧ r.ad.size ≤ 100) := small_set HP.out k _ (by have := HPR.out; dsimp only; exact ⟨this.1, this.2⟩)
    have HL8 : Hid ((ls.set k ((fun o : Rl => (⟨o.pre, o.le, o.mo, x, o.st, o.ad⟩ : Rl)) ls[k])).length ≤ 7) := by rw [List.length_set]; exact HL7.out
    clear HD6 HO6
    go_wp2
    go_ret
    exact ⟨_, _, rfl, HO7.out, HL8.out, HP7.out, HD7.out⟩
  · obtain ⟨X, hX⟩ : ∃ X, w4.heap.size = X := ⟨_, rfl⟩
    obtain ⟨W5, hW5⟩ : ∃ W, w4.alloc (Obj.cells #[.int .i64 (-1), .int .i64 9] 3) = W := ⟨_, rfl⟩
    have HR : Hid (Rd .i64 W5 (.slice (some ⟨X, 0, none⟩) 2 2) [-1, 9]) := by rw [← hW5, ← hX]; exact Rd.lit w4 [-1, 9] (by decide)
    have al : Below w4.heap.size w4 W5 := by rw [← hW5]; exact (Below.refl _ _).alloc (Nat.le_refl _) _
    have HD5 : Hid (Dc w W5 g cv zs) := HD4.out.below al
    have HO5 : Hid (Orr 31 w.heap.size W5 (.slice (some ⟨b, 0, none⟩) ls.length cap) ls) := HO4.out.below al
    have HGX : Hid (g < X) := by rw [← hX]; exact HD4.out.dr.lt
    have HW5 : Hid (w4.alloc (Obj.cells #[.int .i64 (-1), .int .i64 9] 3) = W5 ∧ w4.heap.size = X) := ⟨hW5, hX⟩
    clear hW5 hX al HD4 HO4
    go_wp2_with (fail)
    rw [HW5.out.1, HW5.out.2]
    refine (pickInt_c g cv zs _ [-1, 9] _ HD5.out.dr HR.out (.inr (by have := HGX.out; simp [Value.ownBlock]; omega)) (by decide) (by decide)).mono ?_
    rintro e w6 ⟨x, rfl, hx, d1, g1⟩
    have HD6 : Hid (Dc w w6 g cv zs) := HD5.out.draw d1 g1
    have HO6 : Hid (Orr 31 w.heap.size w6 (.slice (some ⟨b, 0, none⟩) ls.length cap) ls) := HO5.out.draw g1 HD5.out.lt
    clear d1 g1 hx HD5 HO5 HR HGX HW5
    have c6 : w6.cell? ⟨b, k * 6 + 4, none⟩ = some (.int .i64 ls[k].st) := by have := World.ownsRow.cellAt HO6.out (k * 6 + 4) (by omega); rw [this]; exact (rr_at ls k hk).2.2.2.2.1
    have f6 : w6.frozen? ⟨b, k * 6 + 4, none⟩ = false := World.ownsRow.frozenAt HO6.out (k * 6 + 4)
    have HO7 : Hid (Orr 31 w.heap.size (w6.setCell ⟨b, k * 6 + 4, none⟩ (.int .i64 x)) (.slice (some ⟨b, 0, none⟩) ls.length cap) (ls.set k ((fun o : Rl => (⟨o.pre, o.le, o.mo, o.ro, x, o.ad⟩ : Rl)) ls[k]))) := HO6.out.field k hk 4 (.int .i64 x) (fun o : Rl => (⟨o.pre, o.le, o.mo, o.ro, x, o.ad⟩ : Rl)) (by decide) (fun o => rfl)
    have HD7 : Hid (Dc w (w6.setCell ⟨b, k * 6 + 4, none⟩ (.int .i64 x)) g cv zs) := HD6.out.app (fun k e => by have := HBW.out.1; have := Option.some.inj e; omega) (grown_set _ _ _ _)
    have HP7 : Hid (∀ r ∈ ls.set k ((fun o : Rl => (⟨o.pre, o.le, o.mo, o.ro, x, o.ad⟩ : Rl)) ls[k]), r.pre.size ≤ 100 ∧ r.ad.size ≤ 100) := small_set HP.out k _ (by have := HPR.out; dsimp only; exact ⟨this.1, this.2⟩)
    have HL8 : Hid ((ls.set k ((fun o : Rl => (⟨o.pre, o.le, o.mo, o.ro, x, o.ad⟩ : Rl)) ls[k])).length ≤ 7) := by rw [List.length_set]; exact HL7.out
    clear HD6 HO6
    go_wp2
    go_ret
    exact ⟨_, _, rfl, HO7.out, HL8.out, HP7.out, HD7.out⟩
  · obtain ⟨X, hX⟩ : ∃ X, w4.heap.size = X := ⟨_, rfl⟩
    obtain ⟨W5, hW5⟩ : ∃ W, w4.alloc (Obj.cells #[.string ⟨#[120]⟩, .string ⟨#[49, 50, 51, 52, 53, 54, 55, 56, 57, 48, 49, 50, 51, 52, 53, 54, 55, 56, 57, 48]⟩] 9) = W := ⟨_, rfl⟩
    have HR : Hid (Rx W5 (.slice (some ⟨X, 0, none⟩) 2 2) [⟨#[120]⟩, ⟨#[49, 50, 51, 52, 53, 54, 55, 56, 57, 48, 49, 50, 51, 52, 53, 54, 55, 56, 57, 48]⟩]) := by rw [← hW5, ← hX]; exact Rx.lit w4 [⟨#[120]⟩, ⟨#[49, 50, 51, 52, 53, 54, 55, 56, 57, 48, 49, 50, 51, 52, 53, 54, 55, 56, 57, 48]⟩] (by decide)
    have al : Below w4.heap.size w4 W5 := by rw [← hW5]; exact (Below.refl _ _).alloc (Nat.le_refl _) _
    have HD5 : Hid (Dc w W5 g cv zs) := HD4.out.below al
    have HO5 : Hid (Orr 31 w.heap.size W5 (.slice (some ⟨b, 0, none⟩) ls.length cap) ls) := HO4.out.below al
    have HGX : Hid (g < X) := by rw [← hX]; exact HD4.out.dr.lt
    have HW5 : Hid (w4.alloc (Obj.cells #[.string ⟨#[120]⟩, .string ⟨#[49, 50, 51, 52, 53, 54, 55, 56, 57, 48, 49, 50, 51, 52, 53, 54, 55, 56, 57, 48]⟩] 9) = W5 ∧ w4.heap.size = X) := ⟨hW5, hX⟩
    clear hW5 hX al HD4 HO4
    go_wp2_with (fail)
    rw [HW5.out.1, HW5.out.2]
    refine (pick_c g cv zs _ [⟨#[120]⟩, ⟨#[49, 50, 51, 52, 53, 54, 55, 56, 57, 48, 49, 50, 51, 52, 53, 54, 55, 56, 57, 48]⟩] _ HD5.out.dr HR.out (.inr (by have := HGX.out; simp [Value.ownBlock]; omega)) (by decide) (by decide)).mono ?_
    rintro e w6 ⟨x, rfl, hx, d1, g1⟩
    have hxs : x.size ≤ 100 := by
      simp only [List.mem_cons, List.not_mem_nil, or_false] at hx
      rcases hx with rfl | rfl <;> decide
    have HD6 : Hid (Dc w w6 g cv zs) := HD5.out.draw d1 g1
    have HO6 : Hid (Orr 31 w.heap.size w6 (.slice (some ⟨b, 0, none⟩) ls.length cap) ls) := HO5.out.draw g1 HD5.out.lt
    clear d1 g1 hx HD5 HO5 HR HGX HW5
    have c6 : w6.cell? ⟨b, k * 6 + 5, none⟩ = some (.string ls[k].ad) := by have := World.ownsRow.cellAt HO6.out (k * 6 + 5) (by omega); rw [this]; exact (rr_at ls k hk).2.2.2.2.2
    have f6 : w6.frozen? ⟨b, k * 6 + 5, none⟩ = false := World.ownsRow.frozenAt HO6.out (k * 6 + 5)
    have HO7 : Hid (Orr 31 w.heap.size (w6.setCell ⟨b, k * 6 + 5, none⟩ (.string x)) (.slice (some ⟨b, 0, none⟩) ls.length cap) (ls.set k ((fun o : Rl => (⟨o.pre, o.le, o.mo, o.ro, o.st, x⟩ : Rl)) ls[k]))) := HO6.out.field k hk 5 (.string x) (fun o : Rl => (⟨o.pre, o.le, o.mo, o.ro, o.st, x⟩ : Rl)) (by decide) (fun o => rfl)
    have HD7 : Hid (Dc w (w6.setCell ⟨b, k * 6 + 5, none⟩ (.string x)) g cv zs) := HD6.out.app (fun k e => by have := HBW.out.1; have := Option.some.inj e; omega) (grown_set _ _ _ _)
    have HP7 : Hid (∀ r ∈ ls.set k ((fun o : Rl => (⟨o.pre, o.le, o.mo, o.ro, o.st, x⟩ : Rl)) ls[k]), r.pre.size ≤ 100 ∧ r.ad.size ≤ 100) := small_set HP.out k _ (by have := HPR.out; dsimp only; exact ⟨this.1, hxs⟩)
    have HL8 : Hid ((ls.set k ((fun o : Rl => (⟨o.pre, o.le, o.mo, o.ro, o.st, x⟩ : Rl)) ls[k])).length ≤ 7) := by rw [List.length_set]; exact HL7.out
    clear HD6 HO6
    go_wp2
    go_ret
    exact ⟨_, _, rfl, HO7.out, HL8.out, HP7.out, HD7.out⟩
end Go.Proofs.Ytpnglbnebkggkaa
