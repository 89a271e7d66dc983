/- The Mids in use at each switch; no condition. -/
import Derived.Test.YtikhfeafbckjlaaDoorFTz
import Derived.Test.YtikhfeafbckjlaaDoorFDef
import Derived.Test.YtikhfeafbckjlaaDoorFFind
namespace Go.Proofs.YtikhfeafbckjlaaDoor
open Go.RowKit Go.ChangeShapes Go.WideShapes Go.ChangeAt
set_option linter.unusedVariables false
set_option linter.unusedSimpArgs false
set_option maxRecDepth 8000
/-- the Mids in use at the switch i -/
def usedOf (g : Int × Int × Int → Int) (ps : Tri) (i : Nat) : Nat := ps.foldl (fun u x => if g x = (i : Int) then u ||| 2 ^ x.2.2.toNat else u) 0
theorem usedOf_snoc (g : Int × Int × Int → Int) (ps : Tri) (x : Int × Int × Int) (i : Nat) : usedOf g (ps ++ [x]) i = if g x = (i : Int) then usedOf g ps i ||| 2 ^ x.2.2.toNat else usedOf g ps i := by simp [usedOf]
theorem usedOf_bit (g : Int × Int × Int → Int) (i k : Nat) : ∀ (ps : Tri), (usedOf g ps i).testBit k = true ↔ ∃ x ∈ ps, g x = (i : Int) ∧ x.2.2.toNat = k := by
  have key : ∀ (ps : Tri) (u : Nat), (ps.foldl (fun u x => if g x = (i : Int) then u ||| 2 ^ x.2.2.toNat else u) u).testBit k = true ↔ (u.testBit k = true ∨ ∃ x ∈ ps, g x = (i : Int) ∧ x.2.2.toNat = k) := by
    intro ps
    induction ps with
    | nil => intro u; simp
    | cons x r ih =>
      intro u
      rw [List.foldl_cons, ih]
      by_cases hg : g x = (i : Int)
      · rw [if_pos hg, Nat.testBit_or, Nat.testBit_two_pow]
        simp only [Bool.or_eq_true, decide_eq_true_eq, List.mem_cons, exists_eq_or_imp, hg, true_and]
        constructor
        · rintro ((h | h) | h)
          · exact .inl h
          · exact .inr (.inl h)
          · exact .inr (.inr h)
        · rintro (h | h | h)
          · exact .inl (.inl h)
          · exact .inl (.inr h)
          · exact .inr h
      · rw [if_neg hg]
        simp only [List.mem_cons, exists_eq_or_imp, hg, false_and, false_or]
  intro ps
  rw [usedOf, key]
  simp
theorem usedOf_lt (g : Int × Int × Int → Int) (i : Nat) (ps : Tri) (h : ∀ x ∈ ps, x.2.2 < 16) : usedOf g ps i < 65536 := by
  have : usedOf g ps i < 2 ^ 16 := by
    apply Nat.lt_pow_two_of_testBit
    intro k hk
    cases hb : (usedOf g ps i).testBit k with
    | false => rfl
    | true =>
      obtain ⟨x, hx, -, e⟩ := (usedOf_bit g i k ps).1 hb
      have := h x hx
      omega
  exact this
abbrev U6 (u : Nat → Nat) : Array Value := #[.int .u16 (u 0 : Nat), .int .u16 (u 1 : Nat), .int .u16 (u 2 : Nat), .int .u16 (u 3 : Nat), .int .u16 (u 4 : Nat), .int .u16 (u 5 : Nat)]
theorem U6_at (u : Nat → Nat) (k : Nat) (h : k < 6) : (U6 u)[k]? = some (.int .u16 (u k : Nat)) := by
  match k, h with
  | 0, _ => rfl
  | 1, _ => rfl
  | 2, _ => rfl
  | 3, _ => rfl
  | 4, _ => rfl
  | 5, _ => rfl
theorem U6_set (u u' : Nat → Nat) (k : Nat) (h : k < 6) (hk : ∀ i, i < 6 → i ≠ k → u' i = u i) : (U6 u).setIfInBounds k (.int .u16 (u' k : Nat)) = U6 u' := by
  match k, h with
  | 0, _ => simp [U6, hk 1 (by decide) (by decide), hk 2 (by decide) (by decide), hk 3 (by decide) (by decide), hk 4 (by decide) (by decide), hk 5 (by decide) (by decide)]
  | 1, _ => simp [U6, hk 0 (by decide) (by decide), hk 2 (by decide) (by decide), hk 3 (by decide) (by decide), hk 4 (by decide) (by decide), hk 5 (by decide) (by decide)]
  | 2, _ => simp [U6, hk 1 (by decide) (by decide), hk 0 (by decide) (by decide), hk 3 (by decide) (by decide), hk 4 (by decide) (by decide), hk 5 (by decide) (by decide)]
  | 3, _ => simp [U6, hk 1 (by decide) (by decide), hk 2 (by decide) (by decide), hk 0 (by decide) (by decide), hk 4 (by decide) (by decide), hk 5 (by decide) (by decide)]
  | 4, _ => simp [U6, hk 1 (by decide) (by decide), hk 2 (by decide) (by decide), hk 3 (by decide) (by decide), hk 0 (by decide) (by decide), hk 5 (by decide) (by decide)]
  | 5, _ => simp [U6, hk 1 (by decide) (by decide), hk 2 (by decide) (by decide), hk 3 (by decide) (by decide), hk 4 (by decide) (by decide), hk 0 (by decide) (by decide)]
theorem size64 : (Tryd.prog.info? 64).map (·.size) = some 6 := by kernel_rfl
theorem results_66 {fn : Func} {p u : Tmp} (h : fn.results = #[.cell p 64, .cell u 64]) (tmps : Array Value) (w : World) (g g' : Nat) (a b : Nat → Nat)
    (hp : tmps.getD p undef = .pointer (some ⟨g, 0, none⟩)) (hu : tmps.getD u undef = .pointer (some ⟨g', 0, none⟩)) (hg : Blk w g (U6 a) 64) (hg' : Blk w g' (U6 b) 64) :
    (results fn tmps).run Tryd.prog w = .ok (.tuple #[.agg (U6 a), .agg (U6 b)]) w := by
  have hp' : tmps[p]?.getD undef = .pointer (some ⟨g, 0, none⟩) := by simpa using hp
  have hu' : tmps[u]?.getD undef = .pointer (some ⟨g', 0, none⟩) := by simpa using hu
  have hr := run_loadVar_row (P := Tryd.prog) w g 64 64 (U6 a) (0, 0) _ hg Tryd.underlying64 rfl size64
  have hr' := run_loadVar_row (P := Tryd.prog) w g' 64 64 (U6 b) (0, 0) _ hg' Tryd.underlying64 rfl size64
  simp [results, h, hp', hu', asAddr, hr, hr']
theorem swof {s p x : Int} (h1 : 1 ≤ s ∧ s ≤ 6) (h2 : 1 ≤ p ∧ p ≤ 4) (hx : FEnd (s * p) x) : ∃ k : Nat, x / p = (k : Int) ∧ k < 6 := by
  have h0 : 0 ≤ x / p := Int.ediv_nonneg hx.1 (by omega)
  have h6 : x / p < s := by
    apply Int.ediv_lt_of_lt_mul (by omega)
    have := hx.2
    omega
  exact ⟨(x / p).toNat, by omega, by omega⟩
set_option maxHeartbeats 3200000 in
theorem mids_c (s p m : Int) (v : Value) (ps : Tri) (w : World) (h : Rt w v ps) (hok : FOk s p m ps) :
   Calls Tryd.prog 40 #[.agg (F4 s p m v)] w fun e w' => e = .returned (.tuple #[.agg (U6 (usedOf (fun x => x.1 / p) ps)), .agg (U6 (usedOf (fun x => x.2.1 / p) ps))]) ∧ Below w.heap.size w w' := by
  obtain ⟨W3, hW3⟩ : ∃ W3, (((w.alloc (Obj.cells (F4 s p m v) 26)).alloc (Obj.cells #[.int .u16 0, .int .u16 0, .int .u16 0, .int .u16 0, .int .u16 0, .int .u16 0] 64)).alloc (Obj.cells #[.int .u16 0, .int .u16 0, .int .u16 0, .int .u16 0, .int .u16 0, .int .u16 0] 64)) = W3 := ⟨_, rfl⟩
  have k0 : Blk W3 w.heap.size (F4 s p m v) 26 := hW3 ▸ ((Blk.new _ _ _).alloc _).alloc _
  have k1 : Blk W3 (w.heap.size + 1) (U6 (usedOf (fun x => x.1 / p) (ps.take 0))) 64 := by
    have : Blk W3 (w.heap.size + 1) #[.int .u16 0, .int .u16 0, .int .u16 0, .int .u16 0, .int .u16 0, .int .u16 0] 64 := hW3 ▸ (Blk.newAt _ _ _ _ (by simp)).alloc _
    simpa [U6, usedOf] using this
  have k2 : Blk W3 (w.heap.size + 1 + 1) (U6 (usedOf (fun x => x.2.1 / p) (ps.take 0))) 64 := by
    have : Blk W3 (w.heap.size + 1 + 1) #[.int .u16 0, .int .u16 0, .int .u16 0, .int .u16 0, .int .u16 0, .int .u16 0] 64 := hW3 ▸ Blk.newAt _ _ _ _ (by simp)
    simpa [U6, usedOf] using this
  have bl : Below w.heap.size w W3 := hW3 ▸ (((Below.refl _ _).alloc (Nat.le_refl _) _).alloc (by simp) _).alloc (by simp; omega) _
  have HK : Hid (Blk W3 w.heap.size (F4 s p m v) 26 ∧ Blk W3 (w.heap.size + 1) (U6 (usedOf (fun x => x.1 / p) (ps.take 0))) 64 ∧ Blk W3 (w.heap.size + 1 + 1) (U6 (usedOf (fun x => x.2.1 / p) (ps.take 0))) 64 ∧ Below w.heap.size w W3) := ⟨k0, k1, k2, bl⟩
  have HOK : Hid (FOk s p m ps) := hok
  have c3 := k0.cell 3
  simp at c3
  obtain ⟨hs, hp, hm, -⟩ := hok
  obtain ⟨hp1, hp4⟩ := hp
  have hp0 : p ≠ 0 := by omega
  obtain ⟨a, cap, rfl, h1, h2, h3⟩ := h
  unfold maxLen at h2
  have HW3 : Hid ((((w.alloc (Obj.cells (F4 s p m (.slice a ps.length cap)) 26)).alloc (Obj.cells #[.int .u16 0, .int .u16 0, .int .u16 0, .int .u16 0, .int .u16 0, .int .u16 0] 64)).alloc (Obj.cells #[.int .u16 0, .int .u16 0, .int .u16 0, .int .u16 0, .int .u16 0, .int .u16 0] 64)) = W3) := hW3
  clear k0 k1 k2 bl hW3
  go_enter Tryd.func40, Tryd.ntmps40
  go_wp2
  rw [HW3.out]
  clear HW3 c3
  go_loopw [9] (fun i wr => ∃ j : Nat, j ≤ ps.length ∧ i = .int .i64 j ∧ Hid (Blk wr w.heap.size (F4 s p m (.slice a ps.length cap)) 26 ∧ Blk wr (w.heap.size + 1) (U6 (usedOf (fun x => x.1 / p) (ps.take j))) 64 ∧ Blk wr (w.heap.size + 1 + 1) (U6 (usedOf (fun x => x.2.1 / p) (ps.take j))) 64 ∧ Below w.heap.size w wr)) (fun i _ => ps.length - (intOf i).toNat)
  case atStart => exact ⟨0, Nat.zero_le _, rfl, HK.out⟩
  case round =>
    obtain ⟨j, hj, rfl, hD⟩ := hrel
    by_cases hlt : j < ps.length
    case neg =>
      obtain rfl : j = ps.length := by omega
      have HD : Hid (Blk wr (w.heap.size + 1) (U6 (usedOf (fun x => x.1 / p) ps)) 64 ∧ Blk wr (w.heap.size + 1 + 1) (U6 (usedOf (fun x => x.2.1 / p) ps)) 64 ∧ Below w.heap.size w wr) := by have := hD.out.2; rw [List.take_length] at this; exact this
      clear h3 hD
      obtain ⟨u, hu⟩ : ∃ u, usedOf (fun x => x.1 / p) ps = u := ⟨_, rfl⟩
      obtain ⟨u', hu'⟩ : ∃ u, usedOf (fun x => x.2.1 / p) ps = u := ⟨_, rfl⟩
      rw [hu, hu'] at HD
      have HU : Hid (usedOf (fun x => x.1 / p) ps = u ∧ usedOf (fun x => x.2.1 / p) ps = u') := ⟨hu, hu'⟩
      clear hu hu'
      obtain ⟨S, hS⟩ : ∃ S : World → Prop, ∀ W, S W ↔ (Blk W (w.heap.size + 1) (U6 u) 64 ∧ Blk W (w.heap.size + 1 + 1) (U6 u') 64 ∧ Below w.heap.size w W) := ⟨_, fun _ => Iff.rfl⟩
      have HSI : Hid (∀ W, S W ↔ (Blk W (w.heap.size + 1) (U6 u) 64 ∧ Blk W (w.heap.size + 1 + 1) (U6 u') 64 ∧ Below w.heap.size w W)) := hS
      have ne : Nonempty (At S) := ⟨⟨wr, (hS _).2 HD.out⟩⟩
      have z0 : ∀ W : At S, W.wd.cell? ⟨w.heap.size + 1, 0, none⟩ = some (.int .u16 (u 0 : Nat)) := fun W => (((hS _).1 W.ok).1.cell 0).trans (U6_at u 0 (by decide))
      have x0 : ∀ W : At S, W.wd.cell? ⟨w.heap.size + 1 + 1, 0, none⟩ = some (.int .u16 (u' 0 : Nat)) := fun W => (((hS _).1 W.ok).2.1.cell 0).trans (U6_at u' 0 (by decide))
      have z1 : ∀ W : At S, W.wd.cell? ⟨w.heap.size + 1, 1, none⟩ = some (.int .u16 (u 1 : Nat)) := fun W => (((hS _).1 W.ok).1.cell 1).trans (U6_at u 1 (by decide))
      have x1 : ∀ W : At S, W.wd.cell? ⟨w.heap.size + 1 + 1, 1, none⟩ = some (.int .u16 (u' 1 : Nat)) := fun W => (((hS _).1 W.ok).2.1.cell 1).trans (U6_at u' 1 (by decide))
      have z2 : ∀ W : At S, W.wd.cell? ⟨w.heap.size + 1, 2, none⟩ = some (.int .u16 (u 2 : Nat)) := fun W => (((hS _).1 W.ok).1.cell 2).trans (U6_at u 2 (by decide))
      have x2 : ∀ W : At S, W.wd.cell? ⟨w.heap.size + 1 + 1, 2, none⟩ = some (.int .u16 (u' 2 : Nat)) := fun W => (((hS _).1 W.ok).2.1.cell 2).trans (U6_at u' 2 (by decide))
      have z3 : ∀ W : At S, W.wd.cell? ⟨w.heap.size + 1, 3, none⟩ = some (.int .u16 (u 3 : Nat)) := fun W => (((hS _).1 W.ok).1.cell 3).trans (U6_at u 3 (by decide))
      have x3 : ∀ W : At S, W.wd.cell? ⟨w.heap.size + 1 + 1, 3, none⟩ = some (.int .u16 (u' 3 : Nat)) := fun W => (((hS _).1 W.ok).2.1.cell 3).trans (U6_at u' 3 (by decide))
      have z4 : ∀ W : At S, W.wd.cell? ⟨w.heap.size + 1, 4, none⟩ = some (.int .u16 (u 4 : Nat)) := fun W => (((hS _).1 W.ok).1.cell 4).trans (U6_at u 4 (by decide))
      have x4 : ∀ W : At S, W.wd.cell? ⟨w.heap.size + 1 + 1, 4, none⟩ = some (.int .u16 (u' 4 : Nat)) := fun W => (((hS _).1 W.ok).2.1.cell 4).trans (U6_at u' 4 (by decide))
      have z5 : ∀ W : At S, W.wd.cell? ⟨w.heap.size + 1, 5, none⟩ = some (.int .u16 (u 5 : Nat)) := fun W => (((hS _).1 W.ok).1.cell 5).trans (U6_at u 5 (by decide))
      have x5 : ∀ W : At S, W.wd.cell? ⟨w.heap.size + 1 + 1, 5, none⟩ = some (.int .u16 (u' 5 : Nat)) := fun W => (((hS _).1 W.ok).2.1.cell 5).trans (U6_at u' 5 (by decide))
      clear hS
      have E1 : Hid (∀ W, S W → S ((((((W.setCell ⟨w.heap.size + 1, 0, none⟩ (.int .u16 (u 0 : Nat))).setCell ⟨w.heap.size + 1, 1, none⟩ (.int .u16 (u 1 : Nat))).setCell ⟨w.heap.size + 1, 2, none⟩ (.int .u16 (u 2 : Nat))).setCell ⟨w.heap.size + 1, 3, none⟩ (.int .u16 (u 3 : Nat))).setCell ⟨w.heap.size + 1, 4, none⟩ (.int .u16 (u 4 : Nat))).setCell ⟨w.heap.size + 1, 5, none⟩ (.int .u16 (u 5 : Nat)))) := fun W hW => by
        obtain ⟨k1, k2, k3⟩ := (HSI.out _).1 hW
        refine (HSI.out _).2 ⟨?_, ?_, ?_⟩
        · have := (((((k1.set 0 (.int .u16 (u 0 : Nat))).set 1 (.int .u16 (u 1 : Nat))).set 2 (.int .u16 (u 2 : Nat))).set 3 (.int .u16 (u 3 : Nat))).set 4 (.int .u16 (u 4 : Nat))).set 5 (.int .u16 (u 5 : Nat))
          simpa using this
        · exact (((((k2.other _ _ (by dsimp only; omega)).other _ _ (by dsimp only; omega)).other _ _ (by dsimp only; omega)).other _ _ (by dsimp only; omega)).other _ _ (by dsimp only; omega)).other _ _ (by dsimp only; omega)
        · exact (((((k3.setCell (by dsimp only; omega) _).setCell (by dsimp only; omega) _).setCell (by dsimp only; omega) _).setCell (by dsimp only; omega) _).setCell (by dsimp only; omega) _).setCell (by dsimp only; omega) _
      have E2 : Hid (∀ W, S W → S ((((((W.setCell ⟨w.heap.size + 1 + 1, 0, none⟩ (.int .u16 (u' 0 : Nat))).setCell ⟨w.heap.size + 1 + 1, 1, none⟩ (.int .u16 (u' 1 : Nat))).setCell ⟨w.heap.size + 1 + 1, 2, none⟩ (.int .u16 (u' 2 : Nat))).setCell ⟨w.heap.size + 1 + 1, 3, none⟩ (.int .u16 (u' 3 : Nat))).setCell ⟨w.heap.size + 1 + 1, 4, none⟩ (.int .u16 (u' 4 : Nat))).setCell ⟨w.heap.size + 1 + 1, 5, none⟩ (.int .u16 (u' 5 : Nat)))) := fun W hW => by
        obtain ⟨k1, k2, k3⟩ := (HSI.out _).1 hW
        refine (HSI.out _).2 ⟨?_, ?_, ?_⟩
        · exact (((((k1.other _ _ (by dsimp only; omega)).other _ _ (by dsimp only; omega)).other _ _ (by dsimp only; omega)).other _ _ (by dsimp only; omega)).other _ _ (by dsimp only; omega)).other _ _ (by dsimp only; omega)
        · have := (((((k2.set 0 (.int .u16 (u' 0 : Nat))).set 1 (.int .u16 (u' 1 : Nat))).set 2 (.int .u16 (u' 2 : Nat))).set 3 (.int .u16 (u' 3 : Nat))).set 4 (.int .u16 (u' 4 : Nat))).set 5 (.int .u16 (u' 5 : Nat))
          simpa using this
        · exact (((((k3.setCell (by dsimp only; omega) _).setCell (by dsimp only; omega) _).setCell (by dsimp only; omega) _).setCell (by dsimp only; omega) _).setCell (by dsimp only; omega) _).setCell (by dsimp only; omega) _
      go_wp2
      have HS0 : Hid (S wr.drew) := (HSI.out _).2 ⟨HD.out.1.drew, HD.out.2.1.drew, HD.out.2.2.drew⟩
      refine region_mixA [true, true, false, false] 3 1 S (by kernel_rfl) rfl (by kernel_rfl) (fun _ _ _ _ _ h => h) HS0.out ?_
      simp only [selT, selF]
      repeat (go_big_quiet_step (fail))
      refine wpQuiet_nil ?_
      clear ne z0 z1 z2 z3 z4 z5 x0 x1 x2 x3 x4 x5
      obtain ⟨w5, hw5⟩ : ∃ w5, wr.drew = w5 := ⟨_, rfl⟩
      rw [hw5] at HS0 ⊢
      clear hw5 HD
      obtain ⟨k1, k2, -⟩ := (HSI.out _).1 HS0.out
      have HS1 : Hid (S ((((((w5.setCell ⟨w.heap.size + 1, 0, none⟩ (.int .u16 (u 0 : Nat))).setCell ⟨w.heap.size + 1, 1, none⟩ (.int .u16 (u 1 : Nat))).setCell ⟨w.heap.size + 1, 2, none⟩ (.int .u16 (u 2 : Nat))).setCell ⟨w.heap.size + 1, 3, none⟩ (.int .u16 (u 3 : Nat))).setCell ⟨w.heap.size + 1, 4, none⟩ (.int .u16 (u 4 : Nat))).setCell ⟨w.heap.size + 1, 5, none⟩ (.int .u16 (u 5 : Nat)))) := E1.out w5 HS0.out
      have HS2 : Hid (S ((((((((((((w5.setCell ⟨w.heap.size + 1, 0, none⟩ (.int .u16 (u 0 : Nat))).setCell ⟨w.heap.size + 1, 1, none⟩ (.int .u16 (u 1 : Nat))).setCell ⟨w.heap.size + 1, 2, none⟩ (.int .u16 (u 2 : Nat))).setCell ⟨w.heap.size + 1, 3, none⟩ (.int .u16 (u 3 : Nat))).setCell ⟨w.heap.size + 1, 4, none⟩ (.int .u16 (u 4 : Nat))).setCell ⟨w.heap.size + 1, 5, none⟩ (.int .u16 (u 5 : Nat))).setCell ⟨w.heap.size + 1 + 1, 0, none⟩ (.int .u16 (u' 0 : Nat))).setCell ⟨w.heap.size + 1 + 1, 1, none⟩ (.int .u16 (u' 1 : Nat))).setCell ⟨w.heap.size + 1 + 1, 2, none⟩ (.int .u16 (u' 2 : Nat))).setCell ⟨w.heap.size + 1 + 1, 3, none⟩ (.int .u16 (u' 3 : Nat))).setCell ⟨w.heap.size + 1 + 1, 4, none⟩ (.int .u16 (u' 4 : Nat))).setCell ⟨w.heap.size + 1 + 1, 5, none⟩ (.int .u16 (u' 5 : Nat)))) := E2.out _ HS1.out
      have g0 := (k1.cell 0).trans (U6_at u 0 (by decide))
      have h0 := (k2.cell 0).trans (U6_at u' 0 (by decide))
      have gf0 := k1.frozen 0
      have hf0 := k2.frozen 0
      have g1 := (k1.cell 1).trans (U6_at u 1 (by decide))
      have h1 := (k2.cell 1).trans (U6_at u' 1 (by decide))
      have gf1 := k1.frozen 1
      have hf1 := k2.frozen 1
      have g2 := (k1.cell 2).trans (U6_at u 2 (by decide))
      have h2 := (k2.cell 2).trans (U6_at u' 2 (by decide))
      have gf2 := k1.frozen 2
      have hf2 := k2.frozen 2
      have g3 := (k1.cell 3).trans (U6_at u 3 (by decide))
      have h3 := (k2.cell 3).trans (U6_at u' 3 (by decide))
      have gf3 := k1.frozen 3
      have hf3 := k2.frozen 3
      have g4 := (k1.cell 4).trans (U6_at u 4 (by decide))
      have h4 := (k2.cell 4).trans (U6_at u' 4 (by decide))
      have gf4 := k1.frozen 4
      have hf4 := k2.frozen 4
      have g5 := (k1.cell 5).trans (U6_at u 5 (by decide))
      have h5 := (k2.cell 5).trans (U6_at u' 5 (by decide))
      have gf5 := k1.frozen 5
      have hf5 := k2.frozen 5
      clear k1 k2 E1 E2
      refine tail_step ?_
      go_wp2
      refine ⟨HS1.out, tail_end ?_⟩
      go_wp2
      obtain ⟨r1, r2, r3⟩ := (HSI.out _).1 HS2.out
      exact bodyPost_ret (results_66 rfl _ _ _ _ _ _ rfl rfl r1 r2) rfl ⟨by rw [HU.out.1, HU.out.2], r3⟩
    case pos =>
    rcases h3 with h3 | ⟨b, off, rfl, h4⟩
    · subst h3; simp at hlt
    have hc := h4 j hlt
    have hcb : b < w.heap.size := block_lt_of_cell hc.1
    obtain ⟨x, ex⟩ : ∃ x, ps[j].1 = x := ⟨_, rfl⟩
    obtain ⟨y, ey⟩ : ∃ y, ps[j].2.1 = y := ⟨_, rfl⟩
    obtain ⟨z, ez⟩ : ∃ z, ps[j].2.2 = z := ⟨_, rfl⟩
    have HX : Hid (ps[j] = (x, y, z)) := by rw [← ex, ← ey, ← ez]; rfl
    have hin := (HOK.out.2.2.2 j hlt hlt).1
    rw [HX.out] at hin
    obtain ⟨k, hk, hk6⟩ := swof hs ⟨hp1, hp4⟩ hin.1
    obtain ⟨k', hk', hk6'⟩ := swof hs ⟨hp1, hp4⟩ hin.2.1
    have hx0 : 0 ≤ x := hin.1.1
    have hy0 : 0 ≤ y := hin.2.1.1
    have hx2 : x ≤ 23 := by have := hin.1.2; have := sides hs ⟨hp1, hp4⟩; dsimp only at *; omega
    have hy2 : y ≤ 23 := by have := hin.2.1.2; have := sides hs ⟨hp1, hp4⟩; dsimp only at *; omega
    have hz0 : 0 ≤ z := hin.2.2.1
    have hz2 : z ≤ 11 := by have := hin.2.2.2; dsimp only at this; omega
    have hlts : ∀ t ∈ ps.take j, t.2.2 < 16 := fun t ht => by
      obtain ⟨i, hi, rfl⟩ := List.getElem_of_mem (List.mem_of_mem_take ht)
      have := (HOK.out.2.2.2 i hi hi).1.2.2
      omega
    obtain ⟨u, hu⟩ : ∃ u, usedOf (fun x => x.1 / p) (ps.take j) = u := ⟨_, rfl⟩
    obtain ⟨u', hu'⟩ : ∃ u, usedOf (fun x => x.2.1 / p) (ps.take j) = u := ⟨_, rfl⟩
    have hul : u k < 65536 := hu ▸ usedOf_lt _ _ _ hlts
    have hul' : u' k' < 65536 := hu' ▸ usedOf_lt _ _ _ hlts
    have htk : ps.take (j + 1) = ps.take j ++ [ps[j]] := List.take_succ_eq_append_getElem hlt
    have e1 : ∀ i : Nat, usedOf (fun x => x.1 / p) (ps.take (j + 1)) i = if i = k then u k ||| 2 ^ z.toNat else u i := fun i => by
      rw [htk, usedOf_snoc, hu, HX.out]
      dsimp only
      rw [hk]
      by_cases hik : i = k
      · subst hik; simp
      · rw [if_neg (by omega), if_neg hik]
    have e2 : ∀ i : Nat, usedOf (fun x => x.2.1 / p) (ps.take (j + 1)) i = if i = k' then u' k' ||| 2 ^ z.toNat else u' i := fun i => by
      rw [htk, usedOf_snoc, hu', HX.out]
      dsimp only
      rw [hk']
      by_cases hik : i = k'
      · subst hik; simp
      · rw [if_neg (by omega), if_neg hik]
    have HE : Hid ((∀ i : Nat, usedOf (fun x => x.1 / p) (ps.take (j + 1)) i = if i = k then u k ||| 2 ^ z.toNat else u i) ∧ ∀ i : Nat, usedOf (fun x => x.2.1 / p) (ps.take (j + 1)) i = if i = k' then u' k' ||| 2 ^ z.toNat else u' i) := ⟨e1, e2⟩
    obtain ⟨q0, q1, q2, q3⟩ := hD.out
    rw [hu] at q1
    rw [hu'] at q2
    rw [ex, ey, ez] at hc
    have c0 := (q3.cell (p := ⟨b, off + j * 3, none⟩) hcb).trans hc.1
    have c1 := (q3.cell (p := ⟨b, off + j * 3 + 1, none⟩) hcb).trans hc.2.1
    have c2 := (q3.cell (p := ⟨b, off + j * 3 + 2, none⟩) hcb).trans hc.2.2
    obtain ⟨W4, hW4⟩ : ∃ W4, wr.alloc (Obj.cells (P3 x y z) 35) = W4 := ⟨_, rfl⟩
    have b4 : Below wr.heap.size wr W4 := hW4 ▸ (Below.refl _ _).alloc (Nat.le_refl _) _
    have x0 := q0.below b4 q0.lt
    have x1 := q1.below b4 q1.lt
    have x2 := q2.below b4 q2.lt
    have x3 : Blk W4 wr.heap.size (P3 x y z) 35 := hW4 ▸ Blk.new _ _ _
    have xb := q3.trans (b4.mono q3.size)
    have HW4 : Hid (wr.alloc (Obj.cells (P3 x y z) 35) = W4) := hW4
    have hbig : w.heap.size + 1 + 1 < wr.heap.size := q2.lt
    have hpz : 2 ^ z.toNat < 65536 := by
      have : 2 ^ z.toNat < 2 ^ 16 := Nat.pow_lt_pow_right (by decide) (by omega)
      exact this
    have y0 := x0.cell 1
    have y1 := (x1.cell k).trans (U6_at u k hk6)
    have y2 := (x2.cell k').trans (U6_at u' k' hk6')
    have y3 := x3.cell 0
    have y4 := x3.cell 1
    have y5 := x3.cell 2
    simp at y0 y3 y4 y5
    have f1 := x1.frozen k
    have f2 := x2.frozen k'
    clear ex ey ez hc h4 hD e1 e2 hu hu' htk hlts hin hW4
    have HQ : Hid (Blk W4 w.heap.size (F4 s p m (.slice (some ⟨b, off, none⟩) ps.length cap)) 26 ∧ Blk W4 (w.heap.size + 1) (U6 u) 64 ∧ Blk W4 (w.heap.size + 1 + 1) (U6 u') 64 ∧ Below w.heap.size w W4) := ⟨x0, x1, x2, xb⟩
    clear x0 x1 x2 xb b4 q0 q1 q2 q3
    go_wp2
    rw [HW4.out]
    obtain ⟨S, hS⟩ : ∃ S : World → Prop, ∀ W, S W ↔ Below W4.heap.size W4 W := ⟨_, fun _ => Iff.rfl⟩
    have HS0 : Hid (S W4.drew) := (hS _).2 (Below.refl _ _).drew
    have ne : Nonempty (At S) := ⟨⟨_, HS0.out⟩⟩
    have z0 : ∀ W : At S, W.wd.cell? ⟨w.heap.size, 1, none⟩ = some (.int .i64 p) := fun W => (((hS _).1 W.ok).cell (block_lt_of_cell y0)).trans y0
    have z1 : ∀ W : At S, W.wd.cell? ⟨w.heap.size + 1, k, none⟩ = some (.int .u16 (u k)) := fun W => (((hS _).1 W.ok).cell (block_lt_of_cell y1)).trans y1
    have z3 : ∀ W : At S, W.wd.cell? ⟨wr.heap.size, 0, none⟩ = some (.int .i64 x) := fun W => (((hS _).1 W.ok).cell (block_lt_of_cell y3)).trans y3
    have z5 : ∀ W : At S, W.wd.cell? ⟨wr.heap.size, 2, none⟩ = some (.int .i64 z) := fun W => (((hS _).1 W.ok).cell (block_lt_of_cell y5)).trans y5
    refine region_mixA [true, true, true, true, true, true, true, true, true, true, true, true, false] 12 0 S (by kernel_rfl) rfl (by kernel_rfl) (fun _ _ _ _ _ h => h) HS0.out ?_
    simp only [selT, selF]
    repeat (go_big_quiet_step (fail))
    refine wpQuiet_nil ?_
    refine tail_end ?_
    clear ne z0 z1 z3 z5 HS0 hS S
    have HOR : Hid (∀ n : Nat, n < 65536 → bits BinOp.or IntKind.u16 (n : Int) (IntKind.u16.wrap (2 ^ z.toNat)) = ((n ||| 2 ^ z.toNat : Nat) : Int)) := fun n hn => by
      have e : IntKind.u16.wrap (2 ^ z.toNat) = ((2 ^ z.toNat : Nat) : Int) := by
        have e0 : (2 : Int) ^ z.toNat = ((2 ^ z.toNat : Nat) : Int) := by simp
        rw [e0, wrap_u16a]
        generalize 2 ^ z.toNat = q at hpz
        omega
      rw [e, bits_or_u16_nat n _ hn hpz]
    rw [HOR.out (u k) hul]
    obtain ⟨o1, ho1⟩ : ∃ o, u k ||| 2 ^ z.toNat = o := ⟨_, rfl⟩
    obtain ⟨o2, ho2⟩ : ∃ o, u' k' ||| 2 ^ z.toNat = o := ⟨_, rfl⟩
    rw [ho1]
    rw [ho1, ho2] at HE
    have HO2 : Hid (bits BinOp.or IntKind.u16 (u' k' : Int) (IntKind.u16.wrap (2 ^ z.toNat)) = (o2 : Int)) := by have := HOR.out (u' k') hul'; rw [ho2] at this; exact this
    clear ho1 ho2 HOR
    have HP : Hid (Blk W4 wr.heap.size (P3 x y z) 35) := x3
    clear x3
    obtain ⟨W5, hW5⟩ : ∃ W5, W4.drew = W5 := ⟨_, rfl⟩
    have Q5 : Blk W5 w.heap.size (F4 s p m (.slice (some ⟨b, off, none⟩) ps.length cap)) 26 ∧ Blk W5 (w.heap.size + 1) (U6 u) 64 ∧ Blk W5 (w.heap.size + 1 + 1) (U6 u') 64 ∧ Below w.heap.size w W5 ∧ Blk W5 wr.heap.size (P3 x y z) 35 := hW5 ▸ ⟨HQ.out.1.drew, HQ.out.2.1.drew, HQ.out.2.2.1.drew, HQ.out.2.2.2.drew, HP.out.drew⟩
    rw [hW5]
    clear hW5 HQ HP y0 y1 y2 y3 y4 y5 f1 f2 HW4
    obtain ⟨W6, hW6⟩ : ∃ W6, W5.setCell ⟨w.heap.size + 1, k, none⟩ (.int .u16 (o1 : Nat)) = W6 := ⟨_, rfl⟩
    have HQ6 : Hid (Blk W6 w.heap.size (F4 s p m (.slice (some ⟨b, off, none⟩) ps.length cap)) 26 ∧ Blk W6 (w.heap.size + 1) (U6 (usedOf (fun x => x.1 / p) (ps.take (j + 1)))) 64 ∧ Blk W6 (w.heap.size + 1 + 1) (U6 u') 64 ∧ Below w.heap.size w W6 ∧ Blk W6 wr.heap.size (P3 x y z) 35) := by
      obtain ⟨a1, a2, a3, a4, a5⟩ := Q5
      refine hW6 ▸ ⟨a1.other _ _ (by dsimp only; omega), ?_, a3.other _ _ (by dsimp only; omega), a4.setCell (by dsimp only; omega) _, a5.other _ _ (by dsimp only; omega)⟩
      have e := U6_set u (usedOf (fun x => x.1 / p) (ps.take (j + 1))) k hk6 (fun i _ hi => by rw [HE.out.1 i, if_neg hi])
      have hv : usedOf (fun x => x.1 / p) (ps.take (j + 1)) k = o1 := by rw [HE.out.1 k, if_pos rfl]
      have := a2.set k (.int .u16 (usedOf (fun x => x.1 / p) (ps.take (j + 1)) k : Nat))
      rw [e, hv] at this
      exact this
    have g1 := (Q5.2.1.cell k).trans (U6_at u k hk6)
    have gf1 := Q5.2.1.frozen k
    have HW6 : Hid (W5.setCell ⟨w.heap.size + 1, k, none⟩ (.int .u16 (o1 : Nat)) = W6) := hW6
    clear Q5 hW6
    go_wp2
    rw [HW6.out]
    clear HW6 g1 gf1
    have y0 := HQ6.out.1.cell 1
    have y2 := (HQ6.out.2.2.1.cell k').trans (U6_at u' k' hk6')
    have y3 := HQ6.out.2.2.2.2.cell 1
    have y5 := HQ6.out.2.2.2.2.cell 2
    simp at y0 y3 y5
    obtain ⟨S, hS⟩ : ∃ S : World → Prop, ∀ W, S W ↔ Below W6.heap.size W6 W := ⟨_, fun _ => Iff.rfl⟩
    have HS0 : Hid (S W6.drew) := (hS _).2 (Below.refl _ _).drew
    have ne : Nonempty (At S) := ⟨⟨_, HS0.out⟩⟩
    have z0 : ∀ W : At S, W.wd.cell? ⟨w.heap.size, 1, none⟩ = some (.int .i64 p) := fun W => (((hS _).1 W.ok).cell (block_lt_of_cell y0)).trans y0
    have z2 : ∀ W : At S, W.wd.cell? ⟨w.heap.size + 1 + 1, k', none⟩ = some (.int .u16 (u' k')) := fun W => (((hS _).1 W.ok).cell (block_lt_of_cell y2)).trans y2
    have z3 : ∀ W : At S, W.wd.cell? ⟨wr.heap.size, 1, none⟩ = some (.int .i64 y) := fun W => (((hS _).1 W.ok).cell (block_lt_of_cell y3)).trans y3
    have z5 : ∀ W : At S, W.wd.cell? ⟨wr.heap.size, 2, none⟩ = some (.int .i64 z) := fun W => (((hS _).1 W.ok).cell (block_lt_of_cell y5)).trans y5
    refine region_mixA [true, true, true, true, true, true, true, true, true, true, true, true, false] 12 0 S (by kernel_rfl) rfl (by kernel_rfl) (fun _ _ _ _ _ h => h) HS0.out ?_
    simp only [selT, selF]
    repeat (go_big_quiet_step (fail))
    refine wpQuiet_nil ?_
    refine tail_end ?_
    clear ne z0 z2 z3 z5 HS0 hS S y0 y2 y3 y5
    rw [HO2.out]
    obtain ⟨W7, hW7⟩ : ∃ W7, W6.drew = W7 := ⟨_, rfl⟩
    have Q7 : Blk W7 w.heap.size (F4 s p m (.slice (some ⟨b, off, none⟩) ps.length cap)) 26 ∧ Blk W7 (w.heap.size + 1) (U6 (usedOf (fun x => x.1 / p) (ps.take (j + 1)))) 64 ∧ Blk W7 (w.heap.size + 1 + 1) (U6 u') 64 ∧ Below w.heap.size w W7 := hW7 ▸ ⟨HQ6.out.1.drew, HQ6.out.2.1.drew, HQ6.out.2.2.1.drew, HQ6.out.2.2.2.1.drew⟩
    rw [hW7]
    clear hW7 HQ6
    have HQ8 : Hid (Blk (W7.setCell ⟨w.heap.size + 1 + 1, k', none⟩ (.int .u16 (o2 : Nat))) w.heap.size (F4 s p m (.slice (some ⟨b, off, none⟩) ps.length cap)) 26 ∧ Blk (W7.setCell ⟨w.heap.size + 1 + 1, k', none⟩ (.int .u16 (o2 : Nat))) (w.heap.size + 1) (U6 (usedOf (fun x => x.1 / p) (ps.take (j + 1)))) 64 ∧ Blk (W7.setCell ⟨w.heap.size + 1 + 1, k', none⟩ (.int .u16 (o2 : Nat))) (w.heap.size + 1 + 1) (U6 (usedOf (fun x => x.2.1 / p) (ps.take (j + 1)))) 64 ∧ Below w.heap.size w (W7.setCell ⟨w.heap.size + 1 + 1, k', none⟩ (.int .u16 (o2 : Nat)))) := by
      obtain ⟨a1, a2, a3, a4⟩ := Q7
      refine ⟨a1.other _ _ (by dsimp only; omega), a2.other _ _ (by dsimp only; omega), ?_, a4.setCell (by dsimp only; omega) _⟩
      have e := U6_set u' (usedOf (fun x => x.2.1 / p) (ps.take (j + 1))) k' hk6' (fun i _ hi => by rw [HE.out.2 i, if_neg hi])
      have hv : usedOf (fun x => x.2.1 / p) (ps.take (j + 1)) k' = o2 := by rw [HE.out.2 k', if_pos rfl]
      have := a3.set k' (.int .u16 (usedOf (fun x => x.2.1 / p) (ps.take (j + 1)) k' : Nat))
      rw [e, hv] at this
      exact this
    have g1 := (Q7.2.2.1.cell k').trans (U6_at u' k' hk6')
    have gf1 := Q7.2.2.1.frozen k'
    clear Q7 HE
    go_wp2
    go_roundw
    case rel => exact ⟨j + 1, by omega, by go_num, HQ8.out⟩
    case measure => simp [intOf]; omega
end Go.Proofs.YtikhfeafbckjlaaDoor
