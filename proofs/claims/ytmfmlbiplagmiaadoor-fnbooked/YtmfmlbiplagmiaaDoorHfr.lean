/- Whether a talk may stand behind the others; no condition. -/
import Derived.Test.YtmfmlbiplagmiaaDoorMbk
import Derived.Test.YtmfmlbiplagmiaaDoorBkh
import Derived.Test.YtmfmlbiplagmiaaDoorWin
import Derived.Test.YtmfmlbiplagmiaaDoorLwb
import Derived.Test.YtmfmlbiplagmiaaDoorBoi
namespace Go.Proofs.YtmfmlbiplagmiaaDoor
open Go.RowKit Go.ChangeShapes Go.WideShapes Go.ChangeAt
set_option linter.unusedVariables false
set_option linter.unusedSimpArgs false
set_option maxRecDepth 8000

/-- a line (a circuit) is there, and free -/
def isF (zs : List Int) (x : Int) : Bool := decide (0 ≤ x ∧ x ≤ (zs.length : Int) - 1) && decide (zs.getD x.toNat 0 = -1)
/-- a talk may stand behind the others -/
def frB (ls cs : List Int) (t : Tk) : Bool := decide (t.1 ≠ t.2.1) && (isF ls t.1 && (isF ls t.2.1 && (decide (t.2.2 = -1) || isF cs t.2.2)))
theorem isF_any (f : Int → Tk → Bool) (n : Nat) (ks : List Tk) (x : Int) (h : 0 ≤ x ∧ x ≤ (n : Int) - 1) : isF (wr18 f n ks) x = !ks.any (f x) := by
  unfold isF
  rw [wr18_len, decide_eq_true h, Bool.true_and, wr18_get f n ks x.toNat (by omega), show ((x.toNat : Nat) : Int) = x by omega]
  cases hb : ks.any (f x) with
  | false => rw [fst18_no hb]; rfl
  | true => have := fst18_yes hb; simp; omega
theorem frB_ok (ks : List Tk) (n m : Nat) (t : Tk) (h1 : 0 ≤ t.1 ∧ t.1 ≤ (n : Int) - 1) (h2 : 0 ≤ t.2.1 ∧ t.2.1 ≤ (n : Int) - 1) (h3 : -1 ≤ t.2.2 ∧ t.2.2 ≤ (m : Int) - 1) : frB (wr18 hasL n ks) (wr18 hasC m ks) t = okT ks t := by
  rw [okT_eq ks t h3.1]
  unfold frB
  rw [isF_any hasL n ks _ h1, isF_any hasL n ks _ h2]
  by_cases hc : t.2.2 = -1
  · rw [decide_eq_true hc]; rfl
  · rw [isF_any hasC m ks _ ⟨by omega, h3.2⟩]
set_option maxHeartbeats 800000 in
theorem isSelf_c (x0 x1 x2 : Int) (w : World) : Calls Tryd.prog 63 #[.agg #[.int .i64 x0, .int .i64 x1, .int .i64 x2]] w fun e w' => e = .returned (.bool (decide (x0 = x1))) ∧ Below w.heap.size w w' := by
  have HB : Hid (∀ W', w.alloc (Obj.cells #[.int .i64 x0, .int .i64 x1, .int .i64 x2] 38) = W' → Below w.heap.size w W') := fun W' e => e ▸ (Below.refl _ _).alloc (Nat.le_refl _) _
  go_enter Tryd.func63, Tryd.ntmps63
  go_wp2
  go_ret
  exact ⟨by simp [Bool.beq_eq_decide_eq], HB.out _ rfl⟩
set_option maxHeartbeats 800000 in
theorem isFree_c (v : Value) (zs : List Int) (x : Int) (w : World) (h : Rd .i64 w v zs) (hn : zs.length ≤ 1000) : Calls Tryd.prog 64 #[v, .int .i64 x] w fun e w' => e = .returned (.bool (isF zs x)) ∧ w' = w := by
  have HR : Hid (Rd .i64 w v zs) := h
  have hw : wrap64 ((zs.length : Int) - 1) = (zs.length : Int) - 1 := wrap64_in (by omega)
  have HE : Hid (isF zs x = (decide (0 ≤ x ∧ x ≤ (zs.length : Int) - 1) && decide (zs.getD x.toNat 0 = -1))) := rfl
  obtain ⟨Q, hQ⟩ : ∃ Q, isF zs x = Q := ⟨_, rfl⟩
  rw [hQ] at HE ⊢
  obtain ⟨a, cap, rfl, -⟩ := h
  clear hQ hn
  go_enter Tryd.func64, Tryd.ntmps64
  go_wp2_with (fail)
  refine (within_c x 0 ((zs.length : Int) - 1) _).mono ?_
  rintro e w1 ⟨rfl, hw1⟩
  rw [hw1]
  clear hw1 w1
  by_cases g : 0 ≤ x ∧ x ≤ (zs.length : Int) - 1
  case neg =>
    obtain rfl : Q = false := by rw [HE.out, decide_eq_false g]; rfl
    rw [decide_eq_false g]
    clear g
    go_wp2
    go_ret
    exact ⟨rfl, rfl⟩
  rw [decide_eq_true g]
  obtain ⟨j, rfl⟩ : ∃ j : Nat, x = (j : Int) := ⟨x.toNat, by omega⟩
  have hj : j < zs.length := by omega
  obtain ⟨b, off, cp, he, -, -, c0⟩ := rd_at HR.out hj
  cases he
  obtain ⟨z, hz⟩ : ∃ z, zs[j] = z := ⟨_, rfl⟩
  rw [hz] at c0
  have HQ : Hid (Q = decide (z = -1)) := by
    show _ = _
    rw [HE.out, decide_eq_true g, Bool.true_and, Int.toNat_natCast]
    simp [List.getD, hj, hz]
  have hi0 : (0 : Int) ≤ (j : Int) := g.1
  have hi1 : (j : Int) < (zs.length : Int) := by omega
  have hb : (z == -1) = Q := by rw [HQ.out]; simp [Bool.beq_eq_decide_eq]
  clear g hz HE
  go_wp2
  go_ret
  exact ⟨rfl, rfl⟩
set_option maxHeartbeats 3200000 in
theorem hasFree_c (va vl vc : Value) (ls cs : List Int) (x0 x1 x2 : Int) (w : World) (hl : Rd .i64 w vl ls) (hc : Rd .i64 w vc cs) (hnl : ls.length ≤ 1000) (hnc : cs.length ≤ 1000) :
   Calls Tryd.prog 32 #[.agg (B3 va vl vc), .agg #[.int .i64 x0, .int .i64 x1, .int .i64 x2]] w fun e w' => e = .returned (.bool (frB ls cs (x0, x1, x2))) ∧ Below w.heap.size w w' := by
  obtain ⟨W1, hW1⟩ : ∃ W1, (w.alloc (Obj.cells (B3 va vl vc) 27)).alloc (Obj.cells #[.int .i64 x0, .int .i64 x1, .int .i64 x2] 38) = W1 := ⟨_, rfl⟩
  have hb : Below w.heap.size w W1 := hW1 ▸ ((Below.refl _ _).alloc (Nat.le_refl _) _).alloc (by simp) _
  have HB : Hid (Below w.heap.size w W1) := hb
  have K0 : Hid (Blk W1 w.heap.size (B3 va vl vc) 27 ∧ Blk W1 (w.heap.size + 1) #[.int .i64 x0, .int .i64 x1, .int .i64 x2] 38) := ⟨hW1 ▸ (Blk.new _ _ _).alloc _, hW1 ▸ Blk.newAt _ (w.heap.size + 1) _ 38 (by simp)⟩
  have HR : Hid (Rd .i64 w vl ls ∧ Rd .i64 w vc cs) := ⟨hl, hc⟩
  have HN : Hid (ls.length ≤ 1000 ∧ cs.length ≤ 1000) := ⟨hnl, hnc⟩
  have HE : Hid (frB ls cs (x0, x1, x2) = (decide (x0 ≠ x1) && (isF ls x0 && (isF ls x1 && (decide (x2 = -1) || isF cs x2))))) := rfl
  have HFL : Hid (∀ x W, Below w.heap.size w W → Calls Tryd.prog 64 #[vl, .int .i64 x] W fun e w' => e = .returned (.bool (isF ls x)) ∧ w' = W) := fun x W h => isFree_c vl ls x W (HR.out.1.below h) HN.out.1
  have HFC : Hid (∀ x W, Below w.heap.size w W → Calls Tryd.prog 64 #[vc, .int .i64 x] W fun e w' => e = .returned (.bool (isF cs x)) ∧ w' = W) := fun x W h => isFree_c vc cs x W (HR.out.2.below h) HN.out.2
  obtain ⟨Q, hQ⟩ : ∃ Q, frB ls cs (x0, x1, x2) = Q := ⟨_, rfl⟩
  rw [hQ] at HE ⊢
  obtain ⟨f0, hf0⟩ : ∃ f, isF ls x0 = f := ⟨_, rfl⟩
  obtain ⟨f1, hf1⟩ : ∃ f, isF ls x1 = f := ⟨_, rfl⟩
  obtain ⟨f2, hf2⟩ : ∃ f, isF cs x2 = f := ⟨_, rfl⟩
  rw [hf0, hf1, hf2] at HE
  have HF0 : Hid (isF ls x0 = f0) := hf0
  have HF1 : Hid (isF ls x1 = f1) := hf1
  have HF2 : Hid (isF cs x2 = f2) := hf2
  obtain ⟨b, off, cp⟩ := hl
  obtain ⟨la, lL, lc, rfl⟩ : ∃ a L c, vl = .slice a L c := by obtain ⟨a, c, e, -⟩ := HR.out.1; exact ⟨a, _, c, e⟩
  obtain ⟨ca, cL, cc, rfl⟩ : ∃ a L c, vc = .slice a L c := by obtain ⟨a, c, e, -⟩ := HR.out.2; exact ⟨a, _, c, e⟩
  have y0 := K0.out.2.cell 0
  have y1 := K0.out.2.cell 1
  have y2 := K0.out.2.cell 2
  simp at y0 y1 y2
  have HW1 : Hid (_ = W1) := hW1
  clear hb hW1 hQ hf0 hf1 hf2 hc hnl hnc b off cp
  go_enter Tryd.func32, Tryd.ntmps32
  go_wp2_with (fail)
  rw [HW1.out]
  refine (isSelf_c x0 x1 x2 W1).mono ?_
  rintro e w2 ⟨rfl, b2⟩
  have HB2 : Hid (Below w.heap.size w w2) := belowCall HB.out b2 HB.out.size
  have k0 := K0.out.1.below b2 K0.out.1.lt
  have k1 := K0.out.2.below b2 K0.out.2.lt
  have x1' := k0.cell 1
  have x2' := k0.cell 2
  simp at x1' x2'
  clear y0 y1 y2 b2 k0
  have y0 := k1.cell 0
  have y1 := k1.cell 1
  have y2 := k1.cell 2
  simp at y0 y1 y2
  clear k1
  by_cases g : x0 = x1
  case pos =>
    rw [decide_eq_true g]
    obtain rfl : Q = false := by rw [HE.out, decide_eq_false (by simpa using g)]; rfl
    clear g
    go_wp2
    go_ret
    exact ⟨rfl, HB2.out⟩
  rw [decide_eq_false g]
  have HE1 : Hid (Q = (f0 && (f1 && (decide (x2 = -1) || f2)))) := by show _ = _; rw [HE.out, decide_eq_true (by simpa using g), Bool.true_and]
  clear g HE
  go_wp2_with (fail)
  refine (HFL.out x0 _ HB2.out).mono ?_
  rintro e w3 ⟨rfl, hw⟩
  rw [hw, HF0.out]
  clear hw w3
  cases f0 with
  | false =>
    obtain rfl : Q = false := HE1.out
    go_wp2
    go_ret
    exact ⟨rfl, HB2.out⟩
  | true =>
  have HE2 : Hid (Q = (f1 && (decide (x2 = -1) || f2))) := by show _ = _; rw [HE1.out, Bool.true_and]
  clear HE1
  go_wp2_with (fail)
  refine (HFL.out x1 _ HB2.out).mono ?_
  rintro e w3 ⟨rfl, hw⟩
  rw [hw, HF1.out]
  clear hw w3
  cases f1 with
  | false =>
    obtain rfl : Q = false := HE2.out
    go_wp2
    go_ret
    exact ⟨rfl, HB2.out⟩
  | true =>
  have HE3 : Hid (Q = (decide (x2 = -1) || f2)) := by show _ = _; rw [HE2.out, Bool.true_and]
  clear HE2
  by_cases g : x2 = -1
  case pos =>
    have e2 : (x2 == -1) = true := by simp [g]
    obtain rfl : Q = true := by rw [HE3.out, decide_eq_true g]; rfl
    clear g
    go_wp2
    go_ret
    exact ⟨rfl, HB2.out⟩
  have e2 : (x2 == -1) = false := by simp [g]
  obtain rfl : Q = f2 := by rw [HE3.out, decide_eq_false g]; rfl
  clear g HE3
  go_wp2_with (fail)
  refine (HFC.out x2 _ HB2.out).mono ?_
  rintro e w3 ⟨rfl, hw⟩
  rw [hw, HF2.out]
  clear hw w3
  go_wp2
  go_ret
  exact ⟨rfl, HB2.out⟩

end Go.Proofs.YtmfmlbiplagmiaaDoor
