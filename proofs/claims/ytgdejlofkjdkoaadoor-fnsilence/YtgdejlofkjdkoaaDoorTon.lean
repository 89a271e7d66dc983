/- Tone13; the two tables are as they were laid. -/
import Derived.Test.YtgdejlofkjdkoaaDoorLvl
import Derived.Test.YtgdejlofkjdkoaaDoorApp
import Derived.Test.YtgdejlofkjdkoaaDoorMixT
namespace Go.Proofs.YtgdejlofkjdkoaaDoor
open Go.RowKit Go.ChangeShapes Go.WideShapes Go.ChangeAt
set_option linter.unusedVariables false
set_option linter.unusedSimpArgs false
set_option maxRecDepth 8000

/-- a row owned from base on, or one that has no room at all -/
def OwE (base : Nat) (w : World) (v : Value) (zs : List Int) (v0 : Value) : Prop := Ow .i64 3 base w v zs ∨ (zs = [] ∧ v = v0)
theorem OwE.below {base : Nat} {w w' : World} {v : Value} {zs : List Int} {v0 : Value} (h : OwE base w v zs v0) (hb : Below w.heap.size w w') : OwE base w' v zs v0 := h.elim (fun h => .inl (h.below hb)) .inr
theorem appE {ops : Array Oper} {rest : List Oper} {o : Oper} {a : Act} {w : World} {Q : Exit → Act → World → Prop} (hgd : o.guard = none) (s x : Operand)
    (ho : o.op = .call { callee := .builtin .append, args := #[s, x], argTypes := #[25, 25] }) (base : Nat) (v : Value) (zs : List Int) (ad : Addr) (hs : a.eval s = v) (hown : OwE base w v zs (.slice (some ad) 0 0))
    (g : Nat) (z : Int) (hx : a.eval x = .slice (some ⟨g, 0, none⟩) 1 1) (hc : w.cell? ⟨g, 0, none⟩ = some (.int .i64 z)) (hl : zs.length ≤ 1099511627776) (hbase : base ≤ w.heap.size)
    (h : ∀ v' w', Ow .i64 3 base w' v' (zs ++ [z]) → Below base w w' → wpList Tryd.prog ops Q rest (a.put o.dst v') w') : wpList Tryd.prog ops Q (o :: rest) a w := by
  rcases hown with hown | ⟨rfl, rfl⟩
  · exact appI hgd s x ho base v zs hs hown g z hx hc hl hbase h
  obtain ⟨i0, hi, hz0, hz1, hz2⟩ := info_parts toIInfo
  have hcap := grownCap_ge w 1 0 3
  have hcm : grownCap w 1 0 3 ≤ maxLen := grownCap_le_maxLen w 1 0 3 (by unfold maxLen; omega)
  have hr := run_append_grow (P := Tryd.prog) w 25 o.type 3 i0 (.int .i64 0) Tryd.underlying25 hi hz0 ad 0 0 [] (by simp) (by simp) ⟨g, 0, none⟩ 1 1 [.int .i64 z] (by simp [hz1]) (fun j u hj => by
    match j, hj with
    | 0, hj => simp at hj; subst hj; simpa [Addr.add] using hc) (by omega) (by decide) (by rw [hz2]; decide)
  refine wpList_plain hgd fun K hK => ?_
  unfold Oper.wp
  simp only [execOp, ho, resolve, invoke, builtin, Sem.run_bind, Sem.run_pure, Result.andThen_ok, List.map_toArray, List.map_cons, List.map_nil, hs, hx]
  rw [hr]
  refine hK _ _ (h _ _ ⟨by simp, .inr ⟨w.heap.size, _, _, rfl, hbase, heap_alloc_new w.drew _, by simpa using hcap, by simpa using hcm, ?_, ?_⟩⟩ ⟨rfl, rfl, rfl, by simp, fun k hk => Below.heap_alloc w.drew _ k (Nat.lt_of_lt_of_le hk hbase)⟩)
  · simp [size_zeroCells, Value.cells]; omega
  · simp
/-- the first j told, noughts behind -/
def mz (xs : List Int) (n j : Nat) : List Int := xs ++ List.replicate (n - j) 0
theorem mz_set (xs : List Int) (n j : Nat) (z : Int) (hl : xs.length = j) (hj : j < n) : (mz xs n j).set j z = mz (xs ++ [z]) n (j + 1) := by
  unfold mz
  rw [show n - j = (n - (j + 1)) + 1 by omega, List.replicate_succ, List.set_append, if_neg (by omega), show j - xs.length = 0 by omega]
  simp
theorem mz_len (xs : List Int) (n j : Nat) (hl : xs.length = j) (hj : j ≤ n) : (mz xs n j).length = n := by simp [mz, hl]; omega
/-- what the two tables hold -/
def RcG (w : World) : Prop := (∀ q : Nat, q < 4 → w.cell? ⟨0, q, none⟩ = some (.int .i64 (12 + 2 * q))) ∧ ∀ q : Nat, q < 4 → w.cell? ⟨1, q, none⟩ = some (.int .i64 (22 + 4 * q))
theorem RcG.below {w w' : World} (h : RcG w) (hb : Below w.heap.size w w') : RcG w' :=
  ⟨fun q hq => by have := h.1 q hq; rw [hb.cell (block_lt_of_cell this)]; exact this, fun q hq => by have := h.2 q hq; rw [hb.cell (block_lt_of_cell this)]; exact this⟩
/-- the level at place i -/
def tnF (d : Nat) (sz ph : Int) (i : Nat) : Int := near (sz * (wave ((ph + i) * (12 + 2 * (d / 4 : Nat))) + wave ((ph + i) * (22 + 4 * (d % 4 : Nat)))))
def tnL (d : Nat) (sz ph : Int) (n : Nat) : List Int := (List.range n).map (tnF d sz ph)
theorem tnL_len (d : Nat) (sz ph : Int) (n : Nat) : (tnL d sz ph n).length = n := by simp [tnL]
theorem tnL_succ (d : Nat) (sz ph : Int) (n : Nat) : tnL d sz ph (n + 1) = tnL d sz ph n ++ [tnF d sz ph n] := by simp [tnL, List.range_succ]
/-- may a tone be made? -/
def tnB (d sz ph n : Int) : Bool := decide (0 ≤ d ∧ d ≤ 15) && decide (0 ≤ sz ∧ sz ≤ 16000) && decide (0 ≤ ph ∧ ph ≤ 255) && decide (0 ≤ n ∧ n ≤ 1024)
def tnR (d sz ph n : Int) : List Int := if tnB d sz ph n = true then tnL d.toNat sz ph n.toNat else []
/-- the answer of Tone13 -/
def TnR (d sz ph n : Int) (w : World) (e : Ending) (w' : World) : Prop := ∃ v, e = .returned (.tuple #[v, .bool (tnB d sz ph n)]) ∧ Ow .i64 3 w.heap.size w' v (tnR d sz ph n) ∧ Below w.heap.size w w'

set_option maxHeartbeats 6400000 in
theorem toneI_c (d sz ph n : Int) (w : World) (hG : RcG w) : Calls Tryd.prog 10 #[.int .i64 d, .int .i64 sz, .int .i64 ph, .int .i64 n] w fun e w' => TnR d sz ph n w e w' := by
  have HG : Hid (RcG w) := hG
  have HFF : Hid (tnB d sz ph n = false → TnR d sz ph n w (.returned (.tuple #[.slice none 0 0, .bool false])) w) := fun e => ⟨_, by rw [e], by unfold tnR; rw [if_neg (by rw [e]; simp)]; exact Ow.nil _ _ _ _, Below.refl _ _⟩
  clear hG
  go_enter Tryd.func10, Tryd.ntmps10
  go_wp2_with (fail)
  refine (within_c _ _ _ _).mono ?_
  rintro e w1 ⟨rfl, hw⟩
  rw [hw]
  clear hw w1
  by_cases c1 : 0 ≤ d ∧ d ≤ 15
  case neg =>
    have d0 : decide (0 ≤ d ∧ d ≤ 15) = false := by rw [decide_eq_false_iff_not]; exact c1
    have HF : Hid (tnB d sz ph n = false) := by show _ = _; unfold tnB; rw [d0]; simp
    rw [d0]
    clear c1 d0
    go_wp2
    go_ret2
    exact HFF.out HF.out
  have d1 : decide (0 ≤ d ∧ d ≤ 15) = true := by rw [decide_eq_true_eq]; exact c1
  rw [d1]
  go_wp2_with (fail)
  refine (within_c _ _ _ _).mono ?_
  rintro e w1 ⟨rfl, hw⟩
  rw [hw]
  clear hw w1
  by_cases c2 : 0 ≤ sz ∧ sz ≤ 16000
  case neg =>
    have d0 : decide (0 ≤ sz ∧ sz ≤ 16000) = false := by rw [decide_eq_false_iff_not]; exact c2
    have HF : Hid (tnB d sz ph n = false) := by show _ = _; unfold tnB; rw [d0]; simp
    rw [d0]
    clear c2 d0
    go_wp2
    go_ret2
    exact HFF.out HF.out
  have d2 : decide (0 ≤ sz ∧ sz ≤ 16000) = true := by rw [decide_eq_true_eq]; exact c2
  rw [d2]
  go_wp2_with (fail)
  refine (within_c _ _ _ _).mono ?_
  rintro e w1 ⟨rfl, hw⟩
  rw [hw]
  clear hw w1
  by_cases c3 : 0 ≤ ph ∧ ph ≤ 255
  case neg =>
    have d0 : decide (0 ≤ ph ∧ ph ≤ 255) = false := by rw [decide_eq_false_iff_not]; exact c3
    have HF : Hid (tnB d sz ph n = false) := by show _ = _; unfold tnB; rw [d0]; simp
    rw [d0]
    clear c3 d0
    go_wp2
    go_ret2
    exact HFF.out HF.out
  have d3 : decide (0 ≤ ph ∧ ph ≤ 255) = true := by rw [decide_eq_true_eq]; exact c3
  rw [d3]
  go_wp2_with (fail)
  refine (within_c _ _ _ _).mono ?_
  rintro e w1 ⟨rfl, hw⟩
  rw [hw]
  clear hw w1
  by_cases c4 : 0 ≤ n ∧ n ≤ 1024
  case neg =>
    have d0 : decide (0 ≤ n ∧ n ≤ 1024) = false := by rw [decide_eq_false_iff_not]; exact c4
    have HF : Hid (tnB d sz ph n = false) := by show _ = _; unfold tnB; rw [d0]; simp
    rw [d0]
    clear c4 d0
    go_wp2
    go_ret2
    exact HFF.out HF.out
  have d4 : decide (0 ≤ n ∧ n ≤ 1024) = true := by rw [decide_eq_true_eq]; exact c4
  rw [d4]
  have HT : Hid (tnB d sz ph n = true) := by show _ = _; unfold tnB; rw [d1, d2, d3, d4]; rfl
  obtain ⟨k, rfl⟩ := Int.eq_ofNat_of_zero_le c1.1
  obtain ⟨m, rfl⟩ := Int.eq_ofNat_of_zero_le c4.1
  have HR : Hid (tnR k sz ph m = tnL k sz ph m) := by show _ = _; unfold tnR; rw [if_pos HT.out]; simp
  clear d1 d2 d3 d4 HFF
  go_wp2_with (fail)
  refine (quarterI_c w).mono ?_
  rintro e w2 ⟨g, rfl, hq, hg, hb⟩
  have HQ : Hid (Qt w2 g) := hq
  have HB2 : Hid (Below w.heap.size w w2) := hb
  have G2 := HG.out.below hb
  have g0 := G2.1 (k / 4) (by omega)
  have g1 := G2.2 (k % 4) (by omega)
  clear hq hb G2
  have hk1 : (k : Int) / 4 = ((k / 4 : Nat) : Int) := by omega
  have hk2 : (k : Int) % 4 = ((k % 4 : Nat) : Int) := by omega
  have hk3 : k / 4 < 4 := by omega
  have hk4 : k % 4 < 4 := by omega
  have HTN : Hid (∀ j : Nat, tnF k sz ph j = near (sz * (wave ((ph + j) * (12 + 2 * (k / 4 : Nat))) + wave ((ph + j) * (22 + 4 * (k % 4 : Nat)))))) := fun j => rfl
  obtain ⟨r, hr⟩ : ∃ r : Int, (12 + 2 * ((k / 4 : Nat) : Int)) = r := ⟨_, rfl⟩
  obtain ⟨c, hc⟩ : ∃ r : Int, (22 + 4 * ((k % 4 : Nat) : Int)) = r := ⟨_, rfl⟩
  have hr2 : 0 ≤ r ∧ r ≤ 18 := by omega
  have hc2 : 0 ≤ c ∧ c ≤ 34 := by omega
  rw [hr] at g0 HTN
  rw [hc] at g1 HTN
  obtain ⟨k4, hk4'⟩ : ∃ q, k / 4 = q := ⟨_, rfl⟩
  obtain ⟨kr, hkr⟩ : ∃ q, k % 4 = q := ⟨_, rfl⟩
  rw [hk4'] at hk1 hk3 g0
  rw [hkr] at hk2 hk4 g1
  obtain ⟨S, hS⟩ : ∃ S : World → Prop, ∀ W, S W ↔ W = w2.drew := ⟨_, fun _ => Iff.rfl⟩
  have y0 : ∀ W : At S, W.wd.cell? ⟨0, k4, none⟩ = some (.int .i64 r) := fun W => by rw [(hS _).1 W.ok]; exact g0
  have y1 : ∀ W : At S, W.wd.cell? ⟨1, kr, none⟩ = some (.int .i64 c) := fun W => by rw [(hS _).1 W.ok]; exact g1
  have HS : Hid (S w2.drew) := (hS _).2 rfl
  have ne : Nonempty (At S) := ⟨⟨_, HS.out⟩⟩
  have HQD : Hid (Qt w2.drew g) := HQ.out.below (Below.refl _ _).drew
  have HBD : Hid (Below w.heap.size w w2.drew) := HB2.out.drew
  clear hS g0 g1 hr hc hk4' hkr HQ HB2
  go_wp2
  refine region_mixT [true, true, true, true, true, true, true, true, false, false] 10 2 S (by kernel_rfl) rfl (by kernel_rfl) (fun _ _ _ _ _ h => h) HS.out ?_
  simp only [selT, selF]
  try simp only [Act.put]
  repeat (go_big_quiet_step (fail))
  refine wpQuiet_nil ?_
  refine tail_step ?_
  go_wp2
  refine ⟨HS.out, tail_step ?_⟩
  go_wp2
  refine ⟨HS.out, tail_end ?_⟩
  clear y0 y1 ne
  obtain ⟨W3, hW3⟩ : ∃ W, w2.drew = W := ⟨_, rfl⟩
  rw [hW3] at HQD HBD ⊢
  clear hW3 HS
  obtain ⟨i0, hi, hz0, hz1, hz2⟩ := info_parts toIInfo
  go_wp2_with (at_make; refine wpList_make_full _ rfl _ _ 25 rfl W3.heap.size 3 i0 (.int .i64 0) 1 Tryd.underlying25 hi hz0 hz1 .i64 .i64 _ _ m rfl rfl rfl rfl (by rw [hz2]; omega) (by unfold maxLen; omega) (Nat.le_refl _) ?_)
  intro w4 ho hg
  have hx : (madeCells #[Value.int .i64 0] m).toList = (mz (tnL k sz ph 0) m 0).map (Value.int .i64) := by
    rw [toList_madeCells_one]; simp [mz, tnL]
  rw [hx] at ho
  have b3 : Below W3.heap.size W3 w4 := grown_below hg (Nat.le_refl _) (by simp)
  have HQ4 : Hid (Qt w4 g) := HQD.out.below b3
  have HB4 : Hid (Below w.heap.size w w4) := belowCall HBD.out b3 HBD.out.size
  have HGL : Hid (w.heap.size ≤ W3.heap.size ∧ g < W3.heap.size) := ⟨HBD.out.size, block_lt_of_cell (HQD.out 0 (by omega))⟩
  have HO4 : Hid (w4.ownsRow W3.heap.size 3 1 (.slice (some ⟨W3.heap.size, 0, none⟩) m m) m ((mz (tnL k sz ph 0) m 0).map (Value.int .i64))) := ho
  obtain ⟨g2, hg2⟩ : ∃ g, W3.heap.size = g := ⟨_, rfl⟩
  rw [hg2] at HO4 HGL ⊢
  clear hx hg ho b3 hg2 HQD HBD
  go_wp2
  go_loopw [46] (fun i wr => ∃ j : Nat, j ≤ m ∧ i = .int .i64 j ∧ Hid (wr.ownsRow g2 3 1 (.slice (some ⟨g2, 0, none⟩) m m) m ((mz (tnL k sz ph j) m j).map (Value.int .i64))) ∧ Hid (Below w.heap.size w wr) ∧ Hid (Qt wr g)) (fun i _ => m - (intOf i).toNat)
  case atStart => exact ⟨0, Nat.zero_le _, rfl, HO4.out, HB4.out, HQ4.out⟩
  case round =>
    obtain ⟨j, hj, rfl, hO, hbr, hQ⟩ := hrel
    clear HO4 HB4 HQ4
    by_cases hlt : j < m
    case neg =>
      obtain rfl : j = m := by omega
      have HOF : Hid (Ow .i64 3 w.heap.size wr (.slice (some ⟨g2, 0, none⟩) j j) (tnL k sz ph j)) := by
        have := hO.out
        simp only [mz, Nat.sub_self, List.replicate_zero, List.append_nil] at this
        refine Ow.mono (base := g2) ?_ HGL.out.1
        rw [Ow, tnL_len]; exact this
      clear hO
      go_wp2
      go_ret2
      exact ⟨_, by rw [HT.out]; rfl, by rw [HR.out]; exact HOF.out, hbr.out⟩
    case pos =>
    have HTJ := HTN.out j
    have HSU : Hid (tnL k sz ph (j + 1) = tnL k sz ph j ++ [tnF k sz ph j]) := tnL_succ _ _ _ _
    rw [HTJ] at HSU
    clear HTJ
    have hel : (tnL k sz ph j).length = j := tnL_len _ _ _ _
    have hpj : 0 ≤ ph + j ∧ ph + j ≤ 1300 := by omega
    have hm1 : 0 ≤ (ph + j) * r ∧ (ph + j) * r ≤ 1300 * 18 := ⟨Int.mul_nonneg hpj.1 hr2.1, Int.mul_le_mul hpj.2 hr2.2 hr2.1 (by omega)⟩
    obtain ⟨p1, hp1⟩ : ∃ p, (ph + (j : Int)) * r = p := ⟨_, rfl⟩
    rw [hp1] at HSU hm1
    go_wp2_with (fail)
    refine (qatI_c g p1 (by omega) (by omega) wr hQ.out).mono ?_
    rintro e w5 ⟨rfl, hw⟩
    rw [hw]
    clear hw w5
    have q1 := wave_bd p1
    obtain ⟨x1, hx1⟩ : ∃ p, wave p1 = p := ⟨_, rfl⟩
    rw [hx1] at HSU q1 ⊢
    clear hx1
    have hm2 : 0 ≤ (ph + j) * c ∧ (ph + j) * c ≤ 1300 * 34 := ⟨Int.mul_nonneg hpj.1 hc2.1, Int.mul_le_mul hpj.2 hc2.2 hc2.1 (by omega)⟩
    obtain ⟨p2, hp2⟩ : ∃ p, (ph + (j : Int)) * c = p := ⟨_, rfl⟩
    rw [hp2] at HSU hm2
    go_wp2_with (fail)
    refine (qatI_c g p2 (by omega) (by omega) wr hQ.out).mono ?_
    rintro e w5 ⟨rfl, hw⟩
    rw [hw]
    clear hw w5
    have q2 := wave_bd p2
    obtain ⟨x2, hx2⟩ : ∃ p, wave p2 = p := ⟨_, rfl⟩
    rw [hx2] at HSU q2 ⊢
    clear hx2 hp1 hp2
    have hxs : -2147483648 ≤ x1 + x2 ∧ x1 + x2 ≤ 2147483648 := by omega
    have hm3 := mul_bd (A := 16000) ⟨by omega, c2.2⟩ hxs
    obtain ⟨y, hy⟩ : ∃ p, sz * (x1 + x2) = p := ⟨_, rfl⟩
    rw [hy] at HSU hm3
    go_wp2_with (fail)
    refine (nearI_c y (by omega) (by omega) wr).mono ?_
    rintro e w5 ⟨rfl, hw⟩
    rw [hw]
    clear hw w5
    obtain ⟨z, hz⟩ : ∃ p, near y = p := ⟨_, rfl⟩
    rw [hz] at HSU ⊢
    clear hz hy
    obtain ⟨u, hd⟩ : ∃ u, wr.cell? ⟨g2, j, none⟩ = some u := by
      rw [hO.out.cellAt j (by omega)]
      exact ⟨_, List.getElem?_eq_getElem (by simp [mz_len _ _ _ hel hj]; exact hlt)⟩
    have hf := hO.out.frozenAt j
    have hs := (hO.out.stored j (.int .i64 z)).1
    rw [← List.map_set, mz_set _ _ _ _ hel hlt, ← HSU.out] at hs
    have HS6 : Hid ((wr.setCell ⟨g2, j, none⟩ (.int .i64 z)).ownsRow g2 3 1 (.slice (some ⟨g2, 0, none⟩) m m) m ((mz (tnL k sz ph (j + 1)) m (j + 1)).map (Value.int .i64))) := hs
    have HB6 : Hid (Below w.heap.size w (wr.setCell ⟨g2, j, none⟩ (.int .i64 z))) := hbr.out.setCell (by dsimp only; exact HGL.out.1) _
    have HQ6 : Hid (Qt (wr.setCell ⟨g2, j, none⟩ (.int .i64 z)) g) := fun q hq => by
      have h6 := hQ.out q hq
      have hgl := HGL.out.2
      rw [World.cell?_of_block (w := wr) (heap_setCell_other wr ⟨g2, j, none⟩ g _ (by dsimp only; omega))]
      exact h6
    have hi1 : (0 : Int) ≤ (j : Int) := by omega
    have hi2 : (j : Int) < (m : Int) := by omega
    clear hs hO hbr hQ hel
    go_wp2
    go_roundw
    case rel => exact ⟨j + 1, by omega, by go_num, HS6.out, HB6.out, HQ6.out⟩
    case measure => simp [intOf]; omega

theorem rowM_c (k : Nat) (hk : k ≤ 15) (w : World) : Calls Tryd.prog 41 #[.int .i64 k] w fun e w' => e = .returned (.int .i64 (12 + 2 * (k / 4 : Nat))) ∧ w' = w := by
  go_enter Tryd.func41, Tryd.ntmps41
  go_wp2
  go_ret
  exact ⟨rfl, rfl⟩
theorem colM_c (k : Nat) (hk : k ≤ 15) (w : World) : Calls Tryd.prog 42 #[.int .i64 k] w fun e w' => e = .returned (.int .i64 (22 + 4 * (k % 4 : Nat))) ∧ w' = w := by
  go_enter Tryd.func42, Tryd.ntmps42
  go_wp2
  go_ret
  exact ⟨rfl, rfl⟩
set_option maxHeartbeats 6400000 in
theorem toneM_c (d sz ph n : Int) (w : World) : Calls Tryd.prog 17 #[.int .i64 d, .int .i64 sz, .int .i64 ph, .int .i64 n] w fun e w' => TnR d sz ph n w e w' := by
  obtain ⟨W0, hW0⟩ : ∃ W, w.alloc (Obj.cells #[] 3) = W := ⟨_, rfl⟩
  have HO0 : Hid (Ow .i64 3 w.heap.size W0 (.slice (some ⟨w.heap.size, 0, none⟩) 0 0) []) := by rw [← hW0]; exact Ow.empty _ _ _ _ (Nat.le_refl _)
  have HB0 : Hid (Below w.heap.size w W0) := by rw [← hW0]; exact (Below.refl _ _).alloc (Nat.le_refl _) _
  have HFF : Hid (tnB d sz ph n = false → TnR d sz ph n w (.returned (.tuple #[.slice (some ⟨w.heap.size, 0, none⟩) 0 0, .bool false])) W0) := fun e => ⟨_, by rw [e], by unfold tnR; rw [if_neg (by rw [e]; simp)]; exact HO0.out, HB0.out⟩
  go_enter Tryd.func17, Tryd.ntmps17
  go_wp2_with (fail)
  clear hW0
  refine (in_c _ _ _ _).mono ?_
  rintro e w1 ⟨rfl, hw⟩
  rw [hw]
  clear hw w1
  by_cases c1 : 0 ≤ d ∧ d ≤ 15
  case neg =>
    have d0 : decide (0 ≤ d ∧ d ≤ 15) = false := by rw [decide_eq_false_iff_not]; exact c1
    have HF : Hid (tnB d sz ph n = false) := by show _ = _; unfold tnB; rw [d0]; simp
    rw [d0]
    clear c1 d0
    go_wp2
    go_ret2
    exact HFF.out HF.out
  have d1 : decide (0 ≤ d ∧ d ≤ 15) = true := by rw [decide_eq_true_eq]; exact c1
  rw [d1]
  go_wp2_with (fail)
  refine (in_c _ _ _ _).mono ?_
  rintro e w1 ⟨rfl, hw⟩
  rw [hw]
  clear hw w1
  by_cases c2 : 0 ≤ sz ∧ sz ≤ 16000
  case neg =>
    have d0 : decide (0 ≤ sz ∧ sz ≤ 16000) = false := by rw [decide_eq_false_iff_not]; exact c2
    have HF : Hid (tnB d sz ph n = false) := by show _ = _; unfold tnB; rw [d0]; simp
    rw [d0]
    clear c2 d0
    go_wp2
    go_ret2
    exact HFF.out HF.out
  have d2 : decide (0 ≤ sz ∧ sz ≤ 16000) = true := by rw [decide_eq_true_eq]; exact c2
  rw [d2]
  go_wp2_with (fail)
  refine (in_c _ _ _ _).mono ?_
  rintro e w1 ⟨rfl, hw⟩
  rw [hw]
  clear hw w1
  by_cases c3 : 0 ≤ ph ∧ ph ≤ 255
  case neg =>
    have d0 : decide (0 ≤ ph ∧ ph ≤ 255) = false := by rw [decide_eq_false_iff_not]; exact c3
    have HF : Hid (tnB d sz ph n = false) := by show _ = _; unfold tnB; rw [d0]; simp
    rw [d0]
    clear c3 d0
    go_wp2
    go_ret2
    exact HFF.out HF.out
  have d3 : decide (0 ≤ ph ∧ ph ≤ 255) = true := by rw [decide_eq_true_eq]; exact c3
  rw [d3]
  go_wp2_with (fail)
  refine (in_c _ _ _ _).mono ?_
  rintro e w1 ⟨rfl, hw⟩
  rw [hw]
  clear hw w1
  by_cases c4 : 0 ≤ n ∧ n ≤ 1024
  case neg =>
    have d0 : decide (0 ≤ n ∧ n ≤ 1024) = false := by rw [decide_eq_false_iff_not]; exact c4
    have HF : Hid (tnB d sz ph n = false) := by show _ = _; unfold tnB; rw [d0]; simp
    rw [d0]
    clear c4 d0
    go_wp2
    go_ret2
    exact HFF.out HF.out
  have d4 : decide (0 ≤ n ∧ n ≤ 1024) = true := by rw [decide_eq_true_eq]; exact c4
  rw [d4]
  have HT : Hid (tnB d sz ph n = true) := by show _ = _; unfold tnB; rw [d1, d2, d3, d4]; rfl
  obtain ⟨k, rfl⟩ := Int.eq_ofNat_of_zero_le c1.1
  obtain ⟨m, rfl⟩ := Int.eq_ofNat_of_zero_le c4.1
  have HR : Hid (tnR k sz ph m = tnL k sz ph m) := by show _ = _; unfold tnR; rw [if_pos HT.out]; simp
  clear d1 d2 d3 d4 HFF
  go_wp2_with (fail)
  refine (tableM_c W0).mono ?_
  rintro e w2 ⟨vt, rfl, ho, hb⟩
  have HQ : Hid (Rd .i64 w2 vt wvR) := ho.rd
  have HB2 : Hid (Below w.heap.size w w2) := belowCall HB0.out hb HB0.out.size
  have HO2 : Hid (Ow .i64 3 w.heap.size w2 (.slice (some ⟨w.heap.size, 0, none⟩) 0 0) []) := HO0.out.below hb
  clear ho hb HO0 HB0
  have HTN : Hid (∀ j : Nat, tnF k sz ph j = near (sz * (wave ((ph + j) * (12 + 2 * (k / 4 : Nat))) + wave ((ph + j) * (22 + 4 * (k % 4 : Nat)))))) := fun j => rfl
  have hr0 : (k / 4 : Nat) ≤ 3 := by omega
  have hc0 : (k % 4 : Nat) ≤ 3 := by omega
  go_wp2
  have HBB : Hid (Below w2.heap.size w2 w2) := Below.refl _ _
  go_loopw [10, 12] (fun u i wr => ∃ (j : Nat) (vv : Value), j ≤ m ∧ i = .int .i64 (ph + j) ∧ vv = u ∧ Hid (OwE w2.heap.size wr vv (tnL k sz ph j) (.slice (some ⟨w.heap.size, 0, none⟩) 0 0)) ∧ Hid (Below w2.heap.size w2 wr)) (fun _ i _ => m - (intOf i - ph).toNat)
  case atStart => exact ⟨0, _, Nat.zero_le _, by simp, rfl, .inr ⟨rfl, rfl⟩, HBB.out⟩
  case round =>
    obtain ⟨j, vv, hj, rfl, rfl, hO, hbb⟩ := hrel
    have hQ : Hid (Rd .i64 wr vt wvR) := HQ.out.below hbb.out
    have hbr : Hid (Below w.heap.size w wr) := belowCall HB2.out hbb.out HB2.out.size
    have HBS : Hid (w.heap.size ≤ w2.heap.size) := HB2.out.size
    by_cases hlt : j < m
    case neg =>
      obtain rfl : j = m := by omega
      have HOF : Hid (Ow .i64 3 w.heap.size wr vv (tnL k sz ph j)) := by
        rcases hO.out with h | ⟨h, rfl⟩
        · exact h.mono HBS.out
        · show Ow _ _ _ _ _ _
          rw [h]; exact HO2.out.below hbb.out
      clear HO2 HB2 HQ HBB hO
      go_wp2
      go_ret2
      exact ⟨_, by rw [HT.out]; rfl, by rw [HR.out]; exact HOF.out, hbr.out⟩
    case pos =>
    clear HO2 HB2 HQ HBB
    have HTJ := HTN.out j
    have HSU : Hid (tnL k sz ph (j + 1) = tnL k sz ph j ++ [tnF k sz ph j]) := tnL_succ _ _ _ _
    rw [HTJ] at HSU
    clear HTJ
    have HLN : Hid ((tnL k sz ph j).length = j) := tnL_len _ _ _ _
    have hpj : 0 ≤ ph + j ∧ ph + j ≤ 1300 := by omega
    go_wp2_with (fail)
    refine (rowM_c k (by omega) wr).mono ?_
    rintro e w5 ⟨rfl, hw⟩
    rw [hw]
    clear hw w5
    obtain ⟨r, hr⟩ : ∃ r : Int, (12 + 2 * ((k / 4 : Nat) : Int)) = r := ⟨_, rfl⟩
    have hr2 : 0 ≤ r ∧ r ≤ 18 := by omega
    rw [hr] at HSU ⊢
    clear hr
    have hm1 : 0 ≤ (ph + j) * r ∧ (ph + j) * r ≤ 1300 * 18 := ⟨Int.mul_nonneg hpj.1 hr2.1, Int.mul_le_mul hpj.2 hr2.2 hr2.1 (by omega)⟩
    obtain ⟨p1, hp1⟩ : ∃ p, (ph + (j : Int)) * r = p := ⟨_, rfl⟩
    rw [hp1] at HSU hm1
    go_wp2_with (fail)
    refine (atM_c vt p1 (by omega) (by omega) wr hQ.out).mono ?_
    rintro e w5 ⟨rfl, hw⟩
    rw [hw]
    clear hw w5
    have q1 := wave_bd p1
    obtain ⟨x1, hx1⟩ : ∃ p, wave p1 = p := ⟨_, rfl⟩
    rw [hx1] at HSU q1 ⊢
    clear hx1
    go_wp2_with (fail)
    refine (colM_c k (by omega) wr).mono ?_
    rintro e w5 ⟨rfl, hw⟩
    rw [hw]
    clear hw w5
    obtain ⟨c, hc⟩ : ∃ r : Int, (22 + 4 * ((k % 4 : Nat) : Int)) = r := ⟨_, rfl⟩
    have hc2 : 0 ≤ c ∧ c ≤ 34 := by omega
    rw [hc] at HSU ⊢
    clear hc
    have hm2 : 0 ≤ (ph + j) * c ∧ (ph + j) * c ≤ 1300 * 34 := ⟨Int.mul_nonneg hpj.1 hc2.1, Int.mul_le_mul hpj.2 hc2.2 hc2.1 (by omega)⟩
    obtain ⟨p2, hp2⟩ : ∃ p, (ph + (j : Int)) * c = p := ⟨_, rfl⟩
    rw [hp2] at HSU hm2
    go_wp2_with (fail)
    refine (atM_c vt p2 (by omega) (by omega) wr hQ.out).mono ?_
    rintro e w5 ⟨rfl, hw⟩
    rw [hw]
    clear hw w5
    have q2 := wave_bd p2
    obtain ⟨x2, hx2⟩ : ∃ p, wave p2 = p := ⟨_, rfl⟩
    rw [hx2] at HSU q2 ⊢
    clear hx2 hp1 hp2
    have hxs : -2147483648 ≤ x1 + x2 ∧ x1 + x2 ≤ 2147483648 := by omega
    have hm3 := mul_bd (A := 16000) ⟨by omega, c2.2⟩ hxs
    obtain ⟨y, hy⟩ : ∃ p, sz * (x1 + x2) = p := ⟨_, rfl⟩
    rw [hy] at HSU hm3
    go_wp2_with (fail)
    refine (nearM_c y (by omega) (by omega) wr).mono ?_
    rintro e w5 ⟨rfl, hw⟩
    rw [hw]
    clear hw w5
    obtain ⟨z, hz⟩ : ∃ p, near y = p := ⟨_, rfl⟩
    rw [hz] at HSU ⊢
    clear hz hy
    have HOA : Hid (OwE w2.heap.size (wr.alloc (Obj.cells #[.int .i64 z] 3)) vv (tnL k sz ph j) (.slice (some ⟨w.heap.size, 0, none⟩) 0 0)) := hO.out.below ((Below.refl _ _).alloc (Nat.le_refl _) _)
    have HBA : Hid (Below w2.heap.size w2 (wr.alloc (Obj.cells #[.int .i64 z] 3))) := hbb.out.alloc hbb.out.size _
    go_wp2_with (at_builtin; refine appE rfl (.tmp 56) (.tmp 61) rfl w2.heap.size _ (tnL k sz ph j) _ rfl HOA.out wr.heap.size z rfl (by simp) (by have := HLN.out; omega) HBA.out.size ?_)
    intro v6 w6 ho hb
    have HO6 : Hid (OwE w2.heap.size w6 v6 (tnL k sz ph (j + 1)) (.slice (some ⟨w.heap.size, 0, none⟩) 0 0)) := .inl (by rw [HSU.out]; exact ho)
    have HB6 : Hid (Below w2.heap.size w2 w6) := HBA.out.trans hb
    clear ho hb
    go_wp2
    go_roundw
    case rel => exact ⟨j + 1, _, by omega, by simp; omega, rfl, HO6.out, HB6.out⟩
    case measure => simp [intOf]; omega

end Go.Proofs.YtgdejlofkjdkoaaDoor
