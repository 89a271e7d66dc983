/- The program: numbers of four bits told as levels; the table is as it was laid. -/
import Derived.Test.YtkjfcebdjnclaaaDoorCdk
import Derived.Test.YtkjfcebdjnclaaaDoorApp
namespace Go.Proofs.YtkjfcebdjnclaaaDoor
open Go.RowKit Go.ChangeShapes Go.WideShapes Go.ChangeAt
set_option linter.unusedVariables false
set_option linter.unusedSimpArgs false
set_option maxRecDepth 8000

theorem results_E {fn : Func} {u p v : Tmp} (h : fn.results = #[.tmp u, .cell p 25, .tmp v]) (tmps : Array Value) (w : World) (g : Nat) (c : Int × Int) (a b : Value)
    (hu : tmps.getD u undef = a) (hp : tmps.getD p undef = .pointer (some ⟨g, 0, none⟩)) (hv : tmps.getD v undef = b) (hg : Blk w g (cdA c) 25) :
    (results fn tmps).run Tryd.prog w = .ok (.tuple #[a, .agg (cdA c), b]) w := by
  have hp' : tmps[p]?.getD undef = .pointer (some ⟨g, 0, none⟩) := by simpa using hp
  have hu' : tmps[u]?.getD undef = a := by simpa using hu
  have hv' : tmps[v]?.getD undef = b := by simpa using hv
  have hr := run_loadVar_row (P := Tryd.prog) w g 25 25 (cdA c) (0, 0) _ hg Tryd.underlying25 rfl sizeCd
  simp [results, h, hp', hu', hv', asAddr, hr]
/-- a row of numbers, a coder, and whether all was right -/
def CdR (out : List Int) (c : Int × Int) (ok : Bool) (w : World) (e : Ending) (w' : World) : Prop := ∃ v, e = .returned (.tuple #[v, .agg (cdA c), .bool ok]) ∧ Ow .i64 3 w.heap.size w' v out ∧ Below w.heap.size w w'
/-- boxes of a coder and of an answer -/
structure Bx2 (w : World) (c : Int × Int) (W : World) : Prop where
  c : Blk W w.heap.size (cdA c) 25
  z : Blk W (w.heap.size + 1) (cdA (0, 0)) 25
  b : Below w.heap.size w W
theorem Bx2.new (w : World) (c : Int × Int) : Bx2 w c ((w.alloc (Obj.cells (cdA c) 25)).alloc (Obj.cells (cdA (0, 0)) 25)) :=
  ⟨(Blk.new _ _ _).alloc _, Blk.newAt _ _ _ _ (by simp), ((Below.refl _ _).alloc (Nat.le_refl _) _).alloc (by simp) _⟩
theorem Bx2.call {w : World} {c : Int × Int} {W W' : World} (h : Bx2 w c W) (hb : Below W.heap.size W W') : Bx2 w c W' := ⟨h.c.below hb h.c.lt, h.z.below hb h.z.lt, belowCall h.b hb h.b.size⟩
theorem Bx2.put {w : World} {c : Int × Int} {W : World} (h : Bx2 w c W) (d : Int × Int) : Bx2 w d (W.setRow w.heap.size (cdA d)) := ⟨h.c.row _, h.z.rowOther _ _ (by omega), belowRow h.b _ (Nat.le_refl _) _⟩
theorem Bx2.fin {w : World} {c : Int × Int} {W : World} (h : Bx2 w c W) (d : Int × Int) : Blk (W.setRow (w.heap.size + 1) (cdA d)) (w.heap.size + 1) (cdA d) 25 ∧ Below w.heap.size w (W.setRow (w.heap.size + 1) (cdA d)) := ⟨h.z.row _, belowRow h.b _ (by omega) _⟩
theorem Bx2.ge {w : World} {c : Int × Int} {W : World} (h : Bx2 w c W) : w.heap.size + 2 ≤ W.heap.size := h.z.lt
theorem Ow.putRow {base : Nat} {w : World} {v : Value} {zs : List Int} {g : Nat} {cs : Array Value} (h : Ow .i64 3 base w v zs) (hg : g < base) : Ow .i64 3 base (w.setRow g cs) v zs := by
  refine World.ownsRow.kept (row := some g) h ⟨rfl, rfl, rfl, by simp, fun i _ hi => setRow_other w _ i _ (fun e => hi (by simp [e]))⟩ ?_
  cases hv : v.ownBlock with
  | none => exact .inl rfl
  | some k =>
    refine .inr fun e => ?_
    have h1 := (World.ownsRow.lt h k hv).1
    simp at e
    omega
theorem Bx2.set {w : World} {c : Int × Int} {W : World} (h : Bx2 w c W) (g j : Nat) (v : Value) (hg : w.heap.size + 2 ≤ g) : Bx2 w c (W.setCell ⟨g, j, none⟩ v) := ⟨h.c.other _ _ (by dsimp only; omega), h.z.other _ _ (by dsimp only; omega), h.b.setCell (by dsimp only; omega) _⟩
/-- the first j told, noughts behind -/
def mz (xs : List Int) (n j : Nat) : List Int := xs ++ List.replicate (n - j) 0
theorem mz_set (xs : List Int) (n j : Nat) (z : Int) (hl : xs.length = j) (hj : j < n) : (mz xs n j).set j z = mz (xs ++ [z]) n (j + 1) := by
  unfold mz
  rw [show n - j = (n - (j + 1)) + 1 by omega, List.replicate_succ, List.set_append, if_neg (by omega), show j - xs.length = 0 by omega]
  simp
theorem mz_len (xs : List Int) (n j : Nat) (hl : xs.length = j) (hj : j ≤ n) : (mz xs n j).length = n := by simp [mz, hl]; omega

set_option maxHeartbeats 6400000 in
theorem exI_c (c : Int × Int) (v : Value) (zs : List Int) (w : World) (h : Rd .i64 w v zs) (hG : ChG w) :
    Calls Tryd.prog 19 #[.agg (cdA c), v] w fun e w' => (COk c ∧ FrP zs → CdR (exL c zs) (cdE c zs) true w e w') ∧ (¬ (COk c ∧ FrP zs) → CdR [] (0, 0) false w e w') := by
  have HR0 : Hid (Rd .i64 w v zs) := h
  have HG : Hid (ChG w) := hG
  obtain ⟨a, cap, rfl, h1, h2, h3⟩ := h
  unfold maxLen at h2
  obtain ⟨i0, hi, hz0, hz1, hz2⟩ := info_parts toIInfo
  obtain ⟨W1, hW1⟩ : ∃ W, (w.alloc (Obj.cells (cdA c) 25)).alloc (Obj.cells (cdA (0, 0)) 25) = W := ⟨_, rfl⟩
  have HX : Hid (Bx2 w c W1) := by rw [← hW1]; exact Bx2.new w c
  have x0 := HX.out.c.cell 0
  have x1 := HX.out.c.cell 1
  simp at x0 x1
  go_enter Tryd.func19, Tryd.ntmps19
  go_wp2_with (fail)
  refine (cdI_c c W1).mono ?_
  rintro e w1 ⟨rfl, b1⟩
  have HX1 : Hid (Bx2 w c w1) := HX.out.call b1
  clear b1 x0 x1 hW1 HX
  by_cases hc : COk c
  case neg =>
    have d : decide (COk c) = false := by rw [decide_eq_false_iff_not]; exact hc
    have HF : Hid (¬ (COk c ∧ FrP zs)) := fun h => hc h.1
    rw [d]
    clear hc d h3
    go_wp2_with (refine wpList_store_row rfl 25 _ _ rfl (w.heap.size + 1) _ rfl rfl 25 (cdA (0, 0)) HX1.out.z sizeCd rfl (by simp [Value.oneCell']) ?_)
    have hf := HX1.out.fin (0, 0)
    exact bodyPost_ret (results_E rfl _ _ (w.heap.size + 1) (0, 0) _ _ rfl rfl rfl hf.1) rfl ⟨fun h => absurd h HF.out, fun _ => ⟨_, rfl, Ow.nil _ _ _ _, hf.2⟩⟩
  have d : decide (COk c) = true := by rw [decide_eq_true_eq]; exact hc
  have HCO : Hid (COk c) := hc
  rw [d]
  clear hc d
  go_wp2_with (fail)
  refine (fours_c _ zs w1 (HR0.out.below HX1.out.b)).mono ?_
  rintro e w2 ⟨r, rfl, hr, b2⟩
  have HX2 : Hid (Bx2 w c w2) := HX1.out.call b2
  have HRR : Hid (r = true ↔ FrP zs) := hr
  clear b2 hr HX1
  cases r with
  | false =>
    have HF : Hid (¬ (COk c ∧ FrP zs)) := fun h => by have := HRR.out.2 h.2; cases this
    clear h3
    go_wp2_with (refine wpList_store_row rfl 25 _ _ rfl (w.heap.size + 1) _ rfl rfl 25 (cdA (0, 0)) HX2.out.z sizeCd rfl (by simp [Value.oneCell']) ?_)
    have hf := HX2.out.fin (0, 0)
    exact bodyPost_ret (results_E rfl _ _ (w.heap.size + 1) (0, 0) _ _ rfl rfl rfl hf.1) rfl ⟨fun h => absurd h HF.out, fun _ => ⟨_, rfl, Ow.nil _ _ _ _, hf.2⟩⟩
  | true =>
  have HFR : Hid (FrP zs) := HRR.out.1 rfl
  have hl3 := HFR.out.1
  clear HRR
  go_wp2_with (at_make; refine wpList_make_full _ rfl _ _ 26 rfl w2.heap.size 3 i0 (.int .i64 0) 1 Tryd.underlying26 hi hz0 hz1 .i64 .i64 _ _ zs.length rfl rfl rfl rfl (by rw [hz2]; omega) (by unfold maxLen; omega) (Nat.le_refl _) ?_)
  intro w3 ho hg
  have hx : (madeCells #[Value.int .i64 0] zs.length).toList = (mz (exL c (zs.take 0)) zs.length 0).map (Value.int .i64) := by
    rw [toList_madeCells_one]; simp [mz, exL]
  rw [hx] at ho
  have b3 : Below w2.heap.size w2 w3 := grown_below hg (Nat.le_refl _) (by simp)
  have HX3 : Hid (Bx2 w c w3) := HX2.out.call b3
  have HO3 : Hid (w3.ownsRow w2.heap.size 3 1 (.slice (some ⟨w2.heap.size, 0, none⟩) zs.length zs.length) zs.length ((mz (exL c (zs.take 0)) zs.length 0).map (Value.int .i64))) := ho
  have HGE : Hid (w.heap.size + 2 ≤ w2.heap.size) := HX2.out.ge
  obtain ⟨g2, hg2⟩ : ∃ g, w2.heap.size = g := ⟨_, rfl⟩
  rw [hg2] at HO3 HGE ⊢
  clear hx hg ho b3 HX2 hg2
  go_wp2
  go_loopw [24] (fun i wr => ∃ j : Nat, j ≤ zs.length ∧ i = .int .i64 j ∧ Hid (Bx2 w (cdE c (zs.take j)) wr ∧ wr.ownsRow g2 3 1 (.slice (some ⟨g2, 0, none⟩) zs.length zs.length) zs.length ((mz (exL c (zs.take j)) zs.length j).map (Value.int .i64)))) (fun i _ => zs.length - (intOf i).toNat)
  case atStart => exact ⟨0, Nat.zero_le _, rfl, HX3.out, HO3.out⟩
  case round =>
    obtain ⟨j, hj, rfl, hw⟩ := hrel
    clear HX3 HO3
    by_cases hlt : j < zs.length
    case neg =>
      obtain rfl : j = zs.length := by omega
      rw [List.take_length] at hw
      have HY : Hid (Bx2 w (cdE c zs) wr) := hw.out.1
      have HO : Hid (Ow .i64 3 g2 wr (.slice (some ⟨g2, 0, none⟩) zs.length zs.length) (exL c zs)) := by
        have := hw.out.2
        simp only [mz, Nat.sub_self, List.replicate_zero, List.append_nil] at this
        show Ow _ _ _ _ _ _
        rw [Ow, exL_len]; exact this
      clear h3 hw
      obtain ⟨S, hS⟩ : ∃ S : World → Prop, ∀ W, S W ↔ Blk W w.heap.size (cdA (cdE c zs)) 25 := ⟨_, fun _ => Iff.rfl⟩
      have y0 : ∀ W : At S, W.wd.cell? ⟨w.heap.size, 0, none⟩ = some (.int .i64 (cdE c zs).1) := fun W => by rw [((hS _).1 W.ok).cell 0]; rfl
      have y1 : ∀ W : At S, W.wd.cell? ⟨w.heap.size, 1, none⟩ = some (.int .i64 (cdE c zs).2) := fun W => by rw [((hS _).1 W.ok).cell 1]; rfl
      have HS : Hid (∀ W, S W ↔ Blk W w.heap.size (cdA (cdE c zs)) 25) := hS
      have ne : Nonempty (At S) := ⟨⟨wr, (hS _).2 HY.out.c⟩⟩
      clear hS
      go_wp2
      refine region_mixA [true, true, true, false, false] 3 0 S (by kernel_rfl) rfl (by kernel_rfl) (fun _ _ _ _ _ h => h) ((HS.out _).2 HY.out.c.drew) ?_
      simp only [selT, selF]
      try simp only [Act.put]
      repeat (go_big_quiet_step (fail))
      refine wpQuiet_nil ?_
      refine tail_end ?_
      have HYD : Bx2 w (cdE c zs) wr.drew := ⟨HY.out.c.drew, HY.out.z.drew, HY.out.b.drew⟩
      have hf := HYD.fin (cdE c zs)
      have HFF : Hid (Blk (wr.drew.setRow (w.heap.size + 1) (cdA (cdE c zs))) (w.heap.size + 1) (cdA (cdE c zs)) 25 ∧ Below w.heap.size w (wr.drew.setRow (w.heap.size + 1) (cdA (cdE c zs)))) := hf
      have HOF : Hid (Ow .i64 3 g2 (wr.drew.setRow (w.heap.size + 1) (cdA (cdE c zs))) (.slice (some ⟨g2, 0, none⟩) zs.length zs.length) (exL c zs)) := Ow.putRow (show Ow .i64 3 g2 wr.drew _ _ from HO.out.below (Below.refl _ _).drew) (by have := HGE.out; omega)
      clear hf HYD y0 y1
      go_wp2_with (refine wpList_store_row rfl 25 _ _ rfl (w.heap.size + 1) _ rfl rfl 25 (cdA (0, 0)) HY.out.z.drew sizeCd rfl (by simp [Value.oneCell']) ?_)
      exact bodyPost_ret (results_E rfl _ _ (w.heap.size + 1) (cdE c zs) _ _ rfl rfl rfl HFF.out.1) rfl ⟨fun _ => ⟨_, rfl, HOF.out.mono (by have := HGE.out; omega), HFF.out.2⟩, fun h => absurd ⟨HCO.out, HFR.out⟩ h⟩
    case pos =>
    rcases h3 with h3 | ⟨b, off, rfl, h4⟩
    · subst h3; simp at hlt
    obtain ⟨m, hm⟩ : ∃ m : Nat, zs[j] = (m : Int) := Int.eq_ofNat_of_zero_le (HFR.out.2 _ (List.getElem_mem hlt)).1
    have HM15 : Hid (m ≤ 15) := by have := (HFR.out.2 _ (List.getElem_mem hlt)).2; rw [hm] at this; show _ ≤ _; omega
    have hc : wr.cell? ⟨b, off + j, none⟩ = some (.int .i64 (m : Int)) := by
      have := h4 j hlt
      rw [hw.out.1.b.cell (block_lt_of_cell this), this]
      simp [List.getElem?_eq_getElem hlt, hm]
    obtain ⟨dd, hdd⟩ : ∃ d, cdE c (zs.take j) = d := ⟨_, rfl⟩
    have HOK : Hid (COk dd) := by rw [← hdd]; exact cdE_ok _ HCO.out
    have HNX : Hid (cdE c (zs.take (j + 1)) = nxF dd m) := by show _ = _; rw [cdE_take c zs j hlt, hdd, hm]
    have HEX : Hid (exL c (zs.take (j + 1)) = exL c (zs.take j) ++ [(nxF dd m).1]) := by show _ = _; rw [exL_take c zs j hlt, hdd, hm]
    rw [hdd] at hw
    have HXW : Hid (Bx2 w dd wr) := hw.out.1
    have hOW := hw.out.2
    have hel : (exL c (zs.take j)).length = j := by rw [exL_len]; simp; omega
    have x0 := HXW.out.c.cell 0
    have x1 := HXW.out.c.cell 1
    simp at x0 x1
    have hi1 : (0 : Int) ≤ (j : Int) := by omega
    have hi2 : (j : Int) < (zs.length : Int) := by omega
    have HOW : Hid (wr.ownsRow g2 3 1 (.slice (some ⟨g2, 0, none⟩) zs.length zs.length) zs.length ((mz (exL c (zs.take j)) zs.length j).map (Value.int .i64))) := hOW
    clear h4 hw hdd hm hOW
    go_wp2_with (fail)
    refine (behindI_c dd HOK.out m HM15.out wr (HG.out.below HXW.out.b HG.out.lt)).mono ?_
    rintro e w4 ⟨rfl, b4⟩
    have X4 := HXW.out.call b4
    have HK4 : Hid (Blk w4 w.heap.size (cdA dd) 25) := X4.c
    have X5 := X4.put (nxF dd m)
    have o4 : w4.ownsRow g2 3 1 (.slice (some ⟨g2, 0, none⟩) zs.length zs.length) zs.length ((mz (exL c (zs.take j)) zs.length j).map (Value.int .i64)) := World.ownsRow.kept (row := none) HOW.out ⟨b4.os, b4.tape, b4.output, b4.size, fun i hi _ => b4.block i hi⟩ (by simp [Value.ownBlock])
    have o5 : (w4.setRow w.heap.size (cdA (nxF dd m))).ownsRow g2 3 1 (.slice (some ⟨g2, 0, none⟩) zs.length zs.length) zs.length ((mz (exL c (zs.take j)) zs.length j).map (Value.int .i64)) :=
      World.ownsRow.kept (row := some w.heap.size) o4 ⟨rfl, rfl, rfl, by simp, fun i _ hi => setRow_other w4 _ i _ (fun e => hi (by simp [e]))⟩ (.inr (by simp [Value.ownBlock]; have := HGE.out; omega))
    have y0 : (w4.setRow w.heap.size (cdA (nxF dd m))).cell? ⟨w.heap.size, 0, none⟩ = some (.int .i64 (nxF dd m).1) := by rw [X5.c.cell 0]; rfl
    obtain ⟨u, hd⟩ : ∃ u, (w4.setRow w.heap.size (cdA (nxF dd m))).cell? ⟨g2, j, none⟩ = some u := by
      rw [o5.cellAt j (by omega)]
      exact ⟨_, List.getElem?_eq_getElem (by simp [mz_len _ _ _ hel hj]; exact hlt)⟩
    have hf := o5.frozenAt j
    have hs := (o5.stored j (.int .i64 (nxF dd m).1)).1
    rw [← List.map_set, mz_set _ _ _ _ hel hlt, ← HEX.out] at hs
    have HS : Hid (Bx2 w (cdE c (zs.take (j + 1))) ((w4.setRow w.heap.size (cdA (nxF dd m))).setCell ⟨g2, j, none⟩ (.int .i64 (nxF dd m).1)) ∧ ((w4.setRow w.heap.size (cdA (nxF dd m))).setCell ⟨g2, j, none⟩ (.int .i64 (nxF dd m).1)).ownsRow g2 3 1 (.slice (some ⟨g2, 0, none⟩) zs.length zs.length) zs.length ((mz (exL c (zs.take (j + 1))) zs.length (j + 1)).map (Value.int .i64))) := ⟨by rw [HNX.out]; exact X5.set g2 j _ HGE.out, hs⟩
    clear X4 X5 o4 o5 hs b4 HOW HXW x0 x1 hc hel
    go_wp2_with (refine wpList_store_row rfl 25 _ _ rfl w.heap.size _ rfl rfl 25 (cdA dd) HK4.out sizeCd rfl (by simp [Value.oneCell']) ?_)
    go_roundw
    case rel => exact ⟨j + 1, by omega, by go_num, HS.out⟩
    case measure => simp [intOf]; omega

end Go.Proofs.YtkjfcebdjnclaaaDoor
