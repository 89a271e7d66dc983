/- The program: levels in a frame; the table is as it was laid. -/
import Derived.Test.YtkjfcebdjnclaaaDoorSqi
namespace Go.Proofs.YtkjfcebdjnclaaaDoor
open Go.RowKit Go.ChangeShapes Go.WideShapes Go.ChangeAt
set_option linter.unusedVariables false
set_option linter.unusedSimpArgs false
set_option maxRecDepth 8000

theorem results_FE {fn : Func} {u p v : Tmp} (h : fn.results = #[.cell u 32, .cell p 25, .tmp v]) (tmps : Array Value) (w : World) (g k : Nat) (c : Int × Int) (f : Nat → Int) (b : Value)
    (hu : tmps.getD u undef = .pointer (some ⟨k, 0, none⟩)) (hp : tmps.getD p undef = .pointer (some ⟨g, 0, none⟩)) (hv : tmps.getD v undef = b) (hk : Blk w k (A16 f) 32) (hg : Blk w g (cdA c) 25) :
    (results fn tmps).run Tryd.prog w = .ok (.tuple #[.agg (A16 f), .agg (cdA c), b]) w := by
  have hp' : tmps[p]?.getD undef = .pointer (some ⟨g, 0, none⟩) := by simpa using hp
  have hu' : tmps[u]?.getD undef = .pointer (some ⟨k, 0, none⟩) := by simpa using hu
  have hv' : tmps[v]?.getD undef = b := by simpa using hv
  have hr := run_loadVar_row (P := Tryd.prog) w g 25 25 (cdA c) (0, 0) _ hg Tryd.underlying25 rfl sizeCd
  have hr2 := run_loadVar_row (P := Tryd.prog) w k 32 32 (A16 f) (0, 0) _ hk Tryd.underlying32 rfl (by rw [A16_size]; exact sizeF)
  simp [results, h, hp', hu', hv', asAddr, hr, hr2]
/-- the bytes of a frame -/
def foF (s : Int) (ns : List Int) (i : Nat) : Int := if i = 0 then s else ns.getD (2 * (i - 1)) 0 * 16 + ns.getD (2 * (i - 1) + 1) 0
/-- what FrameOf tells -/
def FoR (f : Nat → Int) (c : Int × Int) (ok : Bool) (w : World) (e : Ending) (w' : World) : Prop := e = .returned (.tuple #[.agg (A16 f), .agg (cdA c), .bool ok]) ∧ Below w.heap.size w w'
def FoP (c : Int × Int) (zs : List Int) : Prop := COk c ∧ VP zs ∧ zs.length = 30
structure B3 (w : World) (c : Int × Int) (W : World) : Prop where
  c : Blk W w.heap.size (cdA c) 25
  f : Blk W (w.heap.size + 1) (A16 fun _ => 0) 32
  z : Blk W (w.heap.size + 2) (cdA (0, 0)) 25
  b : Below w.heap.size w W
theorem B3.new (w : World) (c : Int × Int) : B3 w c (((w.alloc (Obj.cells (cdA c) 25)).alloc (Obj.cells #[.int .u8 0, .int .u8 0, .int .u8 0, .int .u8 0, .int .u8 0, .int .u8 0, .int .u8 0, .int .u8 0, .int .u8 0, .int .u8 0, .int .u8 0, .int .u8 0, .int .u8 0, .int .u8 0, .int .u8 0, .int .u8 0] 32)).alloc (Obj.cells (cdA (0, 0)) 25)) :=
  ⟨((Blk.new _ _ _).alloc _).alloc _, (Blk.newAt _ _ _ _ (by simp)).alloc _, Blk.newAt _ _ _ _ (by simp), (((Below.refl _ _).alloc (Nat.le_refl _) _).alloc (by simp) _).alloc (by simp; omega) _⟩
theorem B3.ge {w : World} {c : Int × Int} {W : World} (h : B3 w c W) : w.heap.size + 3 ≤ W.heap.size := h.z.lt
theorem B3.call {w : World} {c : Int × Int} {W W' : World} (h : B3 w c W) {B : Nat} (hb : Below B W W') (hB : w.heap.size + 3 ≤ B) : B3 w c W' := ⟨h.c.below hb (by omega), h.f.below hb (by omega), h.z.below hb (by omega), h.b.trans (hb.mono (by omega))⟩
theorem B3.fin {w : World} {c : Int × Int} {W : World} (h : B3 w c W) (f : Nat → Int) (d : Int × Int) : Blk ((W.setRow (w.heap.size + 1) (A16 f)).setRow (w.heap.size + 2) (cdA d)) (w.heap.size + 1) (A16 f) 32 ∧ Blk ((W.setRow (w.heap.size + 1) (A16 f)).setRow (w.heap.size + 2) (cdA d)) (w.heap.size + 2) (cdA d) 25 ∧ Below w.heap.size w ((W.setRow (w.heap.size + 1) (A16 f)).setRow (w.heap.size + 2) (cdA d)) :=
  ⟨(h.f.row _).rowOther _ _ (by omega), (h.z.rowOther _ _ (by omega)).row _, belowRow (belowRow h.b _ (by omega) _) _ (by omega) _⟩
/-- the first bytes -/
def byL (s : Int) (ns : List Int) (j : Nat) : List Int := (List.range (j + 1)).map (foF s ns)
theorem byL_succ (s : Int) (ns : List Int) (j : Nat) : byL s ns (j + 1) = byL s ns j ++ [foF s ns (j + 1)] := by unfold byL; rw [List.range_succ, List.map_append]; rfl
theorem byL_len (s : Int) (ns : List Int) (j : Nat) : (byL s ns j).length = j + 1 := by simp [byL]
theorem byL_fr (s : Int) (ns : List Int) : (byL s ns 15).map (Value.int .u8) = frF (foF s ns) := by simp [byL, frF, List.map_map]
theorem arrP (b c : Nat) (W : World) : (Instr.arrayAt 32 (.slice (some ⟨b, 0, none⟩) 16 c)).run Tryd.prog W = .ok (.pointer (some ⟨b, 0, none⟩)) W := by
  simp [Instr.arrayAt, run_underlying Tryd.underlying32]
/-- a frame that is loaded among operations that only read -/
theorem quietLdF {o : Oper} {a : Act} {C : World → Prop} {K : Act → Prop} (x : Operand) (ho : o.op = .load 32 x) (g off : Nat) (hx : a.eval x = .pointer (some ⟨g, off, none⟩)) (f : Nat → Int) (hr : ∀ w, C w → w.rangeAt g off (frF f))
    (h : K (a.put o.dst (.agg (A16 f)))) : o.quiet Tryd.prog a C K :=
  ⟨_, fun w hw => by
    unfold Oper.quietAt execOp
    simp only [ho, hx, Instr.loadAt, Instr.sureAddr, Sem.run_bind, Sem.run_pure, Result.andThen_ok, run_loadVar_mid w g off 32 (frF f) _ (hr w hw) Tryd.underlying32 rfl (by rw [frF_len]; exact sizeF)]
    exact ⟨rfl, rfl⟩, h⟩
set_option maxHeartbeats 6400000 in
theorem foI_c (c : Int × Int) (v : Value) (zs : List Int) (w : World) (h : Rd .i64 w v zs) (hG : ChG w) :
    Calls Tryd.prog 21 #[.agg (cdA c), v] w fun e w' => (FoP c zs → FoR (foF c.2 (sqL c zs)) (sqE c zs) true w e w') ∧ (¬ FoP c zs → FoR (fun _ => 0) (0, 0) false w e w') := by
  have HR0 : Hid (Rd .i64 w v zs) := h
  have HG : Hid (ChG w) := hG
  obtain ⟨a, cap, rfl, h1, h2, -⟩ := h
  unfold maxLen at h2
  obtain ⟨W1, hW1⟩ : ∃ W, ((w.alloc (Obj.cells (cdA c) 25)).alloc (Obj.cells #[.int .u8 0, .int .u8 0, .int .u8 0, .int .u8 0, .int .u8 0, .int .u8 0, .int .u8 0, .int .u8 0, .int .u8 0, .int .u8 0, .int .u8 0, .int .u8 0, .int .u8 0, .int .u8 0, .int .u8 0, .int .u8 0] 32)).alloc (Obj.cells (cdA (0, 0)) 25) = W := ⟨_, rfl⟩
  have X1 : B3 w c W1 := by rw [← hW1]; exact B3.new w c
  have HX1 : Hid (B3 w c W1) := X1
  have x0 := X1.c.cell 0
  have x1 := X1.c.cell 1
  simp at x0 x1
  clear X1 hG
  go_enter Tryd.func21, Tryd.ntmps21
  by_cases hl : zs.length = 30
  case neg =>
    have d : ((zs.length : Int) != 30) = true := by rw [bne_iff_ne]; omega
    have HF : Hid (¬ FoP c zs) := fun h => hl h.2.2
    clear hl
    have HY : Hid (Blk (W1.setRow (w.heap.size + 1) (A16 fun _ => 0)) (w.heap.size + 2) (cdA (0, 0)) 25) := HX1.out.z.rowOther _ _ (by omega)
    go_wp2_with (first | refine stF rfl _ _ rfl (w.heap.size + 1) rfl (fun _ => 0) rfl 32 (A16 fun _ => 0) HX1.out.f (A16_size _) ?_ | refine wpList_store_row rfl 25 _ _ rfl (w.heap.size + 2) _ rfl rfl 25 (cdA (0, 0)) HY.out sizeCd rfl (by simp [Value.oneCell']) ?_)
    obtain ⟨f1, f2, f3⟩ := HX1.out.fin (fun _ => 0) (0, 0)
    exact bodyPost_ret (results_FE rfl _ _ (w.heap.size + 2) (w.heap.size + 1) (0, 0) (fun _ => 0) _ rfl rfl rfl f1 f2) rfl ⟨fun h => absurd h HF.out, fun _ => ⟨rfl, f3⟩⟩
  have d : ((zs.length : Int) != 30) = false := by rw [bne_eq_false_iff_eq]; omega
  have HL30 : Hid (zs.length = 30) := hl
  clear hl
  go_wp2_with (fail)
  refine (sqzI_c c _ zs W1 (HR0.out.below HX1.out.b) (HG.out.below HX1.out.b HG.out.lt)).mono ?_
  rintro e w2 ⟨hy, hn⟩
  by_cases hP : COk c ∧ VP zs
  case neg =>
    obtain ⟨v2, rfl, o2, b2⟩ := hn hP
    have HF : Hid (¬ FoP c zs) := fun h => hP ⟨h.1, h.2.1⟩
    obtain ⟨W3, hW3⟩ : ∃ W, w2.alloc (Obj.cells (cdA (0, 0)) 25) = W := ⟨_, rfl⟩
    have b3 : Below w2.heap.size w2 W3 := by rw [← hW3]; exact (Below.refl _ _).alloc (Nat.le_refl _) _
    have X2 := HX1.out.call b2 HX1.out.ge
    have X3 := X2.call b3 X2.ge
    have HX3 : Hid (B3 w c W3) := X3
    have HY : Hid (Blk (W3.setRow (w.heap.size + 1) (A16 fun _ => 0)) (w.heap.size + 2) (cdA (0, 0)) 25) := X3.z.rowOther _ _ (by omega)
    have HW3 : Hid (w2.alloc (Obj.cells (cdA (0, 0)) 25) = W3) := hW3
    clear hy hn hP o2 b2 b3 X2 X3 x0 x1 hW1 hW3
    go_wp2_with (first | (rw [HW3.out]; refine stF rfl _ _ rfl (w.heap.size + 1) rfl (fun _ => 0) rfl 32 (A16 fun _ => 0) HX3.out.f (A16_size _) ?_) | refine wpList_store_row rfl 25 _ _ rfl (w.heap.size + 2) _ rfl rfl 25 (cdA (0, 0)) HY.out sizeCd rfl (by simp [Value.oneCell']) ?_)
    obtain ⟨f1, f2, f3⟩ := HX3.out.fin (fun _ => 0) (0, 0)
    exact bodyPost_ret (results_FE rfl _ _ (w.heap.size + 2) (w.heap.size + 1) (0, 0) (fun _ => 0) _ rfl rfl rfl f1 f2) rfl ⟨fun h => absurd h HF.out, fun _ => ⟨rfl, f3⟩⟩
  obtain ⟨v2, rfl, o2, b2⟩ := hy hP
  have HP : Hid (FoP c zs) := ⟨hP.1, hP.2, HL30.out⟩
  have HSB : Hid (∀ n ∈ sqL c zs, 0 ≤ n ∧ n ≤ 15) := sqL_bd zs c hP.1
  have hns : (sqL c zs).length = 30 := by rw [sqL_len]; exact HL30.out
  obtain ⟨ns, hnn⟩ : ∃ ns, sqL c zs = ns := ⟨_, rfl⟩
  obtain ⟨cc, hcc⟩ : ∃ cc, sqE c zs = cc := ⟨_, rfl⟩
  have HNN : Hid (sqL c zs = ns ∧ sqE c zs = cc) := ⟨hnn, hcc⟩
  rw [hnn] at HSB hns o2
  rw [hcc]
  obtain ⟨k8, hk8⟩ : ∃ k, w2.heap.size = k := ⟨_, rfl⟩
  obtain ⟨W3, hW3⟩ : ∃ W, w2.alloc (Obj.cells (cdA cc) 25) = W := ⟨_, rfl⟩
  have b3 : Below w2.heap.size w2 W3 := by rw [← hW3]; exact (Below.refl _ _).alloc (Nat.le_refl _) _
  have X2 := HX1.out.call b2 HX1.out.ge
  have X3 := X2.call b3 X2.ge
  have o3 := o2.below b3
  have k3 : Blk W3 k8 (cdA cc) 25 := by rw [← hW3, ← hk8]; exact Blk.new _ _ _
  -- the row of the first byte
  obtain ⟨g2, hg2⟩ : ∃ g, W3.heap.size = g := ⟨_, rfl⟩
  obtain ⟨W4, hW4⟩ : ∃ W, W3.alloc (Obj.cells #[.int .u8 c.2] 5) = W := ⟨_, rfl⟩
  have b4 : Below W3.heap.size W3 W4 := by rw [← hW4]; exact (Below.refl _ _).alloc (Nat.le_refl _) _
  have HX4 : Hid (B3 w c W4) := X3.call b4 X3.ge
  have HK4 : Hid (Blk W4 k8 (cdA cc) 25 ∧ k8 < g2) := ⟨k3.below b4 k3.lt, by rw [← hg2]; exact k3.lt⟩
  have o4 := o3.below b4
  obtain ⟨va, vc, hv2⟩ : ∃ b c', v2 = .slice (some ⟨b, 0, none⟩) 30 c' := by
    rcases o4.2 with ⟨rfl, h0⟩ | ⟨b, c', cur, rfl, -⟩
    · rw [hns] at h0; cases h0
    · exact ⟨b, c', by rw [hns]⟩
  subst hv2
  have HN4 : Hid (Rd .i64 W4 (.slice (some ⟨va, 0, none⟩) 30 vc) ns ∧ va < g2) := ⟨o4.rd, by rw [← hg2]; exact (World.ownsRow.lt o3 va rfl).2⟩
  have HO4 : Hid (Ow .u8 5 g2 W4 (.slice (some ⟨g2, 0, none⟩) 1 1) (byL c.2 ns 0)) := by
    rw [← hW4, ← hg2]
    have : byL c.2 ns 0 = [c.2] := rfl
    rw [this]
    exact World.ownsRow_lit (e := 5) (size := 1) (base := W3.heap.size) W3 #[.int .u8 c.2] 1 (Nat.le_refl _) (by unfold maxLen; omega) rfl
  have hc20 := hP.1.2.1
  have hc21 := hP.1.2.2
  have HW3 : Hid (w2.alloc (Obj.cells (cdA cc) 25) = W3) := hW3
  have y1 := X3.c.cell 1
  simp at y1
  have HK8 : Hid (w.heap.size + 3 ≤ k8) := by rw [← hk8]; exact X2.ge
  have HGE : Hid (w.heap.size + 3 ≤ g2) := by rw [← hg2]; exact X3.ge
  clear hy hn hP o2 b2 b3 b4 X2 X3 o3 k3 o4 x0 x1 hW1 hnn hcc
  go_wp2
  clear hk8 hW3 hg2 hW4 y1
  go_loopw [10, 11] (fun vo i wr => ∃ j k : Nat, ∃ v' : Value, j ≤ 15 ∧ Hid (k = 2 * j) ∧ i = .int .i64 (k : Int) ∧ v' = vo ∧ Hid (B3 w c wr ∧ Blk wr k8 (cdA cc) 25 ∧ Rd .i64 wr (.slice (some ⟨va, 0, none⟩) 30 vc) ns ∧ Ow .u8 5 g2 wr v' (byL c.2 ns j))) (fun _ i _ => 31 - (intOf i).toNat)
  case atStart => exact ⟨0, 0, _, Nat.zero_le _, rfl, rfl, rfl, HX4.out, HK4.out.1, HN4.out.1, HO4.out⟩
  case round =>
    obtain ⟨j, k, vo, hj, HKJ, rfl, hvo, hw⟩ := hrel
    subst hvo
    clear HX4 HO4
    have HXW : Hid (B3 w c wr) := hw.out.1
    have HKW : Hid (Blk wr k8 (cdA cc) 25) := hw.out.2.1
    have HNW : Hid (Rd .i64 wr (.slice (some ⟨va, 0, none⟩) 30 vc) ns) := hw.out.2.2.1
    have HOW : Hid (Ow .u8 5 g2 wr vo (byL c.2 ns j)) := hw.out.2.2.2
    clear hw
    have HCE : Hid (∀ W, Rd .i64 W (.slice (some ⟨va, 0, none⟩) 30 vc) ns → ∀ t, t < 30 → W.cell? ⟨va, t, none⟩ = some (.int .i64 (ns.getD t 0))) := fun W hW t ht => by
      obtain ⟨a', c', e, -, -, h3⟩ := hW
      rcases h3 with h3 | ⟨b', off', e', h4⟩
      · rw [h3] at hns; cases hns
      · subst e'
        simp at e
        obtain ⟨⟨rfl, rfl⟩, -, -⟩ := e
        have := h4 t (by omega)
        simpa using this
    by_cases hlt : j < 15
    case neg =>
      obtain rfl : j = 15 := by omega
      obtain rfl : k = 30 := by have := HKJ.out; omega
      obtain ⟨pa, pc, hpo⟩ : ∃ b c', vo = .slice (some ⟨b, 0, none⟩) 16 c' := by
        rcases HOW.out.2 with ⟨rfl, h0⟩ | ⟨b, c', cur, rfl, -⟩
        · rw [byL_len] at h0; cases h0
        · exact ⟨b, c', by rw [byL_len]⟩
      subst hpo
      have harr := arrP pa pc
      have hpg : g2 ≤ pa := (World.ownsRow.lt HOW.out pa rfl).1
      obtain ⟨S, hS⟩ : ∃ S : World → Prop, ∀ W, S W ↔ (Blk W k8 (cdA cc) 25 ∧ W.rangeAt pa 0 (frF (foF c.2 ns))) := ⟨_, fun _ => Iff.rfl⟩
      have HRD : Hid (wr.drew.rangeAt pa 0 (frF (foF c.2 ns))) := by
        show World.rangeAt _ _ _ _
        rw [← byL_fr]
        intro t u hu
        have ht : t < 16 := by have := (List.getElem?_eq_some_iff.1 hu).1; simp [byL_len] at this; exact this
        have := World.ownsRow.cellAt HOW.out t (by first | omega | (rw [byL_len]; omega))
        rw [hu] at this
        rw [Nat.zero_add]
        exact this
      have z0 : ∀ W : At S, W.wd.cell? ⟨k8, 0, none⟩ = some (.int .i64 cc.1) := fun W => by rw [((hS _).1 W.ok).1.cell 0]; rfl
      have z1 : ∀ W : At S, W.wd.cell? ⟨k8, 1, none⟩ = some (.int .i64 cc.2) := fun W => by rw [((hS _).1 W.ok).1.cell 1]; rfl
      have HRG : Hid (∀ W : At S, W.wd.rangeAt pa 0 (frF (foF c.2 ns))) := fun W => ((hS _).1 W.ok).2
      have ne : Nonempty (At S) := ⟨⟨wr.drew, (hS _).2 ⟨HKW.out.drew, HRD.out⟩⟩⟩
      have HS : Hid (∀ W, S W ↔ (Blk W k8 (cdA cc) 25 ∧ W.rangeAt pa 0 (frF (foF c.2 ns)))) := hS
      have HXD : Hid (B3 w c wr.drew) := ⟨HXW.out.c.drew, HXW.out.f.drew, HXW.out.z.drew, HXW.out.b.drew⟩
      have HY : Hid (Blk (wr.drew.setRow (w.heap.size + 1) (A16 (foF c.2 ns))) (w.heap.size + 2) (cdA (0, 0)) 25) := HXD.out.z.rowOther _ _ (by omega)
      have HS2 : Hid (S (wr.drew.setRow (w.heap.size + 1) (A16 (foF c.2 ns)))) := (hS _).2 ⟨HKW.out.drew.rowOther _ _ (by have := HK8.out; omega), fun t u hu => (World.cell?_of_block (w := wr.drew) (setRow_other _ _ pa _ (by have := HGE.out; omega))).trans (HRD.out t u hu)⟩
      clear hS
      go_wp2
      refine region_mixA [true, true, true, true, false, false, false] 5 1 S (by kernel_rfl) rfl (by kernel_rfl) (fun _ _ _ _ _ h => h) ((HS.out _).2 ⟨HKW.out.drew, HRD.out⟩) ?_
      simp only [selT, selF]
      try simp only [Act.put]
      iterate 2 (go_big_quiet_step (fail))
      refine BigFrame.wpQuiet_want rfl fun K hK => quietLdF _ rfl pa 0 rfl (foF c.2 ns) (fun w hw => by obtain ⟨W, rfl⟩ := hw; exact HRG.out W) (hK _ ?_)
      simp only [Act.put, List.setIfInBounds_toArray, List.set_cons_succ, List.set_cons_zero]
      repeat (go_big_quiet_step (fail))
      refine wpQuiet_nil ?_
      refine tail_step ?_
      clear z0 z1
      go_wp2_with (refine stF rfl _ _ rfl (w.heap.size + 1) rfl (foF c.2 ns) rfl 32 (A16 fun _ => 0) HXD.out.f (A16_size _) ?_)
      refine ⟨HS2.out, tail_end ?_⟩
      go_wp2_with (refine wpList_store_row rfl 25 _ _ rfl (w.heap.size + 2) _ rfl rfl 25 (cdA (0, 0)) HY.out sizeCd rfl (by simp [Value.oneCell']) ?_)
      obtain ⟨f1, f2, f3⟩ := HXD.out.fin (foF c.2 ns) cc
      exact bodyPost_ret (results_FE rfl _ _ (w.heap.size + 2) (w.heap.size + 1) cc (foF c.2 ns) _ rfl rfl rfl f1 f2) rfl ⟨fun _ => ⟨by rw [HNN.out.1, HNN.out.2]; rfl, f3⟩, fun h => absurd HP.out h⟩
    case pos =>
    obtain ⟨p, hp⟩ : ∃ p, ns.getD (2 * j) 0 = p := ⟨_, rfl⟩
    obtain ⟨q, hq⟩ : ∃ q, ns.getD (2 * j + 1) 0 = q := ⟨_, rfl⟩
    have hbd : ∀ t, t < 30 → 0 ≤ ns.getD t 0 ∧ ns.getD t 0 ≤ 15 := fun t ht => by
      have := HSB.out _ (List.getElem_mem (show t < ns.length by omega))
      simpa [List.getElem?_eq_getElem (show t < ns.length by omega)] using this
    obtain ⟨p0, p1⟩ := hbd (2 * j) (by omega)
    obtain ⟨q0, q1⟩ := hbd (2 * j + 1) (by omega)
    rw [hp] at p0 p1
    rw [hq] at q0 q1
    have HBY : Hid (byL c.2 ns (j + 1) = byL c.2 ns j ++ [p * 16 + q]) := by
      show _ = _
      rw [byL_succ]
      unfold foF
      rw [if_neg (by omega), show 2 * (j + 1 - 1) = 2 * j by omega, hp, hq]
    obtain ⟨S, hS⟩ : ∃ S : World → Prop, ∀ W, S W ↔ Rd .i64 W (.slice (some ⟨va, 0, none⟩) 30 vc) ns := ⟨_, fun _ => Iff.rfl⟩
    have y0 : ∀ W : At S, W.wd.cell? ⟨va, k, none⟩ = some (.int .i64 p) := fun W => by rw [← hp, ← HKJ.out]; exact HCE.out _ ((hS _).1 W.ok) _ (by have := HKJ.out; omega)
    have y1 : ∀ W : At S, W.wd.cell? ⟨va, k + 1, none⟩ = some (.int .i64 q) := fun W => by rw [← hq, ← HKJ.out]; exact HCE.out _ ((hS _).1 W.ok) _ (by have := HKJ.out; omega)
    have HS : Hid (∀ W, S W ↔ Rd .i64 W (.slice (some ⟨va, 0, none⟩) 30 vc) ns) := hS
    have ne : Nonempty (At S) := ⟨⟨wr, (hS _).2 HNW.out⟩⟩
    have HGW : Hid (g2 ≤ wr.heap.size) := by
      rcases HOW.out.2 with ⟨-, h0⟩ | ⟨b, c', cur, -, hb, hh, -⟩
      · rw [byL_len] at h0; cases h0
      · have := Blk.lt hh; show _ ≤ _; omega
    have hk30 : k + 1 < 30 := by have := HKJ.out; omega
    have hi1 : (0 : Int) ≤ (k : Int) := by omega
    have hi2 : (k : Int) < 30 := by omega
    have hi3 : (k : Int) + 1 < 30 := by omega
    have hi4 : (0 : Int) ≤ (k : Int) + 1 := by omega
    have HEL : Hid ((byL c.2 ns j).length = j + 1) := byL_len _ _ _
    clear hS hp hq hbd
    go_wp2
    refine region_mixA [true, true, true, true, true, true, true, true, true, true, true, true, true, false, false, false] 15 2 S (by kernel_rfl) rfl (by kernel_rfl) (fun _ _ _ _ _ h => h) ((HS.out _).2 (HNW.out.below (Below.refl _ _).drew)) ?_
    simp only [selT, selF]
    try simp only [Act.put]
    repeat (go_big_quiet_step (fail))
    refine wpQuiet_nil ?_
    refine tail_step ?_
    have b5 : Below wr.heap.size wr (wr.drew.alloc (Obj.cells #[.int .u8 (p * 16 + q)] 5)) := ((Below.refl _ _).drew).alloc (by simp) _
    have X5 := HXW.out.call b5 HXW.out.ge
    have HX5 : Hid (B3 w c (wr.drew.alloc (Obj.cells #[.int .u8 (p * 16 + q)] 5))) := X5
    have HN5 : Hid (Rd .i64 (wr.drew.alloc (Obj.cells #[.int .u8 (p * 16 + q)] 5)) (.slice (some ⟨va, 0, none⟩) 30 vc) ns) := HNW.out.below b5
    have HK5 : Hid (Blk (wr.drew.alloc (Obj.cells #[.int .u8 (p * 16 + q)] 5)) k8 (cdA cc) 25) := HKW.out.below b5 HKW.out.lt
    have HOD : Hid (Ow .u8 5 g2 wr.drew vo (byL c.2 ns j)) := HOW.out.below (Below.refl _ _).drew
    clear b5 X5
    go_wp2
    refine ⟨(HS.out _).2 HN5.out, tail_step ?_⟩
    go_wp2_with (at_builtin; refine app1 (k := .u8) Tryd.underlying22 toBInfo (by decide) rfl (.tmp 37) (.tmp 50) rfl g2 _ (byL c.2 ns j) rfl (HOD.out.alloc _) wr.heap.size (p * 16 + q) rfl (by simp) (by have := HEL.out; omega) (by have := HGW.out; simp; omega) ?_)
    intro v6 w6 ho hb
    have hge := HGE.out
    have HFIN : Hid (B3 w c w6 ∧ Blk w6 k8 (cdA cc) 25 ∧ Rd .i64 w6 (.slice (some ⟨va, 0, none⟩) 30 vc) ns ∧ Ow .u8 5 g2 w6 v6 (byL c.2 ns (j + 1))) := by
      refine ⟨HX5.out.call hb hge, HK5.out.below hb HK4.out.2, ?_, by rw [HBY.out]; exact ho⟩
      obtain ⟨a', c', e, q1', q2', h3'⟩ := HN5.out
      refine ⟨a', c', e, q1', q2', ?_⟩
      rcases h3' with h3' | ⟨b', off', e', h4'⟩
      · exact .inl h3'
      · refine .inr ⟨b', off', e', fun i hi => ?_⟩
        have hvb : b' = va := by subst e'; simp at e; exact e.1.1.symm
        have := h4' i hi
        rw [hb.cell (p := ⟨b', off' + i, none⟩) (by rw [hvb]; exact HN4.out.2)]
        exact this
    clear ho hb hge y0 y1
    go_wp2
    refine ⟨(HS.out _).2 HFIN.out.2.2.1, tail_end ?_⟩
    go_wp2
    go_roundw
    case rel => exact ⟨j + 1, k + 2, _, by omega, (by have := HKJ.out; show _ = _; omega), by go_num, rfl, HFIN.out⟩
    case measure => simp [intOf]; omega

end Go.Proofs.YtkjfcebdjnclaaaDoor
