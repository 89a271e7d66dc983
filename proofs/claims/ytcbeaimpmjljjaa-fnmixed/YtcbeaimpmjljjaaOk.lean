/- The program's PanelOk answers as the model's at every panel, and writes nothing into it; no condition. -/
import Derived.Test.YtcbeaimpmjljjaaWireP
namespace Go.Proofs.Ytcbeaimpmjljjaa
open Go.RowKit Go.ChangeShapes Go.WideShapes Go.ChangeAt
set_option linter.unusedVariables false
set_option linter.unusedSimpArgs false
set_option maxRecDepth 8000
theorem panelOk_c (n : Int) (v : Value) (cs : Calls2) (w : World) (h : RdC w v cs) :
   Calls Try.prog 20 #[.agg #[.int .i64 n, v]] w fun e w' => ∃ r, e = .returned (.bool r) ∧ (r = true ↔ POk n cs) ∧ Below w.heap.size w w' := by
  have hb : Below w.heap.size w (w.alloc (Obj.cells #[.int .i64 n, v] 26)) := (Below.refl _ _).alloc (Nat.le_refl _) _
  have H : Hid (Calls Try.prog 54 #[.agg #[.int .i64 n, v]] (w.alloc (Obj.cells #[.int .i64 n, v] 26)) (WireR n cs (w.alloc (Obj.cells #[.int .i64 n, v] 26)))) := wireP_c n v cs _ (h.below hb)
  have HB : Hid (Below w.heap.size w (w.alloc (Obj.cells #[.int .i64 n, v] 26))) := hb
  obtain ⟨lv, -, ⟨a, cap, rfl, -⟩, -⟩ := h
  clear hb
  go_enter Try.func20, Try.ntmps20
  go_wp2_with (fail)
  refine H.out.mono ?_
  rintro e w2 ⟨x, r, rfl, hr, b2, -⟩
  have HR : Hid (r = true ↔ POk n cs) := hr
  have HB2 : Hid (Below w.heap.size w w2) := belowCall HB.out b2 HB.out.size
  clear hr b2
  cases r
  all_goals
    go_wp2
    go_ret
    refine ⟨_, rfl, ?_, HB2.out⟩
    simpa using HR.out
theorem lft_lens {cs : Calls2} (h : 0 ≤ lft 1048576 (cs.length + legsTo cs cs.length)) : cs.length ≤ 1048576 ∧ ∀ c ∈ cs, c.2.length ≤ 1048576 := by
  have h1 : cs.length + legsTo cs cs.length ≤ 1048576 := by
    unfold lft at h
    split at h <;> omega
  refine ⟨by omega, fun c hc => ?_⟩
  obtain ⟨i, hi, rfl⟩ := List.getElem_of_mem hc
  have h2 := legsTo_mono cs (i + 1) cs.length (by omega)
  have h3 : legsTo cs (i + 1) = legsTo cs i + cs[i].2.length := by simp [legsTo, List.getElem?_eq_getElem hi]
  omega
set_option maxHeartbeats 1600000 in
theorem panelOkLaw (n : Int) (v : Value) (cs : Calls2) (w : World) (h : RdC w v cs) :
   Calls Try.prog 7 #[.agg #[.int .i64 n, v]] w fun e w' => e = .returned (.bool true) ∧ Below w.heap.size w w' := by
  have bel0 : Below w.heap.size w (w.alloc (Obj.cells #[.int .i64 n, v] 55)) := (Below.refl _ _).alloc (Nat.le_refl _) _
  have H0 := h.below bel0
  have K0 : Blk (w.alloc (Obj.cells #[.int .i64 n, v] 55)) w.heap.size #[.int .i64 n, v] 55 := Blk.new _ _ _
  have HZ : Hid (Calls Try.prog 31 #[.agg #[.int .i64 n, v], .int .i64 1048576] (w.alloc (Obj.cells #[.int .i64 n, v] 55)) fun e w' => e = .returned (.int .i64 (lft 1048576 (cs.length + legsTo cs cs.length))) ∧ Below (w.alloc (Obj.cells #[.int .i64 n, v] 55)).heap.size (w.alloc (Obj.cells #[.int .i64 n, v] 55)) w') := szPanel_c n v cs 1048576 _ H0 (by decide) (by decide)
  have HB0 : Hid (Below w.heap.size w (w.alloc (Obj.cells #[.int .i64 n, v] 55))) := bel0
  have HH : Hid (RdC w v cs) := h
  have HK0 : Hid (Blk (w.alloc (Obj.cells #[.int .i64 n, v] 55)) w.heap.size #[.int .i64 n, v] 55) := K0
  obtain ⟨lv, -, ⟨a, cap, rfl, -⟩, -⟩ := h
  obtain ⟨z, hz⟩ : ∃ z, lft 1048576 (cs.length + legsTo cs cs.length) = z := ⟨_, rfl⟩
  rw [hz] at HZ
  have HZ2 : Hid (0 ≤ z → cs.length ≤ 1048576 ∧ ∀ c ∈ cs, c.2.length ≤ 1048576) := fun h0 => lft_lens (hz ▸ h0)
  clear bel0 H0 K0 hz
  go_enter Try.func7, Try.ntmps7
  go_wp2_with (fail)
  refine HZ.out.mono ?_
  rintro e w2 ⟨rfl, b2⟩
  have HB2 : Hid (Below w.heap.size w w2) := belowCall HB0.out b2 HB0.out.size
  have K2 := HK0.out.below b2 (by simp)
  have HK2 : Hid (Blk w2 w.heap.size #[.int .i64 n, .slice a lv.length cap] 55) := K2
  have s2 : w.heap.size < w2.heap.size := K2.lt
  have c0 := K2.cell 0
  have c1 := K2.cell 1
  simp at c0 c1
  clear b2 K2 HZ HK0 HB0
  by_cases hneg : z < 0
  · go_wp2
    go_ret
    exact ⟨rfl, HB2.out⟩
  · have hl := HZ2.out (by omega)
    have HL : Hid (cs.length ≤ 1048576 ∧ ∀ c ∈ cs, c.2.length ≤ 1048576) := hl
    clear hl
    go_wp2_with (fail)
    refine (toPanel_c n _ cs w2 (HH.out.below HB2.out) HL.out.1 HL.out.2).mono ?_
    rintro e w3 ⟨v3, rfl, o3, b3⟩
    have HB3 : Hid (Below w.heap.size w w3) := belowCall HB2.out b3 HB2.out.size
    have HK3 : Hid (Blk w3 w.heap.size #[.int .i64 n, .slice a lv.length cap] 55) := HK2.out.below b3 s2
    have HO3 : Hid (RdC w3 v3 cs) := o3.rd
    clear o3 b3 c0 c1
    go_wp2_with (fail)
    refine (ok_c n _ cs w3 HO3.out).mono ?_
    rintro e w4 ⟨r, rfl, hr, b4⟩
    have HR : Hid (r = true ↔ POk n cs) := hr
    have HB4 : Hid (Below w.heap.size w w4) := belowCall HB3.out b4 HB3.out.size
    have HK4 : Hid (Blk w4 w.heap.size #[.int .i64 n, .slice a lv.length cap] 55) := HK3.out.below b4 (HK3.out.lt)
    have c0 := HK4.out.cell 0
    have c1 := HK4.out.cell 1
    simp at c0 c1
    clear hr b4 HO3 HK3 HB3 HK2 HB2
    go_wp2_with (fail)
    refine (toPanel_c n _ cs w4 (HH.out.below HB4.out) HL.out.1 HL.out.2).mono ?_
    rintro e w5 ⟨v5, rfl, o5, b5⟩
    have HB5 : Hid (Below w.heap.size w w5) := belowCall HB4.out b5 HB4.out.size
    have HK5 : Hid (Blk w5 w.heap.size #[.int .i64 n, .slice a lv.length cap] 55) := HK4.out.below b5 (HK4.out.lt)
    have HO5 : Hid (OwC w4.heap.size w5 v5 cs) := o5
    obtain ⟨a5, cap5, hv5, -⟩ : ∃ a5 cap5, v5 = .slice a5 cs.length cap5 ∧ True := by
      obtain ⟨lv', hl', ⟨a', cap', rfl, -⟩, -⟩ := o5.rd
      exact ⟨a', cap', by rw [hl'], trivial⟩
    subst hv5
    clear o5 b5 c0 c1 HK4 HB4
    go_wp2_with (fail)
    have bel6 : Below w5.heap.size w5 (w5.alloc (Obj.cells #[.int .i64 n, .slice a5 cs.length cap5] 26)) := (Below.refl _ _).alloc (Nat.le_refl _) _
    refine (panelOk_c n _ cs _ (HO5.out.rd.below bel6)).mono ?_
    rintro e w6 ⟨r', rfl, hr', b6⟩
    have hrr : r' = r := by rw [Bool.eq_iff_iff, hr', HR.out]
    subst hrr
    have HB6 : Hid (Below w.heap.size w w6) := belowCall (belowCall HB5.out bel6 HB5.out.size) b6 (belowCall HB5.out bel6 HB5.out.size).size
    have hk5 := HK5.out.lt
    have K6 : Blk w6 w.heap.size #[.int .i64 n, .slice a lv.length cap] 55 := (HK5.out.alloc _).below b6 (by simp; omega)
    have X6 : Blk w6 w5.heap.size #[.int .i64 n, .slice a5 cs.length cap5] 26 := (Blk.new _ _ _).below b6 (by simp)
    have HO6 : Hid (RdC w6 (.slice a5 cs.length cap5) cs) := (HO5.out.rd.below bel6).below b6
    have c0 := K6.cell 0
    have c1 := K6.cell 1
    have x0 := X6.cell 0
    have x1 := X6.cell 1
    simp at c0 c1 x0 x1
    have hx6 := X6.lt
    have hk6 := K6.lt
    obtain ⟨S, hS⟩ : ∃ S : World → Prop, ∀ W, S W ↔ Below w6.heap.size w6 W := ⟨_, fun _ => Iff.rfl⟩
    have z0 : ∀ W : At S, W.wd.cell? ⟨w.heap.size, 0, none⟩ = some (.int .i64 n) := fun W => (((hS _).1 W.ok).cell hk6).trans c0
    have z1 : ∀ W : At S, W.wd.cell? ⟨w.heap.size, 1, none⟩ = some (.slice a lv.length cap) := fun W => (((hS _).1 W.ok).cell hk6).trans c1
    have z2 : ∀ W : At S, W.wd.cell? ⟨w5.heap.size, 0, none⟩ = some (.int .i64 n) := fun W => (((hS _).1 W.ok).cell hx6).trans x0
    have z3 : ∀ W : At S, W.wd.cell? ⟨w5.heap.size, 1, none⟩ = some (.slice a5 cs.length cap5) := fun W => (((hS _).1 W.ok).cell hx6).trans x1
    have HS : Hid (∀ W, S W ↔ Below w6.heap.size w6 W) := hS
    have ne : Nonempty (At S) := ⟨⟨w6, (hS _).2 (Below.refl _ _)⟩⟩
    clear hS b6 bel6 hr' K6 X6 HK5 HB5 HO5 HR
    have hbb : (r' != r') = false := by simp
    go_wp2
    refine region_mixA [true, true, false, false, false] 5 3 S (by kernel_rfl) rfl (by kernel_rfl) (fun _ _ _ _ _ h => h) ((HS.out _).2 (Below.refl _ _).drew) ?_
    simp only [selT, selF]
    repeat (go_big_quiet_step (fail))
    refine wpQuiet_nil ?_
    refine tail_step ?_
    go_wp2_with (fail)
    refine (toPanel_c n _ cs w6.drew (HH.out.below HB6.out.drew) HL.out.1 HL.out.2).mono ?_
    rintro e w7 ⟨v7, rfl, o7, b7⟩
    have B7 : Below w6.heap.size w6 w7 := (Below.refl _ _).drew.trans b7
    have HB7 : Hid (Below w6.heap.size w6 w7) := B7
    have HO7 : Hid (RdC w7 v7 cs ∧ RdC w7 (.slice a5 cs.length cap5) cs) := ⟨o7.rd, HO6.out.below B7⟩
    clear o7 b7 B7
    go_wp2
    refine ⟨(HS.out _).2 HB7.out, tail_step ?_⟩
    go_wp2_with (fail)
    refine (eqPanel_c n n _ _ cs cs w7 HO7.out.2 HO7.out.1).mono ?_
    rintro e w8 ⟨rfl, b8⟩
    have hde : decide ((n, cs) = (n, cs)) = true := by simp
    rw [hde]
    have HB8 : Hid (Below w6.heap.size w6 w8) := belowCall HB7.out b8 HB7.out.size
    clear b8 hde
    go_wp2
    refine ⟨(HS.out _).2 HB8.out, tail_step ?_⟩
    go_wp2
    refine ⟨(HS.out _).2 HB8.out, tail_end ?_⟩
    have HB9 : Hid (Below w.heap.size w w8) := belowCall HB6.out HB8.out HB6.out.size
    go_wp2
    go_ret
    exact ⟨rfl, HB9.out⟩
end Go.Proofs.Ytcbeaimpmjljjaa
