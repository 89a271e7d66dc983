/- Sums of the program; no condition. -/
import Derived.Test.YtfbegonnbdakpaaSms
namespace Go.Proofs.Ytfbegonnbdakpaa
open Go.RowKit Go.ChangeShapes Go.WideShapes Go.ChangeAt
set_option linter.unusedVariables false
set_option linter.unusedSimpArgs false
set_option maxRecDepth 8000
/-- the sum of the first j, in single precision and in double -/
def sgF (f : Nat × Nat → Nat) (ls : List (Nat × Nat)) : Nat → Option Nat
  | 0 => some 0
  | j + 1 => fo .add .f32 (sgF f ls j) (fc .f32 (f (ls.getD j (0, 0))))
def dbF (f : Nat × Nat → Nat) (ls : List (Nat × Nat)) : Nat → Option Nat
  | 0 => some 0
  | j + 1 => fo .add .f64 (dbF f ls j) ((fc .f32 (f (ls.getD j (0, 0)))).map wid)
def suN (ls : List (Nat × Nat)) : Nat := if ls.length ≤ 200 then ls.length else 0
def SuR (ls : List (Nat × Nat)) (w : World) (e : Ending) (w' : World) : Prop := ∃ x y u v, e = .returned (.tuple #[.agg #[.float .f32 x, .float .f32 y], .agg #[.float .f64 u, .float .f64 v]]) ∧ fc .f32 x = sgF (·.1) ls (suN ls) ∧ fc .f32 y = sgF (·.2) ls (suN ls) ∧ fc .f64 u = dbF (·.1) ls (suN ls) ∧ fc .f64 v = dbF (·.2) ls (suN ls) ∧ Below w.heap.size w w'
theorem fcs0 : fc .f32 0 = some 0 := fc_some (by decide)
theorem fcd0 : fc .f64 0 = some 0 := fc_some (by decide)
theorem results_SW {fn : Func} {u p : Tmp} (h : fn.results = #[.cell p 26, .cell u 30]) (tmps : Array Value) (w : World) (g k : Nat) (x y a b : Value)
    (hp : tmps.getD p undef = .pointer (some ⟨g, 0, none⟩)) (hu : tmps.getD u undef = .pointer (some ⟨k, 0, none⟩)) (hg : Blk w g #[x, y] 26) (hk : Blk w k #[a, b] 30) :
    (results fn tmps).run Try.prog w = .ok (.tuple #[.agg #[x, y], .agg #[a, b]]) w := by
  have hp' : tmps[p]?.getD undef = .pointer (some ⟨g, 0, none⟩) := by simpa using hp
  have hu' : tmps[u]?.getD undef = .pointer (some ⟨k, 0, none⟩) := by simpa using hu
  have hr := run_loadVar_row (P := Try.prog) w g 26 26 #[x, y] (0, 0) _ hg Try.underlying26 rfl sz26
  have hr' := run_loadVar_row (P := Try.prog) w k 30 30 #[a, b] (0, 0) _ hk Try.underlying30 rfl sz30
  simp [results, h, hp', hu', asAddr, hr, hr']
theorem Blk.set2o {w : World} {g k : Nat} {t : TypeId} {cs : Array Value} (h : Blk w g cs t) (hne : g ≠ k) (x y : Value) : Blk ((w.setCell ⟨k, 0, none⟩ x).setCell ⟨k, 1, none⟩ y) g cs t := (h.other ⟨k, 0, none⟩ x hne).other ⟨k, 1, none⟩ y hne
set_option maxHeartbeats 3200000 in
theorem sumsI_c (v : Value) (ls : List (Nat × Nat)) (w : World) (h : Rg 2 smC w v ls) : Calls Try.prog 28 #[v] w (SuR ls w) := by
  obtain ⟨a, cap, rfl, h1, h2, h3⟩ := h
  unfold maxLen at h2
  have hsf := storeF
  have hcv := fun s d a b w hs hd => run_conv_cwid (P := Try.prog) s d a b w hs hd
  have hop := run_cop (P := Try.prog) .add (by simp)
  obtain ⟨W0, hW0⟩ : ∃ W, (w.alloc (Obj.cells #[.float .f32 0, .float .f32 0] 26)).alloc (Obj.cells #[.float .f64 0, .float .f64 0] 30) = W := ⟨_, rfl⟩
  have HW0 : Hid ((w.alloc (Obj.cells #[.float .f32 0, .float .f32 0] 26)).alloc (Obj.cells #[.float .f64 0, .float .f64 0] 30) = W0) := hW0
  have HB0 : Hid (Below w.heap.size w W0) := by rw [← hW0]; exact ((Below.refl _ _).alloc (Nat.le_refl _) _).alloc (by simp) _
  have HK0 : Hid (Blk W0 w.heap.size #[.float .f32 0, .float .f32 0] 26) := by rw [← hW0]; exact (Blk.new _ _ _).alloc _
  have HK1 : Hid (Blk W0 (w.heap.size + 1) #[.float .f64 0, .float .f64 0] 30) := by rw [← hW0]; exact Blk.newAt _ _ _ _ (by simp)
  clear hW0
  by_cases hlen : ls.length ≤ 200
  case neg =>
    have HN : Hid (suN ls = 0) := by show _ = _; unfold suN; rw [if_neg hlen]
    have hlen' : (200 : Int) < (ls.length : Int) := by omega
    clear hlen h3
    go_enter Try.func28, Try.ntmps28
    go_wp2
    rw [HW0.out]
    refine bodyPost_ret (results_SW rfl _ _ _ _ _ _ _ _ rfl rfl HK0.out HK1.out) rfl ⟨_, _, _, _, rfl, ?_, ?_, ?_, ?_, HB0.out⟩
    all_goals rw [HN.out]
    · exact fcs0
    · exact fcs0
    · exact fcd0
    · exact fcd0
  have HN : Hid (suN ls = ls.length) := by show _ = _; unfold suN; rw [if_pos hlen]
  have hlen' : ¬ (200 : Int) < (ls.length : Int) := by omega
  go_enter Try.func28, Try.ntmps28
  go_wp2
  rw [HW0.out]
  go_loopw [4, 5, 15] (fun s d i wr => ∃ (j : Nat) (x y u q : Nat), j ≤ ls.length ∧ i = .int .i64 j ∧ s = .complex .f32 x y ∧ d = .complex .f64 u q ∧ Hid (fc .f32 x = sgF (·.1) ls j ∧ fc .f32 y = sgF (·.2) ls j ∧ fc .f64 u = dbF (·.1) ls j ∧ fc .f64 q = dbF (·.2) ls j) ∧ Hid (Below W0.heap.size W0 wr)) (fun _ _ i _ => ls.length - (intOf i).toNat)
  case atStart => exact ⟨0, 0, 0, 0, 0, Nat.zero_le _, rfl, rfl, rfl, ⟨fcs0, fcs0, fcd0, fcd0⟩, Below.refl _ _⟩
  case round =>
    obtain ⟨j, x, y, u, q, hj, rfl, rfl, rfl, HF, HB⟩ := hrel
    by_cases hlt : j < ls.length
    case neg =>
      obtain rfl : j = ls.length := by omega
      clear h3
      go_wp2_with (fail)
      refine (sampleOf_c x y _).mono ?_
      rintro e w1 ⟨rfl, b1⟩
      have HB1 : Hid (Below W0.heap.size W0 w1) := HB.out.trans (b1.mono HB.out.size)
      clear b1
      go_wp2_with (fail)
      refine (wideOf_c u q _).mono ?_
      rintro e w2 ⟨rfl, b2⟩
      have HB2 : Hid (Below W0.heap.size W0 w2) := HB1.out.trans (b2.mono HB1.out.size)
      clear b2
      have K0 := HK0.out.below HB2.out HK0.out.lt
      have K1 := HK1.out.below HB2.out HK1.out.lt
      have HKa : Hid (Blk w2 w.heap.size #[.float .f32 0, .float .f32 0] 26) := K0
      have HKb : Hid (Blk w2 (w.heap.size + 1) #[.float .f64 0, .float .f64 0] 30) := K1
      have z0 := K0.cell 0
      have z1 := K0.cell 1
      have z2 := K1.cell 0
      have z3 := K1.cell 1
      have f0 := K0.frozen 0
      have f1 := K0.frozen 1
      have f2 := K1.frozen 0
      have f3 := K1.frozen 1
      simp at z0 z1 z2 z3
      clear K0 K1
      go_wp2
      refine bodyPost_ret (results_SW rfl _ _ _ _ _ _ _ _ rfl rfl (Blk.set2o (Blk.set2 HKa.out _ _) (by omega) _ _) (Blk.set2 (Blk.set2o HKb.out (by omega) _ _) _ _)) rfl ⟨x, y, u, q, rfl, ?_, ?_, ?_, ?_, below_set2 (below_set2 (belowCall HB0.out HB2.out HB0.out.size) _ (by omega) _ _) _ (by omega) _ _⟩
      all_goals rw [HN.out]
      · exact HF.out.1
      · exact HF.out.2.1
      · exact HF.out.2.2.1
      · exact HF.out.2.2.2
    rcases h3 with h3 | ⟨b, off, rfl, h4⟩
    · subst h3; simp at hlt
    have hcb : b < w.heap.size := block_lt_of_cell (h4 j hlt 0 _ rfl)
    have hc := rangeAt_below (h4 j hlt) (belowCall HB0.out HB.out HB0.out.size) hcb
    obtain ⟨⟨p, r⟩, hpr⟩ : ∃ k, ls[j] = k := ⟨_, rfl⟩
    have HG : Hid (ls.getD j (0, 0) = (p, r)) := by show _ = _; rw [List.getD_eq_getElem?_getD, List.getElem?_eq_getElem hlt, hpr]; rfl
    rw [hpr] at hc
    have hc0 : wr.cell? ⟨b, off + j * 2, none⟩ = some (.float .f32 p) := hc 0 _ rfl
    have hc1 : wr.cell? ⟨b, off + j * 2 + 1, none⟩ = some (.float .f32 r) := hc 1 _ rfl
    clear h4 hc hpr
    obtain ⟨W1, hW1⟩ : ∃ W, wr.alloc (Obj.cells #[.float .f32 p, .float .f32 r] 26) = W := ⟨_, rfl⟩
    have HW1 : Hid (wr.alloc (Obj.cells #[.float .f32 p, .float .f32 r] 26) = W1) := hW1
    have HB1 : Hid (Below W0.heap.size W0 W1) := by rw [← hW1]; exact HB.out.alloc HB.out.size _
    have HK : Hid (Blk W1 wr.heap.size #[.float .f32 p, .float .f32 r] 26) := by rw [← hW1]; exact Blk.new _ _ _
    clear hW1
    go_wp2_with (fail)
    rw [HW1.out]
    refine (inSingle_c p r _).mono ?_
    rintro e w2 ⟨rfl, b2⟩
    have HB2 : Hid (Below W0.heap.size W0 w2) := HB1.out.trans (b2.mono HB1.out.size)
    have HK2 : Hid (Blk w2 wr.heap.size #[.float .f32 p, .float .f32 r] 26) := HK.out.below b2 HK.out.lt
    have y0 := HK2.out.cell 0
    have y1 := HK2.out.cell 1
    simp at y0 y1
    clear b2 hc0 hc1
    go_wp2_with (fail)
    refine (inSingle_c p r _).mono ?_
    rintro e w3 ⟨rfl, b3⟩
    have HB3 : Hid (Below W0.heap.size W0 w3) := HB2.out.trans (below_drewN (Below.refl _ _) _ |>.trans b3 |>.mono HB2.out.size)
    clear b3 y0 y1
    go_wp2
    go_roundw
    case rel =>
      refine ⟨j + 1, _, _, _, _, by omega, by go_num, rfl, rfl, ⟨?_, ?_, ?_, ?_⟩, below_drewN HB3.out _⟩
      · rw [fc_fv, HF.out.1]; show _ = fo _ _ _ _; rw [HG.out]
      · rw [fc_fv, HF.out.2.1]; show _ = fo _ _ _ _; rw [HG.out]
      · rw [fc_fv, HF.out.2.2.1, fc_wv]; show _ = fo _ _ _ _; rw [HG.out]
      · rw [fc_fv, HF.out.2.2.2, fc_wv]; show _ = fo _ _ _ _; rw [HG.out]
    case measure => simp [intOf]; omega

end Go.Proofs.Ytfbegonnbdakpaa
