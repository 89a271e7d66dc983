/- Features at work; no condition. -/
import Derived.Test.YtfaflnhembceoaaRtD
import Derived.Handy
namespace Go.Proofs.Ytfaflnhembceoaa
open Go.RowKit Go.ChangeShapes Go.WideShapes Go.ChangeAt
set_option linter.unusedVariables false
set_option linter.unusedSimpArgs false
set_option maxRecDepth 8000
/-- a feature at work -/
def exV (f : Int × Int) : Value :=
  if f.1 = 1 ∨ f.1 = 2 ∨ f.1 = 3 then .iface 129 (.agg #[.int .i64 f.1, .int .i64 f.2]) else if f.1 = 5 then .iface 131 (.agg #[.int .i64 f.2]) else if f.1 = 6 then .iface 133 (.agg #[]) else .iface 135 (.agg #[.int .i64 f.1])
def dvK (k : Int) : Prop := k = 1 ∨ k = 2 ∨ k = 3
theorem exV_or (k o : Int) : (dvK k ∧ exV (k, o) = .iface 129 (.agg #[.int .i64 k, .int .i64 o])) ∨ (k = 5 ∧ exV (k, o) = .iface 131 (.agg #[.int .i64 o])) ∨ (k = 6 ∧ exV (k, o) = .iface 133 (.agg #[])) ∨ ((¬ dvK k ∧ k ≠ 5 ∧ k ≠ 6) ∧ exV (k, o) = .iface 135 (.agg #[.int .i64 k])) := by
  unfold exV dvK
  by_cases h : k = 1 ∨ k = 2 ∨ k = 3
  · left; exact ⟨h, by rw [if_pos h]⟩
  · by_cases h5 : k = 5
    · right; left; exact ⟨h5, by rw [if_neg h, if_pos h5]⟩
    · by_cases h6 : k = 6
      · right; right; left; exact ⟨h6, by rw [if_neg h, if_neg h5, if_pos h6]⟩
      · right; right; right; exact ⟨⟨h, h5, h6⟩, by rw [if_neg h, if_neg h5, if_neg h6]⟩
theorem kdD_c (k o : Int) (w : World) : Calls Try.prog 121 #[.agg #[.int .i64 k, .int .i64 o]] w fun e w' => e = .returned (.int .i64 k) ∧ Below w.heap.size w w' := by
  have HB : Hid (Below w.heap.size w (w.alloc (Obj.cells #[.int .i64 k, .int .i64 o] 129))) := (Below.refl _ _).alloc (Nat.le_refl _) _
  go_enter Try.func121, Try.ntmps121
  go_wp2
  go_ret
  exact ⟨rfl, HB.out⟩
theorem nxD_c (k o : Int) (w : World) : Calls Try.prog 122 #[.agg #[.int .i64 k, .int .i64 o]] w fun e w' => e = .returned (.int .i64 o) ∧ Below w.heap.size w w' := by
  have HB : Hid (Below w.heap.size w (w.alloc (Obj.cells #[.int .i64 k, .int .i64 o] 129))) := (Below.refl _ _).alloc (Nat.le_refl _) _
  go_enter Try.func122, Try.ntmps122
  go_wp2
  go_ret
  exact ⟨rfl, HB.out⟩
theorem kdS_c (o : Int) (w : World) : Calls Try.prog 124 #[.agg #[.int .i64 o]] w fun e w' => e = .returned (.int .i64 5) ∧ Below w.heap.size w w' := by
  have HB : Hid (Below w.heap.size w (w.alloc (Obj.cells #[.int .i64 o] 131))) := (Below.refl _ _).alloc (Nat.le_refl _) _
  go_enter Try.func124, Try.ntmps124
  go_wp2
  go_ret
  exact ⟨rfl, HB.out⟩
theorem kdW_c (w : World) : Calls Try.prog 125 #[.agg #[]] w fun e w' => e = .returned (.int .i64 6) ∧ Below w.heap.size w w' := by
  have HB : Hid (Below w.heap.size w (w.alloc (Obj.cells #[] 133))) := (Below.refl _ _).alloc (Nat.le_refl _) _
  go_enter Try.func125, Try.ntmps125
  go_wp2
  go_ret
  exact ⟨rfl, HB.out⟩
theorem wbW_c (w : World) : Calls Try.prog 126 #[.agg #[]] w fun e w' => e = .returned (.int .i64 2) ∧ Below w.heap.size w w' := by
  have HB : Hid (Below w.heap.size w (w.alloc (Obj.cells #[] 133))) := (Below.refl _ _).alloc (Nat.le_refl _) _
  go_enter Try.func126, Try.ntmps126
  go_wp2
  go_ret
  exact ⟨rfl, HB.out⟩
theorem kdM_c (k : Int) (w : World) : Calls Try.prog 127 #[.agg #[.int .i64 k]] w fun e w' => e = .returned (.int .i64 k) ∧ Below w.heap.size w w' := by
  have HB : Hid (Below w.heap.size w (w.alloc (Obj.cells #[.int .i64 k] 135))) := (Below.refl _ _).alloc (Nat.le_refl _) _
  go_enter Try.func127, Try.ntmps127
  go_wp2
  go_ret
  exact ⟨rfl, HB.out⟩
theorem koS_c (o x : Int) (pv : Bool) (w : World) : Calls Try.prog 123 #[.agg #[.int .i64 o], .agg #[.int .i64 x, .bool pv]] w fun e w' => e = .returned (.bool (pv || o == x)) ∧ Below w.heap.size w w' := by
  have HB : Hid (Below w.heap.size w ((w.alloc (Obj.cells #[.int .i64 o] 131)).alloc (Obj.cells #[.int .i64 x, .bool pv] 107))) := ((Below.refl _ _).alloc (Nat.le_refl _) _).alloc (by simp) _
  have hs : (o == x) = (x == o) := by rw [Bool.eq_iff_iff]; simp; exact eq_comm
  have HS : Hid ((o == x) = (x == o)) := hs
  clear hs
  cases pv with
  | true =>
    go_enter Try.func123, Try.ntmps123
    go_wp2
    go_ret
    exact ⟨rfl, HB.out⟩
  | false =>
    go_enter Try.func123, Try.ntmps123
    go_wp2
    go_ret
    exact ⟨by rw [HS.out]; rfl, HB.out⟩
set_option maxHeartbeats 1600000 in
theorem cloK_c (r : Int × Int) (k : Int) (B : Nat) (w : World) (hB : Blk w B #[.int .i64 k] 3) : Calls Try.prog 89 #[exV r, .pointer (some ⟨B, 0, none⟩)] w fun e w' => e = .returned (.bool (r.1 == k)) ∧ Below w.heap.size w w' := by
  obtain ⟨k', o⟩ := r
  obtain ⟨S, hS⟩ : ∃ S : World → Prop, ∀ W, S W ↔ Blk W B #[.int .i64 k] 3 := ⟨_, fun _ => Iff.rfl⟩
  have y3 : ∀ W : At S, W.wd.cell? ⟨B, 0, none⟩ = some (.int .i64 k) := fun W => ((hS _).1 W.ok).cell 0
  have HSD : Hid (S w.drew) := (hS _).2 hB
  have ne1 : Nonempty (At S) := ⟨⟨_, HSD.out⟩⟩
  have HSB : Hid (∀ W, Below w.heap.size w W → S W) := fun W b => (hS _).2 (hB.below b hB.lt)
  clear hS hB
  rcases exV_or k' o with ⟨-, e⟩ | ⟨rfl, e⟩ | ⟨rfl, e⟩ | ⟨-, e⟩
  · rw [e]
    clear e
    go_enter Try.func89, Try.ntmps89
    go_wp2
    refine region_mixA [true, false, true, false, false] 4 2 S (by kernel_rfl) rfl (by kernel_rfl) (fun _ _ _ _ _ h => h) HSD.out ?_
    simp only [selT, selF]
    repeat (go_big_quiet_step (fail))
    refine wpQuiet_nil ?_
    clear y3 ne1 HSD
    refine tail_step ?_
    go_wp2_with (fail)
    refine (kdD_c k' o w.drew).mono ?_
    rintro e w1 ⟨rfl, b1⟩
    have B1 : Hid (Below w.heap.size w w1) := (Below.refl _ _).drew.trans b1
    clear b1
    go_wp2
    refine ⟨HSB.out _ B1.out, ?_⟩
    refine tail_step ?_
    go_wp2
    refine ⟨HSB.out _ B1.out, ?_⟩
    refine tail_end ?_
    go_wp2
    go_ret
    exact ⟨rfl, B1.out⟩
  · rw [e]
    clear e
    go_enter Try.func89, Try.ntmps89
    go_wp2
    refine region_mixA [true, false, true, false, false] 4 2 S (by kernel_rfl) rfl (by kernel_rfl) (fun _ _ _ _ _ h => h) HSD.out ?_
    simp only [selT, selF]
    repeat (go_big_quiet_step (fail))
    refine wpQuiet_nil ?_
    clear y3 ne1 HSD
    refine tail_step ?_
    go_wp2_with (fail)
    refine (kdS_c o w.drew).mono ?_
    rintro e w1 ⟨rfl, b1⟩
    have B1 : Hid (Below w.heap.size w w1) := (Below.refl _ _).drew.trans b1
    clear b1
    go_wp2
    refine ⟨HSB.out _ B1.out, ?_⟩
    refine tail_step ?_
    go_wp2
    refine ⟨HSB.out _ B1.out, ?_⟩
    refine tail_end ?_
    go_wp2
    go_ret
    exact ⟨rfl, B1.out⟩
  · rw [e]
    clear e
    go_enter Try.func89, Try.ntmps89
    go_wp2
    refine region_mixA [true, false, true, false, false] 4 2 S (by kernel_rfl) rfl (by kernel_rfl) (fun _ _ _ _ _ h => h) HSD.out ?_
    simp only [selT, selF]
    repeat (go_big_quiet_step (fail))
    refine wpQuiet_nil ?_
    clear y3 ne1 HSD
    refine tail_step ?_
    go_wp2_with (fail)
    refine (kdW_c w.drew).mono ?_
    rintro e w1 ⟨rfl, b1⟩
    have B1 : Hid (Below w.heap.size w w1) := (Below.refl _ _).drew.trans b1
    clear b1
    go_wp2
    refine ⟨HSB.out _ B1.out, ?_⟩
    refine tail_step ?_
    go_wp2
    refine ⟨HSB.out _ B1.out, ?_⟩
    refine tail_end ?_
    go_wp2
    go_ret
    exact ⟨rfl, B1.out⟩
  · rw [e]
    clear e
    go_enter Try.func89, Try.ntmps89
    go_wp2
    refine region_mixA [true, false, true, false, false] 4 2 S (by kernel_rfl) rfl (by kernel_rfl) (fun _ _ _ _ _ h => h) HSD.out ?_
    simp only [selT, selF]
    repeat (go_big_quiet_step (fail))
    refine wpQuiet_nil ?_
    clear y3 ne1 HSD
    refine tail_step ?_
    go_wp2_with (fail)
    refine (kdM_c k' w.drew).mono ?_
    rintro e w1 ⟨rfl, b1⟩
    have B1 : Hid (Below w.heap.size w w1) := (Below.refl _ _).drew.trans b1
    clear b1
    go_wp2
    refine ⟨HSB.out _ B1.out, ?_⟩
    refine tail_step ?_
    go_wp2
    refine ⟨HSB.out _ B1.out, ?_⟩
    refine tail_end ?_
    go_wp2
    go_ret
    exact ⟨rfl, B1.out⟩
/-- the slice v reads as features at work -/
def Rx (w : World) (v : Value) (fs : Fts) : Prop :=
  ∃ a cap, v = .slice a fs.length cap ∧ fs.length ≤ cap ∧ cap ≤ maxLen ∧ (fs = [] ∨ ∃ b off, a = some ⟨b, off, none⟩ ∧ ∀ i (h : i < fs.length), w.cell? ⟨b, off + i, none⟩ = some (exV fs[i]))
theorem Rx.below {w w' : World} {v : Value} {fs : Fts} (h : Rx w v fs) (hb : Below w.heap.size w w') : Rx w' v fs := by
  obtain ⟨a, cap, rfl, h1, h2, h3⟩ := h
  refine ⟨a, cap, rfl, h1, h2, ?_⟩
  rcases h3 with h3 | ⟨b, off, rfl, h4⟩
  · exact .inl h3
  · exact .inr ⟨b, off, rfl, fun i hi => (hb.cell (block_lt_of_cell (h4 i hi))).trans (h4 i hi)⟩
def IkR (k : Int) (fs : Fts) (w : World) (e : Ending) (w' : World) : Prop := ∃ r : Int, e = .returned (.int .i64 r) ∧ (0 ≤ r ↔ fs.any (fun x => x.1 == k) = true) ∧ Below w.heap.size w w'
theorem exV_if (k o : Int) : ∃ t u, exV (k, o) = .iface t u := by
  rcases exV_or k o with ⟨-, e⟩ | ⟨-, e⟩ | ⟨-, e⟩ | ⟨-, e⟩ <;> exact ⟨_, _, e⟩
set_option maxHeartbeats 3200000 in
theorem indexK_c (v : Value) (fs : Fts) (k : Int) (B : Nat) (w : World) (h : Rx w v fs) (hB : Blk w B #[.int .i64 k] 3) :
   Calls Try.prog 101 #[v, .func (.func 89) #[] #[.pointer (some ⟨B, 0, none⟩)]] w (IkR k fs w) := by
  obtain ⟨a, cap, rfl, h1, h2, h3⟩ := h
  unfold maxLen at h2
  have HK : Hid (Blk w B #[.int .i64 k] 3) := hB
  clear hB
  go_enter Try.func101, Try.ntmps101
  go_wp2
  go_loopw [8] (fun i wr => ∃ j : Nat, j ≤ fs.length ∧ i = .int .i64 j ∧ Hid (∀ t (ht : t < j) (h : t < fs.length), (fs[t].1 == k) = false) ∧ Hid (Below w.heap.size w wr)) (fun i _ => fs.length - (intOf i).toNat)
  case atStart => exact ⟨0, Nat.zero_le _, rfl, fun t ht => by omega, Below.refl _ _⟩
  case round =>
    obtain ⟨j, hj, rfl, hA, hbr⟩ := hrel
    by_cases hlt : j < fs.length
    case neg =>
      obtain rfl : j = fs.length := by omega
      have HN : Hid (fs.any (fun x => x.1 == k) = false) := by
        show fs.any (fun x => x.1 == k) = false
        rw [List.any_eq_false]
        intro x hx
        obtain ⟨i, hi, rfl⟩ := List.getElem_of_mem hx
        simpa using hA.out i hi hi
      clear h3
      go_wp2
      go_ret
      exact ⟨_, rfl, ⟨fun h => by omega, fun h => by rw [HN.out] at h; cases h⟩, hbr.out⟩
    case pos =>
    rcases h3 with h3 | ⟨b, off, rfl, h4⟩
    · subst h3; simp at hlt
    have hc := h4 j hlt
    have hcb : b < w.heap.size := block_lt_of_cell hc
    obtain ⟨r, hr⟩ : ∃ r, fs[j] = r := ⟨_, rfl⟩
    have HR : Hid (fs[j] = r) := hr
    rw [hr] at hc
    have e0 := (hbr.out.cell (p := ⟨b, off + j, none⟩) hcb).trans hc
    have HC : Hid (Calls Try.prog 89 #[exV r, .pointer (some ⟨B, 0, none⟩)] wr fun e w' => e = .returned (.bool (r.1 == k)) ∧ Below wr.heap.size wr w') := cloK_c r k B wr (HK.out.below hbr.out HK.out.lt)
    obtain ⟨T, u, hT⟩ : ∃ t u, exV r = .iface t u := exV_if r.1 r.2
    rw [hT] at e0 HC
    clear h4 hc hr hT
    go_wp2_with (fail)
    refine HC.out.mono ?_
    rintro e w2 ⟨rfl, b2⟩
    have HB2 : Hid (Below w.heap.size w w2) := belowCall hbr.out b2 hbr.out.size
    clear b2 HC e0
    obtain ⟨q, hq⟩ : ∃ q, (r.1 == k) = q := ⟨_, rfl⟩
    rw [hq]
    have HQ : Hid ((fs[j].1 == k) = q) := by rw [HR.out]; exact hq
    clear hq
    cases q with
    | true =>
      have HF : Hid (fs.any (fun x => x.1 == k) = true) := by
        show fs.any (fun x => x.1 == k) = true
        rw [List.any_eq_true]
        exact ⟨fs[j], List.getElem_mem hlt, HQ.out⟩
      clear HQ
      go_wp2
      go_ret
      exact ⟨_, rfl, ⟨fun _ => HF.out, fun _ => by omega⟩, HB2.out⟩
    | false =>
      have HF : Hid (∀ t (ht : t < j + 1) (h : t < fs.length), (fs[t].1 == k) = false) := fun t htt h => by
        by_cases htj : t < j
        · exact hA.out t htj h
        · obtain rfl : t = j := by omega
          exact HQ.out
      clear HQ
      go_wp2
      go_roundw
      case rel => exact ⟨j + 1, by omega, by go_num, HF.out, HB2.out⟩
      case measure => simp [intOf]; omega
set_option maxHeartbeats 800000 in
theorem containsK_c (v : Value) (fs : Fts) (k : Int) (B : Nat) (w : World) (h : Rx w v fs) (hB : Blk w B #[.int .i64 k] 3) :
   Calls Try.prog 88 #[v, .func (.func 89) #[] #[.pointer (some ⟨B, 0, none⟩)]] w fun e w' => e = .returned (.bool (fs.any (fun x => x.1 == k))) ∧ Below w.heap.size w w' := by
  have HC : Hid (Calls Try.prog 101 #[v, .func (.func 89) #[] #[.pointer (some ⟨B, 0, none⟩)]] w (IkR k fs w)) := indexK_c v fs k B w h hB
  obtain ⟨a, cap, rfl, -⟩ := h
  clear hB
  go_enter Try.func88, Try.ntmps88
  go_wp2_with (fail)
  refine HC.out.mono ?_
  rintro e w2 ⟨r, rfl, hr, b2⟩
  have HF : Hid (fs.any (fun x => x.1 == k) = decide (0 ≤ r)) := by
    show fs.any (fun x => x.1 == k) = decide (0 ≤ r)
    rw [Bool.eq_iff_iff, ← hr]; simp
  clear hr
  go_wp2
  go_ret
  exact ⟨by rw [HF.out]; rfl, b2⟩
set_option maxHeartbeats 800000 in
theorem marked_c (p q : Bool) (v : Value) (fs : Fts) (k : Int) (w : World) (h : Rx w v fs) : Calls Try.prog 68 #[.agg (S3 p q v), .int .i64 k] w fun e w' => e = .returned (.bool (fs.any (fun x => x.1 == k))) ∧ Below w.heap.size w w' := by
  obtain ⟨a, cap, rfl, -⟩ := id h
  obtain ⟨L, hL⟩ : ∃ L, fs.length = L := ⟨_, rfl⟩
  rw [hL] at h ⊢
  obtain ⟨W1, hW1⟩ : ∃ W1, (w.alloc (Obj.cells (S3 p q (.slice a L cap)) 101)).alloc (Obj.cells #[.int .i64 k] 3) = W1 := ⟨_, rfl⟩
  have b1 : Below w.heap.size w W1 := hW1 ▸ ((Below.refl _ _).alloc (Nat.le_refl _) _).alloc (by simp) _
  have k2 : Blk W1 (w.heap.size + 1) #[.int .i64 k] 3 := hW1 ▸ Blk.newAt _ (w.heap.size + 1) _ 3 (by simp)
  have HC : Hid (Calls Try.prog 88 #[.slice a L cap, .func (.func 89) #[] #[.pointer (some ⟨w.heap.size + 1, 0, none⟩)]] W1 fun e w' => e = .returned (.bool (fs.any (fun x => x.1 == k))) ∧ Below W1.heap.size W1 w') := containsK_c _ fs k _ W1 (h.below b1) k2
  have HB1 : Hid (Below w.heap.size w W1) := b1
  have HW1 : Hid ((w.alloc (Obj.cells (S3 p q (.slice a L cap)) 101)).alloc (Obj.cells #[.int .i64 k] 3) = W1) := hW1
  clear b1 hW1 k2 hL h
  go_enter Try.func68, Try.ntmps68
  go_wp2_with (fail)
  rw [HW1.out]
  refine HC.out.mono ?_
  rintro e w2 ⟨rfl, b2⟩
  have HF : Hid (Below w.heap.size w w2) := belowCall HB1.out b2 HB1.out.size
  clear b2
  go_wp2
  go_ret
  exact ⟨rfl, HF.out⟩
end Go.Proofs.Ytfaflnhembceoaa
