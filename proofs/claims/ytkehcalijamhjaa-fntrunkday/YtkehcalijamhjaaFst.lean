/- The program's firstNote; no condition. -/
import Derived.Test.YtkehcalijamhjaaSel
namespace Go.Proofs.Ytkehcalijamhjaa
open Go.RowKit Go.ChangeShapes Go.WideShapes Go.ChangeAt
set_option linter.unusedVariables false
set_option linter.unusedSimpArgs false
set_option maxRecDepth 8000
open Go.Conc
theorem len62 {w : World} {c s r : Nat} {buf : Array Value} (hc : w.heap[c]? = some (.chan 60 buf false s r false)) (ty : TypeId) : (Builtin.len_ #[62] ty #[.chan (some c)]).run Try.prog w = .ok (goInt buf.size) w := by
  simp [Builtin.len_, run_underlying Try.underlying62, run_getObj_chan _ _ hc]
theorem len62n (w : World) (ty : TypeId) : (Builtin.len_ #[62] ty #[.chan none]).run Try.prog w = .ok (goInt 0) w := by
  simp [Builtin.len_, run_underlying Try.underlying62]
theorem results_F {fn : Func} {u p v : Tmp} (h : fn.results = #[.tmp u, .cell p 68, .tmp v]) (tmps : Array Value) (w : World) (g : Nat) (x y : Int) (a b : Value)
    (hu : tmps.getD u undef = a) (hp : tmps.getD p undef = .pointer (some ⟨g, 0, none⟩)) (hv : tmps.getD v undef = b) (hg : Blk w g (H2 x y) 68) :
    (results fn tmps).run Try.prog w = .ok (.tuple #[a, .agg (H2 x y), b]) w := by
  have hp' : tmps[p]?.getD undef = .pointer (some ⟨g, 0, none⟩) := by simpa using hp
  have hu' : tmps[u]?.getD undef = a := by simpa using hu
  have hv' : tmps[v]?.getD undef = b := by simpa using hv
  have hr := run_loadVar_row (P := Try.prog) w g 68 68 (H2 x y) (0, 0) _ hg Try.underlying68 rfl size68
  simp [results, h, hp', hu', hv', asAddr, hr]
/-- what the first note is: side 0's, else side 1's, else none -/
def FnR (x : Int × Int) (sd : Int) (ok : Bool) (w : World) (e : Ending) (w' : World) (P : World → Prop) : Prop := e = .returned (.tuple #[.int .i64 sd, .agg (H2 x.1 x.2), .bool ok]) ∧ P w'
set_option maxHeartbeats 6400000 in
theorem first0e_c (k : Nat) (w : World) (hc : Chn w k []) :
    Calls Try.prog 48 #[.agg #[.chan (some k), .chan none]] w fun e w' => e = .returned (.tuple #[.int .i64 0, .agg (H2 0 0), .bool false]) ∧ Below w.heap.size w w' := by
  obtain ⟨HR, hHR⟩ : ∃ H : Nat → Array Oper → Code, ∀ id ops, H id ops = Code.region id ops false := ⟨fun id ops => .region id ops false, fun _ _ => rfl⟩
  have HH : Hid (∀ id ops, HR id ops = Code.region id ops false) := hHR
  clear hHR
  obtain ⟨W0, hW0⟩ : ∃ W0, (w.alloc (Obj.cells #[.chan (some k), .chan none] 63)).alloc (Obj.cells (H2 0 0) 68) = W0 := ⟨_, rfl⟩
  have hb0 : Below w.heap.size w W0 := by rw [← hW0]; exact ((Below.refl _ _).alloc (Nat.le_refl _) _).alloc (by simp) _
  have KC : Blk W0 w.heap.size #[.chan (some k), .chan none] 63 := by rw [← hW0]; exact (Blk.new _ _ _).alloc _
  have KN : Blk W0 (w.heap.size + 1) (H2 0 0) 68 := by rw [← hW0]; exact Blk.newAt _ (w.heap.size + 1) _ 68 (by simp)
  have HC0 : Chn W0 k [] := hc.below hb0
  have hkl : k < w.heap.size := hc.lt
  have fw : Fr (fun j => j = k) w W0 := Fr.ofBelow hb0
  obtain ⟨s, r, hch⟩ := HC0
  have HF : Hid (∀ W, (W0.setCell ⟨w.heap.size + 1, 0, none⟩ (.int .i64 0)).setCell ⟨w.heap.size + 1, 1, none⟩ (.int .i64 0) = W → Blk W (w.heap.size + 1) (H2 0 0) 68 ∧ Below w.heap.size w W) := by
    intro W hW
    have f5 : Fr (fun j => j = w.heap.size + 1) W0 W := by rw [← hW]; exact (Fr.ofGrown (grown_set _ _ _ _) (fun j e => (Option.some.inj e).symm)).trans (Fr.ofGrown (grown_set _ _ _ _) (fun j e => (Option.some.inj e).symm))
    exact ⟨by rw [← hW]; exact (KN.set 0 _).set 1 _, hb0.trans (f5.below (by have := hb0.size; omega) (fun j e => by omega))⟩
  have HCH : Hid (W0.heap[k]? = some (.chan 60 #[] false s r false)) := hch
  have ln : ∀ ty, (Builtin.len_ #[62] ty #[.chan (some k)]).run Try.prog W0 = .ok (.int .i64 0) W0 := fun ty => by rw [len62 hch]; rfl
  have q0 := KC.cell 0
  have q1 := KC.cell 1
  have qf1 := KC.frozen 1
  have ql := KC.lt
  simp at q0 q1
  have n0 := KN.cell 0
  have n1 := KN.cell 1
  have nf0 := KN.frozen 0
  have nf1 := KN.frozen 1
  have nl := KN.lt
  simp at n0 n1
  clear hc hb0 KC KN hch fw hkl
  go_enter Try.func48, Try.ntmps48
  rw [← HH.out 5]
  go_wp2
  rw [HH.out 5]
  clear hW0 ln q0 q1 qf1 ql
  refine region_comm 0 _ rfl rfl ?_
  simp only [List.take]
  refine wpList_nil ?_
  refine ⟨rfl, .tuple #[goInt (-1), .bool false, .agg (H2 0 0), .agg (H2 0 0)], W0, fun b k' cs rest => step_commB rfl rfl (run_sel2 _ _ rfl (some k) (none) rfl rfl) (fun fr es h => sel_en h HCH.out), ?_⟩
  clear HCH
  simp only [List.drop]
  have hg0 : goInt (-1) = Value.int .i64 (-1) := rfl
  rw [hg0]
  clear hg0
  go_wp2
  exact bodyPost_ret (v := .tuple #[.int .i64 0, .agg (H2 0 0), .bool false]) (results_F rfl _ _ _ _ _ _ _ rfl rfl rfl (HF.out _ rfl).1) rfl ⟨rfl, (HF.out _ rfl).2⟩
set_option maxHeartbeats 6400000 in
theorem first1e_c (k : Nat) (w : World) (hc : Chn w k []) :
    Calls Try.prog 48 #[.agg #[.chan none, .chan (some k)]] w fun e w' => e = .returned (.tuple #[.int .i64 0, .agg (H2 0 0), .bool false]) ∧ Below w.heap.size w w' := by
  obtain ⟨HR, hHR⟩ : ∃ H : Nat → Array Oper → Code, ∀ id ops, H id ops = Code.region id ops false := ⟨fun id ops => .region id ops false, fun _ _ => rfl⟩
  have HH : Hid (∀ id ops, HR id ops = Code.region id ops false) := hHR
  clear hHR
  obtain ⟨W0, hW0⟩ : ∃ W0, (w.alloc (Obj.cells #[.chan none, .chan (some k)] 63)).alloc (Obj.cells (H2 0 0) 68) = W0 := ⟨_, rfl⟩
  have hb0 : Below w.heap.size w W0 := by rw [← hW0]; exact ((Below.refl _ _).alloc (Nat.le_refl _) _).alloc (by simp) _
  have KC : Blk W0 w.heap.size #[.chan none, .chan (some k)] 63 := by rw [← hW0]; exact (Blk.new _ _ _).alloc _
  have KN : Blk W0 (w.heap.size + 1) (H2 0 0) 68 := by rw [← hW0]; exact Blk.newAt _ (w.heap.size + 1) _ 68 (by simp)
  have HC0 : Chn W0 k [] := hc.below hb0
  have hkl : k < w.heap.size := hc.lt
  have fw : Fr (fun j => j = k) w W0 := Fr.ofBelow hb0
  obtain ⟨s, r, hch⟩ := HC0
  have HF : Hid (∀ W, (W0.setCell ⟨w.heap.size + 1, 0, none⟩ (.int .i64 0)).setCell ⟨w.heap.size + 1, 1, none⟩ (.int .i64 0) = W → Blk W (w.heap.size + 1) (H2 0 0) 68 ∧ Below w.heap.size w W) := by
    intro W hW
    have f5 : Fr (fun j => j = w.heap.size + 1) W0 W := by rw [← hW]; exact (Fr.ofGrown (grown_set _ _ _ _) (fun j e => (Option.some.inj e).symm)).trans (Fr.ofGrown (grown_set _ _ _ _) (fun j e => (Option.some.inj e).symm))
    exact ⟨by rw [← hW]; exact (KN.set 0 _).set 1 _, hb0.trans (f5.below (by have := hb0.size; omega) (fun j e => by omega))⟩
  have HCH : Hid (W0.heap[k]? = some (.chan 60 #[] false s r false)) := hch
  have ln : ∀ ty, (Builtin.len_ #[62] ty #[.chan none]).run Try.prog W0 = .ok (.int .i64 0) W0 := fun ty => by rw [len62n]; rfl
  have q0 := KC.cell 0
  have q1 := KC.cell 1
  have qf1 := KC.frozen 1
  have ql := KC.lt
  simp at q0 q1
  have n0 := KN.cell 0
  have n1 := KN.cell 1
  have nf0 := KN.frozen 0
  have nf1 := KN.frozen 1
  have nl := KN.lt
  simp at n0 n1
  clear hc hb0 KC KN hch fw hkl
  go_enter Try.func48, Try.ntmps48
  rw [← HH.out 5]
  go_wp2
  rw [HH.out 5]
  clear hW0 ln q0 q1 qf1 ql
  refine region_comm 0 _ rfl rfl ?_
  simp only [List.take]
  refine wpList_nil ?_
  refine ⟨rfl, .tuple #[goInt (-1), .bool false, .agg (H2 0 0), .agg (H2 0 0)], W0, fun b k' cs rest => step_commB rfl rfl (run_sel2 _ _ rfl (none) (some k) rfl rfl) (fun fr es h => sel_ne h HCH.out), ?_⟩
  clear HCH
  simp only [List.drop]
  have hg0 : goInt (-1) = Value.int .i64 (-1) := rfl
  rw [hg0]
  clear hg0
  go_wp2
  exact bodyPost_ret (v := .tuple #[.int .i64 0, .agg (H2 0 0), .bool false]) (results_F rfl _ _ _ _ _ _ _ rfl rfl rfl (HF.out _ rfl).1) rfl ⟨rfl, (HF.out _ rfl).2⟩
set_option maxHeartbeats 6400000 in
theorem first0f_c (k : Nat) (x : Int × Int) (ns : Mvs) (w : World) (hc : Chn w k (x :: ns)) :
    Calls Try.prog 48 #[.agg #[.chan (some k), .chan none]] w fun e w' => e = .returned (.tuple #[.int .i64 0, .agg (H2 x.1 x.2), .bool true]) ∧ Chn w' k ns ∧ Fr (fun j => j = k) w w' := by
  obtain ⟨HR, hHR⟩ : ∃ H : Nat → Array Oper → Code, ∀ id ops, H id ops = Code.region id ops false := ⟨fun id ops => .region id ops false, fun _ _ => rfl⟩
  have HH : Hid (∀ id ops, HR id ops = Code.region id ops false) := hHR
  clear hHR
  obtain ⟨W0, hW0⟩ : ∃ W0, (w.alloc (Obj.cells #[.chan (some k), .chan none] 63)).alloc (Obj.cells (H2 0 0) 68) = W0 := ⟨_, rfl⟩
  have hb0 : Below w.heap.size w W0 := by rw [← hW0]; exact ((Below.refl _ _).alloc (Nat.le_refl _) _).alloc (by simp) _
  have KC : Blk W0 w.heap.size #[.chan (some k), .chan none] 63 := by rw [← hW0]; exact (Blk.new _ _ _).alloc _
  have KN : Blk W0 (w.heap.size + 1) (H2 0 0) 68 := by rw [← hW0]; exact Blk.newAt _ (w.heap.size + 1) _ 68 (by simp)
  have HC0 : Chn W0 k (x :: ns) := hc.below hb0
  have hkl : k < w.heap.size := hc.lt
  obtain ⟨W1, hW1⟩ : ∃ W, W0.setCell ⟨w.heap.size, 1, none⟩ (.chan none) = W := ⟨_, rfl⟩
  have f1 : Fr (fun j => j = w.heap.size) W0 W1 := by rw [← hW1]; exact Fr.ofGrown (grown_set _ _ _ _) (fun j e => (Option.some.inj e).symm)
  have KC1 : Blk W1 w.heap.size #[.chan (some k), .chan none] 63 := by rw [← hW1]; exact KC.set 1 _
  have KN1 : Blk W1 (w.heap.size + 1) (H2 0 0) 68 := KN.fr f1 (by omega)
  have HC1 : Chn W1 k (x :: ns) := HC0.fr f1 (by omega)
  have fw : Fr (fun j => j = k) w W1 := ⟨by rw [← hW1]; exact hb0.os, by rw [← hW1]; exact hb0.tape, by rw [← hW1]; exact hb0.output, Nat.le_trans hb0.size f1.size, fun j hj _ => (f1.block j (Nat.lt_of_lt_of_le hj hb0.size) (by omega)).trans (hb0.block j hj)⟩
  obtain ⟨s, r, hch⟩ := HC1
  obtain ⟨W2, hW2⟩ : ∃ W, W1.setChan k 60 (ns.map fun x => Value.agg (H2 x.1 x.2)).toArray false s (r + 1) false = W := ⟨_, rfl⟩
  have f2 : Fr (fun j => j = k) W1 W2 := by rw [← hW2]; exact fr_chan ..
  have c2 : Chn W2 k ns := ⟨s, r + 1, by rw [← hW2, heap_setChan _ _ _ _ _ _ _ _ (Array.getElem?_eq_some_iff.1 hch).1]⟩
  have KN2 : Blk W2 (w.heap.size + 1) (H2 0 0) 68 := KN1.fr f2 (by omega)
  obtain ⟨xa, xb⟩ := x
  obtain ⟨nb, hnb⟩ : ∃ q, W2.heap.size = q := ⟨_, rfl⟩
  obtain ⟨W3, hW3⟩ : ∃ W, W2.alloc (Obj.cells (H2 xa xb) 68) = W := ⟨_, rfl⟩
  have b3 : Below W2.heap.size W2 W3 := by rw [← hW3]; exact (Below.refl _ _).alloc (Nat.le_refl _) _
  have k3 : Blk W3 nb (H2 xa xb) 68 := by rw [← hW3, ← hnb]; exact Blk.new _ _ _
  have kn3 := KN2.below b3 KN2.lt
  have hnb2 : w.heap.size + 1 < nb := by have := KN2.lt; omega
  have HF : Hid (∀ W, (W3.drew.setCell ⟨w.heap.size + 1, 0, none⟩ (.int .i64 xa)).setCell ⟨w.heap.size + 1, 1, none⟩ (.int .i64 xb) = W → Blk W (w.heap.size + 1) (H2 xa xb) 68 ∧ Chn W k ns ∧ Fr (fun j => j = k) w W) := by
    intro W hW
    have f5 : Fr (fun j => j = w.heap.size + 1) W3.drew W := by rw [← hW]; exact (Fr.ofGrown (grown_set _ _ _ _) (fun j e => (Option.some.inj e).symm)).trans (Fr.ofGrown (grown_set _ _ _ _) (fun j e => (Option.some.inj e).symm))
    refine ⟨by rw [← hW]; exact ((show Blk W3.drew (w.heap.size + 1) (H2 0 0) 68 from kn3).set 0 _).set 1 _, ((c2.below b3 : Chn W3 k ns).fr (Fr.drew' (X := fun _ => False) W3) (by simp)).fr f5 (by omega), ?_⟩
    have fA : Fr (fun j => j = k) w W3.drew := ((fw.trans f2).trans (Fr.ofBelow b3)).trans (Fr.drew' W3)
    exact ⟨f5.os.trans fA.os, f5.tape.trans fA.tape, f5.output.trans fA.output, Nat.le_trans fA.size f5.size, fun j hj hx => (f5.block j (Nat.lt_of_lt_of_le hj fA.size) (by omega)).trans (fA.block j hj hx)⟩
  have HCH : Hid (W1.heap[k]? = some (.chan 60 (((xa, xb) :: ns).map fun x => Value.agg (H2 x.1 x.2)).toArray false s r false)) := hch
  have HW2 : Hid (W1.setChan k 60 (ns.map fun x => Value.agg (H2 x.1 x.2)).toArray false s (r + 1) false = W2) := hW2
  have ln : ∀ ty, (Builtin.len_ #[62] ty #[.chan (some k)]).run Try.prog W0 = .ok (.int .i64 ((ns.length : Int) + 1)) W0 := fun ty => by
    obtain ⟨s, r, h0⟩ := HC0
    rw [len62 h0]
    simp [goInt]
  have lp : (0 : Int) < (ns.length : Int) + 1 := by omega
  have q0 := KC.cell 0
  have q1 := KC.cell 1
  have qf1 := KC.frozen 1
  have ql := KC.lt
  simp at q0 q1
  have r0 := KC1.cell 0
  have r1 := KC1.cell 1
  simp at r0 r1
  have m0 := k3.cell 0
  have m1 := k3.cell 1
  have ml := k3.lt
  have n0 := kn3.cell 0
  have n1 := kn3.cell 1
  have nf0 := kn3.frozen 0
  have nf1 := kn3.frozen 1
  have nl := kn3.lt
  simp at m0 m1 n0 n1
  clear hc hb0 KC KN hch fw f2 c2 KN2 b3 k3 kn3 hnb2 f1 KC1 KN1 HC0 hkl
  go_enter Try.func48, Try.ntmps48
  rw [← HH.out 5]
  go_wp2
  rw [HH.out 5]
  clear hW0 ln q0 q1 qf1 ql
  refine region_comm 0 _ rfl rfl ?_
  simp only [List.take]
  refine wpList_nil ?_
  have hstep : ∀ (cs : List Frame) (fr : Frame) (es : Array Event), stepG Try.prog true (G fr cs) W1 = .comm (G fr cs) #[rcase k (.agg (H2 0 0)), rcaseNil (.agg (H2 0 0))] false .select W1 es → step Try.prog (solo (G fr cs) W1) = .next (solo (G (fr.finish (.tuple #[goInt 0, .bool true, .agg (H2 xa xb), .agg (H2 0 0)])) cs) W2) := fun cs fr es h => by
    have h1 := sel_cn h HCH.out (by simp)
    have e1 : List.take ns.length (ns.map fun x => Value.agg (H2 x.1 x.2)) = ns.map fun x => Value.agg (H2 x.1 x.2) := by rw [List.take_of_length_le (by simp)]
    rw [← HW2.out]
    simpa [e1] using h1
  refine ⟨rfl, .tuple #[goInt 0, .bool true, .agg (H2 xa xb), .agg (H2 0 0)], W2, fun b k' cs rest => step_commB rfl rfl (run_sel2 _ _ rfl (some k) (none) rfl rfl) (fun fr es h => hstep cs fr es h), ?_⟩
  clear hstep HCH HW2 hW2 hW1
  simp only [List.drop]
  have hg0 : goInt 0 = Value.int .i64 0 := rfl
  rw [hg0]
  clear hg0
  go_wp2
  clear hW3 hnb
  obtain ⟨W5, hW5⟩ : ∃ W, (W3.drew.setCell ⟨w.heap.size + 1, 0, none⟩ (.int .i64 xa)).setCell ⟨w.heap.size + 1, 1, none⟩ (.int .i64 xb) = W := ⟨_, rfl⟩
  have HF5 := HF.out W5 hW5
  have HFF : Hid (Blk W5 (w.heap.size + 1) (H2 xa xb) 68 ∧ Chn W5 k ns ∧ Fr (fun j => j = k) w W5) := HF5
  clear HF HF5
  refine region_det [.agg (H2 xa xb), .int .i64 0, undef, .bool true] (fun d W => (d 2 = false → W = W3.drew) ∧ (d 2 = true → W = W5 ∧ d 0 = true)) (by kernel_rfl) (by kernel_rfl)
    (by simp only [putAll, Act.put, List.setIfInBounds_toArray, List.set_cons_succ, List.set_cons_zero]; exact rfl) ⟨fun _ => rfl, fun h => (by cases h)⟩ ⟨?_, ?_, ?_, ?_, trivial⟩ ?_
  case refine_5 =>
    rintro d W ⟨-, s1⟩ hall
    have hW := (s1 (hall 2 (by decide))).1
    subst hW
    clear s1 hall hW5
    go_wp2
    exact bodyPost_ret (v := .tuple #[.int .i64 0, .agg (H2 xa xb), .bool true]) (results_F rfl _ _ _ _ _ _ _ rfl rfl rfl HFF.out.1) rfl ⟨rfl, HFF.out.2⟩
  · rintro d W ⟨s0, s1⟩ hn hd
    have h2 : d 2 = false := by cases h : d 2 with | false => rfl | true => rw [(s1 h).2] at hn; cases hn
    have hW := s0 h2
    subst hW
    clear s0 s1 hW5
    go_wp2
    exact ⟨rfl, rfl, fun _ => rfl, fun h => by simp [doneSet, h2] at h⟩
  · rintro d W ⟨s0, s1⟩ hn hd
    have S0 : Hid ((d 2 = false → W = W3.drew) ∧ (d 2 = true → W = W5 ∧ d 0 = true)) := ⟨s0, s1⟩
    clear s0 s1 hW5
    go_wp2
    exact ⟨rfl, rfl, by simpa [doneSet] using S0.out.1, by simpa [doneSet] using S0.out.2⟩
  · rintro d W ⟨s0, s1⟩ hn hd
    have h0 : d 0 = true := hd { on := 0, ground := .data } (by simp) rfl
    have hW := s0 hn
    subst hW
    clear s0 s1
    go_wp2
    exact ⟨rfl, rfl, fun h => by simp [doneSet] at h, fun _ => ⟨hW5, by simp [doneSet, h0]⟩⟩
  · rintro d W ⟨s0, s1⟩ hn hd
    have S0 : Hid ((d 2 = false → W = W3.drew) ∧ (d 2 = true → W = W5 ∧ d 0 = true)) := ⟨s0, s1⟩
    clear s0 s1 hW5
    go_wp2
    exact ⟨rfl, rfl, by simpa [doneSet] using S0.out.1, by simpa [doneSet] using S0.out.2⟩
set_option maxHeartbeats 6400000 in
theorem first1f_c (k : Nat) (x : Int × Int) (ns : Mvs) (w : World) (hc : Chn w k (x :: ns)) :
    Calls Try.prog 48 #[.agg #[.chan none, .chan (some k)]] w fun e w' => e = .returned (.tuple #[.int .i64 1, .agg (H2 x.1 x.2), .bool true]) ∧ Chn w' k ns ∧ Fr (fun j => j = k) w w' := by
  obtain ⟨HR, hHR⟩ : ∃ H : Nat → Array Oper → Code, ∀ id ops, H id ops = Code.region id ops false := ⟨fun id ops => .region id ops false, fun _ _ => rfl⟩
  have HH : Hid (∀ id ops, HR id ops = Code.region id ops false) := hHR
  clear hHR
  obtain ⟨W0, hW0⟩ : ∃ W0, (w.alloc (Obj.cells #[.chan none, .chan (some k)] 63)).alloc (Obj.cells (H2 0 0) 68) = W0 := ⟨_, rfl⟩
  have hb0 : Below w.heap.size w W0 := by rw [← hW0]; exact ((Below.refl _ _).alloc (Nat.le_refl _) _).alloc (by simp) _
  have KC : Blk W0 w.heap.size #[.chan none, .chan (some k)] 63 := by rw [← hW0]; exact (Blk.new _ _ _).alloc _
  have KN : Blk W0 (w.heap.size + 1) (H2 0 0) 68 := by rw [← hW0]; exact Blk.newAt _ (w.heap.size + 1) _ 68 (by simp)
  have HC0 : Chn W0 k (x :: ns) := hc.below hb0
  have hkl : k < w.heap.size := hc.lt
  have fw : Fr (fun j => j = k) w W0 := Fr.ofBelow hb0
  obtain ⟨s, r, hch⟩ := HC0
  obtain ⟨W2, hW2⟩ : ∃ W, W0.setChan k 60 (ns.map fun x => Value.agg (H2 x.1 x.2)).toArray false s (r + 1) false = W := ⟨_, rfl⟩
  have f2 : Fr (fun j => j = k) W0 W2 := by rw [← hW2]; exact fr_chan ..
  have c2 : Chn W2 k ns := ⟨s, r + 1, by rw [← hW2, heap_setChan _ _ _ _ _ _ _ _ (Array.getElem?_eq_some_iff.1 hch).1]⟩
  have KN2 : Blk W2 (w.heap.size + 1) (H2 0 0) 68 := KN.fr f2 (by omega)
  obtain ⟨xa, xb⟩ := x
  obtain ⟨nb, hnb⟩ : ∃ q, W2.heap.size = q := ⟨_, rfl⟩
  obtain ⟨W3, hW3⟩ : ∃ W, W2.alloc (Obj.cells (H2 xa xb) 68) = W := ⟨_, rfl⟩
  have b3 : Below W2.heap.size W2 W3 := by rw [← hW3]; exact (Below.refl _ _).alloc (Nat.le_refl _) _
  have k3 : Blk W3 nb (H2 xa xb) 68 := by rw [← hW3, ← hnb]; exact Blk.new _ _ _
  have kn3 := KN2.below b3 KN2.lt
  have hnb2 : w.heap.size + 1 < nb := by have := KN2.lt; omega
  have HF : Hid (∀ W, (W3.drew.setCell ⟨w.heap.size + 1, 0, none⟩ (.int .i64 xa)).setCell ⟨w.heap.size + 1, 1, none⟩ (.int .i64 xb) = W → Blk W (w.heap.size + 1) (H2 xa xb) 68 ∧ Chn W k ns ∧ Fr (fun j => j = k) w W) := by
    intro W hW
    have f5 : Fr (fun j => j = w.heap.size + 1) W3.drew W := by rw [← hW]; exact (Fr.ofGrown (grown_set _ _ _ _) (fun j e => (Option.some.inj e).symm)).trans (Fr.ofGrown (grown_set _ _ _ _) (fun j e => (Option.some.inj e).symm))
    refine ⟨by rw [← hW]; exact ((show Blk W3.drew (w.heap.size + 1) (H2 0 0) 68 from kn3).set 0 _).set 1 _, ((c2.below b3 : Chn W3 k ns).fr (Fr.drew' (X := fun _ => False) W3) (by simp)).fr f5 (by omega), ?_⟩
    have fA : Fr (fun j => j = k) w W3.drew := ((fw.trans f2).trans (Fr.ofBelow b3)).trans (Fr.drew' W3)
    exact ⟨f5.os.trans fA.os, f5.tape.trans fA.tape, f5.output.trans fA.output, Nat.le_trans fA.size f5.size, fun j hj hx => (f5.block j (Nat.lt_of_lt_of_le hj fA.size) (by omega)).trans (fA.block j hj hx)⟩
  have HCH : Hid (W0.heap[k]? = some (.chan 60 (((xa, xb) :: ns).map fun x => Value.agg (H2 x.1 x.2)).toArray false s r false)) := hch
  have HW2 : Hid (W0.setChan k 60 (ns.map fun x => Value.agg (H2 x.1 x.2)).toArray false s (r + 1) false = W2) := hW2
  have ln : ∀ ty, (Builtin.len_ #[62] ty #[.chan none]).run Try.prog W0 = .ok (.int .i64 0) W0 := fun ty => by rw [len62n]; rfl
  have q0 := KC.cell 0
  have q1 := KC.cell 1
  have qf1 := KC.frozen 1
  have ql := KC.lt
  simp at q0 q1
  have m0 := k3.cell 0
  have m1 := k3.cell 1
  have ml := k3.lt
  have n0 := kn3.cell 0
  have n1 := kn3.cell 1
  have nf0 := kn3.frozen 0
  have nf1 := kn3.frozen 1
  have nl := kn3.lt
  simp at m0 m1 n0 n1
  clear hc hb0 KC KN hch fw f2 c2 KN2 b3 k3 kn3 hnb2 hkl
  go_enter Try.func48, Try.ntmps48
  rw [← HH.out 5]
  go_wp2
  rw [HH.out 5]
  clear hW0 ln q0 q1 qf1 ql
  refine region_comm 0 _ rfl rfl ?_
  simp only [List.take]
  refine wpList_nil ?_
  have hstep : ∀ (cs : List Frame) (fr : Frame) (es : Array Event), stepG Try.prog true (G fr cs) W0 = .comm (G fr cs) #[rcaseNil (.agg (H2 0 0)), rcase k (.agg (H2 0 0))] false .select W0 es → step Try.prog (solo (G fr cs) W0) = .next (solo (G (fr.finish (.tuple #[goInt 1, .bool true, .agg (H2 0 0), .agg (H2 xa xb)])) cs) W2) := fun cs fr es h => by
    have h1 := sel_nc h HCH.out (by simp)
    have e1 : List.take ns.length (ns.map fun x => Value.agg (H2 x.1 x.2)) = ns.map fun x => Value.agg (H2 x.1 x.2) := by rw [List.take_of_length_le (by simp)]
    rw [← HW2.out]
    simpa [e1] using h1
  refine ⟨rfl, .tuple #[goInt 1, .bool true, .agg (H2 0 0), .agg (H2 xa xb)], W2, fun b k' cs rest => step_commB rfl rfl (run_sel2 _ _ rfl (none) (some k) rfl rfl) (fun fr es h => hstep cs fr es h), ?_⟩
  clear hstep HCH HW2 hW2
  simp only [List.drop]
  have hg0 : goInt 1 = Value.int .i64 1 := rfl
  rw [hg0]
  clear hg0
  go_wp2
  clear hW3 hnb
  obtain ⟨W5, hW5⟩ : ∃ W, (W3.drew.setCell ⟨w.heap.size + 1, 0, none⟩ (.int .i64 xa)).setCell ⟨w.heap.size + 1, 1, none⟩ (.int .i64 xb) = W := ⟨_, rfl⟩
  have HF5 := HF.out W5 hW5
  have HFF : Hid (Blk W5 (w.heap.size + 1) (H2 xa xb) 68 ∧ Chn W5 k ns ∧ Fr (fun j => j = k) w W5) := HF5
  clear HF HF5
  refine region_det [.agg (H2 xa xb), .int .i64 1, undef, .bool true] (fun d W => (d 2 = false → W = W3.drew) ∧ (d 2 = true → W = W5 ∧ d 0 = true)) (by kernel_rfl) (by kernel_rfl)
    (by simp only [putAll, Act.put, List.setIfInBounds_toArray, List.set_cons_succ, List.set_cons_zero]; exact rfl) ⟨fun _ => rfl, fun h => (by cases h)⟩ ⟨?_, ?_, ?_, ?_, trivial⟩ ?_
  case refine_5 =>
    rintro d W ⟨-, s1⟩ hall
    have hW := (s1 (hall 2 (by decide))).1
    subst hW
    clear s1 hall hW5
    go_wp2
    exact bodyPost_ret (v := .tuple #[.int .i64 1, .agg (H2 xa xb), .bool true]) (results_F rfl _ _ _ _ _ _ _ rfl rfl rfl HFF.out.1) rfl ⟨rfl, HFF.out.2⟩
  · rintro d W ⟨s0, s1⟩ hn hd
    have h2 : d 2 = false := by cases h : d 2 with | false => rfl | true => rw [(s1 h).2] at hn; cases hn
    have hW := s0 h2
    subst hW
    clear s0 s1 hW5
    go_wp2
    exact ⟨rfl, rfl, fun _ => rfl, fun h => by simp [doneSet, h2] at h⟩
  · rintro d W ⟨s0, s1⟩ hn hd
    have S0 : Hid ((d 2 = false → W = W3.drew) ∧ (d 2 = true → W = W5 ∧ d 0 = true)) := ⟨s0, s1⟩
    clear s0 s1 hW5
    go_wp2
    exact ⟨rfl, rfl, by simpa [doneSet] using S0.out.1, by simpa [doneSet] using S0.out.2⟩
  · rintro d W ⟨s0, s1⟩ hn hd
    have h0 : d 0 = true := hd { on := 0, ground := .data } (by simp) rfl
    have hW := s0 hn
    subst hW
    clear s0 s1
    go_wp2
    exact ⟨rfl, rfl, fun h => by simp [doneSet] at h, fun _ => ⟨hW5, by simp [doneSet, h0]⟩⟩
  · rintro d W ⟨s0, s1⟩ hn hd
    have S0 : Hid ((d 2 = false → W = W3.drew) ∧ (d 2 = true → W = W5 ∧ d 0 = true)) := ⟨s0, s1⟩
    clear s0 s1 hW5
    go_wp2
    exact ⟨rfl, rfl, by simpa [doneSet] using S0.out.1, by simpa [doneSet] using S0.out.2⟩
end Go.Proofs.Ytkehcalijamhjaa
