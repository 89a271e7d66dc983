/- How calls end; no condition. -/
import Derived.Test.YtfaflnhembceoaaClE
import Derived.Deep.QuietTactic
import Derived.BigQuiet
namespace Go.Proofs.Ytfaflnhembceoaa
open Go.RowKit Go.ChangeShapes Go.WideShapes Go.ChangeAt
set_option linter.unusedVariables false
set_option linter.unusedSimpArgs false
set_option maxRecDepth 8000

theorem info146 : (Try.prog.info? 146).map (fun i => (i.zero, i.size, i.bytes)) = some (some (.agg #[.int .i64 0, .int .i64 0]), 2, 16) := by kernel_rfl
theorem size146 : (Try.prog.info? 146).map (·.size) = some 2 := by kernel_rfl
def enF (cs : Sbs) (f u : Nat) : Int × Int := ((rgF cs f u).1, (rgF cs f u).2.1)
set_option maxHeartbeats 1600000 in
theorem endOf_c (v : Value) (cs : Sbs) (f u : Nat) (w : World) (h : RdL w v cs) (hok : SbOk cs) (hf : f < cs.length) (hu : u < cs.length) : Calls Try.prog 96 #[v, .agg (H2 (f : Int) (u : Int))] w fun e w' => e = .returned (.agg (H2 (enF cs f u).1 (enF cs f u).2)) ∧ Below w.heap.size w w' := by
  have HRD : Hid (RdL w v cs) := h
  obtain ⟨a, cap, hv, g1, g2⟩ := h.len
  subst hv
  unfold maxLen at g2
  have HC : Hid (SbOk cs ∧ f < cs.length ∧ u < cs.length) := ⟨hok, hf, hu⟩
  obtain ⟨n, hnn⟩ : ∃ n, cs.length = n := ⟨_, rfl⟩
  rw [hnn] at HRD ⊢
  obtain ⟨W0, hW0⟩ : ∃ W, (w.alloc (Obj.cells (H2 (f : Int) (u : Int)) 68)).alloc (Obj.cells (H2 0 0) 146) = W := ⟨_, rfl⟩
  have HW0 : Hid ((w.alloc (Obj.cells (H2 (f : Int) (u : Int)) 68)).alloc (Obj.cells (H2 0 0) 146) = W0) := hW0
  have B0 : Hid (Below w.heap.size w W0) := by show Below _ _ _; rw [← hW0]; exact ((Below.refl _ _).alloc (Nat.le_refl _) _).alloc (by simp) _
  have K0 : Hid (Blk W0 (w.heap.size + 1) (H2 0 0) 146) := by show Blk _ _ _ _; rw [← hW0]; exact Blk.newAt _ _ _ _ (by simp)
  clear h hok hf hu hnn hW0 g1 g2
  go_enter Try.func96, Try.ntmps96
  go_wp2_with (fail)
  rw [HW0.out]
  refine (route_c _ cs f u W0 (HRD.out.below B0.out) HC.out.1 HC.out.2.1 HC.out.2.2).mono ?_
  rintro e w2 ⟨vo, rfl, ho, b2⟩
  have B2 : Hid (Below w.heap.size w w2) := belowCall B0.out b2 B0.out.size
  have K2 : Hid (Blk w2 (w.heap.size + 1) (H2 0 0) 146) := K0.out.below b2 K0.out.lt
  obtain ⟨oa, ol, oc, hov⟩ : ∃ oa ol oc, vo = .slice oa ol oc := by obtain ⟨a, c, e, -⟩ := own_form ho; exact ⟨_, _, _, e⟩
  subst hov
  obtain ⟨r1, r2, rh, hr⟩ : ∃ r1 r2 rh, rgF cs f u = (r1, r2, rh) := ⟨_, _, _, rfl⟩
  have HE : Hid (enF cs f u = (r1, r2)) := by show _ = _; rw [enF, hr]
  rw [hr]
  dsimp only
  obtain ⟨W3, hW3⟩ : ∃ W3, w2.alloc (Obj.cells (O3 r1 r2 (.slice oa ol oc)) 29) = W3 := ⟨_, rfl⟩
  have bA : Below w2.heap.size w2 W3 := by rw [← hW3]; exact (Below.refl _ _).alloc (Nat.le_refl _) _
  have k3 : Blk W3 (w.heap.size + 1) (H2 0 0) 146 := K2.out.below bA K2.out.lt
  have B3 : Below w.heap.size w W3 := belowCall B2.out bA B2.out.size
  have x3 : Blk W3 w2.heap.size (O3 r1 r2 (.slice oa ol oc)) 29 := by rw [← hW3]; exact Blk.new _ _ _
  have q0 := x3.cell 0
  have q1 := x3.cell 1
  have q2 := x3.cell 2
  have c0 := k3.cell 0
  have c1 := k3.cell 1
  have f0 := k3.frozen 0
  have f1 := k3.frozen 1
  simp at q0 q1 q2 c0 c1
  have KF : Hid (Blk ((W3.setCell ⟨w.heap.size + 1, 0, none⟩ (.int .i64 r1)).setCell ⟨w.heap.size + 1, 1, none⟩ (.int .i64 r2)) (w.heap.size + 1) (H2 r1 r2) 146) := (k3.set 0 _).set 1 _
  have BF : Hid (Below w.heap.size w ((W3.setCell ⟨w.heap.size + 1, 0, none⟩ (.int .i64 r1)).setCell ⟨w.heap.size + 1, 1, none⟩ (.int .i64 r2))) := (B3.setCell (by dsimp only; omega) _).setCell (by dsimp only; omega) _
  clear ho b2 hr bA k3 B3 x3 B2 K2 B0 K0 HW0
  go_wp2
  exact bodyPost_ret (v := .agg (H2 r1 r2)) (results_cell_row rfl _ _ _ 146 _ (0, 0) _ rfl KF.out Try.underlying146 rfl size146) rfl ⟨by rw [HE.out], BF.out⟩
/-- calls between subs -/
def ClOk (cs : Sbs) (ls : Mvs) : Prop := ∀ x ∈ ls, ∃ f u : Nat, x = ((f : Int), (u : Int)) ∧ f < cs.length ∧ u < cs.length
def ensF (cs : Sbs) (ls : Mvs) : Mvs := ls.map fun x => enF cs x.1.toNat x.2.toNat
theorem ensF_len (cs : Sbs) (ls : Mvs) : (ensF cs ls).length = ls.length := by simp [ensF]
theorem ensF_at {cs : Sbs} {ls : Mvs} {j f u : Nat} (hj : j < ls.length) (hx : ls[j] = ((f : Int), (u : Int))) (h : j < (ensF cs ls).length) : (ensF cs ls)[j] = enF cs f u := by
  simp [ensF, hx]
def EnR (cs : Sbs) (ls : Mvs) (w : World) (e : Ending) (w' : World) : Prop := ∃ v', e = .returned v' ∧ Op mf mg 146 w.heap.size w' v' (ensF cs ls) ∧ Below w.heap.size w w'
set_option maxHeartbeats 3200000 in
theorem endsOf_c (v v2 : Value) (cs : Sbs) (ls : Mvs) (w : World) (h : RdL w v cs) (hok : SbOk cs) (hr : Rp mf mg w v2 ls) (hc : ClOk cs ls) (hl : ls.length ≤ 1000) : Calls Try.prog 77 #[v, v2] w (EnR cs ls w) := by
  have HRD : Hid (RdL w v cs) := h
  have HOK : Hid (SbOk cs) := hok
  have HCO : Hid (ClOk cs ls) := hc
  obtain ⟨a, cap, hv, g1, g2⟩ := h.len
  subst hv
  obtain ⟨n, hnn⟩ : ∃ n, cs.length = n := ⟨_, rfl⟩
  have HN : Hid (cs.length = n) := hnn
  rw [hnn] at g1 HRD ⊢
  obtain ⟨a2, cap2, rfl, h1, h2, h3⟩ := hr
  unfold maxLen at h2 g2
  have H3 : Hid (ls = [] ∨ ∃ b off, a2 = some ⟨b, off, none⟩ ∧ ∀ i (h : i < ls.length), w.cell? ⟨b, off + i * 2, none⟩ = some (mf ls[i]) ∧ w.cell? ⟨b, off + i * 2 + 1, none⟩ = some (mg ls[i])) := h3
  obtain ⟨L, hL⟩ : ∃ L, ensF cs ls = L := ⟨_, rfl⟩
  have HL : Hid (ensF cs ls = L) := hL
  obtain ⟨m, hm⟩ : ∃ m, ls.length = m := ⟨_, rfl⟩
  have HM : Hid (ls.length = m) := hm
  have HLM : Hid (L.length = m) := by show _ = _; rw [← hL, ensF_len, hm]
  rw [hm] at h1 hl ⊢
  obtain ⟨i0, hi, hz0, hz1, hz2⟩ := info_parts info146
  clear h hok hc hnn h3 hL hm
  go_enter Try.func77, Try.ntmps77
  go_wp2_with (at_make; refine wpList_make_full _ rfl _ _ 115 rfl w.heap.size 146 i0 (.agg #[.int .i64 0, .int .i64 0]) 2 Try.underlying115 hi hz0 hz1 .i64 .i64 _ _ m rfl rfl rfl rfl (by rw [hz2]; omega) (by unfold maxLen; omega) (Nat.le_refl _) ?_)
  intro w1 ho hg
  have hx : w1.ownsRow w.heap.size 146 2 (.slice (some ⟨w.heap.size, 0, none⟩) m m) m (pr mf mg (fil ((0, 0) : Int × Int) L 0)) := by
    have e : pr mf mg (fil ((0, 0) : Int × Int) L 0) = (madeCells #[Value.int .i64 0, .int .i64 0] (m * 2)).toList := by rw [pr_replicate mf mg ((0, 0) : Int × Int) m]; simp [fil, HLM.out]
    rw [e]; exact ho
  have HX : Hid (w1.ownsRow w.heap.size 146 2 (.slice (some ⟨w.heap.size, 0, none⟩) m m) m (pr mf mg (fil ((0, 0) : Int × Int) L 0))) := hx
  have HB : Hid (Below w.heap.size w w1) := grown_below hg (Nat.le_refl _) (by simp)
  clear hg ho hx
  go_wp2
  go_loopw [13] (fun i wr => ∃ j : Nat, j ≤ m ∧ i = .int .i64 j ∧ Hid (wr.ownsRow w.heap.size 146 2 (.slice (some ⟨w.heap.size, 0, none⟩) m m) m (pr mf mg (fil ((0, 0) : Int × Int) L j))) ∧ Hid (Below w.heap.size w wr)) (fun i _ => m - (intOf i).toNat)
  case atStart => exact ⟨0, Nat.zero_le _, rfl, HX.out, HB.out⟩
  case round =>
    obtain ⟨j, hj, rfl, hw, hbr⟩ := hrel
    clear HX HB
    by_cases hlt : j < m
    case neg =>
      obtain rfl : m = j := by omega
      have HF : Hid (Op mf mg 146 w.heap.size wr (.slice (some ⟨w.heap.size, 0, none⟩) m m) (ensF cs ls)) := by
        show Op _ _ _ _ _ _ _
        have h0 := hw.out
        have e : fil ((0, 0) : Int × Int) L m = L := by rw [← HLM.out]; exact fil_full _ _
        rw [e] at h0
        rw [HL.out, Op, HLM.out]; exact h0
      go_wp2
      go_ret
      exact ⟨_, rfl, HF.out, hbr.out⟩
    case pos =>
    have hjl : j < ls.length := by rw [HM.out]; exact hlt
    obtain ⟨b, off, rfl, h4⟩ : ∃ b off, a2 = some ⟨b, off, none⟩ ∧ _ := by
      rcases H3.out with h | h
      · rw [h] at hjl; simp at hjl
      · exact h
    obtain ⟨f, u, hfu, hf, hu⟩ := HCO.out ls[j] (List.getElem_mem hjl)
    have hc := h4 j hjl
    rw [hfu] at hc
    have hcb : b < w.heap.size := block_lt_of_cell hc.1
    have hc0 : wr.cell? ⟨b, off + j * 2, none⟩ = some (.int .i64 (f : Int)) := (hbr.out.cell (p := ⟨b, off + j * 2, none⟩) hcb).trans hc.1
    have hc1 : wr.cell? ⟨b, off + j * 2 + 1, none⟩ = some (.int .i64 (u : Int)) := (hbr.out.cell (p := ⟨b, off + j * 2 + 1, none⟩) hcb).trans hc.2
    obtain ⟨y1, y2, hy⟩ : ∃ y1 y2, enF cs f u = (y1, y2) := ⟨_, _, rfl⟩
    have HLJ : Hid (∀ h : j < L.length, L[j] = (y1, y2)) := fun h => by
      have h5 := ensF_at (cs := cs) hjl hfu (by rw [ensF_len]; exact hjl)
      have h6 : L[j] = (ensF cs ls)[j]'(by rw [ensF_len]; exact hjl) := by congr 1; exact HL.out.symm
      rw [h6, h5, hy]
    have HFU : Hid (f < cs.length ∧ u < cs.length) := ⟨hf, hu⟩
    have HY : Hid (enF cs f u = (y1, y2)) := hy
    obtain ⟨W1, hW1⟩ : ∃ W, wr.alloc (Obj.cells (H2 (f : Int) (u : Int)) 68) = W := ⟨_, rfl⟩
    have bA : Below wr.heap.size wr W1 := by rw [← hW1]; exact (Below.refl _ _).alloc (Nat.le_refl _) _
    have B1 : Hid (Below w.heap.size w W1) := belowCall hbr.out bA hbr.out.size
    have X1 : Hid (W1.ownsRow w.heap.size 146 2 (.slice (some ⟨w.heap.size, 0, none⟩) m m) m (pr mf mg (fil ((0, 0) : Int × Int) L j))) := World.ownsRow.kept (row := none) hw.out (below_grown bA) (by simp [Value.ownBlock])
    have K1 : Blk W1 wr.heap.size (H2 (f : Int) (u : Int)) 68 := by rw [← hW1]; exact Blk.new _ _ _
    have RD1 : Hid (RdL W1 (.slice a n cap) cs) := HRD.out.below B1.out
    have k0 := K1.cell 0
    have k1 := K1.cell 1
    simp at k0 k1
    clear bA hw hbr h4 hc hfu hf hu hy K1 hjl
    go_wp2_with (fail)
    clear hW1
    refine (endOf_c _ cs f u W1 RD1.out HOK.out HFU.out.1 HFU.out.2).mono ?_
    rintro e w2 ⟨rfl, b2⟩
    have B2 : Below w.heap.size w w2 := belowCall B1.out b2 B1.out.size
    have hw2 : w2.ownsRow w.heap.size 146 2 (.slice (some ⟨w.heap.size, 0, none⟩) m m) m (pr mf mg (fil ((0, 0) : Int × Int) L j)) := World.ownsRow.kept (row := none) X1.out (below_grown b2) (by simp [Value.ownBlock])
    rw [HY.out]
    dsimp only
    have hjL : j < L.length := by rw [HLM.out]; exact hlt
    have hfl := fil_len ((0, 0) : Int × Int) L j (by omega)
    have hO : Op mf mg 146 w.heap.size w2 (.slice (some ⟨w.heap.size, 0, none⟩) (fil ((0, 0) : Int × Int) L j).length m) (fil ((0, 0) : Int × Int) L j) := by rw [Op, hfl, HLM.out]; exact hw2
    have hp := pr_at mf mg (fil ((0, 0) : Int × Int) L j) j (by omega)
    obtain ⟨x0, hd0⟩ : ∃ u, w2.cell? ⟨w.heap.size, j * 2, none⟩ = some u := ⟨_, (hw2.cellAt (j * 2) (by omega)).trans hp.1⟩
    obtain ⟨x1, hd1⟩ : ∃ u, w2.cell? ⟨w.heap.size, j * 2 + 1, none⟩ = some u := ⟨_, (hw2.cellAt (j * 2 + 1) (by omega)).trans hp.2⟩
    have hf0 := hw2.frozenAt (j * 2)
    have hf1 := hw2.frozenAt (j * 2 + 1)
    have hS := own_set2 hO j (by omega) L[j]
    rw [fil_set, Op, hfl, fil_len _ _ _ (by omega), HLJ.out hjL, HLM.out] at hS
    have HS : Hid (((w2.setCell ⟨w.heap.size, j * 2, none⟩ (.int .i64 y1)).setCell ⟨w.heap.size, j * 2 + 1, none⟩ (.int .i64 y2)).ownsRow w.heap.size 146 2 (.slice (some ⟨w.heap.size, 0, none⟩) m m) m (pr mf mg (fil ((0, 0) : Int × Int) L (j + 1)))) := hS
    have HC : Hid (Below w.heap.size w ((w2.setCell ⟨w.heap.size, j * 2, none⟩ (.int .i64 y1)).setCell ⟨w.heap.size, j * 2 + 1, none⟩ (.int .i64 y2))) := (B2.setCell (by exact Nat.le_refl _) _).setCell (by exact Nat.le_refl _) _
    clear hw2 B2 b2 hO hS hp hfl hjL k0 k1 hc0 hc1 B1 X1
    go_wp2
    go_roundw
    case rel => exact ⟨j + 1, by omega, by go_num, HS.out, HC.out⟩
    case measure => simp [intOf]; omega
end Go.Proofs.Ytfaflnhembceoaa
namespace Go.Proofs.Ytfaflnhembceoaa
open Go.RowKit Go.ChangeShapes Go.WideShapes Go.ChangeAt
set_option linter.unusedVariables false
set_option linter.unusedSimpArgs false
set_option maxRecDepth 8000
theorem guard146 : Try.prog.eqGuardType Try.prog.depth 146 = false := by kernel_rfl
theorem stood146 : Try.prog.stoodInHeld 146 = false := by kernel_rfl
theorem und146 : Try.prog.underlying 146 = some (.struct (Try.prog.fieldsOf 146)) := by kernel_rfl
theorem fields146 : (Try.prog.fieldsOf 146).toList.map (fun f => (f.name == "_", f.type, f.offset)) = [(false, 3, 0), (false, 3, 1)] := by kernel_rfl
theorem part0 (a b : Value) (w : World) : (part 3 #[a, b] 0).run Try.prog w = .ok a w := by kernel_rfl
theorem part1 (a b : Value) (w : World) : (part 3 #[a, b] 1).run Try.prog w = .ok b w := by kernel_rfl
theorem eqRun146 (x y x' y' : Int) (w : World) : (Op.equalIn 10000 146 (.agg (H2 x y)) (.agg (H2 x' y'))).run Try.prog w = .ok (decide ((x, y) = (x', y'))) w := by
  rw [run_equalIn_struct w 9999 146 _ _ und146 stood146]
  have hf := fields146
  have hl : (Try.prog.fieldsOf 146).toList.length = 2 := by simpa using congrArg List.length hf
  revert hf hl
  generalize (Try.prog.fieldsOf 146).toList = fs
  intro hf hl
  match fs, hl, hf with
  | [f0, f1], _, hf =>
    simp only [List.map_cons, List.map_nil, List.cons.injEq, Prod.mk.injEq, and_true] at hf
    obtain ⟨⟨n0, t0, o0⟩, ⟨n1, t1, o1⟩⟩ := hf
    have e0 : f0.name ≠ "_" := by simpa using n0
    have e1 : f1.name ≠ "_" := by simpa using n1
    have hi : ∀ a b : Int, (Op.equalIn 9999 3 (.int .i64 a) (.int .i64 b)).run Try.prog w = .ok (a == b) w := fun a b => run_equalIn_int w 9998 3 .i64 .i64 a b Try.underlying3
    simp only [Op.eqFields, e0, e1, ne_eq, not_false_eq_true, if_true, t0, t1, o0, o1, Sem.run_bind, part0, part1, Result.andThen_ok, hi, H2]
    by_cases h0 : x = x' <;> by_cases h1 : y = y' <;> simp [h0, h1, part1, hi]

theorem bdrewN {B : Nat} {a w : World} (h : Below B a w) (q : Nat) : Below B a (w.drewN q) := ⟨h.os, h.tape, h.output, h.size, h.block⟩
def utB (x y z : Int × Int) : Bool := !(decide (x = y)) && (!(decide (z = x)) && !(decide (z = y)))
def utJ (L1 L2 L3 : Mvs) (j : Nat) : Bool := utB (L1.getD j (0, 0)) (L2.getD j (0, 0)) (L3.getD j (0, 0))
def UtS (L1 L2 L3 : Mvs) (m : Nat) (r : Int) : Prop := (r = -1 ∧ ∀ j, j < m → utJ L1 L2 L3 j = false) ∨ (∃ j : Nat, j < m ∧ r = j ∧ utJ L1 L2 L3 j = true ∧ ∀ i, i < j → utJ L1 L2 L3 i = false)
def UtR (L1 L2 L3 : Mvs) (m : Nat) (w : World) (e : Ending) (w' : World) : Prop := ∃ r : Int, e = .returned (.int .i64 r) ∧ UtS L1 L2 L3 m r ∧ Below w.heap.size w w'
theorem getD_at {ls : Mvs} {j : Nat} (h : j < ls.length) : ls.getD j (0, 0) = ls[j] := by rw [List.getD_eq_getElem?_getD, List.getElem?_eq_getElem h]; rfl
set_option maxHeartbeats 3200000 in
theorem unlikeThird_c (v v2 v3 v4 : Value) (cs : Sbs) (ls L1 L2 : Mvs) (w : World) (h : RdL w v cs) (hok : SbOk cs) (hr : Rp mf mg w v2 ls) (hc : ClOk cs ls) (hl : ls.length ≤ 1000) (hr1 : Rp mf mg w v3 L1) (hr2 : Rp mf mg w v4 L2) (hl1 : L1.length = ls.length) (hl2 : L2.length = ls.length) :
    Calls Try.prog 78 #[v, v2, v3, v4] w (UtR L1 L2 (ensF cs ls) ls.length w) := by
  have HRD : Hid (RdL w v cs) := h
  have HOK : Hid (SbOk cs) := hok
  have HCO : Hid (ClOk cs ls) := hc
  obtain ⟨a, cap, hv, g1, g2⟩ := h.len
  subst hv
  obtain ⟨n, hnn⟩ : ∃ n, cs.length = n := ⟨_, rfl⟩
  have HN : Hid (cs.length = n) := hnn
  rw [hnn] at g1 HRD ⊢
  obtain ⟨a2, cap2, rfl, h1, h2, h3⟩ := hr
  obtain ⟨a3, cap3, rfl, h13, h23, h33⟩ := hr1
  obtain ⟨a4, cap4, rfl, h14, h24, h34⟩ := hr2
  unfold maxLen at h2 g2 h23 h24
  have H3 : Hid (ls = [] ∨ ∃ b off, a2 = some ⟨b, off, none⟩ ∧ ∀ i (h : i < ls.length), w.cell? ⟨b, off + i * 2, none⟩ = some (mf ls[i]) ∧ w.cell? ⟨b, off + i * 2 + 1, none⟩ = some (mg ls[i])) := h3
  have H33 : Hid (L1 = [] ∨ ∃ b off, a3 = some ⟨b, off, none⟩ ∧ ∀ i (h : i < L1.length), w.cell? ⟨b, off + i * 2, none⟩ = some (mf L1[i]) ∧ w.cell? ⟨b, off + i * 2 + 1, none⟩ = some (mg L1[i])) := h33
  have H34 : Hid (L2 = [] ∨ ∃ b off, a4 = some ⟨b, off, none⟩ ∧ ∀ i (h : i < L2.length), w.cell? ⟨b, off + i * 2, none⟩ = some (mf L2[i]) ∧ w.cell? ⟨b, off + i * 2 + 1, none⟩ = some (mg L2[i])) := h34
  obtain ⟨m, hm⟩ : ∃ m, ls.length = m := ⟨_, rfl⟩
  have HM : Hid (ls.length = m) := hm
  have HM1 : Hid (L1.length = m) := hl1.trans hm
  have HM2 : Hid (L2.length = m) := hl2.trans hm
  rw [hm] at h1 hl hl1 hl2 ⊢
  rw [hl1] at h13 ⊢
  rw [hl2] at h14 ⊢
  have g146 := guard146
  have q146 := eqRun146
  clear h hok hc hnn h3 h33 h34 hm hl1 hl2
  go_enter Try.func78, Try.ntmps78
  go_wp2
  go_loopw [14] (fun i wr => ∃ j : Nat, j ≤ m ∧ i = .int .i64 j ∧ Hid (∀ i, i < j → utJ L1 L2 (ensF cs ls) i = false) ∧ Hid (Below w.heap.size w wr)) (fun i _ => m - (intOf i).toNat)
  case atStart => exact ⟨0, Nat.zero_le _, rfl, fun i hi => by omega, Below.refl _ _⟩
  case round =>
    obtain ⟨j, hj, rfl, HA, hbr⟩ := hrel
    by_cases hlt : j < m
    case neg =>
      obtain rfl : m = j := by omega
      go_wp2
      go_ret
      exact ⟨_, rfl, .inl ⟨rfl, HA.out⟩, hbr.out⟩
    case pos =>
    have hjl : j < ls.length := by rw [HM.out]; exact hlt
    have hj1 : j < L1.length := by rw [HM1.out]; exact hlt
    have hj2 : j < L2.length := by rw [HM2.out]; exact hlt
    obtain ⟨b, off, rfl, h4⟩ : ∃ b off, a2 = some ⟨b, off, none⟩ ∧ _ := by
      rcases H3.out with h | h
      · rw [h] at hjl; simp at hjl
      · exact h
    obtain ⟨b3, off3, rfl, h43⟩ : ∃ b off, a3 = some ⟨b, off, none⟩ ∧ _ := by
      rcases H33.out with h | h
      · rw [h] at hj1; simp at hj1
      · exact h
    obtain ⟨b4, off4, rfl, h44⟩ : ∃ b off, a4 = some ⟨b, off, none⟩ ∧ _ := by
      rcases H34.out with h | h
      · rw [h] at hj2; simp at hj2
      · exact h
    obtain ⟨f, u, hfu, hf, hu⟩ := HCO.out ls[j] (List.getElem_mem hjl)
    have hc := h4 j hjl
    rw [hfu] at hc
    have hcb : b < w.heap.size := block_lt_of_cell hc.1
    have hc0 : wr.cell? ⟨b, off + j * 2, none⟩ = some (.int .i64 (f : Int)) := (hbr.out.cell (p := ⟨b, off + j * 2, none⟩) hcb).trans hc.1
    have hc1 : wr.cell? ⟨b, off + j * 2 + 1, none⟩ = some (.int .i64 (u : Int)) := (hbr.out.cell (p := ⟨b, off + j * 2 + 1, none⟩) hcb).trans hc.2
    obtain ⟨x1, x2, hx⟩ : ∃ y1 y2, L1[j] = (y1, y2) := ⟨_, _, rfl⟩
    obtain ⟨y1, y2, hy⟩ : ∃ y1 y2, L2[j] = (y1, y2) := ⟨_, _, rfl⟩
    obtain ⟨z1, z2, hz⟩ : ∃ y1 y2, enF cs f u = (y1, y2) := ⟨_, _, rfl⟩
    have hcx := h43 j hj1
    have hcy := h44 j hj2
    rw [hx] at hcx
    rw [hy] at hcy
    have hb3 : b3 < w.heap.size := block_lt_of_cell hcx.1
    have hb4 : b4 < w.heap.size := block_lt_of_cell hcy.1
    have CE : Hid (∀ W, Below w.heap.size w W → (W.cell? ⟨b3, off3 + j * 2, none⟩ = some (.int .i64 x1) ∧ W.cell? ⟨b3, off3 + j * 2 + 1, none⟩ = some (.int .i64 x2)) ∧ W.cell? ⟨b4, off4 + j * 2, none⟩ = some (.int .i64 y1) ∧ W.cell? ⟨b4, off4 + j * 2 + 1, none⟩ = some (.int .i64 y2)) := fun W hW => ⟨⟨(hW.cell (p := ⟨b3, off3 + j * 2, none⟩) hb3).trans hcx.1, (hW.cell (p := ⟨b3, off3 + j * 2 + 1, none⟩) hb3).trans hcx.2⟩, (hW.cell (p := ⟨b4, off4 + j * 2, none⟩) hb4).trans hcy.1, (hW.cell (p := ⟨b4, off4 + j * 2 + 1, none⟩) hb4).trans hcy.2⟩
    have HU : Hid (utJ L1 L2 (ensF cs ls) j = utB (x1, x2) (y1, y2) (z1, z2)) := by
      show _ = _
      have hj3 : j < (ensF cs ls).length := by rw [ensF_len]; exact hjl
      rw [utJ, getD_at hj1, getD_at hj2, getD_at hj3, ensF_at hjl hfu, hx, hy, hz]
    have HFU : Hid (f < cs.length ∧ u < cs.length) := ⟨hf, hu⟩
    have HZ : Hid (enF cs f u = (z1, z2)) := hz
    obtain ⟨W1, hW1⟩ : ∃ W, wr.alloc (Obj.cells (H2 (f : Int) (u : Int)) 68) = W := ⟨_, rfl⟩
    have bA : Below wr.heap.size wr W1 := by rw [← hW1]; exact (Below.refl _ _).alloc (Nat.le_refl _) _
    have B1 : Hid (Below w.heap.size w W1) := belowCall hbr.out bA hbr.out.size
    have K1 : Blk W1 wr.heap.size (H2 (f : Int) (u : Int)) 68 := by rw [← hW1]; exact Blk.new _ _ _
    have KB : Hid (Blk W1 wr.heap.size (H2 (f : Int) (u : Int)) 68) := K1
    have k0 := K1.cell 0
    have k1 := K1.cell 1
    simp at k0 k1
    obtain ⟨⟨cx0, cx1⟩, cy0, cy1⟩ := CE.out W1 B1.out
    have jr : (0 : Int) ≤ (j : Int) := by omega
    have jr2 : (j : Int) < (m : Int) := by omega
    clear bA hbr h4 h43 h44 hc hcx hcy hfu hf hu hx hy hz K1 hjl hj1 hj2
    obtain ⟨d1, hd1⟩ : ∃ d, (decide (x1 = y1) && decide (x2 = y2)) = d := ⟨_, rfl⟩
    have HD1 : Hid ((decide (x1 = y1) && decide (x2 = y2)) = d1) := hd1
    clear hd1
    go_wp2
    go_quiet (fail)
    rw [HD1.out]
    have B2' : Below w.heap.size w (W1.drewN nq) := bdrewN B1.out nq
    have K2' : Blk (W1.drewN nq) wr.heap.size (H2 (f : Int) (u : Int)) 68 := KB.out.drewN nq
    obtain ⟨W2, hW2⟩ : ∃ W, W1.drewN nq = W := ⟨_, rfl⟩
    rw [hW2] at B2' K2' ⊢
    have B2 : Hid (Below w.heap.size w W2) := B2'
    have K2 : Hid (Blk W2 wr.heap.size (H2 (f : Int) (u : Int)) 68) := K2'
    clear hW2 B2' K2' k0 k1 cx0 cx1 cy0 cy1 hc0 hc1 hW1 B1 KB
    cases d1 with
    | true =>
      have HNX : Hid (∀ i, i < j + 1 → utJ L1 L2 (ensF cs ls) i = false) := fun i hi => by
        by_cases e : i = j
        · subst e
          rw [HU.out, utB]
          have h := HD1.out
          simp at h
          simp [h.1, h.2]
        · exact HA.out i (by omega)
      go_wp2
      go_roundw
      case rel => exact ⟨j + 1, by omega, by go_num, HNX.out, B2.out⟩
      case measure => simp [intOf]; omega
    | false =>
    have k0 := K2.out.cell 0
    have k1 := K2.out.cell 1
    simp at k0 k1
    go_wp2_with (fail)
    refine (endOf_c _ cs f u W2 (HRD.out.below B2.out) HOK.out HFU.out.1 HFU.out.2).mono ?_
    rintro e w3 ⟨rfl, b3'⟩
    have B3 : Hid (Below w.heap.size w w3) := belowCall B2.out b3' B2.out.size
    rw [HZ.out]
    dsimp only
    obtain ⟨W4, hW4⟩ : ∃ W, w3.alloc (Obj.cells (H2 z1 z2) 146) = W := ⟨_, rfl⟩
    have bA : Below w3.heap.size w3 W4 := by rw [← hW4]; exact (Below.refl _ _).alloc (Nat.le_refl _) _
    have B4 : Hid (Below w.heap.size w W4) := belowCall B3.out bA B3.out.size
    have K4 : Blk W4 w3.heap.size (H2 z1 z2) 146 := by rw [← hW4]; exact Blk.new _ _ _
    have q0 := K4.cell 0
    have q1 := K4.cell 1
    simp at q0 q1
    obtain ⟨⟨cx0, cx1⟩, cy0, cy1⟩ := CE.out W4 B4.out
    clear bA b3' k0 k1 B2 K2 B3 K4
    obtain ⟨d2, hd2⟩ : ∃ d, (decide (z1 = x1) && decide (z2 = x2)) = d := ⟨_, rfl⟩
    obtain ⟨d3, hd3⟩ : ∃ d, (decide (z1 = y1) && decide (z2 = y2)) = d := ⟨_, rfl⟩
    have HD2 : Hid ((decide (z1 = x1) && decide (z2 = x2)) = d2) := hd2
    have HD3 : Hid ((decide (z1 = y1) && decide (z2 = y2)) = d3) := hd3
    have HUB : Hid (utJ L1 L2 (ensF cs ls) j = (!d2 && !d3)) := by
      show _ = _
      rw [HU.out, utB, ← hd2, ← hd3]
      have h := HD1.out
      have e1 : decide ((x1, x2) = (y1, y2)) = (decide (x1 = y1) && decide (x2 = y2)) := by simp
      have e2 : decide ((z1, z2) = (x1, x2)) = (decide (z1 = x1) && decide (z2 = x2)) := by simp
      have e3 : decide ((z1, z2) = (y1, y2)) = (decide (z1 = y1) && decide (z2 = y2)) := by simp
      rw [e1, e2, e3, h]; simp
    cases d2 with
    | true =>
      have HNX : Hid (∀ i, i < j + 1 → utJ L1 L2 (ensF cs ls) i = false) := fun i hi => by
        by_cases e : i = j
        · subst e; rw [HUB.out]; rfl
        · exact HA.out i (by omega)
      clear hd3
      go_wp2
      clear hW4
      go_quiet (fail)
      have B5 : Hid (Below w.heap.size w (W4.drewN nq)) := bdrewN B4.out nq
      obtain ⟨W5, hW5⟩ : ∃ W, W4.drewN nq = W := ⟨_, rfl⟩
      rw [hW5] at B5 ⊢
      clear hW5
      go_wp2
      go_roundw
      case rel => exact ⟨j + 1, by omega, by go_num, HNX.out, B5.out⟩
      case measure => simp [intOf]; omega
    | false =>
      cases d3 with
      | true =>
        have HNX : Hid (∀ i, i < j + 1 → utJ L1 L2 (ensF cs ls) i = false) := fun i hi => by
          by_cases e : i = j
          · subst e; rw [HUB.out]; rfl
          · exact HA.out i (by omega)
        go_wp2
        clear hW4
        go_quiet (fail)
        have B5 : Hid (Below w.heap.size w (W4.drewN nq)) := bdrewN B4.out nq
        obtain ⟨W5, hW5⟩ : ∃ W, W4.drewN nq = W := ⟨_, rfl⟩
        rw [hW5] at B5 ⊢
        clear hW5
        go_wp2
        go_roundw
        case rel => exact ⟨j + 1, by omega, by go_num, HNX.out, B5.out⟩
        case measure => simp [intOf]; omega
      | false =>
        go_wp2
        clear hW4
        go_quiet (fail)
        have B5 : Hid (Below w.heap.size w (W4.drewN nq)) := bdrewN B4.out nq
        obtain ⟨W5, hW5⟩ : ∃ W, W4.drewN nq = W := ⟨_, rfl⟩
        rw [hW5] at B5 ⊢
        clear hW5
        go_wp2
        go_ret
        exact ⟨_, rfl, .inr ⟨j, hlt, rfl, by rw [HUB.out]; rfl, HA.out⟩, B5.out⟩
end Go.Proofs.Ytfaflnhembceoaa
