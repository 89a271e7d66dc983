/- Rows of units: what they read, what is owned; the laws' helpers that copy, measure and compare them; no condition. -/
import Derived.Test.YtejoopdpelcpeaaTx
namespace Go.Proofs.Ytejoopdpelcpeaa
open Go.RowKit Go.ChangeShapes Go.WideShapes Go.ChangeAt
set_option linter.unusedVariables false
set_option linter.unusedSimpArgs false
set_option maxRecDepth 8000
/-- an element: Unit -/
structure Un where
  ack : Int
  seq : Int
  dat : ByteArray
abbrev U3 (r : Un) : Array Value := #[.int .i64 r.ack, .int .i64 r.seq, .string r.dat]
/-- the cells of such ones -/
def un : List Un → List Value
  | [] => []
  | o :: r => .int .i64 o.ack :: .int .i64 o.seq :: .string o.dat :: un r
theorem un_len : ∀ l : List Un, (un l).length = l.length * 3
  | [] => rfl
  | o :: r => by simp [un, un_len r]; omega
theorem un_at : ∀ (l : List Un) (i : Nat) (h : i < l.length), (un l)[i * 3]? = some (.int .i64 l[i].ack) ∧ (un l)[i * 3 + 1]? = some (.int .i64 l[i].seq) ∧ (un l)[i * 3 + 2]? = some (.string l[i].dat)
  | o :: r, 0, _ => by simp [un]
  | o :: r, i + 1, h => by
    have := un_at r i (by simpa using h)
    rw [show (i + 1) * 3 = i * 3 + 3 by omega]
    simpa [un] using this
theorem un_set : ∀ (l : List Un) (i : Nat) (x : Un), i < l.length → (((un l).set (i * 3) (.int .i64 x.ack)).set (i * 3 + 1) (.int .i64 x.seq)).set (i * 3 + 2) (.string x.dat) = un (l.set i x)
  | y :: r, 0, x, _ => by simp [un]
  | y :: r, i + 1, x, h => by
    have := un_set r i x (by simpa using h)
    rw [show (i + 1) * 3 = i * 3 + 3 by omega]
    simpa [un] using this
theorem un_app : ∀ (l m : List Un), un (l ++ m) = un l ++ un m
  | [], m => rfl
  | o :: r, m => by simp [un, un_app r m]
theorem un_replicate (x : Un) : ∀ n : Nat, (madeCells (U3 x) (n * 3)).toList = un (List.replicate n x) := by
  intro n
  apply List.ext_getElem?
  intro i
  have hd : i = i / 3 * 3 ∨ i = i / 3 * 3 + 1 ∨ i = i / 3 * 3 + 2 := by omega
  by_cases hi : i < n * 3
  · have hq : i / 3 < (List.replicate n x).length := by simp; omega
    have h1 := un_at (List.replicate n x) (i / 3) hq
    rcases hd with hd | hd | hd
    · have hm : i % 3 = 0 := by omega
      rw [← hd] at h1
      rw [h1.1]
      simp [madeCells, List.getElem?_range hi, hm]
    · have hm : i % 3 = 1 := by omega
      rw [← hd] at h1
      rw [h1.2.1]
      simp [madeCells, List.getElem?_range hi, hm]
    · have hm : i % 3 = 2 := by omega
      rw [← hd] at h1
      rw [h1.2.2]
      simp [madeCells, List.getElem?_range hi, hm]
  · rw [List.getElem?_eq_none (by simp [madeCells]; omega), List.getElem?_eq_none (by simp [un_len]; omega)]
abbrev Uns := List Un
/-- the slice v reads as ls -/
def Ru (w : World) (v : Value) (ls : Uns) : Prop :=
  ∃ a cap, v = .slice a ls.length cap ∧ ls.length ≤ cap ∧ cap ≤ maxLen ∧ (ls = [] ∨ ∃ b off, a = some ⟨b, off, none⟩ ∧ ∀ i (h : i < ls.length), w.cell? ⟨b, off + i * 3, none⟩ = some (.int .i64 ls[i].ack) ∧ w.cell? ⟨b, off + i * 3 + 1, none⟩ = some (.int .i64 ls[i].seq) ∧ w.cell? ⟨b, off + i * 3 + 2, none⟩ = some (.string ls[i].dat))
/-- the slice v, among the blocks from base on, owns ls -/
def Ou (e : TypeId) (base : Nat) (w : World) (v : Value) (ls : Uns) : Prop := w.ownsRow base e 3 v ls.length (un ls)
theorem Ru.below {w w' : World} {v : Value} {ls : Uns} (h : Ru w v ls) (hb : Below w.heap.size w w') : Ru w' v ls := by
  obtain ⟨a, cap, rfl, h1, h2, h3⟩ := h
  refine ⟨a, cap, rfl, h1, h2, ?_⟩
  rcases h3 with h3 | ⟨b, off, rfl, h4⟩
  · exact .inl h3
  · refine .inr ⟨b, off, rfl, fun i hi => ?_⟩
    have hc := h4 i hi
    have hlt : b < w.heap.size := block_lt_of_cell hc.1
    exact ⟨(hb.cell hlt).trans hc.1, (hb.cell hlt).trans hc.2.1, (hb.cell hlt).trans hc.2.2⟩
theorem Ou.below {e : TypeId} {base : Nat} {w w' : World} {v : Value} {ls : Uns} (h : Ou e base w v ls) (hb : Below w.heap.size w w') : Ou e base w' v ls :=
  World.ownsRow.kept (row := none) h ⟨hb.os, hb.tape, hb.output, hb.size, fun j hj _ => hb.block j hj⟩ (by cases v.ownBlock <;> simp)
theorem Ou.mono {e : TypeId} {base base' : Nat} {w : World} {v : Value} {ls : Uns} (h : Ou e base w v ls) (hb : base' ≤ base) : Ou e base' w v ls := by
  refine ⟨h.1, ?_⟩
  rcases h.2 with h2 | ⟨g, cap, cur, hv, hg, r⟩
  · exact .inl h2
  · exact .inr ⟨g, cap, cur, hv, by omega, r⟩
theorem Ou.rd {e : TypeId} {base : Nat} {w : World} {v : Value} {ls : Uns} (h : Ou e base w v ls) : Ru w v ls := by
  rcases h.2 with ⟨rfl, hn⟩ | ⟨b, cap, cur, rfl, hb, hg, hnc, hcm, hcs, ht⟩
  · exact ⟨none, 0, by rw [hn], by omega, by simp, .inl (List.eq_nil_of_length_eq_zero hn)⟩
  · refine ⟨_, cap, rfl, hnc, hcm, .inr ⟨b, 0, rfl, fun i hi => ?_⟩⟩
    have h0 := World.ownsRow.cellAt h (i * 3) (by omega)
    have h1 := World.ownsRow.cellAt h (i * 3 + 1) (by omega)
    have h2 := World.ownsRow.cellAt h (i * 3 + 2) (by omega)
    have hp := un_at ls i hi
    rw [Nat.zero_add, h0, h1, h2]; exact hp
theorem own_setU {e : TypeId} {base b cap : Nat} {w : World} {ls : Uns} (h : Ou e base w (.slice (some ⟨b, 0, none⟩) ls.length cap) ls) (j : Nat) (hj : j < ls.length) (x : Un) :
    Ou e base (((w.setCell ⟨b, j * 3, none⟩ (.int .i64 x.ack)).setCell ⟨b, j * 3 + 1, none⟩ (.int .i64 x.seq)).setCell ⟨b, j * 3 + 2, none⟩ (.string x.dat)) (.slice (some ⟨b, 0, none⟩) ls.length cap) (ls.set j x) := by
  have h1 := (World.ownsRow.stored h (j * 3) (.int .i64 x.ack)).1
  have h2 := (World.ownsRow.stored h1 (j * 3 + 1) (.int .i64 x.seq)).1
  have h3 := (World.ownsRow.stored h2 (j * 3 + 2) (.string x.dat)).1
  rw [un_set ls j x hj] at h3
  rw [Ou, List.length_set]; exact h3
def u0 : Un := ⟨0, 0, ⟨#[]⟩⟩
instance : Inhabited Un := ⟨u0⟩
theorem size78 : (Try.prog.info? 78).map (·.size) = some 3 := by kernel_rfl
theorem infoUnit : (Try.prog.info? 78).map (fun i => (i.zero, i.size, i.bytes)) = some (some (.agg (U3 u0)), 3, 32) := by kernel_rfl
set_option maxHeartbeats 1600000 in
theorem toUnit_c (r : Un) (w : World) : Calls Try.prog 130 #[.agg (U3 r)] w fun e w' => e = .returned (.agg (U3 r)) ∧ Below w.heap.size w w' := by
  go_enter Try.func130, Try.ntmps130
  go_wp2
  have h1 : ((((w.alloc (Obj.cells (U3 r) 173)).alloc (Obj.cells (U3 r) 78)).alloc (Obj.cells (U3 r) 78))).heap[w.heap.size + 1]? = some (.cells (U3 r) 78 (0, 0)) :=
    ((Blk.newAt _ (w.heap.size + 1) _ 78 (by simp)).alloc _ : Blk _ _ _ _)
  exact bodyPost_ret (v := .agg (U3 r)) (results_cell_row rfl _ _ _ 78 _ (0, 0) _ rfl h1 Try.underlying78 rfl size78) rfl ⟨rfl, (((Below.refl _ _).alloc (Nat.le_refl _) _).alloc (by simp) _).alloc (by simp; omega) _⟩
set_option maxHeartbeats 3200000 in
theorem toUnitS_c (v : Value) (ls : Uns) (w : World) (h : Ru w v ls) (hn : ls.length ≤ 1048576) :
   Calls Try.prog 102 #[v] w fun e w' => ∃ v', e = .returned v' ∧ Ou 78 w.heap.size w' v' ls ∧ Below w.heap.size w w' := by
  obtain ⟨a, cap, rfl, h1, h2, h3⟩ := h
  unfold maxLen at h2
  obtain ⟨i0, hi, hz0, hz1, hz2⟩ := info_parts infoUnit
  go_enter Try.func102, Try.ntmps102
  go_wp2_with (at_make; refine wpList_make_full _ rfl _ _ 28 rfl w.heap.size 78 i0 (.agg (U3 u0)) 3 Try.underlying28 hi hz0 hz1 .i64 .i64 _ _ ls.length rfl rfl rfl rfl (by rw [hz2]; omega) (by unfold maxLen; omega) (Nat.le_refl _) ?_)
  intro w1 ho hg
  have hx : w1.ownsRow w.heap.size 78 3 (.slice (some ⟨w.heap.size, 0, none⟩) ls.length ls.length) ls.length (un (fil u0 ls 0)) := by
    have e : un (fil u0 ls 0) = (madeCells (U3 u0) (ls.length * 3)).toList := by rw [un_replicate u0 ls.length]; simp [fil]
    rw [e]; exact ho
  have hb : Below w.heap.size w w1 := grown_below hg (Nat.le_refl _) (by simp)
  clear hg ho
  go_wp2
  go_loopw [4] (fun i wr => ∃ j : Nat, j ≤ ls.length ∧ i = .int .i64 j ∧ wr.ownsRow w.heap.size 78 3 (.slice (some ⟨w.heap.size, 0, none⟩) ls.length ls.length) ls.length (un (fil u0 ls j)) ∧ Below w.heap.size w wr) (fun i _ => ls.length - (intOf i).toNat)
  case atStart => exact ⟨0, Nat.zero_le _, rfl, hx, hb⟩
  case round =>
    obtain ⟨j, hj, rfl, hw, hbr⟩ := hrel
    clear hx hb
    by_cases hlt : j < ls.length
    · rcases h3 with h3 | ⟨b, off, rfl, h4⟩
      · subst h3; simp at hlt
      have hc := h4 j hlt
      have hcb : b < w.heap.size := block_lt_of_cell hc.1
      obtain ⟨r, hr⟩ : ∃ r, ls[j] = r := ⟨_, rfl⟩
      have HR : Hid (ls[j] = r) := hr
      rw [hr] at hc
      have e0 := (hbr.cell (p := ⟨b, off + j * 3, none⟩) hcb).trans hc.1
      have e1 := (hbr.cell (p := ⟨b, off + j * 3 + 1, none⟩) hcb).trans hc.2.1
      have e2 := (hbr.cell (p := ⟨b, off + j * 3 + 2, none⟩) hcb).trans hc.2.2
      clear h4 hc hr
      go_wp2_with (fail)
      refine (toUnit_c r _).mono ?_
      rintro e w2 ⟨rfl, b2⟩
      have hw2 : w2.ownsRow w.heap.size 78 3 (.slice (some ⟨w.heap.size, 0, none⟩) ls.length ls.length) ls.length (un (fil u0 ls j)) := World.ownsRow.kept (row := none) hw ⟨b2.os, b2.tape, b2.output, b2.size, fun k hk _ => b2.block k hk⟩ (by simp [Value.ownBlock])
      have c2 := belowCall hbr b2 hbr.size
      have hfl := fil_len u0 ls j hj
      have hO : Ou 78 w.heap.size w2 (.slice (some ⟨w.heap.size, 0, none⟩) (fil u0 ls j).length ls.length) (fil u0 ls j) := by rw [Ou, hfl]; exact hw2
      have hp := un_at (fil u0 ls j) j (by omega)
      obtain ⟨y0, hd0⟩ : ∃ u, w2.cell? ⟨w.heap.size, j * 3, none⟩ = some u := ⟨_, (hw2.cellAt (j * 3) (by omega)).trans hp.1⟩
      obtain ⟨y1, hd1⟩ : ∃ u, w2.cell? ⟨w.heap.size, j * 3 + 1, none⟩ = some u := ⟨_, (hw2.cellAt (j * 3 + 1) (by omega)).trans hp.2.1⟩
      obtain ⟨y2, hd2⟩ : ∃ u, w2.cell? ⟨w.heap.size, j * 3 + 2, none⟩ = some u := ⟨_, (hw2.cellAt (j * 3 + 2) (by omega)).trans hp.2.2⟩
      have hf0 := hw2.frozenAt (j * 3)
      have hf1 := hw2.frozenAt (j * 3 + 1)
      have hf2 := hw2.frozenAt (j * 3 + 2)
      have hS := own_setU hO j (by omega) ls[j]
      rw [fil_set, Ou, hfl, fil_len _ _ _ (by omega), HR.out] at hS
      have c3 : Below w.heap.size w (((w2.setCell ⟨w.heap.size, j * 3, none⟩ (.int .i64 r.ack)).setCell ⟨w.heap.size, j * 3 + 1, none⟩ (.int .i64 r.seq)).setCell ⟨w.heap.size, j * 3 + 2, none⟩ (.string r.dat)) := (((c2.setCell (by simp) _).setCell (by simp) _).setCell (by simp) _)
      have HS : Hid _ := hS
      have HC : Hid _ := c3
      clear hw hbr hw2 c2 b2 hO hS c3 hp hfl
      go_wp2
      go_roundw
      case rel => exact ⟨j + 1, by omega, by go_num, HS.out, HC.out⟩
      case measure => simp [intOf]; omega
    · obtain rfl : j = ls.length := by omega
      rw [fil_full] at hw
      clear h3
      go_wp2
      go_ret
      exact ⟨_, rfl, hw, hbr⟩
/-- a size taken off what is left -/
def SzUnit (r : Un) (left : Int) (w : World) (e : Ending) (w' : World) : Prop := ∃ z : Int, e = .returned (.int .i64 z) ∧ -1 ≤ z ∧ z ≤ left ∧ (0 ≤ z → (r.dat.size : Int) ≤ left) ∧ Below w.heap.size w w'
set_option maxHeartbeats 1600000 in
theorem szUnit_c (r : Un) (left : Int) (w : World) (h0 : 0 ≤ left) (hl : left ≤ 1048576) (hs0 : r.dat.size ≤ maxLen) : Calls Try.prog 129 #[.agg (U3 r), .int .i64 left] w (SzUnit r left w) := by
  unfold maxLen at hs0
  have HB : Hid (Below w.heap.size w (w.alloc (Obj.cells (U3 r) 173))) := (Below.refl _ _).alloc (Nat.le_refl _) _
  obtain ⟨ack, seq, dat⟩ := r
  dsimp only at hs0 HB ⊢
  by_cases h1 : left - (dat.size : Int) < 0
  · go_enter Try.func129, Try.ntmps129
    go_wp2
    go_ret
    exact ⟨_, rfl, by omega, by omega, fun h => by omega, HB.out⟩
  · go_enter Try.func129, Try.ntmps129
    go_wp2
    go_ret
    exact ⟨_, rfl, by omega, by omega, fun h => by dsimp only; omega, HB.out⟩
def SzSUnit (ls : Uns) (L : Int) (w : World) (e : Ending) (w' : World) : Prop := ∃ z : Int, e = .returned (.int .i64 z) ∧ -1 ≤ z ∧ z ≤ L ∧ (0 ≤ z → (ls.length : Int) ≤ L ∧ ∀ r ∈ ls, r.dat.size ≤ 1048576) ∧ Below w.heap.size w w'
set_option maxHeartbeats 3200000 in
theorem szUnitS_c (v : Value) (ls : Uns) (L : Int) (w : World) (h0L : 0 ≤ L) (hL1 : L ≤ 1048576) (h : Ru w v ls) (hb : ∀ r ∈ ls, r.dat.size ≤ maxLen) : Calls Try.prog 100 #[v, .int .i64 L] w (SzSUnit ls L w) := by
  obtain ⟨a, cap, rfl, h1, h2, h3⟩ := h
  unfold maxLen at h2
  have HM : Hid (∀ r ∈ ls, r.dat.size ≤ maxLen) := hb
  clear hb
  by_cases hL : L < (ls.length : Int)
  · have g : L - (ls.length : Int) < 0 := by omega
    go_enter Try.func100, Try.ntmps100
    go_wp2
    go_ret
    exact ⟨_, rfl, by omega, by omega, fun h => by omega, Below.refl _ _⟩
  have g : ¬ (L - (ls.length : Int) < 0) := by omega
  go_enter Try.func100, Try.ntmps100
  go_wp2
  go_loopw [1, 5] (fun z i wr => ∃ j : Nat, ∃ x : Int, j ≤ ls.length ∧ i = .int .i64 j ∧ z = .int .i64 x ∧ 0 ≤ x ∧ x ≤ L ∧ Hid (∀ t (ht : t < ls.length), t < j → ls[t].dat.size ≤ 1048576) ∧ Hid (Below w.heap.size w wr)) (fun _ i _ => ls.length - (intOf i).toNat)
  case atStart => exact ⟨0, L - (ls.length : Int), Nat.zero_le _, rfl, rfl, by omega, by omega, fun t _ h => by omega, Below.refl _ _⟩
  case round =>
    obtain ⟨j, x, hj, rfl, rfl, hx0, hx1, hA, hbr⟩ := hrel
    by_cases hlt : j < ls.length
    case neg =>
      obtain rfl : j = ls.length := by omega
      have HF : Hid (∀ r ∈ ls, r.dat.size ≤ 1048576) := fun r hr => by
        obtain ⟨i, hi, rfl⟩ := List.getElem_of_mem hr
        exact hA.out i hi hi
      clear h3
      go_wp2
      go_ret
      exact ⟨_, rfl, by omega, by omega, fun _ => ⟨by omega, HF.out⟩, hbr.out⟩
    case pos =>
    rcases h3 with h3 | ⟨b, off, rfl, h4⟩
    · subst h3; simp at hlt
    have hc := h4 j hlt
    have hcb : b < w.heap.size := block_lt_of_cell hc.1
    obtain ⟨r, hr⟩ : ∃ r, ls[j] = r := ⟨_, rfl⟩
    have HR : Hid (ls[j] = r) := hr
    have hm := HM.out _ (List.getElem_mem hlt)
    rw [hr] at hc hm
    have e0 := (hbr.out.cell (p := ⟨b, off + j * 3, none⟩) hcb).trans hc.1
    have e1 := (hbr.out.cell (p := ⟨b, off + j * 3 + 1, none⟩) hcb).trans hc.2.1
    have e2 := (hbr.out.cell (p := ⟨b, off + j * 3 + 2, none⟩) hcb).trans hc.2.2
    clear h4 hc hr
    go_wp2_with (fail)
    refine (szUnit_c r x wr hx0 (by omega) hm).mono ?_
    rintro e w2 ⟨z, rfl, z0, z1, z2, b2⟩
    have HB2 : Hid (Below w.heap.size w w2) := belowCall hbr.out b2 hbr.out.size
    clear b2
    by_cases hz : z < 0
    · clear z2 hm
      go_wp2
      go_ret
      exact ⟨_, rfl, by omega, by omega, fun h => by omega, HB2.out⟩
    · have HF : Hid (∀ t (ht : t < ls.length), t < j + 1 → ls[t].dat.size ≤ 1048576) := fun t ht h => by
        by_cases htj : t < j
        · exact hA.out t ht htj
        · obtain rfl : t = j := by omega
          have := z2 (by omega)
          rw [HR.out]; omega
      clear z2 hm
      go_wp2
      go_roundw
      case rel => exact ⟨j + 1, z, by omega, by go_num, rfl, by omega, by omega, HF.out, HB2.out⟩
      case measure => simp [intOf]; omega
set_option maxHeartbeats 1600000 in
theorem eqUnit_t (r : Un) (w : World) : Calls Try.prog 131 #[.agg (U3 r), .agg (U3 r)] w fun e w' => e = .returned (.bool true) ∧ Below w.heap.size w w' := by
  have HB : Hid (Below w.heap.size w ((w.alloc (Obj.cells (U3 r) 78)).alloc (Obj.cells (U3 r) 78))) := ((Below.refl _ _).alloc (Nat.le_refl _) _).alloc (by simp) _
  obtain ⟨ack, seq, dat⟩ := r
  have g0 : (ack != ack) = false := by simp
  have g1 : (seq != seq) = false := by simp
  have g2 : (dat.toList != dat.toList) = false := by simp
  go_enter Try.func131, Try.ntmps131
  go_wp2
  go_ret
  exact ⟨rfl, HB.out⟩
set_option maxHeartbeats 3200000 in
theorem eqUnitS_t (v v' : Value) (ls : Uns) (w : World) (h : Ru w v ls) (h' : Ru w v' ls) : Calls Try.prog 104 #[v, v'] w fun e w' => e = .returned (.bool true) ∧ Below w.heap.size w w' := by
  obtain ⟨a, cap, rfl, h1, h2, h3⟩ := h
  obtain ⟨a', cap', rfl, h1', h2', h3'⟩ := h'
  unfold maxLen at h2 h2'
  have hne : ((ls.length : Int) != (ls.length : Int)) = false := by simp
  go_enter Try.func104, Try.ntmps104
  go_wp2
  go_loopw [5] (fun i wr => ∃ j : Nat, j ≤ ls.length ∧ i = .int .i64 j ∧ Hid (Below w.heap.size w wr)) (fun i _ => ls.length - (intOf i).toNat)
  case atStart => exact ⟨0, Nat.zero_le _, rfl, Below.refl _ _⟩
  case round =>
    obtain ⟨j, hj, rfl, hbr⟩ := hrel
    by_cases hlt : j < ls.length
    case neg =>
      obtain rfl : j = ls.length := by omega
      clear h3 h3'
      go_wp2
      go_ret
      exact ⟨rfl, hbr.out⟩
    case pos =>
    rcases h3 with h3 | ⟨b, off, rfl, h4⟩
    · subst h3; simp at hlt
    rcases h3' with h3' | ⟨b', off', rfl, h4'⟩
    · subst h3'; simp at hlt
    have hc := h4 j hlt
    have hc' := h4' j hlt
    obtain ⟨r, hr⟩ : ∃ r, ls[j] = r := ⟨_, rfl⟩
    rw [hr] at hc hc'
    have hcb : b < w.heap.size := block_lt_of_cell hc.1
    have hcb' : b' < w.heap.size := block_lt_of_cell hc'.1
    have y0 : ∀ W : Ov wr, W.wd.cell? ⟨b, off + j * 3, none⟩ = some (.int .i64 r.ack) := ov_cell ((hbr.out.cell (p := ⟨b, off + j * 3, none⟩) hcb).trans hc.1)
    have x0 : ∀ W : Ov wr, W.wd.cell? ⟨b', off' + j * 3, none⟩ = some (.int .i64 r.ack) := ov_cell ((hbr.out.cell (p := ⟨b', off' + j * 3, none⟩) hcb').trans hc'.1)
    have y1 : ∀ W : Ov wr, W.wd.cell? ⟨b, off + j * 3 + 1, none⟩ = some (.int .i64 r.seq) := ov_cell ((hbr.out.cell (p := ⟨b, off + j * 3 + 1, none⟩) hcb).trans hc.2.1)
    have x1 : ∀ W : Ov wr, W.wd.cell? ⟨b', off' + j * 3 + 1, none⟩ = some (.int .i64 r.seq) := ov_cell ((hbr.out.cell (p := ⟨b', off' + j * 3 + 1, none⟩) hcb').trans hc'.2.1)
    have y2 : ∀ W : Ov wr, W.wd.cell? ⟨b, off + j * 3 + 2, none⟩ = some (.string r.dat) := ov_cell ((hbr.out.cell (p := ⟨b, off + j * 3 + 2, none⟩) hcb).trans hc.2.2)
    have x2 : ∀ W : Ov wr, W.wd.cell? ⟨b', off' + j * 3 + 2, none⟩ = some (.string r.dat) := ov_cell ((hbr.out.cell (p := ⟨b', off' + j * 3 + 2, none⟩) hcb').trans hc'.2.2)
    have ne : Nonempty (Ov wr) := ⟨⟨_, Below.refl _ _⟩⟩
    have HC : Hid (∀ W : Ov wr, Calls Try.prog 131 #[.agg (U3 r), .agg (U3 r)] W.wd fun e w'' => e = .returned (.bool true) ∧ ∃ W' : Ov wr, w'' = W'.wd) := fun W => ov_call (eqUnit_t r W.wd)
    have hjI : (j : Int) < (ls.length : Int) := by omega
    clear h4 h4' hc hc' hr
    go_wp2
    refine region_over (by kernel_rfl) (by kernel_rfl) ?_
    repeat (go_big_quiet_step (first | (go_at_call 131; exact HC.out _)))
    refine wpQuiet_nil ?_
    rintro _ ⟨W, rfl⟩
    have HBW : Hid (Below w.heap.size w W.wd) := belowCall hbr.out W.ok hbr.out.size
    clear HC
    go_wp2
    go_roundw
    case rel => exact ⟨j + 1, by omega, by go_num, HBW.out⟩
    case measure => simp [intOf]; omega
end Go.Proofs.Ytejoopdpelcpeaa
