/- Rows of settings: what they read, what is owned; the laws' helpers that copy, measure and compare them; no condition. -/
import Derived.Test.YtlknakijdpeaoaaOver
import Derived.Test.YtlknakijdpeaoaaSl
import Derived.Deep.MidRow
import Derived.Laws.RangeString
import Derived.Laws.RangeAny
namespace Go.Proofs.Ytlknakijdpeaoaa
open Go.RowKit Go.ChangeShapes Go.WideShapes Go.ChangeAt
set_option linter.unusedVariables false
set_option linter.unusedSimpArgs false
set_option maxRecDepth 8000
/-- the first j of ls, others behind -/
def fil {α : Type} (x : α) (ls : List α) (j : Nat) : List α := ls.take j ++ List.replicate (ls.length - j) x
theorem fil_len {α : Type} (x : α) (ls : List α) (j : Nat) (h : j ≤ ls.length) : (fil x ls j).length = ls.length := by simp [fil]; omega
theorem fil_full {α : Type} (x : α) (ls : List α) : fil x ls ls.length = ls := by simp [fil]
theorem fil_set {α : Type} (x : α) (ls : List α) (j : Nat) (h : j < ls.length) : (fil x ls j).set j ls[j] = fil x ls (j + 1) := by
  have e : List.replicate (ls.length - j) x = x :: List.replicate (ls.length - (j + 1)) x := by
    rw [show ls.length - j = (ls.length - (j + 1)) + 1 by omega, List.replicate_succ]
  have t : ls.take (j + 1) = ls.take j ++ [ls[j]] := by rw [List.take_succ_eq_append_getElem h]
  have hm : min j ls.length = j := by omega
  rw [fil, fil, e]
  simp [List.set_append, hm]
  rw [t, List.append_assoc]; rfl
/-- an element: Setting -/
structure Se where
  nm : ByteArray
  vl : ByteArray
abbrev S2 (r : Se) : Array Value := #[.string r.nm, .string r.vl]
/-- the cells of such ones -/
def st2 : List Se → List Value
  | [] => []
  | o :: r => .string o.nm :: .string o.vl :: st2 r
theorem st2_len : ∀ l : List Se, (st2 l).length = l.length * 2
  | [] => rfl
  | o :: r => by simp [st2, st2_len r]; omega
theorem st2_at : ∀ (l : List Se) (i : Nat) (h : i < l.length), (st2 l)[i * 2]? = some (.string l[i].nm) ∧ (st2 l)[i * 2 + 1]? = some (.string l[i].vl)
  | o :: r, 0, _ => by simp [st2]
  | o :: r, i + 1, h => by
    have := st2_at r i (by simpa using h)
    rw [show (i + 1) * 2 = i * 2 + 2 by omega]
    simpa [st2] using this
theorem st2_set : ∀ (l : List Se) (i : Nat) (x : Se), i < l.length → ((st2 l).set (i * 2) (.string x.nm)).set (i * 2 + 1) (.string x.vl) = st2 (l.set i x)
  | y :: r, 0, x, _ => by simp [st2]
  | y :: r, i + 1, x, h => by
    have := st2_set r i x (by simpa using h)
    rw [show (i + 1) * 2 = i * 2 + 2 by omega]
    simpa [st2] using this
theorem st2_app : ∀ (l m : List Se), st2 (l ++ m) = st2 l ++ st2 m
  | [], m => rfl
  | o :: r, m => by simp [st2, st2_app r m]
theorem st2_replicate (x : Se) : ∀ n : Nat, (madeCells (S2 x) (n * 2)).toList = st2 (List.replicate n x) := by
  intro n
  apply List.ext_getElem?
  intro i
  have hd : i = i / 2 * 2 ∨ i = i / 2 * 2 + 1 := by omega
  by_cases hi : i < n * 2
  · have hq : i / 2 < (List.replicate n x).length := by simp; omega
    have h1 := st2_at (List.replicate n x) (i / 2) hq
    rcases hd with hd | hd
    · have hm : i % 2 = 0 := by omega
      rw [← hd] at h1
      rw [h1.1]
      simp [madeCells, List.getElem?_range hi, hm]
    · have hm : i % 2 = 1 := by omega
      rw [← hd] at h1
      rw [h1.2]
      simp [madeCells, List.getElem?_range hi, hm]
  · rw [List.getElem?_eq_none (by simp [madeCells]; omega), List.getElem?_eq_none (by simp [st2_len]; omega)]
abbrev Ses := List Se
/-- the slice v reads as ls -/
def Rs (w : World) (v : Value) (ls : Ses) : Prop :=
  ∃ a cap, v = .slice a ls.length cap ∧ ls.length ≤ cap ∧ cap ≤ maxLen ∧ (ls = [] ∨ ∃ b off, a = some ⟨b, off, none⟩ ∧ ∀ i (h : i < ls.length), w.cell? ⟨b, off + i * 2, none⟩ = some (.string ls[i].nm) ∧ w.cell? ⟨b, off + i * 2 + 1, none⟩ = some (.string ls[i].vl))
/-- the slice v, among the blocks from base on, owns ls -/
def Ot (e : TypeId) (base : Nat) (w : World) (v : Value) (ls : Ses) : Prop := w.ownsRow base e 2 v ls.length (st2 ls)
theorem Rs.below {w w' : World} {v : Value} {ls : Ses} (h : Rs w v ls) (hb : Below w.heap.size w w') : Rs w' v ls := by
  obtain ⟨a, cap, rfl, h1, h2, h3⟩ := h
  refine ⟨a, cap, rfl, h1, h2, ?_⟩
  rcases h3 with h3 | ⟨b, off, rfl, h4⟩
  · exact .inl h3
  · refine .inr ⟨b, off, rfl, fun i hi => ?_⟩
    have hc := h4 i hi
    have hlt : b < w.heap.size := block_lt_of_cell hc.1
    exact ⟨(hb.cell hlt).trans hc.1, (hb.cell hlt).trans hc.2⟩
theorem Ot.below {e : TypeId} {base : Nat} {w w' : World} {v : Value} {ls : Ses} (h : Ot e base w v ls) (hb : Below w.heap.size w w') : Ot e base w' v ls :=
  World.ownsRow.kept (row := none) h ⟨hb.os, hb.tape, hb.output, hb.size, fun j hj _ => hb.block j hj⟩ (by cases v.ownBlock <;> simp)
theorem Ot.mono {e : TypeId} {base base' : Nat} {w : World} {v : Value} {ls : Ses} (h : Ot e base w v ls) (hb : base' ≤ base) : Ot e base' w v ls := by
  refine ⟨h.1, ?_⟩
  rcases h.2 with h2 | ⟨g, cap, cur, hv, hg, r⟩
  · exact .inl h2
  · exact .inr ⟨g, cap, cur, hv, by omega, r⟩
theorem Ot.rd {e : TypeId} {base : Nat} {w : World} {v : Value} {ls : Ses} (h : Ot e base w v ls) : Rs w v ls := by
  rcases h.2 with ⟨rfl, hn⟩ | ⟨b, cap, cur, rfl, hb, hg, hnc, hcm, hcs, ht⟩
  · exact ⟨none, 0, by rw [hn], by omega, by simp, .inl (List.eq_nil_of_length_eq_zero hn)⟩
  · refine ⟨_, cap, rfl, hnc, hcm, .inr ⟨b, 0, rfl, fun i hi => ?_⟩⟩
    have h0 := World.ownsRow.cellAt h (i * 2) (by omega)
    have h1 := World.ownsRow.cellAt h (i * 2 + 1) (by omega)
    have hp := st2_at ls i hi
    rw [Nat.zero_add, h0, h1]; exact hp
theorem own_setS {e : TypeId} {base b cap : Nat} {w : World} {ls : Ses} (h : Ot e base w (.slice (some ⟨b, 0, none⟩) ls.length cap) ls) (j : Nat) (hj : j < ls.length) (x : Se) :
    Ot e base ((w.setCell ⟨b, j * 2, none⟩ (.string x.nm)).setCell ⟨b, j * 2 + 1, none⟩ (.string x.vl)) (.slice (some ⟨b, 0, none⟩) ls.length cap) (ls.set j x) := by
  have h1 := (World.ownsRow.stored h (j * 2) (.string x.nm)).1
  have h2 := (World.ownsRow.stored h1 (j * 2 + 1) (.string x.vl)).1
  rw [st2_set ls j x hj] at h2
  rw [Ot, List.length_set]; exact h2
def s0 : Se := ⟨⟨#[]⟩, ⟨#[]⟩⟩
instance : Inhabited Se := ⟨s0⟩
theorem size55 : (Try.prog.info? 55).map (·.size) = some 2 := by kernel_rfl
theorem infoSetting : (Try.prog.info? 55).map (fun i => (i.zero, i.size, i.bytes)) = some (some (.agg (S2 s0)), 2, 32) := by kernel_rfl
set_option maxHeartbeats 1600000 in
theorem toSetting_c (r : Se) (w : World) : Calls Try.prog 34 #[.agg (S2 r)] w fun e w' => e = .returned (.agg (S2 r)) ∧ Below w.heap.size w w' := by
  go_enter Try.func34, Try.ntmps34
  go_wp2
  have h1 : ((((w.alloc (Obj.cells (S2 r) 54)).alloc (Obj.cells (S2 r) 55)).alloc (Obj.cells (S2 r) 55))).heap[w.heap.size + 1]? = some (.cells (S2 r) 55 (0, 0)) :=
    ((Blk.newAt _ (w.heap.size + 1) _ 55 (by simp)).alloc _ : Blk _ _ _ _)
  exact bodyPost_ret (v := .agg (S2 r)) (results_cell_row rfl _ _ _ 55 _ (0, 0) _ rfl h1 Try.underlying55 rfl size55) rfl ⟨rfl, (((Below.refl _ _).alloc (Nat.le_refl _) _).alloc (by simp) _).alloc (by simp; omega) _⟩
set_option maxHeartbeats 3200000 in
theorem toSettingS_c (v : Value) (ls : Ses) (w : World) (h : Rs w v ls) (hn : ls.length ≤ 1048576) :
   Calls Try.prog 17 #[v] w fun e w' => ∃ v', e = .returned v' ∧ Ot 55 w.heap.size w' v' ls ∧ Below w.heap.size w w' := by
  obtain ⟨a, cap, rfl, h1, h2, h3⟩ := h
  unfold maxLen at h2
  obtain ⟨i0, hi, hz0, hz1, hz2⟩ := info_parts infoSetting
  go_enter Try.func17, Try.ntmps17
  go_wp2_with (at_make; refine wpList_make_full _ rfl _ _ 30 rfl w.heap.size 55 i0 (.agg (S2 s0)) 2 Try.underlying30 hi hz0 hz1 .i64 .i64 _ _ ls.length rfl rfl rfl rfl (by rw [hz2]; omega) (by unfold maxLen; omega) (Nat.le_refl _) ?_)
  intro w1 ho hg
  have hx : w1.ownsRow w.heap.size 55 2 (.slice (some ⟨w.heap.size, 0, none⟩) ls.length ls.length) ls.length (st2 (fil s0 ls 0)) := by
    have e : st2 (fil s0 ls 0) = (madeCells (S2 s0) (ls.length * 2)).toList := by rw [st2_replicate s0 ls.length]; simp [fil]
    rw [e]; exact ho
  have hb : Below w.heap.size w w1 := grown_below hg (Nat.le_refl _) (by simp)
  clear hg ho
  go_wp2
  go_loopw [4] (fun i wr => ∃ j : Nat, j ≤ ls.length ∧ i = .int .i64 j ∧ wr.ownsRow w.heap.size 55 2 (.slice (some ⟨w.heap.size, 0, none⟩) ls.length ls.length) ls.length (st2 (fil s0 ls j)) ∧ Below w.heap.size w wr) (fun i _ => ls.length - (intOf i).toNat)
  case atStart => exact ⟨0, Nat.zero_le _, rfl, hx, hb⟩
  case round =>
    obtain ⟨j, hj, rfl, hw, hbr⟩ := hrel
    clear hx hb
    by_cases hlt : j < ls.length
    · rcases h3 with h3 | ⟨b, off, rfl, h4⟩
      · subst h3; simp at hlt
      have hc := h4 j hlt
      have hcb : b < w.heap.size := block_lt_of_cell hc.1
      obtain ⟨r, hr⟩ : ∃ r, ls[j] = r := ⟨_, rfl⟩
      have HR : Hid (ls[j] = r) := hr
      rw [hr] at hc
      have e0 := (hbr.cell (p := ⟨b, off + j * 2, none⟩) hcb).trans hc.1
      have e1 := (hbr.cell (p := ⟨b, off + j * 2 + 1, none⟩) hcb).trans hc.2
      clear h4 hc hr
      go_wp2_with (fail)
      refine (toSetting_c r _).mono ?_
      rintro e w2 ⟨rfl, b2⟩
      have hw2 : w2.ownsRow w.heap.size 55 2 (.slice (some ⟨w.heap.size, 0, none⟩) ls.length ls.length) ls.length (st2 (fil s0 ls j)) := World.ownsRow.kept (row := none) hw ⟨b2.os, b2.tape, b2.output, b2.size, fun k hk _ => b2.block k hk⟩ (by simp [Value.ownBlock])
      have c2 := belowCall hbr b2 hbr.size
      have hfl := fil_len s0 ls j hj
      have hO : Ot 55 w.heap.size w2 (.slice (some ⟨w.heap.size, 0, none⟩) (fil s0 ls j).length ls.length) (fil s0 ls j) := by rw [Ot, hfl]; exact hw2
      have hp := st2_at (fil s0 ls j) j (by omega)
      obtain ⟨y0, hd0⟩ : ∃ u, w2.cell? ⟨w.heap.size, j * 2, none⟩ = some u := ⟨_, (hw2.cellAt (j * 2) (by omega)).trans hp.1⟩
      obtain ⟨y1, hd1⟩ : ∃ u, w2.cell? ⟨w.heap.size, j * 2 + 1, none⟩ = some u := ⟨_, (hw2.cellAt (j * 2 + 1) (by omega)).trans hp.2⟩
      have hf0 := hw2.frozenAt (j * 2)
      have hf1 := hw2.frozenAt (j * 2 + 1)
      have hS := own_setS hO j (by omega) ls[j]
      rw [fil_set, Ot, hfl, fil_len _ _ _ (by omega), HR.out] at hS
      have c3 : Below w.heap.size w ((w2.setCell ⟨w.heap.size, j * 2, none⟩ (.string r.nm)).setCell ⟨w.heap.size, j * 2 + 1, none⟩ (.string r.vl)) := ((c2.setCell (by simp) _).setCell (by simp) _)
      have HS : Hid _ := hS
      have HC : Hid _ := c3
      clear hw hbr hw2 c2 b2 hO hS c3 hp hfl
      go_wp2
      go_roundw
      case rel => exact ⟨j + 1, by omega, by go_num, HS.out, HC.out⟩
      case measure => simp [intOf]; omega
    · obtain rfl : j = ls.length := by omega
      rw [fil_full] at hw
      clear h3
      go_wp2
      go_ret
      exact ⟨_, rfl, hw, hbr⟩
/-- a size taken off what is left -/
def SzSetting (r : Se) (left : Int) (w : World) (e : Ending) (w' : World) : Prop := ∃ z : Int, e = .returned (.int .i64 z) ∧ -1 ≤ z ∧ z ≤ left ∧ (0 ≤ z → (r.nm.size : Int) ≤ left ∧ (r.vl.size : Int) ≤ left) ∧ Below w.heap.size w w'
set_option maxHeartbeats 1600000 in
theorem szSetting_c (r : Se) (left : Int) (w : World) (h0 : 0 ≤ left) (hl : left ≤ 1048576) (hs0 : r.nm.size ≤ maxLen) (hs1 : r.vl.size ≤ maxLen) : Calls Try.prog 32 #[.agg (S2 r), .int .i64 left] w (SzSetting r left w) := by
  unfold maxLen at hs0 hs1
  have HB : Hid (Below w.heap.size w (w.alloc (Obj.cells (S2 r) 54))) := (Below.refl _ _).alloc (Nat.le_refl _) _
  obtain ⟨nm, vl⟩ := r
  dsimp only at hs0 hs1 HB ⊢
  by_cases h1 : left - (nm.size : Int) < 0
  · go_enter Try.func32, Try.ntmps32
    go_wp2
    go_ret
    exact ⟨_, rfl, by omega, by omega, fun h => by omega, HB.out⟩
  · by_cases h2 : left - (nm.size : Int) - (vl.size : Int) < 0
    · go_enter Try.func32, Try.ntmps32
      go_wp2
      go_ret
      exact ⟨_, rfl, by omega, by omega, fun h => by omega, HB.out⟩
    · go_enter Try.func32, Try.ntmps32
      go_wp2
      go_ret
      exact ⟨_, rfl, by omega, by omega, fun h => by dsimp only; omega, HB.out⟩
def SzSSetting (ls : Ses) (L : Int) (w : World) (e : Ending) (w' : World) : Prop := ∃ z : Int, e = .returned (.int .i64 z) ∧ -1 ≤ z ∧ z ≤ L ∧ (0 ≤ z → (ls.length : Int) ≤ L ∧ ∀ r ∈ ls, r.nm.size ≤ 1048576 ∧ r.vl.size ≤ 1048576) ∧ Below w.heap.size w w'
set_option maxHeartbeats 3200000 in
theorem szSettingS_c (v : Value) (ls : Ses) (L : Int) (w : World) (h0L : 0 ≤ L) (hL1 : L ≤ 1048576) (h : Rs w v ls) (hb : ∀ r ∈ ls, r.nm.size ≤ maxLen ∧ r.vl.size ≤ maxLen) : Calls Try.prog 15 #[v, .int .i64 L] w (SzSSetting ls L w) := by
  obtain ⟨a, cap, rfl, h1, h2, h3⟩ := h
  unfold maxLen at h2
  have HM : Hid (∀ r ∈ ls, r.nm.size ≤ maxLen ∧ r.vl.size ≤ maxLen) := hb
  clear hb
  by_cases hL : L < (ls.length : Int)
  · have g : L - (ls.length : Int) < 0 := by omega
    go_enter Try.func15, Try.ntmps15
    go_wp2
    go_ret
    exact ⟨_, rfl, by omega, by omega, fun h => by omega, Below.refl _ _⟩
  have g : ¬ (L - (ls.length : Int) < 0) := by omega
  go_enter Try.func15, Try.ntmps15
  go_wp2
  go_loopw [1, 5] (fun z i wr => ∃ j : Nat, ∃ x : Int, j ≤ ls.length ∧ i = .int .i64 j ∧ z = .int .i64 x ∧ 0 ≤ x ∧ x ≤ L ∧ Hid (∀ t (ht : t < ls.length), t < j → ls[t].nm.size ≤ 1048576 ∧ ls[t].vl.size ≤ 1048576) ∧ Hid (Below w.heap.size w wr)) (fun _ i _ => ls.length - (intOf i).toNat)
  case atStart => exact ⟨0, L - (ls.length : Int), Nat.zero_le _, rfl, rfl, by omega, by omega, fun t _ h => by omega, Below.refl _ _⟩
  case round =>
    obtain ⟨j, x, hj, rfl, rfl, hx0, hx1, hA, hbr⟩ := hrel
    by_cases hlt : j < ls.length
    case neg =>
      obtain rfl : j = ls.length := by omega
      have HF : Hid (∀ r ∈ ls, r.nm.size ≤ 1048576 ∧ r.vl.size ≤ 1048576) := fun r hr => by
        obtain ⟨i, hi, rfl⟩ := List.getElem_of_mem hr
        exact hA.out i hi hi
      clear h3
      go_wp2
      go_ret
      exact ⟨_, rfl, by omega, by omega, fun _ => ⟨by omega, HF.out⟩, hbr.out⟩
    case pos =>
    rcases h3 with h3 | ⟨b, off, rfl, h4⟩
    · subst h3; simp at hlt
    have hc := h4 j hlt
    have hcb : b < w.heap.size := block_lt_of_cell hc.1
    obtain ⟨r, hr⟩ : ∃ r, ls[j] = r := ⟨_, rfl⟩
    have HR : Hid (ls[j] = r) := hr
    have hm := HM.out _ (List.getElem_mem hlt)
    rw [hr] at hc hm
    have e0 := (hbr.out.cell (p := ⟨b, off + j * 2, none⟩) hcb).trans hc.1
    have e1 := (hbr.out.cell (p := ⟨b, off + j * 2 + 1, none⟩) hcb).trans hc.2
    clear h4 hc hr
    go_wp2_with (fail)
    refine (szSetting_c r x wr hx0 (by omega) hm.1 hm.2).mono ?_
    rintro e w2 ⟨z, rfl, z0, z1, z2, b2⟩
    have HB2 : Hid (Below w.heap.size w w2) := belowCall hbr.out b2 hbr.out.size
    clear b2
    by_cases hz : z < 0
    · clear z2 hm
      go_wp2
      go_ret
      exact ⟨_, rfl, by omega, by omega, fun h => by omega, HB2.out⟩
    · have HF : Hid (∀ t (ht : t < ls.length), t < j + 1 → ls[t].nm.size ≤ 1048576 ∧ ls[t].vl.size ≤ 1048576) := fun t ht h => by
        by_cases htj : t < j
        · exact hA.out t ht htj
        · obtain rfl : t = j := by omega
          have := z2 (by omega)
          rw [HR.out]; omega
      clear z2 hm
      go_wp2
      go_roundw
      case rel => exact ⟨j + 1, z, by omega, by go_num, rfl, by omega, by omega, HF.out, HB2.out⟩
      case measure => simp [intOf]; omega
set_option maxHeartbeats 1600000 in
theorem eqSetting_t (r : Se) (w : World) : Calls Try.prog 36 #[.agg (S2 r), .agg (S2 r)] w fun e w' => e = .returned (.bool true) ∧ Below w.heap.size w w' := by
  have HB : Hid (Below w.heap.size w ((w.alloc (Obj.cells (S2 r) 55)).alloc (Obj.cells (S2 r) 55))) := ((Below.refl _ _).alloc (Nat.le_refl _) _).alloc (by simp) _
  obtain ⟨nm, vl⟩ := r
  have g0 : (nm.toList != nm.toList) = false := by simp
  have g1 : (vl.toList != vl.toList) = false := by simp
  go_enter Try.func36, Try.ntmps36
  go_wp2
  go_ret
  exact ⟨rfl, HB.out⟩
set_option maxHeartbeats 3200000 in
theorem eqSettingS_t (v v' : Value) (ls : Ses) (w : World) (h : Rs w v ls) (h' : Rs w v' ls) : Calls Try.prog 19 #[v, v'] w fun e w' => e = .returned (.bool true) ∧ Below w.heap.size w w' := by
  obtain ⟨a, cap, rfl, h1, h2, h3⟩ := h
  obtain ⟨a', cap', rfl, h1', h2', h3'⟩ := h'
  unfold maxLen at h2 h2'
  have hne : ((ls.length : Int) != (ls.length : Int)) = false := by simp
  go_enter Try.func19, Try.ntmps19
  go_wp2
  go_loopw [5] (fun i wr => ∃ j : Nat, j ≤ ls.length ∧ i = .int .i64 j ∧ Hid (Below w.heap.size w wr)) (fun i _ => ls.length - (intOf i).toNat)
  case atStart => exact ⟨0, Nat.zero_le _, rfl, Below.refl _ _⟩
  case round =>
    obtain ⟨j, hj, rfl, hbr⟩ := hrel
    by_cases hlt : j < ls.length
    case neg =>
      obtain rfl : j = ls.length := by omega
      clear h3 h3'
      go_wp2
      go_ret
      exact ⟨rfl, hbr.out⟩
    case pos =>
    rcases h3 with h3 | ⟨b, off, rfl, h4⟩
    · subst h3; simp at hlt
    rcases h3' with h3' | ⟨b', off', rfl, h4'⟩
    · subst h3'; simp at hlt
    have hc := h4 j hlt
    have hc' := h4' j hlt
    obtain ⟨r, hr⟩ : ∃ r, ls[j] = r := ⟨_, rfl⟩
    rw [hr] at hc hc'
    have hcb : b < w.heap.size := block_lt_of_cell hc.1
    have hcb' : b' < w.heap.size := block_lt_of_cell hc'.1
    have y0 : ∀ W : Ov wr, W.wd.cell? ⟨b, off + j * 2, none⟩ = some (.string r.nm) := ov_cell ((hbr.out.cell (p := ⟨b, off + j * 2, none⟩) hcb).trans hc.1)
    have x0 : ∀ W : Ov wr, W.wd.cell? ⟨b', off' + j * 2, none⟩ = some (.string r.nm) := ov_cell ((hbr.out.cell (p := ⟨b', off' + j * 2, none⟩) hcb').trans hc'.1)
    have y1 : ∀ W : Ov wr, W.wd.cell? ⟨b, off + j * 2 + 1, none⟩ = some (.string r.vl) := ov_cell ((hbr.out.cell (p := ⟨b, off + j * 2 + 1, none⟩) hcb).trans hc.2)
    have x1 : ∀ W : Ov wr, W.wd.cell? ⟨b', off' + j * 2 + 1, none⟩ = some (.string r.vl) := ov_cell ((hbr.out.cell (p := ⟨b', off' + j * 2 + 1, none⟩) hcb').trans hc'.2)
    have ne : Nonempty (Ov wr) := ⟨⟨_, Below.refl _ _⟩⟩
    have HC : Hid (∀ W : Ov wr, Calls Try.prog 36 #[.agg (S2 r), .agg (S2 r)] W.wd fun e w'' => e = .returned (.bool true) ∧ ∃ W' : Ov wr, w'' = W'.wd) := fun W => ov_call (eqSetting_t r W.wd)
    have hjI : (j : Int) < (ls.length : Int) := by omega
    clear h4 h4' hc hc' hr
    go_wp2
    refine region_over (by kernel_rfl) (by kernel_rfl) ?_
    repeat (go_big_quiet_step (first | (go_at_call 36; exact HC.out _)))
    refine wpQuiet_nil ?_
    rintro _ ⟨W, rfl⟩
    have HBW : Hid (Below w.heap.size w W.wd) := belowCall hbr.out W.ok hbr.out.size
    clear HC
    go_wp2
    go_roundw
    case rel => exact ⟨j + 1, by omega, by go_num, HBW.out⟩
    case measure => simp [intOf]; omega

end Go.Proofs.Ytlknakijdpeaoaa
