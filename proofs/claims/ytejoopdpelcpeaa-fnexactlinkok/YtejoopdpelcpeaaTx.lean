/- Rows of texts: what they read, what is owned; the laws' helpers that copy, measure and compare them; no condition. -/
import Derived.Test.YtejoopdpelcpeaaOver
import Derived.Deep.MidRow
import Derived.Laws.RangeString
import Derived.Laws.RangeAny
namespace Go.Proofs.Ytejoopdpelcpeaa
open Go.RowKit Go.ChangeShapes Go.WideShapes Go.ChangeAt
set_option linter.unusedVariables false
set_option linter.unusedSimpArgs false
set_option maxRecDepth 8000
/-- the first j of ls, others behind -/
def fil {α : Type} (x : α) (ls : List α) (j : Nat) : List α := ls.take j ++ List.replicate (ls.length - j) x
theorem fil_len {α : Type} (x : α) (ls : List α) (j : Nat) (h : j ≤ ls.length) : (fil x ls j).length = ls.length := by simp [fil]; omega
theorem fil_full {α : Type} (x : α) (ls : List α) : fil x ls ls.length = ls := by simp [fil]
theorem fil_set {α : Type} (x : α) (ls : List α) (j : Nat) (h : j < ls.length) : (fil x ls j).set j ls[j] = fil x ls (j + 1) := by
  have e : List.replicate (ls.length - j) x = x :: List.replicate (ls.length - (j + 1)) x := by
    rw [show ls.length - j = (ls.length - (j + 1)) + 1 by omega, List.replicate_succ]
  have t : ls.take (j + 1) = ls.take j ++ [ls[j]] := by rw [List.take_succ_eq_append_getElem h]
  have hm : min j ls.length = j := by omega
  rw [fil, fil, e]
  simp [List.set_append, hm]
  rw [t, List.append_assoc]; rfl
abbrev Txs := List ByteArray
/-- the slice v reads as the texts ls -/
def Rx (w : World) (v : Value) (ls : Txs) : Prop :=
  ∃ a cap, v = .slice a ls.length cap ∧ ls.length ≤ cap ∧ cap ≤ maxLen ∧ (ls = [] ∨ ∃ b off, a = some ⟨b, off, none⟩ ∧ ∀ i (h : i < ls.length), w.cell? ⟨b, off + i, none⟩ = some (.string ls[i]))
/-- the slice v, among the blocks from base on, owns the texts ls -/
def Ox (base : Nat) (w : World) (v : Value) (ls : Txs) : Prop := w.ownsRow base 9 1 v ls.length (ls.map Value.string)
theorem Rx.below {w w' : World} {v : Value} {ls : Txs} (h : Rx w v ls) (hb : Below w.heap.size w w') : Rx w' v ls := by
  obtain ⟨a, cap, rfl, h1, h2, h3⟩ := h
  refine ⟨a, cap, rfl, h1, h2, ?_⟩
  rcases h3 with h3 | ⟨b, off, rfl, h4⟩
  · exact .inl h3
  · refine .inr ⟨b, off, rfl, fun i hi => ?_⟩
    have hc := h4 i hi
    exact (hb.cell (block_lt_of_cell hc)).trans hc
theorem Ox.below {base : Nat} {w w' : World} {v : Value} {ls : Txs} (h : Ox base w v ls) (hb : Below w.heap.size w w') : Ox base w' v ls :=
  World.ownsRow.kept (row := none) h ⟨hb.os, hb.tape, hb.output, hb.size, fun j hj _ => hb.block j hj⟩ (by cases v.ownBlock <;> simp)
theorem Ox.mono {base base' : Nat} {w : World} {v : Value} {ls : Txs} (h : Ox base w v ls) (hb : base' ≤ base) : Ox base' w v ls := by
  refine ⟨h.1, ?_⟩
  rcases h.2 with h2 | ⟨g, cap, cur, hv, hg, r⟩
  · exact .inl h2
  · exact .inr ⟨g, cap, cur, hv, by omega, r⟩
theorem Ox.rd {base : Nat} {w : World} {v : Value} {ls : Txs} (h : Ox base w v ls) : Rx w v ls := by
  rcases h.2 with ⟨rfl, hn⟩ | ⟨b, cap, cur, rfl, hb, hg, hnc, hcm, hcs, ht⟩
  · exact ⟨none, 0, by rw [hn], by omega, by simp, .inl (List.eq_nil_of_length_eq_zero hn)⟩
  · refine ⟨_, cap, rfl, hnc, hcm, .inr ⟨b, 0, rfl, fun i hi => ?_⟩⟩
    have := World.ownsRow.cellAt h i (by omega)
    rw [Nat.zero_add, this]
    simp [List.getElem?_eq_getElem hi]
def t0 : ByteArray := ⟨#[]⟩
theorem fil_setS (ls : Txs) (j : Nat) (h : j < ls.length) : ((fil t0 ls j).map Value.string).set j (.string ls[j]) = (fil t0 ls (j + 1)).map Value.string := by
  rw [← List.map_set, fil_set _ _ _ h]
theorem infoText : (Try.prog.info? 9).map (fun i => (i.zero, i.size, i.bytes)) = some (some (.string t0), 1, 16) := by kernel_rfl
set_option maxHeartbeats 1600000 in
theorem toTextS_c (v : Value) (ls : Txs) (w : World) (h : Rx w v ls) (hl : ls.length ≤ 1048576) :
   Calls Try.prog 101 #[v] w fun e w' => ∃ v', e = .returned v' ∧ Ox w.heap.size w' v' ls ∧ Below w.heap.size w w' := by
  obtain ⟨a, cap, rfl, h1, h2, h3⟩ := h
  unfold maxLen at h2
  obtain ⟨i0, hi, hz0, hz1, hz2⟩ := info_parts infoText
  go_enter Try.func101, Try.ntmps101
  go_wp2_with (at_make; refine wpList_make_full _ rfl _ _ 24 rfl w.heap.size 9 i0 (.string t0) 1 Try.underlying24 hi hz0 hz1 .i64 .i64 _ _ ls.length rfl rfl rfl rfl (by rw [hz2]; omega) (by unfold maxLen; omega) (Nat.le_refl _) ?_)
  intro w1 ho hg
  have hx : (madeCells #[Value.string t0] ls.length).toList = (fil t0 ls 0).map Value.string := by
    rw [toList_madeCells_one]; simp [fil]
  rw [hx] at ho
  have hb : Below w.heap.size w w1 := grown_below hg (Nat.le_refl _) (by simp)
  clear hx hg
  go_wp2
  go_loopw [4] (fun i wr => ∃ j : Nat, j ≤ ls.length ∧ i = .int .i64 j ∧ wr.ownsRow w.heap.size 9 1 (.slice (some ⟨w.heap.size, 0, none⟩) ls.length ls.length) ls.length ((fil t0 ls j).map Value.string) ∧ Below w.heap.size w wr) (fun i _ => ls.length - (intOf i).toNat)
  case atStart => exact ⟨0, Nat.zero_le _, rfl, ho, hb⟩
  case round =>
    obtain ⟨j, hj, rfl, hw, hbr⟩ := hrel
    clear ho hb
    by_cases hlt : j < ls.length
    · rcases h3 with h3 | ⟨b, off, rfl, h4⟩
      · subst h3; simp at hlt
      · obtain ⟨r, hr⟩ : ∃ r, ls[j] = r := ⟨_, rfl⟩
        have hc : wr.cell? ⟨b, off + j, none⟩ = some (.string r) := by
          have := h4 j hlt
          rw [hbr.cell (block_lt_of_cell this), ← hr]; exact this
        have hd : ∃ u, wr.cell? ⟨w.heap.size, j, none⟩ = some u := by
          rw [hw.cellAt j (by omega)]
          exact ⟨_, List.getElem?_eq_getElem (by simp [fil_len t0 ls j hj]; exact hlt)⟩
        obtain ⟨u, hd⟩ := hd
        have hf := hw.frozenAt j
        have hs := hw.stored j (.string r)
        rw [← hr, fil_setS ls j hlt, hr] at hs
        have HS : Hid _ := hs.1
        clear h4 hs hw hr
        go_wp2
        go_roundw
        case rel => exact ⟨j + 1, by omega, by go_num, HS.out, hbr.setCell (by dsimp only; omega) _⟩
        case measure => simp [intOf]; omega
    · obtain rfl : j = ls.length := by omega
      rw [fil_full] at hw
      clear h3
      go_wp2
      go_ret
      exact ⟨_, rfl, hw, hbr⟩
def SzSText (ls : Txs) (L : Int) (w : World) (e : Ending) (w' : World) : Prop := ∃ z : Int, e = .returned (.int .i64 z) ∧ -1 ≤ z ∧ z ≤ L ∧ (0 ≤ z → (ls.length : Int) ≤ L ∧ ∀ r ∈ ls, r.size ≤ 1048576) ∧ Below w.heap.size w w'
set_option maxHeartbeats 3200000 in
theorem szTextS_c (v : Value) (ls : Txs) (L : Int) (w : World) (h0L : 0 ≤ L) (hL1 : L ≤ 1048576) (h : Rx w v ls) (hb : ∀ r ∈ ls, r.size ≤ maxLen) : Calls Try.prog 99 #[v, .int .i64 L] w (SzSText ls L w) := by
  obtain ⟨a, cap, rfl, h1, h2, h3⟩ := h
  unfold maxLen at h2
  have HM : Hid (∀ r ∈ ls, r.size ≤ maxLen) := hb
  clear hb
  by_cases hL : L < (ls.length : Int)
  · have g : L - (ls.length : Int) < 0 := by omega
    go_enter Try.func99, Try.ntmps99
    go_wp2
    go_ret
    exact ⟨_, rfl, by omega, by omega, fun h => by omega, Below.refl _ _⟩
  have g : ¬ (L - (ls.length : Int) < 0) := by omega
  go_enter Try.func99, Try.ntmps99
  go_wp2
  go_loopw [1, 5] (fun z i wr => ∃ j : Nat, ∃ x : Int, j ≤ ls.length ∧ i = .int .i64 j ∧ z = .int .i64 x ∧ 0 ≤ x ∧ x ≤ L ∧ Hid (∀ t (ht : t < ls.length), t < j → ls[t].size ≤ 1048576) ∧ Hid (Below w.heap.size w wr)) (fun _ i _ => ls.length - (intOf i).toNat)
  case atStart => exact ⟨0, L - (ls.length : Int), Nat.zero_le _, rfl, rfl, by omega, by omega, fun t _ h => by omega, Below.refl _ _⟩
  case round =>
    obtain ⟨j, x, hj, rfl, rfl, hx0, hx1, hA, hbr⟩ := hrel
    by_cases hlt : j < ls.length
    case neg =>
      obtain rfl : j = ls.length := by omega
      have HF : Hid (∀ r ∈ ls, r.size ≤ 1048576) := fun r hr => by
        obtain ⟨i, hi, rfl⟩ := List.getElem_of_mem hr
        exact hA.out i hi hi
      clear h3
      go_wp2
      go_ret
      exact ⟨_, rfl, by omega, by omega, fun _ => ⟨by omega, HF.out⟩, hbr.out⟩
    case pos =>
    rcases h3 with h3 | ⟨b, off, rfl, h4⟩
    · subst h3; simp at hlt
    have hc := h4 j hlt
    have hcb : b < w.heap.size := block_lt_of_cell hc
    obtain ⟨r, hr⟩ : ∃ r, ls[j] = r := ⟨_, rfl⟩
    have HR : Hid (ls[j] = r) := hr
    have hm := HM.out _ (List.getElem_mem hlt)
    unfold maxLen at hm
    rw [hr] at hc hm
    have e0 := (hbr.out.cell (p := ⟨b, off + j, none⟩) hcb).trans hc
    clear h4 hc hr
    by_cases hz : x - (r.size : Int) < 0
    · go_wp2
      go_ret
      exact ⟨_, rfl, by omega, by omega, fun h => by omega, hbr.out⟩
    · have HF : Hid (∀ t (ht : t < ls.length), t < j + 1 → ls[t].size ≤ 1048576) := fun t ht h => by
        by_cases htj : t < j
        · exact hA.out t ht htj
        · obtain rfl : t = j := by omega
          rw [HR.out]; omega
      go_wp2
      go_roundw
      case rel => exact ⟨j + 1, x - (r.size : Int), by omega, by go_num, by go_num, by omega, by omega, HF.out, hbr.out⟩
      case measure => simp [intOf]; omega
set_option maxHeartbeats 3200000 in
theorem eqTextS_t (v v' : Value) (ls : Txs) (w : World) (h : Rx w v ls) (h' : Rx w v' ls) : Calls Try.prog 103 #[v, v'] w fun e w' => e = .returned (.bool true) ∧ Below w.heap.size w w' := by
  obtain ⟨a, cap, rfl, h1, h2, h3⟩ := h
  obtain ⟨a', cap', rfl, h1', h2', h3'⟩ := h'
  unfold maxLen at h2 h2'
  have hne : ((ls.length : Int) != (ls.length : Int)) = false := by simp
  go_enter Try.func103, Try.ntmps103
  go_wp2
  go_loopw [5] (fun i wr => ∃ j : Nat, j ≤ ls.length ∧ i = .int .i64 j ∧ Below w.heap.size w wr) (fun i _ => ls.length - (intOf i).toNat)
  case atStart => exact ⟨0, Nat.zero_le _, rfl, Below.refl _ _⟩
  case round =>
    obtain ⟨j, hj, rfl, hbr⟩ := hrel
    by_cases hlt : j < ls.length
    case neg =>
      obtain rfl : j = ls.length := by omega
      clear h3 h3'
      go_wp2
      go_ret
      exact ⟨rfl, hbr⟩
    case pos =>
    rcases h3 with h3 | ⟨b, off, rfl, h4⟩
    · subst h3; simp at hlt
    rcases h3' with h3' | ⟨b', off', rfl, h4'⟩
    · subst h3'; simp at hlt
    have hc := h4 j hlt
    have hc' := h4' j hlt
    obtain ⟨r, hr⟩ : ∃ r, ls[j] = r := ⟨_, rfl⟩
    rw [hr] at hc hc'
    have e0 := (hbr.cell (p := ⟨b, off + j, none⟩) (block_lt_of_cell hc)).trans hc
    have e1 := (hbr.cell (p := ⟨b', off' + j, none⟩) (block_lt_of_cell hc')).trans hc'
    have g1 : (r.toList != r.toList) = false := by simp
    have hi : (0 : Int) ≤ (j : Int) := by omega
    have hjI : (j : Int) < (ls.length : Int) := by omega
    clear h4 h4' hc hc' hr
    go_wp2
    go_quiet (fail)
    go_wp2
    go_roundw
    case rel => exact ⟨j + 1, by omega, by go_num, below_drewN hbr _⟩
    case measure => simp [intOf]; omega
end Go.Proofs.Ytejoopdpelcpeaa
