/- Slices of whole numbers: what it is to be read, to be owned; contracts of the laws' helpers that copy, compare, mark and look at them; no condition. -/
import Derived.Test.YtcbeaimpmjljjaaBase
import Derived.Deep.QuietTactic
import Derived.BigQuiet
import Derived.OwnWalk
namespace Go.Proofs.Ytcbeaimpmjljjaa
open Go.RowKit Go.ChangeShapes Go.WideShapes Go.ChangeAt
set_option linter.unusedVariables false
set_option linter.unusedSimpArgs false
/-- the slice v reads as the numbers zs -/
def Rd (k : IntKind) (w : World) (v : Value) (zs : List Int) : Prop :=
  ∃ a cap, v = .slice a zs.length cap ∧ zs.length ≤ cap ∧ cap ≤ maxLen ∧ (zs = [] ∨ ∃ b off, a = some ⟨b, off, none⟩ ∧ ∀ i, i < zs.length → w.cell? ⟨b, off + i, none⟩ = some (.int k (zs.getD i 0)))
/-- the slice v, among the blocks from base on, owns the numbers zs -/
def Ow (k : IntKind) (e : TypeId) (base : Nat) (w : World) (v : Value) (zs : List Int) : Prop := w.ownsRow base e 1 v zs.length (zs.map (Value.int k))
theorem Rd.grown {k : IntKind} {w w' : World} {v : Value} {zs : List Int} {row : Option Nat} (h : Rd k w v zs) (hg : w.grownBy w' row) (hne : v.ownBlock = none ∨ v.ownBlock ≠ row) : Rd k w' v zs := by
  obtain ⟨a, cap, rfl, h1, h2, h3⟩ := h
  refine ⟨a, cap, rfl, h1, h2, ?_⟩
  rcases h3 with h3 | ⟨b, off, rfl, h4⟩
  · exact .inl h3
  · refine .inr ⟨b, off, rfl, fun i hi => ?_⟩
    have hc := h4 i hi
    have hlt : b < w.heap.size := block_lt_of_cell hc
    rw [World.cell?_of_block (w := w) (hg.block b hlt (by simpa [Value.ownBlock] using hne))]
    exact hc
theorem Rd.below {k : IntKind} {w w' : World} {v : Value} {zs : List Int} (h : Rd k w v zs) (hb : Below w.heap.size w w') : Rd k w' v zs :=
  h.grown (row := none) ⟨hb.os, hb.tape, hb.output, hb.size, fun j hj _ => hb.block j hj⟩ (by cases v.ownBlock <;> simp)
theorem Ow.below {k : IntKind} {e : TypeId} {base : Nat} {w w' : World} {v : Value} {zs : List Int} (h : Ow k e base w v zs) (hb : Below w.heap.size w w') : Ow k e base w' v zs :=
  World.ownsRow.kept (row := none) h ⟨hb.os, hb.tape, hb.output, hb.size, fun j hj _ => hb.block j hj⟩ (by cases v.ownBlock <;> simp)
theorem Ow.rd {k : IntKind} {e : TypeId} {base : Nat} {w : World} {v : Value} {zs : List Int} (h : Ow k e base w v zs) : Rd k w v zs := by
  rcases h.2 with ⟨rfl, hn⟩ | ⟨g, cap, cur, rfl, hb, hg, hnc, hcm, hcs, ht⟩
  · exact ⟨none, 0, by rw [hn], by omega, by simp, .inl (List.eq_nil_of_length_eq_zero hn)⟩
  · refine ⟨_, cap, rfl, hnc, hcm, .inr ⟨g, 0, rfl, fun i hi => ?_⟩⟩
    have := World.ownsRow.cellAt h i (by omega)
    rw [Nat.zero_add, this]
    simp [List.getElem?_eq_getElem hi]
theorem Ow.mono {k : IntKind} {e : TypeId} {base base' : Nat} {w : World} {v : Value} {zs : List Int} (h : Ow k e base w v zs) (hb : base' ≤ base) : Ow k e base' w v zs := by
  refine ⟨h.1, ?_⟩
  rcases h.2 with h2 | ⟨g, cap, cur, hv, hg, r⟩
  · exact .inl h2
  · exact .inr ⟨g, cap, cur, hv, by omega, r⟩
/-- the block of one is not the block of the other -/
theorem own_ne {k k' : IntKind} {e e' : TypeId} {base base' : Nat} {w w' : World} {v v' : Value} {zs zs' : List Int} (h : Ow k e base w v zs) (h' : Ow k' e' base' w' v' zs') (hb : w.heap.size ≤ base') :
    v.ownBlock = none ∨ v.ownBlock ≠ v'.ownBlock := by
  cases hv : v.ownBlock with
  | none => exact .inl rfl
  | some j =>
    refine .inr fun e => ?_
    have h1 := World.ownsRow.lt h j hv
    have h2 := World.ownsRow.lt h' j e.symm
    omega
theorem own_ne' {k k' : IntKind} {e e' : TypeId} {base base' : Nat} {w w' : World} {v v' : Value} {zs zs' : List Int} (h : Ow k e base w v zs) (h' : Ow k' e' base' w' v' zs') (hb : w.heap.size ≤ base') :
    v'.ownBlock = none ∨ v'.ownBlock ≠ v.ownBlock := by
  rcases own_ne h h' hb with h1 | h1
  · cases hv : v'.ownBlock with
    | none => exact .inl rfl
    | some j => rw [h1]; exact .inr (by simp)
  · exact .inr (Ne.symm h1)
theorem grown_below {B : Nat} {w w' : World} {row : Option Nat} (hg : w.grownBy w' row) (hB : B ≤ w.heap.size) (hr : ∀ k, row = some k → B ≤ k) : Below B w w' := (Below.refl B w).grown hg hB hr
theorem grown_refl (w : World) (row : Option Nat) : w.grownBy w row := ⟨rfl, rfl, rfl, Nat.le_refl _, fun _ _ _ => rfl⟩
theorem grown_trans {a b c : World} {row : Option Nat} (h : a.grownBy b row) (h' : b.grownBy c row) : a.grownBy c row :=
  ⟨h'.os.trans h.os, h'.tape.trans h.tape, h'.output.trans h.output, Nat.le_trans h.size h'.size, fun k hk hne => (h'.block k (Nat.lt_of_lt_of_le hk h.size) hne).trans (h.block k hk hne)⟩
/-- the first j of zs, noughts behind -/
def mix (zs : List Int) (j : Nat) : List Int := zs.take j ++ List.replicate (zs.length - j) 0
theorem mix_len (zs : List Int) (j : Nat) (h : j ≤ zs.length) : (mix zs j).length = zs.length := by simp [mix]; omega
theorem mix_full (zs : List Int) : mix zs zs.length = zs := by simp [mix]
theorem mix_set (k : IntKind) (zs : List Int) (j : Nat) (h : j < zs.length) : ((mix zs j).map (Value.int k)).set j (.int k (zs.getD j 0)) = (mix zs (j + 1)).map (Value.int k) := by
  have e : List.replicate (zs.length - j) (0 : Int) = 0 :: List.replicate (zs.length - (j + 1)) 0 := by
    rw [show zs.length - j = (zs.length - (j + 1)) + 1 by omega, List.replicate_succ]
  have t : zs.take (j + 1) = zs.take j ++ [zs.getD j 0] := by
    rw [List.take_succ_eq_append_getElem h]; simp [List.getElem?_eq_getElem h]
  have hm : min j zs.length = j := by omega
  rw [← List.map_set, mix, mix, e, t]
  simp [List.set_append, hm]
/-- numbers that agree at each place are the same -/
theorem ext_getD {a b : List Int} (hl : a.length = b.length) (h : ∀ j, j < a.length → a.getD j 0 = b.getD j 0) : a = b := by
  apply List.ext_getElem hl
  intro i h1 h2
  have := h i h1
  simpa [List.getElem?_eq_getElem h1, List.getElem?_eq_getElem h2] using this
theorem wrap_u8 (x : Int) : IntKind.wrap .u8 x = x % 256 := by simp [IntKind.wrap, IntKind.signed, IntKind.bits]
theorem wrap_i64 {x : Int} (h : -9223372036854775808 ≤ x ∧ x ≤ 9223372036854775807) : IntKind.wrap .i64 x = x := by simp [IntKind.wrap, IntKind.signed, IntKind.bits]; omega
/-- the marks that the laws lay: n of them from q on -/
def marks (k : IntKind) (q : Int) (n : Nat) : List Int := (List.range n).map fun i : Nat => k.wrap (q + (i : Int))
theorem marks_len (k : IntKind) (q : Int) (n : Nat) : (marks k q n).length = n := by simp [marks]
theorem marks_at (k : IntKind) (q : Int) (n i : Nat) (h : i < n) : (marks k q n).getD i 0 = k.wrap (q + i) := by simp [marks, List.getElem?_map, List.getElem?_range h]
/-- the first j places marked, the rest as it was -/
def mk (k : IntKind) (q : Int) (zs : List Int) (j : Nat) : List Int := marks k q j ++ zs.drop j
theorem mk_len (k : IntKind) (q : Int) (zs : List Int) (j : Nat) (h : j ≤ zs.length) : (mk k q zs j).length = zs.length := by simp [mk, marks_len]; omega
theorem mk_set (k : IntKind) (q : Int) (zs : List Int) (j : Nat) (h : j < zs.length) : ((mk k q zs j).map (Value.int k)).set j (.int k (k.wrap (q + j))) = (mk k q zs (j + 1)).map (Value.int k) := by
  rw [← List.map_set]
  congr 1
  have e : zs.drop j = zs[j] :: zs.drop (j + 1) := List.drop_eq_getElem_cons h
  have m : marks k q (j + 1) = marks k q j ++ [k.wrap (q + j)] := by simp [marks, List.range_succ]
  rw [mk, mk, e, m, List.set_append]
  simp only [marks_len, Nat.lt_irrefl, if_false, Nat.sub_self, List.set_cons_zero, List.append_assoc, List.cons_append, List.nil_append]

theorem toBInfo : (Try.prog.info? 5).map (fun i => (i.zero, i.size, i.bytes)) = some (some (.int .u8 0), 1, 1) := by kernel_rfl
theorem toIInfo : (Try.prog.info? 3).map (fun i => (i.zero, i.size, i.bytes)) = some (some (.int .i64 0), 1, 8) := by kernel_rfl
set_option maxHeartbeats 800000 in
theorem eqI (v v' : Value) (xs ys : List Int) (w : World) (h : Rd .i64 w v xs) (h' : Rd .i64 w v' ys) :
   Calls Try.prog 40 #[v, v'] w fun e w' => e = .returned (.bool (decide (xs = ys))) ∧ Below w.heap.size w w' := by
  obtain ⟨a, cap, rfl, h1, h2, h3⟩ := h
  obtain ⟨a', cap', rfl, h1', h2', h3'⟩ := h'
  unfold maxLen at h2 h2'
  by_cases hne : xs.length = ys.length
  · have hneb : ((xs.length : Int) != (ys.length : Int)) = false := by simp [hne]
    go_enter Try.func40, Try.ntmps40
    go_wp2
    go_loopw [5] (fun i wr => ∃ j : Nat, j ≤ xs.length ∧ i = .int .i64 j ∧ Hid (∀ t, t < j → xs.getD t 0 = ys.getD t 0) ∧ Below w.heap.size w wr) (fun i _ => xs.length - (intOf i).toNat)
    case atStart => exact ⟨0, Nat.zero_le _, rfl, fun t ht => by omega, Below.refl _ _⟩
    case round =>
      obtain ⟨j, hj, rfl, hall, hbr⟩ := hrel
      by_cases hlt : j < xs.length
      · rcases h3 with h3 | ⟨b, off, rfl, h4⟩
        · subst h3; simp at hlt
        rcases h3' with h3' | ⟨b', off', rfl, h4'⟩
        · subst h3'; simp at hne; subst hne; simp at hlt
        have hc : wr.cell? ⟨b, off + j, none⟩ = some (.int .i64 (xs.getD j 0)) := by
          have := h4 j hlt
          rw [hbr.cell (block_lt_of_cell this)]; exact this
        have hc' : wr.cell? ⟨b', off' + j, none⟩ = some (.int .i64 (ys.getD j 0)) := by
          have := h4' j (by omega)
          rw [hbr.cell (block_lt_of_cell this)]; exact this
        have hi : (0 : Int) ≤ (j : Int) := by omega
        have hi2 : (j : Int) < (xs.length : Int) := by omega
        have hi3 : (j : Int) < (ys.length : Int) := by omega
        have hjy : j < ys.length := by omega
        have HN : Hid (xs.length = ys.length) := hne
        clear h4 h4' hne
        go_wp2
        go_quiet (fail)
        go_wp2
        · have hn : (xs[j] != ys[j]) = true := by assumption
          have hab : decide (xs = ys) = false := by
            simp only [decide_eq_false_iff_not]
            intro h; subst h; simp at hn
          go_ret
          exact ⟨by rw [hab]; rfl, below_drewN hbr _⟩
        · have he : (xs[j] != ys[j]) = false := by assumption
          go_roundw
          case rel =>
            refine ⟨j + 1, by omega, by go_num, fun t ht => ?_, below_drewN hbr _⟩
            by_cases hjk : t < j
            · exact hall.out t hjk
            · obtain rfl : t = j := by omega
              simpa [List.getElem?_eq_getElem hlt, List.getElem?_eq_getElem hjy] using he
          case measure => simp [intOf]; omega
      · obtain rfl : j = xs.length := by omega
        have hab : decide (xs = ys) = true := by simp only [decide_eq_true_eq]; exact ext_getD hne hall.out
        have HN : Hid (xs.length = ys.length) := hne
        clear h3 h3' hne
        go_wp2
        go_ret
        exact ⟨by rw [hab]; rfl, hbr⟩
  · have hneb : ((xs.length : Int) != (ys.length : Int)) = true := by rw [bne_iff_ne]; omega
    have hab : decide (xs = ys) = false := by
      simp only [decide_eq_false_iff_not]
      intro h; subst h; exact hne rfl
    have HN : Hid (¬ xs.length = ys.length) := hne
    clear hne h3 h3'
    go_enter Try.func40, Try.ntmps40
    go_wp2
    go_ret
    exact ⟨by rw [hab]; rfl, Below.refl _ _⟩
theorem eqIS (v v' : Value) (xs : List Int) (w : World) (h : Rd .i64 w v xs) (h' : Rd .i64 w v' xs) :
   Calls Try.prog 40 #[v, v'] w fun e w' => e = .returned (.bool true) ∧ Below w.heap.size w w' :=
  (eqI v v' xs xs w h h').mono fun e w' he => ⟨by rw [he.1]; simp, he.2⟩

set_option maxHeartbeats 800000 in
theorem markI (v : Value) (zs : List Int) (q : Int) (base : Nat) (w : World) (h : Ow .i64 3 base w v zs) (h0 : 0 ≤ q) (hq : q + zs.length ≤ 1152921504606846976) :
   Calls Try.prog 43 #[v, .int .i64 q] w fun e w' => e = .returned (.int .i64 (q + zs.length)) ∧ Ow .i64 3 base w' v (marks .i64 q zs.length) ∧ w.grownBy w' v.ownBlock := by
  have hh := h
  rcases h.2 with ⟨rfl, hn⟩ | ⟨g, cap, cur, rfl, hb, hg, hnc, hcm, hcs, ht⟩
  · obtain rfl : zs = [] := List.eq_nil_of_length_eq_zero hn
    clear hn h
    go_enter Try.func43, Try.ntmps43
    go_wp2
    refine wp_loop_rounds 1 ?_
    rw [rounds_succ]
    go_wp2
    go_ret
    exact ⟨by simp, by simpa [marks] using hh, grown_refl _ _⟩
  · clear h hg hcs ht
    unfold maxLen at hcm
    go_enter Try.func43, Try.ntmps43
    go_wp2
    go_loopw [1, 5] (fun c i wr => ∃ j : Nat, j ≤ zs.length ∧ i = .int .i64 j ∧ c = .int .i64 (q + j) ∧ wr.ownsRow base 3 1 (.slice (some ⟨g, 0, none⟩) zs.length cap) zs.length ((mk .i64 q zs j).map (Value.int .i64)) ∧ w.grownBy wr (some g)) (fun _ i _ => zs.length - (intOf i).toNat)
    case atStart => exact ⟨0, Nat.zero_le _, rfl, by simp, by simpa [mk, marks, Ow] using hh, grown_refl _ _⟩
    case round =>
      obtain ⟨j, hj, rfl, rfl, hw, hbr⟩ := hrel
      by_cases hlt : j < zs.length
      · have hd : ∃ u, wr.cell? ⟨g, j, none⟩ = some u := by
          rw [hw.cellAt j (by omega)]
          exact ⟨_, List.getElem?_eq_getElem (by simp [mk_len .i64 q zs j hj]; exact hlt)⟩
        obtain ⟨u, hd⟩ := hd
        have hf := hw.frozenAt j
        have hs := hw.stored j (.int .i64 (IntKind.wrap .i64 (q + j)))
        rw [mk_set .i64 q zs j hlt] at hs
        have HS : Hid _ := hs
        clear hs hw hh
        go_wp2
        go_roundw
        case rel =>
          refine ⟨j + 1, by omega, by go_num, by go_num, ?_, ?_⟩
          · have := HS.out.1
            rw [wrap_i64 (by omega)] at this
            exact this
          · have := grown_trans hbr HS.out.2
            rw [wrap_i64 (by omega)] at this
            exact this
        case measure => simp [intOf]; omega
      · obtain rfl : j = zs.length := by omega
        clear hh
        go_wp2
        go_ret
        exact ⟨rfl, by simpa [mk, marks_len, Ow] using hw, hbr⟩

set_option maxHeartbeats 800000 in
theorem heldI (v : Value) (q : Int) (n : Nat) (w : World) (h : Rd .i64 w v (marks .i64 q n)) (h0 : 0 ≤ q) (hq : q + n ≤ 1152921504606846976) :
   Calls Try.prog 44 #[v, .int .i64 q] w fun e w' => e = .returned (.int .i64 (q + n)) ∧ Below w.heap.size w w' := by
  obtain ⟨a, cap, rfl, h1, h2, h3⟩ := h
  rw [marks_len] at h1 h3
  rw [marks_len]
  unfold maxLen at h2
  go_enter Try.func44, Try.ntmps44
  go_wp2
  go_loopw [1, 5] (fun c i wr => ∃ j : Nat, j ≤ n ∧ i = .int .i64 j ∧ c = .int .i64 (q + j) ∧ Below w.heap.size w wr) (fun _ i _ => n - (intOf i).toNat)
  case atStart => exact ⟨0, Nat.zero_le _, rfl, by simp, Below.refl _ _⟩
  case round =>
    obtain ⟨j, hj, rfl, rfl, hbr⟩ := hrel
    by_cases hlt : j < n
    · rcases h3 with h3 | ⟨b, off, rfl, h4⟩
      · have := congrArg List.length h3; rw [marks_len] at this; simp at this; omega
      have hc : wr.cell? ⟨b, off + j, none⟩ = some (.int .i64 (IntKind.wrap .i64 (q + j))) := by
        have := h4 j hlt
        rw [marks_at _ _ _ _ hlt] at this
        rw [hbr.cell (block_lt_of_cell this)]; exact this
      have hi : (0 : Int) ≤ (j : Int) := by omega
      have hi2 : (j : Int) < (n : Int) := by omega
      clear h4
      go_wp2
      go_roundw
      case rel => exact ⟨j + 1, by omega, by go_num, by go_num, hbr⟩
      case measure => simp [intOf]; omega
    · obtain rfl : j = n := by omega
      clear h3
      go_wp2
      go_ret
      exact ⟨rfl, hbr⟩
end Go.Proofs.Ytcbeaimpmjljjaa
