/- The contract of the laws' helper that copies a slice of arrays of sixteen bytes; no condition but that it is not too long. -/
import Derived.Test.YtadhiddnjhjioaaMkA
namespace Go.Proofs.Ytadhiddnjhjioaa
open Go.RowKit Go.ChangeShapes Go.WideShapes Go.ChangeAt
set_option linter.unusedVariables false
set_option linter.unusedSimpArgs false
def setAll (xs : List Value) : Nat → List Value → List Value
  | _, [] => xs
  | o, v :: r => setAll (xs.set o v) (o + 1) r
theorem setAll_mid : ∀ (vs A B C : List Value), B.length = vs.length → setAll (A ++ B ++ C) A.length vs = A ++ vs ++ C
  | [], A, B, C, h => by
    have : B = [] := List.eq_nil_of_length_eq_zero (by simpa using h)
    subst this; simp [setAll]
  | v :: r, A, b :: B, C, h => by
    rw [setAll]
    have e : (A ++ b :: B ++ C).set A.length v = (A ++ [v]) ++ B ++ C := by simp [List.set_append]
    rw [e, show A.length + 1 = (A ++ [v]).length by simp, setAll_mid r (A ++ [v]) B C (by simpa using h)]
    simp
  | v :: r, A, [], C, h => by simp at h
theorem own_setCells {base : Nat} {e : TypeId} {size g n cap : Nat} : ∀ (vs : List Value) (o : Nat) (w : World) (xs : List Value), w.ownsRow base e size (.slice (some ⟨g, 0, none⟩) n cap) n xs →
    (w.setCells g o vs).ownsRow base e size (.slice (some ⟨g, 0, none⟩) n cap) n (setAll xs o vs)
  | [], _, _, _, h => h
  | v :: r, o, w, xs, h => own_setCells r (o + 1) _ _ (h.stored o v).1
theorem below_setCells {B g : Nat} (hg : B ≤ g) {a : World} : ∀ (vs : List Value) (o : Nat) (w : World), Below B a w → Below B a (w.setCells g o vs)
  | [], _, w, h => h
  | v :: r, o, w, h => below_setCells hg r (o + 1) _ (h.setCell (by exact hg) _)
theorem mix_ch {zs : List Int} {n : Nat} (hl : zs.length = n * 16) (j : Nat) (hj : j < n) :
    setAll ((mix zs (j * 16)).map (Value.int .u8)) (j * 16) ((ch zs j).map (Value.int .u8)) = (mix zs ((j + 1) * 16)).map (Value.int .u8) := by
  have hA : ((zs.take (j * 16)).map (Value.int .u8)).length = j * 16 := by simp; omega
  have e1 : (mix zs (j * 16)).map (Value.int .u8) = (zs.take (j * 16)).map (Value.int .u8) ++ List.replicate 16 (Value.int .u8 0) ++ List.replicate (zs.length - (j + 1) * 16) (Value.int .u8 0) := by
    rw [mix, show zs.length - j * 16 = 16 + (zs.length - (j + 1) * 16) by omega, ← List.replicate_append_replicate]
    simp only [List.map_append, List.map_replicate, List.append_assoc]
  have e2 : (mix zs ((j + 1) * 16)).map (Value.int .u8) = (zs.take (j * 16)).map (Value.int .u8) ++ (ch zs j).map (Value.int .u8) ++ List.replicate (zs.length - (j + 1) * 16) (Value.int .u8 0) := by
    rw [mix, show (j + 1) * 16 = j * 16 + 16 by omega, List.take_add, ch]
    simp only [List.map_append, List.map_replicate, List.append_assoc]
  have h := setAll_mid ((ch zs j).map (Value.int .u8)) ((zs.take (j * 16)).map (Value.int .u8)) (List.replicate 16 (Value.int .u8 0)) (List.replicate (zs.length - (j + 1) * 16) (Value.int .u8 0)) (by simp [ch]; omega)
  rw [hA] at h
  rw [e1, e2]; exact h
theorem made16 (n : Nat) : (madeCells (Value.agg (A16 (List.replicate 16 0))).cells (n * 16)).toList = List.replicate (n * 16) (Value.int .u8 0) := by
  have hc : (Value.agg (A16 (List.replicate 16 0))).cells = A16 (List.replicate 16 0) := rfl
  have hs : (A16 (List.replicate 16 0)).size = 16 := rfl
  have B : B16 (List.replicate 16 0) := ⟨rfl, by intro z hz; simp at hz; omega⟩
  rw [hc, madeCells, hs]
  apply List.ext_getElem
  · simp
  · intro i h1 h2
    have hm : i % 16 < 16 := Nat.mod_lt _ (by decide)
    have h3 := A16_at B (i % 16) hm
    simp only [Array.toList_map, List.getElem_map, List.getElem_replicate]
    have h40 : ∀ N k : Nat, k < N → (List.replicate N (0 : Int)).getD k 0 = 0 := by intro N k hk; simp [List.getElem?_replicate, hk]
    have h4 := h40 16 (i % 16) hm
    rw [h4] at h3
    have h5 : (A16 (List.replicate 16 0))[i % 16]! = .int .u8 0 := by
      rw [getElem!_def, h3]
    simpa using h5
theorem infoA : (Try.prog.info? 29).map (fun i => (i.zero, i.size, i.bytes)) = some (some (.agg (A16 (List.replicate 16 0))), 16, 16) := by kernel_rfl
set_option maxHeartbeats 1600000 in
theorem toA (v : Value) (n : Nat) (zs : List Int) (w : World) (h : RdA w v n zs) (hn : n ≤ 1048576) :
   Calls Try.prog 38 #[v] w fun e w' => ∃ v', e = .returned v' ∧ OwA w.heap.size w' v' n zs ∧ Below w.heap.size w w' := by
  obtain ⟨a, cap, rfl, h1, h2, hl, hbx, h3⟩ := h
  unfold maxLen at h2
  obtain ⟨i0, hi, hz0, hz1, hz2⟩ := info_parts infoA
  have HB : Hid (bytesOk zs) := hbx
  go_enter Try.func38, Try.ntmps38
  go_wp2_with (at_make; refine wpList_make_full _ rfl _ _ 25 rfl w.heap.size 29 i0 (.agg (A16 (List.replicate 16 0))) 16 Try.underlying25 hi hz0 hz1 .i64 .i64 _ _ n rfl rfl rfl rfl (by rw [hz2]; omega) (by unfold maxLen; omega) (Nat.le_refl _) ?_)
  intro w1 ho hg
  have hx : w1.ownsRow w.heap.size 29 16 (.slice (some ⟨w.heap.size, 0, none⟩) n n) n ((mix zs (0 * 16)).map (Value.int .u8)) := by
    have e : (mix zs (0 * 16)).map (Value.int .u8) = List.replicate (n * 16) (Value.int .u8 0) := by simp [mix, hl]
    rw [e, ← made16 n]; exact ho
  have hb : Below w.heap.size w w1 := grown_below hg (Nat.le_refl _) (by simp)
  clear hg ho
  go_wp2
  go_loopw [4] (fun i wr => ∃ j : Nat, j ≤ n ∧ i = .int .i64 j ∧ wr.ownsRow w.heap.size 29 16 (.slice (some ⟨w.heap.size, 0, none⟩) n n) n ((mix zs (j * 16)).map (Value.int .u8)) ∧ Below w.heap.size w wr) (fun i _ => n - (intOf i).toNat)
  case atStart => exact ⟨0, Nat.zero_le _, rfl, hx, hb⟩
  case round =>
    obtain ⟨j, hj, rfl, hw, hbr⟩ := hrel
    clear hx hb
    by_cases hlt : j < n
    · rcases h3 with h3 | ⟨b, off, rfl, h4⟩
      · omega
      have hX := ch_B hl hbx j hlt
      have hr : wr.rangeAt b (off + j * 16) ((ch zs j).map (Value.int .u8)) := range_ch hl (fun i hi => by have := h4 i hi; rw [hbr.cell (block_lt_of_cell this)]; exact this) j hlt _ rfl
      have HRG : Hid _ := hr
      have HMX : Hid _ := mix_ch hl j hlt
      have hi1 : (0 : Int) ≤ (j : Int) := by omega
      have hi2 : (j : Int) < (n : Int) := by omega
      clear h4 hr
      have hxl : ((ch zs j).map (Value.int .u8)).length = 16 := by simp [hX.1]
      go_wp2_with (refine wpList_load_mid rfl 29 (.tmp 18) rfl b (off + j * 16) rfl ((ch zs j).map (Value.int .u8)) _ HRG.out Try.underlying29 rfl (by rw [hxl]; exact size29) ?_)
      refine (to16 (ch zs j) hX _).mono ?_
      rintro e w2 ⟨rfl, b2⟩
      have hw2 : w2.ownsRow w.heap.size 29 16 (.slice (some ⟨w.heap.size, 0, none⟩) n n) n ((mix zs (j * 16)).map (Value.int .u8)) := World.ownsRow.kept (row := none) hw ⟨b2.os, b2.tape, b2.output, b2.size, fun i hi _ => b2.block i hi⟩ (by simp [Value.ownBlock])
      have c2 := belowCall hbr b2 hbr.size
      have hth : w2.there w.heap.size (j * 16) (A16 (ch zs j)).size := by
        rw [A16_size hX]
        intro i hi
        refine ⟨?_, hw2.frozenAt _⟩
        rw [hw2.cellAt (j * 16 + i) (by omega), List.getElem?_eq_getElem (by simp [mix_len zs (j * 16) (by omega)]; omega)]; rfl
      have hset := own_setCells ((ch zs j).map (Value.int .u8)) (j * 16) w2 _ hw2
      rw [HMX.out] at hset
      have c3 := below_setCells (g := w.heap.size) (Nat.le_refl _) ((ch zs j).map (Value.int .u8)) (j * 16) w2 c2
      clear hw hbr HRG HMX hw2 c2 b2
      go_wp2_with (refine wpList_store_mid rfl 29 (.tmp 21) (.tmp 20) rfl w.heap.size (j * 16) (A16 (ch zs j)) rfl rfl hth (by rw [A16_size hX]; exact size29) (by simp [A16, Value.oneCell']) ?_)
      go_roundw
      case rel => exact ⟨j + 1, by omega, by go_num, hset, c3⟩
      case measure => simp [intOf]; omega
    · obtain rfl : j = n := by omega
      rw [← hl, mix_full] at hw
      clear h3
      go_wp2
      go_ret
      exact ⟨_, rfl, ⟨hw, HB.out⟩, hbr⟩
end Go.Proofs.Ytadhiddnjhjioaa
