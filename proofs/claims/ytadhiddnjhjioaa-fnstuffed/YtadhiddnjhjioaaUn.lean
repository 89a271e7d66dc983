/- The plain function that Unstuff computes, and the contract of the model's; no condition. -/
import Derived.Test.YtadhiddnjhjioaaBits
namespace Go.Proofs.Ytadhiddnjhjioaa
open Go.RowKit Go.ChangeShapes Go.WideShapes Go.ChangeAt
set_option linter.unusedVariables false
set_option linter.unusedSimpArgs false
def stepU (s : Option (List Int × Int)) (b : Int) : Option (List Int × Int) :=
  match s with
  | none => none
  | some (o, n) => if n < 5 then some (o ++ [b], if b = 1 then n + 1 else 0) else if b = 1 then none else some (o, 0)
def stU (zs : List Int) (j : Nat) : Option (List Int × Int) := (zs.take j).foldl stepU (some ([], 0))
theorem stU_succ (zs : List Int) (j : Nat) (h : j < zs.length) : stU zs (j + 1) = stepU (stU zs j) (zs.getD j 0) := by
  simp only [stU]
  rw [List.take_succ_eq_append_getElem h, List.foldl_append]
  simp [List.getElem?_eq_getElem h]
theorem stU_none (zs : List Int) (j : Nat) (h : stU zs j = none) : ∀ d, j + d ≤ zs.length → stU zs (j + d) = none
  | 0, _ => h
  | d + 1, hd => by
    rw [show j + (d + 1) = (j + d) + 1 by omega, stU_succ zs (j + d) (by omega), stU_none zs j h d (by omega)]; rfl
theorem stU_bd (zs : List Int) : ∀ j, j ≤ zs.length → ∀ o n, stU zs j = some (o, n) → 0 ≤ n ∧ n ≤ 5 ∧ o.length ≤ j
  | 0, _, o, n, h => by simp [stU] at h; obtain ⟨rfl, rfl⟩ := h; simp
  | j + 1, hj, o, n, h => by
    rw [stU_succ zs j (by omega)] at h
    cases hs : stU zs j with
    | none => rw [hs] at h; simp [stepU] at h
    | some p =>
      obtain ⟨o', n'⟩ := p
      have ih := stU_bd zs j (by omega) o' n' hs
      rw [hs] at h
      simp only [stepU] at h
      split at h
      · simp at h; obtain ⟨rfl, rfl⟩ := h
        refine ⟨by split <;> omega, by split <;> omega, by simp; omega⟩
      · split at h
        · cases h
        · simp at h; obtain ⟨rfl, rfl⟩ := h; omega
def unIn (zs : List Int) : Bool := areB zs && decide (zs.length ≤ 4000)
def unRes (zs : List Int) : Option (List Int) :=
  if unIn zs then (match stU zs zs.length with
    | some (o, n) => if n = 5 then none else some o
    | none => none) else none
def unOk (zs : List Int) : Bool := (unRes zs).isSome
def unL (zs : List Int) : List Int := (unRes zs).getD []
theorem un_in {zs : List Int} (h : unIn zs = false) : unOk zs = false ∧ unL zs = [] := by simp [unOk, unL, unRes, h]
theorem un_none {zs : List Int} (j : Nat) (hj : j ≤ zs.length) (h : stU zs j = none) : unOk zs = false ∧ unL zs = [] := by
  have := stU_none zs j h (zs.length - j) (by omega)
  rw [show j + (zs.length - j) = zs.length by omega] at this
  simp [unOk, unL, unRes, this]
theorem un_five {zs : List Int} {o : List Int} (h : stU zs zs.length = some (o, 5)) : unOk zs = false ∧ unL zs = [] := by simp [unOk, unL, unRes, h]
theorem un_good {zs : List Int} (hi : unIn zs = true) {o : List Int} {n : Int} (hn : n ≠ 5) (h : stU zs zs.length = some (o, n)) : unOk zs = true ∧ unL zs = o := by simp [unOk, unL, unRes, h, hi, hn]
theorem stepU_0 (o : List Int) (n : Int) (h : n < 5) : stepU (some (o, n)) 0 = some (o ++ [0], 0) := by simp [stepU, h]
theorem stepU_1 (o : List Int) (n : Int) (h : n < 5) : stepU (some (o, n)) 1 = some (o ++ [1], n + 1) := by simp [stepU, h]
theorem stepU_50 (o : List Int) : stepU (some (o, 5)) 0 = some (o, 0) := by simp [stepU]
theorem stepU_51 (o : List Int) : stepU (some (o, 5)) 1 = none := by simp [stepU]
theorem unL_len (zs : List Int) (h : zs.length ≤ 1048576) : (unL zs).length ≤ 1099511627776 := by
  unfold unL unRes
  split
  · split
    · rename_i o n hs
      have := stU_bd zs _ (Nat.le_refl _) o n hs
      split
      · simp
      · simp; omega
    · simp
  · simp
set_option maxHeartbeats 1600000 in
theorem un_spec (v : Value) (zs : List Int) (w : World) (h : Rd .i64 w v zs) :
   Calls Try.prog 47 #[v] w fun e w' => ∃ v', e = .returned (.tuple #[v', .bool (unOk zs)]) ∧ Ow .i64 3 w.heap.size w' v' (unL zs) ∧ Below w.heap.size w w' := by
  have hh := h
  obtain ⟨a, cap, rfl, h1, h2, h3⟩ := h
  unfold maxLen at h2
  have hb0 : Below w.heap.size w (w.alloc (.cells #[] 3)) := (Below.refl _ _).alloc (Nat.le_refl _) _
  have he0 := Ow.empty .i64 3 w.heap.size w (Nat.le_refl _)
  have hdec : (areB zs && decide ((zs.length : Int) ≤ 4000)) = unIn zs := by rw [unIn]; congr 1; apply decide_eq_decide.2; omega
  go_enter Try.func47, Try.ntmps47
  go_wp2_with fail
  refine (bits_spec _ zs 4000 _ (hh.below hb0)).mono ?_
  rintro e w1 ⟨rfl, rfl⟩
  rw [hdec]
  cases hin : unIn zs with
  | false =>
    obtain ⟨hok, hL⟩ := un_in hin
    clear hdec h3 hh hin
    go_wp2
    go_ret2
    exact ⟨_, by first | rfl | (rw [hok]; rfl), by rw [hL]; exact he0, hb0⟩
  | true =>
    have hB : areB zs = true ∧ zs.length ≤ 4000 := by simpa [unIn] using hin
    obtain ⟨hB1, hB2⟩ := hB
    have hbit := (areB_iff zs).1 hB1
    have HIN : Hid (unIn zs = true) := hin
    clear hdec hin hB1 hh
    have HB : Hid (∀ t, t < zs.length → isBit (zs.getD t 0) = true) := hbit
    clear hbit
    go_wp2
    go_loopw [4, 5, 6] (fun u o i wr => ∃ (j : Nat) (ys : List Int) (on : Int), j ≤ zs.length ∧ i = .int .i64 j ∧ o = .int .i64 on ∧ Hid (stU zs j = some (ys, on)) ∧ on < 5 ∧ Ow .i64 3 w.heap.size wr u ys ∧ Below w.heap.size w wr) (fun _ _ i _ => zs.length - (intOf i).toNat)
    case atStart => exact ⟨0, [], 0, Nat.zero_le _, rfl, rfl, rfl, by omega, he0, hb0⟩
    case round =>
      obtain ⟨j, ys, on, hj, rfl, rfl, HS, hon, hw, hbr⟩ := hrel
      have hbd := stU_bd zs j hj ys on HS.out
      clear he0 hb0
      by_cases hlt : j < zs.length
      · have HSS : Hid (stU zs (j + 1) = stepU (stU zs j) (zs.getD j 0)) := stU_succ zs j hlt
        rw [HS.out] at HSS
        rcases h3 with h3 | ⟨b, off, rfl, h4⟩
        · subst h3; simp at hlt
        have HC2 : Hid (∀ (t : Nat) (w2 : World), t < zs.length → Below w.heap.size w w2 → w2.cell? ⟨b, off + t, none⟩ = some (.int .i64 (zs.getD t 0))) := by
          intro t w2 ht hb2; have := h4 t ht; rw [hb2.cell (block_lt_of_cell this)]; exact this
        have hc := HC2.out j wr hlt hbr
        clear h4
        have hi : (0 : Int) ≤ (j : Int) := by omega
        have hi2 : (j : Int) < (zs.length : Int) := by omega
        have hbz := HB.out j hlt
        have HZ := HC2.out j
        generalize hzj : zs.getD j 0 = z at hc hbz HSS HZ
        have HZ' : Hid (∀ (w2 : World), j < zs.length → Below w.heap.size w w2 → w2.cell? ⟨b, off + j, none⟩ = some (.int .i64 z)) := HZ
        clear hzj HZ
        go_wp2_with (at_builtin; refine appI rfl (.tmp 18) (.tmp 23) rfl w.heap.size _ ys rfl (hw.alloc _) wr.heap.size z rfl (by simp) (by omega) (by have := hbr.size; simp; omega) ?_)
        intro v1 w1 ho1 hb1
        have hs0 := hbr.size
        have hbr1 : Below w.heap.size w w1 := (hbr.alloc hs0 _).trans hb1
        have hc1 := HZ'.out w1 hlt hbr1
        clear hc hw hb1 hbr HZ'
        rcases bit_cases hbz with rfl | rfl
        · rw [stepU_0 _ _ hon] at HSS
          clear hbz
          go_wp2
          go_roundw
          case rel => exact ⟨j + 1, ys ++ [0], 0, by omega, by go_num, rfl, HSS, by omega, ho1, hbr1⟩
          case measure => simp [intOf]; omega
        · rw [stepU_1 _ _ hon] at HSS
          clear hbz
          by_cases h5 : on = 4
          · subst h5
            have hs1 := hbr1.size
            by_cases hend : j + 1 = zs.length
            · obtain ⟨hok, hL⟩ := un_five (o := ys ++ [1]) (zs := zs) (by rw [← hend]; exact HSS.out)
              have he : ((j : Int) + 1 == (zs.length : Int)) = true := by simp; omega
              have HE : Hid (j + 1 = zs.length) := hend
              clear hend
              go_wp2
              go_ret2
              exact ⟨_, by first | rfl | (rw [hok]; rfl), by rw [hL]; exact Ow.empty _ _ _ _ hs1, hbr1.alloc hs1 _⟩
            · have hlt2 : j + 1 < zs.length := by omega
              have he : ((j : Int) + 1 == (zs.length : Int)) = false := by simp; omega
              have hi3 : (j : Int) + 1 < (zs.length : Int) := by omega
              have ht : ((j : Int) + 1).toNat = j + 1 := by omega
              have hc3 := HC2.out (j + 1) w1 hlt2 hbr1
              have hbz2 := HB.out (j + 1) hlt2
              have HSS2 : Hid (stU zs (j + 1 + 1) = stepU (stU zs (j + 1)) (zs.getD (j + 1) 0)) := stU_succ zs (j + 1) hlt2
              rw [HSS.out] at HSS2
              generalize hzj : zs.getD (j + 1) 0 = z2 at hc3 hbz2 HSS2
              clear hzj hend
              rcases bit_cases hbz2 with rfl | rfl
              · rw [show (4 : Int) + 1 = 5 from rfl, stepU_50] at HSS2
                clear hbz2
                go_wp2
                go_roundw
                case rel => exact ⟨j + 1 + 1, ys ++ [1], 0, by omega, by go_num, rfl, HSS2, by omega, ho1, hbr1⟩
                case measure => simp [intOf]; omega
              · rw [show (4 : Int) + 1 = 5 from rfl, stepU_51] at HSS2
                obtain ⟨hok, hL⟩ := un_none (j + 1 + 1) (by omega) HSS2.out
                clear hbz2
                go_wp2
                go_ret2
                exact ⟨_, by first | rfl | (rw [hok]; rfl), by rw [hL]; exact Ow.empty _ _ _ _ hs1, hbr1.alloc hs1 _⟩
          · have h5b : (on + 1 == 5) = false := by simp; omega
            go_wp2
            go_roundw
            case rel => exact ⟨j + 1, ys ++ [1], on + 1, by omega, by go_num, rfl, HSS, by omega, ho1, hbr1⟩
            case measure => simp [intOf]; omega
      · obtain rfl : j = zs.length := by omega
        obtain ⟨hok, hL⟩ := un_good HIN.out (by omega) HS.out
        have HOK : Hid (unOk zs = true) := hok
        clear h3 HB hok
        go_wp2
        go_ret2
        exact ⟨_, by rw [HOK.out]; rfl, by rw [hL]; exact hw, hbr⟩
end Go.Proofs.Ytadhiddnjhjioaa
