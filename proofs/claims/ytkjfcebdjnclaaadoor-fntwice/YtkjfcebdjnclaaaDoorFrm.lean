/- The packets that a code makes; no condition. -/
import Derived.Test.YtkjfcebdjnclaaaDoorPtm
import Derived.Test.YtkjfcebdjnclaaaDoorOpp
import Derived.Test.YtkjfcebdjnclaaaDoorDraw
import Derived.Deep.DeepCutAuto
namespace Go.Proofs.YtkjfcebdjnclaaaDoor
open Go.RowKit Go.ChangeShapes Go.WideShapes Go.ChangeAt
set_option linter.unusedVariables false
set_option linter.unusedSimpArgs false
set_option maxRecDepth 8000

theorem pkA_set (k : Pk) (j : Nat) (x : Int) : (pkA k).setIfInBounds (2 + j) (.int .u8 x) = pkA ⟨k.t, k.s, upf k.f j x⟩ := by
  apply Array.ext'
  rw [Array.toList_setIfInBounds, show 2 + j = j + 2 by omega]
  show (pkC k).set (j + 2) _ = pkC ⟨k.t, k.s, upf k.f j x⟩
  simp only [pkC, List.set_cons_succ, frF_set]
/-- what is asked of the packets -/
def FmP (ls : List Pk) : Prop := ∀ i (h : i < ls.length), ls[i].t = 30 * (i : Int) ∧ ls[i].s = (i : Int) ∧ (0 ≤ ls[i].f 0 ∧ ls[i].f 0 ≤ 48) ∧ PkBy ls[i]
theorem FmP.app {ls : List Pk} {k : Pk} (h : FmP ls) (ht : k.t = 30 * (ls.length : Int)) (hs : k.s = (ls.length : Int)) (hf : 0 ≤ k.f 0 ∧ k.f 0 ≤ 48) (hb : PkBy k) : FmP (ls ++ [k]) := fun i hi => by
  by_cases e : i < ls.length
  · rw [List.getElem_append_left e]; exact h i e
  · have : i = ls.length := by simp at hi; omega
    subst this
    rw [List.getElem_append_right (Nat.le_refl _)]
    simp only [Nat.sub_self, List.getElem_singleton]
    exact ⟨ht, hs, hf, hb⟩
def FmR (n : Int) (w : World) (e : Ending) (w' : World) : Prop := ∃ v ls, e = .returned v ∧ Og 18 pkC 40 w.heap.size w' v ls ∧ (ls.length : Int) = n ∧ FmP ls ∧ Below w.heap.size w w'
set_option maxHeartbeats 12800000 in
theorem frames_c (v : Value) (zs : List Int) (n : Int) (w : World) (h : Rd .u8 w v zs) (hok : ∀ z ∈ zs, 0 ≤ z ∧ z ≤ 255) (hlen : zs.length ≤ 1048576) (hn0 : 0 ≤ n) (hn : n ≤ 100) : Calls Tryd.prog 24 #[v, .int .i64 n] w (FmR n w) := by
  have HR : Hid (Rd .u8 w v zs) := h
  have HK : Hid (∀ z ∈ zs, 0 ≤ z ∧ z ≤ 255) := hok
  have HLZ : Hid (zs.length ≤ 1048576) := hlen
  obtain ⟨av, cv, rfl, -⟩ := h
  obtain ⟨W0, hW0⟩ : ∃ W, w.alloc (Obj.cells #[] 40) = W := ⟨_, rfl⟩
  have HB0 : Hid (Below w.heap.size w W0) := by rw [← hW0]; exact (Below.refl _ _).alloc (Nat.le_refl _) _
  have HO0 : Hid (Og 18 pkC 40 w.heap.size W0 (.slice (some ⟨w.heap.size, 0, none⟩) 0 0) []) := by rw [← hW0]; exact World.ownsRow_lit (e := 40) (size := 18) (base := w.heap.size) w #[] 0 (Nat.le_refl _) (by simp) (by simp)
  obtain ⟨v0, hv0⟩ : ∃ v, Value.slice (some ⟨w.heap.size, 0, none⟩) 0 0 = v := ⟨_, rfl⟩
  rw [hv0] at HO0
  have HW0 : Hid (w.alloc (Obj.cells #[] 40) = W0 ∧ Value.slice (some ⟨w.heap.size, 0, none⟩) 0 0 = v0) := ⟨hW0, hv0⟩
  clear hok hlen hW0 hv0
  go_enter Tryd.func24, Tryd.ntmps24
  go_wp2
  rw [HW0.out.1, HW0.out.2]
  clear HW0
  go_loopw [5, 6] (fun v i wr => ∃ (j : Nat) (ls : List Pk), i = .int .i64 j ∧ Hid ((j : Int) ≤ n ∧ ls.length = j) ∧ Hid (FmP ls) ∧ Hid (Og 18 pkC 40 w.heap.size wr v ls) ∧ Hid (Below w.heap.size w wr)) (fun _ i _ => n.toNat - (intOf i).toNat)
  case atStart => exact ⟨0, [], rfl, ⟨by omega, rfl⟩, fun i hi => by simp at hi, HO0.out, HB0.out⟩
  case round =>
    obtain ⟨j, ls, rfl, hj, hP, hO, hB⟩ := hrel
    clear HO0 HB0
    have hjn := hj.out.1
    by_cases hlt : (j : Int) < n
    case neg =>
      have HJ : Hid ((ls.length : Int) = n) := by have := hj.out.2; show _ = _; omega
      go_wp2
      go_ret
      exact ⟨_, ls, rfl, hO.out, HJ.out, hP.out, hB.out⟩
    case pos =>
    obtain ⟨X, hX⟩ : ∃ X, wr.heap.size = X := ⟨_, rfl⟩
    obtain ⟨W1, hW1⟩ : ∃ W, wr.alloc (Obj.cells #[.int .i64 (30 * (j : Int)), .int .i64 (j : Int), .int .u8 0, .int .u8 0, .int .u8 0, .int .u8 0, .int .u8 0, .int .u8 0, .int .u8 0, .int .u8 0, .int .u8 0, .int .u8 0, .int .u8 0, .int .u8 0, .int .u8 0, .int .u8 0, .int .u8 0, .int .u8 0] 40) = W := ⟨_, rfl⟩
    have eP : (#[.int .i64 (30 * (j : Int)), .int .i64 (j : Int), .int .u8 0, .int .u8 0, .int .u8 0, .int .u8 0, .int .u8 0, .int .u8 0, .int .u8 0, .int .u8 0, .int .u8 0, .int .u8 0, .int .u8 0, .int .u8 0, .int .u8 0, .int .u8 0, .int .u8 0, .int .u8 0] : Array Value) = pkA ⟨30 * (j : Int), j, fun _ => 0⟩ := rfl
    have al : Below wr.heap.size wr W1 := by rw [← hW1]; exact (Below.refl _ _).alloc (Nat.le_refl _) _
    have HX1 : Hid (Blk W1 X (pkA ⟨30 * (j : Int), j, fun _ => 0⟩) 40) := by rw [← hW1, ← hX, ← eP]; exact Blk.new _ _ _
    have HO1 : Hid (Og 18 pkC 40 w.heap.size W1 u5 ls) := hO.out.below al
    have HB1 : Hid (Below w.heap.size w W1) := belowCall hB.out al hB.out.size
    have HXW : Hid (w.heap.size ≤ X) := by rw [← hX]; exact hB.out.size
    have HXN : Hid (u5.ownBlock = none ∨ u5.ownBlock ≠ some X) := by
      cases hv : u5.ownBlock with
      | none => exact .inl rfl
      | some m => exact .inr (fun e => by have := (hO.out.lt m hv).2; have := Option.some.inj e; omega)
    have HW1 : Hid (wr.alloc (Obj.cells #[.int .i64 (30 * (j : Int)), .int .i64 (j : Int), .int .u8 0, .int .u8 0, .int .u8 0, .int .u8 0, .int .u8 0, .int .u8 0, .int .u8 0, .int .u8 0, .int .u8 0, .int .u8 0, .int .u8 0, .int .u8 0, .int .u8 0, .int .u8 0, .int .u8 0, .int .u8 0] 40) = W1 ∧ wr.heap.size = X) := ⟨hW1, hX⟩
    have hj30 : 0 ≤ 30 * (j : Int) ∧ 30 * (j : Int) ≤ 3000 := by omega
    clear hW1 hX al eP hB hO
    go_wp2
    rw [HW1.out.1, HW1.out.2]
    clear HW1
    go_loopw [8] (fun b wx => ∃ (m : Nat) (f : Nat → Int), b = .int .i64 m ∧ Hid (1 ≤ m ∧ m ≤ 16) ∧ Hid (Blk wx X (pkA ⟨30 * (j : Int), j, f⟩) 40) ∧ Hid (∀ t, t < 16 → 0 ≤ f t ∧ f t ≤ 255) ∧ Hid (Og 18 pkC 40 w.heap.size wx u5 ls) ∧ Hid (Below w.heap.size w wx)) (fun b _ => 16 - (intOf b).toNat)
    case atStart => exact ⟨1, fun _ => 0, rfl, ⟨by omega, by omega⟩, HX1.out, fun t _ => by dsimp only; omega, HO1.out, HB1.out⟩
    case round =>
      obtain ⟨m, f, rfl, hm, hX, hF, hO, hB⟩ := hrel
      clear HX1 HO1 HB1
      have hm1 := hm.out.1
      have hm2 := hm.out.2
      by_cases hmlt : (m : Int) < 16
      case pos =>
        have hm16 : m < 16 := by omega
        have hm0 : (0 : Int) ≤ (m : Int) := by omega
        go_wp2_with (fail)
        refine (at_c _ zs _ _ (HR.out.below hB.out) HK.out (by omega) (by omega) HLZ.out).mono ?_
        rintro e wt ⟨y, rfl, y0, y1, hwt⟩
        rw [hwt]
        clear hwt wt
        have c2 : wr.cell? ⟨X, 2 + m, none⟩ = some (.int .u8 (f m)) := by
          rw [hX.out.cell (2 + m), show 2 + m = m + 2 by omega]
          show (pkC _).toArray[m + 2]? = _
          simp only [List.getElem?_toArray, pkC, List.getElem?_cons_succ]
          exact frF_at f m hm16
        have f2 := hX.out.frozen (2 + m)
        have HX2 : Hid (Blk (wr.setCell ⟨X, 2 + m, none⟩ (.int .u8 y)) X (pkA ⟨30 * (j : Int), j, upf f m y⟩) 40) := by
          have := hX.out.set (2 + m) (.int .u8 y)
          rw [pkA_set] at this; exact this
        have HO2 : Hid (Og 18 pkC 40 w.heap.size (wr.setCell ⟨X, 2 + m, none⟩ (.int .u8 y)) u5 ls) := World.ownsRow.kept hO.out (dgrown_set _ _ _ _) HXN.out
        have HB2 : Hid (Below w.heap.size w (wr.setCell ⟨X, 2 + m, none⟩ (.int .u8 y))) := hB.out.setCell (by dsimp only; exact HXW.out) _
        have HF2 : Hid (∀ t, t < 16 → 0 ≤ upf f m y t ∧ upf f m y t ≤ 255) := fun t ht => by
          unfold upf; split
          · exact ⟨y0, y1⟩
          · exact hF.out t ht
        clear hX hO hB hF
        go_wp2
        go_roundw
        case rel => exact ⟨m + 1, _, by go_num, ⟨by omega, by omega⟩, HX2.out, HF2.out, HO2.out, HB2.out⟩
        case measure => simp [intOf]; omega
      case neg =>
      have hmd : decide ((m : Int) < 16) = false := decide_eq_false hmlt
      go_wp2_with (fail)
      refine (at_c _ zs _ _ (HR.out.below hB.out) HK.out (by omega) (by omega) HLZ.out).mono ?_
      rintro e wt ⟨y, rfl, y0, y1, hwt⟩
      rw [hwt]
      clear hwt wt hmd
      obtain ⟨z, hz⟩ : ∃ z, y % 49 = z := ⟨_, rfl⟩
      have hzb : 0 ≤ z ∧ z ≤ 48 := by omega
      have c2 : wr.cell? ⟨X, 2, none⟩ = some (.int .u8 (f 0)) := hX.out.cell 2
      have f2 := hX.out.frozen 2
      have HX2 : Hid (Blk (wr.setCell ⟨X, 2, none⟩ (.int .u8 z)) X (pkA ⟨30 * (j : Int), j, upf f 0 z⟩) 40) := by
        have := hX.out.set (2 + 0) (.int .u8 z)
        rw [pkA_set] at this; exact this
      have HO2 : Hid (Og 18 pkC 40 w.heap.size (wr.setCell ⟨X, 2, none⟩ (.int .u8 z)) u5 ls) := World.ownsRow.kept hO.out (dgrown_set _ _ _ _) HXN.out
      have HB2 : Hid (Below w.heap.size w (wr.setCell ⟨X, 2, none⟩ (.int .u8 z))) := hB.out.setCell (by dsimp only; exact HXW.out) _
      obtain ⟨k, hk⟩ : ∃ k : Pk, k = ⟨30 * (j : Int), j, upf f 0 z⟩ := ⟨_, rfl⟩
      have HKP : Hid (k.t = 30 * (ls.length : Int) ∧ k.s = (ls.length : Int) ∧ (0 ≤ k.f 0 ∧ k.f 0 ≤ 48) ∧ PkBy k) := by
        have hjl := hj.out.2
        rw [hk, hjl]
        refine ⟨rfl, rfl, by simpa [upf] using hzb, fun t ht => ?_⟩
        show 0 ≤ upf f 0 z t ∧ upf f 0 z t ≤ 255
        unfold upf; split
        · omega
        · exact hF.out t ht
      obtain ⟨W2, hW2⟩ : ∃ W, wr.setCell ⟨X, 2, none⟩ (.int .u8 z) = W := ⟨_, rfl⟩
      rw [hW2, ← hk] at HX2
      rw [hW2] at HO2 HB2
      have HW2 : Hid (wr.setCell ⟨X, 2, none⟩ (.int .u8 z) = W2) := hW2
      obtain ⟨Y, hY⟩ : ∃ Y, W2.heap.size = Y := ⟨_, rfl⟩
      obtain ⟨W3, hW3⟩ : ∃ W, W2.alloc (.cells (pkA k) 40) = W := ⟨_, rfl⟩
      have al : Below W2.heap.size W2 W3 := by rw [← hW3]; exact (Below.refl _ _).alloc (Nat.le_refl _) _
      have HO3 : Hid (Og 18 pkC 40 w.heap.size W3 u5 ls) := HO2.out.below al
      have HB3 : Hid (Below w.heap.size w W3) := belowCall HB2.out al HB2.out.size
      have HY3 : Hid (Rg 18 pkC W3 (.slice (some ⟨Y, 0, none⟩) 1 1) [k]) := by rw [← hW3, ← hY]; exact (og_one (base := W2.heap.size) W2 k (Nat.le_refl _)).rd pkC_len
      have HW3 : Hid (W2.alloc (.cells (pkA k) 40) = W3 ∧ W2.heap.size = Y) := ⟨hW3, hY⟩
      clear hX hO hB hF hk hW2 hW3 hY al
      go_upto_region 11 with fail
      rw [HW2.out]
      clear HW2 c2 f2
      go_wp2_with (first | refine ldP rfl _ rfl X rfl 40 k HX2.out ?_ | (refine bsP rfl _ rfl k rfl ?_; rw [HW3.out.1, HW3.out.2]) | (at_builtin; refine appPk Tryd.underlying36 rfl _ _ rfl w.heap.size _ ls rfl HO3.out (.slice (some ⟨Y, 0, none⟩) 1 1) [k] rfl HY3.out (by have := hj.out; simp; omega) HB3.out.size ?_))
      intro v' w' ho hg
      have HON : Hid (Og 18 pkC 40 w.heap.size w' v' (ls ++ [k])) := ho
      have HBN : Hid (Below w.heap.size w w') := HB3.out.trans (grown_below hg HB3.out.size (fun m e => (HO3.out.lt m e).1))
      have HPN : Hid (FmP (ls ++ [k])) := hP.out.app HKP.out.1 HKP.out.2.1 HKP.out.2.2.1 HKP.out.2.2.2
      have HJN : Hid (((j + 1 : Nat) : Int) ≤ n ∧ (ls ++ [k]).length = j + 1) := by have := hj.out; refine ⟨by omega, ?_⟩; rw [List.length_append]; simp only [List.length_singleton]; omega
      clear ho hg HO3 HB3 HY3 HW3 HX2
      go_wp2
      go_roundw
      case rel => exact ⟨j + 1, _, by go_num, HJN.out, HPN.out, HON.out, HBN.out⟩
      case measure => simp [intOf]; omega

end Go.Proofs.YtkjfcebdjnclaaaDoor
