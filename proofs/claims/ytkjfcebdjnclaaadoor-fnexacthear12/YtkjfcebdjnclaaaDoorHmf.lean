/- A hearing as a function, as the model walks it; no condition. -/
import Derived.Test.YtkjfcebdjnclaaaDoorHrm
import Derived.Test.YtkjfcebdjnclaaaDoorPym
import Derived.Test.YtkjfcebdjnclaaaDoorDet
import Derived.Test.YtkjfcebdjnclaaaDoorOver
import Derived.Deep.DeepCutAuto
namespace Go.Proofs.YtkjfcebdjnclaaaDoor
open Go.RowKit Go.ChangeShapes Go.WideShapes Go.ChangeAt
set_option linter.unusedVariables false
set_option linter.unusedSimpArgs false
set_option maxRecDepth 8000

theorem cm_no {h : HSt} {k : Pk} (hP : ¬ PuP h.p k h.st) : cmF h k = none := if_neg hP
theorem cm_wait {h : HSt} {k : Pk} (hP : PuP h.p k h.st) (hR : ¬ (h.b = true ∨ RdP (puF h.p k h.st).1 (puF h.p k h.st).2)) : cmF h k = some ⟨(puF h.p k h.st).1, (puF h.p k h.st).2, h.lv, false⟩ := by unfold cmF; rw [if_pos hP, if_neg hR]
theorem cm_play {h : HSt} {k : Pk} (hP : PuP h.p k h.st) (hR : h.b = true ∨ RdP (puF h.p k h.st).1 (puF h.p k h.st).2) : cmF h k = poF ⟨(puF h.p k h.st).1, (puF h.p k h.st).2, h.lv, true⟩ := by unfold cmF; rw [if_pos hP, if_pos hR]
/-- the steps of a hearing, one behind the other -/
noncomputable def seN (ls : List Pk) (h : HSt) : Nat → Option HSt
  | 0 => some h
  | j + 1 => (seN ls h j).bind fun x => if j < ls.length then cmF x (kAt ls j) else poF x
theorem seN_cm (ls : List Pk) (h : HSt) : ∀ j, j ≤ ls.length → seN ls h j = cmN ls h j
  | 0, _ => rfl
  | j + 1, hj => by
    rw [seN, cmN, seN_cm ls h j (by omega)]
    simp only [show j < ls.length by omega, if_true]
theorem seN_all (ls : List Pk) (h : HSt) : ∀ m, seN ls h (ls.length + m) = (cmN ls h ls.length).bind fun x => poN x m
  | 0 => by rw [Nat.add_zero, seN_cm ls h _ (Nat.le_refl _)]; cases cmN ls h ls.length <;> rfl
  | m + 1 => by
    rw [← Nat.add_assoc, seN, seN_all ls h m]
    simp only [show ¬ (ls.length + m < ls.length) by omega, if_false]
    cases cmN ls h ls.length <;> rfl
theorem seN_none {ls : List Pk} {h : HSt} {j : Nat} (e : seN ls h j = none) : ∀ i, j ≤ i → seN ls h i = none := by
  intro i hi
  induction i with
  | zero => have : j = 0 := by omega
            subst this; exact e
  | succ i ih =>
    by_cases c : j = i + 1
    · subst c; exact e
    · rw [seN, ih (by omega)]; rfl
theorem hrF_se {ls : List Pk} {dp n : Int} (h : HrP ls dp n) : hrF ls dp n = seN ls (h0F ls dp) (ls.length + n.toNat) := by
  unfold hrF
  rw [if_pos h, seN_all]
theorem playM_x (h : HSt) (v : Value) (W : World) (hR : Rg 18 pkC W v h.st) (m : Nat) (hb : HsB h m) (hm : m ≤ 1000) : Calls Tryd.prog 30 #[.agg (plA h.p v)] W fun e W' => ∃ q s o, PmR q s o (poF h).isSome W e W' ∧ o.length ≤ 30 ∧ ∀ x, poF h = some x → x = ⟨q, s, h.lv ++ o, h.b⟩ := by
  refine (playM_c h.p v h.st W hR (by have := hb.st; omega) hb.by').mono ?_
  rintro e w' ⟨h1, h2⟩
  by_cases hP : PyP h.p h.st
  · have e1 : poF h = some ⟨pyF h.p h.st, h.st.drop (pcF h.st (h.p.n + 1)), h.lv ++ (lvF h.st h.p.n h.p.x).1, h.b⟩ := if_pos hP
    rw [e1]
    exact ⟨_, _, _, h1 hP, by rw [lvF_len]; exact Nat.le_refl _, fun x e => by cases e; rfl⟩
  · have e1 : poF h = none := if_neg hP
    rw [e1]
    exact ⟨_, _, _, h2 hP, by simp, fun x e => by cases e⟩
/-- what the model's Hear12 tells -/
def HmR (o : Option HSt) (w : World) (e : Ending) (w' : World) : Prop := Below w.heap.size w w' ∧
  (o = none → ∃ u, e = .returned (.tuple #[u, .agg (plA ⟨0, 0, 0, 0, 0⟩ (.slice none 0 0)), .bool false]) ∧ Rd .i64 w' u []) ∧ (∀ h, o = some h → ∃ u v, e = .returned (.tuple #[u, .agg (plA h.p v), .bool true]) ∧ Rd .i64 w' u h.lv ∧ Rg 18 pkC w' v h.st)
theorem rd_nil (k : IntKind) (W : World) (a : Option Addr) : Rd k W (.slice a 0 0) [] := ⟨a, 0, rfl, Nat.le_refl _, Nat.zero_le _, .inl rfl⟩

end Go.Proofs.YtkjfcebdjnclaaaDoor
namespace Go.Proofs.YtkjfcebdjnclaaaDoor
open Go.RowKit Go.ChangeShapes Go.WideShapes Go.ChangeAt
set_option linter.unusedVariables false
set_option linter.unusedSimpArgs false
set_option maxRecDepth 8000
structure Rhm (Wd : World) (p0 : Pl) (p1 : Pl) (a : Option Addr) (m : Nat) (c : Nat) (k : Pk) (sq9 : List Pk) (b0 : Nat) (of0 : Nat) (N : Nat) (cl : Nat) (j : Nat) (ok : Bool) (d : Nat → Bool) (W : World) (v0 v1 v2 v3 v4 v5 v6 v7 v8 v9 v10 v11 : Value) (a0 : Option Addr) (c0 : Nat) (X : Nat) : Prop where
  bel : Below Wd.heap.size Wd W
  f0 : d 0 = true → v0 = .agg (plA p0 (.slice a m c))
  f1 : d 1 = true → v1 = .slice (some ⟨b0, of0, none⟩) N cl
  f2 : d 2 = true → v2 = .int .i64 (j : Int)
  f3 : d 3 = true → v3 = .pointer (some ⟨b0, of0 + j * 18, none⟩)
  f4 : d 4 = true → v4 = .agg (pkA k)
  f5 : d 5 = true → v5 = .tuple #[.agg (plA p1 (.slice a0 sq9.length c0)), .bool ok]
  f6 : d 6 = true → v6 = .tuple #[.agg (plA p1 (.slice a0 sq9.length c0)), .bool ok]
  f7 : d 7 = true → v7 = .agg (plA p1 (.slice a0 sq9.length c0))
  f8 : d 8 = true → v8 = .bool ok
  f9 : d 9 = true → v9 = .pointer (some ⟨X, 0, none⟩)
  f11 : d 11 = true → v11 = .bool ok
  o5 : d 5 = true → Og 18 pkC 40 Wd.heap.size W (.slice a0 sq9.length c0) sq9
  k9 : d 9 = true → d 10 = false → Blk W X (plA ⟨0, 0, 0, 0, 0⟩ (.slice none 0 0)) 42
  x9 : d 9 = true → Wd.heap.size ≤ X
  k10 : d 10 = true → Blk W X (plA p1 (.slice a0 sq9.length c0)) 42
  g6_5 : d 6 = true → d 5 = true
  g7_5 : d 7 = true → d 5 = true
  g10_5 : d 10 = true → d 5 = true
  g10_9 : d 10 = true → d 9 = true
def RhmS (Wd : World) (p0 : Pl) (p1 : Pl) (a : Option Addr) (m : Nat) (c : Nat) (k : Pk) (sq9 : List Pk) (b0 : Nat) (of0 : Nat) (N : Nat) (cl : Nat) (j : Nat) (ok : Bool) (d : Nat → Bool) (q : List Value) (W : World) : Prop := ∃ v0 v1 v2 v3 v4 v5 v6 v7 v8 v9 v10 v11 a0 c0 X, q = [v0, v1, v2, v3, v4, v5, v6, v7, v8, v9, v10, v11] ∧ Rhm Wd p0 p1 a m c k sq9 b0 of0 N cl j ok d W v0 v1 v2 v3 v4 v5 v6 v7 v8 v9 v10 v11 a0 c0 X
theorem Rhm.below {Wd : World} {p0 : Pl} {p1 : Pl} {a : Option Addr} {m : Nat} {c : Nat} {k : Pk} {sq9 : List Pk} {b0 : Nat} {of0 : Nat} {N : Nat} {cl : Nat} {j : Nat} {ok : Bool} {d : Nat → Bool} {W W' : World} {v0 v1 v2 v3 v4 v5 v6 v7 v8 v9 v10 v11 : Value} {a0 : Option Addr} {c0 : Nat} {X : Nat} (h : Rhm Wd p0 p1 a m c k sq9 b0 of0 N cl j ok d W v0 v1 v2 v3 v4 v5 v6 v7 v8 v9 v10 v11 a0 c0 X) (hb : Below W.heap.size W W') : Rhm Wd p0 p1 a m c k sq9 b0 of0 N cl j ok d W' v0 v1 v2 v3 v4 v5 v6 v7 v8 v9 v10 v11 a0 c0 X :=
  { h with
    bel := belowCall h.bel hb h.bel.size
    o5 := fun e0 => (h.o5 e0).below hb
    k9 := fun e0 e1 => (h.k9 e0 e1).below hb (h.k9 e0 e1).lt
    k10 := fun e0 => (h.k10 e0).below hb (h.k10 e0).lt
  }
structure Rhe (Wd : World) (R : Nat) (GP : Nat) (p : Pl) (ax : Option Addr) (sq9 : List Pk) (cx : Nat) (au : Option Addr) (zs9 : List Int) (cu : Nat) (B0 : Nat) (d : Nat → Bool) (W : World) (v0 v1 v2 v3 v4 : Value)  : Prop where
  bel : Below R Wd W
  g : Blk W GP (plA p (.slice ax sq9.length cx)) 42
  f0 : d 0 = true → v0 = .slice au zs9.length cu
  f1 : d 1 = true → v1 = .agg (plA p (.slice ax sq9.length cx))
  f2 : d 2 = true → v2 = .slice au zs9.length cu
  f4 : d 4 = true → v4 = .bool true
  kz : d 3 = false → Blk W R (plA ⟨0, 0, 0, 0, 0⟩ (.slice none 0 0)) 42
  k3 : d 3 = true → Blk W R (plA p (.slice ax sq9.length cx)) 42
  rg : Rg 18 pkC W (.slice ax sq9.length cx) sq9
  ow : Ow .i64 3 B0 W (.slice au zs9.length cu) zs9
def RheS (Wd : World) (R : Nat) (GP : Nat) (p : Pl) (ax : Option Addr) (sq9 : List Pk) (cx : Nat) (au : Option Addr) (zs9 : List Int) (cu : Nat) (B0 : Nat) (d : Nat → Bool) (q : List Value) (W : World) : Prop := ∃ v0 v1 v2 v3 v4 , q = [v0, v1, v2, v3, v4] ∧ Rhe Wd R GP p ax sq9 cx au zs9 cu B0 d W v0 v1 v2 v3 v4 

set_option maxHeartbeats 12800000 in
theorem hearM_c (v : Value) (ls : List Pk) (dp n : Int) (w : World) (h : Rg 18 pkC w v ls) (hb : ∀ k ∈ ls, PkBy k) : Calls Tryd.prog 49 #[v, .int .i64 dp, .int .i64 n] w (HmR (hrF ls dp n) w) := by
  have HR : Hid (Rg 18 pkC w v ls) := h
  have HPB : Hid (∀ k ∈ ls, PkBy k) := hb
  obtain ⟨a, c, rfl, h1, h2, h3⟩ := h
  unfold maxLen at h2
  have H3 : Hid (ls = [] ∨ ∃ b off, a = some ⟨b, off, none⟩ ∧ ∀ i (h : i < ls.length), w.rangeAt b (off + i * 18) (pkC ls[i])) := h3
  obtain ⟨R, hR⟩ : ∃ R, w.heap.size = R := ⟨_, rfl⟩
  obtain ⟨N0, hN0⟩ : ∃ N, R + 1 = N := ⟨_, rfl⟩
  obtain ⟨W0, hW0⟩ : ∃ W, (w.alloc (.cells (plA ⟨0, 0, 0, 0, 0⟩ (.slice none 0 0)) 42)).alloc (.cells #[] 3) = W := ⟨_, rfl⟩
  have HB0 : Hid (Below w.heap.size w W0) := by rw [← hW0]; exact ((Below.refl _ _).alloc (Nat.le_refl _) _).alloc (by simp) _
  have HZ0 : Hid (Blk W0 R (plA ⟨0, 0, 0, 0, 0⟩ (.slice none 0 0)) 42) := by rw [← hW0, ← hR]; exact (Blk.new _ _ _).alloc _
  have HW0 : Hid ((w.alloc (.cells (plA ⟨0, 0, 0, 0, 0⟩ (.slice none 0 0)) 42)).alloc (.cells #[] 3) = W0 ∧ w.heap.size = R ∧ R + 1 = N0) := ⟨hW0, hR, hN0⟩
  clear hb h3 hW0 hR hN0
  go_enter Tryd.func49, Tryd.ntmps49
  go_wp2_with (fail)
  rw [HW0.out.1, HW0.out.2.1, HW0.out.2.2]
  refine (pksM_c _ ls W0 (HR.out.below HB0.out)).mono ?_
  rintro e w1 ⟨r1, rfl, hr1, b1⟩
  have HB1 : Hid (Below w.heap.size w w1) := belowCall HB0.out b1 HB0.out.size
  have HZ1 : Hid (Blk w1 R (plA ⟨0, 0, 0, 0, 0⟩ (.slice none 0 0)) 42) := HZ0.out.below b1 HZ0.out.lt
  have HP1 : Hid (r1 = true ↔ PksP ls) := hr1
  clear hr1 b1 HB0 HZ0
  cases r1 with
  | false =>
    have HN : Hid (hrF ls dp n = none) := by
      unfold hrF; exact if_neg (fun hq => by have := HP1.out.2 hq.1; cases this)
    go_wp2_with (refine wpList_store_row rfl 42 _ _ rfl R (plA ⟨0, 0, 0, 0, 0⟩ (.slice none 0 0)) rfl rfl 42 (plA ⟨0, 0, 0, 0, 0⟩ (.slice none 0 0)) HZ1.out (by kernel_rfl) rfl (by simp [Value.oneCell']) ?_)
    exact bodyPost_ret (v := .tuple #[.slice (some ⟨N0, 0, none⟩) 0 0, .agg (plA ⟨0, 0, 0, 0, 0⟩ (.slice none 0 0)), .bool false]) (results_H3 rfl _ _ R _ _ _ _ rfl rfl rfl (HZ1.out.row _)) rfl ⟨belowRow HB1.out _ (Nat.le_of_eq HW0.out.2.1) _, fun _ => ⟨_, rfl, rd_nil _ _ _⟩, fun h e => by rw [HN.out] at e; cases e⟩
  | true =>
    go_wp2_with (fail)
    refine (in_c _ _ _ _).mono ?_
    rintro e w3 ⟨rfl, hw⟩
    rw [hw]
    clear hw w3
    by_cases hd : 1 ≤ dp ∧ dp ≤ 12
    case neg =>
      have d3 : decide (1 ≤ dp ∧ dp ≤ 12) = false := decide_eq_false hd
      have HD : Hid (¬ (1 ≤ dp ∧ dp ≤ 12)) := hd
      clear hd
      have HN : Hid (hrF ls dp n = none) := by
        unfold hrF; exact if_neg (fun hq => HD.out hq.2.2.1)
      go_wp2_with (refine wpList_store_row rfl 42 _ _ rfl R (plA ⟨0, 0, 0, 0, 0⟩ (.slice none 0 0)) rfl rfl 42 (plA ⟨0, 0, 0, 0, 0⟩ (.slice none 0 0)) HZ1.out (by kernel_rfl) rfl (by simp [Value.oneCell']) ?_)
      exact bodyPost_ret (v := .tuple #[.slice (some ⟨N0, 0, none⟩) 0 0, .agg (plA ⟨0, 0, 0, 0, 0⟩ (.slice none 0 0)), .bool false]) (results_H3 rfl _ _ R _ _ _ _ rfl rfl rfl (HZ1.out.row _)) rfl ⟨belowRow HB1.out _ (Nat.le_of_eq HW0.out.2.1) _, fun _ => ⟨_, rfl, rd_nil _ _ _⟩, fun h e => by rw [HN.out] at e; cases e⟩
    have d3 : decide (1 ≤ dp ∧ dp ≤ 12) = true := decide_eq_true hd
    have HD : Hid (1 ≤ dp ∧ dp ≤ 12) := hd
    clear hd
    go_wp2_with (fail)
    refine (in_c _ _ _ _).mono ?_
    rintro e w3 ⟨rfl, hw⟩
    rw [hw]
    clear hw w3
    by_cases hd : 0 ≤ n ∧ n ≤ 60
    case neg =>
      have d4 : decide (0 ≤ n ∧ n ≤ 60) = false := decide_eq_false hd
      have HDN : Hid (¬ (0 ≤ n ∧ n ≤ 60)) := hd
      clear hd
      have HN : Hid (hrF ls dp n = none) := by
        unfold hrF; exact if_neg (fun hq => HDN.out hq.2.2.2)
      go_wp2_with (refine wpList_store_row rfl 42 _ _ rfl R (plA ⟨0, 0, 0, 0, 0⟩ (.slice none 0 0)) rfl rfl 42 (plA ⟨0, 0, 0, 0, 0⟩ (.slice none 0 0)) HZ1.out (by kernel_rfl) rfl (by simp [Value.oneCell']) ?_)
      exact bodyPost_ret (v := .tuple #[.slice (some ⟨N0, 0, none⟩) 0 0, .agg (plA ⟨0, 0, 0, 0, 0⟩ (.slice none 0 0)), .bool false]) (results_H3 rfl _ _ R _ _ _ _ rfl rfl rfl (HZ1.out.row _)) rfl ⟨belowRow HB1.out _ (Nat.le_of_eq HW0.out.2.1) _, fun _ => ⟨_, rfl, rd_nil _ _ _⟩, fun h e => by rw [HN.out] at e; cases e⟩
    have d4 : decide (0 ≤ n ∧ n ≤ 60) = true := decide_eq_true hd
    have HDN : Hid (0 ≤ n ∧ n ≤ 60) := hd
    have HPP : Hid (PksP ls) := HP1.out.1 (by first | rfl | trivial)
    have HLN : Hid (1 ≤ ls.length ∧ ls.length ≤ 60) := HPP.out.1
    have hl1 : 0 < ls.length := by have := HLN.out; omega
    obtain ⟨b, off, rfl, h4⟩ : ∃ b off, a = some ⟨b, off, none⟩ ∧ ∀ i (h : i < ls.length), w.rangeAt b (off + i * 18) (pkC ls[i]) := by
      rcases H3.out with h3 | h3
      · rw [h3] at hl1; simp at hl1
      · exact h3
    have hcb : b < w.heap.size := block_lt_of_cell (h4 0 hl1 0 _ rfl)
    have HRA : Hid (∀ W', Below w.heap.size w W' → ∀ i (h : i < ls.length), W'.rangeAt b (off + i * 18) (pkC ls[i])) := fun W' hW i h => rangeAt_below (h4 i h) hW hcb
    have HL60 := HLN.out.2
    clear HP1 h4 hd
    go_wp2
    go_loopw [10] (fun i wr => ∃ (j : Nat), i = .int .i64 j ∧ Hid (1 ≤ j ∧ j ≤ ls.length) ∧ Hid (∀ t (ht : t < ls.length), t < j → 0 < t → ls[t - 1].t ≤ ls[t].t) ∧ Hid (Below w.heap.size w wr) ∧ Hid (Blk wr R (plA ⟨0, 0, 0, 0, 0⟩ (.slice none 0 0)) 42)) (fun i _ => ls.length - (intOf i).toNat)
    case atStart => exact ⟨1, rfl, ⟨Nat.le_refl _, hl1⟩, fun t _ h h' => by omega, HB1.out, HZ1.out⟩
    case round =>
      obtain ⟨j, rfl, hj, hA, hbr, hZr⟩ := hrel
      clear HB1 HZ1
      have hj1 := hj.out.1
      by_cases hlt : j < ls.length
      case pos =>
        obtain ⟨k, hk⟩ : ∃ k, ls[j] = k := ⟨_, rfl⟩
        obtain ⟨z, hz⟩ : ∃ z, ls[j - 1].t = z := ⟨_, rfl⟩
        have yq : ∀ W : Ov wr, W.wd.cell? ⟨b, off + j * 18, none⟩ = some (.int .i64 k.t) := ov_cell (by rw [← hk]; exact (rg_mid (HRA.out wr hbr.out j hlt)).1)
        have yp : ∀ W : Ov wr, W.wd.cell? ⟨b, off + (j - 1) * 18, none⟩ = some (.int .i64 z) := ov_cell (by rw [← hz]; exact (rg_mid (HRA.out wr hbr.out (j - 1) (by omega))).1)
        have HE : Hid (∀ W : Ov wr, Below w.heap.size w W.wd ∧ Blk W.wd R (plA ⟨0, 0, 0, 0, 0⟩ (.slice none 0 0)) 42) := fun W => ⟨belowCall hbr.out W.ok hbr.out.size, hZr.out.below W.ok hZr.out.lt⟩
        have ne : Nonempty (Ov wr) := ⟨⟨_, Below.refl _ _⟩⟩
        have e1 : ((j - 1 : Nat) : Int) = (j : Int) - 1 := by omega
        have hi : (0 : Int) ≤ (j : Int) := by omega
        have hi2 : (j : Int) < (ls.length : Int) := by omega
        have hi3 : (0 : Int) ≤ (j : Int) - 1 := by omega
        have hi4 : (j : Int) - 1 < (ls.length : Int) := by omega
        have HKJ : Hid (ls[j] = k ∧ ls[j - 1].t = z) := ⟨hk, hz⟩
        clear hk hz
        by_cases hc4 : k.t < z
        case pos =>
          have d5 : decide (k.t < z) = true := decide_eq_true hc4
          have HF : Hid (¬ TkP ls) := fun h => by have := h j hlt (by omega); rw [HKJ.out.1, HKJ.out.2] at this; omega
          clear hc4
          go_upto_region 7 with fail
          refine region_over (by kernel_rfl) (by kernel_rfl) ?_
          try simp only [Act.put]
          repeat (go_big_quiet_step (fail))
          refine wpQuiet_nil ?_
          rintro _ ⟨W, rfl⟩
          have HB5 : Hid (Below w.heap.size w W.wd) := (HE.out W).1
          have HZ5 : Hid (Blk W.wd R (plA ⟨0, 0, 0, 0, 0⟩ (.slice none 0 0)) 42) := (HE.out W).2
          clear HE yq yp
          have HN : Hid (hrF ls dp n = none) := by
            unfold hrF; exact if_neg (fun hq => HF.out hq.2.1)
          go_wp2_with (refine wpList_store_row rfl 42 _ _ rfl R (plA ⟨0, 0, 0, 0, 0⟩ (.slice none 0 0)) rfl rfl 42 (plA ⟨0, 0, 0, 0, 0⟩ (.slice none 0 0)) HZ5.out (by kernel_rfl) rfl (by simp [Value.oneCell']) ?_)
          exact bodyPost_ret (v := .tuple #[.slice (some ⟨N0, 0, none⟩) 0 0, .agg (plA ⟨0, 0, 0, 0, 0⟩ (.slice none 0 0)), .bool false]) (results_H3 rfl _ _ R _ _ _ _ rfl rfl rfl (HZ5.out.row _)) rfl ⟨belowRow HB5.out _ (Nat.le_of_eq HW0.out.2.1) _, fun _ => ⟨_, rfl, rd_nil _ _ _⟩, fun h e => by rw [HN.out] at e; cases e⟩
        case neg =>
          have d5 : decide (k.t < z) = false := decide_eq_false hc4
          have HN : Hid (∀ t (ht : t < ls.length), t < j + 1 → 0 < t → ls[t - 1].t ≤ ls[t].t) := fun t ht h h0 => by
            by_cases e : t < j
            · exact hA.out t ht e h0
            · obtain rfl : t = j := by omega
              rw [HKJ.out.1, HKJ.out.2]; omega
          clear hc4
          go_upto_region 7 with fail
          refine region_over (by kernel_rfl) (by kernel_rfl) ?_
          try simp only [Act.put]
          repeat (go_big_quiet_step (fail))
          refine wpQuiet_nil ?_
          rintro _ ⟨W, rfl⟩
          have HB5 : Hid (Below w.heap.size w W.wd) := (HE.out W).1
          have HZ5 : Hid (Blk W.wd R (plA ⟨0, 0, 0, 0, 0⟩ (.slice none 0 0)) 42) := (HE.out W).2
          clear HE yq yp
          go_wp2
          go_roundw
          case rel => exact ⟨j + 1, by go_num, (by show _ ∧ _; omega), HN.out, HB5.out, HZ5.out⟩
          case measure => simp [intOf]; omega
      case neg =>
      obtain rfl : j = ls.length := by have := hj.out; omega
      have HPK : Hid (HrP ls dp n) := ⟨HPP.out, fun i hi h0 => hA.out i hi hi h0, HD.out, HDN.out⟩
      have HJK : Hid (kAt ls 0 = ls[0]) := kAt_eq hl1
      obtain ⟨s0, hs0⟩ : ∃ z, ls[0].s = z := ⟨_, rfl⟩
      have hs2 : (wr.alloc (.cells #[] 3)).cell? ⟨b, off + 1, none⟩ = some (.int .i64 s0) := by
        have hb' : Below w.heap.size w (wr.alloc (.cells #[] 3)) := hbr.out.alloc hbr.out.size _
        have := (rg_mid (HRA.out _ hb' 0 hl1)).2.1
        rw [hs0] at this; simpa using this
      have HS0 : Hid (h0F ls dp = ⟨⟨s0, dp, 0, 0, 0⟩, [], [], false⟩) := by show _ = _; unfold h0F; rw [HJK.out, hs0]
      obtain ⟨N1, hN1⟩ : ∃ X, wr.heap.size = X := ⟨_, rfl⟩
      obtain ⟨GP, hGP⟩ : ∃ X, N1 + 1 = X := ⟨_, rfl⟩
      obtain ⟨W3, hW3⟩ : ∃ W, (wr.alloc (.cells #[] 3)).alloc (.cells (plA ⟨0, 0, 0, 0, 0⟩ (.slice none 0 0)) 42) = W := ⟨_, rfl⟩
      obtain ⟨W4, hW4⟩ : ∃ W, W3.setRow GP (plA ⟨s0, dp, 0, 0, 0⟩ (.slice none 0 0)) = W := ⟨_, rfl⟩
      have K3 : Blk W3 GP (plA ⟨0, 0, 0, 0, 0⟩ (.slice none 0 0)) 42 := by rw [← hW3, ← hGP, ← hN1]; exact Blk.newAt _ _ _ _ (by simp)
      have K4 : Blk W4 GP (plA ⟨s0, dp, 0, 0, 0⟩ (.slice none 0 0)) 42 := by rw [← hW4]; exact K3.row _
      have B3 : Below wr.heap.size wr W3 := by rw [← hW3]; exact ((Below.refl _ _).alloc (Nat.le_refl _) _).alloc (by simp) _
      have B4 : Below wr.heap.size wr W4 := by rw [← hW4]; exact belowRow B3 _ (by omega) _
      have U3 : Ow .i64 3 w.heap.size W3 (.slice (some ⟨N1, 0, none⟩) 0 0) [] := by rw [← hW3, ← hN1]; exact (Ow.empty .i64 3 w.heap.size wr hbr.out.size).alloc _
      have HU4 : Hid (Ow .i64 3 w.heap.size W4 (.slice (some ⟨N1, 0, none⟩) 0 0) []) := by rw [← hW4]; exact World.ownsRow.kept U3 (grown_setRow _ _ _) (.inr (ow_ne U3 K3 (by decide)))
      have HK4 : Hid (Blk W4 GP (plA (h0F ls dp).p (.slice none 0 0)) 42) := by
        show Blk _ _ _ _
        rw [HS0.out]; exact K4
      have HB4 : Hid (Below w.heap.size w W4) := belowCall hbr.out B4 hbr.out.size
      have HZ4 : Hid (Blk W4 R (plA ⟨0, 0, 0, 0, 0⟩ (.slice none 0 0)) 42) := hZr.out.below B4 hZr.out.lt
      have HRG : Hid (R < GP ∧ w.heap.size ≤ GP) := ⟨by have := hZr.out.lt; omega, by have := hbr.out.size; omega⟩
      have HK3 : Hid (Blk W3 GP (plA ⟨0, 0, 0, 0, 0⟩ (.slice none 0 0)) 42) := K3
      have HW3 : Hid ((wr.alloc (.cells #[] 3)).alloc (.cells (plA ⟨0, 0, 0, 0, 0⟩ (.slice none 0 0)) 42) = W3 ∧ wr.heap.size = N1 ∧ N1 + 1 = GP ∧ W3.setRow GP (plA ⟨s0, dp, 0, 0, 0⟩ (.slice none 0 0)) = W4) := ⟨hW3, hN1, hGP, hW4⟩
      have hn0 := HDN.out.1
      have hn60 := HDN.out.2
      clear hN1 hGP hW3 hW4 K3 K4 B3 B4 U3 hA hbr hZr hs0
      go_wp2_with ((rw [HW3.out.1, HW3.out.2.1, HW3.out.2.2.1]; refine wpList_store_row rfl 42 _ _ rfl GP (plA ⟨s0, dp, 0, 0, 0⟩ (.slice none 0 0)) rfl rfl 42 (plA ⟨0, 0, 0, 0, 0⟩ (.slice none 0 0)) HK3.out (by kernel_rfl) rfl (by simp [Value.oneCell']) ?_; rw [HW3.out.2.2.2]))
      clear HW3 HK3 hs2
      go_loopw [11, 13, 14] (fun u bg i wr => ∃ (j : Nat) (h : HSt) (bb : Bool) (ax : Option Addr) (cx : Nat) (au : Option Addr) (cu : Nat), u = .slice au h.lv.length cu ∧ bg = .bool bb ∧ i = .int .i64 j ∧ Hid (j ≤ ls.length + n.toNat) ∧ Hid (seN ls (h0F ls dp) j = some h) ∧ Hid (h.b = bb) ∧ Hid (HsB h (2 * j)) ∧ Hid (Blk wr GP (plA h.p (.slice ax h.st.length cx)) 42) ∧ Hid (Rg 18 pkC wr (.slice ax h.st.length cx) h.st) ∧ Hid (Ow .i64 3 w.heap.size wr (.slice au h.lv.length cu) h.lv) ∧ Hid (∀ k, (Value.slice ax h.st.length cx).ownBlock = some k → GP < k) ∧ Hid (Below w.heap.size w wr) ∧ Hid (Blk wr R (plA ⟨0, 0, 0, 0, 0⟩ (.slice none 0 0)) 42)) (fun _ _ i _ => ls.length + n.toNat - (intOf i).toNat)
      case atStart => exact ⟨0, h0F ls dp, false, none, 0, some ⟨N1, 0, none⟩, 0, rfl, rfl, rfl, Nat.zero_le _, rfl, rfl, ⟨Nat.zero_le _, Nat.zero_le _, fun x hx => by cases hx⟩, HK4.out, ⟨none, 0, rfl, Nat.le_refl _, Nat.zero_le _, .inl rfl⟩, HU4.out, (fun k e => (by cases e)), HB4.out, HZ4.out⟩
      case round =>
        obtain ⟨j, h, bb, ax, cx, au, cu, rfl, rfl, rfl, hjj, hNs, hbb, hSB, HKP, HRX, HUU, hOX, hBr, hZr⟩ := hrel
        clear HK4 HU4 HB4 HZ4
        have hjb := hjj.out
        by_cases hgo : j < ls.length + n.toNat
        case neg =>
          have hgo2 : decide ((j : Int) < (ls.length : Int) + n) = false := decide_eq_false (by omega)
          have HNE : Hid (hrF ls dp n = some h) := by
            show _ = _
            rw [hrF_se HPK.out, show ls.length + n.toNat = j by omega]; exact hNs.out
          have HG4 : Hid (Blk wr.drew GP (plA h.p (.slice ax h.st.length cx)) 42) := HKP.out.drew
          have HR4 : Hid (Rg 18 pkC wr.drew (.slice ax h.st.length cx) h.st) := HRX.out.below (Below.refl _ _).drew
          have HU4 : Hid (Ow .i64 3 w.heap.size wr.drew (.slice au h.lv.length cu) h.lv) := HUU.out.below (Below.refl _ _).drew
          have HZ4 : Hid (Blk wr.drew R (plA ⟨0, 0, 0, 0, 0⟩ (.slice none 0 0)) 42) := hZr.out.drew
          clear HKP HRX HUU hZr
          go_upto_region 27 with fail
          refine region_vals [undef, undef, undef, undef, undef] (RheS (wr.drew) (R) (GP) (h.p) (ax) (h.st) (cx) (au) (h.lv) (cu) (w.heap.size)) (by kernel_rfl) (by kernel_rfl) ?_ ⟨?_, ?_, ?_, ?_, ?_, trivial⟩ ?_
          · refine ⟨_, _, _, _, _, rfl, ⟨(Below.refl _ _), (HG4.out), ?_, ?_, ?_, ?_, (fun _ => HZ4.out), ?_, (HR4.out), (HU4.out)⟩⟩ <;> simp
          · rintro d vs W ⟨v0, v1, v2, v3, v4, rfl, H⟩ hn hd
            simp only [putAll, Act.put, List.setIfInBounds_toArray, List.set_cons_succ, List.set_cons_zero]
            have HH1 : Hid (Rhe (wr.drew) (R) (GP) (h.p) (ax) (h.st) (cx) (au) (h.lv) (cu) (w.heap.size) d W v0 v1 v2 v3 v4 ) := H
            clear H
            have HHN : Hid (d 0 = false) := hn
            clear hd hn
            go_wp2
            have H0 := HH1.out
            have H := HH1.out
            have hn := HHN.out
            refine ⟨rfl, [.slice au h.lv.length cu, v1, v2, v3, v4], ?_, .slice au h.lv.length cu, v1, v2, v3, v4, rfl, ⟨H.bel, H.g, (fun _ => rfl), (by have h := H.f1; simpa [doneSet] using h), (by have h := H.f2; simpa [doneSet] using h), (by have h := H.f4; simpa [doneSet] using h), (by have h := H.kz; simpa [doneSet] using h), (by have h := H.k3; simpa [doneSet] using h), H.rg, H.ow⟩⟩
            simp only [putAll, Act.put, List.setIfInBounds_toArray, List.set_cons_succ, List.set_cons_zero]
            all_goals rfl
          · rintro d vs W ⟨v0, v1, v2, v3, v4, rfl, H⟩ hn hd
            simp only [putAll, Act.put, List.setIfInBounds_toArray, List.set_cons_succ, List.set_cons_zero]
            have HKW : Hid (Blk W GP (plA h.p (.slice ax h.st.length cx)) 42) := H.g
            have HH1 : Hid (Rhe (wr.drew) (R) (GP) (h.p) (ax) (h.st) (cx) (au) (h.lv) (cu) (w.heap.size) d W v0 v1 v2 v3 v4 ) := H
            clear H
            have HHN : Hid (d 1 = false) := hn
            clear hd hn
            go_wp2_with (refine wpList_load_row rfl 42 _ rfl GP rfl 42 (plA h.p (.slice ax h.st.length cx)) (0, 0) _ HKW.out Tryd.underlying42 rfl (by kernel_rfl) ?_)
            have H0 := HH1.out
            have H := HH1.out
            have hn := HHN.out
            refine ⟨rfl, [v0, .agg (plA h.p (.slice ax h.st.length cx)), v2, v3, v4], ?_, v0, .agg (plA h.p (.slice ax h.st.length cx)), v2, v3, v4, rfl, ⟨H.bel, H.g, (by have h := H.f0; simpa [doneSet] using h), (fun _ => rfl), (by have h := H.f2; simpa [doneSet] using h), (by have h := H.f4; simpa [doneSet] using h), (by have h := H.kz; simpa [doneSet] using h), (by have h := H.k3; simpa [doneSet] using h), H.rg, H.ow⟩⟩
            simp only [putAll, Act.put, List.setIfInBounds_toArray, List.set_cons_succ, List.set_cons_zero]
            all_goals rfl
          · rintro d vs W ⟨v0, v1, v2, v3, v4, rfl, H⟩ hn hd
            simp only [putAll, Act.put, List.setIfInBounds_toArray, List.set_cons_succ, List.set_cons_zero]
            have h0 : d 0 = true := hd { on := 0, ground := .data } (by simp) rfl
            obtain rfl := H.f0 h0
            have HH1 : Hid (Rhe (wr.drew) (R) (GP) (h.p) (ax) (h.st) (cx) (au) (h.lv) (cu) (w.heap.size) d W (.slice au h.lv.length cu) v1 v2 v3 v4 ) := H
            clear H
            have HHN : Hid (d 2 = false) := hn
            have HHD : Hid (d 0 = true) := h0
            clear hd hn h0
            go_wp2
            have H0 := HH1.out
            have H := HH1.out
            have hn := HHN.out
            have h0 := HHD.out
            refine ⟨rfl, [.slice au h.lv.length cu, v1, .slice au h.lv.length cu, v3, v4], ?_, .slice au h.lv.length cu, v1, .slice au h.lv.length cu, v3, v4, rfl, ⟨H.bel, H.g, (fun _ => rfl), (by have h := H.f1; simpa [doneSet] using h), (fun _ => rfl), (by have h := H.f4; simpa [doneSet] using h), (by have h := H.kz; simpa [doneSet] using h), (by have h := H.k3; simpa [doneSet] using h), H.rg, H.ow⟩⟩
            simp only [putAll, Act.put, List.setIfInBounds_toArray, List.set_cons_succ, List.set_cons_zero]
            all_goals rfl
          · rintro d vs W ⟨v0, v1, v2, v3, v4, rfl, H⟩ hn hd
            simp only [putAll, Act.put, List.setIfInBounds_toArray, List.set_cons_succ, List.set_cons_zero]
            have h1 : d 1 = true := hd { on := 1, ground := .data } (by simp) rfl
            have HKZ : Hid (Blk W R (plA ⟨0, 0, 0, 0, 0⟩ (.slice none 0 0)) 42) := H.kz hn
            obtain rfl := H.f1 h1
            have HH1 : Hid (Rhe (wr.drew) (R) (GP) (h.p) (ax) (h.st) (cx) (au) (h.lv) (cu) (w.heap.size) d W v0 (.agg (plA h.p (.slice ax h.st.length cx))) v2 v3 v4 ) := H
            clear H
            have HHN : Hid (d 3 = false) := hn
            have HHD : Hid (d 1 = true) := h1
            clear hd hn h1
            go_wp2_with (refine wpList_store_row rfl 42 _ _ rfl R (plA h.p (.slice ax h.st.length cx)) rfl rfl 42 (plA ⟨0, 0, 0, 0, 0⟩ (.slice none 0 0)) HKZ.out (by kernel_rfl) rfl (by simp [Value.oneCell']) ?_)
            have H0 := HH1.out
            have H := HH1.out
            have hn := HHN.out
            have h1 := HHD.out
            refine ⟨rfl, [v0, .agg (plA h.p (.slice ax h.st.length cx)), v2, undef, v4], ?_, v0, .agg (plA h.p (.slice ax h.st.length cx)), v2, undef, v4, rfl, ⟨(belowRow H0.bel _ (Nat.le_refl _) _), (H0.g.rowOther _ _ (by have := HRG.out; omega)), (by have h := H.f0; simpa [doneSet] using h), (fun _ => rfl), (by have h := H.f2; simpa [doneSet] using h), (by have h := H.f4; simpa [doneSet] using h), (fun e => absurd e (by simp [doneSet])), (fun _ => HKZ.out.row _), (H0.rg.grown (grown_setRow _ _ _) (.inr (.inr (fun e => by have := hOX.out R e; have := HRG.out; omega)))), (World.ownsRow.kept H0.ow (grown_setRow _ _ _) (.inr (ow_ne H0.ow HKZ.out (by decide))))⟩⟩
            simp only [putAll, Act.put, List.setIfInBounds_toArray, List.set_cons_succ, List.set_cons_zero]
            all_goals rfl
          · rintro d vs W ⟨v0, v1, v2, v3, v4, rfl, H⟩ hn hd
            simp only [putAll, Act.put, List.setIfInBounds_toArray, List.set_cons_succ, List.set_cons_zero]
            have HH1 : Hid (Rhe (wr.drew) (R) (GP) (h.p) (ax) (h.st) (cx) (au) (h.lv) (cu) (w.heap.size) d W v0 v1 v2 v3 v4 ) := H
            clear H
            have HHN : Hid (d 4 = false) := hn
            clear hd hn
            go_wp2
            have H0 := HH1.out
            have H := HH1.out
            have hn := HHN.out
            refine ⟨rfl, [v0, v1, v2, v3, .bool true], ?_, v0, v1, v2, v3, .bool true, rfl, ⟨H.bel, H.g, (by have h := H.f0; simpa [doneSet] using h), (by have h := H.f1; simpa [doneSet] using h), (by have h := H.f2; simpa [doneSet] using h), (fun _ => rfl), (by have h := H.kz; simpa [doneSet] using h), (by have h := H.k3; simpa [doneSet] using h), H.rg, H.ow⟩⟩
            simp only [putAll, Act.put, List.setIfInBounds_toArray, List.set_cons_succ, List.set_cons_zero]
            all_goals rfl
          rintro d vs W5 ⟨v0, v1, v2, v3, v4, rfl, H⟩ hn
          obtain rfl := H.f0 (hn 0 (by decide))
          obtain rfl := H.f1 (hn 1 (by decide))
          obtain rfl := H.f2 (hn 2 (by decide))
          obtain rfl := H.f4 (hn 4 (by decide))
          have HEE : Hid (Below w.heap.size w W5) := hBr.out.drew.trans (H.bel.mono (Nat.le_of_eq HW0.out.2.1))
          have HK5 : Hid (Blk W5 R (plA h.p (.slice ax h.st.length cx)) 42) := H.k3 (hn 3 (by decide))
          have HO5 : Hid (Rg 18 pkC W5 (.slice ax h.st.length cx) h.st) := H.rg
          have HU5 : Hid (Rd .i64 W5 (.slice au h.lv.length cu) h.lv) := H.ow.rd
          clear H hn
          simp only [putAll, Act.put, List.setIfInBounds_toArray, List.set_cons_succ, List.set_cons_zero]
          go_wp2
          exact bodyPost_ret (v := .tuple #[.slice au h.lv.length cu, .agg (plA h.p (.slice ax h.st.length cx)), .bool true]) (results_H3 rfl _ _ R _ _ _ _ rfl rfl rfl HK5.out) rfl ⟨HEE.out, fun e => (by rw [HNE.out] at e; cases e), fun h e => (by rw [HNE.out] at e; cases e; exact ⟨_, _, rfl, HU5.out, HO5.out⟩)⟩
        case pos =>
        have HJB : Hid (j < ls.length + n.toNat ∧ ls.length ≤ 60 ∧ n.toNat ≤ 60) := ⟨hgo, HL60, by omega⟩
        have hgo2 : (j : Int) < (ls.length : Int) + n := by omega
        by_cases hlt : j < ls.length
        case neg =>
          have hltd : decide ((j : Int) < (ls.length : Int)) = false := decide_eq_false (by omega)
          have HKg := HKP
          have HRg := HRX
          have HUg := HUU
          have HBg := hBr
          have HZg := hZr
          have HSg : Hid (HsB h (2 * j + 1)) := ⟨by have := hSB.out.st; omega, by have := hSB.out.lv; omega, hSB.out.by'⟩
          have HNX : Hid (seN ls (h0F ls dp) (j + 1) = poF h) := by
            show _ = _
            rw [seN, hNs.out]; simp [hlt]
          obtain rfl := hbb.out
          clear HKP HRX HUU hBr hZr hSB hNs hOX hbb
          go_wp2_with (refine wpList_load_row rfl 42 _ rfl GP rfl 42 (plA h.p (.slice ax h.st.length cx)) (0, 0) _ HKg.out Tryd.underlying42 rfl (by kernel_rfl) ?_)
          refine (playM_x h (.slice ax h.st.length cx) wr HRg.out (2 * j + 1) HSg.out (by have := HJB.out; omega)).mono ?_
          rintro e W7 ⟨q7, s7, o7, ⟨x7, y7, rfl, r7, w7, ow7, b7⟩, l7, hx7⟩
          obtain ⟨a7, c7, rfl⟩ : ∃ a c, x7 = .slice a s7.length c := by obtain ⟨a, c, e, -⟩ := r7; exact ⟨a, c, e⟩
          obtain ⟨a8, c8, rfl⟩ := ow7.form'
          obtain ⟨X7, hX7⟩ : ∃ X, W7.heap.size = X := ⟨_, rfl⟩
          obtain ⟨W8, hW8⟩ : ∃ W, W7.alloc (.cells (plA ⟨0, 0, 0, 0, 0⟩ (.slice none 0 0)) 42) = W := ⟨_, rfl⟩
          obtain ⟨W9, hW9⟩ : ∃ W, W8.setRow X7 (plA q7 (.slice a7 s7.length c7)) = W := ⟨_, rfl⟩
          have k8 : Blk W8 X7 (plA ⟨0, 0, 0, 0, 0⟩ (.slice none 0 0)) 42 := by rw [← hW8, ← hX7]; exact Blk.new _ _ _
          have k9 : Blk W9 X7 (plA q7 (.slice a7 s7.length c7)) 42 := by rw [← hW9]; exact k8.row _
          have e79 : Below W7.heap.size W7 W9 := by
            rw [← hW9]
            exact belowRow (by rw [← hW8]; exact (Below.refl _ _).alloc (Nat.le_refl _) _) _ (Nat.le_of_eq hX7) _
          have b9 : Below wr.heap.size wr W9 := belowCall b7 e79 b7.size
          have HB9 : Hid (Below w.heap.size w W9) := belowCall HBg.out b9 HBg.out.size
          have HZ9 : Hid (Blk W9 R (plA ⟨0, 0, 0, 0, 0⟩ (.slice none 0 0)) 42) := HZg.out.below b9 HZg.out.lt
          have kp9 : Blk W9 GP (plA h.p (.slice ax h.st.length cx)) 42 := HKg.out.below b9 HKg.out.lt
          have r9 : Rg 18 pkC W9 (.slice a7 s7.length c7) s7 := r7.below e79
          have y9 : Ow .i64 3 wr.heap.size W9 (.slice a8 o7.length c8) o7 := ow7.below e79
          have u9 : Ow .i64 3 w.heap.size W9 (.slice au h.lv.length cu) h.lv := HUg.out.below b9
          have n9 : ∀ k, (Value.slice a7 s7.length c7).ownBlock = some k → wr.heap.size ≤ k := fun k e => (w7 k e).1
          obtain ⟨W10, hW10⟩ : ∃ W, W9.setRow GP (plA q7 (.slice a7 s7.length c7)) = W := ⟨_, rfl⟩
          have g10 : W9.grownBy W10 (some GP) := by rw [← hW10]; exact grown_setRow _ _ _
          have hGW := HKg.out.lt
          have HK10 : Hid (Blk W10 GP (plA q7 (.slice a7 s7.length c7)) 42) := by rw [← hW10]; exact kp9.row _
          have HZ10 : Hid (Blk W10 R (plA ⟨0, 0, 0, 0, 0⟩ (.slice none 0 0)) 42) := HZ9.out.grownO g10 (fun e => by have := Option.some.inj e; have := HRG.out; omega)
          have HR10 : Hid (Rg 18 pkC W10 (.slice a7 s7.length c7) s7) := r9.grown g10 (.inr (.inr (fun e => by have := n9 GP e; omega)))
          have HU10 : Hid (Ow .i64 3 w.heap.size W10 (.slice au h.lv.length cu) h.lv) := World.ownsRow.kept u9 g10 (.inr (ow_ne u9 kp9 (by decide)))
          have HY10 : Hid (Rd .i64 W10 (.slice a8 o7.length c8) o7) := Ow.rd (e := 3) (base := wr.heap.size) (World.ownsRow.kept y9 g10 (.inr (ow_ne y9 kp9 (by decide))))
          have HB10 : Hid (Below w.heap.size w W10) := HB9.out.trans (grown_below g10 HB9.out.size (fun k e => by have := Option.some.inj e; have := HRG.out; omega))
          have HN9 : Hid (∀ k, (Value.slice a7 s7.length c7).ownBlock = some k → wr.heap.size ≤ k) := n9
          have HUL : Hid (∀ k, (Value.slice au h.lv.length cu).ownBlock = some k → w.heap.size ≤ k ∧ k < wr.heap.size) := fun k e => HUg.out.lt' k e
          have HK8 : Hid (Blk W8 X7 (plA ⟨0, 0, 0, 0, 0⟩ (.slice none 0 0)) 42) := k8
          have HK9 : Hid (Blk W9 X7 (plA q7 (.slice a7 s7.length c7)) 42) := k9
          have HP9 : Hid (Blk W9 GP (plA h.p (.slice ax h.st.length cx)) 42) := kp9
          have HW8 : Hid (W7.alloc (.cells (plA ⟨0, 0, 0, 0, 0⟩ (.slice none 0 0)) 42) = W8 ∧ W7.heap.size = X7 ∧ W8.setRow X7 (plA q7 (.slice a7 s7.length c7)) = W9 ∧ W9.setRow GP (plA q7 (.slice a7 s7.length c7)) = W10) := ⟨hW8, hX7, hW9, hW10⟩
          have HX7 : Hid (∀ x, poF h = some x → x = ⟨q7, s7, h.lv ++ o7, h.b⟩) := hx7
          have HL7 : Hid (o7.length ≤ 30) := l7
          have HGW : Hid (GP < wr.heap.size) := hGW
          clear r7 w7 ow7 b7 l7 hx7 hX7 hW8 hW9 k8 k9 e79 b9 kp9 r9 y9 u9 n9 hW10 g10 hGW HKg HRg HUg HBg HZg
          obtain ⟨oc, hoc⟩ : ∃ x, poF h = x := ⟨_, rfl⟩
          have HOC : Hid (poF h = oc) := hoc
          rw [hoc]
          clear hoc
          cases oc with
          | none =>
            have e5 : (none : Option HSt).isSome = false := rfl
            rw [e5]
            clear e5
            have HN : Hid (hrF ls dp n = none) := by
              show _ = _
              rw [hrF_se HPK.out]; exact seN_none (HNX.out.trans HOC.out) _ (by have := HJB.out; omega)
            go_wp2_with (first | (rw [HW8.out.1, HW8.out.2.1]; refine wpList_store_row rfl 42 _ _ rfl X7 (plA q7 (.slice a7 s7.length c7)) rfl rfl 42 (plA ⟨0, 0, 0, 0, 0⟩ (.slice none 0 0)) HK8.out (by kernel_rfl) rfl (by simp [Value.oneCell']) ?_; rw [HW8.out.2.2.1]) | refine wpList_store_row rfl 42 _ _ rfl R (plA ⟨0, 0, 0, 0, 0⟩ (.slice none 0 0)) rfl rfl 42 (plA ⟨0, 0, 0, 0, 0⟩ (.slice none 0 0)) HZ9.out (by kernel_rfl) rfl (by simp [Value.oneCell']) ?_)
            exact bodyPost_ret (v := .tuple #[.slice (some ⟨N0, 0, none⟩) 0 0, .agg (plA ⟨0, 0, 0, 0, 0⟩ (.slice none 0 0)), .bool false]) (results_H3 rfl _ _ R _ _ _ _ rfl rfl rfl (HZ9.out.row _)) rfl ⟨belowRow HB9.out _ (Nat.le_of_eq HW0.out.2.1) _, fun _ => ⟨_, rfl, rd_nil _ _ _⟩, fun h e => by rw [HN.out] at e; cases e⟩
          | some h9 =>
            have e5 : (some h9).isSome = true := rfl
            rw [e5]
            clear e5
            have HSN : Hid (HsB h9 (2 * (j + 1))) := by
              have := HSg.out.po HOC.out
              exact ⟨Nat.le_trans this.st (by omega), Nat.le_trans this.lv (by omega), this.by'⟩
            have HNN : Hid (seN ls (h0F ls dp) (j + 1) = some h9) := HNX.out.trans HOC.out
            obtain rfl := HX7.out h9 HOC.out
            have S10 : Hid (w.heap.size ≤ W10.heap.size) := HB10.out.size
            have HLL : Hid (h.lv.length ≤ 100000) := by
              have hq : h.lv.length ≤ 30 * (2 * j + 1) := HSg.out.lv
              have := HJB.out; show _ ≤ _; omega
            clear HSg HNX HX7 HOC
            go_wp2_with (first | (rw [HW8.out.1, HW8.out.2.1]; refine wpList_store_row rfl 42 _ _ rfl X7 (plA q7 (.slice a7 s7.length c7)) rfl rfl 42 (plA ⟨0, 0, 0, 0, 0⟩ (.slice none 0 0)) HK8.out (by kernel_rfl) rfl (by simp [Value.oneCell']) ?_; rw [HW8.out.2.2.1]) | refine wpList_load_row rfl 42 _ rfl X7 rfl 42 (plA q7 (.slice a7 s7.length c7)) (0, 0) _ HK9.out Tryd.underlying42 rfl (by kernel_rfl) ?_ | (refine wpList_store_row rfl 42 _ _ rfl GP (plA q7 (.slice a7 s7.length c7)) rfl rfl 42 (plA h.p (.slice ax h.st.length cx)) HP9.out (by kernel_rfl) rfl (by simp [Value.oneCell']) ?_; rw [HW8.out.2.2.2]) | (at_builtin; refine appIs rfl _ _ rfl w.heap.size (.slice au h.lv.length cu) h.lv rfl HU10.out (.slice a8 o7.length c8) o7 rfl HY10.out (by have := HLL.out; have := HL7.out; omega) S10.out ?_))
            intro z W11 o11 r11 s11
            obtain ⟨az, cz, rfl⟩ := o11.form'
            have HK11 : Hid (Blk W11 GP (plA q7 (.slice a7 s7.length c7)) 42) := HK10.out.grownO r11 (ow_ne HU10.out HK10.out (by decide))
            have HZ11 : Hid (Blk W11 R (plA ⟨0, 0, 0, 0, 0⟩ (.slice none 0 0)) 42) := HZ10.out.grownO r11 (ow_ne HU10.out HZ10.out (by decide))
            have HR11 : Hid (Rg 18 pkC W11 (.slice a7 s7.length c7) s7) := HR10.out.grown r11 (.inr (by
              cases hv : (Value.slice a7 s7.length c7).ownBlock with
              | none => exact .inl rfl
              | some m => exact .inr (fun e => by have := HN9.out m hv; have := (HUL.out m e.symm).2; omega)))
            have HB11 : Hid (Below w.heap.size w W11) := HB10.out.trans (grown_below r11 S10.out (fun k e => (HUL.out k e).1))
            have HU11 : Hid (Ow .i64 3 w.heap.size W11 (.slice az (h.lv ++ o7).length cz) (h.lv ++ o7)) := o11
            have HX11 : Hid (∀ k, (Value.slice a7 s7.length c7).ownBlock = some k → GP < k) := fun k e => by have := HN9.out k e; have := HGW.out; omega
            clear o11 r11 s11 HK10 HZ10 HR10 HU10 HY10 HB10 HN9 HUL HK8 HK9 HP9 HW8 HZ9 HB9 HGW S10
            obtain ⟨NN, hNN⟩ : ∃ N, (h.lv ++ o7).length = N := ⟨_, rfl⟩
            have HNN2 : Hid ((h.lv ++ o7).length = NN) := hNN
            rw [hNN] at HU11 ⊢
            clear hNN
            go_wp2
            go_roundw
            case rel =>
              obtain rfl := HNN2.out
              exact ⟨j + 1, _, h.b, a7, c7, az, cz, rfl, rfl, by go_num, (by have := HJB.out; show _ ≤ _; omega), HNN.out, rfl, HSN.out, HK11.out, HR11.out, HU11.out, HX11.out, HB11.out, HZ11.out⟩
            case measure => simp [intOf]; have := HJB.out; omega
        case pos =>
          have hi : (0 : Int) ≤ (j : Int) := by omega
          have hi2 : (j : Int) < (ls.length : Int) := by omega
          obtain ⟨k, hk⟩ : ∃ k, ls[j] = k := ⟨_, rfl⟩
          have HKA : Hid (kAt ls j = k ∧ PkBy k) := ⟨by rw [kAt_eq hlt, hk], HPB.out k (by rw [← hk]; exact List.getElem_mem hlt)⟩
          have HRL : Hid (∀ W, Below wr.drew.heap.size wr.drew W → W.rangeAt b (off + j * 18) (pkC k)) := fun W hW => by rw [← hk]; exact HRA.out W (belowCall hBr.out.drew hW hBr.out.size) j hlt
          obtain ⟨q, s, ok, hpu, hc, hsn⟩ : ∃ q s ok, (∀ W', Rg 18 pkC W' (.slice ax h.st.length cx) h.st → Calls Tryd.prog 93 #[.agg (plA h.p (.slice ax h.st.length cx)), .agg (pkA k)] W' (PuR q s ok W')) ∧ ((PuP h.p k h.st → ok = true ∧ q = (puF h.p k h.st).1 ∧ s = (puF h.p k h.st).2) ∧ (¬ PuP h.p k h.st → ok = false)) ∧ (s.length ≤ h.st.length + 1 ∧ ∀ x ∈ s, PkBy x) := by
            have hst : h.st.length ≤ 1048576 := by have := hSB.out.st; have := HJB.out; omega
            by_cases hP : PuP h.p k h.st
            · exact ⟨_, _, true, fun W' hr => (putM_c h.p k _ h.st W' hr hst).mono fun e w h => h.1 hP, ⟨fun _ => ⟨rfl, rfl, rfl⟩, fun h => absurd hP h⟩, pu_len h.p k h.st, pu_by hSB.out.by' HKA.out.2⟩
            · exact ⟨h.p, h.st, false, fun W' hr => (putM_c h.p k _ h.st W' hr hst).mono fun e w h => h.2 hP, ⟨fun h => absurd h hP, fun _ => rfl⟩, by omega, hSB.out.by'⟩
          have HPU : Hid (∀ W', Rg 18 pkC W' (.slice ax h.st.length cx) h.st → Calls Tryd.prog 93 #[.agg (plA h.p (.slice ax h.st.length cx)), .agg (pkA k)] W' (PuR q s ok W')) := hpu
          have HC : Hid ((PuP h.p k h.st → ok = true ∧ q = (puF h.p k h.st).1 ∧ s = (puF h.p k h.st).2) ∧ (¬ PuP h.p k h.st → ok = false)) := hc
          have HSN : Hid (s.length ≤ h.st.length + 1 ∧ ∀ x ∈ s, PkBy x) := hsn
          have HKP0 : Hid (Blk wr GP (plA h.p (.slice ax h.st.length cx)) 42) := HKP
          have HRX0 := HRX
          clear HKP HRX
          have HKP : Hid (Blk wr.drew GP (plA h.p (.slice ax h.st.length cx)) 42) := HKP0.out.drew
          have HRX : Hid (Rg 18 pkC wr.drew (.slice ax h.st.length cx) h.st) := HRX0.out.below (Below.refl _ _).drew
          clear hpu hc hsn hk HRX0
          go_upto_region 16 with fail
          refine region_vals [undef, undef, undef, undef, undef, undef, undef, undef, undef, undef, undef, undef] (RhmS (wr.drew) (h.p) (q) (ax) (h.st.length) (cx) (k) (s) (b) (off) (ls.length) (c) (j) (ok)) (by kernel_rfl) (by kernel_rfl) ?_ ⟨?_, ?_, ?_, ?_, ?_, ?_, ?_, ?_, ?_, ?_, ?_, ?_, trivial⟩ ?_
          · refine ⟨_, _, _, _, _, _, _, _, _, _, _, _, none, 0, 0, rfl, ⟨(Below.refl _ _), ?_, ?_, ?_, ?_, ?_, ?_, ?_, ?_, ?_, ?_, ?_, ?_, ?_, ?_, ?_, ?_, ?_, ?_, ?_⟩⟩ <;> simp
          · rintro d vs W ⟨v0, v1, v2, v3, v4, v5, v6, v7, v8, v9, v10, v11, a0, c0, X, rfl, H⟩ hn hd
            simp only [putAll, Act.put, List.setIfInBounds_toArray, List.set_cons_succ, List.set_cons_zero]
            have HKW : Hid (Blk W GP (plA h.p (.slice ax h.st.length cx)) 42) := HKP.out.below H.bel HKP.out.lt
            have HH1 : Hid (Rhm (wr.drew) (h.p) (q) (ax) (h.st.length) (cx) (k) (s) (b) (off) (ls.length) (c) (j) (ok) d W v0 v1 v2 v3 v4 v5 v6 v7 v8 v9 v10 v11 a0 c0 X) := H
            clear H
            have HHN : Hid (d 0 = false) := hn
            clear hd hn
            go_wp2_with (refine wpList_load_row rfl 42 _ rfl GP rfl 42 (plA h.p (.slice ax h.st.length cx)) (0, 0) _ HKW.out Tryd.underlying42 rfl (by kernel_rfl) ?_)
            have H0 := HH1.out
            have H := HH1.out
            have hn := HHN.out
            refine ⟨rfl, [.agg (plA h.p (.slice ax h.st.length cx)), v1, v2, v3, v4, v5, v6, v7, v8, v9, v10, v11], ?_, .agg (plA h.p (.slice ax h.st.length cx)), v1, v2, v3, v4, v5, v6, v7, v8, v9, v10, v11, a0, c0, X, rfl, ⟨H.bel, (fun _ => rfl), (by have h := H.f1; simpa [doneSet] using h), (by have h := H.f2; simpa [doneSet] using h), (by have h := H.f3; simpa [doneSet] using h), (by have h := H.f4; simpa [doneSet] using h), (by have h := H.f5; simpa [doneSet] using h), (by have h := H.f6; simpa [doneSet] using h), (by have h := H.f7; simpa [doneSet] using h), (by have h := H.f8; simpa [doneSet] using h), (by have h := H.f9; simpa [doneSet] using h), (by have h := H.f11; simpa [doneSet] using h), (by have h := H.o5; simpa [doneSet] using h), (by have h := H.k9; simpa [doneSet] using h), (by have h := H.x9; simpa [doneSet] using h), (by have h := H.k10; simpa [doneSet] using h), (by have h := H.g6_5; simpa [doneSet] using h), (by have h := H.g7_5; simpa [doneSet] using h), (by have h := H.g10_5; simpa [doneSet] using h), (by have h := H.g10_9; simpa [doneSet] using h)⟩⟩
            simp only [putAll, Act.put, List.setIfInBounds_toArray, List.set_cons_succ, List.set_cons_zero]
            all_goals rfl
          · rintro d vs W ⟨v0, v1, v2, v3, v4, v5, v6, v7, v8, v9, v10, v11, a0, c0, X, rfl, H⟩ hn hd
            simp only [putAll, Act.put, List.setIfInBounds_toArray, List.set_cons_succ, List.set_cons_zero]
            have HH1 : Hid (Rhm (wr.drew) (h.p) (q) (ax) (h.st.length) (cx) (k) (s) (b) (off) (ls.length) (c) (j) (ok) d W v0 v1 v2 v3 v4 v5 v6 v7 v8 v9 v10 v11 a0 c0 X) := H
            clear H
            have HHN : Hid (d 1 = false) := hn
            clear hd hn
            go_wp2
            have H0 := HH1.out
            have H := HH1.out
            have hn := HHN.out
            refine ⟨rfl, [v0, .slice (some ⟨b, off, none⟩) ls.length c, v2, v3, v4, v5, v6, v7, v8, v9, v10, v11], ?_, v0, .slice (some ⟨b, off, none⟩) ls.length c, v2, v3, v4, v5, v6, v7, v8, v9, v10, v11, a0, c0, X, rfl, ⟨H.bel, (by have h := H.f0; simpa [doneSet] using h), (fun _ => rfl), (by have h := H.f2; simpa [doneSet] using h), (by have h := H.f3; simpa [doneSet] using h), (by have h := H.f4; simpa [doneSet] using h), (by have h := H.f5; simpa [doneSet] using h), (by have h := H.f6; simpa [doneSet] using h), (by have h := H.f7; simpa [doneSet] using h), (by have h := H.f8; simpa [doneSet] using h), (by have h := H.f9; simpa [doneSet] using h), (by have h := H.f11; simpa [doneSet] using h), (by have h := H.o5; simpa [doneSet] using h), (by have h := H.k9; simpa [doneSet] using h), (by have h := H.x9; simpa [doneSet] using h), (by have h := H.k10; simpa [doneSet] using h), (by have h := H.g6_5; simpa [doneSet] using h), (by have h := H.g7_5; simpa [doneSet] using h), (by have h := H.g10_5; simpa [doneSet] using h), (by have h := H.g10_9; simpa [doneSet] using h)⟩⟩
            simp only [putAll, Act.put, List.setIfInBounds_toArray, List.set_cons_succ, List.set_cons_zero]
            all_goals rfl
          · rintro d vs W ⟨v0, v1, v2, v3, v4, v5, v6, v7, v8, v9, v10, v11, a0, c0, X, rfl, H⟩ hn hd
            simp only [putAll, Act.put, List.setIfInBounds_toArray, List.set_cons_succ, List.set_cons_zero]
            have HH1 : Hid (Rhm (wr.drew) (h.p) (q) (ax) (h.st.length) (cx) (k) (s) (b) (off) (ls.length) (c) (j) (ok) d W v0 v1 v2 v3 v4 v5 v6 v7 v8 v9 v10 v11 a0 c0 X) := H
            clear H
            have HHN : Hid (d 2 = false) := hn
            clear hd hn
            go_wp2
            have H0 := HH1.out
            have H := HH1.out
            have hn := HHN.out
            refine ⟨rfl, [v0, v1, .int .i64 (j : Int), v3, v4, v5, v6, v7, v8, v9, v10, v11], ?_, v0, v1, .int .i64 (j : Int), v3, v4, v5, v6, v7, v8, v9, v10, v11, a0, c0, X, rfl, ⟨H.bel, (by have h := H.f0; simpa [doneSet] using h), (by have h := H.f1; simpa [doneSet] using h), (fun _ => rfl), (by have h := H.f3; simpa [doneSet] using h), (by have h := H.f4; simpa [doneSet] using h), (by have h := H.f5; simpa [doneSet] using h), (by have h := H.f6; simpa [doneSet] using h), (by have h := H.f7; simpa [doneSet] using h), (by have h := H.f8; simpa [doneSet] using h), (by have h := H.f9; simpa [doneSet] using h), (by have h := H.f11; simpa [doneSet] using h), (by have h := H.o5; simpa [doneSet] using h), (by have h := H.k9; simpa [doneSet] using h), (by have h := H.x9; simpa [doneSet] using h), (by have h := H.k10; simpa [doneSet] using h), (by have h := H.g6_5; simpa [doneSet] using h), (by have h := H.g7_5; simpa [doneSet] using h), (by have h := H.g10_5; simpa [doneSet] using h), (by have h := H.g10_9; simpa [doneSet] using h)⟩⟩
            simp only [putAll, Act.put, List.setIfInBounds_toArray, List.set_cons_succ, List.set_cons_zero]
            all_goals rfl
          · rintro d vs W ⟨v0, v1, v2, v3, v4, v5, v6, v7, v8, v9, v10, v11, a0, c0, X, rfl, H⟩ hn hd
            simp only [putAll, Act.put, List.setIfInBounds_toArray, List.set_cons_succ, List.set_cons_zero]
            have h1 : d 1 = true := hd { on := 1, ground := .data } (by simp) rfl
            have h2 : d 2 = true := hd { on := 2, ground := .data } (by simp) rfl
            obtain rfl := H.f1 h1
            obtain rfl := H.f2 h2
            have HH1 : Hid (Rhm (wr.drew) (h.p) (q) (ax) (h.st.length) (cx) (k) (s) (b) (off) (ls.length) (c) (j) (ok) d W v0 (.slice (some ⟨b, off, none⟩) ls.length c) (.int .i64 (j : Int)) v3 v4 v5 v6 v7 v8 v9 v10 v11 a0 c0 X) := H
            clear H
            have HHN : Hid (d 3 = false) := hn
            have HHD : Hid (d 1 = true ∧ d 2 = true) := ⟨h1, h2⟩
            clear hd hn h1 h2
            go_wp2
            have H0 := HH1.out
            have H := HH1.out
            have hn := HHN.out
            have h1 := HHD.out.1
            have h2 := HHD.out.2
            refine ⟨rfl, [v0, .slice (some ⟨b, off, none⟩) ls.length c, .int .i64 (j : Int), .pointer (some ⟨b, off + j * 18, none⟩), v4, v5, v6, v7, v8, v9, v10, v11], ?_, v0, .slice (some ⟨b, off, none⟩) ls.length c, .int .i64 (j : Int), .pointer (some ⟨b, off + j * 18, none⟩), v4, v5, v6, v7, v8, v9, v10, v11, a0, c0, X, rfl, ⟨H.bel, (by have h := H.f0; simpa [doneSet] using h), (fun _ => rfl), (fun _ => rfl), (fun _ => rfl), (by have h := H.f4; simpa [doneSet] using h), (by have h := H.f5; simpa [doneSet] using h), (by have h := H.f6; simpa [doneSet] using h), (by have h := H.f7; simpa [doneSet] using h), (by have h := H.f8; simpa [doneSet] using h), (by have h := H.f9; simpa [doneSet] using h), (by have h := H.f11; simpa [doneSet] using h), (by have h := H.o5; simpa [doneSet] using h), (by have h := H.k9; simpa [doneSet] using h), (by have h := H.x9; simpa [doneSet] using h), (by have h := H.k10; simpa [doneSet] using h), (by have h := H.g6_5; simpa [doneSet] using h), (by have h := H.g7_5; simpa [doneSet] using h), (by have h := H.g10_5; simpa [doneSet] using h), (by have h := H.g10_9; simpa [doneSet] using h)⟩⟩
            simp only [putAll, Act.put, List.setIfInBounds_toArray, List.set_cons_succ, List.set_cons_zero]
            all_goals rfl
          · rintro d vs W ⟨v0, v1, v2, v3, v4, v5, v6, v7, v8, v9, v10, v11, a0, c0, X, rfl, H⟩ hn hd
            simp only [putAll, Act.put, List.setIfInBounds_toArray, List.set_cons_succ, List.set_cons_zero]
            have h3 : d 3 = true := hd { on := 3, ground := .data } (by simp) rfl
            have HRM : Hid (W.rangeAt b (off + j * 18) (pkC k)) := HRL.out W H.bel
            obtain rfl := H.f3 h3
            have HH1 : Hid (Rhm (wr.drew) (h.p) (q) (ax) (h.st.length) (cx) (k) (s) (b) (off) (ls.length) (c) (j) (ok) d W v0 v1 v2 (.pointer (some ⟨b, off + j * 18, none⟩)) v4 v5 v6 v7 v8 v9 v10 v11 a0 c0 X) := H
            clear H
            have HHN : Hid (d 4 = false) := hn
            have HHD : Hid (d 3 = true) := h3
            clear hd hn h3
            go_wp2_with (refine ldM rfl _ rfl b (off + j * 18) rfl k HRM.out ?_)
            have H0 := HH1.out
            have H := HH1.out
            have hn := HHN.out
            have h3 := HHD.out
            refine ⟨rfl, [v0, v1, v2, .pointer (some ⟨b, off + j * 18, none⟩), .agg (pkA k), v5, v6, v7, v8, v9, v10, v11], ?_, v0, v1, v2, .pointer (some ⟨b, off + j * 18, none⟩), .agg (pkA k), v5, v6, v7, v8, v9, v10, v11, a0, c0, X, rfl, ⟨H.bel, (by have h := H.f0; simpa [doneSet] using h), (by have h := H.f1; simpa [doneSet] using h), (by have h := H.f2; simpa [doneSet] using h), (fun _ => rfl), (fun _ => rfl), (by have h := H.f5; simpa [doneSet] using h), (by have h := H.f6; simpa [doneSet] using h), (by have h := H.f7; simpa [doneSet] using h), (by have h := H.f8; simpa [doneSet] using h), (by have h := H.f9; simpa [doneSet] using h), (by have h := H.f11; simpa [doneSet] using h), (by have h := H.o5; simpa [doneSet] using h), (by have h := H.k9; simpa [doneSet] using h), (by have h := H.x9; simpa [doneSet] using h), (by have h := H.k10; simpa [doneSet] using h), (by have h := H.g6_5; simpa [doneSet] using h), (by have h := H.g7_5; simpa [doneSet] using h), (by have h := H.g10_5; simpa [doneSet] using h), (by have h := H.g10_9; simpa [doneSet] using h)⟩⟩
            simp only [putAll, Act.put, List.setIfInBounds_toArray, List.set_cons_succ, List.set_cons_zero]
            all_goals rfl
          · rintro d vs W ⟨v0, v1, v2, v3, v4, v5, v6, v7, v8, v9, v10, v11, a0, c0, X, rfl, H⟩ hn hd
            simp only [putAll, Act.put, List.setIfInBounds_toArray, List.set_cons_succ, List.set_cons_zero]
            have h0 : d 0 = true := hd { on := 0, ground := .data } (by simp) rfl
            have h4 : d 4 = true := hd { on := 4, ground := .data } (by simp) rfl
            have HRW : Hid (Rg 18 pkC W (.slice ax h.st.length cx) h.st) := HRX.out.below H.bel
            obtain rfl := H.f0 h0
            obtain rfl := H.f4 h4
            have HH1 : Hid (Rhm (wr.drew) (h.p) (q) (ax) (h.st.length) (cx) (k) (s) (b) (off) (ls.length) (c) (j) (ok) d W (.agg (plA h.p (.slice ax h.st.length cx))) v1 v2 v3 (.agg (pkA k)) v5 v6 v7 v8 v9 v10 v11 a0 c0 X) := H
            clear H
            have HHN : Hid (d 5 = false) := hn
            have HHD : Hid (d 0 = true ∧ d 4 = true) := ⟨h0, h4⟩
            clear hd hn h0 h4
            go_wp2_with (fail)
            refine (HPU.out W HRW.out).mono ?_
            rintro e W3 ⟨v7, rfl, o7, b7⟩
            have HB7 : Hid (Below W.heap.size W W3) := b7
            obtain ⟨a7, c7, rfl⟩ := o7.form
            have HO7 : Hid (Og 18 pkC 40 W.heap.size W3 (.slice a7 s.length c7) s) := o7
            clear b7 o7
            go_wp2
            have H0 := HH1.out
            have H := HH1.out.below HB7.out
            have hn := HHN.out
            have h0 := HHD.out.1
            have h4 := HHD.out.2
            refine ⟨rfl, [.agg (plA h.p (.slice ax h.st.length cx)), v1, v2, v3, .agg (pkA k), .tuple #[.agg (plA q (.slice a7 s.length c7)), .bool ok], v6, v7, v8, v9, v10, v11], ?_, .agg (plA h.p (.slice ax h.st.length cx)), v1, v2, v3, .agg (pkA k), .tuple #[.agg (plA q (.slice a7 s.length c7)), .bool ok], v6, v7, v8, v9, v10, v11, a7, c7, X, rfl, ⟨H.bel, (fun _ => rfl), (by have h := H.f1; simpa [doneSet] using h), (by have h := H.f2; simpa [doneSet] using h), (by have h := H.f3; simpa [doneSet] using h), (fun _ => rfl), (fun _ => rfl), (fun e => absurd (H0.g6_5 (by simpa [doneSet] using e)) (by rw [hn]; simp)), (fun e => absurd (H0.g7_5 (by simpa [doneSet] using e)) (by rw [hn]; simp)), (by have h := H.f8; simpa [doneSet] using h), (by have h := H.f9; simpa [doneSet] using h), (by have h := H.f11; simpa [doneSet] using h), (fun _ => HO7.out.mono H0.bel.size), (by have h := H.k9; simpa [doneSet] using h), (by have h := H.x9; simpa [doneSet] using h), (fun e => absurd (H0.g10_5 (by simpa [doneSet] using e)) (by rw [hn]; simp)), (fun _ => by simp [doneSet]), (fun _ => by simp [doneSet]), (fun _ => by simp [doneSet]), (by have h := H.g10_9; simpa [doneSet] using h)⟩⟩
            simp only [putAll, Act.put, List.setIfInBounds_toArray, List.set_cons_succ, List.set_cons_zero]
            all_goals rfl
          · rintro d vs W ⟨v0, v1, v2, v3, v4, v5, v6, v7, v8, v9, v10, v11, a0, c0, X, rfl, H⟩ hn hd
            simp only [putAll, Act.put, List.setIfInBounds_toArray, List.set_cons_succ, List.set_cons_zero]
            have h5 : d 5 = true := hd { on := 5, ground := .data } (by simp) rfl
            obtain rfl := H.f5 h5
            have HH1 : Hid (Rhm (wr.drew) (h.p) (q) (ax) (h.st.length) (cx) (k) (s) (b) (off) (ls.length) (c) (j) (ok) d W v0 v1 v2 v3 v4 (.tuple #[.agg (plA q (.slice a0 s.length c0)), .bool ok]) v6 v7 v8 v9 v10 v11 a0 c0 X) := H
            clear H
            have HHN : Hid (d 6 = false) := hn
            have HHD : Hid (d 5 = true) := h5
            clear hd hn h5
            go_wp2
            have H0 := HH1.out
            have H := HH1.out
            have hn := HHN.out
            have h5 := HHD.out
            refine ⟨rfl, [v0, v1, v2, v3, v4, .tuple #[.agg (plA q (.slice a0 s.length c0)), .bool ok], .tuple #[.agg (plA q (.slice a0 s.length c0)), .bool ok], v7, v8, v9, v10, v11], ?_, v0, v1, v2, v3, v4, .tuple #[.agg (plA q (.slice a0 s.length c0)), .bool ok], .tuple #[.agg (plA q (.slice a0 s.length c0)), .bool ok], v7, v8, v9, v10, v11, a0, c0, X, rfl, ⟨H.bel, (by have h := H.f0; simpa [doneSet] using h), (by have h := H.f1; simpa [doneSet] using h), (by have h := H.f2; simpa [doneSet] using h), (by have h := H.f3; simpa [doneSet] using h), (by have h := H.f4; simpa [doneSet] using h), (fun _ => rfl), (fun _ => rfl), (by have h := H.f7; simpa [doneSet] using h), (by have h := H.f8; simpa [doneSet] using h), (by have h := H.f9; simpa [doneSet] using h), (by have h := H.f11; simpa [doneSet] using h), (by have h := H.o5; simpa [doneSet] using h), (by have h := H.k9; simpa [doneSet] using h), (by have h := H.x9; simpa [doneSet] using h), (by have h := H.k10; simpa [doneSet] using h), (fun _ => by simpa [doneSet] using h5), (by have h := H.g7_5; simpa [doneSet] using h), (by have h := H.g10_5; simpa [doneSet] using h), (by have h := H.g10_9; simpa [doneSet] using h)⟩⟩
            simp only [putAll, Act.put, List.setIfInBounds_toArray, List.set_cons_succ, List.set_cons_zero]
            all_goals rfl
          · rintro d vs W ⟨v0, v1, v2, v3, v4, v5, v6, v7, v8, v9, v10, v11, a0, c0, X, rfl, H⟩ hn hd
            simp only [putAll, Act.put, List.setIfInBounds_toArray, List.set_cons_succ, List.set_cons_zero]
            have h6 : d 6 = true := hd { on := 6, ground := .data } (by simp) rfl
            have h5 := H.g6_5 h6
            obtain rfl := H.f6 h6
            have HH1 : Hid (Rhm (wr.drew) (h.p) (q) (ax) (h.st.length) (cx) (k) (s) (b) (off) (ls.length) (c) (j) (ok) d W v0 v1 v2 v3 v4 v5 (.tuple #[.agg (plA q (.slice a0 s.length c0)), .bool ok]) v7 v8 v9 v10 v11 a0 c0 X) := H
            clear H
            have HHN : Hid (d 7 = false) := hn
            have HHD : Hid (d 6 = true) := h6
            clear hd hn h6
            go_wp2
            have H0 := HH1.out
            have H := HH1.out
            have hn := HHN.out
            have h6 := HHD.out
            refine ⟨rfl, [v0, v1, v2, v3, v4, v5, .tuple #[.agg (plA q (.slice a0 s.length c0)), .bool ok], .agg (plA q (.slice a0 s.length c0)), v8, v9, v10, v11], ?_, v0, v1, v2, v3, v4, v5, .tuple #[.agg (plA q (.slice a0 s.length c0)), .bool ok], .agg (plA q (.slice a0 s.length c0)), v8, v9, v10, v11, a0, c0, X, rfl, ⟨H.bel, (by have h := H.f0; simpa [doneSet] using h), (by have h := H.f1; simpa [doneSet] using h), (by have h := H.f2; simpa [doneSet] using h), (by have h := H.f3; simpa [doneSet] using h), (by have h := H.f4; simpa [doneSet] using h), (by have h := H.f5; simpa [doneSet] using h), (fun _ => rfl), (fun _ => rfl), (by have h := H.f8; simpa [doneSet] using h), (by have h := H.f9; simpa [doneSet] using h), (by have h := H.f11; simpa [doneSet] using h), (by have h := H.o5; simpa [doneSet] using h), (by have h := H.k9; simpa [doneSet] using h), (by have h := H.x9; simpa [doneSet] using h), (by have h := H.k10; simpa [doneSet] using h), (by have h := H.g6_5; simpa [doneSet] using h), (fun _ => by simpa [doneSet] using h5), (by have h := H.g10_5; simpa [doneSet] using h), (by have h := H.g10_9; simpa [doneSet] using h)⟩⟩
            simp only [putAll, Act.put, List.setIfInBounds_toArray, List.set_cons_succ, List.set_cons_zero]
            all_goals rfl
          · rintro d vs W ⟨v0, v1, v2, v3, v4, v5, v6, v7, v8, v9, v10, v11, a0, c0, X, rfl, H⟩ hn hd
            simp only [putAll, Act.put, List.setIfInBounds_toArray, List.set_cons_succ, List.set_cons_zero]
            have h6 : d 6 = true := hd { on := 6, ground := .data } (by simp) rfl
            obtain rfl := H.f6 h6
            have HH1 : Hid (Rhm (wr.drew) (h.p) (q) (ax) (h.st.length) (cx) (k) (s) (b) (off) (ls.length) (c) (j) (ok) d W v0 v1 v2 v3 v4 v5 (.tuple #[.agg (plA q (.slice a0 s.length c0)), .bool ok]) v7 v8 v9 v10 v11 a0 c0 X) := H
            clear H
            have HHN : Hid (d 8 = false) := hn
            have HHD : Hid (d 6 = true) := h6
            clear hd hn h6
            go_wp2
            have H0 := HH1.out
            have H := HH1.out
            have hn := HHN.out
            have h6 := HHD.out
            refine ⟨rfl, [v0, v1, v2, v3, v4, v5, .tuple #[.agg (plA q (.slice a0 s.length c0)), .bool ok], v7, .bool ok, v9, v10, v11], ?_, v0, v1, v2, v3, v4, v5, .tuple #[.agg (plA q (.slice a0 s.length c0)), .bool ok], v7, .bool ok, v9, v10, v11, a0, c0, X, rfl, ⟨H.bel, (by have h := H.f0; simpa [doneSet] using h), (by have h := H.f1; simpa [doneSet] using h), (by have h := H.f2; simpa [doneSet] using h), (by have h := H.f3; simpa [doneSet] using h), (by have h := H.f4; simpa [doneSet] using h), (by have h := H.f5; simpa [doneSet] using h), (fun _ => rfl), (by have h := H.f7; simpa [doneSet] using h), (fun _ => rfl), (by have h := H.f9; simpa [doneSet] using h), (by have h := H.f11; simpa [doneSet] using h), (by have h := H.o5; simpa [doneSet] using h), (by have h := H.k9; simpa [doneSet] using h), (by have h := H.x9; simpa [doneSet] using h), (by have h := H.k10; simpa [doneSet] using h), (by have h := H.g6_5; simpa [doneSet] using h), (by have h := H.g7_5; simpa [doneSet] using h), (by have h := H.g10_5; simpa [doneSet] using h), (by have h := H.g10_9; simpa [doneSet] using h)⟩⟩
            simp only [putAll, Act.put, List.setIfInBounds_toArray, List.set_cons_succ, List.set_cons_zero]
            all_goals rfl
          · rintro d vs W ⟨v0, v1, v2, v3, v4, v5, v6, v7, v8, v9, v10, v11, a0, c0, X, rfl, H⟩ hn hd
            simp only [putAll, Act.put, List.setIfInBounds_toArray, List.set_cons_succ, List.set_cons_zero]
            have HH1 : Hid (Rhm (wr.drew) (h.p) (q) (ax) (h.st.length) (cx) (k) (s) (b) (off) (ls.length) (c) (j) (ok) d W v0 v1 v2 v3 v4 v5 v6 v7 v8 v9 v10 v11 a0 c0 X) := H
            clear H
            have HHN : Hid (d 9 = false) := hn
            clear hd hn
            go_wp2
            have H0 := HH1.out
            have H := HH1.out.below ((Below.refl _ W).alloc (Nat.le_refl _) (.cells (plA ⟨0, 0, 0, 0, 0⟩ (.slice none 0 0)) 42))
            have hn := HHN.out
            refine ⟨rfl, [v0, v1, v2, v3, v4, v5, v6, v7, v8, .pointer (some ⟨W.heap.size, 0, none⟩), v10, v11], ?_, v0, v1, v2, v3, v4, v5, v6, v7, v8, .pointer (some ⟨W.heap.size, 0, none⟩), v10, v11, a0, c0, W.heap.size, rfl, ⟨H.bel, (by have h := H.f0; simpa [doneSet] using h), (by have h := H.f1; simpa [doneSet] using h), (by have h := H.f2; simpa [doneSet] using h), (by have h := H.f3; simpa [doneSet] using h), (by have h := H.f4; simpa [doneSet] using h), (by have h := H.f5; simpa [doneSet] using h), (by have h := H.f6; simpa [doneSet] using h), (by have h := H.f7; simpa [doneSet] using h), (by have h := H.f8; simpa [doneSet] using h), (fun _ => rfl), (by have h := H.f11; simpa [doneSet] using h), (by have h := H.o5; simpa [doneSet] using h), (fun _ _ => Blk.new _ _ _), (fun _ => H0.bel.size), (fun e => absurd (H0.g10_9 (by simpa [doneSet] using e)) (by rw [hn]; simp)), (by have h := H.g6_5; simpa [doneSet] using h), (by have h := H.g7_5; simpa [doneSet] using h), (by have h := H.g10_5; simpa [doneSet] using h), (fun _ => by simp [doneSet])⟩⟩
            simp only [putAll, Act.put, List.setIfInBounds_toArray, List.set_cons_succ, List.set_cons_zero]
            all_goals rfl
          · rintro d vs W ⟨v0, v1, v2, v3, v4, v5, v6, v7, v8, v9, v10, v11, a0, c0, X, rfl, H⟩ hn hd
            simp only [putAll, Act.put, List.setIfInBounds_toArray, List.set_cons_succ, List.set_cons_zero]
            have h9 : d 9 = true := hd { on := 9, ground := .data } (by simp) rfl
            have h7 : d 7 = true := hd { on := 7, ground := .data } (by simp) rfl
            have HK8 : Hid (Blk W X (plA ⟨0, 0, 0, 0, 0⟩ (.slice none 0 0)) 42) := H.k9 h9 hn
            have HX8 : Hid (wr.drew.heap.size ≤ X) := H.x9 h9
            have h5 : d 5 = true := H.g7_5 h7
            have HO4 : Hid (Og 18 pkC 40 wr.drew.heap.size W (.slice a0 s.length c0) s) := H.o5 h5
            have HH4 : Hid (d 5 = true) := h5
            obtain rfl := H.f9 h9
            obtain rfl := H.f7 h7
            have HH1 : Hid (Rhm (wr.drew) (h.p) (q) (ax) (h.st.length) (cx) (k) (s) (b) (off) (ls.length) (c) (j) (ok) d W v0 v1 v2 v3 v4 v5 v6 (.agg (plA q (.slice a0 s.length c0))) v8 (.pointer (some ⟨X, 0, none⟩)) v10 v11 a0 c0 X) := H
            clear H
            have HHN : Hid (d 10 = false) := hn
            have HHD : Hid (d 9 = true ∧ d 7 = true) := ⟨h9, h7⟩
            clear hd hn h9 h7
            go_wp2_with (refine wpList_store_row rfl 42 _ _ rfl X (plA q (.slice a0 s.length c0)) rfl rfl 42 (plA ⟨0, 0, 0, 0, 0⟩ (.slice none 0 0)) HK8.out (by kernel_rfl) rfl (by simp [Value.oneCell']) ?_)
            have H0 := HH1.out
            have H := HH1.out
            have hn := HHN.out
            have h9 := HHD.out.1
            have h7 := HHD.out.2
            refine ⟨rfl, [v0, v1, v2, v3, v4, v5, v6, .agg (plA q (.slice a0 s.length c0)), v8, .pointer (some ⟨X, 0, none⟩), undef, v11], ?_, v0, v1, v2, v3, v4, v5, v6, .agg (plA q (.slice a0 s.length c0)), v8, .pointer (some ⟨X, 0, none⟩), undef, v11, a0, c0, X, rfl, ⟨(belowRow H0.bel _ HX8.out _), (by have h := H.f0; simpa [doneSet] using h), (by have h := H.f1; simpa [doneSet] using h), (by have h := H.f2; simpa [doneSet] using h), (by have h := H.f3; simpa [doneSet] using h), (by have h := H.f4; simpa [doneSet] using h), (by have h := H.f5; simpa [doneSet] using h), (by have h := H.f6; simpa [doneSet] using h), (fun _ => rfl), (by have h := H.f8; simpa [doneSet] using h), (fun _ => rfl), (by have h := H.f11; simpa [doneSet] using h), (fun _ => World.ownsRow.kept HO4.out (grown_setRow _ _ _) (.inr (og_ne HO4.out HK8.out (by decide)))), (fun _ e => absurd e (by simp [doneSet])), (by have h := H.x9; simpa [doneSet] using h), (fun _ => HK8.out.row _), (by have h := H.g6_5; simpa [doneSet] using h), (by have h := H.g7_5; simpa [doneSet] using h), (fun _ => by simpa [doneSet] using HH4.out), (fun _ => by simpa [doneSet] using h9)⟩⟩
            simp only [putAll, Act.put, List.setIfInBounds_toArray, List.set_cons_succ, List.set_cons_zero]
            all_goals rfl
          · rintro d vs W ⟨v0, v1, v2, v3, v4, v5, v6, v7, v8, v9, v10, v11, a0, c0, X, rfl, H⟩ hn hd
            simp only [putAll, Act.put, List.setIfInBounds_toArray, List.set_cons_succ, List.set_cons_zero]
            have h8 : d 8 = true := hd { on := 8, ground := .data } (by simp) rfl
            obtain rfl := H.f8 h8
            have HH1 : Hid (Rhm (wr.drew) (h.p) (q) (ax) (h.st.length) (cx) (k) (s) (b) (off) (ls.length) (c) (j) (ok) d W v0 v1 v2 v3 v4 v5 v6 v7 (.bool ok) v9 v10 v11 a0 c0 X) := H
            clear H
            have HHN : Hid (d 11 = false) := hn
            have HHD : Hid (d 8 = true) := h8
            clear hd hn h8
            go_wp2
            have H0 := HH1.out
            have H := HH1.out
            have hn := HHN.out
            have h8 := HHD.out
            refine ⟨rfl, [v0, v1, v2, v3, v4, v5, v6, v7, .bool ok, v9, v10, .bool ok], ?_, v0, v1, v2, v3, v4, v5, v6, v7, .bool ok, v9, v10, .bool ok, a0, c0, X, rfl, ⟨H.bel, (by have h := H.f0; simpa [doneSet] using h), (by have h := H.f1; simpa [doneSet] using h), (by have h := H.f2; simpa [doneSet] using h), (by have h := H.f3; simpa [doneSet] using h), (by have h := H.f4; simpa [doneSet] using h), (by have h := H.f5; simpa [doneSet] using h), (by have h := H.f6; simpa [doneSet] using h), (by have h := H.f7; simpa [doneSet] using h), (fun _ => rfl), (by have h := H.f9; simpa [doneSet] using h), (fun _ => rfl), (by have h := H.o5; simpa [doneSet] using h), (by have h := H.k9; simpa [doneSet] using h), (by have h := H.x9; simpa [doneSet] using h), (by have h := H.k10; simpa [doneSet] using h), (by have h := H.g6_5; simpa [doneSet] using h), (by have h := H.g7_5; simpa [doneSet] using h), (by have h := H.g10_5; simpa [doneSet] using h), (by have h := H.g10_9; simpa [doneSet] using h)⟩⟩
            simp only [putAll, Act.put, List.setIfInBounds_toArray, List.set_cons_succ, List.set_cons_zero]
            all_goals rfl
          rintro d vs W2 ⟨v0, v1, v2, v3, v4, v5, v6, v7, v8, v9, v10, v11, a0, c0, X, rfl, H⟩ hn
          obtain rfl := H.f0 (hn 0 (by decide))
          obtain rfl := H.f1 (hn 1 (by decide))
          obtain rfl := H.f2 (hn 2 (by decide))
          obtain rfl := H.f3 (hn 3 (by decide))
          obtain rfl := H.f4 (hn 4 (by decide))
          obtain rfl := H.f5 (hn 5 (by decide))
          obtain rfl := H.f6 (hn 6 (by decide))
          obtain rfl := H.f7 (hn 7 (by decide))
          obtain rfl := H.f8 (hn 8 (by decide))
          obtain rfl := H.f9 (hn 9 (by decide))
          obtain rfl := H.f11 (hn 11 (by decide))
          have b2 : Below wr.heap.size wr W2 := (Below.refl _ wr).drew.trans H.bel
          have o2 : Og 18 pkC 40 wr.heap.size W2 (.slice a0 s.length c0) s := H.o5 (hn 5 (by decide))
          have HK2 : Hid (Blk W2 X (plA q (.slice a0 s.length c0)) 42) := H.k10 (hn 10 (by decide))
          have HP2 : Hid (Blk W2 GP (plA h.p (.slice ax h.st.length cx)) 42) := HKP0.out.below b2 HKP0.out.lt
          have u2 : Ow .i64 3 w.heap.size W2 (.slice au h.lv.length cu) h.lv := HUU.out.below b2
          have HB2 : Hid (Below w.heap.size w W2) := belowCall hBr.out b2 hBr.out.size
          have HZ2 : Hid (Blk W2 R (plA ⟨0, 0, 0, 0, 0⟩ (.slice none 0 0)) 42) := hZr.out.below b2 hZr.out.lt
          obtain ⟨W3, hW3⟩ : ∃ W, W2.setRow GP (plA q (.slice a0 s.length c0)) = W := ⟨_, rfl⟩
          have g3 : W2.grownBy W3 (some GP) := by rw [← hW3]; exact grown_setRow _ _ _
          have HK3 : Hid (Blk W3 GP (plA q (.slice a0 s.length c0)) 42) := by rw [← hW3]; exact HP2.out.row _
          have HR3 : Hid (Rg 18 pkC W3 (.slice a0 s.length c0) s) := Og.rd (e := 40) (base := wr.heap.size) pkC_len (World.ownsRow.kept o2 g3 (.inr (og_ne o2 HP2.out (by decide))))
          have HX3 : Hid (∀ k, (Value.slice a0 s.length c0).ownBlock = some k → GP < k) := fun k e => by have := (o2.lt k e).1; have := HKP0.out.lt; omega
          have HU3 : Hid (Ow .i64 3 w.heap.size W3 (.slice au h.lv.length cu) h.lv) := World.ownsRow.kept u2 g3 (.inr (ow_ne u2 HP2.out (by decide)))
          have HB3 : Hid (Below w.heap.size w W3) := HB2.out.trans (grown_below g3 HB2.out.size (fun k e => by have := Option.some.inj e; have := HRG.out; omega))
          have HZ3 : Hid (Blk W3 R (plA ⟨0, 0, 0, 0, 0⟩ (.slice none 0 0)) 42) := HZ2.out.grownO g3 (fun e => by have := Option.some.inj e; have := HRG.out; omega)
          have HW3 : Hid (W2.setRow GP (plA q (.slice a0 s.length c0)) = W3) := hW3
          clear H hn b2 o2 u2 hW3 g3 HKP HKP0 HRX HUU hBr hZr HPU HRL hOX
          simp only [putAll, Act.put, List.setIfInBounds_toArray, List.set_cons_succ, List.set_cons_zero]
          cases ok with
          | false =>
            have HNP : Hid (¬ PuP h.p k h.st) := fun hP => by have := (HC.out.1 hP).1; cases this
            have HN : Hid (hrF ls dp n = none) := by
              show _ = _
              rw [hrF_se HPK.out]
              refine seN_none (j := j + 1) ?_ _ (by have := HJB.out; omega)
              rw [seN, hNs.out]
              show (if j < ls.length then cmF h (kAt ls j) else poF h) = none
              rw [if_pos hlt, HKA.out.1]; exact cm_no HNP.out
            go_wp2_with (refine wpList_store_row rfl 42 _ _ rfl R (plA ⟨0, 0, 0, 0, 0⟩ (.slice none 0 0)) rfl rfl 42 (plA ⟨0, 0, 0, 0, 0⟩ (.slice none 0 0)) HZ2.out (by kernel_rfl) rfl (by simp [Value.oneCell']) ?_)
            exact bodyPost_ret (v := .tuple #[.slice (some ⟨N0, 0, none⟩) 0 0, .agg (plA ⟨0, 0, 0, 0, 0⟩ (.slice none 0 0)), .bool false]) (results_H3 rfl _ _ R _ _ _ _ rfl rfl rfl (HZ2.out.row _)) rfl ⟨belowRow HB2.out _ (Nat.le_of_eq HW0.out.2.1) _, fun _ => ⟨_, rfl, rd_nil _ _ _⟩, fun h e => by rw [HN.out] at e; cases e⟩
          | true =>
            have HPP1 : Hid (PuP h.p k h.st) := by
              by_cases hP : PuP h.p k h.st
              · exact hP
              · have := HC.out.2 hP; cases this
            have HSQ : Hid (∀ b', HsB ⟨q, s, h.lv, b'⟩ (2 * j + 1)) := fun b' => ⟨by have := hSB.out.st; have := HSN.out.1; dsimp only; omega, by have := hSB.out.lv; dsimp only; omega, HSN.out.2⟩
            have HSE : Hid (seN ls (h0F ls dp) (j + 1) = cmF h k) := by
              show _ = _
              rw [seN, hNs.out]
              show (if j < ls.length then cmF h (kAt ls j) else poF h) = _
              rw [if_pos hlt, HKA.out.1]
            have HWT : Hid (¬ (h.b = true ∨ RdP q s) → seN ls (h0F ls dp) (j + 1) = some ⟨q, s, h.lv, false⟩) := fun hh => by
              rw [HSE.out]; obtain ⟨-, rfl, rfl⟩ := HC.out.1 HPP1.out; exact cm_wait HPP1.out hh
            have HPL : Hid ((h.b = true ∨ RdP q s) → seN ls (h0F ls dp) (j + 1) = poF ⟨q, s, h.lv, true⟩) := fun hh => by
              rw [HSE.out]; obtain ⟨-, rfl, rfl⟩ := HC.out.1 HPP1.out; exact cm_play HPP1.out hh
            have HHB : Hid (h.b = bb) := hbb
            clear HC HSN HSE
            go_upto_region 20 with (first | refine wpList_load_row rfl 42 _ rfl X rfl 42 (plA q (.slice a0 s.length c0)) (0, 0) _ HK2.out Tryd.underlying42 rfl (by kernel_rfl) ?_ | refine wpList_store_row rfl 42 _ _ rfl GP (plA q (.slice a0 s.length c0)) rfl rfl 42 (plA h.p (.slice ax h.st.length cx)) HP2.out (by kernel_rfl) rfl (by simp [Value.oneCell']) ?_)
            rw [HW3.out]
            clear HW3 HK2 HP2 HB2 HZ2
            cases bb with
            | true =>
              have HNX : Hid (seN ls (h0F ls dp) (j + 1) = poF ⟨q, s, h.lv, true⟩) := HPL.out (.inl HHB.out)
              have HSg : Hid (HsB ⟨q, s, h.lv, true⟩ (2 * j + 1)) := HSQ.out true
              have HKg := HK3
              have HRg := HR3
              have HUg := HU3
              have HBg := HB3
              have HZg := HZ3
              clear HK3 HR3 HU3 HB3 HZ3 HX3 HPL HWT
              go_wp2_with (refine wpList_load_row rfl 42 _ rfl GP rfl 42 (plA q (.slice a0 s.length c0)) (0, 0) _ HKg.out Tryd.underlying42 rfl (by kernel_rfl) ?_)
              refine (playM_x ⟨q, s, h.lv, true⟩ (.slice a0 s.length c0) W3 HRg.out (2 * j + 1) HSg.out (by have := HJB.out; omega)).mono ?_
              rintro e W7 ⟨q7, s7, o7, ⟨x7, y7, rfl, r7, w7, ow7, b7⟩, l7, hx7⟩
              obtain ⟨a7, c7, rfl⟩ : ∃ a c, x7 = .slice a s7.length c := by obtain ⟨a, c, e, -⟩ := r7; exact ⟨a, c, e⟩
              obtain ⟨a8, c8, rfl⟩ := ow7.form'
              obtain ⟨X7, hX7⟩ : ∃ X, W7.heap.size = X := ⟨_, rfl⟩
              obtain ⟨W8, hW8⟩ : ∃ W, W7.alloc (.cells (plA ⟨0, 0, 0, 0, 0⟩ (.slice none 0 0)) 42) = W := ⟨_, rfl⟩
              obtain ⟨W9, hW9⟩ : ∃ W, W8.setRow X7 (plA q7 (.slice a7 s7.length c7)) = W := ⟨_, rfl⟩
              have k8 : Blk W8 X7 (plA ⟨0, 0, 0, 0, 0⟩ (.slice none 0 0)) 42 := by rw [← hW8, ← hX7]; exact Blk.new _ _ _
              have k9 : Blk W9 X7 (plA q7 (.slice a7 s7.length c7)) 42 := by rw [← hW9]; exact k8.row _
              have e79 : Below W7.heap.size W7 W9 := by
                rw [← hW9]
                exact belowRow (by rw [← hW8]; exact (Below.refl _ _).alloc (Nat.le_refl _) _) _ (Nat.le_of_eq hX7) _
              have b9 : Below W3.heap.size W3 W9 := belowCall b7 e79 b7.size
              have HB9 : Hid (Below w.heap.size w W9) := belowCall HBg.out b9 HBg.out.size
              have HZ9 : Hid (Blk W9 R (plA ⟨0, 0, 0, 0, 0⟩ (.slice none 0 0)) 42) := HZg.out.below b9 HZg.out.lt
              have kp9 : Blk W9 GP (plA q (.slice a0 s.length c0)) 42 := HKg.out.below b9 HKg.out.lt
              have r9 : Rg 18 pkC W9 (.slice a7 s7.length c7) s7 := r7.below e79
              have y9 : Ow .i64 3 W3.heap.size W9 (.slice a8 o7.length c8) o7 := ow7.below e79
              have u9 : Ow .i64 3 w.heap.size W9 (.slice au h.lv.length cu) h.lv := HUg.out.below b9
              have n9 : ∀ k, (Value.slice a7 s7.length c7).ownBlock = some k → W3.heap.size ≤ k := fun k e => (w7 k e).1
              obtain ⟨W10, hW10⟩ : ∃ W, W9.setRow GP (plA q7 (.slice a7 s7.length c7)) = W := ⟨_, rfl⟩
              have g10 : W9.grownBy W10 (some GP) := by rw [← hW10]; exact grown_setRow _ _ _
              have hGW := HKg.out.lt
              have HK10 : Hid (Blk W10 GP (plA q7 (.slice a7 s7.length c7)) 42) := by rw [← hW10]; exact kp9.row _
              have HZ10 : Hid (Blk W10 R (plA ⟨0, 0, 0, 0, 0⟩ (.slice none 0 0)) 42) := HZ9.out.grownO g10 (fun e => by have := Option.some.inj e; have := HRG.out; omega)
              have HR10 : Hid (Rg 18 pkC W10 (.slice a7 s7.length c7) s7) := r9.grown g10 (.inr (.inr (fun e => by have := n9 GP e; omega)))
              have HU10 : Hid (Ow .i64 3 w.heap.size W10 (.slice au h.lv.length cu) h.lv) := World.ownsRow.kept u9 g10 (.inr (ow_ne u9 kp9 (by decide)))
              have HY10 : Hid (Rd .i64 W10 (.slice a8 o7.length c8) o7) := Ow.rd (e := 3) (base := W3.heap.size) (World.ownsRow.kept y9 g10 (.inr (ow_ne y9 kp9 (by decide))))
              have HB10 : Hid (Below w.heap.size w W10) := HB9.out.trans (grown_below g10 HB9.out.size (fun k e => by have := Option.some.inj e; have := HRG.out; omega))
              have HN9 : Hid (∀ k, (Value.slice a7 s7.length c7).ownBlock = some k → W3.heap.size ≤ k) := n9
              have HUL : Hid (∀ k, (Value.slice au h.lv.length cu).ownBlock = some k → w.heap.size ≤ k ∧ k < W3.heap.size) := fun k e => HUg.out.lt' k e
              have HK8 : Hid (Blk W8 X7 (plA ⟨0, 0, 0, 0, 0⟩ (.slice none 0 0)) 42) := k8
              have HK9 : Hid (Blk W9 X7 (plA q7 (.slice a7 s7.length c7)) 42) := k9
              have HP9 : Hid (Blk W9 GP (plA q (.slice a0 s.length c0)) 42) := kp9
              have HW8 : Hid (W7.alloc (.cells (plA ⟨0, 0, 0, 0, 0⟩ (.slice none 0 0)) 42) = W8 ∧ W7.heap.size = X7 ∧ W8.setRow X7 (plA q7 (.slice a7 s7.length c7)) = W9 ∧ W9.setRow GP (plA q7 (.slice a7 s7.length c7)) = W10) := ⟨hW8, hX7, hW9, hW10⟩
              have HX7 : Hid (∀ x, poF ⟨q, s, h.lv, true⟩ = some x → x = ⟨q7, s7, h.lv ++ o7, true⟩) := hx7
              have HL7 : Hid (o7.length ≤ 30) := l7
              have HGW : Hid (GP < W3.heap.size) := hGW
              clear r7 w7 ow7 b7 l7 hx7 hX7 hW8 hW9 k8 k9 e79 b9 kp9 r9 y9 u9 n9 hW10 g10 hGW HKg HRg HUg HBg HZg
              obtain ⟨oc, hoc⟩ : ∃ x, poF ⟨q, s, h.lv, true⟩ = x := ⟨_, rfl⟩
              have HOC : Hid (poF ⟨q, s, h.lv, true⟩ = oc) := hoc
              rw [hoc]
              clear hoc
              cases oc with
              | none =>
                have e5 : (none : Option HSt).isSome = false := rfl
                rw [e5]
                clear e5
                have HN : Hid (hrF ls dp n = none) := by
                  show _ = _
                  rw [hrF_se HPK.out]; exact seN_none (HNX.out.trans HOC.out) _ (by have := HJB.out; omega)
                go_wp2_with (first | (rw [HW8.out.1, HW8.out.2.1]; refine wpList_store_row rfl 42 _ _ rfl X7 (plA q7 (.slice a7 s7.length c7)) rfl rfl 42 (plA ⟨0, 0, 0, 0, 0⟩ (.slice none 0 0)) HK8.out (by kernel_rfl) rfl (by simp [Value.oneCell']) ?_; rw [HW8.out.2.2.1]) | refine wpList_store_row rfl 42 _ _ rfl R (plA ⟨0, 0, 0, 0, 0⟩ (.slice none 0 0)) rfl rfl 42 (plA ⟨0, 0, 0, 0, 0⟩ (.slice none 0 0)) HZ9.out (by kernel_rfl) rfl (by simp [Value.oneCell']) ?_)
                exact bodyPost_ret (v := .tuple #[.slice (some ⟨N0, 0, none⟩) 0 0, .agg (plA ⟨0, 0, 0, 0, 0⟩ (.slice none 0 0)), .bool false]) (results_H3 rfl _ _ R _ _ _ _ rfl rfl rfl (HZ9.out.row _)) rfl ⟨belowRow HB9.out _ (Nat.le_of_eq HW0.out.2.1) _, fun _ => ⟨_, rfl, rd_nil _ _ _⟩, fun h e => by rw [HN.out] at e; cases e⟩
              | some h9 =>
                have e5 : (some h9).isSome = true := rfl
                rw [e5]
                clear e5
                have HSN : Hid (HsB h9 (2 * (j + 1))) := by
                  have := HSg.out.po HOC.out
                  exact ⟨Nat.le_trans this.st (by omega), Nat.le_trans this.lv (by omega), this.by'⟩
                have HNN : Hid (seN ls (h0F ls dp) (j + 1) = some h9) := HNX.out.trans HOC.out
                obtain rfl := HX7.out h9 HOC.out
                have S10 : Hid (w.heap.size ≤ W10.heap.size) := HB10.out.size
                have HLL : Hid (h.lv.length ≤ 100000) := by
                  have hq : h.lv.length ≤ 30 * (2 * j + 1) := HSg.out.lv
                  have := HJB.out; show _ ≤ _; omega
                clear HSg HNX HX7 HOC
                go_wp2_with (first | (rw [HW8.out.1, HW8.out.2.1]; refine wpList_store_row rfl 42 _ _ rfl X7 (plA q7 (.slice a7 s7.length c7)) rfl rfl 42 (plA ⟨0, 0, 0, 0, 0⟩ (.slice none 0 0)) HK8.out (by kernel_rfl) rfl (by simp [Value.oneCell']) ?_; rw [HW8.out.2.2.1]) | refine wpList_load_row rfl 42 _ rfl X7 rfl 42 (plA q7 (.slice a7 s7.length c7)) (0, 0) _ HK9.out Tryd.underlying42 rfl (by kernel_rfl) ?_ | (refine wpList_store_row rfl 42 _ _ rfl GP (plA q7 (.slice a7 s7.length c7)) rfl rfl 42 (plA q (.slice a0 s.length c0)) HP9.out (by kernel_rfl) rfl (by simp [Value.oneCell']) ?_; rw [HW8.out.2.2.2]) | (at_builtin; refine appIs rfl _ _ rfl w.heap.size (.slice au h.lv.length cu) h.lv rfl HU10.out (.slice a8 o7.length c8) o7 rfl HY10.out (by have := HLL.out; have := HL7.out; omega) S10.out ?_))
                intro z W11 o11 r11 s11
                obtain ⟨az, cz, rfl⟩ := o11.form'
                have HK11 : Hid (Blk W11 GP (plA q7 (.slice a7 s7.length c7)) 42) := HK10.out.grownO r11 (ow_ne HU10.out HK10.out (by decide))
                have HZ11 : Hid (Blk W11 R (plA ⟨0, 0, 0, 0, 0⟩ (.slice none 0 0)) 42) := HZ10.out.grownO r11 (ow_ne HU10.out HZ10.out (by decide))
                have HR11 : Hid (Rg 18 pkC W11 (.slice a7 s7.length c7) s7) := HR10.out.grown r11 (.inr (by
                  cases hv : (Value.slice a7 s7.length c7).ownBlock with
                  | none => exact .inl rfl
                  | some m => exact .inr (fun e => by have := HN9.out m hv; have := (HUL.out m e.symm).2; omega)))
                have HB11 : Hid (Below w.heap.size w W11) := HB10.out.trans (grown_below r11 S10.out (fun k e => (HUL.out k e).1))
                have HU11 : Hid (Ow .i64 3 w.heap.size W11 (.slice az (h.lv ++ o7).length cz) (h.lv ++ o7)) := o11
                have HX11 : Hid (∀ k, (Value.slice a7 s7.length c7).ownBlock = some k → GP < k) := fun k e => by have := HN9.out k e; have := HGW.out; omega
                clear o11 r11 s11 HK10 HZ10 HR10 HU10 HY10 HB10 HN9 HUL HK8 HK9 HP9 HW8 HZ9 HB9 HGW S10
                obtain ⟨NN, hNN⟩ : ∃ N, (h.lv ++ o7).length = N := ⟨_, rfl⟩
                have HNN2 : Hid ((h.lv ++ o7).length = NN) := hNN
                rw [hNN] at HU11 ⊢
                clear hNN
                go_wp2
                go_roundw
                case rel =>
                  obtain rfl := HNN2.out
                  exact ⟨j + 1, _, true, a7, c7, az, cz, rfl, rfl, by go_num, (by have := HJB.out; show _ ≤ _; omega), HNN.out, rfl, HSN.out, HK11.out, HR11.out, HU11.out, HX11.out, HB11.out, HZ11.out⟩
                case measure => simp [intOf]; have := HJB.out; omega
            | false =>
              have y0 := HK3.out.cell 0
              have y1 := HK3.out.cell 1
              have y2 := HK3.out.cell 2
              have y3 := HK3.out.cell 3
              have y4 := HK3.out.cell 4
              have y5 := HK3.out.cell 5
              simp at y0 y1 y2 y3 y4 y5
              go_wp2_with (fail)
              refine (rdM_c q (.slice a0 s.length c0) s W3 HR3.out).mono ?_
              rintro e W4 ⟨rb, rfl, hr, b4⟩
              have HKg : Hid (Blk W4 GP (plA q (.slice a0 s.length c0)) 42) := HK3.out.below b4 HK3.out.lt
              have HRg : Hid (Rg 18 pkC W4 (.slice a0 s.length c0) s) := HR3.out.below b4
              have HUg : Hid (Ow .i64 3 w.heap.size W4 (.slice au h.lv.length cu) h.lv) := HU3.out.below b4
              have HBg : Hid (Below w.heap.size w W4) := belowCall HB3.out b4 HB3.out.size
              have HZg : Hid (Blk W4 R (plA ⟨0, 0, 0, 0, 0⟩ (.slice none 0 0)) 42) := HZ3.out.below b4 HZ3.out.lt
              have HRB : Hid (rb = true ↔ RdP q s) := hr
              clear hr b4 HK3 HR3 HU3 HB3 HZ3 y0 y1 y2 y3 y4 y5
              cases rb with
              | true =>
                have HNX : Hid (seN ls (h0F ls dp) (j + 1) = poF ⟨q, s, h.lv, true⟩) := HPL.out (.inr (HRB.out.1 rfl))
                have HSg : Hid (HsB ⟨q, s, h.lv, true⟩ (2 * j + 1)) := HSQ.out true
                clear HPL HWT HX3
                go_wp2_with (refine wpList_load_row rfl 42 _ rfl GP rfl 42 (plA q (.slice a0 s.length c0)) (0, 0) _ HKg.out Tryd.underlying42 rfl (by kernel_rfl) ?_)
                refine (playM_x ⟨q, s, h.lv, true⟩ (.slice a0 s.length c0) W4 HRg.out (2 * j + 1) HSg.out (by have := HJB.out; omega)).mono ?_
                rintro e W7 ⟨q7, s7, o7, ⟨x7, y7, rfl, r7, w7, ow7, b7⟩, l7, hx7⟩
                obtain ⟨a7, c7, rfl⟩ : ∃ a c, x7 = .slice a s7.length c := by obtain ⟨a, c, e, -⟩ := r7; exact ⟨a, c, e⟩
                obtain ⟨a8, c8, rfl⟩ := ow7.form'
                obtain ⟨X7, hX7⟩ : ∃ X, W7.heap.size = X := ⟨_, rfl⟩
                obtain ⟨W8, hW8⟩ : ∃ W, W7.alloc (.cells (plA ⟨0, 0, 0, 0, 0⟩ (.slice none 0 0)) 42) = W := ⟨_, rfl⟩
                obtain ⟨W9, hW9⟩ : ∃ W, W8.setRow X7 (plA q7 (.slice a7 s7.length c7)) = W := ⟨_, rfl⟩
                have k8 : Blk W8 X7 (plA ⟨0, 0, 0, 0, 0⟩ (.slice none 0 0)) 42 := by rw [← hW8, ← hX7]; exact Blk.new _ _ _
                have k9 : Blk W9 X7 (plA q7 (.slice a7 s7.length c7)) 42 := by rw [← hW9]; exact k8.row _
                have e79 : Below W7.heap.size W7 W9 := by
                  rw [← hW9]
                  exact belowRow (by rw [← hW8]; exact (Below.refl _ _).alloc (Nat.le_refl _) _) _ (Nat.le_of_eq hX7) _
                have b9 : Below W4.heap.size W4 W9 := belowCall b7 e79 b7.size
                have HB9 : Hid (Below w.heap.size w W9) := belowCall HBg.out b9 HBg.out.size
                have HZ9 : Hid (Blk W9 R (plA ⟨0, 0, 0, 0, 0⟩ (.slice none 0 0)) 42) := HZg.out.below b9 HZg.out.lt
                have kp9 : Blk W9 GP (plA q (.slice a0 s.length c0)) 42 := HKg.out.below b9 HKg.out.lt
                have r9 : Rg 18 pkC W9 (.slice a7 s7.length c7) s7 := r7.below e79
                have y9 : Ow .i64 3 W4.heap.size W9 (.slice a8 o7.length c8) o7 := ow7.below e79
                have u9 : Ow .i64 3 w.heap.size W9 (.slice au h.lv.length cu) h.lv := HUg.out.below b9
                have n9 : ∀ k, (Value.slice a7 s7.length c7).ownBlock = some k → W4.heap.size ≤ k := fun k e => (w7 k e).1
                obtain ⟨W10, hW10⟩ : ∃ W, W9.setRow GP (plA q7 (.slice a7 s7.length c7)) = W := ⟨_, rfl⟩
                have g10 : W9.grownBy W10 (some GP) := by rw [← hW10]; exact grown_setRow _ _ _
                have hGW := HKg.out.lt
                have HK10 : Hid (Blk W10 GP (plA q7 (.slice a7 s7.length c7)) 42) := by rw [← hW10]; exact kp9.row _
                have HZ10 : Hid (Blk W10 R (plA ⟨0, 0, 0, 0, 0⟩ (.slice none 0 0)) 42) := HZ9.out.grownO g10 (fun e => by have := Option.some.inj e; have := HRG.out; omega)
                have HR10 : Hid (Rg 18 pkC W10 (.slice a7 s7.length c7) s7) := r9.grown g10 (.inr (.inr (fun e => by have := n9 GP e; omega)))
                have HU10 : Hid (Ow .i64 3 w.heap.size W10 (.slice au h.lv.length cu) h.lv) := World.ownsRow.kept u9 g10 (.inr (ow_ne u9 kp9 (by decide)))
                have HY10 : Hid (Rd .i64 W10 (.slice a8 o7.length c8) o7) := Ow.rd (e := 3) (base := W4.heap.size) (World.ownsRow.kept y9 g10 (.inr (ow_ne y9 kp9 (by decide))))
                have HB10 : Hid (Below w.heap.size w W10) := HB9.out.trans (grown_below g10 HB9.out.size (fun k e => by have := Option.some.inj e; have := HRG.out; omega))
                have HN9 : Hid (∀ k, (Value.slice a7 s7.length c7).ownBlock = some k → W4.heap.size ≤ k) := n9
                have HUL : Hid (∀ k, (Value.slice au h.lv.length cu).ownBlock = some k → w.heap.size ≤ k ∧ k < W4.heap.size) := fun k e => HUg.out.lt' k e
                have HK8 : Hid (Blk W8 X7 (plA ⟨0, 0, 0, 0, 0⟩ (.slice none 0 0)) 42) := k8
                have HK9 : Hid (Blk W9 X7 (plA q7 (.slice a7 s7.length c7)) 42) := k9
                have HP9 : Hid (Blk W9 GP (plA q (.slice a0 s.length c0)) 42) := kp9
                have HW8 : Hid (W7.alloc (.cells (plA ⟨0, 0, 0, 0, 0⟩ (.slice none 0 0)) 42) = W8 ∧ W7.heap.size = X7 ∧ W8.setRow X7 (plA q7 (.slice a7 s7.length c7)) = W9 ∧ W9.setRow GP (plA q7 (.slice a7 s7.length c7)) = W10) := ⟨hW8, hX7, hW9, hW10⟩
                have HX7 : Hid (∀ x, poF ⟨q, s, h.lv, true⟩ = some x → x = ⟨q7, s7, h.lv ++ o7, true⟩) := hx7
                have HL7 : Hid (o7.length ≤ 30) := l7
                have HGW : Hid (GP < W4.heap.size) := hGW
                clear r7 w7 ow7 b7 l7 hx7 hX7 hW8 hW9 k8 k9 e79 b9 kp9 r9 y9 u9 n9 hW10 g10 hGW HKg HRg HUg HBg HZg
                obtain ⟨oc, hoc⟩ : ∃ x, poF ⟨q, s, h.lv, true⟩ = x := ⟨_, rfl⟩
                have HOC : Hid (poF ⟨q, s, h.lv, true⟩ = oc) := hoc
                rw [hoc]
                clear hoc
                cases oc with
                | none =>
                  have e5 : (none : Option HSt).isSome = false := rfl
                  rw [e5]
                  clear e5
                  have HN : Hid (hrF ls dp n = none) := by
                    show _ = _
                    rw [hrF_se HPK.out]; exact seN_none (HNX.out.trans HOC.out) _ (by have := HJB.out; omega)
                  go_wp2_with (first | (rw [HW8.out.1, HW8.out.2.1]; refine wpList_store_row rfl 42 _ _ rfl X7 (plA q7 (.slice a7 s7.length c7)) rfl rfl 42 (plA ⟨0, 0, 0, 0, 0⟩ (.slice none 0 0)) HK8.out (by kernel_rfl) rfl (by simp [Value.oneCell']) ?_; rw [HW8.out.2.2.1]) | refine wpList_store_row rfl 42 _ _ rfl R (plA ⟨0, 0, 0, 0, 0⟩ (.slice none 0 0)) rfl rfl 42 (plA ⟨0, 0, 0, 0, 0⟩ (.slice none 0 0)) HZ9.out (by kernel_rfl) rfl (by simp [Value.oneCell']) ?_)
                  exact bodyPost_ret (v := .tuple #[.slice (some ⟨N0, 0, none⟩) 0 0, .agg (plA ⟨0, 0, 0, 0, 0⟩ (.slice none 0 0)), .bool false]) (results_H3 rfl _ _ R _ _ _ _ rfl rfl rfl (HZ9.out.row _)) rfl ⟨belowRow HB9.out _ (Nat.le_of_eq HW0.out.2.1) _, fun _ => ⟨_, rfl, rd_nil _ _ _⟩, fun h e => by rw [HN.out] at e; cases e⟩
                | some h9 =>
                  have e5 : (some h9).isSome = true := rfl
                  rw [e5]
                  clear e5
                  have HSN : Hid (HsB h9 (2 * (j + 1))) := by
                    have := HSg.out.po HOC.out
                    exact ⟨Nat.le_trans this.st (by omega), Nat.le_trans this.lv (by omega), this.by'⟩
                  have HNN : Hid (seN ls (h0F ls dp) (j + 1) = some h9) := HNX.out.trans HOC.out
                  obtain rfl := HX7.out h9 HOC.out
                  have S10 : Hid (w.heap.size ≤ W10.heap.size) := HB10.out.size
                  have HLL : Hid (h.lv.length ≤ 100000) := by
                    have hq : h.lv.length ≤ 30 * (2 * j + 1) := HSg.out.lv
                    have := HJB.out; show _ ≤ _; omega
                  clear HSg HNX HX7 HOC
                  go_wp2_with (first | (rw [HW8.out.1, HW8.out.2.1]; refine wpList_store_row rfl 42 _ _ rfl X7 (plA q7 (.slice a7 s7.length c7)) rfl rfl 42 (plA ⟨0, 0, 0, 0, 0⟩ (.slice none 0 0)) HK8.out (by kernel_rfl) rfl (by simp [Value.oneCell']) ?_; rw [HW8.out.2.2.1]) | refine wpList_load_row rfl 42 _ rfl X7 rfl 42 (plA q7 (.slice a7 s7.length c7)) (0, 0) _ HK9.out Tryd.underlying42 rfl (by kernel_rfl) ?_ | (refine wpList_store_row rfl 42 _ _ rfl GP (plA q7 (.slice a7 s7.length c7)) rfl rfl 42 (plA q (.slice a0 s.length c0)) HP9.out (by kernel_rfl) rfl (by simp [Value.oneCell']) ?_; rw [HW8.out.2.2.2]) | (at_builtin; refine appIs rfl _ _ rfl w.heap.size (.slice au h.lv.length cu) h.lv rfl HU10.out (.slice a8 o7.length c8) o7 rfl HY10.out (by have := HLL.out; have := HL7.out; omega) S10.out ?_))
                  intro z W11 o11 r11 s11
                  obtain ⟨az, cz, rfl⟩ := o11.form'
                  have HK11 : Hid (Blk W11 GP (plA q7 (.slice a7 s7.length c7)) 42) := HK10.out.grownO r11 (ow_ne HU10.out HK10.out (by decide))
                  have HZ11 : Hid (Blk W11 R (plA ⟨0, 0, 0, 0, 0⟩ (.slice none 0 0)) 42) := HZ10.out.grownO r11 (ow_ne HU10.out HZ10.out (by decide))
                  have HR11 : Hid (Rg 18 pkC W11 (.slice a7 s7.length c7) s7) := HR10.out.grown r11 (.inr (by
                    cases hv : (Value.slice a7 s7.length c7).ownBlock with
                    | none => exact .inl rfl
                    | some m => exact .inr (fun e => by have := HN9.out m hv; have := (HUL.out m e.symm).2; omega)))
                  have HB11 : Hid (Below w.heap.size w W11) := HB10.out.trans (grown_below r11 S10.out (fun k e => (HUL.out k e).1))
                  have HU11 : Hid (Ow .i64 3 w.heap.size W11 (.slice az (h.lv ++ o7).length cz) (h.lv ++ o7)) := o11
                  have HX11 : Hid (∀ k, (Value.slice a7 s7.length c7).ownBlock = some k → GP < k) := fun k e => by have := HN9.out k e; have := HGW.out; omega
                  clear o11 r11 s11 HK10 HZ10 HR10 HU10 HY10 HB10 HN9 HUL HK8 HK9 HP9 HW8 HZ9 HB9 HGW S10
                  obtain ⟨NN, hNN⟩ : ∃ N, (h.lv ++ o7).length = N := ⟨_, rfl⟩
                  have HNN2 : Hid ((h.lv ++ o7).length = NN) := hNN
                  rw [hNN] at HU11 ⊢
                  clear hNN
                  go_wp2
                  go_roundw
                  case rel =>
                    obtain rfl := HNN2.out
                    exact ⟨j + 1, _, true, a7, c7, az, cz, rfl, rfl, by go_num, (by have := HJB.out; show _ ≤ _; omega), HNN.out, rfl, HSN.out, HK11.out, HR11.out, HU11.out, HX11.out, HB11.out, HZ11.out⟩
                  case measure => simp [intOf]; have := HJB.out; omega
              | false =>
                have HNW : Hid (seN ls (h0F ls dp) (j + 1) = some ⟨q, s, h.lv, false⟩) := HWT.out (fun hh => by
                  rcases hh with hh | hh
                  · rw [HHB.out] at hh; cases hh
                  · have := HRB.out.2 hh; cases this)
                have HSW : Hid (HsB ⟨q, s, h.lv, false⟩ (2 * (j + 1))) := ⟨Nat.le_trans (HSQ.out false).st (by omega), Nat.le_trans (HSQ.out false).lv (by omega), (HSQ.out false).by'⟩
                clear HPL HWT
                go_wp2
                go_roundw
                case rel => exact ⟨j + 1, ⟨q, s, h.lv, false⟩, false, a0, c0, au, cu, rfl, rfl, by go_num, (by have := HJB.out; show _ ≤ _; omega), HNW.out, rfl, HSW.out, HKg.out, HRg.out, HUg.out, HX3.out, HBg.out, HZg.out⟩
                case measure => simp [intOf]; have := HJB.out; omega

end Go.Proofs.YtkjfcebdjnclaaaDoor
