/- FnTwice is true at every code; the table is as it was laid. -/
import Derived.Test.YtkjfcebdjnclaaaDoorTwm
import Derived.Test.YtkjfcebdjnclaaaDoorSmi
import Derived.Test.YtkjfcebdjnclaaaDoorDet
import Derived.Test.YtkjfcebdjnclaaaDoorOver
import Derived.Deep.DeepCutAuto
namespace Go.Proofs.YtkjfcebdjnclaaaDoor
open Go.RowKit Go.ChangeShapes Go.WideShapes Go.ChangeAt
set_option linter.unusedVariables false
set_option linter.unusedSimpArgs false
set_option maxRecDepth 8000

theorem og_blk_ne' {base : Nat} {W : World} {v : Value} {ls : List Pk} {g : Nat} {cs : Array Value} {t : TypeId} (h : Og 18 pkC 40 base W v ls) (hb : Blk W g cs t) (ht : t ≠ 40) : v.ownBlock ≠ some g := by
  intro e
  rcases h.2 with ⟨rfl, -⟩ | ⟨k, cap, cur, rfl, -, hg, -⟩
  · cases e
  · obtain rfl : k = g := by simpa [Value.ownBlock] using e
    rw [Blk, hg] at hb
    cases hb
    exact ht rfl
theorem og_setRow {base X : Nat} {W : World} {v : Value} {ls : List Pk} {cs cs' : Array Value} {t : TypeId} (h : Og 18 pkC 40 base W v ls) (hb : Blk W X cs t) (ht : t ≠ 40) : Og 18 pkC 40 base (W.setRow X cs') v ls :=
  World.ownsRow.kept (row := some X) h ⟨rfl, rfl, rfl, by simp, fun i _ hi => setRow_other W _ i _ (fun e => hi (by simp [e]))⟩ (.inr (og_blk_ne' h hb ht))
theorem ow_setRow {base X : Nat} {W : World} {v : Value} {zs : List Int} {cs cs' : Array Value} {t : TypeId} (h : Ow .i64 3 base W v zs) (hb : Blk W X cs t) (ht : t ≠ 3) : Ow .i64 3 base (W.setRow X cs') v zs := by
  refine World.ownsRow.kept (row := some X) h ⟨rfl, rfl, rfl, by simp, fun i _ hi => setRow_other W _ i _ (fun e => hi (by simp [e]))⟩ ?_
  rcases h.2 with ⟨rfl, -⟩ | ⟨k, cap, cur, rfl, -, hg, -⟩
  · exact .inl rfl
  · refine .inr fun e => ?_
    obtain rfl : k = X := by simpa [Value.ownBlock] using e
    rw [Blk, hg] at hb
    cases hb
    exact ht rfl
theorem rg_nil (W : World) (a : Option Addr) (c : Nat) (hc : c ≤ maxLen) : Rg 18 pkC W (.slice a 0 c) [] := ⟨a, c, rfl, Nat.zero_le _, hc, .inl rfl⟩
structure Rt (Wd : World) (p0 : Pl) (p1 : Pl) (a : Option Addr) (m : Nat) (c : Nat) (k : Pk) (st : List Pk) (bl : Nat) (N : Nat) (cl : Nat) (j : Nat) (d : Nat → Bool) (W : World) (v0 v1 v2 v3 v4 v5 v6 v7 v8 v9 v10 v11 : Value) (a0 : Option Addr) (c0 : Nat) (X : Nat) : Prop where
  bel : Below Wd.heap.size Wd W
  f0 : d 0 = true → v0 = .agg (plA p0 (.slice a m c))
  f1 : d 1 = true → v1 = .slice (some ⟨bl, 0, none⟩) N cl
  f2 : d 2 = true → v2 = .int .i64 (j : Int)
  f3 : d 3 = true → v3 = .pointer (some ⟨bl, j * 18, none⟩)
  f4 : d 4 = true → v4 = .agg (pkA k)
  f5 : d 5 = true → v5 = .tuple #[.agg (plA p1 (.slice a0 st.length c0)), .bool true]
  f6 : d 6 = true → v6 = .tuple #[.agg (plA p1 (.slice a0 st.length c0)), .bool true]
  f7 : d 7 = true → v7 = .agg (plA p1 (.slice a0 st.length c0))
  f8 : d 8 = true → v8 = .bool true
  f9 : d 9 = true → v9 = .pointer (some ⟨X, 0, none⟩)
  f11 : d 11 = true → v11 = .bool true
  o5 : d 5 = true → Og 18 pkC 40 Wd.heap.size W (.slice a0 st.length c0) st
  k9 : d 9 = true → d 10 = false → Blk W X (plA ⟨0, 0, 0, 0, 0⟩ (.slice none 0 0)) 42
  x9 : d 9 = true → Wd.heap.size ≤ X
  k10 : d 10 = true → Blk W X (plA p1 (.slice a0 st.length c0)) 42
  g6_5 : d 6 = true → d 5 = true
  g7_5 : d 7 = true → d 5 = true
  g10_5 : d 10 = true → d 5 = true
  g10_9 : d 10 = true → d 9 = true
def RtS (Wd : World) (p0 : Pl) (p1 : Pl) (a : Option Addr) (m : Nat) (c : Nat) (k : Pk) (st : List Pk) (bl : Nat) (N : Nat) (cl : Nat) (j : Nat) (d : Nat → Bool) (q : List Value) (W : World) : Prop := ∃ v0 v1 v2 v3 v4 v5 v6 v7 v8 v9 v10 v11 a0 c0 X, q = [v0, v1, v2, v3, v4, v5, v6, v7, v8, v9, v10, v11] ∧ Rt Wd p0 p1 a m c k st bl N cl j d W v0 v1 v2 v3 v4 v5 v6 v7 v8 v9 v10 v11 a0 c0 X
theorem Rt.below {Wd : World} {p0 : Pl} {p1 : Pl} {a : Option Addr} {m : Nat} {c : Nat} {k : Pk} {st : List Pk} {bl : Nat} {N : Nat} {cl : Nat} {j : Nat} {d : Nat → Bool} {W W' : World} {v0 v1 v2 v3 v4 v5 v6 v7 v8 v9 v10 v11 : Value} {a0 : Option Addr} {c0 : Nat} {X : Nat} (h : Rt Wd p0 p1 a m c k st bl N cl j d W v0 v1 v2 v3 v4 v5 v6 v7 v8 v9 v10 v11 a0 c0 X) (hb : Below W.heap.size W W') : Rt Wd p0 p1 a m c k st bl N cl j d W' v0 v1 v2 v3 v4 v5 v6 v7 v8 v9 v10 v11 a0 c0 X :=
  { h with
    bel := belowCall h.bel hb h.bel.size
    o5 := fun e0 => (h.o5 e0).below hb
    k9 := fun e0 e1 => (h.k9 e0 e1).below hb (h.k9 e0 e1).lt
    k10 := fun e0 => (h.k10 e0).below hb (h.k10 e0).lt
  }
structure Rs (Wd : World) (p0 : Pl) (p1 : Pl) (a : Option Addr) (m : Nat) (c : Nat) (k : Pk) (st : List Pk) (bl : Nat) (N : Nat) (cl : Nat) (j : Nat) (GQ : Nat) (d : Nat → Bool) (W : World) (v0 v1 v2 v3 v4 v5 v6 v7 v8 v9 v10 : Value) (a0 : Option Addr) (c0 : Nat) : Prop where
  bel : d 9 = false → Below Wd.heap.size Wd W
  f0 : d 0 = true → v0 = .agg (plA p0 (.slice a m c))
  f1 : d 1 = true → v1 = .slice (some ⟨bl, 0, none⟩) N cl
  f2 : d 2 = true → v2 = .int .i64 (j : Int)
  f3 : d 3 = true → v3 = .pointer (some ⟨bl, j * 18, none⟩)
  f4 : d 4 = true → v4 = .agg (pkA k)
  f5 : d 5 = true → v5 = .tuple #[.agg (plA p1 (.slice a0 st.length c0)), .bool true]
  f6 : d 6 = true → v6 = .tuple #[.agg (plA p1 (.slice a0 st.length c0)), .bool true]
  f7 : d 7 = true → v7 = .agg (plA p1 (.slice a0 st.length c0))
  f8 : d 8 = true → v8 = .bool true
  f10 : d 10 = true → v10 = .bool true
  o5 : d 5 = true → d 9 = false → Og 18 pkC 40 Wd.heap.size W (.slice a0 st.length c0) st
  e9 : d 9 = true → ∃ W', Below Wd.heap.size Wd W' ∧ W = W'.setRow GQ (plA p1 (.slice a0 st.length c0)) ∧ Og 18 pkC 40 Wd.heap.size W' (.slice a0 st.length c0) st
  g6_5 : d 6 = true → d 5 = true
  g7_5 : d 7 = true → d 5 = true
  g9_5 : d 9 = true → d 5 = true
  g9_0 : d 9 = true → d 0 = true
  g9_1 : d 9 = true → d 1 = true
  g9_2 : d 9 = true → d 2 = true
  g9_3 : d 9 = true → d 3 = true
  g9_4 : d 9 = true → d 4 = true
  g9_7 : d 9 = true → d 7 = true
def RsS (Wd : World) (p0 : Pl) (p1 : Pl) (a : Option Addr) (m : Nat) (c : Nat) (k : Pk) (st : List Pk) (bl : Nat) (N : Nat) (cl : Nat) (j : Nat) (GQ : Nat) (d : Nat → Bool) (q : List Value) (W : World) : Prop := ∃ v0 v1 v2 v3 v4 v5 v6 v7 v8 v9 v10 a0 c0, q = [v0, v1, v2, v3, v4, v5, v6, v7, v8, v9, v10] ∧ Rs Wd p0 p1 a m c k st bl N cl j GQ d W v0 v1 v2 v3 v4 v5 v6 v7 v8 v9 v10 a0 c0
theorem Rs.below {Wd : World} {p0 : Pl} {p1 : Pl} {a : Option Addr} {m : Nat} {c : Nat} {k : Pk} {st : List Pk} {bl : Nat} {N : Nat} {cl : Nat} {j : Nat} {GQ : Nat} {d : Nat → Bool} {W W' : World} {v0 v1 v2 v3 v4 v5 v6 v7 v8 v9 v10 : Value} {a0 : Option Addr} {c0 : Nat} (h : Rs Wd p0 p1 a m c k st bl N cl j GQ d W v0 v1 v2 v3 v4 v5 v6 v7 v8 v9 v10 a0 c0) (n9 : d 9 = false) (hb : Below W.heap.size W W') : Rs Wd p0 p1 a m c k st bl N cl j GQ d W' v0 v1 v2 v3 v4 v5 v6 v7 v8 v9 v10 a0 c0 :=
  { h with
    bel := fun e0 => belowCall (h.bel e0) hb (h.bel e0).size
    o5 := fun e0 e1 => (h.o5 e0 e1).below hb
    e9 := fun e => absurd e (by rw [n9]; simp)
  }
set_option maxHeartbeats 51200000 in
theorem twiceLaw (v : Value) (zs : List Int) (w : World) (h : Rd .u8 w v zs) (hok : ∀ z ∈ zs, 0 ≤ z ∧ z ≤ 255) (hG : ChG w) : Calls Tryd.prog 6 #[v] w fun e w' => e = .returned (.bool true) ∧ Below w.heap.size w w' := by
  have HR : Hid (Rd .u8 w v zs) := h
  have HK : Hid (∀ z ∈ zs, 0 ≤ z ∧ z ≤ 255) := hok
  have HG : Hid (ChG w) := hG
  have HB : Hid (Below w.heap.size w w) := Below.refl _ _
  obtain ⟨av, capv, rfl, -⟩ := h
  clear hok hG
  go_enter Tryd.func6, Tryd.ntmps6
  go_wp2_with (fail)
  refine (big_c _ zs w HR.out).mono ?_
  rintro e w0 ⟨rfl, hw0⟩
  rw [hw0]
  clear hw0
  by_cases hbig : (1048576 : Int) < (zs.length : Int)
  · have e0 : decide ((1048576 : Int) < (zs.length : Int)) = true := decide_eq_true hbig
    go_wp2
    go_ret
    exact ⟨rfl, HB.out⟩
  have e0 : decide ((1048576 : Int) < (zs.length : Int)) = false := decide_eq_false hbig
  have HLZ : Hid (zs.length ≤ 1048576) := by show _ ≤ _; omega
  go_wp2_with (fail)
  refine (at_c _ zs 0 w HR.out HK.out (by omega) (by omega) HLZ.out).mono ?_
  rintro e wt ⟨y, rfl, y0, y1, hwt⟩
  rw [hwt]
  clear hwt wt hbig e0 HB
  obtain ⟨y9, hy9⟩ : ∃ z, y % 9 = z := ⟨_, rfl⟩
  have hyb : 0 ≤ y9 ∧ y9 ≤ 8 := by omega
  go_wp2_with (fail)
  refine (frames_c _ zs (2 + y9) w HR.out HK.out HLZ.out (by omega) (by omega)).mono ?_
  rintro e w1 ⟨lv, ls, rfl, o1, l1, f1, b1⟩
  obtain ⟨al, cl, rfl, hc1, hc2, hc3⟩ := own_form o1
  obtain ⟨bl, rfl⟩ : ∃ b, al = some ⟨b, 0, none⟩ := by
    rcases hc3 with hc3 | hc3
    · omega
    · exact hc3
  obtain ⟨N, hN⟩ : ∃ N, ls.length = N := ⟨_, rfl⟩
  have HNL : Hid (ls.length = N) := hN
  have hN10 : N ≤ 11 := by omega
  have HFM : Hid (FmP ls) := f1
  have HO1 : Hid (Og 18 pkC 40 w.heap.size w1 (.slice (some ⟨bl, 0, none⟩) N cl) ls) := by rw [← hN]; exact o1
  have HB1 : Hid (Below w.heap.size w w1) := b1
  rw [hN]
  clear o1 l1 f1 b1 hc3 hc1 hc2 hN hy9 hyb y0 y1
  obtain ⟨GP, hGP⟩ : ∃ X, w1.heap.size = X := ⟨_, rfl⟩
  obtain ⟨GQ, hGQ⟩ : ∃ X, GP + 1 = X := ⟨_, rfl⟩
  obtain ⟨W2, hW2⟩ : ∃ W, (w1.alloc (Obj.cells (plA ⟨0, 1, 0, 0, 0⟩ (.slice none 0 0)) 42)).alloc (Obj.cells (plA ⟨0, 1, 0, 0, 0⟩ (.slice none 0 0)) 42) = W := ⟨_, rfl⟩
  have al : Below w1.heap.size w1 W2 := by rw [← hW2]; exact ((Below.refl _ _).alloc (Nat.le_refl _) _).alloc (by simp) _
  have HKP : Hid (Blk W2 GP (plA (Tp 0 0 0) (.slice none 0 0)) 42) := by rw [← hW2, ← hGP]; exact (Blk.new _ _ _).alloc _
  have HKQ : Hid (Blk W2 GQ (plA (Tp 0 0 0) (.slice none 0 0)) 42) := by rw [← hW2, ← hGQ, ← hGP]; exact Blk.newAt _ _ _ _ (by simp)
  have HO2 : Hid (Og 18 pkC 40 w.heap.size W2 (.slice (some ⟨bl, 0, none⟩) N cl) ls) := HO1.out.below al
  have HB2 : Hid (Below w.heap.size w W2) := belowCall HB1.out al HB1.out.size
  have HPQ : Hid (w.heap.size ≤ GP ∧ GP < GQ) := ⟨by rw [← hGP]; exact HB1.out.size, by omega⟩
  have HW2 : Hid ((w1.alloc (Obj.cells (plA ⟨0, 1, 0, 0, 0⟩ (.slice none 0 0)) 42)).alloc (Obj.cells (plA ⟨0, 1, 0, 0, 0⟩ (.slice none 0 0)) 42) = W2 ∧ w1.heap.size = GP ∧ GP + 1 = GQ) := ⟨hW2, hGP, hGQ⟩
  clear al hW2 hGP hGQ HO1 HB1
  go_wp2
  rw [HW2.out.1, HW2.out.2.1, HW2.out.2.2]
  clear HW2
  go_loopw [6, 7] (fun lt i wr => ∃ (j : Nat) (L x : Int) (a1 : Option Addr) (c1 : Nat) (a2 : Option Addr) (c2 : Nat), lt = .int .i64 L ∧ i = .int .i64 j ∧ Hid (j ≤ N ∧ Tb j L x ∧ L ≤ j ∧ c1 ≤ maxLen ∧ c2 ≤ maxLen) ∧ Hid (Blk wr GP (plA (Tp j 0 x) (.slice a1 0 c1)) 42) ∧ Hid (Blk wr GQ (plA (Tp j L x) (.slice a2 0 c2)) 42) ∧ Hid (Og 18 pkC 40 w.heap.size wr (.slice (some ⟨bl, 0, none⟩) N cl) ls) ∧ Hid (Below w.heap.size w wr)) (fun _ i _ => N - (intOf i).toNat)
  case atStart => exact ⟨0, 0, 0, none, 0, none, 0, rfl, rfl, ⟨Nat.zero_le _, ⟨by omega, by omega, by omega⟩, by omega, by simp [maxLen], by simp [maxLen]⟩, HKP.out, HKQ.out, HO2.out, HB2.out⟩
  case round =>
    obtain ⟨j, L, x, a1, c1, a2, c2, rfl, rfl, hj, hKP, hKQ, hO, hB⟩ := hrel
    clear HKP HKQ HO2 HB2
    have hjN := hj.out.1
    have hLb := hj.out.2.1.L
    have hj100 := hj.out.2.1.j
    by_cases hlt : j < N
    case neg =>
      have hltd : decide ((j : Int) < (N : Int)) = false := decide_eq_false (by omega)
      have p2 := hKP.out.cell 2
      have p3 := hKP.out.cell 3
      have p4 := hKP.out.cell 4
      have q2 := hKQ.out.cell 2
      have q3 := hKQ.out.cell 3
      have q4 := hKQ.out.cell 4
      simp at p2 p3 p4 q2 q3 q4
      have eL : (L == L) = true := by simp
      have ex : (x == x) = true := by simp
      go_wp2
      go_ret
      exact ⟨rfl, hB.out⟩
    case pos =>
    have hltI : (j : Int) < (N : Int) := by omega
    have hj0 : (0 : Int) ≤ (j : Int) := by omega
    have hjl : j < ls.length := by have := HNL.out; omega
    obtain ⟨k, hk⟩ : ∃ k, ls[j] = k := ⟨_, rfl⟩
    have HTK : Hid (Tk j k) := by rw [← hk]; exact HFM.out.at j hjl
    have HRO : Hid (∀ W, Og 18 pkC 40 w.heap.size W (.slice (some ⟨bl, 0, none⟩) N cl) ls → W.rangeAt bl (j * 18) (pkC k)) := fun W ho => by rw [← hk]; exact og_at ho j hjl
    have HTP : Hid (Tb j 0 x) := ⟨hj100, by omega, hj.out.2.1.x⟩
    have HTQ : Hid (Tb j L x) := hj.out.2.1
    have HCC : Hid (c1 ≤ maxLen ∧ c2 ≤ maxLen) := ⟨hj.out.2.2.2.1, hj.out.2.2.2.2⟩
    have HLJ : Hid (L ≤ j) := hj.out.2.2.1
    clear hk
    have B_wr := hB
    have KP_wr := hKP
    have KQ_wr := hKQ
    have O_wr := hO
    clear hB hKP hKQ hO
    go_upto_region 10 with fail
    have HKK : Hid (Blk wr.drew GP (plA (Tp j (0) x) (.slice a1 0 c1)) 42) := KP_wr.out
    have HRL : Hid (∀ W, Below wr.drew.heap.size wr.drew W → W.rangeAt bl (j * 18) (pkC k)) := fun W hb => HRO.out W ((O_wr.out.below (Below.refl _ _).drew).below hb)
    have HRS : Hid (∀ W, Below wr.drew.heap.size wr.drew W → Rg 18 pkC W (.slice a1 0 c1) []) := fun W _ => rg_nil W _ _ HCC.out.1
    refine region_vals [undef, undef, undef, undef, undef, undef, undef, undef, undef, undef, undef, undef] (RtS (wr.drew) (Tp j (0) x) (Tp j (0) x) (a1) (0) (c1) (k) ([k]) (bl) (N) (cl) (j)) (by kernel_rfl) (by kernel_rfl) ?_ ⟨?_, ?_, ?_, ?_, ?_, ?_, ?_, ?_, ?_, ?_, ?_, ?_, trivial⟩ ?_
    · refine ⟨_, _, _, _, _, _, _, _, _, _, _, _, none, 0, 0, rfl, ⟨(Below.refl _ _), ?_, ?_, ?_, ?_, ?_, ?_, ?_, ?_, ?_, ?_, ?_, ?_, ?_, ?_, ?_, ?_, ?_, ?_, ?_⟩⟩ <;> simp
    · rintro d vs W ⟨v0, v1, v2, v3, v4, v5, v6, v7, v8, v9, v10, v11, a0, c0, X, rfl, H⟩ hn hd
      simp only [putAll, Act.put, List.setIfInBounds_toArray, List.set_cons_succ, List.set_cons_zero]
      have HKW : Hid (Blk W GP (plA (Tp j (0) x) (.slice a1 0 c1)) 42) := HKK.out.below H.bel HKK.out.lt
      have HH1 : Hid (Rt (wr.drew) (Tp j (0) x) (Tp j (0) x) (a1) (0) (c1) (k) ([k]) (bl) (N) (cl) (j) d W v0 v1 v2 v3 v4 v5 v6 v7 v8 v9 v10 v11 a0 c0 X) := H
      clear H
      have HHN : Hid (d 0 = false) := hn
      clear hd hn
      go_wp2_with (refine wpList_load_row rfl 42 _ rfl GP rfl 42 (plA (Tp j (0) x) (.slice a1 0 c1)) (0, 0) _ HKW.out Tryd.underlying42 rfl (by kernel_rfl) ?_)
      have H0 := HH1.out
      have H := HH1.out
      have hn := HHN.out
      refine ⟨rfl, [.agg (plA (Tp j (0) x) (.slice a1 0 c1)), v1, v2, v3, v4, v5, v6, v7, v8, v9, v10, v11], ?_, .agg (plA (Tp j (0) x) (.slice a1 0 c1)), v1, v2, v3, v4, v5, v6, v7, v8, v9, v10, v11, a0, c0, X, rfl, ⟨H.bel, (fun _ => rfl), (by have h := H.f1; simpa [doneSet] using h), (by have h := H.f2; simpa [doneSet] using h), (by have h := H.f3; simpa [doneSet] using h), (by have h := H.f4; simpa [doneSet] using h), (by have h := H.f5; simpa [doneSet] using h), (by have h := H.f6; simpa [doneSet] using h), (by have h := H.f7; simpa [doneSet] using h), (by have h := H.f8; simpa [doneSet] using h), (by have h := H.f9; simpa [doneSet] using h), (by have h := H.f11; simpa [doneSet] using h), (by have h := H.o5; simpa [doneSet] using h), (by have h := H.k9; simpa [doneSet] using h), (by have h := H.x9; simpa [doneSet] using h), (by have h := H.k10; simpa [doneSet] using h), (by have h := H.g6_5; simpa [doneSet] using h), (by have h := H.g7_5; simpa [doneSet] using h), (by have h := H.g10_5; simpa [doneSet] using h), (by have h := H.g10_9; simpa [doneSet] using h)⟩⟩
      simp only [putAll, Act.put, List.setIfInBounds_toArray, List.set_cons_succ, List.set_cons_zero]
      all_goals rfl
    · rintro d vs W ⟨v0, v1, v2, v3, v4, v5, v6, v7, v8, v9, v10, v11, a0, c0, X, rfl, H⟩ hn hd
      simp only [putAll, Act.put, List.setIfInBounds_toArray, List.set_cons_succ, List.set_cons_zero]
      have HH1 : Hid (Rt (wr.drew) (Tp j (0) x) (Tp j (0) x) (a1) (0) (c1) (k) ([k]) (bl) (N) (cl) (j) d W v0 v1 v2 v3 v4 v5 v6 v7 v8 v9 v10 v11 a0 c0 X) := H
      clear H
      have HHN : Hid (d 1 = false) := hn
      clear hd hn
      go_wp2
      have H0 := HH1.out
      have H := HH1.out
      have hn := HHN.out
      refine ⟨rfl, [v0, .slice (some ⟨bl, 0, none⟩) N cl, v2, v3, v4, v5, v6, v7, v8, v9, v10, v11], ?_, v0, .slice (some ⟨bl, 0, none⟩) N cl, v2, v3, v4, v5, v6, v7, v8, v9, v10, v11, a0, c0, X, rfl, ⟨H.bel, (by have h := H.f0; simpa [doneSet] using h), (fun _ => rfl), (by have h := H.f2; simpa [doneSet] using h), (by have h := H.f3; simpa [doneSet] using h), (by have h := H.f4; simpa [doneSet] using h), (by have h := H.f5; simpa [doneSet] using h), (by have h := H.f6; simpa [doneSet] using h), (by have h := H.f7; simpa [doneSet] using h), (by have h := H.f8; simpa [doneSet] using h), (by have h := H.f9; simpa [doneSet] using h), (by have h := H.f11; simpa [doneSet] using h), (by have h := H.o5; simpa [doneSet] using h), (by have h := H.k9; simpa [doneSet] using h), (by have h := H.x9; simpa [doneSet] using h), (by have h := H.k10; simpa [doneSet] using h), (by have h := H.g6_5; simpa [doneSet] using h), (by have h := H.g7_5; simpa [doneSet] using h), (by have h := H.g10_5; simpa [doneSet] using h), (by have h := H.g10_9; simpa [doneSet] using h)⟩⟩
      simp only [putAll, Act.put, List.setIfInBounds_toArray, List.set_cons_succ, List.set_cons_zero]
      all_goals rfl
    · rintro d vs W ⟨v0, v1, v2, v3, v4, v5, v6, v7, v8, v9, v10, v11, a0, c0, X, rfl, H⟩ hn hd
      simp only [putAll, Act.put, List.setIfInBounds_toArray, List.set_cons_succ, List.set_cons_zero]
      have HH1 : Hid (Rt (wr.drew) (Tp j (0) x) (Tp j (0) x) (a1) (0) (c1) (k) ([k]) (bl) (N) (cl) (j) d W v0 v1 v2 v3 v4 v5 v6 v7 v8 v9 v10 v11 a0 c0 X) := H
      clear H
      have HHN : Hid (d 2 = false) := hn
      clear hd hn
      go_wp2
      have H0 := HH1.out
      have H := HH1.out
      have hn := HHN.out
      refine ⟨rfl, [v0, v1, .int .i64 (j : Int), v3, v4, v5, v6, v7, v8, v9, v10, v11], ?_, v0, v1, .int .i64 (j : Int), v3, v4, v5, v6, v7, v8, v9, v10, v11, a0, c0, X, rfl, ⟨H.bel, (by have h := H.f0; simpa [doneSet] using h), (by have h := H.f1; simpa [doneSet] using h), (fun _ => rfl), (by have h := H.f3; simpa [doneSet] using h), (by have h := H.f4; simpa [doneSet] using h), (by have h := H.f5; simpa [doneSet] using h), (by have h := H.f6; simpa [doneSet] using h), (by have h := H.f7; simpa [doneSet] using h), (by have h := H.f8; simpa [doneSet] using h), (by have h := H.f9; simpa [doneSet] using h), (by have h := H.f11; simpa [doneSet] using h), (by have h := H.o5; simpa [doneSet] using h), (by have h := H.k9; simpa [doneSet] using h), (by have h := H.x9; simpa [doneSet] using h), (by have h := H.k10; simpa [doneSet] using h), (by have h := H.g6_5; simpa [doneSet] using h), (by have h := H.g7_5; simpa [doneSet] using h), (by have h := H.g10_5; simpa [doneSet] using h), (by have h := H.g10_9; simpa [doneSet] using h)⟩⟩
      simp only [putAll, Act.put, List.setIfInBounds_toArray, List.set_cons_succ, List.set_cons_zero]
      all_goals rfl
    · rintro d vs W ⟨v0, v1, v2, v3, v4, v5, v6, v7, v8, v9, v10, v11, a0, c0, X, rfl, H⟩ hn hd
      simp only [putAll, Act.put, List.setIfInBounds_toArray, List.set_cons_succ, List.set_cons_zero]
      have h1 : d 1 = true := hd { on := 1, ground := .data } (by simp) rfl
      have h2 : d 2 = true := hd { on := 2, ground := .data } (by simp) rfl
      obtain rfl := H.f1 h1
      obtain rfl := H.f2 h2
      have HH1 : Hid (Rt (wr.drew) (Tp j (0) x) (Tp j (0) x) (a1) (0) (c1) (k) ([k]) (bl) (N) (cl) (j) d W v0 (.slice (some ⟨bl, 0, none⟩) N cl) (.int .i64 (j : Int)) v3 v4 v5 v6 v7 v8 v9 v10 v11 a0 c0 X) := H
      clear H
      have HHN : Hid (d 3 = false) := hn
      have HHD : Hid (d 1 = true ∧ d 2 = true) := ⟨h1, h2⟩
      clear hd hn h1 h2
      go_wp2
      have H0 := HH1.out
      have H := HH1.out
      have hn := HHN.out
      have h1 := HHD.out.1
      have h2 := HHD.out.2
      refine ⟨rfl, [v0, .slice (some ⟨bl, 0, none⟩) N cl, .int .i64 (j : Int), .pointer (some ⟨bl, j * 18, none⟩), v4, v5, v6, v7, v8, v9, v10, v11], ?_, v0, .slice (some ⟨bl, 0, none⟩) N cl, .int .i64 (j : Int), .pointer (some ⟨bl, j * 18, none⟩), v4, v5, v6, v7, v8, v9, v10, v11, a0, c0, X, rfl, ⟨H.bel, (by have h := H.f0; simpa [doneSet] using h), (fun _ => rfl), (fun _ => rfl), (fun _ => rfl), (by have h := H.f4; simpa [doneSet] using h), (by have h := H.f5; simpa [doneSet] using h), (by have h := H.f6; simpa [doneSet] using h), (by have h := H.f7; simpa [doneSet] using h), (by have h := H.f8; simpa [doneSet] using h), (by have h := H.f9; simpa [doneSet] using h), (by have h := H.f11; simpa [doneSet] using h), (by have h := H.o5; simpa [doneSet] using h), (by have h := H.k9; simpa [doneSet] using h), (by have h := H.x9; simpa [doneSet] using h), (by have h := H.k10; simpa [doneSet] using h), (by have h := H.g6_5; simpa [doneSet] using h), (by have h := H.g7_5; simpa [doneSet] using h), (by have h := H.g10_5; simpa [doneSet] using h), (by have h := H.g10_9; simpa [doneSet] using h)⟩⟩
      simp only [putAll, Act.put, List.setIfInBounds_toArray, List.set_cons_succ, List.set_cons_zero]
      all_goals rfl
    · rintro d vs W ⟨v0, v1, v2, v3, v4, v5, v6, v7, v8, v9, v10, v11, a0, c0, X, rfl, H⟩ hn hd
      simp only [putAll, Act.put, List.setIfInBounds_toArray, List.set_cons_succ, List.set_cons_zero]
      have h3 : d 3 = true := hd { on := 3, ground := .data } (by simp) rfl
      have HRM : Hid (W.rangeAt bl (j * 18) (pkC k)) := HRL.out W (H.bel)
      obtain rfl := H.f3 h3
      have HH1 : Hid (Rt (wr.drew) (Tp j (0) x) (Tp j (0) x) (a1) (0) (c1) (k) ([k]) (bl) (N) (cl) (j) d W v0 v1 v2 (.pointer (some ⟨bl, j * 18, none⟩)) v4 v5 v6 v7 v8 v9 v10 v11 a0 c0 X) := H
      clear H
      have HHN : Hid (d 4 = false) := hn
      have HHD : Hid (d 3 = true) := h3
      clear hd hn h3
      go_wp2_with (refine ldM rfl _ rfl bl (j * 18) rfl k HRM.out ?_)
      have H0 := HH1.out
      have H := HH1.out
      have hn := HHN.out
      have h3 := HHD.out
      refine ⟨rfl, [v0, v1, v2, .pointer (some ⟨bl, j * 18, none⟩), .agg (pkA k), v5, v6, v7, v8, v9, v10, v11], ?_, v0, v1, v2, .pointer (some ⟨bl, j * 18, none⟩), .agg (pkA k), v5, v6, v7, v8, v9, v10, v11, a0, c0, X, rfl, ⟨H.bel, (by have h := H.f0; simpa [doneSet] using h), (by have h := H.f1; simpa [doneSet] using h), (by have h := H.f2; simpa [doneSet] using h), (fun _ => rfl), (fun _ => rfl), (by have h := H.f5; simpa [doneSet] using h), (by have h := H.f6; simpa [doneSet] using h), (by have h := H.f7; simpa [doneSet] using h), (by have h := H.f8; simpa [doneSet] using h), (by have h := H.f9; simpa [doneSet] using h), (by have h := H.f11; simpa [doneSet] using h), (by have h := H.o5; simpa [doneSet] using h), (by have h := H.k9; simpa [doneSet] using h), (by have h := H.x9; simpa [doneSet] using h), (by have h := H.k10; simpa [doneSet] using h), (by have h := H.g6_5; simpa [doneSet] using h), (by have h := H.g7_5; simpa [doneSet] using h), (by have h := H.g10_5; simpa [doneSet] using h), (by have h := H.g10_9; simpa [doneSet] using h)⟩⟩
      simp only [putAll, Act.put, List.setIfInBounds_toArray, List.set_cons_succ, List.set_cons_zero]
      all_goals rfl
    · rintro d vs W ⟨v0, v1, v2, v3, v4, v5, v6, v7, v8, v9, v10, v11, a0, c0, X, rfl, H⟩ hn hd
      simp only [putAll, Act.put, List.setIfInBounds_toArray, List.set_cons_succ, List.set_cons_zero]
      have h0 : d 0 = true := hd { on := 0, ground := .data } (by simp) rfl
      have h4 : d 4 = true := hd { on := 4, ground := .data } (by simp) rfl
      have HRW : Hid (Rg 18 pkC W (.slice a1 0 c1) ([])) := HRS.out W (H.bel)
      obtain rfl := H.f0 h0
      obtain rfl := H.f4 h4
      have HH1 : Hid (Rt (wr.drew) (Tp j (0) x) (Tp j (0) x) (a1) (0) (c1) (k) ([k]) (bl) (N) (cl) (j) d W (.agg (plA (Tp j (0) x) (.slice a1 0 c1))) v1 v2 v3 (.agg (pkA k)) v5 v6 v7 v8 v9 v10 v11 a0 c0 X) := H
      clear H
      have HHN : Hid (d 5 = false) := hn
      have HHD : Hid (d 0 = true ∧ d 4 = true) := ⟨h0, h4⟩
      clear hd hn h0 h4
      go_wp2_with (fail)
      refine (put_t1 HTK.out HTP.out W _ HRW.out).mono ?_
      rintro e W3 ⟨v7, rfl, o7, b7⟩
      have HB7 : Hid (Below W.heap.size W W3) := b7
      obtain ⟨a7, c7, rfl⟩ := o7.form
      have HO7 : Hid (Og 18 pkC 40 W.heap.size W3 (.slice a7 ([k]).length c7) ([k])) := o7
      clear b7 o7
      go_wp2
      have H0 := HH1.out
      have H := HH1.out.below HB7.out
      have hn := HHN.out
      have h0 := HHD.out.1
      have h4 := HHD.out.2
      refine ⟨rfl, [.agg (plA (Tp j (0) x) (.slice a1 0 c1)), v1, v2, v3, .agg (pkA k), .tuple #[.agg (plA (Tp j (0) x) (.slice a7 ([k]).length c7)), .bool true], v6, v7, v8, v9, v10, v11], ?_, .agg (plA (Tp j (0) x) (.slice a1 0 c1)), v1, v2, v3, .agg (pkA k), .tuple #[.agg (plA (Tp j (0) x) (.slice a7 ([k]).length c7)), .bool true], v6, v7, v8, v9, v10, v11, a7, c7, X, rfl, ⟨H.bel, (fun _ => rfl), (by have h := H.f1; simpa [doneSet] using h), (by have h := H.f2; simpa [doneSet] using h), (by have h := H.f3; simpa [doneSet] using h), (fun _ => rfl), (fun _ => rfl), (fun e => absurd (H0.g6_5 (by simpa [doneSet] using e)) (by rw [hn]; simp)), (fun e => absurd (H0.g7_5 (by simpa [doneSet] using e)) (by rw [hn]; simp)), (by have h := H.f8; simpa [doneSet] using h), (by have h := H.f9; simpa [doneSet] using h), (by have h := H.f11; simpa [doneSet] using h), (fun _ => HO7.out.mono H0.bel.size), (by have h := H.k9; simpa [doneSet] using h), (by have h := H.x9; simpa [doneSet] using h), (fun e => absurd (H0.g10_5 (by simpa [doneSet] using e)) (by rw [hn]; simp)), (fun _ => by simp [doneSet]), (fun _ => by simp [doneSet]), (fun _ => by simp [doneSet]), (by have h := H.g10_9; simpa [doneSet] using h)⟩⟩
      simp only [putAll, Act.put, List.setIfInBounds_toArray, List.set_cons_succ, List.set_cons_zero]
      all_goals rfl
    · rintro d vs W ⟨v0, v1, v2, v3, v4, v5, v6, v7, v8, v9, v10, v11, a0, c0, X, rfl, H⟩ hn hd
      simp only [putAll, Act.put, List.setIfInBounds_toArray, List.set_cons_succ, List.set_cons_zero]
      have h5 : d 5 = true := hd { on := 5, ground := .data } (by simp) rfl
      obtain rfl := H.f5 h5
      have HH1 : Hid (Rt (wr.drew) (Tp j (0) x) (Tp j (0) x) (a1) (0) (c1) (k) ([k]) (bl) (N) (cl) (j) d W v0 v1 v2 v3 v4 (.tuple #[.agg (plA (Tp j (0) x) (.slice a0 [k].length c0)), .bool true]) v6 v7 v8 v9 v10 v11 a0 c0 X) := H
      clear H
      have HHN : Hid (d 6 = false) := hn
      have HHD : Hid (d 5 = true) := h5
      clear hd hn h5
      go_wp2
      have H0 := HH1.out
      have H := HH1.out
      have hn := HHN.out
      have h5 := HHD.out
      refine ⟨rfl, [v0, v1, v2, v3, v4, .tuple #[.agg (plA (Tp j (0) x) (.slice a0 [k].length c0)), .bool true], .tuple #[.agg (plA (Tp j (0) x) (.slice a0 [k].length c0)), .bool true], v7, v8, v9, v10, v11], ?_, v0, v1, v2, v3, v4, .tuple #[.agg (plA (Tp j (0) x) (.slice a0 [k].length c0)), .bool true], .tuple #[.agg (plA (Tp j (0) x) (.slice a0 [k].length c0)), .bool true], v7, v8, v9, v10, v11, a0, c0, X, rfl, ⟨H.bel, (by have h := H.f0; simpa [doneSet] using h), (by have h := H.f1; simpa [doneSet] using h), (by have h := H.f2; simpa [doneSet] using h), (by have h := H.f3; simpa [doneSet] using h), (by have h := H.f4; simpa [doneSet] using h), (fun _ => rfl), (fun _ => rfl), (by have h := H.f7; simpa [doneSet] using h), (by have h := H.f8; simpa [doneSet] using h), (by have h := H.f9; simpa [doneSet] using h), (by have h := H.f11; simpa [doneSet] using h), (by have h := H.o5; simpa [doneSet] using h), (by have h := H.k9; simpa [doneSet] using h), (by have h := H.x9; simpa [doneSet] using h), (by have h := H.k10; simpa [doneSet] using h), (fun _ => by simpa [doneSet] using h5), (by have h := H.g7_5; simpa [doneSet] using h), (by have h := H.g10_5; simpa [doneSet] using h), (by have h := H.g10_9; simpa [doneSet] using h)⟩⟩
      simp only [putAll, Act.put, List.setIfInBounds_toArray, List.set_cons_succ, List.set_cons_zero]
      all_goals rfl
    · rintro d vs W ⟨v0, v1, v2, v3, v4, v5, v6, v7, v8, v9, v10, v11, a0, c0, X, rfl, H⟩ hn hd
      simp only [putAll, Act.put, List.setIfInBounds_toArray, List.set_cons_succ, List.set_cons_zero]
      have h6 : d 6 = true := hd { on := 6, ground := .data } (by simp) rfl
      have h5 := H.g6_5 h6
      obtain rfl := H.f6 h6
      have HH1 : Hid (Rt (wr.drew) (Tp j (0) x) (Tp j (0) x) (a1) (0) (c1) (k) ([k]) (bl) (N) (cl) (j) d W v0 v1 v2 v3 v4 v5 (.tuple #[.agg (plA (Tp j (0) x) (.slice a0 [k].length c0)), .bool true]) v7 v8 v9 v10 v11 a0 c0 X) := H
      clear H
      have HHN : Hid (d 7 = false) := hn
      have HHD : Hid (d 6 = true) := h6
      clear hd hn h6
      go_wp2
      have H0 := HH1.out
      have H := HH1.out
      have hn := HHN.out
      have h6 := HHD.out
      refine ⟨rfl, [v0, v1, v2, v3, v4, v5, .tuple #[.agg (plA (Tp j (0) x) (.slice a0 [k].length c0)), .bool true], .agg (plA (Tp j (0) x) (.slice a0 [k].length c0)), v8, v9, v10, v11], ?_, v0, v1, v2, v3, v4, v5, .tuple #[.agg (plA (Tp j (0) x) (.slice a0 [k].length c0)), .bool true], .agg (plA (Tp j (0) x) (.slice a0 [k].length c0)), v8, v9, v10, v11, a0, c0, X, rfl, ⟨H.bel, (by have h := H.f0; simpa [doneSet] using h), (by have h := H.f1; simpa [doneSet] using h), (by have h := H.f2; simpa [doneSet] using h), (by have h := H.f3; simpa [doneSet] using h), (by have h := H.f4; simpa [doneSet] using h), (by have h := H.f5; simpa [doneSet] using h), (fun _ => rfl), (fun _ => rfl), (by have h := H.f8; simpa [doneSet] using h), (by have h := H.f9; simpa [doneSet] using h), (by have h := H.f11; simpa [doneSet] using h), (by have h := H.o5; simpa [doneSet] using h), (by have h := H.k9; simpa [doneSet] using h), (by have h := H.x9; simpa [doneSet] using h), (by have h := H.k10; simpa [doneSet] using h), (by have h := H.g6_5; simpa [doneSet] using h), (fun _ => by simpa [doneSet] using h5), (by have h := H.g10_5; simpa [doneSet] using h), (by have h := H.g10_9; simpa [doneSet] using h)⟩⟩
      simp only [putAll, Act.put, List.setIfInBounds_toArray, List.set_cons_succ, List.set_cons_zero]
      all_goals rfl
    · rintro d vs W ⟨v0, v1, v2, v3, v4, v5, v6, v7, v8, v9, v10, v11, a0, c0, X, rfl, H⟩ hn hd
      simp only [putAll, Act.put, List.setIfInBounds_toArray, List.set_cons_succ, List.set_cons_zero]
      have h6 : d 6 = true := hd { on := 6, ground := .data } (by simp) rfl
      obtain rfl := H.f6 h6
      have HH1 : Hid (Rt (wr.drew) (Tp j (0) x) (Tp j (0) x) (a1) (0) (c1) (k) ([k]) (bl) (N) (cl) (j) d W v0 v1 v2 v3 v4 v5 (.tuple #[.agg (plA (Tp j (0) x) (.slice a0 [k].length c0)), .bool true]) v7 v8 v9 v10 v11 a0 c0 X) := H
      clear H
      have HHN : Hid (d 8 = false) := hn
      have HHD : Hid (d 6 = true) := h6
      clear hd hn h6
      go_wp2
      have H0 := HH1.out
      have H := HH1.out
      have hn := HHN.out
      have h6 := HHD.out
      refine ⟨rfl, [v0, v1, v2, v3, v4, v5, .tuple #[.agg (plA (Tp j (0) x) (.slice a0 [k].length c0)), .bool true], v7, .bool true, v9, v10, v11], ?_, v0, v1, v2, v3, v4, v5, .tuple #[.agg (plA (Tp j (0) x) (.slice a0 [k].length c0)), .bool true], v7, .bool true, v9, v10, v11, a0, c0, X, rfl, ⟨H.bel, (by have h := H.f0; simpa [doneSet] using h), (by have h := H.f1; simpa [doneSet] using h), (by have h := H.f2; simpa [doneSet] using h), (by have h := H.f3; simpa [doneSet] using h), (by have h := H.f4; simpa [doneSet] using h), (by have h := H.f5; simpa [doneSet] using h), (fun _ => rfl), (by have h := H.f7; simpa [doneSet] using h), (fun _ => rfl), (by have h := H.f9; simpa [doneSet] using h), (by have h := H.f11; simpa [doneSet] using h), (by have h := H.o5; simpa [doneSet] using h), (by have h := H.k9; simpa [doneSet] using h), (by have h := H.x9; simpa [doneSet] using h), (by have h := H.k10; simpa [doneSet] using h), (by have h := H.g6_5; simpa [doneSet] using h), (by have h := H.g7_5; simpa [doneSet] using h), (by have h := H.g10_5; simpa [doneSet] using h), (by have h := H.g10_9; simpa [doneSet] using h)⟩⟩
      simp only [putAll, Act.put, List.setIfInBounds_toArray, List.set_cons_succ, List.set_cons_zero]
      all_goals rfl
    · rintro d vs W ⟨v0, v1, v2, v3, v4, v5, v6, v7, v8, v9, v10, v11, a0, c0, X, rfl, H⟩ hn hd
      simp only [putAll, Act.put, List.setIfInBounds_toArray, List.set_cons_succ, List.set_cons_zero]
      have HH1 : Hid (Rt (wr.drew) (Tp j (0) x) (Tp j (0) x) (a1) (0) (c1) (k) ([k]) (bl) (N) (cl) (j) d W v0 v1 v2 v3 v4 v5 v6 v7 v8 v9 v10 v11 a0 c0 X) := H
      clear H
      have HHN : Hid (d 9 = false) := hn
      clear hd hn
      go_wp2
      have H0 := HH1.out
      have H := HH1.out.below ((Below.refl _ W).alloc (Nat.le_refl _) (.cells (plA ⟨0, 0, 0, 0, 0⟩ (.slice none 0 0)) 42))
      have hn := HHN.out
      refine ⟨rfl, [v0, v1, v2, v3, v4, v5, v6, v7, v8, .pointer (some ⟨W.heap.size, 0, none⟩), v10, v11], ?_, v0, v1, v2, v3, v4, v5, v6, v7, v8, .pointer (some ⟨W.heap.size, 0, none⟩), v10, v11, a0, c0, W.heap.size, rfl, ⟨H.bel, (by have h := H.f0; simpa [doneSet] using h), (by have h := H.f1; simpa [doneSet] using h), (by have h := H.f2; simpa [doneSet] using h), (by have h := H.f3; simpa [doneSet] using h), (by have h := H.f4; simpa [doneSet] using h), (by have h := H.f5; simpa [doneSet] using h), (by have h := H.f6; simpa [doneSet] using h), (by have h := H.f7; simpa [doneSet] using h), (by have h := H.f8; simpa [doneSet] using h), (fun _ => rfl), (by have h := H.f11; simpa [doneSet] using h), (by have h := H.o5; simpa [doneSet] using h), (fun _ _ => Blk.new _ _ _), (fun _ => H0.bel.size), (fun e => absurd (H0.g10_9 (by simpa [doneSet] using e)) (by rw [hn]; simp)), (by have h := H.g6_5; simpa [doneSet] using h), (by have h := H.g7_5; simpa [doneSet] using h), (by have h := H.g10_5; simpa [doneSet] using h), (fun _ => by simp [doneSet])⟩⟩
      simp only [putAll, Act.put, List.setIfInBounds_toArray, List.set_cons_succ, List.set_cons_zero]
      all_goals rfl
    · rintro d vs W ⟨v0, v1, v2, v3, v4, v5, v6, v7, v8, v9, v10, v11, a0, c0, X, rfl, H⟩ hn hd
      simp only [putAll, Act.put, List.setIfInBounds_toArray, List.set_cons_succ, List.set_cons_zero]
      have h9 : d 9 = true := hd { on := 9, ground := .data } (by simp) rfl
      have h7 : d 7 = true := hd { on := 7, ground := .data } (by simp) rfl
      have HK8 : Hid (Blk W X (plA ⟨0, 0, 0, 0, 0⟩ (.slice none 0 0)) 42) := H.k9 h9 hn
      have HX8 : Hid (wr.drew.heap.size ≤ X) := H.x9 h9
      have h5 : d 5 = true := H.g7_5 h7
      have HO4 : Hid (Og 18 pkC 40 wr.drew.heap.size W (.slice a0 ([k]).length c0) ([k])) := H.o5 h5
      have HH4 : Hid (d 5 = true) := h5
      obtain rfl := H.f9 h9
      obtain rfl := H.f7 h7
      have HH1 : Hid (Rt (wr.drew) (Tp j (0) x) (Tp j (0) x) (a1) (0) (c1) (k) ([k]) (bl) (N) (cl) (j) d W v0 v1 v2 v3 v4 v5 v6 (.agg (plA (Tp j (0) x) (.slice a0 [k].length c0))) v8 (.pointer (some ⟨X, 0, none⟩)) v10 v11 a0 c0 X) := H
      clear H
      have HHN : Hid (d 10 = false) := hn
      have HHD : Hid (d 9 = true ∧ d 7 = true) := ⟨h9, h7⟩
      clear hd hn h9 h7
      go_wp2_with (refine wpList_store_row rfl 42 _ _ rfl X (plA (Tp j (0) x) (.slice a0 ([k]).length c0)) rfl rfl 42 (plA ⟨0, 0, 0, 0, 0⟩ (.slice none 0 0)) HK8.out (by kernel_rfl) rfl (by simp [Value.oneCell']) ?_)
      have H0 := HH1.out
      have H := HH1.out
      have hn := HHN.out
      have h9 := HHD.out.1
      have h7 := HHD.out.2
      refine ⟨rfl, [v0, v1, v2, v3, v4, v5, v6, .agg (plA (Tp j (0) x) (.slice a0 [k].length c0)), v8, .pointer (some ⟨X, 0, none⟩), undef, v11], ?_, v0, v1, v2, v3, v4, v5, v6, .agg (plA (Tp j (0) x) (.slice a0 [k].length c0)), v8, .pointer (some ⟨X, 0, none⟩), undef, v11, a0, c0, X, rfl, ⟨(belowRow H0.bel _ HX8.out _), (by have h := H.f0; simpa [doneSet] using h), (by have h := H.f1; simpa [doneSet] using h), (by have h := H.f2; simpa [doneSet] using h), (by have h := H.f3; simpa [doneSet] using h), (by have h := H.f4; simpa [doneSet] using h), (by have h := H.f5; simpa [doneSet] using h), (by have h := H.f6; simpa [doneSet] using h), (fun _ => rfl), (by have h := H.f8; simpa [doneSet] using h), (fun _ => rfl), (by have h := H.f11; simpa [doneSet] using h), (fun _ => og_setRow HO4.out HK8.out (by decide)), (fun _ e => absurd e (by simp [doneSet])), (by have h := H.x9; simpa [doneSet] using h), (fun _ => HK8.out.row _), (by have h := H.g6_5; simpa [doneSet] using h), (by have h := H.g7_5; simpa [doneSet] using h), (fun _ => by simpa [doneSet] using HH4.out), (fun _ => by simpa [doneSet] using h9)⟩⟩
      simp only [putAll, Act.put, List.setIfInBounds_toArray, List.set_cons_succ, List.set_cons_zero]
      all_goals rfl
    · rintro d vs W ⟨v0, v1, v2, v3, v4, v5, v6, v7, v8, v9, v10, v11, a0, c0, X, rfl, H⟩ hn hd
      simp only [putAll, Act.put, List.setIfInBounds_toArray, List.set_cons_succ, List.set_cons_zero]
      have h8 : d 8 = true := hd { on := 8, ground := .data } (by simp) rfl
      obtain rfl := H.f8 h8
      have HH1 : Hid (Rt (wr.drew) (Tp j (0) x) (Tp j (0) x) (a1) (0) (c1) (k) ([k]) (bl) (N) (cl) (j) d W v0 v1 v2 v3 v4 v5 v6 v7 (.bool true) v9 v10 v11 a0 c0 X) := H
      clear H
      have HHN : Hid (d 11 = false) := hn
      have HHD : Hid (d 8 = true) := h8
      clear hd hn h8
      go_wp2
      have H0 := HH1.out
      have H := HH1.out
      have hn := HHN.out
      have h8 := HHD.out
      refine ⟨rfl, [v0, v1, v2, v3, v4, v5, v6, v7, .bool true, v9, v10, .bool true], ?_, v0, v1, v2, v3, v4, v5, v6, v7, .bool true, v9, v10, .bool true, a0, c0, X, rfl, ⟨H.bel, (by have h := H.f0; simpa [doneSet] using h), (by have h := H.f1; simpa [doneSet] using h), (by have h := H.f2; simpa [doneSet] using h), (by have h := H.f3; simpa [doneSet] using h), (by have h := H.f4; simpa [doneSet] using h), (by have h := H.f5; simpa [doneSet] using h), (by have h := H.f6; simpa [doneSet] using h), (by have h := H.f7; simpa [doneSet] using h), (fun _ => rfl), (by have h := H.f9; simpa [doneSet] using h), (fun _ => rfl), (by have h := H.o5; simpa [doneSet] using h), (by have h := H.k9; simpa [doneSet] using h), (by have h := H.x9; simpa [doneSet] using h), (by have h := H.k10; simpa [doneSet] using h), (by have h := H.g6_5; simpa [doneSet] using h), (by have h := H.g7_5; simpa [doneSet] using h), (by have h := H.g10_5; simpa [doneSet] using h), (by have h := H.g10_9; simpa [doneSet] using h)⟩⟩
      simp only [putAll, Act.put, List.setIfInBounds_toArray, List.set_cons_succ, List.set_cons_zero]
      all_goals rfl
    rintro d vs w2 ⟨v0, v1, v2, v3, v4, v5, v6, v7, v8, v9, v10, v11, a3, c3, X1, rfl, H⟩ hn
    obtain rfl := H.f0 (hn 0 (by decide))
    obtain rfl := H.f1 (hn 1 (by decide))
    obtain rfl := H.f2 (hn 2 (by decide))
    obtain rfl := H.f3 (hn 3 (by decide))
    obtain rfl := H.f4 (hn 4 (by decide))
    obtain rfl := H.f5 (hn 5 (by decide))
    obtain rfl := H.f6 (hn 6 (by decide))
    obtain rfl := H.f7 (hn 7 (by decide))
    obtain rfl := H.f8 (hn 8 (by decide))
    obtain rfl := H.f9 (hn 9 (by decide))
    obtain rfl := H.f11 (hn 11 (by decide))
    have bE : Below wr.heap.size wr w2 := (Below.refl _ wr).drew.trans H.bel
    have oE : Og 18 pkC 40 wr.heap.size w2 (.slice a3 1 c3) [k] := H.o5 (hn 5 (by decide))
    have kE : Blk w2 X1 (plA (Tp j (0) x) (.slice a3 1 c3)) 42 := H.k10 (hn 10 (by decide))
    have xE : wr.heap.size ≤ X1 := H.x9 (hn 9 (by decide))
    clear H hn
    have HXX1 : Hid (GP < X1 ∧ GQ < X1) := ⟨Nat.lt_of_lt_of_le KP_wr.out.lt xE, Nat.lt_of_lt_of_le KQ_wr.out.lt xE⟩
    have B_w2 : Hid (Below w.heap.size w w2) := belowCall B_wr.out bE B_wr.out.size
    have KP_w2 : Hid (Blk w2 GP (plA (Tp j 0 x) (.slice a1 0 c1)) 42) := KP_wr.out.below bE KP_wr.out.lt
    have KQ_w2 : Hid (Blk w2 GQ (plA (Tp j L x) (.slice a2 0 c2)) 42) := KQ_wr.out.below bE KQ_wr.out.lt
    have O_w2 : Hid (Og 18 pkC 40 w.heap.size w2 (.slice (some ⟨bl, 0, none⟩) N cl) ls) := O_wr.out.below bE
    have KA_w2 : Hid (Blk w2 X1 (plA (Tp j (0) x) (.slice a3 1 c3)) 42) := kE
    have S1_w2 : Hid (Og 18 pkC 40 w.heap.size w2 (.slice a3 1 c3) [k]) := Og.mono oE B_wr.out.size
    clear bE oE kE xE HKK HRL HRS B_wr KP_wr KQ_wr O_wr
    simp only [putAll, Act.put, List.setIfInBounds_toArray, List.set_cons_succ, List.set_cons_zero]
    go_upto_region 11 with fail
    have HKK : Hid (Blk w2.drew GQ (plA (Tp j (L) x) (.slice a2 0 c2)) 42) := KQ_w2.out
    have HRL : Hid (∀ W, Below w2.drew.heap.size w2.drew W → W.rangeAt bl (j * 18) (pkC k)) := fun W hb => HRO.out W ((O_w2.out.below (Below.refl _ _).drew).below hb)
    have HRS : Hid (∀ W, Below w2.drew.heap.size w2.drew W → Rg 18 pkC W (.slice a2 0 c2) []) := fun W _ => rg_nil W _ _ HCC.out.2
    refine region_vals [undef, undef, undef, undef, undef, undef, undef, undef, undef, undef, undef, undef] (RtS (w2.drew) (Tp j (L) x) (Tp j (L) x) (a2) (0) (c2) (k) ([k]) (bl) (N) (cl) (j)) (by kernel_rfl) (by kernel_rfl) ?_ ⟨?_, ?_, ?_, ?_, ?_, ?_, ?_, ?_, ?_, ?_, ?_, ?_, trivial⟩ ?_
    · refine ⟨_, _, _, _, _, _, _, _, _, _, _, _, none, 0, 0, rfl, ⟨(Below.refl _ _), ?_, ?_, ?_, ?_, ?_, ?_, ?_, ?_, ?_, ?_, ?_, ?_, ?_, ?_, ?_, ?_, ?_, ?_, ?_⟩⟩ <;> simp
    · rintro d vs W ⟨v0, v1, v2, v3, v4, v5, v6, v7, v8, v9, v10, v11, a0, c0, X, rfl, H⟩ hn hd
      simp only [putAll, Act.put, List.setIfInBounds_toArray, List.set_cons_succ, List.set_cons_zero]
      have HKW : Hid (Blk W GQ (plA (Tp j (L) x) (.slice a2 0 c2)) 42) := HKK.out.below H.bel HKK.out.lt
      have HH1 : Hid (Rt (w2.drew) (Tp j (L) x) (Tp j (L) x) (a2) (0) (c2) (k) ([k]) (bl) (N) (cl) (j) d W v0 v1 v2 v3 v4 v5 v6 v7 v8 v9 v10 v11 a0 c0 X) := H
      clear H
      have HHN : Hid (d 0 = false) := hn
      clear hd hn
      go_wp2_with (refine wpList_load_row rfl 42 _ rfl GQ rfl 42 (plA (Tp j (L) x) (.slice a2 0 c2)) (0, 0) _ HKW.out Tryd.underlying42 rfl (by kernel_rfl) ?_)
      have H0 := HH1.out
      have H := HH1.out
      have hn := HHN.out
      refine ⟨rfl, [.agg (plA (Tp j (L) x) (.slice a2 0 c2)), v1, v2, v3, v4, v5, v6, v7, v8, v9, v10, v11], ?_, .agg (plA (Tp j (L) x) (.slice a2 0 c2)), v1, v2, v3, v4, v5, v6, v7, v8, v9, v10, v11, a0, c0, X, rfl, ⟨H.bel, (fun _ => rfl), (by have h := H.f1; simpa [doneSet] using h), (by have h := H.f2; simpa [doneSet] using h), (by have h := H.f3; simpa [doneSet] using h), (by have h := H.f4; simpa [doneSet] using h), (by have h := H.f5; simpa [doneSet] using h), (by have h := H.f6; simpa [doneSet] using h), (by have h := H.f7; simpa [doneSet] using h), (by have h := H.f8; simpa [doneSet] using h), (by have h := H.f9; simpa [doneSet] using h), (by have h := H.f11; simpa [doneSet] using h), (by have h := H.o5; simpa [doneSet] using h), (by have h := H.k9; simpa [doneSet] using h), (by have h := H.x9; simpa [doneSet] using h), (by have h := H.k10; simpa [doneSet] using h), (by have h := H.g6_5; simpa [doneSet] using h), (by have h := H.g7_5; simpa [doneSet] using h), (by have h := H.g10_5; simpa [doneSet] using h), (by have h := H.g10_9; simpa [doneSet] using h)⟩⟩
      simp only [putAll, Act.put, List.setIfInBounds_toArray, List.set_cons_succ, List.set_cons_zero]
      all_goals rfl
    · rintro d vs W ⟨v0, v1, v2, v3, v4, v5, v6, v7, v8, v9, v10, v11, a0, c0, X, rfl, H⟩ hn hd
      simp only [putAll, Act.put, List.setIfInBounds_toArray, List.set_cons_succ, List.set_cons_zero]
      have HH1 : Hid (Rt (w2.drew) (Tp j (L) x) (Tp j (L) x) (a2) (0) (c2) (k) ([k]) (bl) (N) (cl) (j) d W v0 v1 v2 v3 v4 v5 v6 v7 v8 v9 v10 v11 a0 c0 X) := H
      clear H
      have HHN : Hid (d 1 = false) := hn
      clear hd hn
      go_wp2
      have H0 := HH1.out
      have H := HH1.out
      have hn := HHN.out
      refine ⟨rfl, [v0, .slice (some ⟨bl, 0, none⟩) N cl, v2, v3, v4, v5, v6, v7, v8, v9, v10, v11], ?_, v0, .slice (some ⟨bl, 0, none⟩) N cl, v2, v3, v4, v5, v6, v7, v8, v9, v10, v11, a0, c0, X, rfl, ⟨H.bel, (by have h := H.f0; simpa [doneSet] using h), (fun _ => rfl), (by have h := H.f2; simpa [doneSet] using h), (by have h := H.f3; simpa [doneSet] using h), (by have h := H.f4; simpa [doneSet] using h), (by have h := H.f5; simpa [doneSet] using h), (by have h := H.f6; simpa [doneSet] using h), (by have h := H.f7; simpa [doneSet] using h), (by have h := H.f8; simpa [doneSet] using h), (by have h := H.f9; simpa [doneSet] using h), (by have h := H.f11; simpa [doneSet] using h), (by have h := H.o5; simpa [doneSet] using h), (by have h := H.k9; simpa [doneSet] using h), (by have h := H.x9; simpa [doneSet] using h), (by have h := H.k10; simpa [doneSet] using h), (by have h := H.g6_5; simpa [doneSet] using h), (by have h := H.g7_5; simpa [doneSet] using h), (by have h := H.g10_5; simpa [doneSet] using h), (by have h := H.g10_9; simpa [doneSet] using h)⟩⟩
      simp only [putAll, Act.put, List.setIfInBounds_toArray, List.set_cons_succ, List.set_cons_zero]
      all_goals rfl
    · rintro d vs W ⟨v0, v1, v2, v3, v4, v5, v6, v7, v8, v9, v10, v11, a0, c0, X, rfl, H⟩ hn hd
      simp only [putAll, Act.put, List.setIfInBounds_toArray, List.set_cons_succ, List.set_cons_zero]
      have HH1 : Hid (Rt (w2.drew) (Tp j (L) x) (Tp j (L) x) (a2) (0) (c2) (k) ([k]) (bl) (N) (cl) (j) d W v0 v1 v2 v3 v4 v5 v6 v7 v8 v9 v10 v11 a0 c0 X) := H
      clear H
      have HHN : Hid (d 2 = false) := hn
      clear hd hn
      go_wp2
      have H0 := HH1.out
      have H := HH1.out
      have hn := HHN.out
      refine ⟨rfl, [v0, v1, .int .i64 (j : Int), v3, v4, v5, v6, v7, v8, v9, v10, v11], ?_, v0, v1, .int .i64 (j : Int), v3, v4, v5, v6, v7, v8, v9, v10, v11, a0, c0, X, rfl, ⟨H.bel, (by have h := H.f0; simpa [doneSet] using h), (by have h := H.f1; simpa [doneSet] using h), (fun _ => rfl), (by have h := H.f3; simpa [doneSet] using h), (by have h := H.f4; simpa [doneSet] using h), (by have h := H.f5; simpa [doneSet] using h), (by have h := H.f6; simpa [doneSet] using h), (by have h := H.f7; simpa [doneSet] using h), (by have h := H.f8; simpa [doneSet] using h), (by have h := H.f9; simpa [doneSet] using h), (by have h := H.f11; simpa [doneSet] using h), (by have h := H.o5; simpa [doneSet] using h), (by have h := H.k9; simpa [doneSet] using h), (by have h := H.x9; simpa [doneSet] using h), (by have h := H.k10; simpa [doneSet] using h), (by have h := H.g6_5; simpa [doneSet] using h), (by have h := H.g7_5; simpa [doneSet] using h), (by have h := H.g10_5; simpa [doneSet] using h), (by have h := H.g10_9; simpa [doneSet] using h)⟩⟩
      simp only [putAll, Act.put, List.setIfInBounds_toArray, List.set_cons_succ, List.set_cons_zero]
      all_goals rfl
    · rintro d vs W ⟨v0, v1, v2, v3, v4, v5, v6, v7, v8, v9, v10, v11, a0, c0, X, rfl, H⟩ hn hd
      simp only [putAll, Act.put, List.setIfInBounds_toArray, List.set_cons_succ, List.set_cons_zero]
      have h1 : d 1 = true := hd { on := 1, ground := .data } (by simp) rfl
      have h2 : d 2 = true := hd { on := 2, ground := .data } (by simp) rfl
      obtain rfl := H.f1 h1
      obtain rfl := H.f2 h2
      have HH1 : Hid (Rt (w2.drew) (Tp j (L) x) (Tp j (L) x) (a2) (0) (c2) (k) ([k]) (bl) (N) (cl) (j) d W v0 (.slice (some ⟨bl, 0, none⟩) N cl) (.int .i64 (j : Int)) v3 v4 v5 v6 v7 v8 v9 v10 v11 a0 c0 X) := H
      clear H
      have HHN : Hid (d 3 = false) := hn
      have HHD : Hid (d 1 = true ∧ d 2 = true) := ⟨h1, h2⟩
      clear hd hn h1 h2
      go_wp2
      have H0 := HH1.out
      have H := HH1.out
      have hn := HHN.out
      have h1 := HHD.out.1
      have h2 := HHD.out.2
      refine ⟨rfl, [v0, .slice (some ⟨bl, 0, none⟩) N cl, .int .i64 (j : Int), .pointer (some ⟨bl, j * 18, none⟩), v4, v5, v6, v7, v8, v9, v10, v11], ?_, v0, .slice (some ⟨bl, 0, none⟩) N cl, .int .i64 (j : Int), .pointer (some ⟨bl, j * 18, none⟩), v4, v5, v6, v7, v8, v9, v10, v11, a0, c0, X, rfl, ⟨H.bel, (by have h := H.f0; simpa [doneSet] using h), (fun _ => rfl), (fun _ => rfl), (fun _ => rfl), (by have h := H.f4; simpa [doneSet] using h), (by have h := H.f5; simpa [doneSet] using h), (by have h := H.f6; simpa [doneSet] using h), (by have h := H.f7; simpa [doneSet] using h), (by have h := H.f8; simpa [doneSet] using h), (by have h := H.f9; simpa [doneSet] using h), (by have h := H.f11; simpa [doneSet] using h), (by have h := H.o5; simpa [doneSet] using h), (by have h := H.k9; simpa [doneSet] using h), (by have h := H.x9; simpa [doneSet] using h), (by have h := H.k10; simpa [doneSet] using h), (by have h := H.g6_5; simpa [doneSet] using h), (by have h := H.g7_5; simpa [doneSet] using h), (by have h := H.g10_5; simpa [doneSet] using h), (by have h := H.g10_9; simpa [doneSet] using h)⟩⟩
      simp only [putAll, Act.put, List.setIfInBounds_toArray, List.set_cons_succ, List.set_cons_zero]
      all_goals rfl
    · rintro d vs W ⟨v0, v1, v2, v3, v4, v5, v6, v7, v8, v9, v10, v11, a0, c0, X, rfl, H⟩ hn hd
      simp only [putAll, Act.put, List.setIfInBounds_toArray, List.set_cons_succ, List.set_cons_zero]
      have h3 : d 3 = true := hd { on := 3, ground := .data } (by simp) rfl
      have HRM : Hid (W.rangeAt bl (j * 18) (pkC k)) := HRL.out W (H.bel)
      obtain rfl := H.f3 h3
      have HH1 : Hid (Rt (w2.drew) (Tp j (L) x) (Tp j (L) x) (a2) (0) (c2) (k) ([k]) (bl) (N) (cl) (j) d W v0 v1 v2 (.pointer (some ⟨bl, j * 18, none⟩)) v4 v5 v6 v7 v8 v9 v10 v11 a0 c0 X) := H
      clear H
      have HHN : Hid (d 4 = false) := hn
      have HHD : Hid (d 3 = true) := h3
      clear hd hn h3
      go_wp2_with (refine ldM rfl _ rfl bl (j * 18) rfl k HRM.out ?_)
      have H0 := HH1.out
      have H := HH1.out
      have hn := HHN.out
      have h3 := HHD.out
      refine ⟨rfl, [v0, v1, v2, .pointer (some ⟨bl, j * 18, none⟩), .agg (pkA k), v5, v6, v7, v8, v9, v10, v11], ?_, v0, v1, v2, .pointer (some ⟨bl, j * 18, none⟩), .agg (pkA k), v5, v6, v7, v8, v9, v10, v11, a0, c0, X, rfl, ⟨H.bel, (by have h := H.f0; simpa [doneSet] using h), (by have h := H.f1; simpa [doneSet] using h), (by have h := H.f2; simpa [doneSet] using h), (fun _ => rfl), (fun _ => rfl), (by have h := H.f5; simpa [doneSet] using h), (by have h := H.f6; simpa [doneSet] using h), (by have h := H.f7; simpa [doneSet] using h), (by have h := H.f8; simpa [doneSet] using h), (by have h := H.f9; simpa [doneSet] using h), (by have h := H.f11; simpa [doneSet] using h), (by have h := H.o5; simpa [doneSet] using h), (by have h := H.k9; simpa [doneSet] using h), (by have h := H.x9; simpa [doneSet] using h), (by have h := H.k10; simpa [doneSet] using h), (by have h := H.g6_5; simpa [doneSet] using h), (by have h := H.g7_5; simpa [doneSet] using h), (by have h := H.g10_5; simpa [doneSet] using h), (by have h := H.g10_9; simpa [doneSet] using h)⟩⟩
      simp only [putAll, Act.put, List.setIfInBounds_toArray, List.set_cons_succ, List.set_cons_zero]
      all_goals rfl
    · rintro d vs W ⟨v0, v1, v2, v3, v4, v5, v6, v7, v8, v9, v10, v11, a0, c0, X, rfl, H⟩ hn hd
      simp only [putAll, Act.put, List.setIfInBounds_toArray, List.set_cons_succ, List.set_cons_zero]
      have h0 : d 0 = true := hd { on := 0, ground := .data } (by simp) rfl
      have h4 : d 4 = true := hd { on := 4, ground := .data } (by simp) rfl
      have HRW : Hid (Rg 18 pkC W (.slice a2 0 c2) ([])) := HRS.out W (H.bel)
      obtain rfl := H.f0 h0
      obtain rfl := H.f4 h4
      have HH1 : Hid (Rt (w2.drew) (Tp j (L) x) (Tp j (L) x) (a2) (0) (c2) (k) ([k]) (bl) (N) (cl) (j) d W (.agg (plA (Tp j (L) x) (.slice a2 0 c2))) v1 v2 v3 (.agg (pkA k)) v5 v6 v7 v8 v9 v10 v11 a0 c0 X) := H
      clear H
      have HHN : Hid (d 5 = false) := hn
      have HHD : Hid (d 0 = true ∧ d 4 = true) := ⟨h0, h4⟩
      clear hd hn h0 h4
      go_wp2_with (fail)
      refine (put_t1 HTK.out HTQ.out W _ HRW.out).mono ?_
      rintro e W3 ⟨v7, rfl, o7, b7⟩
      have HB7 : Hid (Below W.heap.size W W3) := b7
      obtain ⟨a7, c7, rfl⟩ := o7.form
      have HO7 : Hid (Og 18 pkC 40 W.heap.size W3 (.slice a7 ([k]).length c7) ([k])) := o7
      clear b7 o7
      go_wp2
      have H0 := HH1.out
      have H := HH1.out.below HB7.out
      have hn := HHN.out
      have h0 := HHD.out.1
      have h4 := HHD.out.2
      refine ⟨rfl, [.agg (plA (Tp j (L) x) (.slice a2 0 c2)), v1, v2, v3, .agg (pkA k), .tuple #[.agg (plA (Tp j (L) x) (.slice a7 ([k]).length c7)), .bool true], v6, v7, v8, v9, v10, v11], ?_, .agg (plA (Tp j (L) x) (.slice a2 0 c2)), v1, v2, v3, .agg (pkA k), .tuple #[.agg (plA (Tp j (L) x) (.slice a7 ([k]).length c7)), .bool true], v6, v7, v8, v9, v10, v11, a7, c7, X, rfl, ⟨H.bel, (fun _ => rfl), (by have h := H.f1; simpa [doneSet] using h), (by have h := H.f2; simpa [doneSet] using h), (by have h := H.f3; simpa [doneSet] using h), (fun _ => rfl), (fun _ => rfl), (fun e => absurd (H0.g6_5 (by simpa [doneSet] using e)) (by rw [hn]; simp)), (fun e => absurd (H0.g7_5 (by simpa [doneSet] using e)) (by rw [hn]; simp)), (by have h := H.f8; simpa [doneSet] using h), (by have h := H.f9; simpa [doneSet] using h), (by have h := H.f11; simpa [doneSet] using h), (fun _ => HO7.out.mono H0.bel.size), (by have h := H.k9; simpa [doneSet] using h), (by have h := H.x9; simpa [doneSet] using h), (fun e => absurd (H0.g10_5 (by simpa [doneSet] using e)) (by rw [hn]; simp)), (fun _ => by simp [doneSet]), (fun _ => by simp [doneSet]), (fun _ => by simp [doneSet]), (by have h := H.g10_9; simpa [doneSet] using h)⟩⟩
      simp only [putAll, Act.put, List.setIfInBounds_toArray, List.set_cons_succ, List.set_cons_zero]
      all_goals rfl
    · rintro d vs W ⟨v0, v1, v2, v3, v4, v5, v6, v7, v8, v9, v10, v11, a0, c0, X, rfl, H⟩ hn hd
      simp only [putAll, Act.put, List.setIfInBounds_toArray, List.set_cons_succ, List.set_cons_zero]
      have h5 : d 5 = true := hd { on := 5, ground := .data } (by simp) rfl
      obtain rfl := H.f5 h5
      have HH1 : Hid (Rt (w2.drew) (Tp j (L) x) (Tp j (L) x) (a2) (0) (c2) (k) ([k]) (bl) (N) (cl) (j) d W v0 v1 v2 v3 v4 (.tuple #[.agg (plA (Tp j (L) x) (.slice a0 [k].length c0)), .bool true]) v6 v7 v8 v9 v10 v11 a0 c0 X) := H
      clear H
      have HHN : Hid (d 6 = false) := hn
      have HHD : Hid (d 5 = true) := h5
      clear hd hn h5
      go_wp2
      have H0 := HH1.out
      have H := HH1.out
      have hn := HHN.out
      have h5 := HHD.out
      refine ⟨rfl, [v0, v1, v2, v3, v4, .tuple #[.agg (plA (Tp j (L) x) (.slice a0 [k].length c0)), .bool true], .tuple #[.agg (plA (Tp j (L) x) (.slice a0 [k].length c0)), .bool true], v7, v8, v9, v10, v11], ?_, v0, v1, v2, v3, v4, .tuple #[.agg (plA (Tp j (L) x) (.slice a0 [k].length c0)), .bool true], .tuple #[.agg (plA (Tp j (L) x) (.slice a0 [k].length c0)), .bool true], v7, v8, v9, v10, v11, a0, c0, X, rfl, ⟨H.bel, (by have h := H.f0; simpa [doneSet] using h), (by have h := H.f1; simpa [doneSet] using h), (by have h := H.f2; simpa [doneSet] using h), (by have h := H.f3; simpa [doneSet] using h), (by have h := H.f4; simpa [doneSet] using h), (fun _ => rfl), (fun _ => rfl), (by have h := H.f7; simpa [doneSet] using h), (by have h := H.f8; simpa [doneSet] using h), (by have h := H.f9; simpa [doneSet] using h), (by have h := H.f11; simpa [doneSet] using h), (by have h := H.o5; simpa [doneSet] using h), (by have h := H.k9; simpa [doneSet] using h), (by have h := H.x9; simpa [doneSet] using h), (by have h := H.k10; simpa [doneSet] using h), (fun _ => by simpa [doneSet] using h5), (by have h := H.g7_5; simpa [doneSet] using h), (by have h := H.g10_5; simpa [doneSet] using h), (by have h := H.g10_9; simpa [doneSet] using h)⟩⟩
      simp only [putAll, Act.put, List.setIfInBounds_toArray, List.set_cons_succ, List.set_cons_zero]
      all_goals rfl
    · rintro d vs W ⟨v0, v1, v2, v3, v4, v5, v6, v7, v8, v9, v10, v11, a0, c0, X, rfl, H⟩ hn hd
      simp only [putAll, Act.put, List.setIfInBounds_toArray, List.set_cons_succ, List.set_cons_zero]
      have h6 : d 6 = true := hd { on := 6, ground := .data } (by simp) rfl
      have h5 := H.g6_5 h6
      obtain rfl := H.f6 h6
      have HH1 : Hid (Rt (w2.drew) (Tp j (L) x) (Tp j (L) x) (a2) (0) (c2) (k) ([k]) (bl) (N) (cl) (j) d W v0 v1 v2 v3 v4 v5 (.tuple #[.agg (plA (Tp j (L) x) (.slice a0 [k].length c0)), .bool true]) v7 v8 v9 v10 v11 a0 c0 X) := H
      clear H
      have HHN : Hid (d 7 = false) := hn
      have HHD : Hid (d 6 = true) := h6
      clear hd hn h6
      go_wp2
      have H0 := HH1.out
      have H := HH1.out
      have hn := HHN.out
      have h6 := HHD.out
      refine ⟨rfl, [v0, v1, v2, v3, v4, v5, .tuple #[.agg (plA (Tp j (L) x) (.slice a0 [k].length c0)), .bool true], .agg (plA (Tp j (L) x) (.slice a0 [k].length c0)), v8, v9, v10, v11], ?_, v0, v1, v2, v3, v4, v5, .tuple #[.agg (plA (Tp j (L) x) (.slice a0 [k].length c0)), .bool true], .agg (plA (Tp j (L) x) (.slice a0 [k].length c0)), v8, v9, v10, v11, a0, c0, X, rfl, ⟨H.bel, (by have h := H.f0; simpa [doneSet] using h), (by have h := H.f1; simpa [doneSet] using h), (by have h := H.f2; simpa [doneSet] using h), (by have h := H.f3; simpa [doneSet] using h), (by have h := H.f4; simpa [doneSet] using h), (by have h := H.f5; simpa [doneSet] using h), (fun _ => rfl), (fun _ => rfl), (by have h := H.f8; simpa [doneSet] using h), (by have h := H.f9; simpa [doneSet] using h), (by have h := H.f11; simpa [doneSet] using h), (by have h := H.o5; simpa [doneSet] using h), (by have h := H.k9; simpa [doneSet] using h), (by have h := H.x9; simpa [doneSet] using h), (by have h := H.k10; simpa [doneSet] using h), (by have h := H.g6_5; simpa [doneSet] using h), (fun _ => by simpa [doneSet] using h5), (by have h := H.g10_5; simpa [doneSet] using h), (by have h := H.g10_9; simpa [doneSet] using h)⟩⟩
      simp only [putAll, Act.put, List.setIfInBounds_toArray, List.set_cons_succ, List.set_cons_zero]
      all_goals rfl
    · rintro d vs W ⟨v0, v1, v2, v3, v4, v5, v6, v7, v8, v9, v10, v11, a0, c0, X, rfl, H⟩ hn hd
      simp only [putAll, Act.put, List.setIfInBounds_toArray, List.set_cons_succ, List.set_cons_zero]
      have h6 : d 6 = true := hd { on := 6, ground := .data } (by simp) rfl
      obtain rfl := H.f6 h6
      have HH1 : Hid (Rt (w2.drew) (Tp j (L) x) (Tp j (L) x) (a2) (0) (c2) (k) ([k]) (bl) (N) (cl) (j) d W v0 v1 v2 v3 v4 v5 (.tuple #[.agg (plA (Tp j (L) x) (.slice a0 [k].length c0)), .bool true]) v7 v8 v9 v10 v11 a0 c0 X) := H
      clear H
      have HHN : Hid (d 8 = false) := hn
      have HHD : Hid (d 6 = true) := h6
      clear hd hn h6
      go_wp2
      have H0 := HH1.out
      have H := HH1.out
      have hn := HHN.out
      have h6 := HHD.out
      refine ⟨rfl, [v0, v1, v2, v3, v4, v5, .tuple #[.agg (plA (Tp j (L) x) (.slice a0 [k].length c0)), .bool true], v7, .bool true, v9, v10, v11], ?_, v0, v1, v2, v3, v4, v5, .tuple #[.agg (plA (Tp j (L) x) (.slice a0 [k].length c0)), .bool true], v7, .bool true, v9, v10, v11, a0, c0, X, rfl, ⟨H.bel, (by have h := H.f0; simpa [doneSet] using h), (by have h := H.f1; simpa [doneSet] using h), (by have h := H.f2; simpa [doneSet] using h), (by have h := H.f3; simpa [doneSet] using h), (by have h := H.f4; simpa [doneSet] using h), (by have h := H.f5; simpa [doneSet] using h), (fun _ => rfl), (by have h := H.f7; simpa [doneSet] using h), (fun _ => rfl), (by have h := H.f9; simpa [doneSet] using h), (by have h := H.f11; simpa [doneSet] using h), (by have h := H.o5; simpa [doneSet] using h), (by have h := H.k9; simpa [doneSet] using h), (by have h := H.x9; simpa [doneSet] using h), (by have h := H.k10; simpa [doneSet] using h), (by have h := H.g6_5; simpa [doneSet] using h), (by have h := H.g7_5; simpa [doneSet] using h), (by have h := H.g10_5; simpa [doneSet] using h), (by have h := H.g10_9; simpa [doneSet] using h)⟩⟩
      simp only [putAll, Act.put, List.setIfInBounds_toArray, List.set_cons_succ, List.set_cons_zero]
      all_goals rfl
    · rintro d vs W ⟨v0, v1, v2, v3, v4, v5, v6, v7, v8, v9, v10, v11, a0, c0, X, rfl, H⟩ hn hd
      simp only [putAll, Act.put, List.setIfInBounds_toArray, List.set_cons_succ, List.set_cons_zero]
      have HH1 : Hid (Rt (w2.drew) (Tp j (L) x) (Tp j (L) x) (a2) (0) (c2) (k) ([k]) (bl) (N) (cl) (j) d W v0 v1 v2 v3 v4 v5 v6 v7 v8 v9 v10 v11 a0 c0 X) := H
      clear H
      have HHN : Hid (d 9 = false) := hn
      clear hd hn
      go_wp2
      have H0 := HH1.out
      have H := HH1.out.below ((Below.refl _ W).alloc (Nat.le_refl _) (.cells (plA ⟨0, 0, 0, 0, 0⟩ (.slice none 0 0)) 42))
      have hn := HHN.out
      refine ⟨rfl, [v0, v1, v2, v3, v4, v5, v6, v7, v8, .pointer (some ⟨W.heap.size, 0, none⟩), v10, v11], ?_, v0, v1, v2, v3, v4, v5, v6, v7, v8, .pointer (some ⟨W.heap.size, 0, none⟩), v10, v11, a0, c0, W.heap.size, rfl, ⟨H.bel, (by have h := H.f0; simpa [doneSet] using h), (by have h := H.f1; simpa [doneSet] using h), (by have h := H.f2; simpa [doneSet] using h), (by have h := H.f3; simpa [doneSet] using h), (by have h := H.f4; simpa [doneSet] using h), (by have h := H.f5; simpa [doneSet] using h), (by have h := H.f6; simpa [doneSet] using h), (by have h := H.f7; simpa [doneSet] using h), (by have h := H.f8; simpa [doneSet] using h), (fun _ => rfl), (by have h := H.f11; simpa [doneSet] using h), (by have h := H.o5; simpa [doneSet] using h), (fun _ _ => Blk.new _ _ _), (fun _ => H0.bel.size), (fun e => absurd (H0.g10_9 (by simpa [doneSet] using e)) (by rw [hn]; simp)), (by have h := H.g6_5; simpa [doneSet] using h), (by have h := H.g7_5; simpa [doneSet] using h), (by have h := H.g10_5; simpa [doneSet] using h), (fun _ => by simp [doneSet])⟩⟩
      simp only [putAll, Act.put, List.setIfInBounds_toArray, List.set_cons_succ, List.set_cons_zero]
      all_goals rfl
    · rintro d vs W ⟨v0, v1, v2, v3, v4, v5, v6, v7, v8, v9, v10, v11, a0, c0, X, rfl, H⟩ hn hd
      simp only [putAll, Act.put, List.setIfInBounds_toArray, List.set_cons_succ, List.set_cons_zero]
      have h9 : d 9 = true := hd { on := 9, ground := .data } (by simp) rfl
      have h7 : d 7 = true := hd { on := 7, ground := .data } (by simp) rfl
      have HK8 : Hid (Blk W X (plA ⟨0, 0, 0, 0, 0⟩ (.slice none 0 0)) 42) := H.k9 h9 hn
      have HX8 : Hid (w2.drew.heap.size ≤ X) := H.x9 h9
      have h5 : d 5 = true := H.g7_5 h7
      have HO4 : Hid (Og 18 pkC 40 w2.drew.heap.size W (.slice a0 ([k]).length c0) ([k])) := H.o5 h5
      have HH4 : Hid (d 5 = true) := h5
      obtain rfl := H.f9 h9
      obtain rfl := H.f7 h7
      have HH1 : Hid (Rt (w2.drew) (Tp j (L) x) (Tp j (L) x) (a2) (0) (c2) (k) ([k]) (bl) (N) (cl) (j) d W v0 v1 v2 v3 v4 v5 v6 (.agg (plA (Tp j (L) x) (.slice a0 [k].length c0))) v8 (.pointer (some ⟨X, 0, none⟩)) v10 v11 a0 c0 X) := H
      clear H
      have HHN : Hid (d 10 = false) := hn
      have HHD : Hid (d 9 = true ∧ d 7 = true) := ⟨h9, h7⟩
      clear hd hn h9 h7
      go_wp2_with (refine wpList_store_row rfl 42 _ _ rfl X (plA (Tp j (L) x) (.slice a0 ([k]).length c0)) rfl rfl 42 (plA ⟨0, 0, 0, 0, 0⟩ (.slice none 0 0)) HK8.out (by kernel_rfl) rfl (by simp [Value.oneCell']) ?_)
      have H0 := HH1.out
      have H := HH1.out
      have hn := HHN.out
      have h9 := HHD.out.1
      have h7 := HHD.out.2
      refine ⟨rfl, [v0, v1, v2, v3, v4, v5, v6, .agg (plA (Tp j (L) x) (.slice a0 [k].length c0)), v8, .pointer (some ⟨X, 0, none⟩), undef, v11], ?_, v0, v1, v2, v3, v4, v5, v6, .agg (plA (Tp j (L) x) (.slice a0 [k].length c0)), v8, .pointer (some ⟨X, 0, none⟩), undef, v11, a0, c0, X, rfl, ⟨(belowRow H0.bel _ HX8.out _), (by have h := H.f0; simpa [doneSet] using h), (by have h := H.f1; simpa [doneSet] using h), (by have h := H.f2; simpa [doneSet] using h), (by have h := H.f3; simpa [doneSet] using h), (by have h := H.f4; simpa [doneSet] using h), (by have h := H.f5; simpa [doneSet] using h), (by have h := H.f6; simpa [doneSet] using h), (fun _ => rfl), (by have h := H.f8; simpa [doneSet] using h), (fun _ => rfl), (by have h := H.f11; simpa [doneSet] using h), (fun _ => og_setRow HO4.out HK8.out (by decide)), (fun _ e => absurd e (by simp [doneSet])), (by have h := H.x9; simpa [doneSet] using h), (fun _ => HK8.out.row _), (by have h := H.g6_5; simpa [doneSet] using h), (by have h := H.g7_5; simpa [doneSet] using h), (fun _ => by simpa [doneSet] using HH4.out), (fun _ => by simpa [doneSet] using h9)⟩⟩
      simp only [putAll, Act.put, List.setIfInBounds_toArray, List.set_cons_succ, List.set_cons_zero]
      all_goals rfl
    · rintro d vs W ⟨v0, v1, v2, v3, v4, v5, v6, v7, v8, v9, v10, v11, a0, c0, X, rfl, H⟩ hn hd
      simp only [putAll, Act.put, List.setIfInBounds_toArray, List.set_cons_succ, List.set_cons_zero]
      have h8 : d 8 = true := hd { on := 8, ground := .data } (by simp) rfl
      obtain rfl := H.f8 h8
      have HH1 : Hid (Rt (w2.drew) (Tp j (L) x) (Tp j (L) x) (a2) (0) (c2) (k) ([k]) (bl) (N) (cl) (j) d W v0 v1 v2 v3 v4 v5 v6 v7 (.bool true) v9 v10 v11 a0 c0 X) := H
      clear H
      have HHN : Hid (d 11 = false) := hn
      have HHD : Hid (d 8 = true) := h8
      clear hd hn h8
      go_wp2
      have H0 := HH1.out
      have H := HH1.out
      have hn := HHN.out
      have h8 := HHD.out
      refine ⟨rfl, [v0, v1, v2, v3, v4, v5, v6, v7, .bool true, v9, v10, .bool true], ?_, v0, v1, v2, v3, v4, v5, v6, v7, .bool true, v9, v10, .bool true, a0, c0, X, rfl, ⟨H.bel, (by have h := H.f0; simpa [doneSet] using h), (by have h := H.f1; simpa [doneSet] using h), (by have h := H.f2; simpa [doneSet] using h), (by have h := H.f3; simpa [doneSet] using h), (by have h := H.f4; simpa [doneSet] using h), (by have h := H.f5; simpa [doneSet] using h), (by have h := H.f6; simpa [doneSet] using h), (by have h := H.f7; simpa [doneSet] using h), (fun _ => rfl), (by have h := H.f9; simpa [doneSet] using h), (fun _ => rfl), (by have h := H.o5; simpa [doneSet] using h), (by have h := H.k9; simpa [doneSet] using h), (by have h := H.x9; simpa [doneSet] using h), (by have h := H.k10; simpa [doneSet] using h), (by have h := H.g6_5; simpa [doneSet] using h), (by have h := H.g7_5; simpa [doneSet] using h), (by have h := H.g10_5; simpa [doneSet] using h), (by have h := H.g10_9; simpa [doneSet] using h)⟩⟩
      simp only [putAll, Act.put, List.setIfInBounds_toArray, List.set_cons_succ, List.set_cons_zero]
      all_goals rfl
    rintro d vs w3 ⟨v0, v1, v2, v3, v4, v5, v6, v7, v8, v9, v10, v11, a4, c4, X2, rfl, H⟩ hn
    obtain rfl := H.f0 (hn 0 (by decide))
    obtain rfl := H.f1 (hn 1 (by decide))
    obtain rfl := H.f2 (hn 2 (by decide))
    obtain rfl := H.f3 (hn 3 (by decide))
    obtain rfl := H.f4 (hn 4 (by decide))
    obtain rfl := H.f5 (hn 5 (by decide))
    obtain rfl := H.f6 (hn 6 (by decide))
    obtain rfl := H.f7 (hn 7 (by decide))
    obtain rfl := H.f8 (hn 8 (by decide))
    obtain rfl := H.f9 (hn 9 (by decide))
    obtain rfl := H.f11 (hn 11 (by decide))
    have bE : Below w2.heap.size w2 w3 := (Below.refl _ w2).drew.trans H.bel
    have oE : Og 18 pkC 40 w2.heap.size w3 (.slice a4 1 c4) [k] := H.o5 (hn 5 (by decide))
    have kE : Blk w3 X2 (plA (Tp j (L) x) (.slice a4 1 c4)) 42 := H.k10 (hn 10 (by decide))
    have xE : w2.heap.size ≤ X2 := H.x9 (hn 9 (by decide))
    clear H hn
    have HXX2 : Hid (GP < X2 ∧ GQ < X2 ∧ X1 < X2) := ⟨Nat.lt_of_lt_of_le KP_w2.out.lt xE, Nat.lt_of_lt_of_le KQ_w2.out.lt xE, Nat.lt_of_lt_of_le KA_w2.out.lt xE⟩
    have B_w3 : Hid (Below w.heap.size w w3) := belowCall B_w2.out bE B_w2.out.size
    have KP_w3 : Hid (Blk w3 GP (plA (Tp j 0 x) (.slice a1 0 c1)) 42) := KP_w2.out.below bE KP_w2.out.lt
    have KQ_w3 : Hid (Blk w3 GQ (plA (Tp j L x) (.slice a2 0 c2)) 42) := KQ_w2.out.below bE KQ_w2.out.lt
    have O_w3 : Hid (Og 18 pkC 40 w.heap.size w3 (.slice (some ⟨bl, 0, none⟩) N cl) ls) := O_w2.out.below bE
    have KA_w3 : Hid (Blk w3 X1 (plA (Tp j (0) x) (.slice a3 1 c3)) 42) := KA_w2.out.below bE KA_w2.out.lt
    have S1_w3 : Hid (Og 18 pkC 40 w.heap.size w3 (.slice a3 1 c3) [k]) := S1_w2.out.below bE
    have KB_w3 : Hid (Blk w3 X2 (plA (Tp j (L) x) (.slice a4 1 c4)) 42) := kE
    have S2_w3 : Hid (Og 18 pkC 40 w.heap.size w3 (.slice a4 1 c4) [k]) := Og.mono oE B_w2.out.size
    clear bE oE kE xE HKK HRL HRS B_w2 KP_w2 KQ_w2 O_w2 KA_w2 S1_w2
    simp only [putAll, Act.put, List.setIfInBounds_toArray, List.set_cons_succ, List.set_cons_zero]
    have HGE : Hid (w.heap.size ≤ GP ∧ GP < GQ ∧ GP < X1 ∧ GQ < X1 ∧ X1 < X2 ∧ GP < X2 ∧ GQ < X2) := by
      have h1 := HPQ.out; have h2 := HXX1.out; have h3 := HXX2.out
      show _ ∧ _; omega
    go_upto_region 14 with fail
    obtain ⟨S, hS⟩ : ∃ S : World → Prop, ∀ W, S W ↔ (Blk W X1 (plA (Tp j 0 x) (.slice a3 1 c3)) 42 ∧ Blk W X2 (plA (Tp j (L) x) (.slice a4 1 c4)) 42) := ⟨_, fun _ => Iff.rfl⟩
    have za0 : ∀ W : At S, W.wd.cell? ⟨X1, 0, none⟩ = some ((plA (Tp j 0 x) (.slice a3 1 c3))[0]) := fun W => by rw [((hS _).1 W.ok).1.cell 0]; rfl
    have zb0 : ∀ W : At S, W.wd.cell? ⟨X2, 0, none⟩ = some ((plA (Tp j (L) x) (.slice a4 1 c4))[0]) := fun W => by rw [((hS _).1 W.ok).2.cell 0]; rfl
    have za1 : ∀ W : At S, W.wd.cell? ⟨X1, 1, none⟩ = some ((plA (Tp j 0 x) (.slice a3 1 c3))[1]) := fun W => by rw [((hS _).1 W.ok).1.cell 1]; rfl
    have zb1 : ∀ W : At S, W.wd.cell? ⟨X2, 1, none⟩ = some ((plA (Tp j (L) x) (.slice a4 1 c4))[1]) := fun W => by rw [((hS _).1 W.ok).2.cell 1]; rfl
    have za2 : ∀ W : At S, W.wd.cell? ⟨X1, 2, none⟩ = some ((plA (Tp j 0 x) (.slice a3 1 c3))[2]) := fun W => by rw [((hS _).1 W.ok).1.cell 2]; rfl
    have zb2 : ∀ W : At S, W.wd.cell? ⟨X2, 2, none⟩ = some ((plA (Tp j (L) x) (.slice a4 1 c4))[2]) := fun W => by rw [((hS _).1 W.ok).2.cell 2]; rfl
    have za3 : ∀ W : At S, W.wd.cell? ⟨X1, 3, none⟩ = some ((plA (Tp j 0 x) (.slice a3 1 c3))[3]) := fun W => by rw [((hS _).1 W.ok).1.cell 3]; rfl
    have zb3 : ∀ W : At S, W.wd.cell? ⟨X2, 3, none⟩ = some ((plA (Tp j (L) x) (.slice a4 1 c4))[3]) := fun W => by rw [((hS _).1 W.ok).2.cell 3]; rfl
    have za4 : ∀ W : At S, W.wd.cell? ⟨X1, 4, none⟩ = some ((plA (Tp j 0 x) (.slice a3 1 c3))[4]) := fun W => by rw [((hS _).1 W.ok).1.cell 4]; rfl
    have zb4 : ∀ W : At S, W.wd.cell? ⟨X2, 4, none⟩ = some ((plA (Tp j (L) x) (.slice a4 1 c4))[4]) := fun W => by rw [((hS _).1 W.ok).2.cell 4]; rfl
    have za5 : ∀ W : At S, W.wd.cell? ⟨X1, 5, none⟩ = some ((plA (Tp j 0 x) (.slice a3 1 c3))[5]) := fun W => by rw [((hS _).1 W.ok).1.cell 5]; rfl
    have zb5 : ∀ W : At S, W.wd.cell? ⟨X2, 5, none⟩ = some ((plA (Tp j (L) x) (.slice a4 1 c4))[5]) := fun W => by rw [((hS _).1 W.ok).2.cell 5]; rfl
    simp at za0 zb0 za1 zb1 za2 zb2 za3 zb3 za4 zb4 za5 zb5
    have HSD : Hid (S w3.drew) := (hS _).2 ⟨KA_w3.out, KB_w3.out⟩
    have ne : Nonempty (At S) := ⟨⟨_, HSD.out⟩⟩
    have hSS := hS
    clear hS
    have HSI : Hid (∀ W, Blk W X1 (plA (Tp j 0 x) (.slice a3 1 c3)) 42 → Blk W X2 (plA (Tp j (L) x) (.slice a4 1 c4)) 42 → S W) := fun W h1 h2 => (hSS W).2 ⟨h1, h2⟩
    clear hSS
    refine region_mixT [true, true, false, false] 3 1 S (by kernel_rfl) rfl (by kernel_rfl) (fun _ _ _ _ _ h => h) HSD.out ?_
    simp only [selT, selF]
    try simp only [Act.put]
    repeat (go_big_quiet_step (fail))
    refine wpQuiet_nil ?_
    refine tail_step ?_
    clear ne HSD za0 zb0 za1 zb1 za2 zb2 za3 zb3 za4 zb4 za5 zb5
    obtain ⟨w4, hw4⟩ : ∃ W, w3.drew = W := ⟨_, rfl⟩
    have bD : Below w3.heap.size w3 w4 := by rw [← hw4]; exact (Below.refl _ _).drew
    have B_w4 : Hid (Below w.heap.size w w4) := belowCall B_w3.out bD B_w3.out.size
    have KP_w4 : Hid (Blk w4 GP (plA (Tp j 0 x) (.slice a1 0 c1)) 42) := KP_w3.out.below bD KP_w3.out.lt
    have KQ_w4 : Hid (Blk w4 GQ (plA (Tp j L x) (.slice a2 0 c2)) 42) := KQ_w3.out.below bD KQ_w3.out.lt
    have O_w4 : Hid (Og 18 pkC 40 w.heap.size w4 (.slice (some ⟨bl, 0, none⟩) N cl) ls) := O_w3.out.below bD
    have KA_w4 : Hid (Blk w4 X1 (plA (Tp j (0) x) (.slice a3 1 c3)) 42) := KA_w3.out.below bD KA_w3.out.lt
    have S1_w4 : Hid (Og 18 pkC 40 w.heap.size w4 (.slice a3 1 c3) [k]) := S1_w3.out.below bD
    have KB_w4 : Hid (Blk w4 X2 (plA (Tp j (L) x) (.slice a4 1 c4)) 42) := KB_w3.out.below bD KB_w3.out.lt
    have S2_w4 : Hid (Og 18 pkC 40 w.heap.size w4 (.slice a4 1 c4) [k]) := S2_w3.out.below bD
    rw [hw4]
    clear bD hw4 B_w3 KP_w3 KQ_w3 O_w3 KA_w3 S1_w3 KB_w3 S2_w3
    refine wpList_store_row rfl 42 _ _ rfl GP (plA (Tp j 0 x) (.slice a3 1 c3)) rfl rfl 42 (plA (Tp j 0 x) (.slice a1 0 c1)) KP_w4.out (by kernel_rfl) rfl (by simp [Value.oneCell']) ?_
    obtain ⟨w5, hw5⟩ : ∃ W, w4.setRow GP (plA (Tp j 0 x) (.slice a3 1 c3)) = W := ⟨_, rfl⟩
    have B_w5 : Hid (Below w.heap.size w w5) := by rw [← hw5]; exact belowRow B_w4.out _ (by have := HGE.out; omega) _
    have KP_w5 : Hid (Blk w5 GP (plA (Tp j 0 x) (.slice a3 1 c3)) 42) := by rw [← hw5]; exact KP_w4.out.row _
    have KQ_w5 : Hid (Blk w5 GQ (plA (Tp j L x) (.slice a2 0 c2)) 42) := by rw [← hw5]; exact KQ_w4.out.rowOther _ _ (by have := HGE.out; omega)
    have O_w5 : Hid (Og 18 pkC 40 w.heap.size w5 (.slice (some ⟨bl, 0, none⟩) N cl) ls) := by rw [← hw5]; exact og_setRow O_w4.out KP_w4.out (by decide)
    have KA_w5 : Hid (Blk w5 X1 (plA (Tp j (0) x) (.slice a3 1 c3)) 42) := by rw [← hw5]; exact KA_w4.out.rowOther _ _ (by have := HGE.out; omega)
    have S1_w5 : Hid (Og 18 pkC 40 w.heap.size w5 (.slice a3 1 c3) [k]) := by rw [← hw5]; exact og_setRow S1_w4.out KP_w4.out (by decide)
    have KB_w5 : Hid (Blk w5 X2 (plA (Tp j (L) x) (.slice a4 1 c4)) 42) := by rw [← hw5]; exact KB_w4.out.rowOther _ _ (by have := HGE.out; omega)
    have S2_w5 : Hid (Og 18 pkC 40 w.heap.size w5 (.slice a4 1 c4) [k]) := by rw [← hw5]; exact og_setRow S2_w4.out KP_w4.out (by decide)
    rw [hw5]
    clear hw5 B_w4 KP_w4 KQ_w4 O_w4 KA_w4 S1_w4 KB_w4 S2_w4
    refine wpList_nil ?_
    refine ⟨HSI.out _ KA_w5.out KB_w5.out, tail_end ?_⟩
    clear HSI
    refine wpList_store_row rfl 42 _ _ rfl GQ (plA (Tp j (L) x) (.slice a4 1 c4)) rfl rfl 42 (plA (Tp j L x) (.slice a2 0 c2)) KQ_w5.out (by kernel_rfl) rfl (by simp [Value.oneCell']) ?_
    obtain ⟨w6, hw6⟩ : ∃ W, w5.setRow GQ (plA (Tp j (L) x) (.slice a4 1 c4)) = W := ⟨_, rfl⟩
    have B_w6 : Hid (Below w.heap.size w w6) := by rw [← hw6]; exact belowRow B_w5.out _ (by have := HGE.out; omega) _
    have KP_w6 : Hid (Blk w6 GP (plA (Tp j 0 x) (.slice a3 1 c3)) 42) := by rw [← hw6]; exact KP_w5.out.rowOther _ _ (by have := HGE.out; omega)
    have KQ_w6 : Hid (Blk w6 GQ (plA (Tp j (L) x) (.slice a4 1 c4)) 42) := by rw [← hw6]; exact KQ_w5.out.row _
    have O_w6 : Hid (Og 18 pkC 40 w.heap.size w6 (.slice (some ⟨bl, 0, none⟩) N cl) ls) := by rw [← hw6]; exact og_setRow O_w5.out KQ_w5.out (by decide)
    have KA_w6 : Hid (Blk w6 X1 (plA (Tp j (0) x) (.slice a3 1 c3)) 42) := by rw [← hw6]; exact KA_w5.out.rowOther _ _ (by have := HGE.out; omega)
    have S1_w6 : Hid (Og 18 pkC 40 w.heap.size w6 (.slice a3 1 c3) [k]) := by rw [← hw6]; exact og_setRow S1_w5.out KQ_w5.out (by decide)
    have KB_w6 : Hid (Blk w6 X2 (plA (Tp j (L) x) (.slice a4 1 c4)) 42) := by rw [← hw6]; exact KB_w5.out.rowOther _ _ (by have := HGE.out; omega)
    have S2_w6 : Hid (Og 18 pkC 40 w.heap.size w6 (.slice a4 1 c4) [k]) := by rw [← hw6]; exact og_setRow S2_w5.out KQ_w5.out (by decide)
    rw [hw6]
    clear hw6 B_w5 KP_w5 KQ_w5 O_w5 KA_w5 S1_w5 KB_w5 S2_w5
    refine wpList_nil ?_
    go_wp2_with (fail)
    refine (at_c _ zs _ _ (HR.out.below B_w6.out) HK.out (by omega) (by omega) HLZ.out).mono ?_
    rintro e wt ⟨y, rfl, y0, y1, hwt⟩
    rw [hwt]
    clear hwt wt
    cases hy : (y % 2 == 0)
    · have HTZ := HTQ
      have k0 := KP_w6.out.cell 0
      have k1 := KP_w6.out.cell 1
      have k2 := KP_w6.out.cell 2
      have k3 := KP_w6.out.cell 3
      have k4 := KP_w6.out.cell 4
      have k5 := KP_w6.out.cell 5
      simp at k0 k1 k2 k3 k4 k5
      go_wp2_with (fail)
      refine (play_t HTK.out HTP.out w6 _ (S1_w6.out.rd pkC_len) (HG.out.below B_w6.out HG.out.lt)).mono ?_
      rintro e w7 ⟨v_xs, u_xs, rfl, ov, ou, b⟩
      obtain ⟨av_xs, cv_xs, rfl⟩ := ov.form
      have HCxs : Hid (cv_xs ≤ maxLen) := by obtain ⟨_, _, hv, _, h2, _⟩ := ov.rd pkC_len; injection hv with _ _ e3; show _ ≤ _; rw [e3]; exact h2
      obtain ⟨ax_xs, cx_xs, hx_xs, -⟩ := ou.rd
      rw [twL_len] at hx_xs
      subst hx_xs
      have B_w7 : Hid (Below w.heap.size w w7) := belowCall B_w6.out b B_w6.out.size
      have KP_w7 : Hid (Blk w7 GP (plA (Tp j 0 x) (.slice a3 1 c3)) 42) := KP_w6.out.below b KP_w6.out.lt
      have KQ_w7 : Hid (Blk w7 GQ (plA (Tp j (L) x) (.slice a4 1 c4)) 42) := KQ_w6.out.below b KQ_w6.out.lt
      have O_w7 : Hid (Og 18 pkC 40 w.heap.size w7 (.slice (some ⟨bl, 0, none⟩) N cl) ls) := O_w6.out.below b
      have KA_w7 : Hid (Blk w7 X1 (plA (Tp j (0) x) (.slice a3 1 c3)) 42) := KA_w6.out.below b KA_w6.out.lt
      have S1_w7 : Hid (Og 18 pkC 40 w.heap.size w7 (.slice a3 1 c3) [k]) := S1_w6.out.below b
      have KB_w7 : Hid (Blk w7 X2 (plA (Tp j (L) x) (.slice a4 1 c4)) 42) := KB_w6.out.below b KB_w6.out.lt
      have S2_w7 : Hid (Og 18 pkC 40 w.heap.size w7 (.slice a4 1 c4) [k]) := S2_w6.out.below b
      have Uxs_w7 : Hid (Ow .i64 3 w.heap.size w7 (.slice ax_xs 30 cx_xs) (twL k j x)) := ou.mono B_w6.out.size
      clear b ov ou B_w6 KP_w6 KQ_w6 O_w6 KA_w6 S1_w6 KB_w6 S2_w6 k0 k1 k2 k3 k4 k5
      have HST : Hid (Blk w7 X1 (plA (Tp j (0) x) (.slice a3 1 c3)) 42) := KA_w7.out
      obtain ⟨WQxs, hWQxs⟩ : ∃ W, w7.setRow X1 (plA (Tp (j + 1) (0) (twX k j x)) (.slice av_xs 0 cv_xs)) = W := ⟨_, rfl⟩
      have HWQxs : Hid (w7.setRow X1 (plA (Tp (j + 1) (0) (twX k j x)) (.slice av_xs 0 cv_xs)) = WQxs) := hWQxs
      clear hWQxs
      go_upto_region 19 with (refine wpList_store_row rfl 42 _ _ rfl X1 (plA (Tp (j + 1) (0) (twX k j x)) (.slice av_xs 0 cv_xs)) rfl rfl 42 (plA (Tp j (0) x) (.slice a3 1 c3)) HST.out (by kernel_rfl) rfl (by simp [Value.oneCell']) ?_; rw [HWQxs.out])
      have B_WQxs : Hid (Below w.heap.size w WQxs) := by rw [← HWQxs.out]; exact belowRow B_w7.out _ (by have := HGE.out; omega) _
      have KP_WQxs : Hid (Blk WQxs GP (plA (Tp j 0 x) (.slice a3 1 c3)) 42) := by rw [← HWQxs.out]; exact KP_w7.out.rowOther _ _ (by have := HGE.out; omega)
      have KQ_WQxs : Hid (Blk WQxs GQ (plA (Tp j (L) x) (.slice a4 1 c4)) 42) := by rw [← HWQxs.out]; exact KQ_w7.out.rowOther _ _ (by have := HGE.out; omega)
      have O_WQxs : Hid (Og 18 pkC 40 w.heap.size WQxs (.slice (some ⟨bl, 0, none⟩) N cl) ls) := by rw [← HWQxs.out]; exact og_setRow O_w7.out HST.out (by decide)
      have KA_WQxs : Hid (Blk WQxs X1 (plA (Tp (j + 1) (0) (twX k j x)) (.slice av_xs 0 cv_xs)) 42) := by rw [← HWQxs.out]; exact KA_w7.out.row _
      have S1_WQxs : Hid (Og 18 pkC 40 w.heap.size WQxs (.slice a3 1 c3) [k]) := by rw [← HWQxs.out]; exact og_setRow S1_w7.out HST.out (by decide)
      have KB_WQxs : Hid (Blk WQxs X2 (plA (Tp j (L) x) (.slice a4 1 c4)) 42) := by rw [← HWQxs.out]; exact KB_w7.out.rowOther _ _ (by have := HGE.out; omega)
      have S2_WQxs : Hid (Og 18 pkC 40 w.heap.size WQxs (.slice a4 1 c4) [k]) := by rw [← HWQxs.out]; exact og_setRow S2_w7.out HST.out (by decide)
      have Uxs_WQxs : Hid (Ow .i64 3 w.heap.size WQxs (.slice ax_xs 30 cx_xs) (twL k j x)) := by rw [← HWQxs.out]; exact ow_setRow Uxs_w7.out HST.out (by decide)
      clear HST HWQxs B_w7 KP_w7 KQ_w7 O_w7 KA_w7 S1_w7 KB_w7 S2_w7 Uxs_w7
      have k0 := KQ_WQxs.out.cell 0
      have k1 := KQ_WQxs.out.cell 1
      have k2 := KQ_WQxs.out.cell 2
      have k3 := KQ_WQxs.out.cell 3
      have k4 := KQ_WQxs.out.cell 4
      have k5 := KQ_WQxs.out.cell 5
      simp at k0 k1 k2 k3 k4 k5
      go_wp2_with (fail)
      refine (play_t HTK.out HTZ.out WQxs _ (S2_WQxs.out.rd pkC_len) (HG.out.below B_WQxs.out HG.out.lt)).mono ?_
      rintro e w8 ⟨v_ys, u_ys, rfl, ov, ou, b⟩
      obtain ⟨av_ys, cv_ys, rfl⟩ := ov.form
      have HCys : Hid (cv_ys ≤ maxLen) := by obtain ⟨_, _, hv, _, h2, _⟩ := ov.rd pkC_len; injection hv with _ _ e3; show _ ≤ _; rw [e3]; exact h2
      obtain ⟨ax_ys, cx_ys, hx_ys, -⟩ := ou.rd
      rw [twL_len] at hx_ys
      subst hx_ys
      have B_w8 : Hid (Below w.heap.size w w8) := belowCall B_WQxs.out b B_WQxs.out.size
      have KP_w8 : Hid (Blk w8 GP (plA (Tp j 0 x) (.slice a3 1 c3)) 42) := KP_WQxs.out.below b KP_WQxs.out.lt
      have KQ_w8 : Hid (Blk w8 GQ (plA (Tp j (L) x) (.slice a4 1 c4)) 42) := KQ_WQxs.out.below b KQ_WQxs.out.lt
      have O_w8 : Hid (Og 18 pkC 40 w.heap.size w8 (.slice (some ⟨bl, 0, none⟩) N cl) ls) := O_WQxs.out.below b
      have KA_w8 : Hid (Blk w8 X1 (plA (Tp (j + 1) (0) (twX k j x)) (.slice av_xs 0 cv_xs)) 42) := KA_WQxs.out.below b KA_WQxs.out.lt
      have S1_w8 : Hid (Og 18 pkC 40 w.heap.size w8 (.slice a3 1 c3) [k]) := S1_WQxs.out.below b
      have KB_w8 : Hid (Blk w8 X2 (plA (Tp j (L) x) (.slice a4 1 c4)) 42) := KB_WQxs.out.below b KB_WQxs.out.lt
      have S2_w8 : Hid (Og 18 pkC 40 w.heap.size w8 (.slice a4 1 c4) [k]) := S2_WQxs.out.below b
      have Uxs_w8 : Hid (Ow .i64 3 w.heap.size w8 (.slice ax_xs 30 cx_xs) (twL k j x)) := Uxs_WQxs.out.below b
      have Uys_w8 : Hid (Ow .i64 3 w.heap.size w8 (.slice ax_ys 30 cx_ys) (twL k j x)) := ou.mono B_WQxs.out.size
      clear b ov ou B_WQxs KP_WQxs KQ_WQxs O_WQxs KA_WQxs S1_WQxs KB_WQxs S2_WQxs Uxs_WQxs k0 k1 k2 k3 k4 k5
      have HST : Hid (Blk w8 X2 (plA (Tp j (L) x) (.slice a4 1 c4)) 42) := KB_w8.out
      obtain ⟨WQys, hWQys⟩ : ∃ W, w8.setRow X2 (plA (Tp (j + 1) (L) (twX k j x)) (.slice av_ys 0 cv_ys)) = W := ⟨_, rfl⟩
      have HWQys : Hid (w8.setRow X2 (plA (Tp (j + 1) (L) (twX k j x)) (.slice av_ys 0 cv_ys)) = WQys) := hWQys
      clear hWQys
      go_upto_region 20 with (refine wpList_store_row rfl 42 _ _ rfl X2 (plA (Tp (j + 1) (L) (twX k j x)) (.slice av_ys 0 cv_ys)) rfl rfl 42 (plA (Tp j (L) x) (.slice a4 1 c4)) HST.out (by kernel_rfl) rfl (by simp [Value.oneCell']) ?_; rw [HWQys.out])
      have B_WQys : Hid (Below w.heap.size w WQys) := by rw [← HWQys.out]; exact belowRow B_w8.out _ (by have := HGE.out; omega) _
      have KP_WQys : Hid (Blk WQys GP (plA (Tp j 0 x) (.slice a3 1 c3)) 42) := by rw [← HWQys.out]; exact KP_w8.out.rowOther _ _ (by have := HGE.out; omega)
      have KQ_WQys : Hid (Blk WQys GQ (plA (Tp j (L) x) (.slice a4 1 c4)) 42) := by rw [← HWQys.out]; exact KQ_w8.out.rowOther _ _ (by have := HGE.out; omega)
      have O_WQys : Hid (Og 18 pkC 40 w.heap.size WQys (.slice (some ⟨bl, 0, none⟩) N cl) ls) := by rw [← HWQys.out]; exact og_setRow O_w8.out HST.out (by decide)
      have KA_WQys : Hid (Blk WQys X1 (plA (Tp (j + 1) (0) (twX k j x)) (.slice av_xs 0 cv_xs)) 42) := by rw [← HWQys.out]; exact KA_w8.out.rowOther _ _ (by have := HGE.out; omega)
      have S1_WQys : Hid (Og 18 pkC 40 w.heap.size WQys (.slice a3 1 c3) [k]) := by rw [← HWQys.out]; exact og_setRow S1_w8.out HST.out (by decide)
      have KB_WQys : Hid (Blk WQys X2 (plA (Tp (j + 1) (L) (twX k j x)) (.slice av_ys 0 cv_ys)) 42) := by rw [← HWQys.out]; exact KB_w8.out.row _
      have S2_WQys : Hid (Og 18 pkC 40 w.heap.size WQys (.slice a4 1 c4) [k]) := by rw [← HWQys.out]; exact og_setRow S2_w8.out HST.out (by decide)
      have Uxs_WQys : Hid (Ow .i64 3 w.heap.size WQys (.slice ax_xs 30 cx_xs) (twL k j x)) := by rw [← HWQys.out]; exact ow_setRow Uxs_w8.out HST.out (by decide)
      have Uys_WQys : Hid (Ow .i64 3 w.heap.size WQys (.slice ax_ys 30 cx_ys) (twL k j x)) := by rw [← HWQys.out]; exact ow_setRow Uys_w8.out HST.out (by decide)
      clear HST HWQys B_w8 KP_w8 KQ_w8 O_w8 KA_w8 S1_w8 KB_w8 S2_w8 Uxs_w8 Uys_w8
      go_wp2_with (fail)
      refine (sameI _ _ (twL k j x) (twL k j x) WQys Uxs_WQys.out.rd Uys_WQys.out.rd).mono ?_
      rintro e w9 ⟨rfl, b⟩
      have B_w9 : Hid (Below w.heap.size w w9) := belowCall B_WQys.out b B_WQys.out.size
      have KP_w9 : Hid (Blk w9 GP (plA (Tp j 0 x) (.slice a3 1 c3)) 42) := KP_WQys.out.below b KP_WQys.out.lt
      have KQ_w9 : Hid (Blk w9 GQ (plA (Tp j (L) x) (.slice a4 1 c4)) 42) := KQ_WQys.out.below b KQ_WQys.out.lt
      have O_w9 : Hid (Og 18 pkC 40 w.heap.size w9 (.slice (some ⟨bl, 0, none⟩) N cl) ls) := O_WQys.out.below b
      have KA_w9 : Hid (Blk w9 X1 (plA (Tp (j + 1) (0) (twX k j x)) (.slice av_xs 0 cv_xs)) 42) := KA_WQys.out.below b KA_WQys.out.lt
      have S1_w9 : Hid (Og 18 pkC 40 w.heap.size w9 (.slice a3 1 c3) [k]) := S1_WQys.out.below b
      have KB_w9 : Hid (Blk w9 X2 (plA (Tp (j + 1) (L) (twX k j x)) (.slice av_ys 0 cv_ys)) 42) := KB_WQys.out.below b KB_WQys.out.lt
      have S2_w9 : Hid (Og 18 pkC 40 w.heap.size w9 (.slice a4 1 c4) [k]) := S2_WQys.out.below b
      have Uxs_w9 : Hid (Ow .i64 3 w.heap.size w9 (.slice ax_xs 30 cx_xs) (twL k j x)) := Uxs_WQys.out.below b
      have Uys_w9 : Hid (Ow .i64 3 w.heap.size w9 (.slice ax_ys 30 cx_ys) (twL k j x)) := Uys_WQys.out.below b
      clear b B_WQys KP_WQys KQ_WQys O_WQys KA_WQys S1_WQys KB_WQys S2_WQys Uxs_WQys Uys_WQys
      have eS : decide (twL k j x = twL k j x) = true := decide_eq_true rfl
      rw [eS]
      clear eS
      have h30 : ((30 : Int) != 30) = false := rfl
      go_upto_region 22 with fail
      obtain ⟨S, hS⟩ : ∃ S : World → Prop, ∀ W, S W ↔ (Blk W X1 (plA (Tp (j + 1) (0) (twX k j x)) (.slice av_xs 0 cv_xs)) 42 ∧ Blk W X2 (plA (Tp (j + 1) (L) (twX k j x)) (.slice av_ys 0 cv_ys)) 42) := ⟨_, fun _ => Iff.rfl⟩
      have za0 : ∀ W : At S, W.wd.cell? ⟨X1, 0, none⟩ = some ((plA (Tp (j + 1) (0) (twX k j x)) (.slice av_xs 0 cv_xs))[0]) := fun W => by rw [((hS _).1 W.ok).1.cell 0]; rfl
      have zb0 : ∀ W : At S, W.wd.cell? ⟨X2, 0, none⟩ = some ((plA (Tp (j + 1) (L) (twX k j x)) (.slice av_ys 0 cv_ys))[0]) := fun W => by rw [((hS _).1 W.ok).2.cell 0]; rfl
      have za1 : ∀ W : At S, W.wd.cell? ⟨X1, 1, none⟩ = some ((plA (Tp (j + 1) (0) (twX k j x)) (.slice av_xs 0 cv_xs))[1]) := fun W => by rw [((hS _).1 W.ok).1.cell 1]; rfl
      have zb1 : ∀ W : At S, W.wd.cell? ⟨X2, 1, none⟩ = some ((plA (Tp (j + 1) (L) (twX k j x)) (.slice av_ys 0 cv_ys))[1]) := fun W => by rw [((hS _).1 W.ok).2.cell 1]; rfl
      have za2 : ∀ W : At S, W.wd.cell? ⟨X1, 2, none⟩ = some ((plA (Tp (j + 1) (0) (twX k j x)) (.slice av_xs 0 cv_xs))[2]) := fun W => by rw [((hS _).1 W.ok).1.cell 2]; rfl
      have zb2 : ∀ W : At S, W.wd.cell? ⟨X2, 2, none⟩ = some ((plA (Tp (j + 1) (L) (twX k j x)) (.slice av_ys 0 cv_ys))[2]) := fun W => by rw [((hS _).1 W.ok).2.cell 2]; rfl
      have za3 : ∀ W : At S, W.wd.cell? ⟨X1, 3, none⟩ = some ((plA (Tp (j + 1) (0) (twX k j x)) (.slice av_xs 0 cv_xs))[3]) := fun W => by rw [((hS _).1 W.ok).1.cell 3]; rfl
      have zb3 : ∀ W : At S, W.wd.cell? ⟨X2, 3, none⟩ = some ((plA (Tp (j + 1) (L) (twX k j x)) (.slice av_ys 0 cv_ys))[3]) := fun W => by rw [((hS _).1 W.ok).2.cell 3]; rfl
      have za4 : ∀ W : At S, W.wd.cell? ⟨X1, 4, none⟩ = some ((plA (Tp (j + 1) (0) (twX k j x)) (.slice av_xs 0 cv_xs))[4]) := fun W => by rw [((hS _).1 W.ok).1.cell 4]; rfl
      have zb4 : ∀ W : At S, W.wd.cell? ⟨X2, 4, none⟩ = some ((plA (Tp (j + 1) (L) (twX k j x)) (.slice av_ys 0 cv_ys))[4]) := fun W => by rw [((hS _).1 W.ok).2.cell 4]; rfl
      have za5 : ∀ W : At S, W.wd.cell? ⟨X1, 5, none⟩ = some ((plA (Tp (j + 1) (0) (twX k j x)) (.slice av_xs 0 cv_xs))[5]) := fun W => by rw [((hS _).1 W.ok).1.cell 5]; rfl
      have zb5 : ∀ W : At S, W.wd.cell? ⟨X2, 5, none⟩ = some ((plA (Tp (j + 1) (L) (twX k j x)) (.slice av_ys 0 cv_ys))[5]) := fun W => by rw [((hS _).1 W.ok).2.cell 5]; rfl
      simp at za0 zb0 za1 zb1 za2 zb2 za3 zb3 za4 zb4 za5 zb5
      have HSD : Hid (S w9.drew) := (hS _).2 ⟨KA_w9.out, KB_w9.out⟩
      have ne : Nonempty (At S) := ⟨⟨_, HSD.out⟩⟩
      have hSS := hS
      clear hS
      have HSI : Hid (∀ W, Blk W X1 (plA (Tp (j + 1) (0) (twX k j x)) (.slice av_xs 0 cv_xs)) 42 → Blk W X2 (plA (Tp (j + 1) (L) (twX k j x)) (.slice av_ys 0 cv_ys)) 42 → S W) := fun W h1 h2 => (hSS W).2 ⟨h1, h2⟩
      clear hSS
      refine region_mixT [true, true, false, false] 3 1 S (by kernel_rfl) rfl (by kernel_rfl) (fun _ _ _ _ _ h => h) HSD.out ?_
      simp only [selT, selF]
      try simp only [Act.put]
      repeat (go_big_quiet_step (fail))
      refine wpQuiet_nil ?_
      refine tail_step ?_
      clear ne HSD za0 zb0 za1 zb1 za2 zb2 za3 zb3 za4 zb4 za5 zb5
      obtain ⟨w10, hw10⟩ : ∃ W, w9.drew = W := ⟨_, rfl⟩
      have bD : Below w9.heap.size w9 w10 := by rw [← hw10]; exact (Below.refl _ _).drew
      have B_w10 : Hid (Below w.heap.size w w10) := belowCall B_w9.out bD B_w9.out.size
      have KP_w10 : Hid (Blk w10 GP (plA (Tp j 0 x) (.slice a3 1 c3)) 42) := KP_w9.out.below bD KP_w9.out.lt
      have KQ_w10 : Hid (Blk w10 GQ (plA (Tp j (L) x) (.slice a4 1 c4)) 42) := KQ_w9.out.below bD KQ_w9.out.lt
      have O_w10 : Hid (Og 18 pkC 40 w.heap.size w10 (.slice (some ⟨bl, 0, none⟩) N cl) ls) := O_w9.out.below bD
      have KA_w10 : Hid (Blk w10 X1 (plA (Tp (j + 1) (0) (twX k j x)) (.slice av_xs 0 cv_xs)) 42) := KA_w9.out.below bD KA_w9.out.lt
      have S1_w10 : Hid (Og 18 pkC 40 w.heap.size w10 (.slice a3 1 c3) [k]) := S1_w9.out.below bD
      have KB_w10 : Hid (Blk w10 X2 (plA (Tp (j + 1) (L) (twX k j x)) (.slice av_ys 0 cv_ys)) 42) := KB_w9.out.below bD KB_w9.out.lt
      have S2_w10 : Hid (Og 18 pkC 40 w.heap.size w10 (.slice a4 1 c4) [k]) := S2_w9.out.below bD
      have Uxs_w10 : Hid (Ow .i64 3 w.heap.size w10 (.slice ax_xs 30 cx_xs) (twL k j x)) := Uxs_w9.out.below bD
      have Uys_w10 : Hid (Ow .i64 3 w.heap.size w10 (.slice ax_ys 30 cx_ys) (twL k j x)) := Uys_w9.out.below bD
      rw [hw10]
      clear bD hw10 B_w9 KP_w9 KQ_w9 O_w9 KA_w9 S1_w9 KB_w9 S2_w9 Uxs_w9 Uys_w9
      refine wpList_store_row rfl 42 _ _ rfl GP (plA (Tp (j + 1) (0) (twX k j x)) (.slice av_xs 0 cv_xs)) rfl rfl 42 (plA (Tp j 0 x) (.slice a3 1 c3)) KP_w10.out (by kernel_rfl) rfl (by simp [Value.oneCell']) ?_
      obtain ⟨w11, hw11⟩ : ∃ W, w10.setRow GP (plA (Tp (j + 1) (0) (twX k j x)) (.slice av_xs 0 cv_xs)) = W := ⟨_, rfl⟩
      have B_w11 : Hid (Below w.heap.size w w11) := by rw [← hw11]; exact belowRow B_w10.out _ (by have := HGE.out; omega) _
      have KP_w11 : Hid (Blk w11 GP (plA (Tp (j + 1) (0) (twX k j x)) (.slice av_xs 0 cv_xs)) 42) := by rw [← hw11]; exact KP_w10.out.row _
      have KQ_w11 : Hid (Blk w11 GQ (plA (Tp j (L) x) (.slice a4 1 c4)) 42) := by rw [← hw11]; exact KQ_w10.out.rowOther _ _ (by have := HGE.out; omega)
      have O_w11 : Hid (Og 18 pkC 40 w.heap.size w11 (.slice (some ⟨bl, 0, none⟩) N cl) ls) := by rw [← hw11]; exact og_setRow O_w10.out KP_w10.out (by decide)
      have KA_w11 : Hid (Blk w11 X1 (plA (Tp (j + 1) (0) (twX k j x)) (.slice av_xs 0 cv_xs)) 42) := by rw [← hw11]; exact KA_w10.out.rowOther _ _ (by have := HGE.out; omega)
      have S1_w11 : Hid (Og 18 pkC 40 w.heap.size w11 (.slice a3 1 c3) [k]) := by rw [← hw11]; exact og_setRow S1_w10.out KP_w10.out (by decide)
      have KB_w11 : Hid (Blk w11 X2 (plA (Tp (j + 1) (L) (twX k j x)) (.slice av_ys 0 cv_ys)) 42) := by rw [← hw11]; exact KB_w10.out.rowOther _ _ (by have := HGE.out; omega)
      have S2_w11 : Hid (Og 18 pkC 40 w.heap.size w11 (.slice a4 1 c4) [k]) := by rw [← hw11]; exact og_setRow S2_w10.out KP_w10.out (by decide)
      have Uxs_w11 : Hid (Ow .i64 3 w.heap.size w11 (.slice ax_xs 30 cx_xs) (twL k j x)) := by rw [← hw11]; exact ow_setRow Uxs_w10.out KP_w10.out (by decide)
      have Uys_w11 : Hid (Ow .i64 3 w.heap.size w11 (.slice ax_ys 30 cx_ys) (twL k j x)) := by rw [← hw11]; exact ow_setRow Uys_w10.out KP_w10.out (by decide)
      rw [hw11]
      clear hw11 B_w10 KP_w10 KQ_w10 O_w10 KA_w10 S1_w10 KB_w10 S2_w10 Uxs_w10 Uys_w10
      refine wpList_nil ?_
      refine ⟨HSI.out _ KA_w11.out KB_w11.out, tail_end ?_⟩
      clear HSI
      refine wpList_store_row rfl 42 _ _ rfl GQ (plA (Tp (j + 1) (L) (twX k j x)) (.slice av_ys 0 cv_ys)) rfl rfl 42 (plA (Tp j (L) x) (.slice a4 1 c4)) KQ_w11.out (by kernel_rfl) rfl (by simp [Value.oneCell']) ?_
      obtain ⟨w12, hw12⟩ : ∃ W, w11.setRow GQ (plA (Tp (j + 1) (L) (twX k j x)) (.slice av_ys 0 cv_ys)) = W := ⟨_, rfl⟩
      have B_w12 : Hid (Below w.heap.size w w12) := by rw [← hw12]; exact belowRow B_w11.out _ (by have := HGE.out; omega) _
      have KP_w12 : Hid (Blk w12 GP (plA (Tp (j + 1) (0) (twX k j x)) (.slice av_xs 0 cv_xs)) 42) := by rw [← hw12]; exact KP_w11.out.rowOther _ _ (by have := HGE.out; omega)
      have KQ_w12 : Hid (Blk w12 GQ (plA (Tp (j + 1) (L) (twX k j x)) (.slice av_ys 0 cv_ys)) 42) := by rw [← hw12]; exact KQ_w11.out.row _
      have O_w12 : Hid (Og 18 pkC 40 w.heap.size w12 (.slice (some ⟨bl, 0, none⟩) N cl) ls) := by rw [← hw12]; exact og_setRow O_w11.out KQ_w11.out (by decide)
      have KA_w12 : Hid (Blk w12 X1 (plA (Tp (j + 1) (0) (twX k j x)) (.slice av_xs 0 cv_xs)) 42) := by rw [← hw12]; exact KA_w11.out.rowOther _ _ (by have := HGE.out; omega)
      have S1_w12 : Hid (Og 18 pkC 40 w.heap.size w12 (.slice a3 1 c3) [k]) := by rw [← hw12]; exact og_setRow S1_w11.out KQ_w11.out (by decide)
      have KB_w12 : Hid (Blk w12 X2 (plA (Tp (j + 1) (L) (twX k j x)) (.slice av_ys 0 cv_ys)) 42) := by rw [← hw12]; exact KB_w11.out.rowOther _ _ (by have := HGE.out; omega)
      have S2_w12 : Hid (Og 18 pkC 40 w.heap.size w12 (.slice a4 1 c4) [k]) := by rw [← hw12]; exact og_setRow S2_w11.out KQ_w11.out (by decide)
      have Uxs_w12 : Hid (Ow .i64 3 w.heap.size w12 (.slice ax_xs 30 cx_xs) (twL k j x)) := by rw [← hw12]; exact ow_setRow Uxs_w11.out KQ_w11.out (by decide)
      have Uys_w12 : Hid (Ow .i64 3 w.heap.size w12 (.slice ax_ys 30 cx_ys) (twL k j x)) := by rw [← hw12]; exact ow_setRow Uys_w11.out KQ_w11.out (by decide)
      rw [hw12]
      clear hw12 B_w11 KP_w11 KQ_w11 O_w11 KA_w11 S1_w11 KB_w11 S2_w11 Uxs_w11 Uys_w11
      refine wpList_nil ?_
      have HTN : Hid (Tb (j + 1) (L) (twX k j x)) := ⟨by have := hN10; omega, by have := HTZ.out.L; omega, (play_one HTK.out HTP.out).2.2.2⟩
      have HLN : Hid ((L : Int) ≤ ((j + 1 : Nat) : Int)) := by have := HLJ.out; show _ ≤ _; omega
      go_wp2
      go_roundw
      case rel => exact ⟨j + 1, L, twX k j x, av_xs, cv_xs, av_ys, cv_ys, rfl, by go_num, ⟨by omega, HTN.out, HLN.out, HCxs.out, HCys.out⟩, KP_w12.out, KQ_w12.out, O_w12.out, B_w12.out⟩
      case measure => simp [intOf]; omega
    · obtain ⟨L1, hL1⟩ : ∃ z : Int, L + 1 = z := ⟨_, rfl⟩
      have HL1 : Hid (L + 1 = L1) := hL1
      have HP2 : Hid (∀ W u, Rg 18 pkC W u [k] → Calls Tryd.prog 27 #[.agg (plA (Tp j L x) u), .agg (pkA k)] W (PuR (Tp j L1 x) [k] true W)) := fun W u hu => by rw [← hL1]; exact put_t2 HTK.out HTQ.out W u hu
      clear hL1
      go_upto_region 16 with fail
      have HKK : Hid (Blk w6.drew GQ (plA (Tp j (L) x) (.slice a4 1 c4)) 42) := KQ_w6.out
      have HRL : Hid (∀ W, Below w6.drew.heap.size w6.drew W → W.rangeAt bl (j * 18) (pkC k)) := fun W hb => HRO.out W ((O_w6.out.below (Below.refl _ _).drew).below hb)
      have HRS : Hid (∀ W, Below w6.drew.heap.size w6.drew W → Rg 18 pkC W (.slice a4 1 c4) [k]) := fun W hb => ((S2_w6.out.rd pkC_len).below (Below.refl _ _).drew).below hb
      refine region_vals [undef, undef, undef, undef, undef, undef, undef, undef, undef, undef, undef] (RsS (w6.drew) (Tp j (L) x) (Tp j (L1) x) (a4) (1) (c4) (k) ([k]) (bl) (N) (cl) (j) (GQ)) (by kernel_rfl) (by kernel_rfl) ?_ ⟨?_, ?_, ?_, ?_, ?_, ?_, ?_, ?_, ?_, ?_, ?_, trivial⟩ ?_
      · refine ⟨_, _, _, _, _, _, _, _, _, _, _, none, 0, rfl, ⟨(fun _ => Below.refl _ _), ?_, ?_, ?_, ?_, ?_, ?_, ?_, ?_, ?_, ?_, ?_, ?_, ?_, ?_, ?_, ?_, ?_, ?_, ?_, ?_, ?_⟩⟩ <;> simp
      · rintro d vs W ⟨v0, v1, v2, v3, v4, v5, v6, v7, v8, v9, v10, a0, c0, rfl, H⟩ hn hd
        simp only [putAll, Act.put, List.setIfInBounds_toArray, List.set_cons_succ, List.set_cons_zero]
        have n9 : d 9 = false := by
          cases h : d 9 with
          | false => rfl
          | true => have := H.g9_0 h; rw [hn] at this; cases this
        have HKW : Hid (Blk W GQ (plA (Tp j (L) x) (.slice a4 1 c4)) 42) := HKK.out.below (H.bel n9) HKK.out.lt
        have HH1 : Hid (Rs (w6.drew) (Tp j (L) x) (Tp j (L1) x) (a4) (1) (c4) (k) ([k]) (bl) (N) (cl) (j) (GQ) d W v0 v1 v2 v3 v4 v5 v6 v7 v8 v9 v10 a0 c0) := H
        clear H
        have HHN : Hid (d 0 = false) := hn
        clear hd hn
        go_wp2_with (refine wpList_load_row rfl 42 _ rfl GQ rfl 42 (plA (Tp j (L) x) (.slice a4 1 c4)) (0, 0) _ HKW.out Tryd.underlying42 rfl (by kernel_rfl) ?_)
        have H0 := HH1.out
        have H := HH1.out
        have hn := HHN.out
        refine ⟨rfl, [.agg (plA (Tp j (L) x) (.slice a4 1 c4)), v1, v2, v3, v4, v5, v6, v7, v8, v9, v10], ?_, .agg (plA (Tp j (L) x) (.slice a4 1 c4)), v1, v2, v3, v4, v5, v6, v7, v8, v9, v10, a0, c0, rfl, ⟨(by have h := H.bel; simpa [doneSet] using h), (fun _ => rfl), (by have h := H.f1; simpa [doneSet] using h), (by have h := H.f2; simpa [doneSet] using h), (by have h := H.f3; simpa [doneSet] using h), (by have h := H.f4; simpa [doneSet] using h), (by have h := H.f5; simpa [doneSet] using h), (by have h := H.f6; simpa [doneSet] using h), (by have h := H.f7; simpa [doneSet] using h), (by have h := H.f8; simpa [doneSet] using h), (by have h := H.f10; simpa [doneSet] using h), (by have h := H.o5; simpa [doneSet] using h), (by have h := H.e9; simpa [doneSet] using h), (by have h := H.g6_5; simpa [doneSet] using h), (by have h := H.g7_5; simpa [doneSet] using h), (by have h := H.g9_5; simpa [doneSet] using h), (fun _ => by simp [doneSet]), (by have h := H.g9_1; simpa [doneSet] using h), (by have h := H.g9_2; simpa [doneSet] using h), (by have h := H.g9_3; simpa [doneSet] using h), (by have h := H.g9_4; simpa [doneSet] using h), (by have h := H.g9_7; simpa [doneSet] using h)⟩⟩
        simp only [putAll, Act.put, List.setIfInBounds_toArray, List.set_cons_succ, List.set_cons_zero]
        all_goals rfl
      · rintro d vs W ⟨v0, v1, v2, v3, v4, v5, v6, v7, v8, v9, v10, a0, c0, rfl, H⟩ hn hd
        simp only [putAll, Act.put, List.setIfInBounds_toArray, List.set_cons_succ, List.set_cons_zero]
        have HH1 : Hid (Rs (w6.drew) (Tp j (L) x) (Tp j (L1) x) (a4) (1) (c4) (k) ([k]) (bl) (N) (cl) (j) (GQ) d W v0 v1 v2 v3 v4 v5 v6 v7 v8 v9 v10 a0 c0) := H
        clear H
        have HHN : Hid (d 1 = false) := hn
        clear hd hn
        go_wp2
        have H0 := HH1.out
        have H := HH1.out
        have hn := HHN.out
        refine ⟨rfl, [v0, .slice (some ⟨bl, 0, none⟩) N cl, v2, v3, v4, v5, v6, v7, v8, v9, v10], ?_, v0, .slice (some ⟨bl, 0, none⟩) N cl, v2, v3, v4, v5, v6, v7, v8, v9, v10, a0, c0, rfl, ⟨(by have h := H.bel; simpa [doneSet] using h), (by have h := H.f0; simpa [doneSet] using h), (fun _ => rfl), (by have h := H.f2; simpa [doneSet] using h), (by have h := H.f3; simpa [doneSet] using h), (by have h := H.f4; simpa [doneSet] using h), (by have h := H.f5; simpa [doneSet] using h), (by have h := H.f6; simpa [doneSet] using h), (by have h := H.f7; simpa [doneSet] using h), (by have h := H.f8; simpa [doneSet] using h), (by have h := H.f10; simpa [doneSet] using h), (by have h := H.o5; simpa [doneSet] using h), (by have h := H.e9; simpa [doneSet] using h), (by have h := H.g6_5; simpa [doneSet] using h), (by have h := H.g7_5; simpa [doneSet] using h), (by have h := H.g9_5; simpa [doneSet] using h), (by have h := H.g9_0; simpa [doneSet] using h), (fun _ => by simp [doneSet]), (by have h := H.g9_2; simpa [doneSet] using h), (by have h := H.g9_3; simpa [doneSet] using h), (by have h := H.g9_4; simpa [doneSet] using h), (by have h := H.g9_7; simpa [doneSet] using h)⟩⟩
        simp only [putAll, Act.put, List.setIfInBounds_toArray, List.set_cons_succ, List.set_cons_zero]
        all_goals rfl
      · rintro d vs W ⟨v0, v1, v2, v3, v4, v5, v6, v7, v8, v9, v10, a0, c0, rfl, H⟩ hn hd
        simp only [putAll, Act.put, List.setIfInBounds_toArray, List.set_cons_succ, List.set_cons_zero]
        have HH1 : Hid (Rs (w6.drew) (Tp j (L) x) (Tp j (L1) x) (a4) (1) (c4) (k) ([k]) (bl) (N) (cl) (j) (GQ) d W v0 v1 v2 v3 v4 v5 v6 v7 v8 v9 v10 a0 c0) := H
        clear H
        have HHN : Hid (d 2 = false) := hn
        clear hd hn
        go_wp2
        have H0 := HH1.out
        have H := HH1.out
        have hn := HHN.out
        refine ⟨rfl, [v0, v1, .int .i64 (j : Int), v3, v4, v5, v6, v7, v8, v9, v10], ?_, v0, v1, .int .i64 (j : Int), v3, v4, v5, v6, v7, v8, v9, v10, a0, c0, rfl, ⟨(by have h := H.bel; simpa [doneSet] using h), (by have h := H.f0; simpa [doneSet] using h), (by have h := H.f1; simpa [doneSet] using h), (fun _ => rfl), (by have h := H.f3; simpa [doneSet] using h), (by have h := H.f4; simpa [doneSet] using h), (by have h := H.f5; simpa [doneSet] using h), (by have h := H.f6; simpa [doneSet] using h), (by have h := H.f7; simpa [doneSet] using h), (by have h := H.f8; simpa [doneSet] using h), (by have h := H.f10; simpa [doneSet] using h), (by have h := H.o5; simpa [doneSet] using h), (by have h := H.e9; simpa [doneSet] using h), (by have h := H.g6_5; simpa [doneSet] using h), (by have h := H.g7_5; simpa [doneSet] using h), (by have h := H.g9_5; simpa [doneSet] using h), (by have h := H.g9_0; simpa [doneSet] using h), (by have h := H.g9_1; simpa [doneSet] using h), (fun _ => by simp [doneSet]), (by have h := H.g9_3; simpa [doneSet] using h), (by have h := H.g9_4; simpa [doneSet] using h), (by have h := H.g9_7; simpa [doneSet] using h)⟩⟩
        simp only [putAll, Act.put, List.setIfInBounds_toArray, List.set_cons_succ, List.set_cons_zero]
        all_goals rfl
      · rintro d vs W ⟨v0, v1, v2, v3, v4, v5, v6, v7, v8, v9, v10, a0, c0, rfl, H⟩ hn hd
        simp only [putAll, Act.put, List.setIfInBounds_toArray, List.set_cons_succ, List.set_cons_zero]
        have h1 : d 1 = true := hd { on := 1, ground := .data } (by simp) rfl
        have h2 : d 2 = true := hd { on := 2, ground := .data } (by simp) rfl
        obtain rfl := H.f1 h1
        obtain rfl := H.f2 h2
        have HH1 : Hid (Rs (w6.drew) (Tp j (L) x) (Tp j (L1) x) (a4) (1) (c4) (k) ([k]) (bl) (N) (cl) (j) (GQ) d W v0 (.slice (some ⟨bl, 0, none⟩) N cl) (.int .i64 (j : Int)) v3 v4 v5 v6 v7 v8 v9 v10 a0 c0) := H
        clear H
        have HHN : Hid (d 3 = false) := hn
        have HHD : Hid (d 1 = true ∧ d 2 = true) := ⟨h1, h2⟩
        clear hd hn h1 h2
        go_wp2
        have H0 := HH1.out
        have H := HH1.out
        have hn := HHN.out
        have h1 := HHD.out.1
        have h2 := HHD.out.2
        refine ⟨rfl, [v0, .slice (some ⟨bl, 0, none⟩) N cl, .int .i64 (j : Int), .pointer (some ⟨bl, j * 18, none⟩), v4, v5, v6, v7, v8, v9, v10], ?_, v0, .slice (some ⟨bl, 0, none⟩) N cl, .int .i64 (j : Int), .pointer (some ⟨bl, j * 18, none⟩), v4, v5, v6, v7, v8, v9, v10, a0, c0, rfl, ⟨(by have h := H.bel; simpa [doneSet] using h), (by have h := H.f0; simpa [doneSet] using h), (fun _ => rfl), (fun _ => rfl), (fun _ => rfl), (by have h := H.f4; simpa [doneSet] using h), (by have h := H.f5; simpa [doneSet] using h), (by have h := H.f6; simpa [doneSet] using h), (by have h := H.f7; simpa [doneSet] using h), (by have h := H.f8; simpa [doneSet] using h), (by have h := H.f10; simpa [doneSet] using h), (by have h := H.o5; simpa [doneSet] using h), (by have h := H.e9; simpa [doneSet] using h), (by have h := H.g6_5; simpa [doneSet] using h), (by have h := H.g7_5; simpa [doneSet] using h), (by have h := H.g9_5; simpa [doneSet] using h), (by have h := H.g9_0; simpa [doneSet] using h), (by have h := H.g9_1; simpa [doneSet] using h), (by have h := H.g9_2; simpa [doneSet] using h), (fun _ => by simp [doneSet]), (by have h := H.g9_4; simpa [doneSet] using h), (by have h := H.g9_7; simpa [doneSet] using h)⟩⟩
        simp only [putAll, Act.put, List.setIfInBounds_toArray, List.set_cons_succ, List.set_cons_zero]
        all_goals rfl
      · rintro d vs W ⟨v0, v1, v2, v3, v4, v5, v6, v7, v8, v9, v10, a0, c0, rfl, H⟩ hn hd
        simp only [putAll, Act.put, List.setIfInBounds_toArray, List.set_cons_succ, List.set_cons_zero]
        have h3 : d 3 = true := hd { on := 3, ground := .data } (by simp) rfl
        have n9 : d 9 = false := by
          cases h : d 9 with
          | false => rfl
          | true => have := H.g9_4 h; rw [hn] at this; cases this
        have HRM : Hid (W.rangeAt bl (j * 18) (pkC k)) := HRL.out W ((H.bel n9))
        obtain rfl := H.f3 h3
        have HH1 : Hid (Rs (w6.drew) (Tp j (L) x) (Tp j (L1) x) (a4) (1) (c4) (k) ([k]) (bl) (N) (cl) (j) (GQ) d W v0 v1 v2 (.pointer (some ⟨bl, j * 18, none⟩)) v4 v5 v6 v7 v8 v9 v10 a0 c0) := H
        clear H
        have HHN : Hid (d 4 = false) := hn
        have HHD : Hid (d 3 = true) := h3
        clear hd hn h3
        go_wp2_with (refine ldM rfl _ rfl bl (j * 18) rfl k HRM.out ?_)
        have H0 := HH1.out
        have H := HH1.out
        have hn := HHN.out
        have h3 := HHD.out
        refine ⟨rfl, [v0, v1, v2, .pointer (some ⟨bl, j * 18, none⟩), .agg (pkA k), v5, v6, v7, v8, v9, v10], ?_, v0, v1, v2, .pointer (some ⟨bl, j * 18, none⟩), .agg (pkA k), v5, v6, v7, v8, v9, v10, a0, c0, rfl, ⟨(by have h := H.bel; simpa [doneSet] using h), (by have h := H.f0; simpa [doneSet] using h), (by have h := H.f1; simpa [doneSet] using h), (by have h := H.f2; simpa [doneSet] using h), (fun _ => rfl), (fun _ => rfl), (by have h := H.f5; simpa [doneSet] using h), (by have h := H.f6; simpa [doneSet] using h), (by have h := H.f7; simpa [doneSet] using h), (by have h := H.f8; simpa [doneSet] using h), (by have h := H.f10; simpa [doneSet] using h), (by have h := H.o5; simpa [doneSet] using h), (by have h := H.e9; simpa [doneSet] using h), (by have h := H.g6_5; simpa [doneSet] using h), (by have h := H.g7_5; simpa [doneSet] using h), (by have h := H.g9_5; simpa [doneSet] using h), (by have h := H.g9_0; simpa [doneSet] using h), (by have h := H.g9_1; simpa [doneSet] using h), (by have h := H.g9_2; simpa [doneSet] using h), (by have h := H.g9_3; simpa [doneSet] using h), (fun _ => by simp [doneSet]), (by have h := H.g9_7; simpa [doneSet] using h)⟩⟩
        simp only [putAll, Act.put, List.setIfInBounds_toArray, List.set_cons_succ, List.set_cons_zero]
        all_goals rfl
      · rintro d vs W ⟨v0, v1, v2, v3, v4, v5, v6, v7, v8, v9, v10, a0, c0, rfl, H⟩ hn hd
        simp only [putAll, Act.put, List.setIfInBounds_toArray, List.set_cons_succ, List.set_cons_zero]
        have h0 : d 0 = true := hd { on := 0, ground := .data } (by simp) rfl
        have h4 : d 4 = true := hd { on := 4, ground := .data } (by simp) rfl
        have n9 : d 9 = false := by
          cases h : d 9 with
          | false => rfl
          | true => have := H.g9_5 h; rw [hn] at this; cases this
        have HN9 : Hid (d 9 = false) := n9
        have HRW : Hid (Rg 18 pkC W (.slice a4 1 c4) ([k])) := HRS.out W ((H.bel n9))
        obtain rfl := H.f0 h0
        obtain rfl := H.f4 h4
        have HH1 : Hid (Rs (w6.drew) (Tp j (L) x) (Tp j (L1) x) (a4) (1) (c4) (k) ([k]) (bl) (N) (cl) (j) (GQ) d W (.agg (plA (Tp j (L) x) (.slice a4 1 c4))) v1 v2 v3 (.agg (pkA k)) v5 v6 v7 v8 v9 v10 a0 c0) := H
        clear H
        have HHN : Hid (d 5 = false) := hn
        have HHD : Hid (d 0 = true ∧ d 4 = true) := ⟨h0, h4⟩
        clear hd hn h0 h4
        go_wp2_with (fail)
        refine (HP2.out W _ HRW.out).mono ?_
        rintro e W3 ⟨v7, rfl, o7, b7⟩
        have HB7 : Hid (Below W.heap.size W W3) := b7
        obtain ⟨a7, c7, rfl⟩ := o7.form
        have HO7 : Hid (Og 18 pkC 40 W.heap.size W3 (.slice a7 ([k]).length c7) ([k])) := o7
        clear b7 o7
        go_wp2
        have H0 := HH1.out
        have H := HH1.out.below HN9.out HB7.out
        have hn := HHN.out
        have h0 := HHD.out.1
        have h4 := HHD.out.2
        refine ⟨rfl, [.agg (plA (Tp j (L) x) (.slice a4 1 c4)), v1, v2, v3, .agg (pkA k), .tuple #[.agg (plA (Tp j (L1) x) (.slice a7 ([k]).length c7)), .bool true], v6, v7, v8, v9, v10], ?_, .agg (plA (Tp j (L) x) (.slice a4 1 c4)), v1, v2, v3, .agg (pkA k), .tuple #[.agg (plA (Tp j (L1) x) (.slice a7 ([k]).length c7)), .bool true], v6, v7, v8, v9, v10, a7, c7, rfl, ⟨(by have h := H.bel; simpa [doneSet] using h), (fun _ => rfl), (by have h := H.f1; simpa [doneSet] using h), (by have h := H.f2; simpa [doneSet] using h), (by have h := H.f3; simpa [doneSet] using h), (fun _ => rfl), (fun _ => rfl), (fun e => absurd (H0.g6_5 (by simpa [doneSet] using e)) (by rw [hn]; simp)), (fun e => absurd (H0.g7_5 (by simpa [doneSet] using e)) (by rw [hn]; simp)), (by have h := H.f8; simpa [doneSet] using h), (by have h := H.f10; simpa [doneSet] using h), (fun _ _ => HO7.out.mono (H0.bel HN9.out).size), (fun e => absurd (H0.g9_5 (by simpa [doneSet] using e)) (by rw [hn]; simp)), (fun _ => by simp [doneSet]), (fun _ => by simp [doneSet]), (fun _ => by simp [doneSet]), (by have h := H.g9_0; simpa [doneSet] using h), (by have h := H.g9_1; simpa [doneSet] using h), (by have h := H.g9_2; simpa [doneSet] using h), (by have h := H.g9_3; simpa [doneSet] using h), (by have h := H.g9_4; simpa [doneSet] using h), (by have h := H.g9_7; simpa [doneSet] using h)⟩⟩
        simp only [putAll, Act.put, List.setIfInBounds_toArray, List.set_cons_succ, List.set_cons_zero]
        all_goals rfl
      · rintro d vs W ⟨v0, v1, v2, v3, v4, v5, v6, v7, v8, v9, v10, a0, c0, rfl, H⟩ hn hd
        simp only [putAll, Act.put, List.setIfInBounds_toArray, List.set_cons_succ, List.set_cons_zero]
        have h5 : d 5 = true := hd { on := 5, ground := .data } (by simp) rfl
        obtain rfl := H.f5 h5
        have HH1 : Hid (Rs (w6.drew) (Tp j (L) x) (Tp j (L1) x) (a4) (1) (c4) (k) ([k]) (bl) (N) (cl) (j) (GQ) d W v0 v1 v2 v3 v4 (.tuple #[.agg (plA (Tp j (L1) x) (.slice a0 [k].length c0)), .bool true]) v6 v7 v8 v9 v10 a0 c0) := H
        clear H
        have HHN : Hid (d 6 = false) := hn
        have HHD : Hid (d 5 = true) := h5
        clear hd hn h5
        go_wp2
        have H0 := HH1.out
        have H := HH1.out
        have hn := HHN.out
        have h5 := HHD.out
        refine ⟨rfl, [v0, v1, v2, v3, v4, .tuple #[.agg (plA (Tp j (L1) x) (.slice a0 [k].length c0)), .bool true], .tuple #[.agg (plA (Tp j (L1) x) (.slice a0 [k].length c0)), .bool true], v7, v8, v9, v10], ?_, v0, v1, v2, v3, v4, .tuple #[.agg (plA (Tp j (L1) x) (.slice a0 [k].length c0)), .bool true], .tuple #[.agg (plA (Tp j (L1) x) (.slice a0 [k].length c0)), .bool true], v7, v8, v9, v10, a0, c0, rfl, ⟨(by have h := H.bel; simpa [doneSet] using h), (by have h := H.f0; simpa [doneSet] using h), (by have h := H.f1; simpa [doneSet] using h), (by have h := H.f2; simpa [doneSet] using h), (by have h := H.f3; simpa [doneSet] using h), (by have h := H.f4; simpa [doneSet] using h), (fun _ => rfl), (fun _ => rfl), (by have h := H.f7; simpa [doneSet] using h), (by have h := H.f8; simpa [doneSet] using h), (by have h := H.f10; simpa [doneSet] using h), (by have h := H.o5; simpa [doneSet] using h), (by have h := H.e9; simpa [doneSet] using h), (fun _ => by simpa [doneSet] using h5), (by have h := H.g7_5; simpa [doneSet] using h), (by have h := H.g9_5; simpa [doneSet] using h), (by have h := H.g9_0; simpa [doneSet] using h), (by have h := H.g9_1; simpa [doneSet] using h), (by have h := H.g9_2; simpa [doneSet] using h), (by have h := H.g9_3; simpa [doneSet] using h), (by have h := H.g9_4; simpa [doneSet] using h), (by have h := H.g9_7; simpa [doneSet] using h)⟩⟩
        simp only [putAll, Act.put, List.setIfInBounds_toArray, List.set_cons_succ, List.set_cons_zero]
        all_goals rfl
      · rintro d vs W ⟨v0, v1, v2, v3, v4, v5, v6, v7, v8, v9, v10, a0, c0, rfl, H⟩ hn hd
        simp only [putAll, Act.put, List.setIfInBounds_toArray, List.set_cons_succ, List.set_cons_zero]
        have h6 : d 6 = true := hd { on := 6, ground := .data } (by simp) rfl
        have h5 := H.g6_5 h6
        obtain rfl := H.f6 h6
        have HH1 : Hid (Rs (w6.drew) (Tp j (L) x) (Tp j (L1) x) (a4) (1) (c4) (k) ([k]) (bl) (N) (cl) (j) (GQ) d W v0 v1 v2 v3 v4 v5 (.tuple #[.agg (plA (Tp j (L1) x) (.slice a0 [k].length c0)), .bool true]) v7 v8 v9 v10 a0 c0) := H
        clear H
        have HHN : Hid (d 7 = false) := hn
        have HHD : Hid (d 6 = true) := h6
        clear hd hn h6
        go_wp2
        have H0 := HH1.out
        have H := HH1.out
        have hn := HHN.out
        have h6 := HHD.out
        refine ⟨rfl, [v0, v1, v2, v3, v4, v5, .tuple #[.agg (plA (Tp j (L1) x) (.slice a0 [k].length c0)), .bool true], .agg (plA (Tp j (L1) x) (.slice a0 [k].length c0)), v8, v9, v10], ?_, v0, v1, v2, v3, v4, v5, .tuple #[.agg (plA (Tp j (L1) x) (.slice a0 [k].length c0)), .bool true], .agg (plA (Tp j (L1) x) (.slice a0 [k].length c0)), v8, v9, v10, a0, c0, rfl, ⟨(by have h := H.bel; simpa [doneSet] using h), (by have h := H.f0; simpa [doneSet] using h), (by have h := H.f1; simpa [doneSet] using h), (by have h := H.f2; simpa [doneSet] using h), (by have h := H.f3; simpa [doneSet] using h), (by have h := H.f4; simpa [doneSet] using h), (by have h := H.f5; simpa [doneSet] using h), (fun _ => rfl), (fun _ => rfl), (by have h := H.f8; simpa [doneSet] using h), (by have h := H.f10; simpa [doneSet] using h), (by have h := H.o5; simpa [doneSet] using h), (by have h := H.e9; simpa [doneSet] using h), (by have h := H.g6_5; simpa [doneSet] using h), (fun _ => by simpa [doneSet] using h5), (by have h := H.g9_5; simpa [doneSet] using h), (by have h := H.g9_0; simpa [doneSet] using h), (by have h := H.g9_1; simpa [doneSet] using h), (by have h := H.g9_2; simpa [doneSet] using h), (by have h := H.g9_3; simpa [doneSet] using h), (by have h := H.g9_4; simpa [doneSet] using h), (fun _ => by simp [doneSet])⟩⟩
        simp only [putAll, Act.put, List.setIfInBounds_toArray, List.set_cons_succ, List.set_cons_zero]
        all_goals rfl
      · rintro d vs W ⟨v0, v1, v2, v3, v4, v5, v6, v7, v8, v9, v10, a0, c0, rfl, H⟩ hn hd
        simp only [putAll, Act.put, List.setIfInBounds_toArray, List.set_cons_succ, List.set_cons_zero]
        have h6 : d 6 = true := hd { on := 6, ground := .data } (by simp) rfl
        obtain rfl := H.f6 h6
        have HH1 : Hid (Rs (w6.drew) (Tp j (L) x) (Tp j (L1) x) (a4) (1) (c4) (k) ([k]) (bl) (N) (cl) (j) (GQ) d W v0 v1 v2 v3 v4 v5 (.tuple #[.agg (plA (Tp j (L1) x) (.slice a0 [k].length c0)), .bool true]) v7 v8 v9 v10 a0 c0) := H
        clear H
        have HHN : Hid (d 8 = false) := hn
        have HHD : Hid (d 6 = true) := h6
        clear hd hn h6
        go_wp2
        have H0 := HH1.out
        have H := HH1.out
        have hn := HHN.out
        have h6 := HHD.out
        refine ⟨rfl, [v0, v1, v2, v3, v4, v5, .tuple #[.agg (plA (Tp j (L1) x) (.slice a0 [k].length c0)), .bool true], v7, .bool true, v9, v10], ?_, v0, v1, v2, v3, v4, v5, .tuple #[.agg (plA (Tp j (L1) x) (.slice a0 [k].length c0)), .bool true], v7, .bool true, v9, v10, a0, c0, rfl, ⟨(by have h := H.bel; simpa [doneSet] using h), (by have h := H.f0; simpa [doneSet] using h), (by have h := H.f1; simpa [doneSet] using h), (by have h := H.f2; simpa [doneSet] using h), (by have h := H.f3; simpa [doneSet] using h), (by have h := H.f4; simpa [doneSet] using h), (by have h := H.f5; simpa [doneSet] using h), (fun _ => rfl), (by have h := H.f7; simpa [doneSet] using h), (fun _ => rfl), (by have h := H.f10; simpa [doneSet] using h), (by have h := H.o5; simpa [doneSet] using h), (by have h := H.e9; simpa [doneSet] using h), (by have h := H.g6_5; simpa [doneSet] using h), (by have h := H.g7_5; simpa [doneSet] using h), (by have h := H.g9_5; simpa [doneSet] using h), (by have h := H.g9_0; simpa [doneSet] using h), (by have h := H.g9_1; simpa [doneSet] using h), (by have h := H.g9_2; simpa [doneSet] using h), (by have h := H.g9_3; simpa [doneSet] using h), (by have h := H.g9_4; simpa [doneSet] using h), (by have h := H.g9_7; simpa [doneSet] using h)⟩⟩
        simp only [putAll, Act.put, List.setIfInBounds_toArray, List.set_cons_succ, List.set_cons_zero]
        all_goals rfl
      · rintro d vs W ⟨v0, v1, v2, v3, v4, v5, v6, v7, v8, v9, v10, a0, c0, rfl, H⟩ hn hd
        simp only [putAll, Act.put, List.setIfInBounds_toArray, List.set_cons_succ, List.set_cons_zero]
        have h7 : d 7 = true := hd { on := 7, ground := .data } (by simp) rfl
        have h5 : d 5 = true := H.g7_5 h7
        have HO4 : Hid (Og 18 pkC 40 w6.drew.heap.size W (.slice a0 ([k]).length c0) ([k])) := H.o5 h5 hn
        have HBL : Hid (Below w6.drew.heap.size w6.drew W) := H.bel hn
        have HK8 : Hid (Blk W GQ (plA (Tp j (L) x) (.slice a4 1 c4)) 42) := HKK.out.below (H.bel hn) HKK.out.lt
        have HH4 : Hid (d 5 = true) := h5
        have HD0 : Hid (d 0 = true ∧ d 1 = true ∧ d 2 = true ∧ d 3 = true ∧ d 4 = true) := ⟨hd { on := 0, ground := .phase } (by simp) rfl, hd { on := 1, ground := .phase } (by simp) rfl, hd { on := 2, ground := .phase } (by simp) rfl, hd { on := 3, ground := .phase } (by simp) rfl, hd { on := 4, ground := .phase } (by simp) rfl⟩
        obtain rfl := H.f7 h7
        have HH1 : Hid (Rs (w6.drew) (Tp j (L) x) (Tp j (L1) x) (a4) (1) (c4) (k) ([k]) (bl) (N) (cl) (j) (GQ) d W v0 v1 v2 v3 v4 v5 v6 (.agg (plA (Tp j (L1) x) (.slice a0 [k].length c0))) v8 v9 v10 a0 c0) := H
        clear H
        have HHN : Hid (d 9 = false) := hn
        have HHD : Hid (d 7 = true) := h7
        clear hd hn h7
        go_wp2_with (refine wpList_store_row rfl 42 _ _ rfl GQ (plA (Tp j (L1) x) (.slice a0 ([k]).length c0)) rfl rfl 42 (plA (Tp j (L) x) (.slice a4 1 c4)) HK8.out (by kernel_rfl) rfl (by simp [Value.oneCell']) ?_)
        have H0 := HH1.out
        have H := HH1.out
        have hn := HHN.out
        have h7 := HHD.out
        refine ⟨rfl, [v0, v1, v2, v3, v4, v5, v6, .agg (plA (Tp j (L1) x) (.slice a0 [k].length c0)), v8, undef, v10], ?_, v0, v1, v2, v3, v4, v5, v6, .agg (plA (Tp j (L1) x) (.slice a0 [k].length c0)), v8, undef, v10, a0, c0, rfl, ⟨(fun e => absurd e (by simp [doneSet])), (by have h := H.f0; simpa [doneSet] using h), (by have h := H.f1; simpa [doneSet] using h), (by have h := H.f2; simpa [doneSet] using h), (by have h := H.f3; simpa [doneSet] using h), (by have h := H.f4; simpa [doneSet] using h), (by have h := H.f5; simpa [doneSet] using h), (by have h := H.f6; simpa [doneSet] using h), (fun _ => rfl), (by have h := H.f8; simpa [doneSet] using h), (by have h := H.f10; simpa [doneSet] using h), (fun _ e => absurd e (by simp [doneSet])), (fun _ => ⟨W, HBL.out, rfl, HO4.out⟩), (by have h := H.g6_5; simpa [doneSet] using h), (by have h := H.g7_5; simpa [doneSet] using h), (fun _ => by simpa [doneSet] using HH4.out), (fun _ => by simpa [doneSet] using HD0.out.1), (fun _ => by simpa [doneSet] using HD0.out.2.1), (fun _ => by simpa [doneSet] using HD0.out.2.2.1), (fun _ => by simpa [doneSet] using HD0.out.2.2.2.1), (fun _ => by simpa [doneSet] using HD0.out.2.2.2.2), (fun _ => by simpa [doneSet] using h7)⟩⟩
        simp only [putAll, Act.put, List.setIfInBounds_toArray, List.set_cons_succ, List.set_cons_zero]
        all_goals rfl
      · rintro d vs W ⟨v0, v1, v2, v3, v4, v5, v6, v7, v8, v9, v10, a0, c0, rfl, H⟩ hn hd
        simp only [putAll, Act.put, List.setIfInBounds_toArray, List.set_cons_succ, List.set_cons_zero]
        have h8 : d 8 = true := hd { on := 8, ground := .data } (by simp) rfl
        obtain rfl := H.f8 h8
        have HH1 : Hid (Rs (w6.drew) (Tp j (L) x) (Tp j (L1) x) (a4) (1) (c4) (k) ([k]) (bl) (N) (cl) (j) (GQ) d W v0 v1 v2 v3 v4 v5 v6 v7 (.bool true) v9 v10 a0 c0) := H
        clear H
        have HHN : Hid (d 10 = false) := hn
        have HHD : Hid (d 8 = true) := h8
        clear hd hn h8
        go_wp2
        have H0 := HH1.out
        have H := HH1.out
        have hn := HHN.out
        have h8 := HHD.out
        refine ⟨rfl, [v0, v1, v2, v3, v4, v5, v6, v7, .bool true, v9, .bool true], ?_, v0, v1, v2, v3, v4, v5, v6, v7, .bool true, v9, .bool true, a0, c0, rfl, ⟨(by have h := H.bel; simpa [doneSet] using h), (by have h := H.f0; simpa [doneSet] using h), (by have h := H.f1; simpa [doneSet] using h), (by have h := H.f2; simpa [doneSet] using h), (by have h := H.f3; simpa [doneSet] using h), (by have h := H.f4; simpa [doneSet] using h), (by have h := H.f5; simpa [doneSet] using h), (by have h := H.f6; simpa [doneSet] using h), (by have h := H.f7; simpa [doneSet] using h), (fun _ => rfl), (fun _ => rfl), (by have h := H.o5; simpa [doneSet] using h), (by have h := H.e9; simpa [doneSet] using h), (by have h := H.g6_5; simpa [doneSet] using h), (by have h := H.g7_5; simpa [doneSet] using h), (by have h := H.g9_5; simpa [doneSet] using h), (by have h := H.g9_0; simpa [doneSet] using h), (by have h := H.g9_1; simpa [doneSet] using h), (by have h := H.g9_2; simpa [doneSet] using h), (by have h := H.g9_3; simpa [doneSet] using h), (by have h := H.g9_4; simpa [doneSet] using h), (by have h := H.g9_7; simpa [doneSet] using h)⟩⟩
        simp only [putAll, Act.put, List.setIfInBounds_toArray, List.set_cons_succ, List.set_cons_zero]
        all_goals rfl
      rintro d vs WN ⟨v0, v1, v2, v3, v4, v5, v6, v7, v8, v9, v10, a5, c5, rfl, H⟩ hn
      obtain rfl := H.f0 (hn 0 (by decide))
      obtain rfl := H.f1 (hn 1 (by decide))
      obtain rfl := H.f2 (hn 2 (by decide))
      obtain rfl := H.f3 (hn 3 (by decide))
      obtain rfl := H.f4 (hn 4 (by decide))
      obtain rfl := H.f5 (hn 5 (by decide))
      obtain rfl := H.f6 (hn 6 (by decide))
      obtain rfl := H.f7 (hn 7 (by decide))
      obtain rfl := H.f8 (hn 8 (by decide))
      obtain rfl := H.f10 (hn 10 (by decide))
      obtain ⟨w7, bE0, hWN, oE0⟩ := H.e9 (hn 9 (by decide))
      have bE : Below w6.heap.size w6 w7 := (Below.refl _ w6).drew.trans bE0
      have oE : Og 18 pkC 40 w6.heap.size w7 (.slice a5 1 c5) [k] := oE0
      clear H hn bE0 oE0
      have B_w7 : Hid (Below w.heap.size w w7) := belowCall B_w6.out bE B_w6.out.size
      have KP_w7 : Hid (Blk w7 GP (plA (Tp j 0 x) (.slice a3 1 c3)) 42) := KP_w6.out.below bE KP_w6.out.lt
      have KQ_w7 : Hid (Blk w7 GQ (plA (Tp j (L) x) (.slice a4 1 c4)) 42) := KQ_w6.out.below bE KQ_w6.out.lt
      have O_w7 : Hid (Og 18 pkC 40 w.heap.size w7 (.slice (some ⟨bl, 0, none⟩) N cl) ls) := O_w6.out.below bE
      have KA_w7 : Hid (Blk w7 X1 (plA (Tp j (0) x) (.slice a3 1 c3)) 42) := KA_w6.out.below bE KA_w6.out.lt
      have S1_w7 : Hid (Og 18 pkC 40 w.heap.size w7 (.slice a3 1 c3) [k]) := S1_w6.out.below bE
      have KB_w7 : Hid (Blk w7 X2 (plA (Tp j (L) x) (.slice a4 1 c4)) 42) := KB_w6.out.below bE KB_w6.out.lt
      have S2_w7 : Hid (Og 18 pkC 40 w.heap.size w7 (.slice a5 1 c5) [k]) := Og.mono oE B_w6.out.size
      clear bE oE HKK HRL HRS B_w6 KP_w6 KQ_w6 O_w6 KA_w6 S1_w6 KB_w6 S2_w6
      simp only [putAll, Act.put, List.setIfInBounds_toArray, List.set_cons_succ, List.set_cons_zero]
      have hWN2 : WN = w7.setRow GQ (plA (Tp j (L1) x) (.slice a5 1 c5)) := hWN
      rw [hWN2]
      clear hWN hWN2 WN
      obtain ⟨w8, hw8⟩ : ∃ W, w7.setRow GQ (plA (Tp j (L1) x) (.slice a5 1 c5)) = W := ⟨_, rfl⟩
      have B_w8 : Hid (Below w.heap.size w w8) := by rw [← hw8]; exact belowRow B_w7.out _ (by have := HGE.out; omega) _
      have KP_w8 : Hid (Blk w8 GP (plA (Tp j 0 x) (.slice a3 1 c3)) 42) := by rw [← hw8]; exact KP_w7.out.rowOther _ _ (by have := HGE.out; omega)
      have KQ_w8 : Hid (Blk w8 GQ (plA (Tp j (L1) x) (.slice a5 1 c5)) 42) := by rw [← hw8]; exact KQ_w7.out.row _
      have O_w8 : Hid (Og 18 pkC 40 w.heap.size w8 (.slice (some ⟨bl, 0, none⟩) N cl) ls) := by rw [← hw8]; exact og_setRow O_w7.out KQ_w7.out (by decide)
      have KA_w8 : Hid (Blk w8 X1 (plA (Tp j (0) x) (.slice a3 1 c3)) 42) := by rw [← hw8]; exact KA_w7.out.rowOther _ _ (by have := HGE.out; omega)
      have S1_w8 : Hid (Og 18 pkC 40 w.heap.size w8 (.slice a3 1 c3) [k]) := by rw [← hw8]; exact og_setRow S1_w7.out KQ_w7.out (by decide)
      have KB_w8 : Hid (Blk w8 X2 (plA (Tp j (L) x) (.slice a4 1 c4)) 42) := by rw [← hw8]; exact KB_w7.out.rowOther _ _ (by have := HGE.out; omega)
      have S2_w8 : Hid (Og 18 pkC 40 w.heap.size w8 (.slice a5 1 c5) [k]) := by rw [← hw8]; exact og_setRow S2_w7.out KQ_w7.out (by decide)
      rw [hw8]
      clear hw8 B_w7 KP_w7 KQ_w7 O_w7 KA_w7 S1_w7 KB_w7 S2_w7
      have HTZ : Hid (Tb j L1 x) := ⟨HTQ.out.j, by have h0 := HL1.out; have h1 := HTQ.out.L; have h2 := HLJ.out; have h3 := hN10; omega, HTQ.out.x⟩
      have k0 := KP_w8.out.cell 0
      have k1 := KP_w8.out.cell 1
      have k2 := KP_w8.out.cell 2
      have k3 := KP_w8.out.cell 3
      have k4 := KP_w8.out.cell 4
      have k5 := KP_w8.out.cell 5
      simp at k0 k1 k2 k3 k4 k5
      go_wp2_with (fail)
      refine (play_t HTK.out HTP.out w8 _ (S1_w8.out.rd pkC_len) (HG.out.below B_w8.out HG.out.lt)).mono ?_
      rintro e w9 ⟨v_xs, u_xs, rfl, ov, ou, b⟩
      obtain ⟨av_xs, cv_xs, rfl⟩ := ov.form
      have HCxs : Hid (cv_xs ≤ maxLen) := by obtain ⟨_, _, hv, _, h2, _⟩ := ov.rd pkC_len; injection hv with _ _ e3; show _ ≤ _; rw [e3]; exact h2
      obtain ⟨ax_xs, cx_xs, hx_xs, -⟩ := ou.rd
      rw [twL_len] at hx_xs
      subst hx_xs
      have B_w9 : Hid (Below w.heap.size w w9) := belowCall B_w8.out b B_w8.out.size
      have KP_w9 : Hid (Blk w9 GP (plA (Tp j 0 x) (.slice a3 1 c3)) 42) := KP_w8.out.below b KP_w8.out.lt
      have KQ_w9 : Hid (Blk w9 GQ (plA (Tp j (L1) x) (.slice a5 1 c5)) 42) := KQ_w8.out.below b KQ_w8.out.lt
      have O_w9 : Hid (Og 18 pkC 40 w.heap.size w9 (.slice (some ⟨bl, 0, none⟩) N cl) ls) := O_w8.out.below b
      have KA_w9 : Hid (Blk w9 X1 (plA (Tp j (0) x) (.slice a3 1 c3)) 42) := KA_w8.out.below b KA_w8.out.lt
      have S1_w9 : Hid (Og 18 pkC 40 w.heap.size w9 (.slice a3 1 c3) [k]) := S1_w8.out.below b
      have KB_w9 : Hid (Blk w9 X2 (plA (Tp j (L) x) (.slice a4 1 c4)) 42) := KB_w8.out.below b KB_w8.out.lt
      have S2_w9 : Hid (Og 18 pkC 40 w.heap.size w9 (.slice a5 1 c5) [k]) := S2_w8.out.below b
      have Uxs_w9 : Hid (Ow .i64 3 w.heap.size w9 (.slice ax_xs 30 cx_xs) (twL k j x)) := ou.mono B_w8.out.size
      clear b ov ou B_w8 KP_w8 KQ_w8 O_w8 KA_w8 S1_w8 KB_w8 S2_w8 k0 k1 k2 k3 k4 k5
      have HST : Hid (Blk w9 X1 (plA (Tp j (0) x) (.slice a3 1 c3)) 42) := KA_w9.out
      obtain ⟨WQxs, hWQxs⟩ : ∃ W, w9.setRow X1 (plA (Tp (j + 1) (0) (twX k j x)) (.slice av_xs 0 cv_xs)) = W := ⟨_, rfl⟩
      have HWQxs : Hid (w9.setRow X1 (plA (Tp (j + 1) (0) (twX k j x)) (.slice av_xs 0 cv_xs)) = WQxs) := hWQxs
      clear hWQxs
      go_upto_region 19 with (refine wpList_store_row rfl 42 _ _ rfl X1 (plA (Tp (j + 1) (0) (twX k j x)) (.slice av_xs 0 cv_xs)) rfl rfl 42 (plA (Tp j (0) x) (.slice a3 1 c3)) HST.out (by kernel_rfl) rfl (by simp [Value.oneCell']) ?_; rw [HWQxs.out])
      have B_WQxs : Hid (Below w.heap.size w WQxs) := by rw [← HWQxs.out]; exact belowRow B_w9.out _ (by have := HGE.out; omega) _
      have KP_WQxs : Hid (Blk WQxs GP (plA (Tp j 0 x) (.slice a3 1 c3)) 42) := by rw [← HWQxs.out]; exact KP_w9.out.rowOther _ _ (by have := HGE.out; omega)
      have KQ_WQxs : Hid (Blk WQxs GQ (plA (Tp j (L1) x) (.slice a5 1 c5)) 42) := by rw [← HWQxs.out]; exact KQ_w9.out.rowOther _ _ (by have := HGE.out; omega)
      have O_WQxs : Hid (Og 18 pkC 40 w.heap.size WQxs (.slice (some ⟨bl, 0, none⟩) N cl) ls) := by rw [← HWQxs.out]; exact og_setRow O_w9.out HST.out (by decide)
      have KA_WQxs : Hid (Blk WQxs X1 (plA (Tp (j + 1) (0) (twX k j x)) (.slice av_xs 0 cv_xs)) 42) := by rw [← HWQxs.out]; exact KA_w9.out.row _
      have S1_WQxs : Hid (Og 18 pkC 40 w.heap.size WQxs (.slice a3 1 c3) [k]) := by rw [← HWQxs.out]; exact og_setRow S1_w9.out HST.out (by decide)
      have KB_WQxs : Hid (Blk WQxs X2 (plA (Tp j (L) x) (.slice a4 1 c4)) 42) := by rw [← HWQxs.out]; exact KB_w9.out.rowOther _ _ (by have := HGE.out; omega)
      have S2_WQxs : Hid (Og 18 pkC 40 w.heap.size WQxs (.slice a5 1 c5) [k]) := by rw [← HWQxs.out]; exact og_setRow S2_w9.out HST.out (by decide)
      have Uxs_WQxs : Hid (Ow .i64 3 w.heap.size WQxs (.slice ax_xs 30 cx_xs) (twL k j x)) := by rw [← HWQxs.out]; exact ow_setRow Uxs_w9.out HST.out (by decide)
      clear HST HWQxs B_w9 KP_w9 KQ_w9 O_w9 KA_w9 S1_w9 KB_w9 S2_w9 Uxs_w9
      have k0 := KQ_WQxs.out.cell 0
      have k1 := KQ_WQxs.out.cell 1
      have k2 := KQ_WQxs.out.cell 2
      have k3 := KQ_WQxs.out.cell 3
      have k4 := KQ_WQxs.out.cell 4
      have k5 := KQ_WQxs.out.cell 5
      simp at k0 k1 k2 k3 k4 k5
      go_wp2_with (fail)
      refine (play_t HTK.out HTZ.out WQxs _ (S2_WQxs.out.rd pkC_len) (HG.out.below B_WQxs.out HG.out.lt)).mono ?_
      rintro e w10 ⟨v_ys, u_ys, rfl, ov, ou, b⟩
      obtain ⟨av_ys, cv_ys, rfl⟩ := ov.form
      have HCys : Hid (cv_ys ≤ maxLen) := by obtain ⟨_, _, hv, _, h2, _⟩ := ov.rd pkC_len; injection hv with _ _ e3; show _ ≤ _; rw [e3]; exact h2
      obtain ⟨ax_ys, cx_ys, hx_ys, -⟩ := ou.rd
      rw [twL_len] at hx_ys
      subst hx_ys
      have B_w10 : Hid (Below w.heap.size w w10) := belowCall B_WQxs.out b B_WQxs.out.size
      have KP_w10 : Hid (Blk w10 GP (plA (Tp j 0 x) (.slice a3 1 c3)) 42) := KP_WQxs.out.below b KP_WQxs.out.lt
      have KQ_w10 : Hid (Blk w10 GQ (plA (Tp j (L1) x) (.slice a5 1 c5)) 42) := KQ_WQxs.out.below b KQ_WQxs.out.lt
      have O_w10 : Hid (Og 18 pkC 40 w.heap.size w10 (.slice (some ⟨bl, 0, none⟩) N cl) ls) := O_WQxs.out.below b
      have KA_w10 : Hid (Blk w10 X1 (plA (Tp (j + 1) (0) (twX k j x)) (.slice av_xs 0 cv_xs)) 42) := KA_WQxs.out.below b KA_WQxs.out.lt
      have S1_w10 : Hid (Og 18 pkC 40 w.heap.size w10 (.slice a3 1 c3) [k]) := S1_WQxs.out.below b
      have KB_w10 : Hid (Blk w10 X2 (plA (Tp j (L) x) (.slice a4 1 c4)) 42) := KB_WQxs.out.below b KB_WQxs.out.lt
      have S2_w10 : Hid (Og 18 pkC 40 w.heap.size w10 (.slice a5 1 c5) [k]) := S2_WQxs.out.below b
      have Uxs_w10 : Hid (Ow .i64 3 w.heap.size w10 (.slice ax_xs 30 cx_xs) (twL k j x)) := Uxs_WQxs.out.below b
      have Uys_w10 : Hid (Ow .i64 3 w.heap.size w10 (.slice ax_ys 30 cx_ys) (twL k j x)) := ou.mono B_WQxs.out.size
      clear b ov ou B_WQxs KP_WQxs KQ_WQxs O_WQxs KA_WQxs S1_WQxs KB_WQxs S2_WQxs Uxs_WQxs k0 k1 k2 k3 k4 k5
      have HST : Hid (Blk w10 X2 (plA (Tp j (L) x) (.slice a4 1 c4)) 42) := KB_w10.out
      obtain ⟨WQys, hWQys⟩ : ∃ W, w10.setRow X2 (plA (Tp (j + 1) (L1) (twX k j x)) (.slice av_ys 0 cv_ys)) = W := ⟨_, rfl⟩
      have HWQys : Hid (w10.setRow X2 (plA (Tp (j + 1) (L1) (twX k j x)) (.slice av_ys 0 cv_ys)) = WQys) := hWQys
      clear hWQys
      go_upto_region 20 with (refine wpList_store_row rfl 42 _ _ rfl X2 (plA (Tp (j + 1) (L1) (twX k j x)) (.slice av_ys 0 cv_ys)) rfl rfl 42 (plA (Tp j (L) x) (.slice a4 1 c4)) HST.out (by kernel_rfl) rfl (by simp [Value.oneCell']) ?_; rw [HWQys.out])
      have B_WQys : Hid (Below w.heap.size w WQys) := by rw [← HWQys.out]; exact belowRow B_w10.out _ (by have := HGE.out; omega) _
      have KP_WQys : Hid (Blk WQys GP (plA (Tp j 0 x) (.slice a3 1 c3)) 42) := by rw [← HWQys.out]; exact KP_w10.out.rowOther _ _ (by have := HGE.out; omega)
      have KQ_WQys : Hid (Blk WQys GQ (plA (Tp j (L1) x) (.slice a5 1 c5)) 42) := by rw [← HWQys.out]; exact KQ_w10.out.rowOther _ _ (by have := HGE.out; omega)
      have O_WQys : Hid (Og 18 pkC 40 w.heap.size WQys (.slice (some ⟨bl, 0, none⟩) N cl) ls) := by rw [← HWQys.out]; exact og_setRow O_w10.out HST.out (by decide)
      have KA_WQys : Hid (Blk WQys X1 (plA (Tp (j + 1) (0) (twX k j x)) (.slice av_xs 0 cv_xs)) 42) := by rw [← HWQys.out]; exact KA_w10.out.rowOther _ _ (by have := HGE.out; omega)
      have S1_WQys : Hid (Og 18 pkC 40 w.heap.size WQys (.slice a3 1 c3) [k]) := by rw [← HWQys.out]; exact og_setRow S1_w10.out HST.out (by decide)
      have KB_WQys : Hid (Blk WQys X2 (plA (Tp (j + 1) (L1) (twX k j x)) (.slice av_ys 0 cv_ys)) 42) := by rw [← HWQys.out]; exact KB_w10.out.row _
      have S2_WQys : Hid (Og 18 pkC 40 w.heap.size WQys (.slice a5 1 c5) [k]) := by rw [← HWQys.out]; exact og_setRow S2_w10.out HST.out (by decide)
      have Uxs_WQys : Hid (Ow .i64 3 w.heap.size WQys (.slice ax_xs 30 cx_xs) (twL k j x)) := by rw [← HWQys.out]; exact ow_setRow Uxs_w10.out HST.out (by decide)
      have Uys_WQys : Hid (Ow .i64 3 w.heap.size WQys (.slice ax_ys 30 cx_ys) (twL k j x)) := by rw [← HWQys.out]; exact ow_setRow Uys_w10.out HST.out (by decide)
      clear HST HWQys B_w10 KP_w10 KQ_w10 O_w10 KA_w10 S1_w10 KB_w10 S2_w10 Uxs_w10 Uys_w10
      go_wp2_with (fail)
      refine (sameI _ _ (twL k j x) (twL k j x) WQys Uxs_WQys.out.rd Uys_WQys.out.rd).mono ?_
      rintro e w11 ⟨rfl, b⟩
      have B_w11 : Hid (Below w.heap.size w w11) := belowCall B_WQys.out b B_WQys.out.size
      have KP_w11 : Hid (Blk w11 GP (plA (Tp j 0 x) (.slice a3 1 c3)) 42) := KP_WQys.out.below b KP_WQys.out.lt
      have KQ_w11 : Hid (Blk w11 GQ (plA (Tp j (L1) x) (.slice a5 1 c5)) 42) := KQ_WQys.out.below b KQ_WQys.out.lt
      have O_w11 : Hid (Og 18 pkC 40 w.heap.size w11 (.slice (some ⟨bl, 0, none⟩) N cl) ls) := O_WQys.out.below b
      have KA_w11 : Hid (Blk w11 X1 (plA (Tp (j + 1) (0) (twX k j x)) (.slice av_xs 0 cv_xs)) 42) := KA_WQys.out.below b KA_WQys.out.lt
      have S1_w11 : Hid (Og 18 pkC 40 w.heap.size w11 (.slice a3 1 c3) [k]) := S1_WQys.out.below b
      have KB_w11 : Hid (Blk w11 X2 (plA (Tp (j + 1) (L1) (twX k j x)) (.slice av_ys 0 cv_ys)) 42) := KB_WQys.out.below b KB_WQys.out.lt
      have S2_w11 : Hid (Og 18 pkC 40 w.heap.size w11 (.slice a5 1 c5) [k]) := S2_WQys.out.below b
      have Uxs_w11 : Hid (Ow .i64 3 w.heap.size w11 (.slice ax_xs 30 cx_xs) (twL k j x)) := Uxs_WQys.out.below b
      have Uys_w11 : Hid (Ow .i64 3 w.heap.size w11 (.slice ax_ys 30 cx_ys) (twL k j x)) := Uys_WQys.out.below b
      clear b B_WQys KP_WQys KQ_WQys O_WQys KA_WQys S1_WQys KB_WQys S2_WQys Uxs_WQys Uys_WQys
      have eS : decide (twL k j x = twL k j x) = true := decide_eq_true rfl
      rw [eS]
      clear eS
      have h30 : ((30 : Int) != 30) = false := rfl
      go_upto_region 22 with fail
      obtain ⟨S, hS⟩ : ∃ S : World → Prop, ∀ W, S W ↔ (Blk W X1 (plA (Tp (j + 1) (0) (twX k j x)) (.slice av_xs 0 cv_xs)) 42 ∧ Blk W X2 (plA (Tp (j + 1) (L1) (twX k j x)) (.slice av_ys 0 cv_ys)) 42) := ⟨_, fun _ => Iff.rfl⟩
      have za0 : ∀ W : At S, W.wd.cell? ⟨X1, 0, none⟩ = some ((plA (Tp (j + 1) (0) (twX k j x)) (.slice av_xs 0 cv_xs))[0]) := fun W => by rw [((hS _).1 W.ok).1.cell 0]; rfl
      have zb0 : ∀ W : At S, W.wd.cell? ⟨X2, 0, none⟩ = some ((plA (Tp (j + 1) (L1) (twX k j x)) (.slice av_ys 0 cv_ys))[0]) := fun W => by rw [((hS _).1 W.ok).2.cell 0]; rfl
      have za1 : ∀ W : At S, W.wd.cell? ⟨X1, 1, none⟩ = some ((plA (Tp (j + 1) (0) (twX k j x)) (.slice av_xs 0 cv_xs))[1]) := fun W => by rw [((hS _).1 W.ok).1.cell 1]; rfl
      have zb1 : ∀ W : At S, W.wd.cell? ⟨X2, 1, none⟩ = some ((plA (Tp (j + 1) (L1) (twX k j x)) (.slice av_ys 0 cv_ys))[1]) := fun W => by rw [((hS _).1 W.ok).2.cell 1]; rfl
      have za2 : ∀ W : At S, W.wd.cell? ⟨X1, 2, none⟩ = some ((plA (Tp (j + 1) (0) (twX k j x)) (.slice av_xs 0 cv_xs))[2]) := fun W => by rw [((hS _).1 W.ok).1.cell 2]; rfl
      have zb2 : ∀ W : At S, W.wd.cell? ⟨X2, 2, none⟩ = some ((plA (Tp (j + 1) (L1) (twX k j x)) (.slice av_ys 0 cv_ys))[2]) := fun W => by rw [((hS _).1 W.ok).2.cell 2]; rfl
      have za3 : ∀ W : At S, W.wd.cell? ⟨X1, 3, none⟩ = some ((plA (Tp (j + 1) (0) (twX k j x)) (.slice av_xs 0 cv_xs))[3]) := fun W => by rw [((hS _).1 W.ok).1.cell 3]; rfl
      have zb3 : ∀ W : At S, W.wd.cell? ⟨X2, 3, none⟩ = some ((plA (Tp (j + 1) (L1) (twX k j x)) (.slice av_ys 0 cv_ys))[3]) := fun W => by rw [((hS _).1 W.ok).2.cell 3]; rfl
      have za4 : ∀ W : At S, W.wd.cell? ⟨X1, 4, none⟩ = some ((plA (Tp (j + 1) (0) (twX k j x)) (.slice av_xs 0 cv_xs))[4]) := fun W => by rw [((hS _).1 W.ok).1.cell 4]; rfl
      have zb4 : ∀ W : At S, W.wd.cell? ⟨X2, 4, none⟩ = some ((plA (Tp (j + 1) (L1) (twX k j x)) (.slice av_ys 0 cv_ys))[4]) := fun W => by rw [((hS _).1 W.ok).2.cell 4]; rfl
      have za5 : ∀ W : At S, W.wd.cell? ⟨X1, 5, none⟩ = some ((plA (Tp (j + 1) (0) (twX k j x)) (.slice av_xs 0 cv_xs))[5]) := fun W => by rw [((hS _).1 W.ok).1.cell 5]; rfl
      have zb5 : ∀ W : At S, W.wd.cell? ⟨X2, 5, none⟩ = some ((plA (Tp (j + 1) (L1) (twX k j x)) (.slice av_ys 0 cv_ys))[5]) := fun W => by rw [((hS _).1 W.ok).2.cell 5]; rfl
      simp at za0 zb0 za1 zb1 za2 zb2 za3 zb3 za4 zb4 za5 zb5
      have HSD : Hid (S w11.drew) := (hS _).2 ⟨KA_w11.out, KB_w11.out⟩
      have ne : Nonempty (At S) := ⟨⟨_, HSD.out⟩⟩
      have hSS := hS
      clear hS
      have HSI : Hid (∀ W, Blk W X1 (plA (Tp (j + 1) (0) (twX k j x)) (.slice av_xs 0 cv_xs)) 42 → Blk W X2 (plA (Tp (j + 1) (L1) (twX k j x)) (.slice av_ys 0 cv_ys)) 42 → S W) := fun W h1 h2 => (hSS W).2 ⟨h1, h2⟩
      clear hSS
      refine region_mixT [true, true, false, false] 3 1 S (by kernel_rfl) rfl (by kernel_rfl) (fun _ _ _ _ _ h => h) HSD.out ?_
      simp only [selT, selF]
      try simp only [Act.put]
      repeat (go_big_quiet_step (fail))
      refine wpQuiet_nil ?_
      refine tail_step ?_
      clear ne HSD za0 zb0 za1 zb1 za2 zb2 za3 zb3 za4 zb4 za5 zb5
      obtain ⟨w12, hw12⟩ : ∃ W, w11.drew = W := ⟨_, rfl⟩
      have bD : Below w11.heap.size w11 w12 := by rw [← hw12]; exact (Below.refl _ _).drew
      have B_w12 : Hid (Below w.heap.size w w12) := belowCall B_w11.out bD B_w11.out.size
      have KP_w12 : Hid (Blk w12 GP (plA (Tp j 0 x) (.slice a3 1 c3)) 42) := KP_w11.out.below bD KP_w11.out.lt
      have KQ_w12 : Hid (Blk w12 GQ (plA (Tp j (L1) x) (.slice a5 1 c5)) 42) := KQ_w11.out.below bD KQ_w11.out.lt
      have O_w12 : Hid (Og 18 pkC 40 w.heap.size w12 (.slice (some ⟨bl, 0, none⟩) N cl) ls) := O_w11.out.below bD
      have KA_w12 : Hid (Blk w12 X1 (plA (Tp (j + 1) (0) (twX k j x)) (.slice av_xs 0 cv_xs)) 42) := KA_w11.out.below bD KA_w11.out.lt
      have S1_w12 : Hid (Og 18 pkC 40 w.heap.size w12 (.slice a3 1 c3) [k]) := S1_w11.out.below bD
      have KB_w12 : Hid (Blk w12 X2 (plA (Tp (j + 1) (L1) (twX k j x)) (.slice av_ys 0 cv_ys)) 42) := KB_w11.out.below bD KB_w11.out.lt
      have S2_w12 : Hid (Og 18 pkC 40 w.heap.size w12 (.slice a5 1 c5) [k]) := S2_w11.out.below bD
      have Uxs_w12 : Hid (Ow .i64 3 w.heap.size w12 (.slice ax_xs 30 cx_xs) (twL k j x)) := Uxs_w11.out.below bD
      have Uys_w12 : Hid (Ow .i64 3 w.heap.size w12 (.slice ax_ys 30 cx_ys) (twL k j x)) := Uys_w11.out.below bD
      rw [hw12]
      clear bD hw12 B_w11 KP_w11 KQ_w11 O_w11 KA_w11 S1_w11 KB_w11 S2_w11 Uxs_w11 Uys_w11
      refine wpList_store_row rfl 42 _ _ rfl GP (plA (Tp (j + 1) (0) (twX k j x)) (.slice av_xs 0 cv_xs)) rfl rfl 42 (plA (Tp j 0 x) (.slice a3 1 c3)) KP_w12.out (by kernel_rfl) rfl (by simp [Value.oneCell']) ?_
      obtain ⟨w13, hw13⟩ : ∃ W, w12.setRow GP (plA (Tp (j + 1) (0) (twX k j x)) (.slice av_xs 0 cv_xs)) = W := ⟨_, rfl⟩
      have B_w13 : Hid (Below w.heap.size w w13) := by rw [← hw13]; exact belowRow B_w12.out _ (by have := HGE.out; omega) _
      have KP_w13 : Hid (Blk w13 GP (plA (Tp (j + 1) (0) (twX k j x)) (.slice av_xs 0 cv_xs)) 42) := by rw [← hw13]; exact KP_w12.out.row _
      have KQ_w13 : Hid (Blk w13 GQ (plA (Tp j (L1) x) (.slice a5 1 c5)) 42) := by rw [← hw13]; exact KQ_w12.out.rowOther _ _ (by have := HGE.out; omega)
      have O_w13 : Hid (Og 18 pkC 40 w.heap.size w13 (.slice (some ⟨bl, 0, none⟩) N cl) ls) := by rw [← hw13]; exact og_setRow O_w12.out KP_w12.out (by decide)
      have KA_w13 : Hid (Blk w13 X1 (plA (Tp (j + 1) (0) (twX k j x)) (.slice av_xs 0 cv_xs)) 42) := by rw [← hw13]; exact KA_w12.out.rowOther _ _ (by have := HGE.out; omega)
      have S1_w13 : Hid (Og 18 pkC 40 w.heap.size w13 (.slice a3 1 c3) [k]) := by rw [← hw13]; exact og_setRow S1_w12.out KP_w12.out (by decide)
      have KB_w13 : Hid (Blk w13 X2 (plA (Tp (j + 1) (L1) (twX k j x)) (.slice av_ys 0 cv_ys)) 42) := by rw [← hw13]; exact KB_w12.out.rowOther _ _ (by have := HGE.out; omega)
      have S2_w13 : Hid (Og 18 pkC 40 w.heap.size w13 (.slice a5 1 c5) [k]) := by rw [← hw13]; exact og_setRow S2_w12.out KP_w12.out (by decide)
      have Uxs_w13 : Hid (Ow .i64 3 w.heap.size w13 (.slice ax_xs 30 cx_xs) (twL k j x)) := by rw [← hw13]; exact ow_setRow Uxs_w12.out KP_w12.out (by decide)
      have Uys_w13 : Hid (Ow .i64 3 w.heap.size w13 (.slice ax_ys 30 cx_ys) (twL k j x)) := by rw [← hw13]; exact ow_setRow Uys_w12.out KP_w12.out (by decide)
      rw [hw13]
      clear hw13 B_w12 KP_w12 KQ_w12 O_w12 KA_w12 S1_w12 KB_w12 S2_w12 Uxs_w12 Uys_w12
      refine wpList_nil ?_
      refine ⟨HSI.out _ KA_w13.out KB_w13.out, tail_end ?_⟩
      clear HSI
      refine wpList_store_row rfl 42 _ _ rfl GQ (plA (Tp (j + 1) (L1) (twX k j x)) (.slice av_ys 0 cv_ys)) rfl rfl 42 (plA (Tp j (L1) x) (.slice a5 1 c5)) KQ_w13.out (by kernel_rfl) rfl (by simp [Value.oneCell']) ?_
      obtain ⟨w14, hw14⟩ : ∃ W, w13.setRow GQ (plA (Tp (j + 1) (L1) (twX k j x)) (.slice av_ys 0 cv_ys)) = W := ⟨_, rfl⟩
      have B_w14 : Hid (Below w.heap.size w w14) := by rw [← hw14]; exact belowRow B_w13.out _ (by have := HGE.out; omega) _
      have KP_w14 : Hid (Blk w14 GP (plA (Tp (j + 1) (0) (twX k j x)) (.slice av_xs 0 cv_xs)) 42) := by rw [← hw14]; exact KP_w13.out.rowOther _ _ (by have := HGE.out; omega)
      have KQ_w14 : Hid (Blk w14 GQ (plA (Tp (j + 1) (L1) (twX k j x)) (.slice av_ys 0 cv_ys)) 42) := by rw [← hw14]; exact KQ_w13.out.row _
      have O_w14 : Hid (Og 18 pkC 40 w.heap.size w14 (.slice (some ⟨bl, 0, none⟩) N cl) ls) := by rw [← hw14]; exact og_setRow O_w13.out KQ_w13.out (by decide)
      have KA_w14 : Hid (Blk w14 X1 (plA (Tp (j + 1) (0) (twX k j x)) (.slice av_xs 0 cv_xs)) 42) := by rw [← hw14]; exact KA_w13.out.rowOther _ _ (by have := HGE.out; omega)
      have S1_w14 : Hid (Og 18 pkC 40 w.heap.size w14 (.slice a3 1 c3) [k]) := by rw [← hw14]; exact og_setRow S1_w13.out KQ_w13.out (by decide)
      have KB_w14 : Hid (Blk w14 X2 (plA (Tp (j + 1) (L1) (twX k j x)) (.slice av_ys 0 cv_ys)) 42) := by rw [← hw14]; exact KB_w13.out.rowOther _ _ (by have := HGE.out; omega)
      have S2_w14 : Hid (Og 18 pkC 40 w.heap.size w14 (.slice a5 1 c5) [k]) := by rw [← hw14]; exact og_setRow S2_w13.out KQ_w13.out (by decide)
      have Uxs_w14 : Hid (Ow .i64 3 w.heap.size w14 (.slice ax_xs 30 cx_xs) (twL k j x)) := by rw [← hw14]; exact ow_setRow Uxs_w13.out KQ_w13.out (by decide)
      have Uys_w14 : Hid (Ow .i64 3 w.heap.size w14 (.slice ax_ys 30 cx_ys) (twL k j x)) := by rw [← hw14]; exact ow_setRow Uys_w13.out KQ_w13.out (by decide)
      rw [hw14]
      clear hw14 B_w13 KP_w13 KQ_w13 O_w13 KA_w13 S1_w13 KB_w13 S2_w13 Uxs_w13 Uys_w13
      refine wpList_nil ?_
      have HTN : Hid (Tb (j + 1) (L1) (twX k j x)) := ⟨by have := hN10; omega, by have := HTZ.out.L; omega, (play_one HTK.out HTP.out).2.2.2⟩
      have HLN : Hid ((L1 : Int) ≤ ((j + 1 : Nat) : Int)) := by have h9 := HL1.out; have := HLJ.out; show _ ≤ _; omega
      go_wp2
      go_roundw
      case rel => exact ⟨j + 1, L1, twX k j x, av_xs, cv_xs, av_ys, cv_ys, by rw [HL1.out], by go_num, ⟨by omega, HTN.out, HLN.out, HCxs.out, HCys.out⟩, KP_w14.out, KQ_w14.out, O_w14.out, B_w14.out⟩
      case measure => simp [intOf]; omega

end Go.Proofs.YtkjfcebdjnclaaaDoor
