/- A packet comes to a hearing; the table is as it was laid. -/
import Derived.Test.YtkjfcebdjnclaaaDoorHrs
import Derived.Test.YtkjfcebdjnclaaaDoorPti
import Derived.Test.YtkjfcebdjnclaaaDoorRdy
import Derived.Test.YtkjfcebdjnclaaaDoorDet
import Derived.Test.YtkjfcebdjnclaaaDoorOpp
import Derived.Deep.DeepCutAuto
namespace Go.Proofs.YtkjfcebdjnclaaaDoor
open Go.RowKit Go.ChangeShapes Go.WideShapes Go.ChangeAt
set_option linter.unusedVariables false
set_option linter.unusedSimpArgs false
set_option maxRecDepth 8000

theorem pu_len (p : Pl) (k : Pk) (st : List Pk) : (puF p k st).2.length ≤ st.length + 1 := by
  unfold puF
  split
  · simp
  · simp; omega
theorem pu_by {p : Pl} {k : Pk} {st : List Pk} (h : ∀ x ∈ st, PkBy x) (hk : PkBy k) : ∀ x ∈ (puF p k st).2, PkBy x := by
  unfold puF
  split
  · exact h
  · intro x hx
    rcases List.mem_append.1 hx with hx | hx
    · exact h x (List.mem_of_mem_take hx)
    · rcases List.mem_cons.1 hx with rfl | hx
      · exact hk
      · exact h x (List.mem_of_mem_drop hx)
theorem ChG.below' {base : Nat} {W W' : World} (h : ChG W) (h0 : 0 < base) (hb : Below base W W') : ChG W' := fun q hq => by rw [hb.cell (by exact h0)]; exact h q hq
/-- what come leaves -/
def CmR (base G : Nat) (W : World) (p : Pl) (k : Pk) (st : List Pk) (lv : List Int) (b : Bool) (e : Ending) (W' : World) : Prop := Below base W W' ∧
  (PuP p k st → (¬ (b = true ∨ RdP (puF p k st).1 (puF p k st).2) → e = .returned (.bool true) ∧ Hs base G W' (puF p k st).1 (puF p k st).2 lv false) ∧
    ((b = true ∨ RdP (puF p k st).1 (puF p k st).2) → (PyP (puF p k st).1 (puF p k st).2 → e = .returned (.bool true) ∧ Hs base G W' (pyF (puF p k st).1 (puF p k st).2) (List.drop (pcF (puF p k st).2 ((puF p k st).1.n + 1)) (puF p k st).2) (lv ++ (lvF (puF p k st).2 (puF p k st).1.n (puF p k st).1.x).1) true) ∧ (¬ PyP (puF p k st).1 (puF p k st).2 → e = .returned (.bool false)))) ∧
  (¬ PuP p k st → e = .returned (.bool false))
structure Rc (Wd : World) (p0 : Pl) (p1 : Pl) (a : Option Addr) (m : Nat) (c : Nat) (k : Pk) (sq9 : List Pk) (G : Nat) (ok : Bool) (d : Nat → Bool) (W : World) (v0 v1 v2 v3 v4 v5 v6 v7 v8 v9 v10 v11 : Value) (a0 : Option Addr) (c0 : Nat) (X : Nat) : Prop where
  bel : Below Wd.heap.size Wd W
  f0 : d 0 = true → v0 = .pointer (some ⟨G, 0, none⟩)
  f1 : d 1 = true → v1 = .pointer (some ⟨G, 0, none⟩)
  f2 : d 2 = true → v2 = .pointer (some ⟨G, 0, none⟩)
  f3 : d 3 = true → v3 = .agg (plA p0 (.slice a m c))
  f4 : d 4 = true → v4 = .agg (pkA k)
  f5 : d 5 = true → v5 = .tuple #[.agg (plA p1 (.slice a0 sq9.length c0)), .bool ok]
  f6 : d 6 = true → v6 = .tuple #[.agg (plA p1 (.slice a0 sq9.length c0)), .bool ok]
  f7 : d 7 = true → v7 = .agg (plA p1 (.slice a0 sq9.length c0))
  f8 : d 8 = true → v8 = .bool ok
  f9 : d 9 = true → v9 = .pointer (some ⟨X, 0, none⟩)
  f11 : d 11 = true → v11 = .bool ok
  o5 : d 5 = true → Og 18 pkC 40 Wd.heap.size W (.slice a0 sq9.length c0) sq9
  k9 : d 9 = true → d 10 = false → Blk W X (plA ⟨0, 0, 0, 0, 0⟩ (.slice none 0 0)) 42
  x9 : d 9 = true → Wd.heap.size ≤ X
  k10 : d 10 = true → Blk W X (plA p1 (.slice a0 sq9.length c0)) 42
  g6_5 : d 6 = true → d 5 = true
  g7_5 : d 7 = true → d 5 = true
  g10_5 : d 10 = true → d 5 = true
  g10_9 : d 10 = true → d 9 = true
def RcS (Wd : World) (p0 : Pl) (p1 : Pl) (a : Option Addr) (m : Nat) (c : Nat) (k : Pk) (sq9 : List Pk) (G : Nat) (ok : Bool) (d : Nat → Bool) (q : List Value) (W : World) : Prop := ∃ v0 v1 v2 v3 v4 v5 v6 v7 v8 v9 v10 v11 a0 c0 X, q = [v0, v1, v2, v3, v4, v5, v6, v7, v8, v9, v10, v11] ∧ Rc Wd p0 p1 a m c k sq9 G ok d W v0 v1 v2 v3 v4 v5 v6 v7 v8 v9 v10 v11 a0 c0 X
theorem Rc.below {Wd : World} {p0 : Pl} {p1 : Pl} {a : Option Addr} {m : Nat} {c : Nat} {k : Pk} {sq9 : List Pk} {G : Nat} {ok : Bool} {d : Nat → Bool} {W W' : World} {v0 v1 v2 v3 v4 v5 v6 v7 v8 v9 v10 v11 : Value} {a0 : Option Addr} {c0 : Nat} {X : Nat} (h : Rc Wd p0 p1 a m c k sq9 G ok d W v0 v1 v2 v3 v4 v5 v6 v7 v8 v9 v10 v11 a0 c0 X) (hb : Below W.heap.size W W') : Rc Wd p0 p1 a m c k sq9 G ok d W' v0 v1 v2 v3 v4 v5 v6 v7 v8 v9 v10 v11 a0 c0 X :=
  { h with
    bel := belowCall h.bel hb h.bel.size
    o5 := fun e0 => (h.o5 e0).below hb
    k9 := fun e0 e1 => (h.k9 e0 e1).below hb (h.k9 e0 e1).lt
    k10 := fun e0 => (h.k10 e0).below hb (h.k10 e0).lt
  }

set_option maxHeartbeats 12800000 in
theorem come_c {base G : Nat} {W : World} {p : Pl} {k : Pk} {st : List Pk} {lv : List Int} {b : Bool} (h : Hs base G W p st lv b) (hn : st.length ≤ 1000000) (hG : ChG W) (hb : ∀ x ∈ st, PkBy x) (hk : PkBy k) (hl : lv.length ≤ 1048576) (h0 : 0 < base) : Calls Tryd.prog 73 #[.pointer (some ⟨G, 0, none⟩), .agg (pkA k)] W (CmR base G W p k st lv b) := by
  obtain ⟨v, u, hB, hO, hU, hg⟩ := h
  obtain ⟨q, s, ok, hpu, hc, hsn⟩ : ∃ q s ok, (∀ W', Rg 18 pkC W' v st → Calls Tryd.prog 27 #[.agg (plA p v), .agg (pkA k)] W' (PuR q s ok W')) ∧ ((PuP p k st → ok = true ∧ q = (puF p k st).1 ∧ s = (puF p k st).2) ∧ (¬ PuP p k st → ok = false)) ∧ (s.length ≤ 1048576 ∧ ∀ x ∈ s, PkBy x) := by
    by_cases hP : PuP p k st
    · exact ⟨_, _, true, fun W' hr => (putI_c p k v st W' hr (by omega)).mono fun e w h => h.1 hP, ⟨fun _ => ⟨rfl, rfl, rfl⟩, fun h => absurd hP h⟩, by have := pu_len p k st; omega, pu_by hb hk⟩
    · exact ⟨p, st, false, fun W' hr => (putI_c p k v st W' hr (by omega)).mono fun e w h => h.2 hP, ⟨fun h => absurd h hP, fun _ => rfl⟩, by omega, hb⟩
  obtain ⟨a, c, rfl⟩ := hO.form
  have HPU : Hid (∀ W', Rg 18 pkC W' (.slice a st.length c) st → Calls Tryd.prog 27 #[.agg (plA p (.slice a st.length c)), .agg (pkA k)] W' (PuR q s ok W')) := hpu
  have HC : Hid ((PuP p k st → ok = true ∧ q = (puF p k st).1 ∧ s = (puF p k st).2) ∧ (¬ PuP p k st → ok = false)) := hc
  have HSN : Hid (s.length ≤ 1048576 ∧ ∀ x ∈ s, PkBy x) := hsn
  have HCG : Hid (∀ W', Below base W W' → ChG W') := fun W' h => hG.below' h0 h
  have HG : Hid (base ≤ G) := hg
  have HL : Hid (lv.length ≤ 1048576) := hl
  obtain ⟨Y, hY⟩ : ∃ Y, W.heap.size = Y := ⟨_, rfl⟩
  obtain ⟨W1, hW1⟩ : ∃ X, W.alloc (.cells (pkA k) 40) = X := ⟨_, rfl⟩
  have a1 : Below W.heap.size W W1 := by rw [← hW1]; exact (Below.refl _ _).alloc (Nat.le_refl _) _
  have HA1 : Hid (Below W.heap.size W W1) := a1
  have HY1 : Hid (Blk W1.drew Y (pkA k) 40) := by rw [← hW1, ← hY]; exact (Blk.new _ _ _).drew
  have HB1 : Hid (Blk W1.drew G (hsA p (.slice a st.length c) u b) 88) := (hB.below a1 hB.lt).drew
  have HS1 : Hid (Rg 18 pkC W1.drew (.slice a st.length c) st) := (hO.rd pkC_len).below a1.drew
  have HB : Hid (Blk W G (hsA p (.slice a st.length c) u b) 88) := hB
  have HU : Hid (Ow .i64 3 base W u lv) := hU
  have HW1 : Hid (W.alloc (.cells (pkA k) 40) = W1 ∧ W.heap.size = Y) := ⟨hW1, hY⟩
  clear hpu hc hsn hG hg hl h0 hW1 hY a1 hB hO hU hn hb hk
  go_enter Tryd.func73, Tryd.ntmps73
  go_upto_region 1 with fail
  rw [HW1.out.1, HW1.out.2]
  refine region_vals [undef, undef, undef, undef, undef, undef, undef, undef, undef, undef, undef, undef] (RcS (W1.drew) (p) (q) (a) (st.length) (c) (k) (s) (G) (ok)) (by kernel_rfl) (by kernel_rfl) ?_ ⟨?_, ?_, ?_, ?_, ?_, ?_, ?_, ?_, ?_, ?_, ?_, ?_, trivial⟩ ?_
  · refine ⟨_, _, _, _, _, _, _, _, _, _, _, _, none, 0, 0, rfl, ⟨(Below.refl _ _), ?_, ?_, ?_, ?_, ?_, ?_, ?_, ?_, ?_, ?_, ?_, ?_, ?_, ?_, ?_, ?_, ?_, ?_, ?_⟩⟩ <;> simp
  · rintro d vs W ⟨v0, v1, v2, v3, v4, v5, v6, v7, v8, v9, v10, v11, a0, c0, X, rfl, H⟩ hn hd
    simp only [putAll, Act.put, List.setIfInBounds_toArray, List.set_cons_succ, List.set_cons_zero]
    have HH1 : Hid (Rc (W1.drew) (p) (q) (a) (st.length) (c) (k) (s) (G) (ok) d W v0 v1 v2 v3 v4 v5 v6 v7 v8 v9 v10 v11 a0 c0 X) := H
    clear H
    have HHN : Hid (d 0 = false) := hn
    clear hd hn
    go_wp2
    have H0 := HH1.out
    have H := HH1.out
    have hn := HHN.out
    refine ⟨rfl, [.pointer (some ⟨G, 0, none⟩), v1, v2, v3, v4, v5, v6, v7, v8, v9, v10, v11], ?_, .pointer (some ⟨G, 0, none⟩), v1, v2, v3, v4, v5, v6, v7, v8, v9, v10, v11, a0, c0, X, rfl, ⟨H.bel, (fun _ => rfl), (by have h := H.f1; simpa [doneSet] using h), (by have h := H.f2; simpa [doneSet] using h), (by have h := H.f3; simpa [doneSet] using h), (by have h := H.f4; simpa [doneSet] using h), (by have h := H.f5; simpa [doneSet] using h), (by have h := H.f6; simpa [doneSet] using h), (by have h := H.f7; simpa [doneSet] using h), (by have h := H.f8; simpa [doneSet] using h), (by have h := H.f9; simpa [doneSet] using h), (by have h := H.f11; simpa [doneSet] using h), (by have h := H.o5; simpa [doneSet] using h), (by have h := H.k9; simpa [doneSet] using h), (by have h := H.x9; simpa [doneSet] using h), (by have h := H.k10; simpa [doneSet] using h), (by have h := H.g6_5; simpa [doneSet] using h), (by have h := H.g7_5; simpa [doneSet] using h), (by have h := H.g10_5; simpa [doneSet] using h), (by have h := H.g10_9; simpa [doneSet] using h)⟩⟩
    simp only [putAll, Act.put, List.setIfInBounds_toArray, List.set_cons_succ, List.set_cons_zero]
    all_goals rfl
  · rintro d vs W ⟨v0, v1, v2, v3, v4, v5, v6, v7, v8, v9, v10, v11, a0, c0, X, rfl, H⟩ hn hd
    simp only [putAll, Act.put, List.setIfInBounds_toArray, List.set_cons_succ, List.set_cons_zero]
    have h0 : d 0 = true := hd { on := 0, ground := .data } (by simp) rfl
    obtain rfl := H.f0 h0
    have HH1 : Hid (Rc (W1.drew) (p) (q) (a) (st.length) (c) (k) (s) (G) (ok) d W (.pointer (some ⟨G, 0, none⟩)) v1 v2 v3 v4 v5 v6 v7 v8 v9 v10 v11 a0 c0 X) := H
    clear H
    have HHN : Hid (d 1 = false) := hn
    have HHD : Hid (d 0 = true) := h0
    clear hd hn h0
    go_wp2
    have H0 := HH1.out
    have H := HH1.out
    have hn := HHN.out
    have h0 := HHD.out
    refine ⟨rfl, [.pointer (some ⟨G, 0, none⟩), .pointer (some ⟨G, 0, none⟩), v2, v3, v4, v5, v6, v7, v8, v9, v10, v11], ?_, .pointer (some ⟨G, 0, none⟩), .pointer (some ⟨G, 0, none⟩), v2, v3, v4, v5, v6, v7, v8, v9, v10, v11, a0, c0, X, rfl, ⟨H.bel, (fun _ => rfl), (fun _ => rfl), (by have h := H.f2; simpa [doneSet] using h), (by have h := H.f3; simpa [doneSet] using h), (by have h := H.f4; simpa [doneSet] using h), (by have h := H.f5; simpa [doneSet] using h), (by have h := H.f6; simpa [doneSet] using h), (by have h := H.f7; simpa [doneSet] using h), (by have h := H.f8; simpa [doneSet] using h), (by have h := H.f9; simpa [doneSet] using h), (by have h := H.f11; simpa [doneSet] using h), (by have h := H.o5; simpa [doneSet] using h), (by have h := H.k9; simpa [doneSet] using h), (by have h := H.x9; simpa [doneSet] using h), (by have h := H.k10; simpa [doneSet] using h), (by have h := H.g6_5; simpa [doneSet] using h), (by have h := H.g7_5; simpa [doneSet] using h), (by have h := H.g10_5; simpa [doneSet] using h), (by have h := H.g10_9; simpa [doneSet] using h)⟩⟩
    simp only [putAll, Act.put, List.setIfInBounds_toArray, List.set_cons_succ, List.set_cons_zero]
    all_goals rfl
  · rintro d vs W ⟨v0, v1, v2, v3, v4, v5, v6, v7, v8, v9, v10, v11, a0, c0, X, rfl, H⟩ hn hd
    simp only [putAll, Act.put, List.setIfInBounds_toArray, List.set_cons_succ, List.set_cons_zero]
    have h1 : d 1 = true := hd { on := 1, ground := .data } (by simp) rfl
    obtain rfl := H.f1 h1
    have HH1 : Hid (Rc (W1.drew) (p) (q) (a) (st.length) (c) (k) (s) (G) (ok) d W v0 (.pointer (some ⟨G, 0, none⟩)) v2 v3 v4 v5 v6 v7 v8 v9 v10 v11 a0 c0 X) := H
    clear H
    have HHN : Hid (d 2 = false) := hn
    have HHD : Hid (d 1 = true) := h1
    clear hd hn h1
    go_wp2
    have H0 := HH1.out
    have H := HH1.out
    have hn := HHN.out
    have h1 := HHD.out
    refine ⟨rfl, [v0, .pointer (some ⟨G, 0, none⟩), .pointer (some ⟨G, 0, none⟩), v3, v4, v5, v6, v7, v8, v9, v10, v11], ?_, v0, .pointer (some ⟨G, 0, none⟩), .pointer (some ⟨G, 0, none⟩), v3, v4, v5, v6, v7, v8, v9, v10, v11, a0, c0, X, rfl, ⟨H.bel, (by have h := H.f0; simpa [doneSet] using h), (fun _ => rfl), (fun _ => rfl), (by have h := H.f3; simpa [doneSet] using h), (by have h := H.f4; simpa [doneSet] using h), (by have h := H.f5; simpa [doneSet] using h), (by have h := H.f6; simpa [doneSet] using h), (by have h := H.f7; simpa [doneSet] using h), (by have h := H.f8; simpa [doneSet] using h), (by have h := H.f9; simpa [doneSet] using h), (by have h := H.f11; simpa [doneSet] using h), (by have h := H.o5; simpa [doneSet] using h), (by have h := H.k9; simpa [doneSet] using h), (by have h := H.x9; simpa [doneSet] using h), (by have h := H.k10; simpa [doneSet] using h), (by have h := H.g6_5; simpa [doneSet] using h), (by have h := H.g7_5; simpa [doneSet] using h), (by have h := H.g10_5; simpa [doneSet] using h), (by have h := H.g10_9; simpa [doneSet] using h)⟩⟩
    simp only [putAll, Act.put, List.setIfInBounds_toArray, List.set_cons_succ, List.set_cons_zero]
    all_goals rfl
  · rintro d vs W ⟨v0, v1, v2, v3, v4, v5, v6, v7, v8, v9, v10, v11, a0, c0, X, rfl, H⟩ hn hd
    simp only [putAll, Act.put, List.setIfInBounds_toArray, List.set_cons_succ, List.set_cons_zero]
    have h2 : d 2 = true := hd { on := 2, ground := .data } (by simp) rfl
    have HRM : Hid (W.rangeAt G 0 (plL p (.slice a st.length c))) := hs_range (HB1.out.below H.bel HB1.out.lt)
    obtain rfl := H.f2 h2
    have HH1 : Hid (Rc (W1.drew) (p) (q) (a) (st.length) (c) (k) (s) (G) (ok) d W v0 v1 (.pointer (some ⟨G, 0, none⟩)) v3 v4 v5 v6 v7 v8 v9 v10 v11 a0 c0 X) := H
    clear H
    have HHN : Hid (d 3 = false) := hn
    have HHD : Hid (d 2 = true) := h2
    clear hd hn h2
    go_wp2_with (refine wpList_load_mid rfl 42 _ rfl G 0 rfl (plL p (.slice a st.length c)) _ HRM.out Tryd.underlying42 rfl (by kernel_rfl) ?_)
    have H0 := HH1.out
    have H := HH1.out
    have hn := HHN.out
    have h2 := HHD.out
    refine ⟨rfl, [v0, v1, .pointer (some ⟨G, 0, none⟩), .agg (plA p (.slice a st.length c)), v4, v5, v6, v7, v8, v9, v10, v11], ?_, v0, v1, .pointer (some ⟨G, 0, none⟩), .agg (plA p (.slice a st.length c)), v4, v5, v6, v7, v8, v9, v10, v11, a0, c0, X, rfl, ⟨H.bel, (by have h := H.f0; simpa [doneSet] using h), (by have h := H.f1; simpa [doneSet] using h), (fun _ => rfl), (fun _ => rfl), (by have h := H.f4; simpa [doneSet] using h), (by have h := H.f5; simpa [doneSet] using h), (by have h := H.f6; simpa [doneSet] using h), (by have h := H.f7; simpa [doneSet] using h), (by have h := H.f8; simpa [doneSet] using h), (by have h := H.f9; simpa [doneSet] using h), (by have h := H.f11; simpa [doneSet] using h), (by have h := H.o5; simpa [doneSet] using h), (by have h := H.k9; simpa [doneSet] using h), (by have h := H.x9; simpa [doneSet] using h), (by have h := H.k10; simpa [doneSet] using h), (by have h := H.g6_5; simpa [doneSet] using h), (by have h := H.g7_5; simpa [doneSet] using h), (by have h := H.g10_5; simpa [doneSet] using h), (by have h := H.g10_9; simpa [doneSet] using h)⟩⟩
    simp only [putAll, Act.put, List.setIfInBounds_toArray, List.set_cons_succ, List.set_cons_zero]
    all_goals rfl
  · rintro d vs W ⟨v0, v1, v2, v3, v4, v5, v6, v7, v8, v9, v10, v11, a0, c0, X, rfl, H⟩ hn hd
    simp only [putAll, Act.put, List.setIfInBounds_toArray, List.set_cons_succ, List.set_cons_zero]
    have HKM : Hid (Blk W Y (pkA k) 40) := HY1.out.below H.bel HY1.out.lt
    have HH1 : Hid (Rc (W1.drew) (p) (q) (a) (st.length) (c) (k) (s) (G) (ok) d W v0 v1 v2 v3 v4 v5 v6 v7 v8 v9 v10 v11 a0 c0 X) := H
    clear H
    have HHN : Hid (d 4 = false) := hn
    clear hd hn
    go_wp2_with (refine ldP rfl _ rfl Y rfl 40 k HKM.out ?_)
    have H0 := HH1.out
    have H := HH1.out
    have hn := HHN.out
    refine ⟨rfl, [v0, v1, v2, v3, .agg (pkA k), v5, v6, v7, v8, v9, v10, v11], ?_, v0, v1, v2, v3, .agg (pkA k), v5, v6, v7, v8, v9, v10, v11, a0, c0, X, rfl, ⟨H.bel, (by have h := H.f0; simpa [doneSet] using h), (by have h := H.f1; simpa [doneSet] using h), (by have h := H.f2; simpa [doneSet] using h), (by have h := H.f3; simpa [doneSet] using h), (fun _ => rfl), (by have h := H.f5; simpa [doneSet] using h), (by have h := H.f6; simpa [doneSet] using h), (by have h := H.f7; simpa [doneSet] using h), (by have h := H.f8; simpa [doneSet] using h), (by have h := H.f9; simpa [doneSet] using h), (by have h := H.f11; simpa [doneSet] using h), (by have h := H.o5; simpa [doneSet] using h), (by have h := H.k9; simpa [doneSet] using h), (by have h := H.x9; simpa [doneSet] using h), (by have h := H.k10; simpa [doneSet] using h), (by have h := H.g6_5; simpa [doneSet] using h), (by have h := H.g7_5; simpa [doneSet] using h), (by have h := H.g10_5; simpa [doneSet] using h), (by have h := H.g10_9; simpa [doneSet] using h)⟩⟩
    simp only [putAll, Act.put, List.setIfInBounds_toArray, List.set_cons_succ, List.set_cons_zero]
    all_goals rfl
  · rintro d vs W ⟨v0, v1, v2, v3, v4, v5, v6, v7, v8, v9, v10, v11, a0, c0, X, rfl, H⟩ hn hd
    simp only [putAll, Act.put, List.setIfInBounds_toArray, List.set_cons_succ, List.set_cons_zero]
    have h3 : d 3 = true := hd { on := 3, ground := .data } (by simp) rfl
    have h4 : d 4 = true := hd { on := 4, ground := .data } (by simp) rfl
    have HRW : Hid (Rg 18 pkC W (.slice a st.length c) st) := HS1.out.below H.bel
    obtain rfl := H.f3 h3
    obtain rfl := H.f4 h4
    have HH1 : Hid (Rc (W1.drew) (p) (q) (a) (st.length) (c) (k) (s) (G) (ok) d W v0 v1 v2 (.agg (plA p (.slice a st.length c))) (.agg (pkA k)) v5 v6 v7 v8 v9 v10 v11 a0 c0 X) := H
    clear H
    have HHN : Hid (d 5 = false) := hn
    have HHD : Hid (d 3 = true ∧ d 4 = true) := ⟨h3, h4⟩
    clear hd hn h3 h4
    go_wp2_with (fail)
    refine (HPU.out W HRW.out).mono ?_
    rintro e W3 ⟨v7, rfl, o7, b7⟩
    have HB7 : Hid (Below W.heap.size W W3) := b7
    obtain ⟨a7, c7, rfl⟩ := o7.form
    have HO7 : Hid (Og 18 pkC 40 W.heap.size W3 (.slice a7 s.length c7) s) := o7
    clear b7 o7
    go_wp2
    have H0 := HH1.out
    have H := HH1.out.below HB7.out
    have hn := HHN.out
    have h3 := HHD.out.1
    have h4 := HHD.out.2
    refine ⟨rfl, [v0, v1, v2, .agg (plA p (.slice a st.length c)), .agg (pkA k), .tuple #[.agg (plA q (.slice a7 s.length c7)), .bool ok], v6, v7, v8, v9, v10, v11], ?_, v0, v1, v2, .agg (plA p (.slice a st.length c)), .agg (pkA k), .tuple #[.agg (plA q (.slice a7 s.length c7)), .bool ok], v6, v7, v8, v9, v10, v11, a7, c7, X, rfl, ⟨H.bel, (by have h := H.f0; simpa [doneSet] using h), (by have h := H.f1; simpa [doneSet] using h), (by have h := H.f2; simpa [doneSet] using h), (fun _ => rfl), (fun _ => rfl), (fun _ => rfl), (fun e => absurd (H0.g6_5 (by simpa [doneSet] using e)) (by rw [hn]; simp)), (fun e => absurd (H0.g7_5 (by simpa [doneSet] using e)) (by rw [hn]; simp)), (by have h := H.f8; simpa [doneSet] using h), (by have h := H.f9; simpa [doneSet] using h), (by have h := H.f11; simpa [doneSet] using h), (fun _ => HO7.out.mono H0.bel.size), (by have h := H.k9; simpa [doneSet] using h), (by have h := H.x9; simpa [doneSet] using h), (fun e => absurd (H0.g10_5 (by simpa [doneSet] using e)) (by rw [hn]; simp)), (fun _ => by simp [doneSet]), (fun _ => by simp [doneSet]), (fun _ => by simp [doneSet]), (by have h := H.g10_9; simpa [doneSet] using h)⟩⟩
    simp only [putAll, Act.put, List.setIfInBounds_toArray, List.set_cons_succ, List.set_cons_zero]
    all_goals rfl
  · rintro d vs W ⟨v0, v1, v2, v3, v4, v5, v6, v7, v8, v9, v10, v11, a0, c0, X, rfl, H⟩ hn hd
    simp only [putAll, Act.put, List.setIfInBounds_toArray, List.set_cons_succ, List.set_cons_zero]
    have h5 : d 5 = true := hd { on := 5, ground := .data } (by simp) rfl
    obtain rfl := H.f5 h5
    have HH1 : Hid (Rc (W1.drew) (p) (q) (a) (st.length) (c) (k) (s) (G) (ok) d W v0 v1 v2 v3 v4 (.tuple #[.agg (plA q (.slice a0 s.length c0)), .bool ok]) v6 v7 v8 v9 v10 v11 a0 c0 X) := H
    clear H
    have HHN : Hid (d 6 = false) := hn
    have HHD : Hid (d 5 = true) := h5
    clear hd hn h5
    go_wp2
    have H0 := HH1.out
    have H := HH1.out
    have hn := HHN.out
    have h5 := HHD.out
    refine ⟨rfl, [v0, v1, v2, v3, v4, .tuple #[.agg (plA q (.slice a0 s.length c0)), .bool ok], .tuple #[.agg (plA q (.slice a0 s.length c0)), .bool ok], v7, v8, v9, v10, v11], ?_, v0, v1, v2, v3, v4, .tuple #[.agg (plA q (.slice a0 s.length c0)), .bool ok], .tuple #[.agg (plA q (.slice a0 s.length c0)), .bool ok], v7, v8, v9, v10, v11, a0, c0, X, rfl, ⟨H.bel, (by have h := H.f0; simpa [doneSet] using h), (by have h := H.f1; simpa [doneSet] using h), (by have h := H.f2; simpa [doneSet] using h), (by have h := H.f3; simpa [doneSet] using h), (by have h := H.f4; simpa [doneSet] using h), (fun _ => rfl), (fun _ => rfl), (by have h := H.f7; simpa [doneSet] using h), (by have h := H.f8; simpa [doneSet] using h), (by have h := H.f9; simpa [doneSet] using h), (by have h := H.f11; simpa [doneSet] using h), (by have h := H.o5; simpa [doneSet] using h), (by have h := H.k9; simpa [doneSet] using h), (by have h := H.x9; simpa [doneSet] using h), (by have h := H.k10; simpa [doneSet] using h), (fun _ => by simpa [doneSet] using h5), (by have h := H.g7_5; simpa [doneSet] using h), (by have h := H.g10_5; simpa [doneSet] using h), (by have h := H.g10_9; simpa [doneSet] using h)⟩⟩
    simp only [putAll, Act.put, List.setIfInBounds_toArray, List.set_cons_succ, List.set_cons_zero]
    all_goals rfl
  · rintro d vs W ⟨v0, v1, v2, v3, v4, v5, v6, v7, v8, v9, v10, v11, a0, c0, X, rfl, H⟩ hn hd
    simp only [putAll, Act.put, List.setIfInBounds_toArray, List.set_cons_succ, List.set_cons_zero]
    have h6 : d 6 = true := hd { on := 6, ground := .data } (by simp) rfl
    have h5 := H.g6_5 h6
    obtain rfl := H.f6 h6
    have HH1 : Hid (Rc (W1.drew) (p) (q) (a) (st.length) (c) (k) (s) (G) (ok) d W v0 v1 v2 v3 v4 v5 (.tuple #[.agg (plA q (.slice a0 s.length c0)), .bool ok]) v7 v8 v9 v10 v11 a0 c0 X) := H
    clear H
    have HHN : Hid (d 7 = false) := hn
    have HHD : Hid (d 6 = true) := h6
    clear hd hn h6
    go_wp2
    have H0 := HH1.out
    have H := HH1.out
    have hn := HHN.out
    have h6 := HHD.out
    refine ⟨rfl, [v0, v1, v2, v3, v4, v5, .tuple #[.agg (plA q (.slice a0 s.length c0)), .bool ok], .agg (plA q (.slice a0 s.length c0)), v8, v9, v10, v11], ?_, v0, v1, v2, v3, v4, v5, .tuple #[.agg (plA q (.slice a0 s.length c0)), .bool ok], .agg (plA q (.slice a0 s.length c0)), v8, v9, v10, v11, a0, c0, X, rfl, ⟨H.bel, (by have h := H.f0; simpa [doneSet] using h), (by have h := H.f1; simpa [doneSet] using h), (by have h := H.f2; simpa [doneSet] using h), (by have h := H.f3; simpa [doneSet] using h), (by have h := H.f4; simpa [doneSet] using h), (by have h := H.f5; simpa [doneSet] using h), (fun _ => rfl), (fun _ => rfl), (by have h := H.f8; simpa [doneSet] using h), (by have h := H.f9; simpa [doneSet] using h), (by have h := H.f11; simpa [doneSet] using h), (by have h := H.o5; simpa [doneSet] using h), (by have h := H.k9; simpa [doneSet] using h), (by have h := H.x9; simpa [doneSet] using h), (by have h := H.k10; simpa [doneSet] using h), (by have h := H.g6_5; simpa [doneSet] using h), (fun _ => by simpa [doneSet] using h5), (by have h := H.g10_5; simpa [doneSet] using h), (by have h := H.g10_9; simpa [doneSet] using h)⟩⟩
    simp only [putAll, Act.put, List.setIfInBounds_toArray, List.set_cons_succ, List.set_cons_zero]
    all_goals rfl
  · rintro d vs W ⟨v0, v1, v2, v3, v4, v5, v6, v7, v8, v9, v10, v11, a0, c0, X, rfl, H⟩ hn hd
    simp only [putAll, Act.put, List.setIfInBounds_toArray, List.set_cons_succ, List.set_cons_zero]
    have h6 : d 6 = true := hd { on := 6, ground := .data } (by simp) rfl
    obtain rfl := H.f6 h6
    have HH1 : Hid (Rc (W1.drew) (p) (q) (a) (st.length) (c) (k) (s) (G) (ok) d W v0 v1 v2 v3 v4 v5 (.tuple #[.agg (plA q (.slice a0 s.length c0)), .bool ok]) v7 v8 v9 v10 v11 a0 c0 X) := H
    clear H
    have HHN : Hid (d 8 = false) := hn
    have HHD : Hid (d 6 = true) := h6
    clear hd hn h6
    go_wp2
    have H0 := HH1.out
    have H := HH1.out
    have hn := HHN.out
    have h6 := HHD.out
    refine ⟨rfl, [v0, v1, v2, v3, v4, v5, .tuple #[.agg (plA q (.slice a0 s.length c0)), .bool ok], v7, .bool ok, v9, v10, v11], ?_, v0, v1, v2, v3, v4, v5, .tuple #[.agg (plA q (.slice a0 s.length c0)), .bool ok], v7, .bool ok, v9, v10, v11, a0, c0, X, rfl, ⟨H.bel, (by have h := H.f0; simpa [doneSet] using h), (by have h := H.f1; simpa [doneSet] using h), (by have h := H.f2; simpa [doneSet] using h), (by have h := H.f3; simpa [doneSet] using h), (by have h := H.f4; simpa [doneSet] using h), (by have h := H.f5; simpa [doneSet] using h), (fun _ => rfl), (by have h := H.f7; simpa [doneSet] using h), (fun _ => rfl), (by have h := H.f9; simpa [doneSet] using h), (by have h := H.f11; simpa [doneSet] using h), (by have h := H.o5; simpa [doneSet] using h), (by have h := H.k9; simpa [doneSet] using h), (by have h := H.x9; simpa [doneSet] using h), (by have h := H.k10; simpa [doneSet] using h), (by have h := H.g6_5; simpa [doneSet] using h), (by have h := H.g7_5; simpa [doneSet] using h), (by have h := H.g10_5; simpa [doneSet] using h), (by have h := H.g10_9; simpa [doneSet] using h)⟩⟩
    simp only [putAll, Act.put, List.setIfInBounds_toArray, List.set_cons_succ, List.set_cons_zero]
    all_goals rfl
  · rintro d vs W ⟨v0, v1, v2, v3, v4, v5, v6, v7, v8, v9, v10, v11, a0, c0, X, rfl, H⟩ hn hd
    simp only [putAll, Act.put, List.setIfInBounds_toArray, List.set_cons_succ, List.set_cons_zero]
    have HH1 : Hid (Rc (W1.drew) (p) (q) (a) (st.length) (c) (k) (s) (G) (ok) d W v0 v1 v2 v3 v4 v5 v6 v7 v8 v9 v10 v11 a0 c0 X) := H
    clear H
    have HHN : Hid (d 9 = false) := hn
    clear hd hn
    go_wp2
    have H0 := HH1.out
    have H := HH1.out.below ((Below.refl _ W).alloc (Nat.le_refl _) (.cells (plA ⟨0, 0, 0, 0, 0⟩ (.slice none 0 0)) 42))
    have hn := HHN.out
    refine ⟨rfl, [v0, v1, v2, v3, v4, v5, v6, v7, v8, .pointer (some ⟨W.heap.size, 0, none⟩), v10, v11], ?_, v0, v1, v2, v3, v4, v5, v6, v7, v8, .pointer (some ⟨W.heap.size, 0, none⟩), v10, v11, a0, c0, W.heap.size, rfl, ⟨H.bel, (by have h := H.f0; simpa [doneSet] using h), (by have h := H.f1; simpa [doneSet] using h), (by have h := H.f2; simpa [doneSet] using h), (by have h := H.f3; simpa [doneSet] using h), (by have h := H.f4; simpa [doneSet] using h), (by have h := H.f5; simpa [doneSet] using h), (by have h := H.f6; simpa [doneSet] using h), (by have h := H.f7; simpa [doneSet] using h), (by have h := H.f8; simpa [doneSet] using h), (fun _ => rfl), (by have h := H.f11; simpa [doneSet] using h), (by have h := H.o5; simpa [doneSet] using h), (fun _ _ => Blk.new _ _ _), (fun _ => H0.bel.size), (fun e => absurd (H0.g10_9 (by simpa [doneSet] using e)) (by rw [hn]; simp)), (by have h := H.g6_5; simpa [doneSet] using h), (by have h := H.g7_5; simpa [doneSet] using h), (by have h := H.g10_5; simpa [doneSet] using h), (fun _ => by simp [doneSet])⟩⟩
    simp only [putAll, Act.put, List.setIfInBounds_toArray, List.set_cons_succ, List.set_cons_zero]
    all_goals rfl
  · rintro d vs W ⟨v0, v1, v2, v3, v4, v5, v6, v7, v8, v9, v10, v11, a0, c0, X, rfl, H⟩ hn hd
    simp only [putAll, Act.put, List.setIfInBounds_toArray, List.set_cons_succ, List.set_cons_zero]
    have h9 : d 9 = true := hd { on := 9, ground := .data } (by simp) rfl
    have h7 : d 7 = true := hd { on := 7, ground := .data } (by simp) rfl
    have HK8 : Hid (Blk W X (plA ⟨0, 0, 0, 0, 0⟩ (.slice none 0 0)) 42) := H.k9 h9 hn
    have HX8 : Hid (W1.drew.heap.size ≤ X) := H.x9 h9
    have h5 : d 5 = true := H.g7_5 h7
    have HO4 : Hid (Og 18 pkC 40 W1.drew.heap.size W (.slice a0 s.length c0) s) := H.o5 h5
    have HH4 : Hid (d 5 = true) := h5
    obtain rfl := H.f9 h9
    obtain rfl := H.f7 h7
    have HH1 : Hid (Rc (W1.drew) (p) (q) (a) (st.length) (c) (k) (s) (G) (ok) d W v0 v1 v2 v3 v4 v5 v6 (.agg (plA q (.slice a0 s.length c0))) v8 (.pointer (some ⟨X, 0, none⟩)) v10 v11 a0 c0 X) := H
    clear H
    have HHN : Hid (d 10 = false) := hn
    have HHD : Hid (d 9 = true ∧ d 7 = true) := ⟨h9, h7⟩
    clear hd hn h9 h7
    go_wp2_with (refine wpList_store_row rfl 42 _ _ rfl X (plA q (.slice a0 s.length c0)) rfl rfl 42 (plA ⟨0, 0, 0, 0, 0⟩ (.slice none 0 0)) HK8.out (by kernel_rfl) rfl (by simp [Value.oneCell']) ?_)
    have H0 := HH1.out
    have H := HH1.out
    have hn := HHN.out
    have h9 := HHD.out.1
    have h7 := HHD.out.2
    refine ⟨rfl, [v0, v1, v2, v3, v4, v5, v6, .agg (plA q (.slice a0 s.length c0)), v8, .pointer (some ⟨X, 0, none⟩), undef, v11], ?_, v0, v1, v2, v3, v4, v5, v6, .agg (plA q (.slice a0 s.length c0)), v8, .pointer (some ⟨X, 0, none⟩), undef, v11, a0, c0, X, rfl, ⟨(belowRow H0.bel _ HX8.out _), (by have h := H.f0; simpa [doneSet] using h), (by have h := H.f1; simpa [doneSet] using h), (by have h := H.f2; simpa [doneSet] using h), (by have h := H.f3; simpa [doneSet] using h), (by have h := H.f4; simpa [doneSet] using h), (by have h := H.f5; simpa [doneSet] using h), (by have h := H.f6; simpa [doneSet] using h), (fun _ => rfl), (by have h := H.f8; simpa [doneSet] using h), (fun _ => rfl), (by have h := H.f11; simpa [doneSet] using h), (fun _ => World.ownsRow.kept HO4.out (grown_setRow _ _ _) (.inr (og_ne HO4.out HK8.out (by decide)))), (fun _ e => absurd e (by simp [doneSet])), (by have h := H.x9; simpa [doneSet] using h), (fun _ => HK8.out.row _), (by have h := H.g6_5; simpa [doneSet] using h), (by have h := H.g7_5; simpa [doneSet] using h), (fun _ => by simpa [doneSet] using HH4.out), (fun _ => by simpa [doneSet] using h9)⟩⟩
    simp only [putAll, Act.put, List.setIfInBounds_toArray, List.set_cons_succ, List.set_cons_zero]
    all_goals rfl
  · rintro d vs W ⟨v0, v1, v2, v3, v4, v5, v6, v7, v8, v9, v10, v11, a0, c0, X, rfl, H⟩ hn hd
    simp only [putAll, Act.put, List.setIfInBounds_toArray, List.set_cons_succ, List.set_cons_zero]
    have h8 : d 8 = true := hd { on := 8, ground := .data } (by simp) rfl
    obtain rfl := H.f8 h8
    have HH1 : Hid (Rc (W1.drew) (p) (q) (a) (st.length) (c) (k) (s) (G) (ok) d W v0 v1 v2 v3 v4 v5 v6 v7 (.bool ok) v9 v10 v11 a0 c0 X) := H
    clear H
    have HHN : Hid (d 11 = false) := hn
    have HHD : Hid (d 8 = true) := h8
    clear hd hn h8
    go_wp2
    have H0 := HH1.out
    have H := HH1.out
    have hn := HHN.out
    have h8 := HHD.out
    refine ⟨rfl, [v0, v1, v2, v3, v4, v5, v6, v7, .bool ok, v9, v10, .bool ok], ?_, v0, v1, v2, v3, v4, v5, v6, v7, .bool ok, v9, v10, .bool ok, a0, c0, X, rfl, ⟨H.bel, (by have h := H.f0; simpa [doneSet] using h), (by have h := H.f1; simpa [doneSet] using h), (by have h := H.f2; simpa [doneSet] using h), (by have h := H.f3; simpa [doneSet] using h), (by have h := H.f4; simpa [doneSet] using h), (by have h := H.f5; simpa [doneSet] using h), (by have h := H.f6; simpa [doneSet] using h), (by have h := H.f7; simpa [doneSet] using h), (fun _ => rfl), (by have h := H.f9; simpa [doneSet] using h), (fun _ => rfl), (by have h := H.o5; simpa [doneSet] using h), (by have h := H.k9; simpa [doneSet] using h), (by have h := H.x9; simpa [doneSet] using h), (by have h := H.k10; simpa [doneSet] using h), (by have h := H.g6_5; simpa [doneSet] using h), (by have h := H.g7_5; simpa [doneSet] using h), (by have h := H.g10_5; simpa [doneSet] using h), (by have h := H.g10_9; simpa [doneSet] using h)⟩⟩
    simp only [putAll, Act.put, List.setIfInBounds_toArray, List.set_cons_succ, List.set_cons_zero]
    all_goals rfl
  rintro d vs W2 ⟨v0, v1, v2, v3, v4, v5, v6, v7, v8, v9, v10, v11, a0, c0, X, rfl, H⟩ hn
  obtain rfl := H.f0 (hn 0 (by decide))
  obtain rfl := H.f1 (hn 1 (by decide))
  obtain rfl := H.f2 (hn 2 (by decide))
  obtain rfl := H.f3 (hn 3 (by decide))
  obtain rfl := H.f4 (hn 4 (by decide))
  obtain rfl := H.f5 (hn 5 (by decide))
  obtain rfl := H.f6 (hn 6 (by decide))
  obtain rfl := H.f7 (hn 7 (by decide))
  obtain rfl := H.f8 (hn 8 (by decide))
  obtain rfl := H.f9 (hn 9 (by decide))
  obtain rfl := H.f11 (hn 11 (by decide))

  have b2 : Below W.heap.size W W2 := HA1.out.drew.trans (H.bel.mono HA1.out.size)
  have o2 : Og 18 pkC 40 W.heap.size W2 (.slice a0 s.length c0) s := Og.mono (H.o5 (hn 5 (by decide))) HA1.out.size
  have k2 : Blk W2 X (plA q (.slice a0 s.length c0)) 42 := H.k10 (hn 10 (by decide))
  have hXW : W.heap.size ≤ X := Nat.le_trans HA1.out.size (H.x9 (hn 9 (by decide)))
  have hGW := HB.out.lt
  have g2 : Blk W2 G (hsA p (.slice a st.length c) u b) 88 := HB.out.below b2 hGW
  have u2 : Ow .i64 3 base W2 u lv := HU.out.below b2
  obtain ⟨W6, hW6⟩ : ∃ W, W2.setCells G 0 (plL q (.slice a0 s.length c0)) = W := ⟨_, rfl⟩
  have r6 : W2.grownBy W6 (some G) := by rw [← hW6]; exact grown_setCells _ _ _
  have GW6 : Hid (Blk W6 G (hsA q (.slice a0 s.length c0) u b) 88) := by rw [← hW6]; exact hs_put g2
  have k6 : Blk W6 X (plA q (.slice a0 s.length c0)) 42 := k2.grownO r6 (fun e => by have := Option.some.inj e; omega)
  have OW6 : Hid (Og 18 pkC 40 base W6 (.slice a0 s.length c0) s) := Og.mono (World.ownsRow.kept o2 r6 (.inr (og_ne o2 g2 (by decide)))) (by have := HG.out; omega)
  have UW6 : Hid (Ow .i64 3 base W6 u lv) := World.ownsRow.kept u2 r6 (.inr (ow_ne u2 g2 (by decide)))
  have BW6 : Hid (Below base W W6) := (b2.mono (by have := HG.out; omega)).trans (grown_below r6 (by have := b2.size; have := HG.out; omega) (fun k e => by have := Option.some.inj e; have := HG.out; omega))
  have T2 : Hid (W2.there G 0 6) := hs_there g2
  have K2 : Hid (Blk W2 X (plA q (.slice a0 s.length c0)) 42) := k2
  have HW6 : Hid (W2.setCells G 0 (plL q (.slice a0 s.length c0)) = W6) := hW6
  have x7 : W6.cell? ⟨G, 7, none⟩ = some (.bool b) := by rw [GW6.out.cell]; rfl
  have y0 := k6.cell 0
  have y1 := k6.cell 1
  have y2 := k6.cell 2
  have y3 := k6.cell 3
  have y4 := k6.cell 4
  have y5 := k6.cell 5
  simp at y0 y1 y2 y3 y4 y5
  clear H hn b2 o2 k2 hXW hGW g2 u2 hW6 r6 k6 HY1 HB1 HS1 HA1 HW1 HPU HB HU
  simp only [putAll, Act.put, List.setIfInBounds_toArray, List.set_cons_succ, List.set_cons_zero]
  go_upto_region 3 with (first | refine wpList_load_row rfl 42 _ rfl X rfl 42 (plA q (.slice a0 s.length c0)) (0, 0) _ K2.out Tryd.underlying42 rfl (by kernel_rfl) ?_ | (refine wpList_store_mid rfl 42 _ _ rfl G 0 (plA q (.slice a0 s.length c0)) rfl rfl T2.out (by kernel_rfl) (by simp [Value.oneCell']) ?_))
  try rw [HW6.out]
  clear K2 T2
  cases b with
  | true =>
    have HN0 : Hid (true = true ∨ RdP q s) := .inl rfl
    clear y0 y1 y2 y3 y4 y5
    obtain ⟨W8, hW8⟩ : ∃ W, W6.setCell ⟨G, 7, none⟩ (.bool true) = W := ⟨_, rfl⟩
    have gN : Blk W8 G (hsA q (.slice a0 s.length c0) u true) 88 := by rw [← hW8]; exact GW6.out.set 7 _
    have HH : Hid (Hs base G W8 q s lv true) := by
      refine ⟨.slice a0 s.length c0, u, gN, ?_, ?_, HG.out⟩
      · rw [← hW8]; exact World.ownsRow.kept OW6.out (dgrown_set _ _ _ _) (.inr (og_ne OW6.out GW6.out (by decide)))
      · rw [← hW8]; exact World.ownsRow.kept UW6.out (dgrown_set _ _ _ _) (.inr (ow_ne UW6.out GW6.out (by decide)))
    have HBB : Hid (Below base W W8) := by rw [← hW8]; exact BW6.out.setCell (by exact HG.out) _
    have y7 : W8.cell? ⟨G, 7, none⟩ = some (.bool true) := by rw [gN.cell]; rfl
    have HWW8 : Hid (W6.setCell ⟨G, 7, none⟩ (.bool true) = W8) := hW8
    have HNB : Hid (true = true ∨ RdP q s) := HN0.out
    have f7 := GW6.out.frozen 7
    clear gN hW8 GW6 OW6 UW6 BW6
    go_upto_region 4 with fail
    rw [HWW8.out]
    clear HWW8 x7 f7
    have x7 := y7
    clear y7
    cases ok with
    | false =>
      go_wp2
      go_ret
      exact ⟨HBB.out, fun hP => absurd (HC.out.1 hP).1 (by simp), fun _ => rfl⟩
    | true =>
      go_wp2_with (fail)
      refine (playOne_c HH.out HSN.out.1 (HCG.out W8 HBB.out) HSN.out.2 HL.out).mono ?_
      rintro e W9 ⟨b9, h1, h2⟩
      have HB9 : Hid (Below base W W9) := HBB.out.trans b9
      by_cases hY : PyP q s
      · obtain ⟨rfl, hH⟩ := h1 hY
        have HH9 : Hid (PyP q s ∧ Hs base G W9 (pyF q s) (s.drop (pcF s (q.n + 1))) (lv ++ (lvF s q.n q.x).1) true) := ⟨hY, hH⟩
        clear h1 h2 b9 hY hH HH x7
        go_wp2
        go_ret
        refine ⟨HB9.out, fun hP => ?_, fun hP => absurd (HC.out.2 hP) (by simp)⟩
        obtain ⟨-, rfl, rfl⟩ := HC.out.1 hP
        exact ⟨fun h => absurd (by first | exact HNB.out | exact Or.inl rfl) h, fun _ => ⟨fun _ => ⟨rfl, HH9.out.2⟩, fun h => absurd HH9.out.1 h⟩⟩
      · obtain rfl := h2 hY
        have HH9 : Hid (¬ PyP q s) := hY
        clear h1 h2 b9 hY HH x7
        go_wp2
        go_ret
        refine ⟨HB9.out, fun hP => ?_, fun hP => absurd (HC.out.2 hP) (by simp)⟩
        obtain ⟨-, rfl, rfl⟩ := HC.out.1 hP
        exact ⟨fun h => absurd (by first | exact HNB.out | exact Or.inl rfl) h, fun _ => ⟨fun h => absurd h HH9.out, fun _ => rfl⟩⟩
  | false =>
    have HRQ : Hid (Rg 18 pkC W6 (.slice a0 s.length c0) s) := OW6.out.rd pkC_len
    go_wp2_with (fail)
    refine (rdI_c q (.slice a0 s.length c0) s W6 HRQ.out).mono ?_
    rintro e W7 ⟨rb, rfl, hr, b7⟩
    have GW7 : Hid (Blk W7 G (hsA q (.slice a0 s.length c0) u false) 88) := GW6.out.below b7 GW6.out.lt
    have OW7 : Hid (Og 18 pkC 40 base W7 (.slice a0 s.length c0) s) := OW6.out.below b7
    have UW7 : Hid (Ow .i64 3 base W7 u lv) := UW6.out.below b7
    have BW7 : Hid (Below base W W7) := belowCall BW6.out b7 (by have := GW6.out.lt; have := HG.out; omega)
    have z7 : W7.cell? ⟨G, 7, none⟩ = some (.bool false) := by rw [GW7.out.cell]; rfl
    have HRB : Hid (rb = true ↔ RdP q s) := hr
    clear hr b7 GW6 OW6 UW6 BW6 y0 y1 y2 y3 y4 y5 x7 HRQ
    have x7 := z7
    clear z7
    cases rb with
    | true =>
      have HN0 : Hid (false = true ∨ RdP q s) := .inr (HRB.out.1 rfl)
      obtain ⟨W8, hW8⟩ : ∃ W, W7.setCell ⟨G, 7, none⟩ (.bool true) = W := ⟨_, rfl⟩
      have gN : Blk W8 G (hsA q (.slice a0 s.length c0) u true) 88 := by rw [← hW8]; exact GW7.out.set 7 _
      have HH : Hid (Hs base G W8 q s lv true) := by
        refine ⟨.slice a0 s.length c0, u, gN, ?_, ?_, HG.out⟩
        · rw [← hW8]; exact World.ownsRow.kept OW7.out (dgrown_set _ _ _ _) (.inr (og_ne OW7.out GW7.out (by decide)))
        · rw [← hW8]; exact World.ownsRow.kept UW7.out (dgrown_set _ _ _ _) (.inr (ow_ne UW7.out GW7.out (by decide)))
      have HBB : Hid (Below base W W8) := by rw [← hW8]; exact BW7.out.setCell (by exact HG.out) _
      have y7 : W8.cell? ⟨G, 7, none⟩ = some (.bool true) := by rw [gN.cell]; rfl
      have HWW8 : Hid (W7.setCell ⟨G, 7, none⟩ (.bool true) = W8) := hW8
      have HNB : Hid (false = true ∨ RdP q s) := HN0.out
      have f7 := GW7.out.frozen 7
      clear gN hW8 GW7 OW7 UW7 BW7
      go_upto_region 4 with fail
      rw [HWW8.out]
      clear HWW8 x7 f7
      have x7 := y7
      clear y7
      cases ok with
      | false =>
        go_wp2
        go_ret
        exact ⟨HBB.out, fun hP => absurd (HC.out.1 hP).1 (by simp), fun _ => rfl⟩
      | true =>
        go_wp2_with (fail)
        refine (playOne_c HH.out HSN.out.1 (HCG.out W8 HBB.out) HSN.out.2 HL.out).mono ?_
        rintro e W9 ⟨b9, h1, h2⟩
        have HB9 : Hid (Below base W W9) := HBB.out.trans b9
        by_cases hY : PyP q s
        · obtain ⟨rfl, hH⟩ := h1 hY
          have HH9 : Hid (PyP q s ∧ Hs base G W9 (pyF q s) (s.drop (pcF s (q.n + 1))) (lv ++ (lvF s q.n q.x).1) true) := ⟨hY, hH⟩
          clear h1 h2 b9 hY hH HH x7
          go_wp2
          go_ret
          refine ⟨HB9.out, fun hP => ?_, fun hP => absurd (HC.out.2 hP) (by simp)⟩
          obtain ⟨-, rfl, rfl⟩ := HC.out.1 hP
          exact ⟨fun h => absurd (by first | exact HNB.out | exact Or.inl rfl) h, fun _ => ⟨fun _ => ⟨rfl, HH9.out.2⟩, fun h => absurd HH9.out.1 h⟩⟩
        · obtain rfl := h2 hY
          have HH9 : Hid (¬ PyP q s) := hY
          clear h1 h2 b9 hY HH x7
          go_wp2
          go_ret
          refine ⟨HB9.out, fun hP => ?_, fun hP => absurd (HC.out.2 hP) (by simp)⟩
          obtain ⟨-, rfl, rfl⟩ := HC.out.1 hP
          exact ⟨fun h => absurd (by first | exact HNB.out | exact Or.inl rfl) h, fun _ => ⟨fun h => absurd h HH9.out, fun _ => rfl⟩⟩
    | false =>
      have HN0 : Hid (¬ (false = true ∨ RdP q s)) := fun h => by
        rcases h with h | h
        · cases h
        · have := HRB.out.2 h; cases this
      obtain ⟨W8, hW8⟩ : ∃ W, W7.setCell ⟨G, 7, none⟩ (.bool false) = W := ⟨_, rfl⟩
      have gN : Blk W8 G (hsA q (.slice a0 s.length c0) u false) 88 := by rw [← hW8]; exact GW7.out.set 7 _
      have HH : Hid (Hs base G W8 q s lv false) := by
        refine ⟨.slice a0 s.length c0, u, gN, ?_, ?_, HG.out⟩
        · rw [← hW8]; exact World.ownsRow.kept OW7.out (dgrown_set _ _ _ _) (.inr (og_ne OW7.out GW7.out (by decide)))
        · rw [← hW8]; exact World.ownsRow.kept UW7.out (dgrown_set _ _ _ _) (.inr (ow_ne UW7.out GW7.out (by decide)))
      have HBB : Hid (Below base W W8) := by rw [← hW8]; exact BW7.out.setCell (by exact HG.out) _
      have y7 : W8.cell? ⟨G, 7, none⟩ = some (.bool false) := by rw [gN.cell]; rfl
      have HWW8 : Hid (W7.setCell ⟨G, 7, none⟩ (.bool false) = W8) := hW8
      have HNB : Hid (¬ (false = true ∨ RdP q s)) := HN0.out
      have f7 := GW7.out.frozen 7
      clear gN hW8 GW7 OW7 UW7 BW7
      go_upto_region 4 with fail
      rw [HWW8.out]
      clear HWW8 x7 f7
      have x7 := y7
      clear y7
      cases ok with
      | false =>
        go_wp2
        go_ret
        exact ⟨HBB.out, fun hP => absurd (HC.out.1 hP).1 (by simp), fun _ => rfl⟩
      | true =>
        go_wp2
        go_ret
        refine ⟨HBB.out, fun hP => ?_, fun hP => absurd (HC.out.2 hP) (by simp)⟩
        obtain ⟨-, rfl, rfl⟩ := HC.out.1 hP
        exact ⟨fun _ => ⟨rfl, HH.out⟩, fun h => absurd h HNB.out⟩

end Go.Proofs.YtkjfcebdjnclaaaDoor
