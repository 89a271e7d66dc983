/- FnExactAdd18 at all books and talks; no condition. -/
import Derived.Test.YtmfmlbiplagmiaaDoorAdi
import Derived.Test.YtmfmlbiplagmiaaDoorAdm
import Derived.Test.YtmfmlbiplagmiaaDoorFls
import Derived.Test.YtmfmlbiplagmiaaDoorBoi
import Derived.Test.YtmfmlbiplagmiaaDoorOver
import Derived.Test.YtmfmlbiplagmiaaDoorMixT
import Derived.Test.YtmfmlbiplagmiaaDoorIvm
import Derived.Test.YtmfmlbiplagmiaaDoorDet
import Derived.Test.YtmfmlbiplagmiaaDoorTks
import Derived.Deep.DeepCutAuto
import Derived.Deep.Cut
namespace Go.Proofs.YtmfmlbiplagmiaaDoor
open Go.RowKit Go.ChangeShapes Go.WideShapes Go.ChangeAt
set_option linter.unusedVariables false
set_option linter.unusedSimpArgs false
set_option maxRecDepth 8000

theorem obk_setRow {base X : Nat} {W : World} {va vl vc : Value} {T : List Tk} {L C : List Int} {cs cs' : Array Value} (h : Obk base W va vl vc T L C) (hb : Blk W X cs 27) : Obk base (W.setRow X cs') va vl vc T L C :=
  h.fr (X := fun k => k = X) (Fr.ofGrown (row := some X) ⟨rfl, rfl, rfl, by simp, fun i _ hi => setRow_other W _ i _ (fun e => hi (by simp [e]))⟩ (fun k e => (Option.some.inj e).symm)) (fun k hk e => by
    subst e
    rcases hk with hk | hk | hk
    · exact row_blk h.1 hb (by decide) hk
    · exact row_blk h.2.1 hb (by decide) hk
    · exact row_blk h.2.2.1 hb (by decide) hk)
theorem obk_form {base : Nat} {W : World} {va vl vc : Value} {T : List Tk} {L C : List Int} (h : Obk base W va vl vc T L C) : (∃ a n c, va = .slice a n c) ∧ (∃ a n c, vl = .slice a n c) ∧ ∃ a n c, vc = .slice a n c :=
  ⟨by obtain ⟨a, c, e⟩ := h.1.form; exact ⟨a, _, c, e⟩, by obtain ⟨a, c, e⟩ := h.2.1.form; exact ⟨a, _, c, e⟩, by obtain ⟨a, c, e⟩ := h.2.2.1.form; exact ⟨a, _, c, e⟩⟩
theorem ad_len (ts : List Tk) (ls cs : List Int) (t : Tk) (h1 : ts.length ≤ 1048576) (h2 : ls.length ≤ 1048576) (h3 : cs.length ≤ 1048576) : (adT ts ls cs t).length ≤ 1048577 ∧ (adL ts ls cs t).length ≤ 1048576 ∧ (adC ts ls cs t).length ≤ 1048576 := by
  unfold adT adL adC
  cases adB ts ls cs t with
  | false => simp only [Bool.false_eq_true, if_false]; omega
  | true => simp only [if_true, wr18_len, List.length_append, List.length_cons, List.length_nil]; omega
structure Ru (Wd : World) (G : Nat) (GP : Nat) (va : Value) (vl : Value) (vc : Value) (x0 : Int) (x1 : Int) (x2 : Int) (ts : List Tk) (ls : List Int) (cs : List Int) (T : List Tk) (L : List Int) (C : List Int) (B : Bool) (d : Nat → Bool) (W : World) (v0 v1 v2 v3 v4 v5 v6 v7 v8 v9 v10 : Value) (m0 : Value) (m1 : Value) (m2 : Value) (q0 : Value) (q1 : Value) (q2 : Value) (X : Nat) : Prop where
  bel : Below Wd.heap.size Wd W
  f0 : d 0 = true → v0 = .agg (B3 va vl vc)
  f1 : d 1 = true → v1 = .agg (B3 m0 m1 m2)
  f2 : d 2 = true → v2 = .agg #[.int .i64 x0, .int .i64 x1, .int .i64 x2]
  f3 : d 3 = true → v3 = .agg #[.int .i64 x0, .int .i64 x1, .int .i64 x2]
  f4 : d 4 = true → v4 = .tuple #[.agg (B3 q0 q1 q2), .bool B]
  f5 : d 5 = true → v5 = .tuple #[.agg (B3 q0 q1 q2), .bool B]
  f6 : d 6 = true → v6 = .agg (B3 q0 q1 q2)
  f7 : d 7 = true → v7 = .bool B
  f8 : d 8 = true → v8 = .pointer (some ⟨X, 0, none⟩)
  f10 : d 10 = true → v10 = .bool B
  o1 : d 1 = true → d 4 = false → Rbk W m0 m1 m2 ts ls cs
  o4 : d 4 = true → Obk Wd.heap.size W q0 q1 q2 T L C
  k8 : d 8 = true → d 9 = false → Blk W X (B3 (.slice none 0 0) (.slice none 0 0) (.slice none 0 0)) 27
  x8 : d 8 = true → Wd.heap.size ≤ X
  k9 : d 9 = true → Blk W X (B3 q0 q1 q2) 27
  g5_4 : d 5 = true → d 4 = true
  g6_4 : d 6 = true → d 4 = true
  g9_4 : d 9 = true → d 4 = true
  g9_8 : d 9 = true → d 8 = true
  g4_1 : d 4 = true → d 1 = true
def RuS (Wd : World) (G : Nat) (GP : Nat) (va : Value) (vl : Value) (vc : Value) (x0 : Int) (x1 : Int) (x2 : Int) (ts : List Tk) (ls : List Int) (cs : List Int) (T : List Tk) (L : List Int) (C : List Int) (B : Bool) (d : Nat → Bool) (q : List Value) (W : World) : Prop := ∃ v0 v1 v2 v3 v4 v5 v6 v7 v8 v9 v10 m0 m1 m2 q0 q1 q2 X, q = [v0, v1, v2, v3, v4, v5, v6, v7, v8, v9, v10] ∧ Ru Wd G GP va vl vc x0 x1 x2 ts ls cs T L C B d W v0 v1 v2 v3 v4 v5 v6 v7 v8 v9 v10 m0 m1 m2 q0 q1 q2 X
theorem Ru.below {Wd : World} {G : Nat} {GP : Nat} {va : Value} {vl : Value} {vc : Value} {x0 : Int} {x1 : Int} {x2 : Int} {ts : List Tk} {ls : List Int} {cs : List Int} {T : List Tk} {L : List Int} {C : List Int} {B : Bool} {d : Nat → Bool} {W W' : World} {v0 v1 v2 v3 v4 v5 v6 v7 v8 v9 v10 : Value} {m0 : Value} {m1 : Value} {m2 : Value} {q0 : Value} {q1 : Value} {q2 : Value} {X : Nat} (h : Ru Wd G GP va vl vc x0 x1 x2 ts ls cs T L C B d W v0 v1 v2 v3 v4 v5 v6 v7 v8 v9 v10 m0 m1 m2 q0 q1 q2 X) (hb : Below W.heap.size W W') : Ru Wd G GP va vl vc x0 x1 x2 ts ls cs T L C B d W' v0 v1 v2 v3 v4 v5 v6 v7 v8 v9 v10 m0 m1 m2 q0 q1 q2 X :=
  { h with
    bel := belowCall h.bel hb h.bel.size
    o1 := fun e0 e1 => (h.o1 e0 e1).below hb
    o4 := fun e0 => (h.o4 e0).below hb
    k8 := fun e0 e1 => (h.k8 e0 e1).below hb (h.k8 e0 e1).lt
    k9 := fun e0 => (h.k9 e0).below hb (h.k9 e0).lt
  }
structure Rv (Wd : World) (G : Nat) (GP : Nat) (va : Value) (vl : Value) (vc : Value) (x0 : Int) (x1 : Int) (x2 : Int) (ts : List Tk) (ls : List Int) (cs : List Int) (T : List Tk) (L : List Int) (C : List Int) (B : Bool) (d : Nat → Bool) (W : World) (v0 v1 v2 v3 v4 v5 v6 v7 v8 v9 : Value) (q0 : Value) (q1 : Value) (q2 : Value) (X : Nat) : Prop where
  bel : Below Wd.heap.size Wd W
  f0 : d 0 = true → v0 = .agg (B3 va vl vc)
  f1 : d 1 = true → v1 = .agg #[.int .i64 x0, .int .i64 x1, .int .i64 x2]
  f2 : d 2 = true → v2 = .agg #[.int .i64 x0, .int .i64 x1, .int .i64 x2]
  f3 : d 3 = true → v3 = .tuple #[.agg (B3 q0 q1 q2), .bool B]
  f4 : d 4 = true → v4 = .tuple #[.agg (B3 q0 q1 q2), .bool B]
  f5 : d 5 = true → v5 = .agg (B3 q0 q1 q2)
  f6 : d 6 = true → v6 = .bool B
  f7 : d 7 = true → v7 = .pointer (some ⟨X, 0, none⟩)
  f9 : d 9 = true → v9 = .bool B
  o3 : d 3 = true → Obk Wd.heap.size W q0 q1 q2 T L C
  k7 : d 7 = true → d 8 = false → Blk W X (B3 (.slice none 0 0) (.slice none 0 0) (.slice none 0 0)) 27
  x7 : d 7 = true → Wd.heap.size ≤ X
  k8 : d 8 = true → Blk W X (B3 q0 q1 q2) 27
  g4_3 : d 4 = true → d 3 = true
  g5_3 : d 5 = true → d 3 = true
  g8_3 : d 8 = true → d 3 = true
  g8_7 : d 8 = true → d 7 = true
def RvS (Wd : World) (G : Nat) (GP : Nat) (va : Value) (vl : Value) (vc : Value) (x0 : Int) (x1 : Int) (x2 : Int) (ts : List Tk) (ls : List Int) (cs : List Int) (T : List Tk) (L : List Int) (C : List Int) (B : Bool) (d : Nat → Bool) (q : List Value) (W : World) : Prop := ∃ v0 v1 v2 v3 v4 v5 v6 v7 v8 v9 q0 q1 q2 X, q = [v0, v1, v2, v3, v4, v5, v6, v7, v8, v9] ∧ Rv Wd G GP va vl vc x0 x1 x2 ts ls cs T L C B d W v0 v1 v2 v3 v4 v5 v6 v7 v8 v9 q0 q1 q2 X
theorem Rv.below {Wd : World} {G : Nat} {GP : Nat} {va : Value} {vl : Value} {vc : Value} {x0 : Int} {x1 : Int} {x2 : Int} {ts : List Tk} {ls : List Int} {cs : List Int} {T : List Tk} {L : List Int} {C : List Int} {B : Bool} {d : Nat → Bool} {W W' : World} {v0 v1 v2 v3 v4 v5 v6 v7 v8 v9 : Value} {q0 : Value} {q1 : Value} {q2 : Value} {X : Nat} (h : Rv Wd G GP va vl vc x0 x1 x2 ts ls cs T L C B d W v0 v1 v2 v3 v4 v5 v6 v7 v8 v9 q0 q1 q2 X) (hb : Below W.heap.size W W') : Rv Wd G GP va vl vc x0 x1 x2 ts ls cs T L C B d W' v0 v1 v2 v3 v4 v5 v6 v7 v8 v9 q0 q1 q2 X :=
  { h with
    bel := belowCall h.bel hb h.bel.size
    o3 := fun e0 => (h.o3 e0).below hb
    k7 := fun e0 e1 => (h.k7 e0 e1).below hb (h.k7 e0 e1).lt
    k8 := fun e0 => (h.k8 e0).below hb (h.k8 e0).lt
  }
set_option maxHeartbeats 12800000 in
theorem addLaw (va vl vc : Value) (ts : List Tk) (ls cs : List Int) (x0 x1 x2 : Int) (w : World) (h : Rbk w va vl vc ts ls cs) (hg : HgV w) :
    Calls Tryd.prog 6 #[.agg (B3 va vl vc), .agg #[.int .i64 x0, .int .i64 x1, .int .i64 x2]] w fun e w' => e = .returned (.bool true) ∧ Below w.heap.size w w' := by
  have hci : ∀ W va vl vc, HgV W → Rbk W va vl vc ts ls cs → ts.length ≤ 1048576 → ls.length ≤ 1048576 → cs.length ≤ 1048576 → Calls Tryd.prog 17 #[.agg (B3 va vl vc), .agg #[.int .i64 x0, .int .i64 x1, .int .i64 x2]] W (RsQ (adT ts ls cs (x0, x1, x2)) (adL ts ls cs (x0, x1, x2)) (adC ts ls cs (x0, x1, x2)) (adB ts ls cs (x0, x1, x2)) W) := fun W va vl vc hg h h1 h2 h3 => addI_c va vl vc ts ls cs x0 x1 x2 W hg h h1 h2 h3
  have hcm : ∀ W va vl vc, Rbk W va vl vc ts ls cs → ts.length ≤ 1048576 → ls.length ≤ 1048576 → cs.length ≤ 1048576 → Calls Tryd.prog 18 #[.agg (B3 va vl vc), .agg #[.int .i64 x0, .int .i64 x1, .int .i64 x2]] W (RsQ (adT ts ls cs (x0, x1, x2)) (adL ts ls cs (x0, x1, x2)) (adC ts ls cs (x0, x1, x2)) (adB ts ls cs (x0, x1, x2)) W) := fun W va vl vc h h1 h2 h3 => addM_c va vl vc ts ls cs x0 x1 x2 W h h1 h2 h3
  have hlen := ad_len ts ls cs (x0, x1, x2)
  obtain ⟨T, hT⟩ : ∃ T, adT ts ls cs (x0, x1, x2) = T := ⟨_, rfl⟩
  obtain ⟨L, hL⟩ : ∃ T, adL ts ls cs (x0, x1, x2) = T := ⟨_, rfl⟩
  obtain ⟨C, hC⟩ : ∃ T, adC ts ls cs (x0, x1, x2) = T := ⟨_, rfl⟩
  obtain ⟨B, hB⟩ : ∃ T, adB ts ls cs (x0, x1, x2) = T := ⟨_, rfl⟩
  rw [hT, hL, hC] at hlen
  rw [hT, hL, hC, hB] at hci hcm
  have hbb : (B != B) = false := by simp
  have HLN : Hid (ts.length ≤ 1048576 → ls.length ≤ 1048576 → cs.length ≤ 1048576 → T.length ≤ 1048577 ∧ L.length ≤ 1048576 ∧ C.length ≤ 1048576) := hlen
  have HCI : Hid (∀ W va vl vc, HgV W → Rbk W va vl vc ts ls cs → ts.length ≤ 1048576 → ls.length ≤ 1048576 → cs.length ≤ 1048576 → Calls Tryd.prog 17 #[.agg (B3 va vl vc), .agg #[.int .i64 x0, .int .i64 x1, .int .i64 x2]] W (RsQ T L C B W)) := hci
  have HCM : Hid (∀ W va vl vc, Rbk W va vl vc ts ls cs → ts.length ≤ 1048576 → ls.length ≤ 1048576 → cs.length ≤ 1048576 → Calls Tryd.prog 18 #[.agg (B3 va vl vc), .agg #[.int .i64 x0, .int .i64 x1, .int .i64 x2]] W (RsQ T L C B W)) := hcm
  clear hlen hci hcm hT hL hC hB
  obtain ⟨W0, hW0⟩ : ∃ W0, (w.alloc (Obj.cells (B3 va vl vc) 44)).alloc (Obj.cells #[.int .i64 x0, .int .i64 x1, .int .i64 x2] 52) = W0 := ⟨_, rfl⟩
  have hb0 : Below w.heap.size w W0 := by rw [← hW0]; exact ((Below.refl _ _).alloc (Nat.le_refl _) _).alloc (by simp) _
  have HB0 : Hid (Below w.heap.size w W0) := hb0
  have HK0 : Hid (Blk W0 w.heap.size (B3 va vl vc) 44) := by show Blk _ _ _ _; rw [← hW0]; exact (Blk.new _ _ _).alloc _
  have HT0 : Hid (Blk W0 (w.heap.size + 1) #[.int .i64 x0, .int .i64 x1, .int .i64 x2] 52) := by show Blk _ _ _ _; rw [← hW0]; exact Blk.newAt _ _ _ _ (by simp)
  have HG0 : Hid (HgV W0) := hg.below hb0
  clear hg
  have HH0 : Hid (Rbk W0 va vl vc ts ls cs) := h.below hb0
  obtain ⟨⟨a, cap, rfl, -⟩, ⟨a', cap', rfl, -⟩, ⟨a'', cap'', rfl, -⟩⟩ := h
  have c0 := HK0.out.cell 0
  have c1 := HK0.out.cell 1
  have c2 := HK0.out.cell 2
  simp at c0 c1 c2
  have HW0 : Hid (_ = W0) := hW0
  clear hb0 hW0
  go_enter Tryd.func6, Tryd.ntmps6
  go_wp2_with (fail)
  rw [HW0.out]
  refine (szBook_c _ _ _ ts ls cs W0 HH0.out).mono ?_
  rintro e w1 ⟨z, rfl, hz, b1⟩
  have HB1 : Hid (Below W0.heap.size W0 w1) := b1
  have HZ : Hid (¬ z < 0 → ts.length ≤ 1048576 ∧ ls.length ≤ 1048576 ∧ cs.length ≤ 1048576) := fun h => by omega
  clear b1 hz c0 c1 c2 HW0
  by_cases hneg : z < 0
  · go_wp2
    go_ret
    exact ⟨rfl, belowCall HB0.out HB1.out HB0.out.size⟩
  have HL : Hid (ts.length ≤ 1048576 ∧ ls.length ≤ 1048576 ∧ cs.length ≤ 1048576) := HZ.out hneg
  clear HZ
  have B_w1 : Hid (Below W0.heap.size W0 w1) := HB1.out
  have HLG : Hid (T.length ≤ 1048577 ∧ L.length ≤ 1048576 ∧ C.length ≤ 1048576) := HLN.out HL.out.1 HL.out.2.1 HL.out.2.2
  go_upto_region 5 with fail
  have HKA : Hid (Blk w1.drew w.heap.size (B3 (.slice a ts.length cap) (.slice a' ls.length cap') (.slice a'' cs.length cap'')) 44) := HK0.out.below B_w1.out.drew HK0.out.lt
  have HRB : Hid (Rbk w1.drew (.slice a ts.length cap) (.slice a' ls.length cap') (.slice a'' cs.length cap'') ts ls cs) := HH0.out.below B_w1.out.drew
  have HKP : Hid (Blk w1.drew (w.heap.size + 1) #[.int .i64 x0, .int .i64 x1, .int .i64 x2] 52) := HT0.out.below B_w1.out.drew HT0.out.lt
  have HGV : Hid (HgV w1.drew) := HG0.out.below B_w1.out.drew
  refine region_vals [undef, undef, undef, undef, undef, undef, undef, undef, undef, undef, undef] (RuS (w1.drew) (w.heap.size) (w.heap.size + 1) (.slice a ts.length cap) (.slice a' ls.length cap') (.slice a'' cs.length cap'') (x0) (x1) (x2) (ts) (ls) (cs) (T) (L) (C) (B)) (by kernel_rfl) (by kernel_rfl) ?_ ⟨?_, ?_, ?_, ?_, ?_, ?_, ?_, ?_, ?_, ?_, ?_, trivial⟩ ?_
  · refine ⟨_, _, _, _, _, _, _, _, _, _, _, undef, undef, undef, undef, undef, undef, 0, rfl, ⟨(Below.refl _ _), ?_, ?_, ?_, ?_, ?_, ?_, ?_, ?_, ?_, ?_, ?_, ?_, ?_, ?_, ?_, ?_, ?_, ?_, ?_, ?_⟩⟩ <;> simp
  · rintro d vs W ⟨v0, v1, v2, v3, v4, v5, v6, v7, v8, v9, v10, m0, m1, m2, q0, q1, q2, X, rfl, H⟩ hn hd
    simp only [putAll, Act.put, List.setIfInBounds_toArray, List.set_cons_succ, List.set_cons_zero]
    have KW := HKA.out.below H.bel HKA.out.lt
    have z0 := KW.cell 0
    have z1 := KW.cell 1
    have z2 := KW.cell 2
    simp at z0 z1 z2
    clear KW
    have HH1 : Hid (Ru (w1.drew) (w.heap.size) (w.heap.size + 1) (.slice a ts.length cap) (.slice a' ls.length cap') (.slice a'' cs.length cap'') (x0) (x1) (x2) (ts) (ls) (cs) (T) (L) (C) (B) d W v0 v1 v2 v3 v4 v5 v6 v7 v8 v9 v10 m0 m1 m2 q0 q1 q2 X) := H
    clear H
    have HHN : Hid (d 0 = false) := hn
    clear hd hn
    go_wp2
    have H0 := HH1.out
    have H := HH1.out
    have hn := HHN.out
    refine ⟨rfl, [.agg (B3 (.slice a ts.length cap) (.slice a' ls.length cap') (.slice a'' cs.length cap'')), v1, v2, v3, v4, v5, v6, v7, v8, v9, v10], ?_, .agg (B3 (.slice a ts.length cap) (.slice a' ls.length cap') (.slice a'' cs.length cap'')), v1, v2, v3, v4, v5, v6, v7, v8, v9, v10, m0, m1, m2, q0, q1, q2, X, rfl, ⟨H.bel, (fun _ => rfl), (by have h := H.f1; simpa [doneSet] using h), (by have h := H.f2; simpa [doneSet] using h), (by have h := H.f3; simpa [doneSet] using h), (by have h := H.f4; simpa [doneSet] using h), (by have h := H.f5; simpa [doneSet] using h), (by have h := H.f6; simpa [doneSet] using h), (by have h := H.f7; simpa [doneSet] using h), (by have h := H.f8; simpa [doneSet] using h), (by have h := H.f10; simpa [doneSet] using h), (by have h := H.o1; simpa [doneSet] using h), (by have h := H.o4; simpa [doneSet] using h), (by have h := H.k8; simpa [doneSet] using h), (by have h := H.x8; simpa [doneSet] using h), (by have h := H.k9; simpa [doneSet] using h), (by have h := H.g5_4; simpa [doneSet] using h), (by have h := H.g6_4; simpa [doneSet] using h), (by have h := H.g9_4; simpa [doneSet] using h), (by have h := H.g9_8; simpa [doneSet] using h), (by have h := H.g4_1; simpa [doneSet] using h)⟩⟩
    simp only [putAll, Act.put, List.setIfInBounds_toArray, List.set_cons_succ, List.set_cons_zero]
    all_goals rfl
  · rintro d vs W ⟨v0, v1, v2, v3, v4, v5, v6, v7, v8, v9, v10, m0, m1, m2, q0, q1, q2, X, rfl, H⟩ hn hd
    simp only [putAll, Act.put, List.setIfInBounds_toArray, List.set_cons_succ, List.set_cons_zero]
    have h0 : d 0 = true := hd { on := 0, ground := .data } (by simp) rfl
    have HRW := HRB.out.below H.bel
    obtain rfl := H.f0 h0
    have HH1 : Hid (Ru (w1.drew) (w.heap.size) (w.heap.size + 1) (.slice a ts.length cap) (.slice a' ls.length cap') (.slice a'' cs.length cap'') (x0) (x1) (x2) (ts) (ls) (cs) (T) (L) (C) (B) d W (.agg (B3 (.slice a ts.length cap) (.slice a' ls.length cap') (.slice a'' cs.length cap''))) v1 v2 v3 v4 v5 v6 v7 v8 v9 v10 m0 m1 m2 q0 q1 q2 X) := H
    clear H
    have HHN : Hid (d 1 = false) := hn
    have HHD : Hid (d 0 = true) := h0
    clear hd hn h0
    go_wp2_with (fail)
    refine (toBook_c _ _ _ ts ls cs W HRW HL.out.1 HL.out.2.1 HL.out.2.2).mono ?_
    rintro e W3 ⟨n0, n1, n2, rfl, o7, b7⟩
    have HB7 : Hid (Below W.heap.size W W3) := b7
    have HO7 : Hid (Rbk W3 n0 n1 n2 ts ls cs) := o7.rd
    clear b7 o7 HRW
    go_wp2
    have H0 := HH1.out
    have H := HH1.out.below HB7.out
    have hn := HHN.out
    have h0 := HHD.out
    refine ⟨rfl, [.agg (B3 (.slice a ts.length cap) (.slice a' ls.length cap') (.slice a'' cs.length cap'')), .agg (B3 n0 n1 n2), v2, v3, v4, v5, v6, v7, v8, v9, v10], ?_, .agg (B3 (.slice a ts.length cap) (.slice a' ls.length cap') (.slice a'' cs.length cap'')), .agg (B3 n0 n1 n2), v2, v3, v4, v5, v6, v7, v8, v9, v10, n0, n1, n2, q0, q1, q2, X, rfl, ⟨H.bel, (fun _ => rfl), (fun _ => rfl), (by have h := H.f2; simpa [doneSet] using h), (by have h := H.f3; simpa [doneSet] using h), (by have h := H.f4; simpa [doneSet] using h), (by have h := H.f5; simpa [doneSet] using h), (by have h := H.f6; simpa [doneSet] using h), (by have h := H.f7; simpa [doneSet] using h), (by have h := H.f8; simpa [doneSet] using h), (by have h := H.f10; simpa [doneSet] using h), (fun _ _ => HO7.out), (by have h := H.o4; simpa [doneSet] using h), (by have h := H.k8; simpa [doneSet] using h), (by have h := H.x8; simpa [doneSet] using h), (by have h := H.k9; simpa [doneSet] using h), (by have h := H.g5_4; simpa [doneSet] using h), (by have h := H.g6_4; simpa [doneSet] using h), (by have h := H.g9_4; simpa [doneSet] using h), (by have h := H.g9_8; simpa [doneSet] using h), (fun _ => by simp [doneSet])⟩⟩
    simp only [putAll, Act.put, List.setIfInBounds_toArray, List.set_cons_succ, List.set_cons_zero]
    all_goals rfl
  · rintro d vs W ⟨v0, v1, v2, v3, v4, v5, v6, v7, v8, v9, v10, m0, m1, m2, q0, q1, q2, X, rfl, H⟩ hn hd
    simp only [putAll, Act.put, List.setIfInBounds_toArray, List.set_cons_succ, List.set_cons_zero]
    have KW := HKP.out.below H.bel HKP.out.lt
    have z0 := KW.cell 0
    have z1 := KW.cell 1
    have z2 := KW.cell 2
    simp at z0 z1 z2
    clear KW
    have HH1 : Hid (Ru (w1.drew) (w.heap.size) (w.heap.size + 1) (.slice a ts.length cap) (.slice a' ls.length cap') (.slice a'' cs.length cap'') (x0) (x1) (x2) (ts) (ls) (cs) (T) (L) (C) (B) d W v0 v1 v2 v3 v4 v5 v6 v7 v8 v9 v10 m0 m1 m2 q0 q1 q2 X) := H
    clear H
    have HHN : Hid (d 2 = false) := hn
    clear hd hn
    go_wp2
    have H0 := HH1.out
    have H := HH1.out
    have hn := HHN.out
    refine ⟨rfl, [v0, v1, .agg #[.int .i64 x0, .int .i64 x1, .int .i64 x2], v3, v4, v5, v6, v7, v8, v9, v10], ?_, v0, v1, .agg #[.int .i64 x0, .int .i64 x1, .int .i64 x2], v3, v4, v5, v6, v7, v8, v9, v10, m0, m1, m2, q0, q1, q2, X, rfl, ⟨H.bel, (by have h := H.f0; simpa [doneSet] using h), (by have h := H.f1; simpa [doneSet] using h), (fun _ => rfl), (by have h := H.f3; simpa [doneSet] using h), (by have h := H.f4; simpa [doneSet] using h), (by have h := H.f5; simpa [doneSet] using h), (by have h := H.f6; simpa [doneSet] using h), (by have h := H.f7; simpa [doneSet] using h), (by have h := H.f8; simpa [doneSet] using h), (by have h := H.f10; simpa [doneSet] using h), (by have h := H.o1; simpa [doneSet] using h), (by have h := H.o4; simpa [doneSet] using h), (by have h := H.k8; simpa [doneSet] using h), (by have h := H.x8; simpa [doneSet] using h), (by have h := H.k9; simpa [doneSet] using h), (by have h := H.g5_4; simpa [doneSet] using h), (by have h := H.g6_4; simpa [doneSet] using h), (by have h := H.g9_4; simpa [doneSet] using h), (by have h := H.g9_8; simpa [doneSet] using h), (by have h := H.g4_1; simpa [doneSet] using h)⟩⟩
    simp only [putAll, Act.put, List.setIfInBounds_toArray, List.set_cons_succ, List.set_cons_zero]
    all_goals rfl
  · rintro d vs W ⟨v0, v1, v2, v3, v4, v5, v6, v7, v8, v9, v10, m0, m1, m2, q0, q1, q2, X, rfl, H⟩ hn hd
    simp only [putAll, Act.put, List.setIfInBounds_toArray, List.set_cons_succ, List.set_cons_zero]
    have h2 : d 2 = true := hd { on := 2, ground := .data } (by simp) rfl
    obtain rfl := H.f2 h2
    have HH1 : Hid (Ru (w1.drew) (w.heap.size) (w.heap.size + 1) (.slice a ts.length cap) (.slice a' ls.length cap') (.slice a'' cs.length cap'') (x0) (x1) (x2) (ts) (ls) (cs) (T) (L) (C) (B) d W v0 v1 (.agg #[.int .i64 x0, .int .i64 x1, .int .i64 x2]) v3 v4 v5 v6 v7 v8 v9 v10 m0 m1 m2 q0 q1 q2 X) := H
    clear H
    have HHN : Hid (d 3 = false) := hn
    have HHD : Hid (d 2 = true) := h2
    clear hd hn h2
    go_wp2_with (fail)
    refine (toTk_c x0 x1 x2 W).mono ?_
    rintro e W3 ⟨rfl, b7⟩
    have HB7 : Hid (Below W.heap.size W W3) := b7
    clear b7
    go_wp2
    have H0 := HH1.out
    have H := HH1.out.below HB7.out
    have hn := HHN.out
    have h2 := HHD.out
    refine ⟨rfl, [v0, v1, .agg #[.int .i64 x0, .int .i64 x1, .int .i64 x2], .agg #[.int .i64 x0, .int .i64 x1, .int .i64 x2], v4, v5, v6, v7, v8, v9, v10], ?_, v0, v1, .agg #[.int .i64 x0, .int .i64 x1, .int .i64 x2], .agg #[.int .i64 x0, .int .i64 x1, .int .i64 x2], v4, v5, v6, v7, v8, v9, v10, m0, m1, m2, q0, q1, q2, X, rfl, ⟨H.bel, (by have h := H.f0; simpa [doneSet] using h), (by have h := H.f1; simpa [doneSet] using h), (fun _ => rfl), (fun _ => rfl), (by have h := H.f4; simpa [doneSet] using h), (by have h := H.f5; simpa [doneSet] using h), (by have h := H.f6; simpa [doneSet] using h), (by have h := H.f7; simpa [doneSet] using h), (by have h := H.f8; simpa [doneSet] using h), (by have h := H.f10; simpa [doneSet] using h), (by have h := H.o1; simpa [doneSet] using h), (by have h := H.o4; simpa [doneSet] using h), (by have h := H.k8; simpa [doneSet] using h), (by have h := H.x8; simpa [doneSet] using h), (by have h := H.k9; simpa [doneSet] using h), (by have h := H.g5_4; simpa [doneSet] using h), (by have h := H.g6_4; simpa [doneSet] using h), (by have h := H.g9_4; simpa [doneSet] using h), (by have h := H.g9_8; simpa [doneSet] using h), (by have h := H.g4_1; simpa [doneSet] using h)⟩⟩
    simp only [putAll, Act.put, List.setIfInBounds_toArray, List.set_cons_succ, List.set_cons_zero]
    all_goals rfl
  · rintro d vs W ⟨v0, v1, v2, v3, v4, v5, v6, v7, v8, v9, v10, m0, m1, m2, q0, q1, q2, X, rfl, H⟩ hn hd
    simp only [putAll, Act.put, List.setIfInBounds_toArray, List.set_cons_succ, List.set_cons_zero]
    have h1 : d 1 = true := hd { on := 1, ground := .data } (by simp) rfl
    have h3 : d 3 = true := hd { on := 3, ground := .data } (by simp) rfl
    have HO1 : Hid (Rbk W m0 m1 m2 ts ls cs) := H.o1 h1 hn
    obtain rfl := H.f1 h1
    obtain rfl := H.f3 h3
    have HH1 : Hid (Ru (w1.drew) (w.heap.size) (w.heap.size + 1) (.slice a ts.length cap) (.slice a' ls.length cap') (.slice a'' cs.length cap'') (x0) (x1) (x2) (ts) (ls) (cs) (T) (L) (C) (B) d W v0 (.agg (B3 m0 m1 m2)) v2 (.agg #[.int .i64 x0, .int .i64 x1, .int .i64 x2]) v4 v5 v6 v7 v8 v9 v10 m0 m1 m2 q0 q1 q2 X) := H
    clear H
    have HHN : Hid (d 4 = false) := hn
    have HHD : Hid (d 1 = true ∧ d 3 = true) := ⟨h1, h3⟩
    clear hd hn h1 h3
    go_wp2_with (fail)
    refine (HCM.out W _ _ _ HO1.out HL.out.1 HL.out.2.1 HL.out.2.2).mono ?_
    rintro e W3 ⟨n0, n1, n2, rfl, o7, b7⟩
    have HB7 : Hid (Below W.heap.size W W3) := b7
    have HO7 : Hid (Obk W.heap.size W3 n0 n1 n2 T L C) := o7
    clear b7 o7
    go_wp2
    have H0 := HH1.out
    have H := HH1.out.below HB7.out
    have hn := HHN.out
    have h1 := HHD.out.1
    have h3 := HHD.out.2
    refine ⟨rfl, [v0, .agg (B3 m0 m1 m2), v2, .agg #[.int .i64 x0, .int .i64 x1, .int .i64 x2], .tuple #[.agg (B3 n0 n1 n2), .bool B], v5, v6, v7, v8, v9, v10], ?_, v0, .agg (B3 m0 m1 m2), v2, .agg #[.int .i64 x0, .int .i64 x1, .int .i64 x2], .tuple #[.agg (B3 n0 n1 n2), .bool B], v5, v6, v7, v8, v9, v10, m0, m1, m2, n0, n1, n2, X, rfl, ⟨H.bel, (by have h := H.f0; simpa [doneSet] using h), (fun _ => rfl), (by have h := H.f2; simpa [doneSet] using h), (fun _ => rfl), (fun _ => rfl), (fun e => absurd (H0.g5_4 (by simpa [doneSet] using e)) (by rw [hn]; simp)), (fun e => absurd (H0.g6_4 (by simpa [doneSet] using e)) (by rw [hn]; simp)), (by have h := H.f7; simpa [doneSet] using h), (by have h := H.f8; simpa [doneSet] using h), (by have h := H.f10; simpa [doneSet] using h), (fun _ e => absurd e (by simp [doneSet])), (fun _ => HO7.out.mono H0.bel.size), (by have h := H.k8; simpa [doneSet] using h), (by have h := H.x8; simpa [doneSet] using h), (fun e => absurd (H0.g9_4 (by simpa [doneSet] using e)) (by rw [hn]; simp)), (fun _ => by simp [doneSet]), (fun _ => by simp [doneSet]), (fun _ => by simp [doneSet]), (by have h := H.g9_8; simpa [doneSet] using h), (fun _ => by simpa [doneSet] using h1)⟩⟩
    simp only [putAll, Act.put, List.setIfInBounds_toArray, List.set_cons_succ, List.set_cons_zero]
    all_goals rfl
  · rintro d vs W ⟨v0, v1, v2, v3, v4, v5, v6, v7, v8, v9, v10, m0, m1, m2, q0, q1, q2, X, rfl, H⟩ hn hd
    simp only [putAll, Act.put, List.setIfInBounds_toArray, List.set_cons_succ, List.set_cons_zero]
    have h4 : d 4 = true := hd { on := 4, ground := .data } (by simp) rfl
    obtain rfl := H.f4 h4
    have HH1 : Hid (Ru (w1.drew) (w.heap.size) (w.heap.size + 1) (.slice a ts.length cap) (.slice a' ls.length cap') (.slice a'' cs.length cap'') (x0) (x1) (x2) (ts) (ls) (cs) (T) (L) (C) (B) d W v0 v1 v2 v3 (.tuple #[.agg (B3 q0 q1 q2), .bool B]) v5 v6 v7 v8 v9 v10 m0 m1 m2 q0 q1 q2 X) := H
    clear H
    have HHN : Hid (d 5 = false) := hn
    have HHD : Hid (d 4 = true) := h4
    clear hd hn h4
    go_wp2
    have H0 := HH1.out
    have H := HH1.out
    have hn := HHN.out
    have h4 := HHD.out
    refine ⟨rfl, [v0, v1, v2, v3, .tuple #[.agg (B3 q0 q1 q2), .bool B], .tuple #[.agg (B3 q0 q1 q2), .bool B], v6, v7, v8, v9, v10], ?_, v0, v1, v2, v3, .tuple #[.agg (B3 q0 q1 q2), .bool B], .tuple #[.agg (B3 q0 q1 q2), .bool B], v6, v7, v8, v9, v10, m0, m1, m2, q0, q1, q2, X, rfl, ⟨H.bel, (by have h := H.f0; simpa [doneSet] using h), (by have h := H.f1; simpa [doneSet] using h), (by have h := H.f2; simpa [doneSet] using h), (by have h := H.f3; simpa [doneSet] using h), (fun _ => rfl), (fun _ => rfl), (by have h := H.f6; simpa [doneSet] using h), (by have h := H.f7; simpa [doneSet] using h), (by have h := H.f8; simpa [doneSet] using h), (by have h := H.f10; simpa [doneSet] using h), (by have h := H.o1; simpa [doneSet] using h), (by have h := H.o4; simpa [doneSet] using h), (by have h := H.k8; simpa [doneSet] using h), (by have h := H.x8; simpa [doneSet] using h), (by have h := H.k9; simpa [doneSet] using h), (fun _ => by simpa [doneSet] using h4), (by have h := H.g6_4; simpa [doneSet] using h), (by have h := H.g9_4; simpa [doneSet] using h), (by have h := H.g9_8; simpa [doneSet] using h), (by have h := H.g4_1; simpa [doneSet] using h)⟩⟩
    simp only [putAll, Act.put, List.setIfInBounds_toArray, List.set_cons_succ, List.set_cons_zero]
    all_goals rfl
  · rintro d vs W ⟨v0, v1, v2, v3, v4, v5, v6, v7, v8, v9, v10, m0, m1, m2, q0, q1, q2, X, rfl, H⟩ hn hd
    simp only [putAll, Act.put, List.setIfInBounds_toArray, List.set_cons_succ, List.set_cons_zero]
    have h5 : d 5 = true := hd { on := 5, ground := .data } (by simp) rfl
    have h4 := H.g5_4 h5
    obtain rfl := H.f5 h5
    have HH1 : Hid (Ru (w1.drew) (w.heap.size) (w.heap.size + 1) (.slice a ts.length cap) (.slice a' ls.length cap') (.slice a'' cs.length cap'') (x0) (x1) (x2) (ts) (ls) (cs) (T) (L) (C) (B) d W v0 v1 v2 v3 v4 (.tuple #[.agg (B3 q0 q1 q2), .bool B]) v6 v7 v8 v9 v10 m0 m1 m2 q0 q1 q2 X) := H
    clear H
    have HHN : Hid (d 6 = false) := hn
    have HHD : Hid (d 5 = true) := h5
    clear hd hn h5
    go_wp2
    have H0 := HH1.out
    have H := HH1.out
    have hn := HHN.out
    have h5 := HHD.out
    refine ⟨rfl, [v0, v1, v2, v3, v4, .tuple #[.agg (B3 q0 q1 q2), .bool B], .agg (B3 q0 q1 q2), v7, v8, v9, v10], ?_, v0, v1, v2, v3, v4, .tuple #[.agg (B3 q0 q1 q2), .bool B], .agg (B3 q0 q1 q2), v7, v8, v9, v10, m0, m1, m2, q0, q1, q2, X, rfl, ⟨H.bel, (by have h := H.f0; simpa [doneSet] using h), (by have h := H.f1; simpa [doneSet] using h), (by have h := H.f2; simpa [doneSet] using h), (by have h := H.f3; simpa [doneSet] using h), (by have h := H.f4; simpa [doneSet] using h), (fun _ => rfl), (fun _ => rfl), (by have h := H.f7; simpa [doneSet] using h), (by have h := H.f8; simpa [doneSet] using h), (by have h := H.f10; simpa [doneSet] using h), (by have h := H.o1; simpa [doneSet] using h), (by have h := H.o4; simpa [doneSet] using h), (by have h := H.k8; simpa [doneSet] using h), (by have h := H.x8; simpa [doneSet] using h), (by have h := H.k9; simpa [doneSet] using h), (by have h := H.g5_4; simpa [doneSet] using h), (fun _ => by simpa [doneSet] using h4), (by have h := H.g9_4; simpa [doneSet] using h), (by have h := H.g9_8; simpa [doneSet] using h), (by have h := H.g4_1; simpa [doneSet] using h)⟩⟩
    simp only [putAll, Act.put, List.setIfInBounds_toArray, List.set_cons_succ, List.set_cons_zero]
    all_goals rfl
  · rintro d vs W ⟨v0, v1, v2, v3, v4, v5, v6, v7, v8, v9, v10, m0, m1, m2, q0, q1, q2, X, rfl, H⟩ hn hd
    simp only [putAll, Act.put, List.setIfInBounds_toArray, List.set_cons_succ, List.set_cons_zero]
    have h5 : d 5 = true := hd { on := 5, ground := .data } (by simp) rfl
    obtain rfl := H.f5 h5
    have HH1 : Hid (Ru (w1.drew) (w.heap.size) (w.heap.size + 1) (.slice a ts.length cap) (.slice a' ls.length cap') (.slice a'' cs.length cap'') (x0) (x1) (x2) (ts) (ls) (cs) (T) (L) (C) (B) d W v0 v1 v2 v3 v4 (.tuple #[.agg (B3 q0 q1 q2), .bool B]) v6 v7 v8 v9 v10 m0 m1 m2 q0 q1 q2 X) := H
    clear H
    have HHN : Hid (d 7 = false) := hn
    have HHD : Hid (d 5 = true) := h5
    clear hd hn h5
    go_wp2
    have H0 := HH1.out
    have H := HH1.out
    have hn := HHN.out
    have h5 := HHD.out
    refine ⟨rfl, [v0, v1, v2, v3, v4, .tuple #[.agg (B3 q0 q1 q2), .bool B], v6, .bool B, v8, v9, v10], ?_, v0, v1, v2, v3, v4, .tuple #[.agg (B3 q0 q1 q2), .bool B], v6, .bool B, v8, v9, v10, m0, m1, m2, q0, q1, q2, X, rfl, ⟨H.bel, (by have h := H.f0; simpa [doneSet] using h), (by have h := H.f1; simpa [doneSet] using h), (by have h := H.f2; simpa [doneSet] using h), (by have h := H.f3; simpa [doneSet] using h), (by have h := H.f4; simpa [doneSet] using h), (fun _ => rfl), (by have h := H.f6; simpa [doneSet] using h), (fun _ => rfl), (by have h := H.f8; simpa [doneSet] using h), (by have h := H.f10; simpa [doneSet] using h), (by have h := H.o1; simpa [doneSet] using h), (by have h := H.o4; simpa [doneSet] using h), (by have h := H.k8; simpa [doneSet] using h), (by have h := H.x8; simpa [doneSet] using h), (by have h := H.k9; simpa [doneSet] using h), (by have h := H.g5_4; simpa [doneSet] using h), (by have h := H.g6_4; simpa [doneSet] using h), (by have h := H.g9_4; simpa [doneSet] using h), (by have h := H.g9_8; simpa [doneSet] using h), (by have h := H.g4_1; simpa [doneSet] using h)⟩⟩
    simp only [putAll, Act.put, List.setIfInBounds_toArray, List.set_cons_succ, List.set_cons_zero]
    all_goals rfl
  · rintro d vs W ⟨v0, v1, v2, v3, v4, v5, v6, v7, v8, v9, v10, m0, m1, m2, q0, q1, q2, X, rfl, H⟩ hn hd
    simp only [putAll, Act.put, List.setIfInBounds_toArray, List.set_cons_succ, List.set_cons_zero]
    have HH1 : Hid (Ru (w1.drew) (w.heap.size) (w.heap.size + 1) (.slice a ts.length cap) (.slice a' ls.length cap') (.slice a'' cs.length cap'') (x0) (x1) (x2) (ts) (ls) (cs) (T) (L) (C) (B) d W v0 v1 v2 v3 v4 v5 v6 v7 v8 v9 v10 m0 m1 m2 q0 q1 q2 X) := H
    clear H
    have HHN : Hid (d 8 = false) := hn
    clear hd hn
    go_wp2
    have H0 := HH1.out
    have H := HH1.out.below ((Below.refl _ W).alloc (Nat.le_refl _) (.cells (B3 (.slice none 0 0) (.slice none 0 0) (.slice none 0 0)) 27))
    have hn := HHN.out
    refine ⟨rfl, [v0, v1, v2, v3, v4, v5, v6, v7, .pointer (some ⟨W.heap.size, 0, none⟩), v9, v10], ?_, v0, v1, v2, v3, v4, v5, v6, v7, .pointer (some ⟨W.heap.size, 0, none⟩), v9, v10, m0, m1, m2, q0, q1, q2, W.heap.size, rfl, ⟨H.bel, (by have h := H.f0; simpa [doneSet] using h), (by have h := H.f1; simpa [doneSet] using h), (by have h := H.f2; simpa [doneSet] using h), (by have h := H.f3; simpa [doneSet] using h), (by have h := H.f4; simpa [doneSet] using h), (by have h := H.f5; simpa [doneSet] using h), (by have h := H.f6; simpa [doneSet] using h), (by have h := H.f7; simpa [doneSet] using h), (fun _ => rfl), (by have h := H.f10; simpa [doneSet] using h), (by have h := H.o1; simpa [doneSet] using h), (by have h := H.o4; simpa [doneSet] using h), (fun _ _ => Blk.new _ _ _), (fun _ => H0.bel.size), (fun e => absurd (H0.g9_8 (by simpa [doneSet] using e)) (by rw [hn]; simp)), (by have h := H.g5_4; simpa [doneSet] using h), (by have h := H.g6_4; simpa [doneSet] using h), (by have h := H.g9_4; simpa [doneSet] using h), (fun _ => by simp [doneSet]), (by have h := H.g4_1; simpa [doneSet] using h)⟩⟩
    simp only [putAll, Act.put, List.setIfInBounds_toArray, List.set_cons_succ, List.set_cons_zero]
    all_goals rfl
  · rintro d vs W ⟨v0, v1, v2, v3, v4, v5, v6, v7, v8, v9, v10, m0, m1, m2, q0, q1, q2, X, rfl, H⟩ hn hd
    simp only [putAll, Act.put, List.setIfInBounds_toArray, List.set_cons_succ, List.set_cons_zero]
    have h8 : d 8 = true := hd { on := 8, ground := .data } (by simp) rfl
    have h6 : d 6 = true := hd { on := 6, ground := .data } (by simp) rfl
    have HK8 : Hid (Blk W X (B3 (.slice none 0 0) (.slice none 0 0) (.slice none 0 0)) 27) := H.k8 h8 hn
    have HX8 : Hid (w1.drew.heap.size ≤ X) := H.x8 h8
    have h4 : d 4 = true := H.g6_4 h6
    have HO4 : Hid (Obk w1.drew.heap.size W q0 q1 q2 T L C) := H.o4 h4
    have HH4 : Hid (d 4 = true) := h4
    obtain rfl := H.f8 h8
    obtain rfl := H.f6 h6
    have HH1 : Hid (Ru (w1.drew) (w.heap.size) (w.heap.size + 1) (.slice a ts.length cap) (.slice a' ls.length cap') (.slice a'' cs.length cap'') (x0) (x1) (x2) (ts) (ls) (cs) (T) (L) (C) (B) d W v0 v1 v2 v3 v4 v5 (.agg (B3 q0 q1 q2)) v7 (.pointer (some ⟨X, 0, none⟩)) v9 v10 m0 m1 m2 q0 q1 q2 X) := H
    clear H
    have HHN : Hid (d 9 = false) := hn
    have HHD : Hid (d 8 = true ∧ d 6 = true) := ⟨h8, h6⟩
    clear hd hn h8 h6
    go_wp2_with (refine wpList_store_row rfl 27 _ _ rfl X (B3 q0 q1 q2) rfl rfl 27 (B3 (.slice none 0 0) (.slice none 0 0) (.slice none 0 0)) HK8.out (by kernel_rfl) rfl (by obtain ⟨⟨_, _, _, e0⟩, ⟨_, _, _, e1⟩, ⟨_, _, _, e2⟩⟩ := obk_form HO4.out; rw [e0, e1, e2]; simp [Value.oneCell']) ?_)
    have H0 := HH1.out
    have H := HH1.out
    have hn := HHN.out
    have h8 := HHD.out.1
    have h6 := HHD.out.2
    refine ⟨rfl, [v0, v1, v2, v3, v4, v5, .agg (B3 q0 q1 q2), v7, .pointer (some ⟨X, 0, none⟩), undef, v10], ?_, v0, v1, v2, v3, v4, v5, .agg (B3 q0 q1 q2), v7, .pointer (some ⟨X, 0, none⟩), undef, v10, m0, m1, m2, q0, q1, q2, X, rfl, ⟨(belowRow H0.bel _ HX8.out _), (by have h := H.f0; simpa [doneSet] using h), (by have h := H.f1; simpa [doneSet] using h), (by have h := H.f2; simpa [doneSet] using h), (by have h := H.f3; simpa [doneSet] using h), (by have h := H.f4; simpa [doneSet] using h), (by have h := H.f5; simpa [doneSet] using h), (fun _ => rfl), (by have h := H.f7; simpa [doneSet] using h), (fun _ => rfl), (by have h := H.f10; simpa [doneSet] using h), (fun _ e => absurd HH4.out (by simp [doneSet] at e; rw [e]; simp)), (fun _ => obk_setRow HO4.out HK8.out), (fun _ e => absurd e (by simp [doneSet])), (by have h := H.x8; simpa [doneSet] using h), (fun _ => HK8.out.row _), (by have h := H.g5_4; simpa [doneSet] using h), (by have h := H.g6_4; simpa [doneSet] using h), (fun _ => by simpa [doneSet] using HH4.out), (fun _ => by simpa [doneSet] using h8), (by have h := H.g4_1; simpa [doneSet] using h)⟩⟩
    simp only [putAll, Act.put, List.setIfInBounds_toArray, List.set_cons_succ, List.set_cons_zero]
    all_goals rfl
  · rintro d vs W ⟨v0, v1, v2, v3, v4, v5, v6, v7, v8, v9, v10, m0, m1, m2, q0, q1, q2, X, rfl, H⟩ hn hd
    simp only [putAll, Act.put, List.setIfInBounds_toArray, List.set_cons_succ, List.set_cons_zero]
    have h7 : d 7 = true := hd { on := 7, ground := .data } (by simp) rfl
    obtain rfl := H.f7 h7
    have HH1 : Hid (Ru (w1.drew) (w.heap.size) (w.heap.size + 1) (.slice a ts.length cap) (.slice a' ls.length cap') (.slice a'' cs.length cap'') (x0) (x1) (x2) (ts) (ls) (cs) (T) (L) (C) (B) d W v0 v1 v2 v3 v4 v5 v6 (.bool B) v8 v9 v10 m0 m1 m2 q0 q1 q2 X) := H
    clear H
    have HHN : Hid (d 10 = false) := hn
    have HHD : Hid (d 7 = true) := h7
    clear hd hn h7
    go_wp2
    have H0 := HH1.out
    have H := HH1.out
    have hn := HHN.out
    have h7 := HHD.out
    refine ⟨rfl, [v0, v1, v2, v3, v4, v5, v6, .bool B, v8, v9, .bool B], ?_, v0, v1, v2, v3, v4, v5, v6, .bool B, v8, v9, .bool B, m0, m1, m2, q0, q1, q2, X, rfl, ⟨H.bel, (by have h := H.f0; simpa [doneSet] using h), (by have h := H.f1; simpa [doneSet] using h), (by have h := H.f2; simpa [doneSet] using h), (by have h := H.f3; simpa [doneSet] using h), (by have h := H.f4; simpa [doneSet] using h), (by have h := H.f5; simpa [doneSet] using h), (by have h := H.f6; simpa [doneSet] using h), (fun _ => rfl), (by have h := H.f8; simpa [doneSet] using h), (fun _ => rfl), (by have h := H.o1; simpa [doneSet] using h), (by have h := H.o4; simpa [doneSet] using h), (by have h := H.k8; simpa [doneSet] using h), (by have h := H.x8; simpa [doneSet] using h), (by have h := H.k9; simpa [doneSet] using h), (by have h := H.g5_4; simpa [doneSet] using h), (by have h := H.g6_4; simpa [doneSet] using h), (by have h := H.g9_4; simpa [doneSet] using h), (by have h := H.g9_8; simpa [doneSet] using h), (by have h := H.g4_1; simpa [doneSet] using h)⟩⟩
    simp only [putAll, Act.put, List.setIfInBounds_toArray, List.set_cons_succ, List.set_cons_zero]
    all_goals rfl
  rintro d vs w2 ⟨v0, v1, v2, v3, v4, v5, v6, v7, v8, v9, v10, m0, m1, m2, q0, q1, q2, X2, rfl, H⟩ hn
  obtain rfl := H.f0 (hn 0 (by decide))
  obtain rfl := H.f1 (hn 1 (by decide))
  obtain rfl := H.f2 (hn 2 (by decide))
  obtain rfl := H.f3 (hn 3 (by decide))
  obtain rfl := H.f4 (hn 4 (by decide))
  obtain rfl := H.f5 (hn 5 (by decide))
  obtain rfl := H.f6 (hn 6 (by decide))
  obtain rfl := H.f7 (hn 7 (by decide))
  obtain rfl := H.f8 (hn 8 (by decide))
  obtain rfl := H.f10 (hn 10 (by decide))
  have bE : Below w1.heap.size w1 w2 := (Below.refl _ w1).drew.trans H.bel
  have oE : Obk w1.heap.size w2 q0 q1 q2 T L C := H.o4 (hn 4 (by decide))
  have kE : Blk w2 X2 (B3 q0 q1 q2) 27 := H.k9 (hn 9 (by decide))
  have xE : w1.heap.size ≤ X2 := H.x8 (hn 8 (by decide))
  clear H hn
  obtain ⟨qa0, qan, qaq, rfl⟩ : ∃ a L c, q0 = .slice a L c := by obtain ⟨a, c, e⟩ := oE.1.form; exact ⟨a, _, c, e⟩
  obtain ⟨ql0, qln, qlq, rfl⟩ : ∃ a L c, q1 = .slice a L c := by obtain ⟨a, c, e⟩ := oE.2.1.form; exact ⟨a, _, c, e⟩
  obtain ⟨qc0, qcn, qcq, rfl⟩ : ∃ a L c, q2 = .slice a L c := by obtain ⟨a, c, e⟩ := oE.2.2.1.form; exact ⟨a, _, c, e⟩
  have B_w2 : Hid (Below W0.heap.size W0 w2) := belowCall B_w1.out bE B_w1.out.size
  have q_w2 : Hid (Obk w1.heap.size w2 (.slice qa0 qan qaq) (.slice ql0 qln qlq) (.slice qc0 qcn qcq) T L C) := oE
  have qB_w2 : Hid (Blk w2 X2 (B3 (.slice qa0 qan qaq) (.slice ql0 qln qlq) (.slice qc0 qcn qcq)) 27) := kE
  have HqX : Hid (w1.heap.size ≤ X2) := xE
  clear bE oE kE xE HKA HKP HRB HGV B_w1
  simp only [putAll, Act.put, List.setIfInBounds_toArray, List.set_cons_succ, List.set_cons_zero]
  have HM : Hid (Rbk w2 (.slice qa0 qan qaq) (.slice ql0 qln qlq) (.slice qc0 qcn qcq) T L C ∧ True) := ⟨q_w2.out.rd, trivial⟩
  have HMB : Hid (Blk w2 X2 (B3 (.slice qa0 qan qaq) (.slice ql0 qln qlq) (.slice qc0 qcn qcq)) 27) := qB_w2.out
  have HMS : Hid (W0.heap.size ≤ w2.heap.size) := B_w2.out.size
  have BM_w2 : Hid (Below w2.heap.size w2 w2) := Below.refl _ _
  have KA := HK0.out.below B_w2.out HK0.out.lt
  have c0 := KA.cell 0
  have c1 := KA.cell 1
  have c2 := KA.cell 2
  simp at c0 c1 c2
  go_wp2_with (fail)
  refine (toBook_c _ _ _ ts ls cs w2 (HH0.out.below B_w2.out) HL.out.1 HL.out.2.1 HL.out.2.2).mono ?_
  rintro e w3 ⟨u0, u1, u2, rfl, o, b⟩
  have B_w3 : Hid (Below W0.heap.size W0 w3) := belowCall B_w2.out b B_w2.out.size
  have BM_w3 : Hid (Below w2.heap.size w2 w3) := belowCall BM_w2.out b BM_w2.out.size
  clear b B_w2 BM_w2 q_w2 qB_w2 c0 c1 c2 KA
  have X_w3 : Hid (Obk w2.heap.size w3 u0 u1 u2 ts ls cs) := o
  clear o
  obtain ⟨e0, p0, hp0⟩ := X_w3.out.1.form
  obtain ⟨e1, p1, hp1⟩ := X_w3.out.2.1.form
  obtain ⟨e2, p2, hp2⟩ := X_w3.out.2.2.1.form
  subst hp0 hp1 hp2
  have XX_w3 : Hid (Obk w2.heap.size w3 (.slice e0 ts.length p0) (.slice e1 ls.length p1) (.slice e2 cs.length p2) ts ls cs) := X_w3.out
  have ba : Below w3.heap.size w3 (w3.alloc (Obj.cells (B3 (.slice e0 ts.length p0) (.slice e1 ls.length p1) (.slice e2 cs.length p2)) 27)) := (Below.refl _ _).alloc (Nat.le_refl _) _
  have kb : Blk (w3.alloc (Obj.cells (B3 (.slice e0 ts.length p0) (.slice e1 ls.length p1) (.slice e2 cs.length p2)) 27)) w3.heap.size (B3 (.slice e0 ts.length p0) (.slice e1 ls.length p1) (.slice e2 cs.length p2)) 27 := Blk.new _ _ _
  obtain ⟨X4, hX4⟩ : ∃ X, w3.heap.size = X := ⟨_, rfl⟩
  obtain ⟨W4, hW4⟩ : ∃ W, w3.alloc (Obj.cells (B3 (.slice e0 ts.length p0) (.slice e1 ls.length p1) (.slice e2 cs.length p2)) 27) = W := ⟨_, rfl⟩
  rw [hW4] at ba kb
  rw [hX4] at kb
  have B_W4 : Hid (Below W0.heap.size W0 W4) := belowCall B_w3.out ba B_w3.out.size
  have BM_W4 : Hid (Below w2.heap.size w2 W4) := belowCall BM_w3.out ba BM_w3.out.size
  have XX_W4 : Hid (Obk w2.heap.size W4 (.slice e0 ts.length p0) (.slice e1 ls.length p1) (.slice e2 cs.length p2) ts ls cs) := XX_w3.out.below ba
  have XB_W4 : Hid (Blk W4 X4 (B3 (.slice e0 ts.length p0) (.slice e1 ls.length p1) (.slice e2 cs.length p2)) 27) := kb
  clear ba kb B_w3 BM_w3 XX_w3
  have HSX : Hid (w2.heap.size ≤ W4.heap.size) := BM_W4.out.size
  have HXL : Hid (∀ k, InB (.slice e0 ts.length p0) (.slice e1 ls.length p1) (.slice e2 cs.length p2) k → w2.heap.size ≤ k ∧ k < W4.heap.size) := fun k hk => XX_W4.out.lt k hk
  go_upto_region 7 with fail
  try rw [hW4]
  try rw [hX4]
  have HKA : Hid (Blk W4.drew X4 (B3 (.slice e0 ts.length p0) (.slice e1 ls.length p1) (.slice e2 cs.length p2)) 27) := XB_W4.out
  have HRB : Hid (Rbk W4.drew (.slice e0 ts.length p0) (.slice e1 ls.length p1) (.slice e2 cs.length p2) ts ls cs) := XX_W4.out.rd.below (Below.refl _ _).drew
  have HKP : Hid (Blk W4.drew (w.heap.size + 1) #[.int .i64 x0, .int .i64 x1, .int .i64 x2] 52) := HT0.out.below B_W4.out.drew HT0.out.lt
  have HGV : Hid (HgV W4.drew) := HG0.out.below B_W4.out.drew
  clear X_w3 hW4 hX4
  refine region_vals [undef, undef, undef, undef, undef, undef, undef, undef, undef, undef] (RvS (W4.drew) (X4) (w.heap.size + 1) (.slice e0 ts.length p0) (.slice e1 ls.length p1) (.slice e2 cs.length p2) (x0) (x1) (x2) (ts) (ls) (cs) (T) (L) (C) (B)) (by kernel_rfl) (by kernel_rfl) ?_ ⟨?_, ?_, ?_, ?_, ?_, ?_, ?_, ?_, ?_, ?_, trivial⟩ ?_
  · refine ⟨_, _, _, _, _, _, _, _, _, _, undef, undef, undef, 0, rfl, ⟨(Below.refl _ _), ?_, ?_, ?_, ?_, ?_, ?_, ?_, ?_, ?_, ?_, ?_, ?_, ?_, ?_, ?_, ?_, ?_⟩⟩ <;> simp
  · rintro d vs W ⟨v0, v1, v2, v3, v4, v5, v6, v7, v8, v9, q0, q1, q2, X, rfl, H⟩ hn hd
    simp only [putAll, Act.put, List.setIfInBounds_toArray, List.set_cons_succ, List.set_cons_zero]
    have KW := HKA.out.below H.bel HKA.out.lt
    have z0 := KW.cell 0
    have z1 := KW.cell 1
    have z2 := KW.cell 2
    simp at z0 z1 z2
    clear KW
    have HH1 : Hid (Rv (W4.drew) (X4) (w.heap.size + 1) (.slice e0 ts.length p0) (.slice e1 ls.length p1) (.slice e2 cs.length p2) (x0) (x1) (x2) (ts) (ls) (cs) (T) (L) (C) (B) d W v0 v1 v2 v3 v4 v5 v6 v7 v8 v9 q0 q1 q2 X) := H
    clear H
    have HHN : Hid (d 0 = false) := hn
    clear hd hn
    go_wp2
    have H0 := HH1.out
    have H := HH1.out
    have hn := HHN.out
    refine ⟨rfl, [.agg (B3 (.slice e0 ts.length p0) (.slice e1 ls.length p1) (.slice e2 cs.length p2)), v1, v2, v3, v4, v5, v6, v7, v8, v9], ?_, .agg (B3 (.slice e0 ts.length p0) (.slice e1 ls.length p1) (.slice e2 cs.length p2)), v1, v2, v3, v4, v5, v6, v7, v8, v9, q0, q1, q2, X, rfl, ⟨H.bel, (fun _ => rfl), (by have h := H.f1; simpa [doneSet] using h), (by have h := H.f2; simpa [doneSet] using h), (by have h := H.f3; simpa [doneSet] using h), (by have h := H.f4; simpa [doneSet] using h), (by have h := H.f5; simpa [doneSet] using h), (by have h := H.f6; simpa [doneSet] using h), (by have h := H.f7; simpa [doneSet] using h), (by have h := H.f9; simpa [doneSet] using h), (by have h := H.o3; simpa [doneSet] using h), (by have h := H.k7; simpa [doneSet] using h), (by have h := H.x7; simpa [doneSet] using h), (by have h := H.k8; simpa [doneSet] using h), (by have h := H.g4_3; simpa [doneSet] using h), (by have h := H.g5_3; simpa [doneSet] using h), (by have h := H.g8_3; simpa [doneSet] using h), (by have h := H.g8_7; simpa [doneSet] using h)⟩⟩
    simp only [putAll, Act.put, List.setIfInBounds_toArray, List.set_cons_succ, List.set_cons_zero]
    all_goals rfl
  · rintro d vs W ⟨v0, v1, v2, v3, v4, v5, v6, v7, v8, v9, q0, q1, q2, X, rfl, H⟩ hn hd
    simp only [putAll, Act.put, List.setIfInBounds_toArray, List.set_cons_succ, List.set_cons_zero]
    have KW := HKP.out.below H.bel HKP.out.lt
    have z0 := KW.cell 0
    have z1 := KW.cell 1
    have z2 := KW.cell 2
    simp at z0 z1 z2
    clear KW
    have HH1 : Hid (Rv (W4.drew) (X4) (w.heap.size + 1) (.slice e0 ts.length p0) (.slice e1 ls.length p1) (.slice e2 cs.length p2) (x0) (x1) (x2) (ts) (ls) (cs) (T) (L) (C) (B) d W v0 v1 v2 v3 v4 v5 v6 v7 v8 v9 q0 q1 q2 X) := H
    clear H
    have HHN : Hid (d 1 = false) := hn
    clear hd hn
    go_wp2
    have H0 := HH1.out
    have H := HH1.out
    have hn := HHN.out
    refine ⟨rfl, [v0, .agg #[.int .i64 x0, .int .i64 x1, .int .i64 x2], v2, v3, v4, v5, v6, v7, v8, v9], ?_, v0, .agg #[.int .i64 x0, .int .i64 x1, .int .i64 x2], v2, v3, v4, v5, v6, v7, v8, v9, q0, q1, q2, X, rfl, ⟨H.bel, (by have h := H.f0; simpa [doneSet] using h), (fun _ => rfl), (by have h := H.f2; simpa [doneSet] using h), (by have h := H.f3; simpa [doneSet] using h), (by have h := H.f4; simpa [doneSet] using h), (by have h := H.f5; simpa [doneSet] using h), (by have h := H.f6; simpa [doneSet] using h), (by have h := H.f7; simpa [doneSet] using h), (by have h := H.f9; simpa [doneSet] using h), (by have h := H.o3; simpa [doneSet] using h), (by have h := H.k7; simpa [doneSet] using h), (by have h := H.x7; simpa [doneSet] using h), (by have h := H.k8; simpa [doneSet] using h), (by have h := H.g4_3; simpa [doneSet] using h), (by have h := H.g5_3; simpa [doneSet] using h), (by have h := H.g8_3; simpa [doneSet] using h), (by have h := H.g8_7; simpa [doneSet] using h)⟩⟩
    simp only [putAll, Act.put, List.setIfInBounds_toArray, List.set_cons_succ, List.set_cons_zero]
    all_goals rfl
  · rintro d vs W ⟨v0, v1, v2, v3, v4, v5, v6, v7, v8, v9, q0, q1, q2, X, rfl, H⟩ hn hd
    simp only [putAll, Act.put, List.setIfInBounds_toArray, List.set_cons_succ, List.set_cons_zero]
    have h1 : d 1 = true := hd { on := 1, ground := .data } (by simp) rfl
    obtain rfl := H.f1 h1
    have HH1 : Hid (Rv (W4.drew) (X4) (w.heap.size + 1) (.slice e0 ts.length p0) (.slice e1 ls.length p1) (.slice e2 cs.length p2) (x0) (x1) (x2) (ts) (ls) (cs) (T) (L) (C) (B) d W v0 (.agg #[.int .i64 x0, .int .i64 x1, .int .i64 x2]) v2 v3 v4 v5 v6 v7 v8 v9 q0 q1 q2 X) := H
    clear H
    have HHN : Hid (d 2 = false) := hn
    have HHD : Hid (d 1 = true) := h1
    clear hd hn h1
    go_wp2_with (fail)
    refine (toTk_c x0 x1 x2 W).mono ?_
    rintro e W3 ⟨rfl, b7⟩
    have HB7 : Hid (Below W.heap.size W W3) := b7
    clear b7
    go_wp2
    have H0 := HH1.out
    have H := HH1.out.below HB7.out
    have hn := HHN.out
    have h1 := HHD.out
    refine ⟨rfl, [v0, .agg #[.int .i64 x0, .int .i64 x1, .int .i64 x2], .agg #[.int .i64 x0, .int .i64 x1, .int .i64 x2], v3, v4, v5, v6, v7, v8, v9], ?_, v0, .agg #[.int .i64 x0, .int .i64 x1, .int .i64 x2], .agg #[.int .i64 x0, .int .i64 x1, .int .i64 x2], v3, v4, v5, v6, v7, v8, v9, q0, q1, q2, X, rfl, ⟨H.bel, (by have h := H.f0; simpa [doneSet] using h), (fun _ => rfl), (fun _ => rfl), (by have h := H.f3; simpa [doneSet] using h), (by have h := H.f4; simpa [doneSet] using h), (by have h := H.f5; simpa [doneSet] using h), (by have h := H.f6; simpa [doneSet] using h), (by have h := H.f7; simpa [doneSet] using h), (by have h := H.f9; simpa [doneSet] using h), (by have h := H.o3; simpa [doneSet] using h), (by have h := H.k7; simpa [doneSet] using h), (by have h := H.x7; simpa [doneSet] using h), (by have h := H.k8; simpa [doneSet] using h), (by have h := H.g4_3; simpa [doneSet] using h), (by have h := H.g5_3; simpa [doneSet] using h), (by have h := H.g8_3; simpa [doneSet] using h), (by have h := H.g8_7; simpa [doneSet] using h)⟩⟩
    simp only [putAll, Act.put, List.setIfInBounds_toArray, List.set_cons_succ, List.set_cons_zero]
    all_goals rfl
  · rintro d vs W ⟨v0, v1, v2, v3, v4, v5, v6, v7, v8, v9, q0, q1, q2, X, rfl, H⟩ hn hd
    simp only [putAll, Act.put, List.setIfInBounds_toArray, List.set_cons_succ, List.set_cons_zero]
    have h0 : d 0 = true := hd { on := 0, ground := .data } (by simp) rfl
    have h2 : d 2 = true := hd { on := 2, ground := .data } (by simp) rfl
    have HO1 := HRB.out.below H.bel
    have HGW : Hid (HgV W) := HGV.out.below H.bel
    obtain rfl := H.f0 h0
    obtain rfl := H.f2 h2
    have HH1 : Hid (Rv (W4.drew) (X4) (w.heap.size + 1) (.slice e0 ts.length p0) (.slice e1 ls.length p1) (.slice e2 cs.length p2) (x0) (x1) (x2) (ts) (ls) (cs) (T) (L) (C) (B) d W (.agg (B3 (.slice e0 ts.length p0) (.slice e1 ls.length p1) (.slice e2 cs.length p2))) v1 (.agg #[.int .i64 x0, .int .i64 x1, .int .i64 x2]) v3 v4 v5 v6 v7 v8 v9 q0 q1 q2 X) := H
    clear H
    have HHN : Hid (d 3 = false) := hn
    have HHD : Hid (d 0 = true ∧ d 2 = true) := ⟨h0, h2⟩
    clear hd hn h0 h2
    go_wp2_with (fail)
    refine (HCI.out W _ _ _ HGW.out HO1 HL.out.1 HL.out.2.1 HL.out.2.2).mono ?_
    rintro e W3 ⟨n0, n1, n2, rfl, o7, b7⟩
    have HB7 : Hid (Below W.heap.size W W3) := b7
    have HO7 : Hid (Obk W.heap.size W3 n0 n1 n2 T L C) := o7
    clear b7 o7 HO1
    go_wp2
    have H0 := HH1.out
    have H := HH1.out.below HB7.out
    have hn := HHN.out
    have h0 := HHD.out.1
    have h2 := HHD.out.2
    refine ⟨rfl, [.agg (B3 (.slice e0 ts.length p0) (.slice e1 ls.length p1) (.slice e2 cs.length p2)), v1, .agg #[.int .i64 x0, .int .i64 x1, .int .i64 x2], .tuple #[.agg (B3 n0 n1 n2), .bool B], v4, v5, v6, v7, v8, v9], ?_, .agg (B3 (.slice e0 ts.length p0) (.slice e1 ls.length p1) (.slice e2 cs.length p2)), v1, .agg #[.int .i64 x0, .int .i64 x1, .int .i64 x2], .tuple #[.agg (B3 n0 n1 n2), .bool B], v4, v5, v6, v7, v8, v9, n0, n1, n2, X, rfl, ⟨H.bel, (fun _ => rfl), (by have h := H.f1; simpa [doneSet] using h), (fun _ => rfl), (fun _ => rfl), (fun e => absurd (H0.g4_3 (by simpa [doneSet] using e)) (by rw [hn]; simp)), (fun e => absurd (H0.g5_3 (by simpa [doneSet] using e)) (by rw [hn]; simp)), (by have h := H.f6; simpa [doneSet] using h), (by have h := H.f7; simpa [doneSet] using h), (by have h := H.f9; simpa [doneSet] using h), (fun _ => HO7.out.mono H0.bel.size), (by have h := H.k7; simpa [doneSet] using h), (by have h := H.x7; simpa [doneSet] using h), (fun e => absurd (H0.g8_3 (by simpa [doneSet] using e)) (by rw [hn]; simp)), (fun _ => by simp [doneSet]), (fun _ => by simp [doneSet]), (fun _ => by simp [doneSet]), (by have h := H.g8_7; simpa [doneSet] using h)⟩⟩
    simp only [putAll, Act.put, List.setIfInBounds_toArray, List.set_cons_succ, List.set_cons_zero]
    all_goals rfl
  · rintro d vs W ⟨v0, v1, v2, v3, v4, v5, v6, v7, v8, v9, q0, q1, q2, X, rfl, H⟩ hn hd
    simp only [putAll, Act.put, List.setIfInBounds_toArray, List.set_cons_succ, List.set_cons_zero]
    have h3 : d 3 = true := hd { on := 3, ground := .data } (by simp) rfl
    obtain rfl := H.f3 h3
    have HH1 : Hid (Rv (W4.drew) (X4) (w.heap.size + 1) (.slice e0 ts.length p0) (.slice e1 ls.length p1) (.slice e2 cs.length p2) (x0) (x1) (x2) (ts) (ls) (cs) (T) (L) (C) (B) d W v0 v1 v2 (.tuple #[.agg (B3 q0 q1 q2), .bool B]) v4 v5 v6 v7 v8 v9 q0 q1 q2 X) := H
    clear H
    have HHN : Hid (d 4 = false) := hn
    have HHD : Hid (d 3 = true) := h3
    clear hd hn h3
    go_wp2
    have H0 := HH1.out
    have H := HH1.out
    have hn := HHN.out
    have h3 := HHD.out
    refine ⟨rfl, [v0, v1, v2, .tuple #[.agg (B3 q0 q1 q2), .bool B], .tuple #[.agg (B3 q0 q1 q2), .bool B], v5, v6, v7, v8, v9], ?_, v0, v1, v2, .tuple #[.agg (B3 q0 q1 q2), .bool B], .tuple #[.agg (B3 q0 q1 q2), .bool B], v5, v6, v7, v8, v9, q0, q1, q2, X, rfl, ⟨H.bel, (by have h := H.f0; simpa [doneSet] using h), (by have h := H.f1; simpa [doneSet] using h), (by have h := H.f2; simpa [doneSet] using h), (fun _ => rfl), (fun _ => rfl), (by have h := H.f5; simpa [doneSet] using h), (by have h := H.f6; simpa [doneSet] using h), (by have h := H.f7; simpa [doneSet] using h), (by have h := H.f9; simpa [doneSet] using h), (by have h := H.o3; simpa [doneSet] using h), (by have h := H.k7; simpa [doneSet] using h), (by have h := H.x7; simpa [doneSet] using h), (by have h := H.k8; simpa [doneSet] using h), (fun _ => by simpa [doneSet] using h3), (by have h := H.g5_3; simpa [doneSet] using h), (by have h := H.g8_3; simpa [doneSet] using h), (by have h := H.g8_7; simpa [doneSet] using h)⟩⟩
    simp only [putAll, Act.put, List.setIfInBounds_toArray, List.set_cons_succ, List.set_cons_zero]
    all_goals rfl
  · rintro d vs W ⟨v0, v1, v2, v3, v4, v5, v6, v7, v8, v9, q0, q1, q2, X, rfl, H⟩ hn hd
    simp only [putAll, Act.put, List.setIfInBounds_toArray, List.set_cons_succ, List.set_cons_zero]
    have h4 : d 4 = true := hd { on := 4, ground := .data } (by simp) rfl
    have h3 := H.g4_3 h4
    obtain rfl := H.f4 h4
    have HH1 : Hid (Rv (W4.drew) (X4) (w.heap.size + 1) (.slice e0 ts.length p0) (.slice e1 ls.length p1) (.slice e2 cs.length p2) (x0) (x1) (x2) (ts) (ls) (cs) (T) (L) (C) (B) d W v0 v1 v2 v3 (.tuple #[.agg (B3 q0 q1 q2), .bool B]) v5 v6 v7 v8 v9 q0 q1 q2 X) := H
    clear H
    have HHN : Hid (d 5 = false) := hn
    have HHD : Hid (d 4 = true) := h4
    clear hd hn h4
    go_wp2
    have H0 := HH1.out
    have H := HH1.out
    have hn := HHN.out
    have h4 := HHD.out
    refine ⟨rfl, [v0, v1, v2, v3, .tuple #[.agg (B3 q0 q1 q2), .bool B], .agg (B3 q0 q1 q2), v6, v7, v8, v9], ?_, v0, v1, v2, v3, .tuple #[.agg (B3 q0 q1 q2), .bool B], .agg (B3 q0 q1 q2), v6, v7, v8, v9, q0, q1, q2, X, rfl, ⟨H.bel, (by have h := H.f0; simpa [doneSet] using h), (by have h := H.f1; simpa [doneSet] using h), (by have h := H.f2; simpa [doneSet] using h), (by have h := H.f3; simpa [doneSet] using h), (fun _ => rfl), (fun _ => rfl), (by have h := H.f6; simpa [doneSet] using h), (by have h := H.f7; simpa [doneSet] using h), (by have h := H.f9; simpa [doneSet] using h), (by have h := H.o3; simpa [doneSet] using h), (by have h := H.k7; simpa [doneSet] using h), (by have h := H.x7; simpa [doneSet] using h), (by have h := H.k8; simpa [doneSet] using h), (by have h := H.g4_3; simpa [doneSet] using h), (fun _ => by simpa [doneSet] using h3), (by have h := H.g8_3; simpa [doneSet] using h), (by have h := H.g8_7; simpa [doneSet] using h)⟩⟩
    simp only [putAll, Act.put, List.setIfInBounds_toArray, List.set_cons_succ, List.set_cons_zero]
    all_goals rfl
  · rintro d vs W ⟨v0, v1, v2, v3, v4, v5, v6, v7, v8, v9, q0, q1, q2, X, rfl, H⟩ hn hd
    simp only [putAll, Act.put, List.setIfInBounds_toArray, List.set_cons_succ, List.set_cons_zero]
    have h4 : d 4 = true := hd { on := 4, ground := .data } (by simp) rfl
    obtain rfl := H.f4 h4
    have HH1 : Hid (Rv (W4.drew) (X4) (w.heap.size + 1) (.slice e0 ts.length p0) (.slice e1 ls.length p1) (.slice e2 cs.length p2) (x0) (x1) (x2) (ts) (ls) (cs) (T) (L) (C) (B) d W v0 v1 v2 v3 (.tuple #[.agg (B3 q0 q1 q2), .bool B]) v5 v6 v7 v8 v9 q0 q1 q2 X) := H
    clear H
    have HHN : Hid (d 6 = false) := hn
    have HHD : Hid (d 4 = true) := h4
    clear hd hn h4
    go_wp2
    have H0 := HH1.out
    have H := HH1.out
    have hn := HHN.out
    have h4 := HHD.out
    refine ⟨rfl, [v0, v1, v2, v3, .tuple #[.agg (B3 q0 q1 q2), .bool B], v5, .bool B, v7, v8, v9], ?_, v0, v1, v2, v3, .tuple #[.agg (B3 q0 q1 q2), .bool B], v5, .bool B, v7, v8, v9, q0, q1, q2, X, rfl, ⟨H.bel, (by have h := H.f0; simpa [doneSet] using h), (by have h := H.f1; simpa [doneSet] using h), (by have h := H.f2; simpa [doneSet] using h), (by have h := H.f3; simpa [doneSet] using h), (fun _ => rfl), (by have h := H.f5; simpa [doneSet] using h), (fun _ => rfl), (by have h := H.f7; simpa [doneSet] using h), (by have h := H.f9; simpa [doneSet] using h), (by have h := H.o3; simpa [doneSet] using h), (by have h := H.k7; simpa [doneSet] using h), (by have h := H.x7; simpa [doneSet] using h), (by have h := H.k8; simpa [doneSet] using h), (by have h := H.g4_3; simpa [doneSet] using h), (by have h := H.g5_3; simpa [doneSet] using h), (by have h := H.g8_3; simpa [doneSet] using h), (by have h := H.g8_7; simpa [doneSet] using h)⟩⟩
    simp only [putAll, Act.put, List.setIfInBounds_toArray, List.set_cons_succ, List.set_cons_zero]
    all_goals rfl
  · rintro d vs W ⟨v0, v1, v2, v3, v4, v5, v6, v7, v8, v9, q0, q1, q2, X, rfl, H⟩ hn hd
    simp only [putAll, Act.put, List.setIfInBounds_toArray, List.set_cons_succ, List.set_cons_zero]
    have HH1 : Hid (Rv (W4.drew) (X4) (w.heap.size + 1) (.slice e0 ts.length p0) (.slice e1 ls.length p1) (.slice e2 cs.length p2) (x0) (x1) (x2) (ts) (ls) (cs) (T) (L) (C) (B) d W v0 v1 v2 v3 v4 v5 v6 v7 v8 v9 q0 q1 q2 X) := H
    clear H
    have HHN : Hid (d 7 = false) := hn
    clear hd hn
    go_wp2
    have H0 := HH1.out
    have H := HH1.out.below ((Below.refl _ W).alloc (Nat.le_refl _) (.cells (B3 (.slice none 0 0) (.slice none 0 0) (.slice none 0 0)) 27))
    have hn := HHN.out
    refine ⟨rfl, [v0, v1, v2, v3, v4, v5, v6, .pointer (some ⟨W.heap.size, 0, none⟩), v8, v9], ?_, v0, v1, v2, v3, v4, v5, v6, .pointer (some ⟨W.heap.size, 0, none⟩), v8, v9, q0, q1, q2, W.heap.size, rfl, ⟨H.bel, (by have h := H.f0; simpa [doneSet] using h), (by have h := H.f1; simpa [doneSet] using h), (by have h := H.f2; simpa [doneSet] using h), (by have h := H.f3; simpa [doneSet] using h), (by have h := H.f4; simpa [doneSet] using h), (by have h := H.f5; simpa [doneSet] using h), (by have h := H.f6; simpa [doneSet] using h), (fun _ => rfl), (by have h := H.f9; simpa [doneSet] using h), (by have h := H.o3; simpa [doneSet] using h), (fun _ _ => Blk.new _ _ _), (fun _ => H0.bel.size), (fun e => absurd (H0.g8_7 (by simpa [doneSet] using e)) (by rw [hn]; simp)), (by have h := H.g4_3; simpa [doneSet] using h), (by have h := H.g5_3; simpa [doneSet] using h), (by have h := H.g8_3; simpa [doneSet] using h), (fun _ => by simp [doneSet])⟩⟩
    simp only [putAll, Act.put, List.setIfInBounds_toArray, List.set_cons_succ, List.set_cons_zero]
    all_goals rfl
  · rintro d vs W ⟨v0, v1, v2, v3, v4, v5, v6, v7, v8, v9, q0, q1, q2, X, rfl, H⟩ hn hd
    simp only [putAll, Act.put, List.setIfInBounds_toArray, List.set_cons_succ, List.set_cons_zero]
    have h7 : d 7 = true := hd { on := 7, ground := .data } (by simp) rfl
    have h5 : d 5 = true := hd { on := 5, ground := .data } (by simp) rfl
    have HK8 : Hid (Blk W X (B3 (.slice none 0 0) (.slice none 0 0) (.slice none 0 0)) 27) := H.k7 h7 hn
    have HX8 : Hid (W4.drew.heap.size ≤ X) := H.x7 h7
    have h3 : d 3 = true := H.g5_3 h5
    have HO4 : Hid (Obk W4.drew.heap.size W q0 q1 q2 T L C) := H.o3 h3
    have HH4 : Hid (d 3 = true) := h3
    obtain rfl := H.f7 h7
    obtain rfl := H.f5 h5
    have HH1 : Hid (Rv (W4.drew) (X4) (w.heap.size + 1) (.slice e0 ts.length p0) (.slice e1 ls.length p1) (.slice e2 cs.length p2) (x0) (x1) (x2) (ts) (ls) (cs) (T) (L) (C) (B) d W v0 v1 v2 v3 v4 (.agg (B3 q0 q1 q2)) v6 (.pointer (some ⟨X, 0, none⟩)) v8 v9 q0 q1 q2 X) := H
    clear H
    have HHN : Hid (d 8 = false) := hn
    have HHD : Hid (d 7 = true ∧ d 5 = true) := ⟨h7, h5⟩
    clear hd hn h7 h5
    go_wp2_with (refine wpList_store_row rfl 27 _ _ rfl X (B3 q0 q1 q2) rfl rfl 27 (B3 (.slice none 0 0) (.slice none 0 0) (.slice none 0 0)) HK8.out (by kernel_rfl) rfl (by obtain ⟨⟨_, _, _, e0⟩, ⟨_, _, _, e1⟩, ⟨_, _, _, e2⟩⟩ := obk_form HO4.out; rw [e0, e1, e2]; simp [Value.oneCell']) ?_)
    have H0 := HH1.out
    have H := HH1.out
    have hn := HHN.out
    have h7 := HHD.out.1
    have h5 := HHD.out.2
    refine ⟨rfl, [v0, v1, v2, v3, v4, .agg (B3 q0 q1 q2), v6, .pointer (some ⟨X, 0, none⟩), undef, v9], ?_, v0, v1, v2, v3, v4, .agg (B3 q0 q1 q2), v6, .pointer (some ⟨X, 0, none⟩), undef, v9, q0, q1, q2, X, rfl, ⟨(belowRow H0.bel _ HX8.out _), (by have h := H.f0; simpa [doneSet] using h), (by have h := H.f1; simpa [doneSet] using h), (by have h := H.f2; simpa [doneSet] using h), (by have h := H.f3; simpa [doneSet] using h), (by have h := H.f4; simpa [doneSet] using h), (fun _ => rfl), (by have h := H.f6; simpa [doneSet] using h), (fun _ => rfl), (by have h := H.f9; simpa [doneSet] using h), (fun _ => obk_setRow HO4.out HK8.out), (fun _ e => absurd e (by simp [doneSet])), (by have h := H.x7; simpa [doneSet] using h), (fun _ => HK8.out.row _), (by have h := H.g4_3; simpa [doneSet] using h), (by have h := H.g5_3; simpa [doneSet] using h), (fun _ => by simpa [doneSet] using HH4.out), (fun _ => by simpa [doneSet] using h7)⟩⟩
    simp only [putAll, Act.put, List.setIfInBounds_toArray, List.set_cons_succ, List.set_cons_zero]
    all_goals rfl
  · rintro d vs W ⟨v0, v1, v2, v3, v4, v5, v6, v7, v8, v9, q0, q1, q2, X, rfl, H⟩ hn hd
    simp only [putAll, Act.put, List.setIfInBounds_toArray, List.set_cons_succ, List.set_cons_zero]
    have h6 : d 6 = true := hd { on := 6, ground := .data } (by simp) rfl
    obtain rfl := H.f6 h6
    have HH1 : Hid (Rv (W4.drew) (X4) (w.heap.size + 1) (.slice e0 ts.length p0) (.slice e1 ls.length p1) (.slice e2 cs.length p2) (x0) (x1) (x2) (ts) (ls) (cs) (T) (L) (C) (B) d W v0 v1 v2 v3 v4 v5 (.bool B) v7 v8 v9 q0 q1 q2 X) := H
    clear H
    have HHN : Hid (d 9 = false) := hn
    have HHD : Hid (d 6 = true) := h6
    clear hd hn h6
    go_wp2
    have H0 := HH1.out
    have H := HH1.out
    have hn := HHN.out
    have h6 := HHD.out
    refine ⟨rfl, [v0, v1, v2, v3, v4, v5, .bool B, v7, v8, .bool B], ?_, v0, v1, v2, v3, v4, v5, .bool B, v7, v8, .bool B, q0, q1, q2, X, rfl, ⟨H.bel, (by have h := H.f0; simpa [doneSet] using h), (by have h := H.f1; simpa [doneSet] using h), (by have h := H.f2; simpa [doneSet] using h), (by have h := H.f3; simpa [doneSet] using h), (by have h := H.f4; simpa [doneSet] using h), (by have h := H.f5; simpa [doneSet] using h), (fun _ => rfl), (by have h := H.f7; simpa [doneSet] using h), (fun _ => rfl), (by have h := H.o3; simpa [doneSet] using h), (by have h := H.k7; simpa [doneSet] using h), (by have h := H.x7; simpa [doneSet] using h), (by have h := H.k8; simpa [doneSet] using h), (by have h := H.g4_3; simpa [doneSet] using h), (by have h := H.g5_3; simpa [doneSet] using h), (by have h := H.g8_3; simpa [doneSet] using h), (by have h := H.g8_7; simpa [doneSet] using h)⟩⟩
    simp only [putAll, Act.put, List.setIfInBounds_toArray, List.set_cons_succ, List.set_cons_zero]
    all_goals rfl
  rintro d vs w5 ⟨v0, v1, v2, v3, v4, v5, v6, v7, v8, v9, q0, q1, q2, X5, rfl, H⟩ hn
  obtain rfl := H.f0 (hn 0 (by decide))
  obtain rfl := H.f1 (hn 1 (by decide))
  obtain rfl := H.f2 (hn 2 (by decide))
  obtain rfl := H.f3 (hn 3 (by decide))
  obtain rfl := H.f4 (hn 4 (by decide))
  obtain rfl := H.f5 (hn 5 (by decide))
  obtain rfl := H.f6 (hn 6 (by decide))
  obtain rfl := H.f7 (hn 7 (by decide))
  obtain rfl := H.f9 (hn 9 (by decide))
  have bE : Below W4.heap.size W4 w5 := (Below.refl _ W4).drew.trans H.bel
  have oE : Obk W4.heap.size w5 q0 q1 q2 T L C := H.o3 (hn 3 (by decide))
  have kE : Blk w5 X5 (B3 q0 q1 q2) 27 := H.k8 (hn 8 (by decide))
  have xE : W4.heap.size ≤ X5 := H.x7 (hn 7 (by decide))
  clear H hn
  obtain ⟨ga0, gan, gaq, rfl⟩ : ∃ a L c, q0 = .slice a L c := by obtain ⟨a, c, e⟩ := oE.1.form; exact ⟨a, _, c, e⟩
  obtain ⟨gl0, gln, glq, rfl⟩ : ∃ a L c, q1 = .slice a L c := by obtain ⟨a, c, e⟩ := oE.2.1.form; exact ⟨a, _, c, e⟩
  obtain ⟨gc0, gcn, gcq, rfl⟩ : ∃ a L c, q2 = .slice a L c := by obtain ⟨a, c, e⟩ := oE.2.2.1.form; exact ⟨a, _, c, e⟩
  have B_w5 : Hid (Below W0.heap.size W0 w5) := belowCall B_W4.out bE B_W4.out.size
  have BM_w5 : Hid (Below w2.heap.size w2 w5) := belowCall BM_W4.out bE BM_W4.out.size
  have XX_w5 : Hid (Obk w2.heap.size w5 (.slice e0 ts.length p0) (.slice e1 ls.length p1) (.slice e2 cs.length p2) ts ls cs) := XX_W4.out.below bE
  have XB_w5 : Hid (Blk w5 X4 (B3 (.slice e0 ts.length p0) (.slice e1 ls.length p1) (.slice e2 cs.length p2)) 27) := XB_W4.out.below bE XB_W4.out.lt
  have g_w5 : Hid (Obk W4.heap.size w5 (.slice ga0 gan gaq) (.slice gl0 gln glq) (.slice gc0 gcn gcq) T L C) := oE
  have gB_w5 : Hid (Blk w5 X5 (B3 (.slice ga0 gan gaq) (.slice gl0 gln glq) (.slice gc0 gcn gcq)) 27) := kE
  have HgX : Hid (W4.heap.size ≤ X5) := xE
  clear bE oE kE xE HKA HKP HRB HGV B_W4 BM_W4 XX_W4 XB_W4
  simp only [putAll, Act.put, List.setIfInBounds_toArray, List.set_cons_succ, List.set_cons_zero]
  have HGX : Hid (W4.heap.size ≤ X5) := HgX.out
  have KM := HMB.out.below BM_w5.out HMB.out.lt
  have m0 := KM.cell 0
  have m1 := KM.cell 1
  have m2 := KM.cell 2
  simp at m0 m1 m2
  have t0 := gB_w5.out.cell 0
  have t1 := gB_w5.out.cell 1
  have t2 := gB_w5.out.cell 2
  simp at t0 t1 t2
  go_wp2_with (fail)
  refine (eqBook_c _ _ _ _ _ _ T T L C L C w5 g_w5.out.rd (HM.out.1.below BM_w5.out)).mono ?_
  rintro e w6 ⟨rfl, b⟩
  have B_w6 : Hid (Below W0.heap.size W0 w6) := belowCall B_w5.out b B_w5.out.size
  have BM_w6 : Hid (Below w2.heap.size w2 w6) := belowCall BM_w5.out b BM_w5.out.size
  have XX_w6 : Hid (Obk w2.heap.size w6 (.slice e0 ts.length p0) (.slice e1 ls.length p1) (.slice e2 cs.length p2) ts ls cs) := XX_w5.out.below b
  have XB_w6 : Hid (Blk w6 X4 (B3 (.slice e0 ts.length p0) (.slice e1 ls.length p1) (.slice e2 cs.length p2)) 27) := XB_w5.out.below b XB_w5.out.lt
  have g_w6 : Hid (Obk W4.heap.size w6 (.slice ga0 gan gaq) (.slice gl0 gln glq) (.slice gc0 gcn gcq) T L C) := g_w5.out.below b
  have gB_w6 : Hid (Blk w6 X5 (B3 (.slice ga0 gan gaq) (.slice gl0 gln glq) (.slice gc0 gcn gcq)) 27) := gB_w5.out.below b gB_w5.out.lt
  clear b B_w5 BM_w5 XX_w5 XB_w5 g_w5 gB_w5 m0 m1 m2 KM t0 t1 t2
  rw [decide_eq_true (⟨rfl, rfl, rfl⟩ : T = T ∧ L = L ∧ C = C)]
  obtain ⟨S, hS⟩ : ∃ S : World → Prop, ∀ W, S W ↔ Below w6.heap.size w6 W := ⟨_, fun _ => Iff.rfl⟩
  have KA := HK0.out.below B_w6.out HK0.out.lt
  have KX := XB_w6.out
  have zc0 : ∀ W : At S, W.wd.cell? ⟨w.heap.size, 0, none⟩ = some (.slice a ts.length cap) := fun W => by rw [(KA.below ((hS _).1 W.ok) KA.lt).cell 0]; rfl
  have zc1 : ∀ W : At S, W.wd.cell? ⟨w.heap.size, 1, none⟩ = some (.slice a' ls.length cap') := fun W => by rw [(KA.below ((hS _).1 W.ok) KA.lt).cell 1]; rfl
  have zc2 : ∀ W : At S, W.wd.cell? ⟨w.heap.size, 2, none⟩ = some (.slice a'' cs.length cap'') := fun W => by rw [(KA.below ((hS _).1 W.ok) KA.lt).cell 2]; rfl
  have zx0 : ∀ W : At S, W.wd.cell? ⟨X4, 0, none⟩ = some (.slice e0 ts.length p0) := fun W => by rw [(KX.below ((hS _).1 W.ok) KX.lt).cell 0]; rfl
  have zx1 : ∀ W : At S, W.wd.cell? ⟨X4, 1, none⟩ = some (.slice e1 ls.length p1) := fun W => by rw [(KX.below ((hS _).1 W.ok) KX.lt).cell 1]; rfl
  have zx2 : ∀ W : At S, W.wd.cell? ⟨X4, 2, none⟩ = some (.slice e2 cs.length p2) := fun W => by rw [(KX.below ((hS _).1 W.ok) KX.lt).cell 2]; rfl
  have HS : Hid (∀ W, S W ↔ Below w6.heap.size w6 W) := hS
  have ne : Nonempty (At S) := ⟨⟨w6, (hS _).2 (Below.refl _ _)⟩⟩
  clear hS KA KX
  go_wp2
  refine region_mixA [true, true, false, false, false] 5 3 S (by kernel_rfl) rfl (by kernel_rfl) (fun _ _ _ _ _ h => h) ((HS.out _).2 (Below.refl _ _).drew) ?_
  simp only [selT, selF]
  repeat (go_big_quiet_step (fail))
  refine wpQuiet_nil ?_
  refine tail_step ?_
  go_wp2_with (fail)
  refine (toBook_c _ _ _ ts ls cs w6.drew (HH0.out.below B_w6.out.drew) HL.out.1 HL.out.2.1 HL.out.2.2).mono ?_
  rintro e wd ⟨d0, d1, d2, rfl, o, b⟩
  have Bd : Below w6.heap.size w6 wd := (Below.refl _ _).drew.trans b
  have HBd : Hid (Below w6.heap.size w6 wd) := Bd
  have HOd : Hid (Rbk wd d0 d1 d2 ts ls cs ∧ Rbk wd (.slice e0 ts.length p0) (.slice e1 ls.length p1) (.slice e2 cs.length p2) ts ls cs) := ⟨o.rd, XX_w6.out.rd.below Bd⟩
  clear o b Bd zc0 zc1 zc2 zx0 zx1 zx2
  go_wp2
  refine ⟨(HS.out _).2 HBd.out, tail_step ?_⟩
  go_wp2_with (fail)
  refine (eqBook_c _ _ _ _ _ _ ts ts ls cs ls cs wd HOd.out.2 HOd.out.1).mono ?_
  rintro e we ⟨rfl, b8⟩
  rw [decide_eq_true (⟨rfl, rfl, rfl⟩ : ts = ts ∧ ls = ls ∧ cs = cs)]
  have HBe : Hid (Below w6.heap.size w6 we) := belowCall HBd.out b8 HBd.out.size
  clear b8 HOd HBd
  go_wp2
  refine ⟨(HS.out _).2 HBe.out, tail_step ?_⟩
  go_wp2
  refine ⟨(HS.out _).2 HBe.out, tail_end ?_⟩
  have B_we : Hid (Below W0.heap.size W0 we) := belowCall B_w6.out HBe.out B_w6.out.size
  have BM_we : Hid (Below w2.heap.size w2 we) := belowCall BM_w6.out HBe.out BM_w6.out.size
  have XX_we : Hid (Obk w2.heap.size we (.slice e0 ts.length p0) (.slice e1 ls.length p1) (.slice e2 cs.length p2) ts ls cs) := XX_w6.out.below HBe.out
  have XB_we : Hid (Blk we X4 (B3 (.slice e0 ts.length p0) (.slice e1 ls.length p1) (.slice e2 cs.length p2)) 27) := XB_w6.out.below HBe.out XB_w6.out.lt
  have g_we : Hid (Obk W4.heap.size we (.slice ga0 gan gaq) (.slice gl0 gln glq) (.slice gc0 gcn gcq) T L C) := g_w6.out.below HBe.out
  have gB_we : Hid (Blk we X5 (B3 (.slice ga0 gan gaq) (.slice gl0 gln glq) (.slice gc0 gcn gcq)) 27) := gB_w6.out.below HBe.out gB_w6.out.lt
  clear HBe HS ne B_w6 BM_w6 XX_w6 XB_w6 g_w6 gB_w6
  have t0 := XB_we.out.cell 0
  have t1 := XB_we.out.cell 1
  have t2 := XB_we.out.cell 2
  simp at t0 t1 t2
  go_wp2_with (fail)
  refine (markBook_c w2.heap.size 1 _ _ _ ts ls cs we XX_we.out (by decide) (by have := HL.out; omega)).mono ?_
  rintro e w7 ⟨rfl, o, f⟩
  have B_w7 : Hid (Below W0.heap.size W0 w7) := B_we.out.trans (f.below (Nat.le_trans HMS.out BM_we.out.size) (fun k hk => Nat.le_trans HMS.out (HXL.out k hk).1))
  have BM_w7 : Hid (Below w2.heap.size w2 w7) := BM_we.out.trans (f.below BM_we.out.size (fun k hk => (HXL.out k hk).1))
  have g_w7 : Hid (Obk W4.heap.size w7 (.slice ga0 gan gaq) (.slice gl0 gln glq) (.slice gc0 gcn gcq) T L C) := g_we.out.fr f (fun k hk h => by have h1 := (HXL.out k h).2; have h2 := (g_we.out.lt k hk).1; omega)
  have gB_w7 : Hid (Blk w7 X5 (B3 (.slice ga0 gan gaq) (.slice gl0 gln glq) (.slice gc0 gcn gcq)) 27) := gB_we.out.fr f (fun h => by have h1 := (HXL.out _ h).2; have h2 := HGX.out; omega)
  clear o f B_we BM_we g_we gB_we t0 t1 t2 XX_we XB_we
  obtain ⟨kk, hkk⟩ : ∃ z, (1 : Int) + 3 * ts.length + ls.length + cs.length = z := ⟨_, rfl⟩
  have hkn : ¬ kk < 0 := by omega
  rw [hkk]
  clear hkk
  have KM := HMB.out.below BM_w7.out HMB.out.lt
  have m0 := KM.cell 0
  have m1 := KM.cell 1
  have m2 := KM.cell 2
  simp at m0 m1 m2
  have t0 := gB_w7.out.cell 0
  have t1 := gB_w7.out.cell 1
  have t2 := gB_w7.out.cell 2
  simp at t0 t1 t2
  go_wp2_with (fail)
  refine (eqBook_c _ _ _ _ _ _ T T L C L C w7 g_w7.out.rd (HM.out.1.below BM_w7.out)).mono ?_
  rintro e w8 ⟨rfl, b⟩
  have B_w8 : Hid (Below W0.heap.size W0 w8) := belowCall B_w7.out b B_w7.out.size
  have BM_w8 : Hid (Below w2.heap.size w2 w8) := belowCall BM_w7.out b BM_w7.out.size
  have g_w8 : Hid (Obk W4.heap.size w8 (.slice ga0 gan gaq) (.slice gl0 gln glq) (.slice gc0 gcn gcq) T L C) := g_w7.out.below b
  have gB_w8 : Hid (Blk w8 X5 (B3 (.slice ga0 gan gaq) (.slice gl0 gln glq) (.slice gc0 gcn gcq)) 27) := gB_w7.out.below b gB_w7.out.lt
  clear b B_w7 BM_w7 g_w7 gB_w7 m0 m1 m2 KM t0 t1 t2
  rw [decide_eq_true (⟨rfl, rfl, rfl⟩ : T = T ∧ L = L ∧ C = C)]
  have t0 := gB_w8.out.cell 0
  have t1 := gB_w8.out.cell 1
  have t2 := gB_w8.out.cell 2
  simp at t0 t1 t2
  go_wp2_with (fail)
  refine (markBook_c W4.heap.size 1 _ _ _ T L C w8 g_w8.out (by decide) (by have := HLG.out; omega)).mono ?_
  rintro e w9 ⟨rfl, o, f⟩
  have B_w9 : Hid (Below W0.heap.size W0 w9) := B_w8.out.trans (f.below (Nat.le_trans HMS.out BM_w8.out.size) (fun k hk => Nat.le_trans (Nat.le_trans HMS.out HSX.out) (g_w8.out.lt k hk).1))
  have BM_w9 : Hid (Below w2.heap.size w2 w9) := BM_w8.out.trans (f.below BM_w8.out.size (fun k hk => Nat.le_trans HSX.out (g_w8.out.lt k hk).1))
  have gB_w9 : Hid (Blk w9 X5 (B3 (.slice ga0 gan gaq) (.slice gl0 gln glq) (.slice gc0 gcn gcq)) 27) := gB_w8.out.fr f (fun h => by rcases h with h | h | h; exact row_blk g_w8.out.1 gB_w8.out (by decide) h; exact row_blk g_w8.out.2.1 gB_w8.out (by decide) h; exact row_blk g_w8.out.2.2.1 gB_w8.out (by decide) h)
  clear f B_w8 BM_w8 gB_w8 t0 t1 t2 g_w8
  have g_w9 : Hid (Obk W4.heap.size w9 (.slice ga0 gan gaq) (.slice gl0 gln glq) (.slice gc0 gcn gcq) (mkT 1 T.length) (marks .i64 (1 + 3 * T.length) L.length) (marks .i64 (1 + 3 * T.length + L.length) C.length)) := o
  clear o
  obtain ⟨mm, hmm⟩ : ∃ z, (1 : Int) + 3 * T.length + L.length + C.length = z := ⟨_, rfl⟩
  have HMM : Hid ((1 : Int) + 3 * T.length + L.length + C.length = mm) := hmm
  rw [hmm]
  clear hmm
  have t0 := gB_w9.out.cell 0
  have t1 := gB_w9.out.cell 1
  have t2 := gB_w9.out.cell 2
  simp at t0 t1 t2
  go_wp2_with (fail)
  refine (heldBook_c 1 _ _ _ T.length L.length C.length w9 g_w9.out.rd (by decide) (by have := HLG.out; omega)).mono ?_
  rintro e w10 ⟨rfl, b⟩
  have B_w10 : Hid (Below W0.heap.size W0 w10) := belowCall B_w9.out b B_w9.out.size
  have BM_w10 : Hid (Below w2.heap.size w2 w10) := belowCall BM_w9.out b BM_w9.out.size
  have gB_w10 : Hid (Blk w10 X5 (B3 (.slice ga0 gan gaq) (.slice gl0 gln glq) (.slice gc0 gcn gcq)) 27) := gB_w9.out.below b gB_w9.out.lt
  have g_w10 : Hid (Obk W4.heap.size w10 (.slice ga0 gan gaq) (.slice gl0 gln glq) (.slice gc0 gcn gcq) (mkT 1 T.length) (marks .i64 (1 + 3 * T.length) L.length) (marks .i64 (1 + 3 * T.length + L.length) C.length)) := g_w9.out.below b
  clear b B_w9 BM_w9 gB_w9 g_w9 t0 t1 t2
  rw [HMM.out]
  have hmn : ¬ mm < 0 := by have := HMM.out; omega
  have hqm : (mm != mm) = false := by simp
  go_upto_region 24 with fail
  have HKA : Hid (Blk w10.drew w.heap.size (B3 (.slice a ts.length cap) (.slice a' ls.length cap') (.slice a'' cs.length cap'')) 44) := HK0.out.below B_w10.out.drew HK0.out.lt
  have HRB : Hid (Rbk w10.drew (.slice a ts.length cap) (.slice a' ls.length cap') (.slice a'' cs.length cap'') ts ls cs) := HH0.out.below B_w10.out.drew
  have HKP : Hid (Blk w10.drew (w.heap.size + 1) #[.int .i64 x0, .int .i64 x1, .int .i64 x2] 52) := HT0.out.below B_w10.out.drew HT0.out.lt
  have HGV : Hid (HgV w10.drew) := HG0.out.below B_w10.out.drew
  refine region_vals [undef, undef, undef, undef, undef, undef, undef, undef, undef, undef, undef] (RuS (w10.drew) (w.heap.size) (w.heap.size + 1) (.slice a ts.length cap) (.slice a' ls.length cap') (.slice a'' cs.length cap'') (x0) (x1) (x2) (ts) (ls) (cs) (T) (L) (C) (B)) (by kernel_rfl) (by kernel_rfl) ?_ ⟨?_, ?_, ?_, ?_, ?_, ?_, ?_, ?_, ?_, ?_, ?_, trivial⟩ ?_
  · refine ⟨_, _, _, _, _, _, _, _, _, _, _, undef, undef, undef, undef, undef, undef, 0, rfl, ⟨(Below.refl _ _), ?_, ?_, ?_, ?_, ?_, ?_, ?_, ?_, ?_, ?_, ?_, ?_, ?_, ?_, ?_, ?_, ?_, ?_, ?_, ?_⟩⟩ <;> simp
  · rintro d vs W ⟨v0, v1, v2, v3, v4, v5, v6, v7, v8, v9, v10, m0, m1, m2, q0, q1, q2, X, rfl, H⟩ hn hd
    simp only [putAll, Act.put, List.setIfInBounds_toArray, List.set_cons_succ, List.set_cons_zero]
    have KW := HKA.out.below H.bel HKA.out.lt
    have z0 := KW.cell 0
    have z1 := KW.cell 1
    have z2 := KW.cell 2
    simp at z0 z1 z2
    clear KW
    have HH1 : Hid (Ru (w10.drew) (w.heap.size) (w.heap.size + 1) (.slice a ts.length cap) (.slice a' ls.length cap') (.slice a'' cs.length cap'') (x0) (x1) (x2) (ts) (ls) (cs) (T) (L) (C) (B) d W v0 v1 v2 v3 v4 v5 v6 v7 v8 v9 v10 m0 m1 m2 q0 q1 q2 X) := H
    clear H
    have HHN : Hid (d 0 = false) := hn
    clear hd hn
    go_wp2
    have H0 := HH1.out
    have H := HH1.out
    have hn := HHN.out
    refine ⟨rfl, [.agg (B3 (.slice a ts.length cap) (.slice a' ls.length cap') (.slice a'' cs.length cap'')), v1, v2, v3, v4, v5, v6, v7, v8, v9, v10], ?_, .agg (B3 (.slice a ts.length cap) (.slice a' ls.length cap') (.slice a'' cs.length cap'')), v1, v2, v3, v4, v5, v6, v7, v8, v9, v10, m0, m1, m2, q0, q1, q2, X, rfl, ⟨H.bel, (fun _ => rfl), (by have h := H.f1; simpa [doneSet] using h), (by have h := H.f2; simpa [doneSet] using h), (by have h := H.f3; simpa [doneSet] using h), (by have h := H.f4; simpa [doneSet] using h), (by have h := H.f5; simpa [doneSet] using h), (by have h := H.f6; simpa [doneSet] using h), (by have h := H.f7; simpa [doneSet] using h), (by have h := H.f8; simpa [doneSet] using h), (by have h := H.f10; simpa [doneSet] using h), (by have h := H.o1; simpa [doneSet] using h), (by have h := H.o4; simpa [doneSet] using h), (by have h := H.k8; simpa [doneSet] using h), (by have h := H.x8; simpa [doneSet] using h), (by have h := H.k9; simpa [doneSet] using h), (by have h := H.g5_4; simpa [doneSet] using h), (by have h := H.g6_4; simpa [doneSet] using h), (by have h := H.g9_4; simpa [doneSet] using h), (by have h := H.g9_8; simpa [doneSet] using h), (by have h := H.g4_1; simpa [doneSet] using h)⟩⟩
    simp only [putAll, Act.put, List.setIfInBounds_toArray, List.set_cons_succ, List.set_cons_zero]
    all_goals rfl
  · rintro d vs W ⟨v0, v1, v2, v3, v4, v5, v6, v7, v8, v9, v10, m0, m1, m2, q0, q1, q2, X, rfl, H⟩ hn hd
    simp only [putAll, Act.put, List.setIfInBounds_toArray, List.set_cons_succ, List.set_cons_zero]
    have h0 : d 0 = true := hd { on := 0, ground := .data } (by simp) rfl
    have HRW := HRB.out.below H.bel
    obtain rfl := H.f0 h0
    have HH1 : Hid (Ru (w10.drew) (w.heap.size) (w.heap.size + 1) (.slice a ts.length cap) (.slice a' ls.length cap') (.slice a'' cs.length cap'') (x0) (x1) (x2) (ts) (ls) (cs) (T) (L) (C) (B) d W (.agg (B3 (.slice a ts.length cap) (.slice a' ls.length cap') (.slice a'' cs.length cap''))) v1 v2 v3 v4 v5 v6 v7 v8 v9 v10 m0 m1 m2 q0 q1 q2 X) := H
    clear H
    have HHN : Hid (d 1 = false) := hn
    have HHD : Hid (d 0 = true) := h0
    clear hd hn h0
    go_wp2_with (fail)
    refine (toBook_c _ _ _ ts ls cs W HRW HL.out.1 HL.out.2.1 HL.out.2.2).mono ?_
    rintro e W3 ⟨n0, n1, n2, rfl, o7, b7⟩
    have HB7 : Hid (Below W.heap.size W W3) := b7
    have HO7 : Hid (Rbk W3 n0 n1 n2 ts ls cs) := o7.rd
    clear b7 o7 HRW
    go_wp2
    have H0 := HH1.out
    have H := HH1.out.below HB7.out
    have hn := HHN.out
    have h0 := HHD.out
    refine ⟨rfl, [.agg (B3 (.slice a ts.length cap) (.slice a' ls.length cap') (.slice a'' cs.length cap'')), .agg (B3 n0 n1 n2), v2, v3, v4, v5, v6, v7, v8, v9, v10], ?_, .agg (B3 (.slice a ts.length cap) (.slice a' ls.length cap') (.slice a'' cs.length cap'')), .agg (B3 n0 n1 n2), v2, v3, v4, v5, v6, v7, v8, v9, v10, n0, n1, n2, q0, q1, q2, X, rfl, ⟨H.bel, (fun _ => rfl), (fun _ => rfl), (by have h := H.f2; simpa [doneSet] using h), (by have h := H.f3; simpa [doneSet] using h), (by have h := H.f4; simpa [doneSet] using h), (by have h := H.f5; simpa [doneSet] using h), (by have h := H.f6; simpa [doneSet] using h), (by have h := H.f7; simpa [doneSet] using h), (by have h := H.f8; simpa [doneSet] using h), (by have h := H.f10; simpa [doneSet] using h), (fun _ _ => HO7.out), (by have h := H.o4; simpa [doneSet] using h), (by have h := H.k8; simpa [doneSet] using h), (by have h := H.x8; simpa [doneSet] using h), (by have h := H.k9; simpa [doneSet] using h), (by have h := H.g5_4; simpa [doneSet] using h), (by have h := H.g6_4; simpa [doneSet] using h), (by have h := H.g9_4; simpa [doneSet] using h), (by have h := H.g9_8; simpa [doneSet] using h), (fun _ => by simp [doneSet])⟩⟩
    simp only [putAll, Act.put, List.setIfInBounds_toArray, List.set_cons_succ, List.set_cons_zero]
    all_goals rfl
  · rintro d vs W ⟨v0, v1, v2, v3, v4, v5, v6, v7, v8, v9, v10, m0, m1, m2, q0, q1, q2, X, rfl, H⟩ hn hd
    simp only [putAll, Act.put, List.setIfInBounds_toArray, List.set_cons_succ, List.set_cons_zero]
    have KW := HKP.out.below H.bel HKP.out.lt
    have z0 := KW.cell 0
    have z1 := KW.cell 1
    have z2 := KW.cell 2
    simp at z0 z1 z2
    clear KW
    have HH1 : Hid (Ru (w10.drew) (w.heap.size) (w.heap.size + 1) (.slice a ts.length cap) (.slice a' ls.length cap') (.slice a'' cs.length cap'') (x0) (x1) (x2) (ts) (ls) (cs) (T) (L) (C) (B) d W v0 v1 v2 v3 v4 v5 v6 v7 v8 v9 v10 m0 m1 m2 q0 q1 q2 X) := H
    clear H
    have HHN : Hid (d 2 = false) := hn
    clear hd hn
    go_wp2
    have H0 := HH1.out
    have H := HH1.out
    have hn := HHN.out
    refine ⟨rfl, [v0, v1, .agg #[.int .i64 x0, .int .i64 x1, .int .i64 x2], v3, v4, v5, v6, v7, v8, v9, v10], ?_, v0, v1, .agg #[.int .i64 x0, .int .i64 x1, .int .i64 x2], v3, v4, v5, v6, v7, v8, v9, v10, m0, m1, m2, q0, q1, q2, X, rfl, ⟨H.bel, (by have h := H.f0; simpa [doneSet] using h), (by have h := H.f1; simpa [doneSet] using h), (fun _ => rfl), (by have h := H.f3; simpa [doneSet] using h), (by have h := H.f4; simpa [doneSet] using h), (by have h := H.f5; simpa [doneSet] using h), (by have h := H.f6; simpa [doneSet] using h), (by have h := H.f7; simpa [doneSet] using h), (by have h := H.f8; simpa [doneSet] using h), (by have h := H.f10; simpa [doneSet] using h), (by have h := H.o1; simpa [doneSet] using h), (by have h := H.o4; simpa [doneSet] using h), (by have h := H.k8; simpa [doneSet] using h), (by have h := H.x8; simpa [doneSet] using h), (by have h := H.k9; simpa [doneSet] using h), (by have h := H.g5_4; simpa [doneSet] using h), (by have h := H.g6_4; simpa [doneSet] using h), (by have h := H.g9_4; simpa [doneSet] using h), (by have h := H.g9_8; simpa [doneSet] using h), (by have h := H.g4_1; simpa [doneSet] using h)⟩⟩
    simp only [putAll, Act.put, List.setIfInBounds_toArray, List.set_cons_succ, List.set_cons_zero]
    all_goals rfl
  · rintro d vs W ⟨v0, v1, v2, v3, v4, v5, v6, v7, v8, v9, v10, m0, m1, m2, q0, q1, q2, X, rfl, H⟩ hn hd
    simp only [putAll, Act.put, List.setIfInBounds_toArray, List.set_cons_succ, List.set_cons_zero]
    have h2 : d 2 = true := hd { on := 2, ground := .data } (by simp) rfl
    obtain rfl := H.f2 h2
    have HH1 : Hid (Ru (w10.drew) (w.heap.size) (w.heap.size + 1) (.slice a ts.length cap) (.slice a' ls.length cap') (.slice a'' cs.length cap'') (x0) (x1) (x2) (ts) (ls) (cs) (T) (L) (C) (B) d W v0 v1 (.agg #[.int .i64 x0, .int .i64 x1, .int .i64 x2]) v3 v4 v5 v6 v7 v8 v9 v10 m0 m1 m2 q0 q1 q2 X) := H
    clear H
    have HHN : Hid (d 3 = false) := hn
    have HHD : Hid (d 2 = true) := h2
    clear hd hn h2
    go_wp2_with (fail)
    refine (toTk_c x0 x1 x2 W).mono ?_
    rintro e W3 ⟨rfl, b7⟩
    have HB7 : Hid (Below W.heap.size W W3) := b7
    clear b7
    go_wp2
    have H0 := HH1.out
    have H := HH1.out.below HB7.out
    have hn := HHN.out
    have h2 := HHD.out
    refine ⟨rfl, [v0, v1, .agg #[.int .i64 x0, .int .i64 x1, .int .i64 x2], .agg #[.int .i64 x0, .int .i64 x1, .int .i64 x2], v4, v5, v6, v7, v8, v9, v10], ?_, v0, v1, .agg #[.int .i64 x0, .int .i64 x1, .int .i64 x2], .agg #[.int .i64 x0, .int .i64 x1, .int .i64 x2], v4, v5, v6, v7, v8, v9, v10, m0, m1, m2, q0, q1, q2, X, rfl, ⟨H.bel, (by have h := H.f0; simpa [doneSet] using h), (by have h := H.f1; simpa [doneSet] using h), (fun _ => rfl), (fun _ => rfl), (by have h := H.f4; simpa [doneSet] using h), (by have h := H.f5; simpa [doneSet] using h), (by have h := H.f6; simpa [doneSet] using h), (by have h := H.f7; simpa [doneSet] using h), (by have h := H.f8; simpa [doneSet] using h), (by have h := H.f10; simpa [doneSet] using h), (by have h := H.o1; simpa [doneSet] using h), (by have h := H.o4; simpa [doneSet] using h), (by have h := H.k8; simpa [doneSet] using h), (by have h := H.x8; simpa [doneSet] using h), (by have h := H.k9; simpa [doneSet] using h), (by have h := H.g5_4; simpa [doneSet] using h), (by have h := H.g6_4; simpa [doneSet] using h), (by have h := H.g9_4; simpa [doneSet] using h), (by have h := H.g9_8; simpa [doneSet] using h), (by have h := H.g4_1; simpa [doneSet] using h)⟩⟩
    simp only [putAll, Act.put, List.setIfInBounds_toArray, List.set_cons_succ, List.set_cons_zero]
    all_goals rfl
  · rintro d vs W ⟨v0, v1, v2, v3, v4, v5, v6, v7, v8, v9, v10, m0, m1, m2, q0, q1, q2, X, rfl, H⟩ hn hd
    simp only [putAll, Act.put, List.setIfInBounds_toArray, List.set_cons_succ, List.set_cons_zero]
    have h1 : d 1 = true := hd { on := 1, ground := .data } (by simp) rfl
    have h3 : d 3 = true := hd { on := 3, ground := .data } (by simp) rfl
    have HO1 : Hid (Rbk W m0 m1 m2 ts ls cs) := H.o1 h1 hn
    have HGW : Hid (HgV W) := HGV.out.below H.bel
    obtain rfl := H.f1 h1
    obtain rfl := H.f3 h3
    have HH1 : Hid (Ru (w10.drew) (w.heap.size) (w.heap.size + 1) (.slice a ts.length cap) (.slice a' ls.length cap') (.slice a'' cs.length cap'') (x0) (x1) (x2) (ts) (ls) (cs) (T) (L) (C) (B) d W v0 (.agg (B3 m0 m1 m2)) v2 (.agg #[.int .i64 x0, .int .i64 x1, .int .i64 x2]) v4 v5 v6 v7 v8 v9 v10 m0 m1 m2 q0 q1 q2 X) := H
    clear H
    have HHN : Hid (d 4 = false) := hn
    have HHD : Hid (d 1 = true ∧ d 3 = true) := ⟨h1, h3⟩
    clear hd hn h1 h3
    go_wp2_with (fail)
    refine (HCI.out W _ _ _ HGW.out HO1.out HL.out.1 HL.out.2.1 HL.out.2.2).mono ?_
    rintro e W3 ⟨n0, n1, n2, rfl, o7, b7⟩
    have HB7 : Hid (Below W.heap.size W W3) := b7
    have HO7 : Hid (Obk W.heap.size W3 n0 n1 n2 T L C) := o7
    clear b7 o7
    go_wp2
    have H0 := HH1.out
    have H := HH1.out.below HB7.out
    have hn := HHN.out
    have h1 := HHD.out.1
    have h3 := HHD.out.2
    refine ⟨rfl, [v0, .agg (B3 m0 m1 m2), v2, .agg #[.int .i64 x0, .int .i64 x1, .int .i64 x2], .tuple #[.agg (B3 n0 n1 n2), .bool B], v5, v6, v7, v8, v9, v10], ?_, v0, .agg (B3 m0 m1 m2), v2, .agg #[.int .i64 x0, .int .i64 x1, .int .i64 x2], .tuple #[.agg (B3 n0 n1 n2), .bool B], v5, v6, v7, v8, v9, v10, m0, m1, m2, n0, n1, n2, X, rfl, ⟨H.bel, (by have h := H.f0; simpa [doneSet] using h), (fun _ => rfl), (by have h := H.f2; simpa [doneSet] using h), (fun _ => rfl), (fun _ => rfl), (fun e => absurd (H0.g5_4 (by simpa [doneSet] using e)) (by rw [hn]; simp)), (fun e => absurd (H0.g6_4 (by simpa [doneSet] using e)) (by rw [hn]; simp)), (by have h := H.f7; simpa [doneSet] using h), (by have h := H.f8; simpa [doneSet] using h), (by have h := H.f10; simpa [doneSet] using h), (fun _ e => absurd e (by simp [doneSet])), (fun _ => HO7.out.mono H0.bel.size), (by have h := H.k8; simpa [doneSet] using h), (by have h := H.x8; simpa [doneSet] using h), (fun e => absurd (H0.g9_4 (by simpa [doneSet] using e)) (by rw [hn]; simp)), (fun _ => by simp [doneSet]), (fun _ => by simp [doneSet]), (fun _ => by simp [doneSet]), (by have h := H.g9_8; simpa [doneSet] using h), (fun _ => by simpa [doneSet] using h1)⟩⟩
    simp only [putAll, Act.put, List.setIfInBounds_toArray, List.set_cons_succ, List.set_cons_zero]
    all_goals rfl
  · rintro d vs W ⟨v0, v1, v2, v3, v4, v5, v6, v7, v8, v9, v10, m0, m1, m2, q0, q1, q2, X, rfl, H⟩ hn hd
    simp only [putAll, Act.put, List.setIfInBounds_toArray, List.set_cons_succ, List.set_cons_zero]
    have h4 : d 4 = true := hd { on := 4, ground := .data } (by simp) rfl
    obtain rfl := H.f4 h4
    have HH1 : Hid (Ru (w10.drew) (w.heap.size) (w.heap.size + 1) (.slice a ts.length cap) (.slice a' ls.length cap') (.slice a'' cs.length cap'') (x0) (x1) (x2) (ts) (ls) (cs) (T) (L) (C) (B) d W v0 v1 v2 v3 (.tuple #[.agg (B3 q0 q1 q2), .bool B]) v5 v6 v7 v8 v9 v10 m0 m1 m2 q0 q1 q2 X) := H
    clear H
    have HHN : Hid (d 5 = false) := hn
    have HHD : Hid (d 4 = true) := h4
    clear hd hn h4
    go_wp2
    have H0 := HH1.out
    have H := HH1.out
    have hn := HHN.out
    have h4 := HHD.out
    refine ⟨rfl, [v0, v1, v2, v3, .tuple #[.agg (B3 q0 q1 q2), .bool B], .tuple #[.agg (B3 q0 q1 q2), .bool B], v6, v7, v8, v9, v10], ?_, v0, v1, v2, v3, .tuple #[.agg (B3 q0 q1 q2), .bool B], .tuple #[.agg (B3 q0 q1 q2), .bool B], v6, v7, v8, v9, v10, m0, m1, m2, q0, q1, q2, X, rfl, ⟨H.bel, (by have h := H.f0; simpa [doneSet] using h), (by have h := H.f1; simpa [doneSet] using h), (by have h := H.f2; simpa [doneSet] using h), (by have h := H.f3; simpa [doneSet] using h), (fun _ => rfl), (fun _ => rfl), (by have h := H.f6; simpa [doneSet] using h), (by have h := H.f7; simpa [doneSet] using h), (by have h := H.f8; simpa [doneSet] using h), (by have h := H.f10; simpa [doneSet] using h), (by have h := H.o1; simpa [doneSet] using h), (by have h := H.o4; simpa [doneSet] using h), (by have h := H.k8; simpa [doneSet] using h), (by have h := H.x8; simpa [doneSet] using h), (by have h := H.k9; simpa [doneSet] using h), (fun _ => by simpa [doneSet] using h4), (by have h := H.g6_4; simpa [doneSet] using h), (by have h := H.g9_4; simpa [doneSet] using h), (by have h := H.g9_8; simpa [doneSet] using h), (by have h := H.g4_1; simpa [doneSet] using h)⟩⟩
    simp only [putAll, Act.put, List.setIfInBounds_toArray, List.set_cons_succ, List.set_cons_zero]
    all_goals rfl
  · rintro d vs W ⟨v0, v1, v2, v3, v4, v5, v6, v7, v8, v9, v10, m0, m1, m2, q0, q1, q2, X, rfl, H⟩ hn hd
    simp only [putAll, Act.put, List.setIfInBounds_toArray, List.set_cons_succ, List.set_cons_zero]
    have h5 : d 5 = true := hd { on := 5, ground := .data } (by simp) rfl
    have h4 := H.g5_4 h5
    obtain rfl := H.f5 h5
    have HH1 : Hid (Ru (w10.drew) (w.heap.size) (w.heap.size + 1) (.slice a ts.length cap) (.slice a' ls.length cap') (.slice a'' cs.length cap'') (x0) (x1) (x2) (ts) (ls) (cs) (T) (L) (C) (B) d W v0 v1 v2 v3 v4 (.tuple #[.agg (B3 q0 q1 q2), .bool B]) v6 v7 v8 v9 v10 m0 m1 m2 q0 q1 q2 X) := H
    clear H
    have HHN : Hid (d 6 = false) := hn
    have HHD : Hid (d 5 = true) := h5
    clear hd hn h5
    go_wp2
    have H0 := HH1.out
    have H := HH1.out
    have hn := HHN.out
    have h5 := HHD.out
    refine ⟨rfl, [v0, v1, v2, v3, v4, .tuple #[.agg (B3 q0 q1 q2), .bool B], .agg (B3 q0 q1 q2), v7, v8, v9, v10], ?_, v0, v1, v2, v3, v4, .tuple #[.agg (B3 q0 q1 q2), .bool B], .agg (B3 q0 q1 q2), v7, v8, v9, v10, m0, m1, m2, q0, q1, q2, X, rfl, ⟨H.bel, (by have h := H.f0; simpa [doneSet] using h), (by have h := H.f1; simpa [doneSet] using h), (by have h := H.f2; simpa [doneSet] using h), (by have h := H.f3; simpa [doneSet] using h), (by have h := H.f4; simpa [doneSet] using h), (fun _ => rfl), (fun _ => rfl), (by have h := H.f7; simpa [doneSet] using h), (by have h := H.f8; simpa [doneSet] using h), (by have h := H.f10; simpa [doneSet] using h), (by have h := H.o1; simpa [doneSet] using h), (by have h := H.o4; simpa [doneSet] using h), (by have h := H.k8; simpa [doneSet] using h), (by have h := H.x8; simpa [doneSet] using h), (by have h := H.k9; simpa [doneSet] using h), (by have h := H.g5_4; simpa [doneSet] using h), (fun _ => by simpa [doneSet] using h4), (by have h := H.g9_4; simpa [doneSet] using h), (by have h := H.g9_8; simpa [doneSet] using h), (by have h := H.g4_1; simpa [doneSet] using h)⟩⟩
    simp only [putAll, Act.put, List.setIfInBounds_toArray, List.set_cons_succ, List.set_cons_zero]
    all_goals rfl
  · rintro d vs W ⟨v0, v1, v2, v3, v4, v5, v6, v7, v8, v9, v10, m0, m1, m2, q0, q1, q2, X, rfl, H⟩ hn hd
    simp only [putAll, Act.put, List.setIfInBounds_toArray, List.set_cons_succ, List.set_cons_zero]
    have h5 : d 5 = true := hd { on := 5, ground := .data } (by simp) rfl
    obtain rfl := H.f5 h5
    have HH1 : Hid (Ru (w10.drew) (w.heap.size) (w.heap.size + 1) (.slice a ts.length cap) (.slice a' ls.length cap') (.slice a'' cs.length cap'') (x0) (x1) (x2) (ts) (ls) (cs) (T) (L) (C) (B) d W v0 v1 v2 v3 v4 (.tuple #[.agg (B3 q0 q1 q2), .bool B]) v6 v7 v8 v9 v10 m0 m1 m2 q0 q1 q2 X) := H
    clear H
    have HHN : Hid (d 7 = false) := hn
    have HHD : Hid (d 5 = true) := h5
    clear hd hn h5
    go_wp2
    have H0 := HH1.out
    have H := HH1.out
    have hn := HHN.out
    have h5 := HHD.out
    refine ⟨rfl, [v0, v1, v2, v3, v4, .tuple #[.agg (B3 q0 q1 q2), .bool B], v6, .bool B, v8, v9, v10], ?_, v0, v1, v2, v3, v4, .tuple #[.agg (B3 q0 q1 q2), .bool B], v6, .bool B, v8, v9, v10, m0, m1, m2, q0, q1, q2, X, rfl, ⟨H.bel, (by have h := H.f0; simpa [doneSet] using h), (by have h := H.f1; simpa [doneSet] using h), (by have h := H.f2; simpa [doneSet] using h), (by have h := H.f3; simpa [doneSet] using h), (by have h := H.f4; simpa [doneSet] using h), (fun _ => rfl), (by have h := H.f6; simpa [doneSet] using h), (fun _ => rfl), (by have h := H.f8; simpa [doneSet] using h), (by have h := H.f10; simpa [doneSet] using h), (by have h := H.o1; simpa [doneSet] using h), (by have h := H.o4; simpa [doneSet] using h), (by have h := H.k8; simpa [doneSet] using h), (by have h := H.x8; simpa [doneSet] using h), (by have h := H.k9; simpa [doneSet] using h), (by have h := H.g5_4; simpa [doneSet] using h), (by have h := H.g6_4; simpa [doneSet] using h), (by have h := H.g9_4; simpa [doneSet] using h), (by have h := H.g9_8; simpa [doneSet] using h), (by have h := H.g4_1; simpa [doneSet] using h)⟩⟩
    simp only [putAll, Act.put, List.setIfInBounds_toArray, List.set_cons_succ, List.set_cons_zero]
    all_goals rfl
  · rintro d vs W ⟨v0, v1, v2, v3, v4, v5, v6, v7, v8, v9, v10, m0, m1, m2, q0, q1, q2, X, rfl, H⟩ hn hd
    simp only [putAll, Act.put, List.setIfInBounds_toArray, List.set_cons_succ, List.set_cons_zero]
    have HH1 : Hid (Ru (w10.drew) (w.heap.size) (w.heap.size + 1) (.slice a ts.length cap) (.slice a' ls.length cap') (.slice a'' cs.length cap'') (x0) (x1) (x2) (ts) (ls) (cs) (T) (L) (C) (B) d W v0 v1 v2 v3 v4 v5 v6 v7 v8 v9 v10 m0 m1 m2 q0 q1 q2 X) := H
    clear H
    have HHN : Hid (d 8 = false) := hn
    clear hd hn
    go_wp2
    have H0 := HH1.out
    have H := HH1.out.below ((Below.refl _ W).alloc (Nat.le_refl _) (.cells (B3 (.slice none 0 0) (.slice none 0 0) (.slice none 0 0)) 27))
    have hn := HHN.out
    refine ⟨rfl, [v0, v1, v2, v3, v4, v5, v6, v7, .pointer (some ⟨W.heap.size, 0, none⟩), v9, v10], ?_, v0, v1, v2, v3, v4, v5, v6, v7, .pointer (some ⟨W.heap.size, 0, none⟩), v9, v10, m0, m1, m2, q0, q1, q2, W.heap.size, rfl, ⟨H.bel, (by have h := H.f0; simpa [doneSet] using h), (by have h := H.f1; simpa [doneSet] using h), (by have h := H.f2; simpa [doneSet] using h), (by have h := H.f3; simpa [doneSet] using h), (by have h := H.f4; simpa [doneSet] using h), (by have h := H.f5; simpa [doneSet] using h), (by have h := H.f6; simpa [doneSet] using h), (by have h := H.f7; simpa [doneSet] using h), (fun _ => rfl), (by have h := H.f10; simpa [doneSet] using h), (by have h := H.o1; simpa [doneSet] using h), (by have h := H.o4; simpa [doneSet] using h), (fun _ _ => Blk.new _ _ _), (fun _ => H0.bel.size), (fun e => absurd (H0.g9_8 (by simpa [doneSet] using e)) (by rw [hn]; simp)), (by have h := H.g5_4; simpa [doneSet] using h), (by have h := H.g6_4; simpa [doneSet] using h), (by have h := H.g9_4; simpa [doneSet] using h), (fun _ => by simp [doneSet]), (by have h := H.g4_1; simpa [doneSet] using h)⟩⟩
    simp only [putAll, Act.put, List.setIfInBounds_toArray, List.set_cons_succ, List.set_cons_zero]
    all_goals rfl
  · rintro d vs W ⟨v0, v1, v2, v3, v4, v5, v6, v7, v8, v9, v10, m0, m1, m2, q0, q1, q2, X, rfl, H⟩ hn hd
    simp only [putAll, Act.put, List.setIfInBounds_toArray, List.set_cons_succ, List.set_cons_zero]
    have h8 : d 8 = true := hd { on := 8, ground := .data } (by simp) rfl
    have h6 : d 6 = true := hd { on := 6, ground := .data } (by simp) rfl
    have HK8 : Hid (Blk W X (B3 (.slice none 0 0) (.slice none 0 0) (.slice none 0 0)) 27) := H.k8 h8 hn
    have HX8 : Hid (w10.drew.heap.size ≤ X) := H.x8 h8
    have h4 : d 4 = true := H.g6_4 h6
    have HO4 : Hid (Obk w10.drew.heap.size W q0 q1 q2 T L C) := H.o4 h4
    have HH4 : Hid (d 4 = true) := h4
    obtain rfl := H.f8 h8
    obtain rfl := H.f6 h6
    have HH1 : Hid (Ru (w10.drew) (w.heap.size) (w.heap.size + 1) (.slice a ts.length cap) (.slice a' ls.length cap') (.slice a'' cs.length cap'') (x0) (x1) (x2) (ts) (ls) (cs) (T) (L) (C) (B) d W v0 v1 v2 v3 v4 v5 (.agg (B3 q0 q1 q2)) v7 (.pointer (some ⟨X, 0, none⟩)) v9 v10 m0 m1 m2 q0 q1 q2 X) := H
    clear H
    have HHN : Hid (d 9 = false) := hn
    have HHD : Hid (d 8 = true ∧ d 6 = true) := ⟨h8, h6⟩
    clear hd hn h8 h6
    go_wp2_with (refine wpList_store_row rfl 27 _ _ rfl X (B3 q0 q1 q2) rfl rfl 27 (B3 (.slice none 0 0) (.slice none 0 0) (.slice none 0 0)) HK8.out (by kernel_rfl) rfl (by obtain ⟨⟨_, _, _, e0⟩, ⟨_, _, _, e1⟩, ⟨_, _, _, e2⟩⟩ := obk_form HO4.out; rw [e0, e1, e2]; simp [Value.oneCell']) ?_)
    have H0 := HH1.out
    have H := HH1.out
    have hn := HHN.out
    have h8 := HHD.out.1
    have h6 := HHD.out.2
    refine ⟨rfl, [v0, v1, v2, v3, v4, v5, .agg (B3 q0 q1 q2), v7, .pointer (some ⟨X, 0, none⟩), undef, v10], ?_, v0, v1, v2, v3, v4, v5, .agg (B3 q0 q1 q2), v7, .pointer (some ⟨X, 0, none⟩), undef, v10, m0, m1, m2, q0, q1, q2, X, rfl, ⟨(belowRow H0.bel _ HX8.out _), (by have h := H.f0; simpa [doneSet] using h), (by have h := H.f1; simpa [doneSet] using h), (by have h := H.f2; simpa [doneSet] using h), (by have h := H.f3; simpa [doneSet] using h), (by have h := H.f4; simpa [doneSet] using h), (by have h := H.f5; simpa [doneSet] using h), (fun _ => rfl), (by have h := H.f7; simpa [doneSet] using h), (fun _ => rfl), (by have h := H.f10; simpa [doneSet] using h), (fun _ e => absurd HH4.out (by simp [doneSet] at e; rw [e]; simp)), (fun _ => obk_setRow HO4.out HK8.out), (fun _ e => absurd e (by simp [doneSet])), (by have h := H.x8; simpa [doneSet] using h), (fun _ => HK8.out.row _), (by have h := H.g5_4; simpa [doneSet] using h), (by have h := H.g6_4; simpa [doneSet] using h), (fun _ => by simpa [doneSet] using HH4.out), (fun _ => by simpa [doneSet] using h8), (by have h := H.g4_1; simpa [doneSet] using h)⟩⟩
    simp only [putAll, Act.put, List.setIfInBounds_toArray, List.set_cons_succ, List.set_cons_zero]
    all_goals rfl
  · rintro d vs W ⟨v0, v1, v2, v3, v4, v5, v6, v7, v8, v9, v10, m0, m1, m2, q0, q1, q2, X, rfl, H⟩ hn hd
    simp only [putAll, Act.put, List.setIfInBounds_toArray, List.set_cons_succ, List.set_cons_zero]
    have h7 : d 7 = true := hd { on := 7, ground := .data } (by simp) rfl
    obtain rfl := H.f7 h7
    have HH1 : Hid (Ru (w10.drew) (w.heap.size) (w.heap.size + 1) (.slice a ts.length cap) (.slice a' ls.length cap') (.slice a'' cs.length cap'') (x0) (x1) (x2) (ts) (ls) (cs) (T) (L) (C) (B) d W v0 v1 v2 v3 v4 v5 v6 (.bool B) v8 v9 v10 m0 m1 m2 q0 q1 q2 X) := H
    clear H
    have HHN : Hid (d 10 = false) := hn
    have HHD : Hid (d 7 = true) := h7
    clear hd hn h7
    go_wp2
    have H0 := HH1.out
    have H := HH1.out
    have hn := HHN.out
    have h7 := HHD.out
    refine ⟨rfl, [v0, v1, v2, v3, v4, v5, v6, .bool B, v8, v9, .bool B], ?_, v0, v1, v2, v3, v4, v5, v6, .bool B, v8, v9, .bool B, m0, m1, m2, q0, q1, q2, X, rfl, ⟨H.bel, (by have h := H.f0; simpa [doneSet] using h), (by have h := H.f1; simpa [doneSet] using h), (by have h := H.f2; simpa [doneSet] using h), (by have h := H.f3; simpa [doneSet] using h), (by have h := H.f4; simpa [doneSet] using h), (by have h := H.f5; simpa [doneSet] using h), (by have h := H.f6; simpa [doneSet] using h), (fun _ => rfl), (by have h := H.f8; simpa [doneSet] using h), (fun _ => rfl), (by have h := H.o1; simpa [doneSet] using h), (by have h := H.o4; simpa [doneSet] using h), (by have h := H.k8; simpa [doneSet] using h), (by have h := H.x8; simpa [doneSet] using h), (by have h := H.k9; simpa [doneSet] using h), (by have h := H.g5_4; simpa [doneSet] using h), (by have h := H.g6_4; simpa [doneSet] using h), (by have h := H.g9_4; simpa [doneSet] using h), (by have h := H.g9_8; simpa [doneSet] using h), (by have h := H.g4_1; simpa [doneSet] using h)⟩⟩
    simp only [putAll, Act.put, List.setIfInBounds_toArray, List.set_cons_succ, List.set_cons_zero]
    all_goals rfl
  rintro d vs w11 ⟨v0, v1, v2, v3, v4, v5, v6, v7, v8, v9, v10, m0, m1, m2, q0, q1, q2, X11, rfl, H⟩ hn
  obtain rfl := H.f0 (hn 0 (by decide))
  obtain rfl := H.f1 (hn 1 (by decide))
  obtain rfl := H.f2 (hn 2 (by decide))
  obtain rfl := H.f3 (hn 3 (by decide))
  obtain rfl := H.f4 (hn 4 (by decide))
  obtain rfl := H.f5 (hn 5 (by decide))
  obtain rfl := H.f6 (hn 6 (by decide))
  obtain rfl := H.f7 (hn 7 (by decide))
  obtain rfl := H.f8 (hn 8 (by decide))
  obtain rfl := H.f10 (hn 10 (by decide))
  have bE : Below w10.heap.size w10 w11 := (Below.refl _ w10).drew.trans H.bel
  have oE : Obk w10.heap.size w11 q0 q1 q2 T L C := H.o4 (hn 4 (by decide))
  have kE : Blk w11 X11 (B3 q0 q1 q2) 27 := H.k9 (hn 9 (by decide))
  have xE : w10.heap.size ≤ X11 := H.x8 (hn 8 (by decide))
  clear H hn
  obtain ⟨ha0, han, haq, rfl⟩ : ∃ a L c, q0 = .slice a L c := by obtain ⟨a, c, e⟩ := oE.1.form; exact ⟨a, _, c, e⟩
  obtain ⟨hl0, hln, hlq, rfl⟩ : ∃ a L c, q1 = .slice a L c := by obtain ⟨a, c, e⟩ := oE.2.1.form; exact ⟨a, _, c, e⟩
  obtain ⟨hc0, hcn, hcq, rfl⟩ : ∃ a L c, q2 = .slice a L c := by obtain ⟨a, c, e⟩ := oE.2.2.1.form; exact ⟨a, _, c, e⟩
  have B_w11 : Hid (Below W0.heap.size W0 w11) := belowCall B_w10.out bE B_w10.out.size
  have BM_w11 : Hid (Below w2.heap.size w2 w11) := belowCall BM_w10.out bE BM_w10.out.size
  have gB_w11 : Hid (Blk w11 X5 (B3 (.slice ga0 gan gaq) (.slice gl0 gln glq) (.slice gc0 gcn gcq)) 27) := gB_w10.out.below bE gB_w10.out.lt
  have g_w11 : Hid (Obk W4.heap.size w11 (.slice ga0 gan gaq) (.slice gl0 gln glq) (.slice gc0 gcn gcq) (mkT 1 T.length) (marks .i64 (1 + 3 * T.length) L.length) (marks .i64 (1 + 3 * T.length + L.length) C.length)) := g_w10.out.below bE
  have h_w11 : Hid (Obk w10.heap.size w11 (.slice ha0 han haq) (.slice hl0 hln hlq) (.slice hc0 hcn hcq) T L C) := oE
  have hB_w11 : Hid (Blk w11 X11 (B3 (.slice ha0 han haq) (.slice hl0 hln hlq) (.slice hc0 hcn hcq)) 27) := kE
  have HhX : Hid (w10.heap.size ≤ X11) := xE
  clear bE oE kE xE HKA HKP HRB HGV B_w10 BM_w10 gB_w10 g_w10
  simp only [putAll, Act.put, List.setIfInBounds_toArray, List.set_cons_succ, List.set_cons_zero]
  clear hmn hqm
  have KM := HMB.out.below BM_w11.out HMB.out.lt
  have m0 := KM.cell 0
  have m1 := KM.cell 1
  have m2 := KM.cell 2
  simp at m0 m1 m2
  have t0 := hB_w11.out.cell 0
  have t1 := hB_w11.out.cell 1
  have t2 := hB_w11.out.cell 2
  simp at t0 t1 t2
  go_wp2_with (fail)
  refine (eqBook_c _ _ _ _ _ _ T T L C L C w11 h_w11.out.rd (HM.out.1.below BM_w11.out)).mono ?_
  rintro e w12 ⟨rfl, b⟩
  have B_w12 : Hid (Below W0.heap.size W0 w12) := belowCall B_w11.out b B_w11.out.size
  have BM_w12 : Hid (Below w2.heap.size w2 w12) := belowCall BM_w11.out b BM_w11.out.size
  have gB_w12 : Hid (Blk w12 X5 (B3 (.slice ga0 gan gaq) (.slice gl0 gln glq) (.slice gc0 gcn gcq)) 27) := gB_w11.out.below b gB_w11.out.lt
  have g_w12 : Hid (Obk W4.heap.size w12 (.slice ga0 gan gaq) (.slice gl0 gln glq) (.slice gc0 gcn gcq) (mkT 1 T.length) (marks .i64 (1 + 3 * T.length) L.length) (marks .i64 (1 + 3 * T.length + L.length) C.length)) := g_w11.out.below b
  have h_w12 : Hid (Obk w10.heap.size w12 (.slice ha0 han haq) (.slice hl0 hln hlq) (.slice hc0 hcn hcq) T L C) := h_w11.out.below b
  have hB_w12 : Hid (Blk w12 X11 (B3 (.slice ha0 han haq) (.slice hl0 hln hlq) (.slice hc0 hcn hcq)) 27) := hB_w11.out.below b hB_w11.out.lt
  clear b B_w11 BM_w11 gB_w11 g_w11 h_w11 hB_w11 m0 m1 m2 KM t0 t1 t2
  rw [decide_eq_true (⟨rfl, rfl, rfl⟩ : T = T ∧ L = L ∧ C = C)]
  have t0 := gB_w12.out.cell 0
  have t1 := gB_w12.out.cell 1
  have t2 := gB_w12.out.cell 2
  simp at t0 t1 t2
  go_wp2_with (fail)
  refine (heldBook_c 1 _ _ _ T.length L.length C.length w12 g_w12.out.rd (by decide) (by have := HLG.out; omega)).mono ?_
  rintro e w13 ⟨rfl, b⟩
  have B_w13 : Hid (Below W0.heap.size W0 w13) := belowCall B_w12.out b B_w12.out.size
  have BM_w13 : Hid (Below w2.heap.size w2 w13) := belowCall BM_w12.out b BM_w12.out.size
  have gB_w13 : Hid (Blk w13 X5 (B3 (.slice ga0 gan gaq) (.slice gl0 gln glq) (.slice gc0 gcn gcq)) 27) := gB_w12.out.below b gB_w12.out.lt
  have g_w13 : Hid (Obk W4.heap.size w13 (.slice ga0 gan gaq) (.slice gl0 gln glq) (.slice gc0 gcn gcq) (mkT 1 T.length) (marks .i64 (1 + 3 * T.length) L.length) (marks .i64 (1 + 3 * T.length + L.length) C.length)) := g_w12.out.below b
  clear b B_w12 BM_w12 gB_w12 g_w12 h_w12 hB_w12 t0 t1 t2
  rw [HMM.out]
  have hmn : ¬ mm < 0 := by have := HMM.out; omega
  have hqm : (mm != mm) = false := by simp
  go_wp2
  go_ret
  exact ⟨rfl, belowCall HB0.out B_w13.out HB0.out.size⟩

end Go.Proofs.YtmfmlbiplagmiaaDoor
