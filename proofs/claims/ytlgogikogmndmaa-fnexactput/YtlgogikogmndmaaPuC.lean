/- The law of Put, where both tell alike; no condition. -/
import Derived.Test.YtlgogikogmndmaaPti
import Derived.Test.YtlgogikogmndmaaPmh
import Derived.Test.YtlgogikogmndmaaInv
import Derived.Test.YtlgogikogmndmaaPlh
import Derived.Deep.DeepCutAuto
namespace Go.Proofs.Ytlgogikogmndmaa
open Go.RowKit Go.ChangeShapes Go.WideShapes Go.ChangeAt
set_option linter.unusedVariables false
set_option linter.unusedSimpArgs false
set_option maxRecDepth 8000

theorem og_blk_ne {base : Nat} {W : World} {v : Value} {ls : List Pk} {g : Nat} {cs : Array Value} {t : TypeId} (h : Og 18 pkC 38 base W v ls) (hb : Blk W g cs t) (ht : t ≠ 38) : v.ownBlock ≠ some g := by
  intro e
  rcases h.2 with ⟨rfl, -⟩ | ⟨k, cap, cur, rfl, -, hg, -⟩
  · cases e
  · obtain rfl : k = g := by simpa [Value.ownBlock] using e
    rw [Blk, hg] at hb
    cases hb
    exact ht rfl
theorem Og.grownN {base : Nat} {W W' : World} {v : Value} {ls : List Pk} {row : Option Nat} (h : Og 18 pkC 38 base W v ls) (hg : W.grownBy W' row) (hne : v.ownBlock = none ∨ v.ownBlock ≠ row) : Og 18 pkC 38 base W' v ls := World.ownsRow.kept h hg hne
theorem og_setRow {base X : Nat} {W : World} {v : Value} {ls : List Pk} {cs cs' : Array Value} {t : TypeId} (h : Og 18 pkC 38 base W v ls) (hb : Blk W X cs t) (ht : t ≠ 38) : Og 18 pkC 38 base (W.setRow X cs') v ls :=
  World.ownsRow.kept (row := some X) h ⟨rfl, rfl, rfl, by simp, fun i _ hi => setRow_other W _ i _ (fun e => hi (by simp [e]))⟩ (.inr (og_blk_ne h hb ht))
structure Ru (Wd : World) (p : Pl) (pp : Pl) (a : Option Addr) (cap : Nat) (k : Pk) (ls : List Pk) (st : List Pk) (ok : Bool) (d : Nat → Bool) (W : World) (v0 v1 v2 v3 v4 v5 v6 v7 v8 v9 v10 : Value) (av : Option Addr) (cv : Nat) (a0 : Option Addr) (c0 : Nat) (X : Nat) : Prop where
  bel : Below Wd.heap.size Wd W
  f0 : d 0 = true → v0 = .agg (plA p (.slice a ls.length cap))
  f1 : d 1 = true → v1 = .agg (plA p (.slice av ls.length cv))
  f2 : d 2 = true → v2 = .agg (pkA k)
  f3 : d 3 = true → v3 = .agg (pkA k)
  f4 : d 4 = true → v4 = .tuple #[.agg (plA pp (.slice a0 st.length c0)), .bool ok]
  f5 : d 5 = true → v5 = .tuple #[.agg (plA pp (.slice a0 st.length c0)), .bool ok]
  f6 : d 6 = true → v6 = .agg (plA pp (.slice a0 st.length c0))
  f7 : d 7 = true → v7 = .bool ok
  f8 : d 8 = true → v8 = .pointer (some ⟨X, 0, none⟩)
  f10 : d 10 = true → v10 = .bool ok
  o1 : d 1 = true → d 4 = false → Rg 18 pkC W (.slice av ls.length cv) ls
  o4 : d 4 = true → Og 18 pkC 38 Wd.heap.size W (.slice a0 st.length c0) st
  k8 : d 8 = true → d 9 = false → Blk W X (plA ⟨0, 0, 0, 0, 0⟩ (.slice none 0 0)) 29
  x8 : d 8 = true → Wd.heap.size ≤ X
  k9 : d 9 = true → Blk W X (plA pp (.slice a0 st.length c0)) 29
  g5_4 : d 5 = true → d 4 = true
  g6_4 : d 6 = true → d 4 = true
  g9_4 : d 9 = true → d 4 = true
  g9_8 : d 9 = true → d 8 = true
  g4_1 : d 4 = true → d 1 = true
def RuS (Wd : World) (p : Pl) (pp : Pl) (a : Option Addr) (cap : Nat) (k : Pk) (ls : List Pk) (st : List Pk) (ok : Bool) (d : Nat → Bool) (q : List Value) (W : World) : Prop := ∃ v0 v1 v2 v3 v4 v5 v6 v7 v8 v9 v10 av cv a0 c0 X, q = [v0, v1, v2, v3, v4, v5, v6, v7, v8, v9, v10] ∧ Ru Wd p pp a cap k ls st ok d W v0 v1 v2 v3 v4 v5 v6 v7 v8 v9 v10 av cv a0 c0 X
theorem Ru.below {Wd : World} {p : Pl} {pp : Pl} {a : Option Addr} {cap : Nat} {k : Pk} {ls : List Pk} {st : List Pk} {ok : Bool} {d : Nat → Bool} {W W' : World} {v0 v1 v2 v3 v4 v5 v6 v7 v8 v9 v10 : Value} {av : Option Addr} {cv : Nat} {a0 : Option Addr} {c0 : Nat} {X : Nat} (h : Ru Wd p pp a cap k ls st ok d W v0 v1 v2 v3 v4 v5 v6 v7 v8 v9 v10 av cv a0 c0 X) (hb : Below W.heap.size W W') : Ru Wd p pp a cap k ls st ok d W' v0 v1 v2 v3 v4 v5 v6 v7 v8 v9 v10 av cv a0 c0 X :=
  { h with
    bel := belowCall h.bel hb h.bel.size
    o1 := fun e0 e1 => (h.o1 e0 e1).below hb
    o4 := fun e0 => (h.o4 e0).below hb
    k8 := fun e0 e1 => (h.k8 e0 e1).below hb (h.k8 e0 e1).lt
    k9 := fun e0 => (h.k9 e0).below hb (h.k9 e0).lt
  }
structure Rv (Wd : World) (p : Pl) (pp : Pl) (a : Option Addr) (cap : Nat) (k : Pk) (ls : List Pk) (st : List Pk) (ok : Bool) (d : Nat → Bool) (W : World) (v0 v1 v2 v3 v4 v5 v6 v7 v8 v9 : Value) (a0 : Option Addr) (c0 : Nat) (X : Nat) : Prop where
  bel : Below Wd.heap.size Wd W
  f0 : d 0 = true → v0 = .agg (plA p (.slice a ls.length cap))
  f1 : d 1 = true → v1 = .agg (pkA k)
  f2 : d 2 = true → v2 = .agg (pkA k)
  f3 : d 3 = true → v3 = .tuple #[.agg (plA pp (.slice a0 st.length c0)), .bool ok]
  f4 : d 4 = true → v4 = .tuple #[.agg (plA pp (.slice a0 st.length c0)), .bool ok]
  f5 : d 5 = true → v5 = .agg (plA pp (.slice a0 st.length c0))
  f6 : d 6 = true → v6 = .bool ok
  f7 : d 7 = true → v7 = .pointer (some ⟨X, 0, none⟩)
  f9 : d 9 = true → v9 = .bool ok
  o3 : d 3 = true → Og 18 pkC 38 Wd.heap.size W (.slice a0 st.length c0) st
  k7 : d 7 = true → d 8 = false → Blk W X (plA ⟨0, 0, 0, 0, 0⟩ (.slice none 0 0)) 29
  x7 : d 7 = true → Wd.heap.size ≤ X
  k8 : d 8 = true → Blk W X (plA pp (.slice a0 st.length c0)) 29
  g4_3 : d 4 = true → d 3 = true
  g5_3 : d 5 = true → d 3 = true
  g8_3 : d 8 = true → d 3 = true
  g8_7 : d 8 = true → d 7 = true
def RvS (Wd : World) (p : Pl) (pp : Pl) (a : Option Addr) (cap : Nat) (k : Pk) (ls : List Pk) (st : List Pk) (ok : Bool) (d : Nat → Bool) (q : List Value) (W : World) : Prop := ∃ v0 v1 v2 v3 v4 v5 v6 v7 v8 v9 a0 c0 X, q = [v0, v1, v2, v3, v4, v5, v6, v7, v8, v9] ∧ Rv Wd p pp a cap k ls st ok d W v0 v1 v2 v3 v4 v5 v6 v7 v8 v9 a0 c0 X
theorem Rv.below {Wd : World} {p : Pl} {pp : Pl} {a : Option Addr} {cap : Nat} {k : Pk} {ls : List Pk} {st : List Pk} {ok : Bool} {d : Nat → Bool} {W W' : World} {v0 v1 v2 v3 v4 v5 v6 v7 v8 v9 : Value} {a0 : Option Addr} {c0 : Nat} {X : Nat} (h : Rv Wd p pp a cap k ls st ok d W v0 v1 v2 v3 v4 v5 v6 v7 v8 v9 a0 c0 X) (hb : Below W.heap.size W W') : Rv Wd p pp a cap k ls st ok d W' v0 v1 v2 v3 v4 v5 v6 v7 v8 v9 a0 c0 X :=
  { h with
    bel := belowCall h.bel hb h.bel.size
    o3 := fun e0 => (h.o3 e0).below hb
    k7 := fun e0 e1 => (h.k7 e0 e1).below hb (h.k7 e0 e1).lt
    k8 := fun e0 => (h.k8 e0).below hb (h.k8 e0).lt
  }
set_option maxHeartbeats 25600000 in
theorem puCore (p pp : Pl) (k : Pk) (v : Value) (ls st : List Pk) (ok : Bool) (w : World) (h : Rg 18 pkC w v ls) (hst : st.length ≤ 1048577)
    (hM : ∀ W u, Rg 18 pkC W u ls → Calls Try.prog 12 #[.agg (plA p u), .agg (pkA k)] W (PuR pp st ok W))
    (hI : ∀ W u, Rg 18 pkC W u ls → Calls Try.prog 14 #[.agg (plA p u), .agg (pkA k)] W (PuR pp st ok W)) (hl : ls.length ≤ 1048576) :
    Calls Try.prog 4 #[.agg (plA p v), .agg (pkA k)] w fun e w' => e = .returned (.bool true) ∧ Below w.heap.size w w' := by
  have HR0 : Hid (Rg 18 pkC w v ls) := h
  have HM : Hid (∀ W u, Rg 18 pkC W u ls → Calls Try.prog 12 #[.agg (plA p u), .agg (pkA k)] W (PuR pp st ok W)) := hM
  have HI : Hid (∀ W u, Rg 18 pkC W u ls → Calls Try.prog 14 #[.agg (plA p u), .agg (pkA k)] W (PuR pp st ok W)) := hI
  have HL : Hid (ls.length ≤ 1048576) := hl
  have okk : (ok != ok) = false := by simp
  obtain ⟨a, cap, rfl, -⟩ := h
  obtain ⟨GA, hGA⟩ : ∃ g, w.heap.size = g := ⟨_, rfl⟩
  obtain ⟨GP, hGP⟩ : ∃ g, GA + 1 = g := ⟨_, rfl⟩
  obtain ⟨W0, hW0⟩ : ∃ W, (w.alloc (Obj.cells (plA p (.slice a ls.length cap)) 24)).alloc (Obj.cells (pkA k) 35) = W := ⟨_, rfl⟩
  have B_W0 : Hid (Below w.heap.size w W0) := by rw [← hW0]; exact ((Below.refl _ _).alloc (Nat.le_refl _) _).alloc (by simp) _
  have K_W0 : Hid (Blk W0 GA (plA p (.slice a ls.length cap)) 24) := by rw [← hW0, ← hGA]; exact (Blk.new _ _ _).alloc _
  have KP_W0 : Hid (Blk W0 GP (pkA k) 35) := by rw [← hW0, ← hGP, ← hGA]; exact Blk.newAt _ _ _ _ (by simp)
  have HW0 : Hid ((w.alloc (Obj.cells (plA p (.slice a ls.length cap)) 24)).alloc (Obj.cells (pkA k) 35) = W0 ∧ w.heap.size = GA ∧ GA + 1 = GP) := ⟨hW0, hGA, hGP⟩
  clear hM hI hW0 hGA hGP
  have k0 := K_W0.out.cell 0
  have k1 := K_W0.out.cell 1
  have k2 := K_W0.out.cell 2
  have k3 := K_W0.out.cell 3
  have k4 := K_W0.out.cell 4
  have k5 := K_W0.out.cell 5
  simp at k0 k1 k2 k3 k4 k5
  go_enter Try.func4, Try.ntmps4
  go_upto_region 1 with fail
  rw [HW0.out.1, HW0.out.2.1, HW0.out.2.2]
  clear HW0
  go_wp2_with (fail)
  have hsz := szPl_c p _ ls 1048576 W0 (HR0.out.below B_W0.out) (by omega) (by omega)
  rw [if_neg (by omega)] at hsz
  refine hsz.mono ?_
  rintro e w1 ⟨rfl, b⟩
  have B_w1 : Hid (Below w.heap.size w w1) := belowCall B_W0.out b B_W0.out.size
  have K_w1 : Hid (Blk w1 GA (plA p (.slice a ls.length cap)) 24) := K_W0.out.below b K_W0.out.lt
  have KP_w1 : Hid (Blk w1 GP (pkA k) 35) := KP_W0.out.below b KP_W0.out.lt
  have gg : ¬ (1048576 : Int) - (ls.length : Int) < 0 := by omega
  clear b hsz k0 k1 k2 k3 k4 k5 B_W0 K_W0 KP_W0
  go_upto_region 5 with fail
  have HRB : Hid (Rg 18 pkC w1.drew (.slice a ls.length cap) ls) := HR0.out.below B_w1.out.drew
  have HKA : Hid (Blk w1.drew GA (plA p (.slice a ls.length cap)) 24) := K_w1.out
  have HKP : Hid (Blk w1.drew GP (pkA k) 35) := KP_w1.out
  refine region_vals [undef, undef, undef, undef, undef, undef, undef, undef, undef, undef, undef] (RuS (w1.drew) (p) (pp) (a) (cap) (k) (ls) (st) (ok)) (by kernel_rfl) (by kernel_rfl) ?_ ⟨?_, ?_, ?_, ?_, ?_, ?_, ?_, ?_, ?_, ?_, ?_, trivial⟩ ?_
  · refine ⟨_, _, _, _, _, _, _, _, _, _, _, none, 0, none, 0, 0, rfl, ⟨(Below.refl _ _), ?_, ?_, ?_, ?_, ?_, ?_, ?_, ?_, ?_, ?_, ?_, ?_, ?_, ?_, ?_, ?_, ?_, ?_, ?_, ?_⟩⟩ <;> simp
  · rintro d vs W ⟨v0, v1, v2, v3, v4, v5, v6, v7, v8, v9, v10, av, cv, a0, c0, X, rfl, H⟩ hn hd
    simp only [putAll, Act.put, List.setIfInBounds_toArray, List.set_cons_succ, List.set_cons_zero]
    have HKW : Hid (Blk W GA (plA p (.slice a ls.length cap)) 24) := HKA.out.below H.bel HKA.out.lt
    have HH1 : Hid (Ru (w1.drew) (p) (pp) (a) (cap) (k) (ls) (st) (ok) d W v0 v1 v2 v3 v4 v5 v6 v7 v8 v9 v10 av cv a0 c0 X) := H
    clear H
    have HHN : Hid (d 0 = false) := hn
    clear hd hn
    go_wp2_with (refine wpList_load_row rfl 24 _ rfl GA rfl 24 (plA p (.slice a ls.length cap)) (0, 0) _ HKW.out Try.underlying24 rfl (by kernel_rfl) ?_)
    have H0 := HH1.out
    have H := HH1.out
    have hn := HHN.out
    refine ⟨rfl, [.agg (plA p (.slice a ls.length cap)), v1, v2, v3, v4, v5, v6, v7, v8, v9, v10], ?_, .agg (plA p (.slice a ls.length cap)), v1, v2, v3, v4, v5, v6, v7, v8, v9, v10, av, cv, a0, c0, X, rfl, ⟨H.bel, (fun _ => rfl), (by have h := H.f1; simpa [doneSet] using h), (by have h := H.f2; simpa [doneSet] using h), (by have h := H.f3; simpa [doneSet] using h), (by have h := H.f4; simpa [doneSet] using h), (by have h := H.f5; simpa [doneSet] using h), (by have h := H.f6; simpa [doneSet] using h), (by have h := H.f7; simpa [doneSet] using h), (by have h := H.f8; simpa [doneSet] using h), (by have h := H.f10; simpa [doneSet] using h), (by have h := H.o1; simpa [doneSet] using h), (by have h := H.o4; simpa [doneSet] using h), (by have h := H.k8; simpa [doneSet] using h), (by have h := H.x8; simpa [doneSet] using h), (by have h := H.k9; simpa [doneSet] using h), (by have h := H.g5_4; simpa [doneSet] using h), (by have h := H.g6_4; simpa [doneSet] using h), (by have h := H.g9_4; simpa [doneSet] using h), (by have h := H.g9_8; simpa [doneSet] using h), (by have h := H.g4_1; simpa [doneSet] using h)⟩⟩
    simp only [putAll, Act.put, List.setIfInBounds_toArray, List.set_cons_succ, List.set_cons_zero]
    all_goals rfl
  · rintro d vs W ⟨v0, v1, v2, v3, v4, v5, v6, v7, v8, v9, v10, av, cv, a0, c0, X, rfl, H⟩ hn hd
    simp only [putAll, Act.put, List.setIfInBounds_toArray, List.set_cons_succ, List.set_cons_zero]
    have h0 : d 0 = true := hd { on := 0, ground := .data } (by simp) rfl
    have HRW : Hid (Rg 18 pkC W (.slice a ls.length cap) ls) := HRB.out.below H.bel
    obtain rfl := H.f0 h0
    have HH1 : Hid (Ru (w1.drew) (p) (pp) (a) (cap) (k) (ls) (st) (ok) d W (.agg (plA p (.slice a ls.length cap))) v1 v2 v3 v4 v5 v6 v7 v8 v9 v10 av cv a0 c0 X) := H
    clear H
    have HHN : Hid (d 1 = false) := hn
    have HHD : Hid (d 0 = true) := h0
    clear hd hn h0
    go_wp2_with (fail)
    refine (toPl_c p _ ls W HRW.out HL.out).mono ?_
    rintro e W3 ⟨v7, rfl, o7, b7⟩
    have HB7 : Hid (Below W.heap.size W W3) := b7
    obtain ⟨a7, c7, rfl⟩ := o7.form
    have HO7 : Hid (Rg 18 pkC W3 (.slice a7 ls.length c7) ls) := o7.rd pkC_len
    clear b7 o7
    go_wp2
    have H0 := HH1.out
    have H := HH1.out.below HB7.out
    have hn := HHN.out
    have h0 := HHD.out
    refine ⟨rfl, [.agg (plA p (.slice a ls.length cap)), .agg (plA p (.slice a7 ls.length c7)), v2, v3, v4, v5, v6, v7, v8, v9, v10], ?_, .agg (plA p (.slice a ls.length cap)), .agg (plA p (.slice a7 ls.length c7)), v2, v3, v4, v5, v6, v7, v8, v9, v10, a7, c7, a0, c0, X, rfl, ⟨H.bel, (fun _ => rfl), (fun _ => rfl), (by have h := H.f2; simpa [doneSet] using h), (by have h := H.f3; simpa [doneSet] using h), (by have h := H.f4; simpa [doneSet] using h), (by have h := H.f5; simpa [doneSet] using h), (by have h := H.f6; simpa [doneSet] using h), (by have h := H.f7; simpa [doneSet] using h), (by have h := H.f8; simpa [doneSet] using h), (by have h := H.f10; simpa [doneSet] using h), (fun _ _ => HO7.out), (by have h := H.o4; simpa [doneSet] using h), (by have h := H.k8; simpa [doneSet] using h), (by have h := H.x8; simpa [doneSet] using h), (by have h := H.k9; simpa [doneSet] using h), (by have h := H.g5_4; simpa [doneSet] using h), (by have h := H.g6_4; simpa [doneSet] using h), (by have h := H.g9_4; simpa [doneSet] using h), (by have h := H.g9_8; simpa [doneSet] using h), (fun _ => by simp [doneSet])⟩⟩
    simp only [putAll, Act.put, List.setIfInBounds_toArray, List.set_cons_succ, List.set_cons_zero]
    all_goals rfl
  · rintro d vs W ⟨v0, v1, v2, v3, v4, v5, v6, v7, v8, v9, v10, av, cv, a0, c0, X, rfl, H⟩ hn hd
    simp only [putAll, Act.put, List.setIfInBounds_toArray, List.set_cons_succ, List.set_cons_zero]
    have HKW : Hid (Blk W GP (pkA k) 35) := HKP.out.below H.bel HKP.out.lt
    have HH1 : Hid (Ru (w1.drew) (p) (pp) (a) (cap) (k) (ls) (st) (ok) d W v0 v1 v2 v3 v4 v5 v6 v7 v8 v9 v10 av cv a0 c0 X) := H
    clear H
    have HHN : Hid (d 2 = false) := hn
    clear hd hn
    go_wp2_with (refine wpList_load_row rfl 35 _ rfl GP rfl 35 (pkA k) (0, 0) _ HKW.out Try.underlying35 rfl (by rw [pkA_size]; kernel_rfl) ?_)
    have H0 := HH1.out
    have H := HH1.out
    have hn := HHN.out
    refine ⟨rfl, [v0, v1, .agg (pkA k), v3, v4, v5, v6, v7, v8, v9, v10], ?_, v0, v1, .agg (pkA k), v3, v4, v5, v6, v7, v8, v9, v10, av, cv, a0, c0, X, rfl, ⟨H.bel, (by have h := H.f0; simpa [doneSet] using h), (by have h := H.f1; simpa [doneSet] using h), (fun _ => rfl), (by have h := H.f3; simpa [doneSet] using h), (by have h := H.f4; simpa [doneSet] using h), (by have h := H.f5; simpa [doneSet] using h), (by have h := H.f6; simpa [doneSet] using h), (by have h := H.f7; simpa [doneSet] using h), (by have h := H.f8; simpa [doneSet] using h), (by have h := H.f10; simpa [doneSet] using h), (by have h := H.o1; simpa [doneSet] using h), (by have h := H.o4; simpa [doneSet] using h), (by have h := H.k8; simpa [doneSet] using h), (by have h := H.x8; simpa [doneSet] using h), (by have h := H.k9; simpa [doneSet] using h), (by have h := H.g5_4; simpa [doneSet] using h), (by have h := H.g6_4; simpa [doneSet] using h), (by have h := H.g9_4; simpa [doneSet] using h), (by have h := H.g9_8; simpa [doneSet] using h), (by have h := H.g4_1; simpa [doneSet] using h)⟩⟩
    simp only [putAll, Act.put, List.setIfInBounds_toArray, List.set_cons_succ, List.set_cons_zero]
    all_goals rfl
  · rintro d vs W ⟨v0, v1, v2, v3, v4, v5, v6, v7, v8, v9, v10, av, cv, a0, c0, X, rfl, H⟩ hn hd
    simp only [putAll, Act.put, List.setIfInBounds_toArray, List.set_cons_succ, List.set_cons_zero]
    have h2 : d 2 = true := hd { on := 2, ground := .data } (by simp) rfl
    obtain rfl := H.f2 h2
    have HH1 : Hid (Ru (w1.drew) (p) (pp) (a) (cap) (k) (ls) (st) (ok) d W v0 v1 (.agg (pkA k)) v3 v4 v5 v6 v7 v8 v9 v10 av cv a0 c0 X) := H
    clear H
    have HHN : Hid (d 3 = false) := hn
    have HHD : Hid (d 2 = true) := h2
    clear hd hn h2
    go_wp2_with (fail)
    refine (toPk_c k W).mono ?_
    rintro e W3 ⟨rfl, b7⟩
    have HB7 : Hid (Below W.heap.size W W3) := b7
    clear b7
    go_wp2
    have H0 := HH1.out
    have H := HH1.out.below HB7.out
    have hn := HHN.out
    have h2 := HHD.out
    refine ⟨rfl, [v0, v1, .agg (pkA k), .agg (pkA k), v4, v5, v6, v7, v8, v9, v10], ?_, v0, v1, .agg (pkA k), .agg (pkA k), v4, v5, v6, v7, v8, v9, v10, av, cv, a0, c0, X, rfl, ⟨H.bel, (by have h := H.f0; simpa [doneSet] using h), (by have h := H.f1; simpa [doneSet] using h), (fun _ => rfl), (fun _ => rfl), (by have h := H.f4; simpa [doneSet] using h), (by have h := H.f5; simpa [doneSet] using h), (by have h := H.f6; simpa [doneSet] using h), (by have h := H.f7; simpa [doneSet] using h), (by have h := H.f8; simpa [doneSet] using h), (by have h := H.f10; simpa [doneSet] using h), (by have h := H.o1; simpa [doneSet] using h), (by have h := H.o4; simpa [doneSet] using h), (by have h := H.k8; simpa [doneSet] using h), (by have h := H.x8; simpa [doneSet] using h), (by have h := H.k9; simpa [doneSet] using h), (by have h := H.g5_4; simpa [doneSet] using h), (by have h := H.g6_4; simpa [doneSet] using h), (by have h := H.g9_4; simpa [doneSet] using h), (by have h := H.g9_8; simpa [doneSet] using h), (by have h := H.g4_1; simpa [doneSet] using h)⟩⟩
    simp only [putAll, Act.put, List.setIfInBounds_toArray, List.set_cons_succ, List.set_cons_zero]
    all_goals rfl
  · rintro d vs W ⟨v0, v1, v2, v3, v4, v5, v6, v7, v8, v9, v10, av, cv, a0, c0, X, rfl, H⟩ hn hd
    simp only [putAll, Act.put, List.setIfInBounds_toArray, List.set_cons_succ, List.set_cons_zero]
    have h1 : d 1 = true := hd { on := 1, ground := .data } (by simp) rfl
    have h3 : d 3 = true := hd { on := 3, ground := .data } (by simp) rfl
    have HO1 : Hid (Rg 18 pkC W (.slice av ls.length cv) ls) := H.o1 h1 hn
    obtain rfl := H.f1 h1
    obtain rfl := H.f3 h3
    have HH1 : Hid (Ru (w1.drew) (p) (pp) (a) (cap) (k) (ls) (st) (ok) d W v0 (.agg (plA p (.slice av ls.length cv))) v2 (.agg (pkA k)) v4 v5 v6 v7 v8 v9 v10 av cv a0 c0 X) := H
    clear H
    have HHN : Hid (d 4 = false) := hn
    have HHD : Hid (d 1 = true ∧ d 3 = true) := ⟨h1, h3⟩
    clear hd hn h1 h3
    go_wp2_with (fail)
    refine (HM.out W _ HO1.out).mono ?_
    rintro e W3 ⟨v7, rfl, o7, b7⟩
    have HB7 : Hid (Below W.heap.size W W3) := b7
    obtain ⟨a7, c7, rfl⟩ := o7.form
    have HO7 : Hid (Og 18 pkC 38 W.heap.size W3 (.slice a7 st.length c7) st) := o7
    clear b7 o7
    go_wp2
    have H0 := HH1.out
    have H := HH1.out.below HB7.out
    have hn := HHN.out
    have h1 := HHD.out.1
    have h3 := HHD.out.2
    refine ⟨rfl, [v0, .agg (plA p (.slice av ls.length cv)), v2, .agg (pkA k), .tuple #[.agg (plA pp (.slice a7 st.length c7)), .bool ok], v5, v6, v7, v8, v9, v10], ?_, v0, .agg (plA p (.slice av ls.length cv)), v2, .agg (pkA k), .tuple #[.agg (plA pp (.slice a7 st.length c7)), .bool ok], v5, v6, v7, v8, v9, v10, av, cv, a7, c7, X, rfl, ⟨H.bel, (by have h := H.f0; simpa [doneSet] using h), (fun _ => rfl), (by have h := H.f2; simpa [doneSet] using h), (fun _ => rfl), (fun _ => rfl), (fun e => absurd (H0.g5_4 (by simpa [doneSet] using e)) (by rw [hn]; simp)), (fun e => absurd (H0.g6_4 (by simpa [doneSet] using e)) (by rw [hn]; simp)), (by have h := H.f7; simpa [doneSet] using h), (by have h := H.f8; simpa [doneSet] using h), (by have h := H.f10; simpa [doneSet] using h), (fun _ e => absurd e (by simp [doneSet])), (fun _ => HO7.out.mono H0.bel.size), (by have h := H.k8; simpa [doneSet] using h), (by have h := H.x8; simpa [doneSet] using h), (fun e => absurd (H0.g9_4 (by simpa [doneSet] using e)) (by rw [hn]; simp)), (fun _ => by simp [doneSet]), (fun _ => by simp [doneSet]), (fun _ => by simp [doneSet]), (by have h := H.g9_8; simpa [doneSet] using h), (fun _ => by simpa [doneSet] using h1)⟩⟩
    simp only [putAll, Act.put, List.setIfInBounds_toArray, List.set_cons_succ, List.set_cons_zero]
    all_goals rfl
  · rintro d vs W ⟨v0, v1, v2, v3, v4, v5, v6, v7, v8, v9, v10, av, cv, a0, c0, X, rfl, H⟩ hn hd
    simp only [putAll, Act.put, List.setIfInBounds_toArray, List.set_cons_succ, List.set_cons_zero]
    have h4 : d 4 = true := hd { on := 4, ground := .data } (by simp) rfl
    obtain rfl := H.f4 h4
    have HH1 : Hid (Ru (w1.drew) (p) (pp) (a) (cap) (k) (ls) (st) (ok) d W v0 v1 v2 v3 (.tuple #[.agg (plA pp (.slice a0 st.length c0)), .bool ok]) v5 v6 v7 v8 v9 v10 av cv a0 c0 X) := H
    clear H
    have HHN : Hid (d 5 = false) := hn
    have HHD : Hid (d 4 = true) := h4
    clear hd hn h4
    go_wp2
    have H0 := HH1.out
    have H := HH1.out
    have hn := HHN.out
    have h4 := HHD.out
    refine ⟨rfl, [v0, v1, v2, v3, .tuple #[.agg (plA pp (.slice a0 st.length c0)), .bool ok], .tuple #[.agg (plA pp (.slice a0 st.length c0)), .bool ok], v6, v7, v8, v9, v10], ?_, v0, v1, v2, v3, .tuple #[.agg (plA pp (.slice a0 st.length c0)), .bool ok], .tuple #[.agg (plA pp (.slice a0 st.length c0)), .bool ok], v6, v7, v8, v9, v10, av, cv, a0, c0, X, rfl, ⟨H.bel, (by have h := H.f0; simpa [doneSet] using h), (by have h := H.f1; simpa [doneSet] using h), (by have h := H.f2; simpa [doneSet] using h), (by have h := H.f3; simpa [doneSet] using h), (fun _ => rfl), (fun _ => rfl), (by have h := H.f6; simpa [doneSet] using h), (by have h := H.f7; simpa [doneSet] using h), (by have h := H.f8; simpa [doneSet] using h), (by have h := H.f10; simpa [doneSet] using h), (by have h := H.o1; simpa [doneSet] using h), (by have h := H.o4; simpa [doneSet] using h), (by have h := H.k8; simpa [doneSet] using h), (by have h := H.x8; simpa [doneSet] using h), (by have h := H.k9; simpa [doneSet] using h), (fun _ => by simpa [doneSet] using h4), (by have h := H.g6_4; simpa [doneSet] using h), (by have h := H.g9_4; simpa [doneSet] using h), (by have h := H.g9_8; simpa [doneSet] using h), (by have h := H.g4_1; simpa [doneSet] using h)⟩⟩
    simp only [putAll, Act.put, List.setIfInBounds_toArray, List.set_cons_succ, List.set_cons_zero]
    all_goals rfl
  · rintro d vs W ⟨v0, v1, v2, v3, v4, v5, v6, v7, v8, v9, v10, av, cv, a0, c0, X, rfl, H⟩ hn hd
    simp only [putAll, Act.put, List.setIfInBounds_toArray, List.set_cons_succ, List.set_cons_zero]
    have h5 : d 5 = true := hd { on := 5, ground := .data } (by simp) rfl
    have h4 := H.g5_4 h5
    obtain rfl := H.f5 h5
    have HH1 : Hid (Ru (w1.drew) (p) (pp) (a) (cap) (k) (ls) (st) (ok) d W v0 v1 v2 v3 v4 (.tuple #[.agg (plA pp (.slice a0 st.length c0)), .bool ok]) v6 v7 v8 v9 v10 av cv a0 c0 X) := H
    clear H
    have HHN : Hid (d 6 = false) := hn
    have HHD : Hid (d 5 = true) := h5
    clear hd hn h5
    go_wp2
    have H0 := HH1.out
    have H := HH1.out
    have hn := HHN.out
    have h5 := HHD.out
    refine ⟨rfl, [v0, v1, v2, v3, v4, .tuple #[.agg (plA pp (.slice a0 st.length c0)), .bool ok], .agg (plA pp (.slice a0 st.length c0)), v7, v8, v9, v10], ?_, v0, v1, v2, v3, v4, .tuple #[.agg (plA pp (.slice a0 st.length c0)), .bool ok], .agg (plA pp (.slice a0 st.length c0)), v7, v8, v9, v10, av, cv, a0, c0, X, rfl, ⟨H.bel, (by have h := H.f0; simpa [doneSet] using h), (by have h := H.f1; simpa [doneSet] using h), (by have h := H.f2; simpa [doneSet] using h), (by have h := H.f3; simpa [doneSet] using h), (by have h := H.f4; simpa [doneSet] using h), (fun _ => rfl), (fun _ => rfl), (by have h := H.f7; simpa [doneSet] using h), (by have h := H.f8; simpa [doneSet] using h), (by have h := H.f10; simpa [doneSet] using h), (by have h := H.o1; simpa [doneSet] using h), (by have h := H.o4; simpa [doneSet] using h), (by have h := H.k8; simpa [doneSet] using h), (by have h := H.x8; simpa [doneSet] using h), (by have h := H.k9; simpa [doneSet] using h), (by have h := H.g5_4; simpa [doneSet] using h), (fun _ => by simpa [doneSet] using h4), (by have h := H.g9_4; simpa [doneSet] using h), (by have h := H.g9_8; simpa [doneSet] using h), (by have h := H.g4_1; simpa [doneSet] using h)⟩⟩
    simp only [putAll, Act.put, List.setIfInBounds_toArray, List.set_cons_succ, List.set_cons_zero]
    all_goals rfl
  · rintro d vs W ⟨v0, v1, v2, v3, v4, v5, v6, v7, v8, v9, v10, av, cv, a0, c0, X, rfl, H⟩ hn hd
    simp only [putAll, Act.put, List.setIfInBounds_toArray, List.set_cons_succ, List.set_cons_zero]
    have h5 : d 5 = true := hd { on := 5, ground := .data } (by simp) rfl
    obtain rfl := H.f5 h5
    have HH1 : Hid (Ru (w1.drew) (p) (pp) (a) (cap) (k) (ls) (st) (ok) d W v0 v1 v2 v3 v4 (.tuple #[.agg (plA pp (.slice a0 st.length c0)), .bool ok]) v6 v7 v8 v9 v10 av cv a0 c0 X) := H
    clear H
    have HHN : Hid (d 7 = false) := hn
    have HHD : Hid (d 5 = true) := h5
    clear hd hn h5
    go_wp2
    have H0 := HH1.out
    have H := HH1.out
    have hn := HHN.out
    have h5 := HHD.out
    refine ⟨rfl, [v0, v1, v2, v3, v4, .tuple #[.agg (plA pp (.slice a0 st.length c0)), .bool ok], v6, .bool ok, v8, v9, v10], ?_, v0, v1, v2, v3, v4, .tuple #[.agg (plA pp (.slice a0 st.length c0)), .bool ok], v6, .bool ok, v8, v9, v10, av, cv, a0, c0, X, rfl, ⟨H.bel, (by have h := H.f0; simpa [doneSet] using h), (by have h := H.f1; simpa [doneSet] using h), (by have h := H.f2; simpa [doneSet] using h), (by have h := H.f3; simpa [doneSet] using h), (by have h := H.f4; simpa [doneSet] using h), (fun _ => rfl), (by have h := H.f6; simpa [doneSet] using h), (fun _ => rfl), (by have h := H.f8; simpa [doneSet] using h), (by have h := H.f10; simpa [doneSet] using h), (by have h := H.o1; simpa [doneSet] using h), (by have h := H.o4; simpa [doneSet] using h), (by have h := H.k8; simpa [doneSet] using h), (by have h := H.x8; simpa [doneSet] using h), (by have h := H.k9; simpa [doneSet] using h), (by have h := H.g5_4; simpa [doneSet] using h), (by have h := H.g6_4; simpa [doneSet] using h), (by have h := H.g9_4; simpa [doneSet] using h), (by have h := H.g9_8; simpa [doneSet] using h), (by have h := H.g4_1; simpa [doneSet] using h)⟩⟩
    simp only [putAll, Act.put, List.setIfInBounds_toArray, List.set_cons_succ, List.set_cons_zero]
    all_goals rfl
  · rintro d vs W ⟨v0, v1, v2, v3, v4, v5, v6, v7, v8, v9, v10, av, cv, a0, c0, X, rfl, H⟩ hn hd
    simp only [putAll, Act.put, List.setIfInBounds_toArray, List.set_cons_succ, List.set_cons_zero]
    have HH1 : Hid (Ru (w1.drew) (p) (pp) (a) (cap) (k) (ls) (st) (ok) d W v0 v1 v2 v3 v4 v5 v6 v7 v8 v9 v10 av cv a0 c0 X) := H
    clear H
    have HHN : Hid (d 8 = false) := hn
    clear hd hn
    go_wp2
    have H0 := HH1.out
    have H := HH1.out.below ((Below.refl _ W).alloc (Nat.le_refl _) (.cells (plA ⟨0, 0, 0, 0, 0⟩ (.slice none 0 0)) 29))
    have hn := HHN.out
    refine ⟨rfl, [v0, v1, v2, v3, v4, v5, v6, v7, .pointer (some ⟨W.heap.size, 0, none⟩), v9, v10], ?_, v0, v1, v2, v3, v4, v5, v6, v7, .pointer (some ⟨W.heap.size, 0, none⟩), v9, v10, av, cv, a0, c0, W.heap.size, rfl, ⟨H.bel, (by have h := H.f0; simpa [doneSet] using h), (by have h := H.f1; simpa [doneSet] using h), (by have h := H.f2; simpa [doneSet] using h), (by have h := H.f3; simpa [doneSet] using h), (by have h := H.f4; simpa [doneSet] using h), (by have h := H.f5; simpa [doneSet] using h), (by have h := H.f6; simpa [doneSet] using h), (by have h := H.f7; simpa [doneSet] using h), (fun _ => rfl), (by have h := H.f10; simpa [doneSet] using h), (by have h := H.o1; simpa [doneSet] using h), (by have h := H.o4; simpa [doneSet] using h), (fun _ _ => Blk.new _ _ _), (fun _ => H0.bel.size), (fun e => absurd (H0.g9_8 (by simpa [doneSet] using e)) (by rw [hn]; simp)), (by have h := H.g5_4; simpa [doneSet] using h), (by have h := H.g6_4; simpa [doneSet] using h), (by have h := H.g9_4; simpa [doneSet] using h), (fun _ => by simp [doneSet]), (by have h := H.g4_1; simpa [doneSet] using h)⟩⟩
    simp only [putAll, Act.put, List.setIfInBounds_toArray, List.set_cons_succ, List.set_cons_zero]
    all_goals rfl
  · rintro d vs W ⟨v0, v1, v2, v3, v4, v5, v6, v7, v8, v9, v10, av, cv, a0, c0, X, rfl, H⟩ hn hd
    simp only [putAll, Act.put, List.setIfInBounds_toArray, List.set_cons_succ, List.set_cons_zero]
    have h8 : d 8 = true := hd { on := 8, ground := .data } (by simp) rfl
    have h6 : d 6 = true := hd { on := 6, ground := .data } (by simp) rfl
    have HK8 : Hid (Blk W X (plA ⟨0, 0, 0, 0, 0⟩ (.slice none 0 0)) 29) := H.k8 h8 hn
    have HX8 : Hid (w1.drew.heap.size ≤ X) := H.x8 h8
    have h4 : d 4 = true := H.g6_4 h6
    have HO4 : Hid (Og 18 pkC 38 w1.drew.heap.size W (.slice a0 st.length c0) st) := H.o4 h4
    have HH4 : Hid (d 4 = true) := h4
    obtain rfl := H.f8 h8
    obtain rfl := H.f6 h6
    have HH1 : Hid (Ru (w1.drew) (p) (pp) (a) (cap) (k) (ls) (st) (ok) d W v0 v1 v2 v3 v4 v5 (.agg (plA pp (.slice a0 st.length c0))) v7 (.pointer (some ⟨X, 0, none⟩)) v9 v10 av cv a0 c0 X) := H
    clear H
    have HHN : Hid (d 9 = false) := hn
    have HHD : Hid (d 8 = true ∧ d 6 = true) := ⟨h8, h6⟩
    clear hd hn h8 h6
    go_wp2_with (refine wpList_store_row rfl 29 _ _ rfl X (plA pp (.slice a0 st.length c0)) rfl rfl 29 (plA ⟨0, 0, 0, 0, 0⟩ (.slice none 0 0)) HK8.out (by kernel_rfl) rfl (by simp [Value.oneCell']) ?_)
    have H0 := HH1.out
    have H := HH1.out
    have hn := HHN.out
    have h8 := HHD.out.1
    have h6 := HHD.out.2
    refine ⟨rfl, [v0, v1, v2, v3, v4, v5, .agg (plA pp (.slice a0 st.length c0)), v7, .pointer (some ⟨X, 0, none⟩), undef, v10], ?_, v0, v1, v2, v3, v4, v5, .agg (plA pp (.slice a0 st.length c0)), v7, .pointer (some ⟨X, 0, none⟩), undef, v10, av, cv, a0, c0, X, rfl, ⟨(belowRow H0.bel _ HX8.out _), (by have h := H.f0; simpa [doneSet] using h), (by have h := H.f1; simpa [doneSet] using h), (by have h := H.f2; simpa [doneSet] using h), (by have h := H.f3; simpa [doneSet] using h), (by have h := H.f4; simpa [doneSet] using h), (by have h := H.f5; simpa [doneSet] using h), (fun _ => rfl), (by have h := H.f7; simpa [doneSet] using h), (fun _ => rfl), (by have h := H.f10; simpa [doneSet] using h), (fun _ e => absurd HH4.out (by simp [doneSet] at e; rw [e]; simp)), (fun _ => og_setRow HO4.out HK8.out (by decide)), (fun _ e => absurd e (by simp [doneSet])), (by have h := H.x8; simpa [doneSet] using h), (fun _ => HK8.out.row _), (by have h := H.g5_4; simpa [doneSet] using h), (by have h := H.g6_4; simpa [doneSet] using h), (fun _ => by simpa [doneSet] using HH4.out), (fun _ => by simpa [doneSet] using h8), (by have h := H.g4_1; simpa [doneSet] using h)⟩⟩
    simp only [putAll, Act.put, List.setIfInBounds_toArray, List.set_cons_succ, List.set_cons_zero]
    all_goals rfl
  · rintro d vs W ⟨v0, v1, v2, v3, v4, v5, v6, v7, v8, v9, v10, av, cv, a0, c0, X, rfl, H⟩ hn hd
    simp only [putAll, Act.put, List.setIfInBounds_toArray, List.set_cons_succ, List.set_cons_zero]
    have h7 : d 7 = true := hd { on := 7, ground := .data } (by simp) rfl
    obtain rfl := H.f7 h7
    have HH1 : Hid (Ru (w1.drew) (p) (pp) (a) (cap) (k) (ls) (st) (ok) d W v0 v1 v2 v3 v4 v5 v6 (.bool ok) v8 v9 v10 av cv a0 c0 X) := H
    clear H
    have HHN : Hid (d 10 = false) := hn
    have HHD : Hid (d 7 = true) := h7
    clear hd hn h7
    go_wp2
    have H0 := HH1.out
    have H := HH1.out
    have hn := HHN.out
    have h7 := HHD.out
    refine ⟨rfl, [v0, v1, v2, v3, v4, v5, v6, .bool ok, v8, v9, .bool ok], ?_, v0, v1, v2, v3, v4, v5, v6, .bool ok, v8, v9, .bool ok, av, cv, a0, c0, X, rfl, ⟨H.bel, (by have h := H.f0; simpa [doneSet] using h), (by have h := H.f1; simpa [doneSet] using h), (by have h := H.f2; simpa [doneSet] using h), (by have h := H.f3; simpa [doneSet] using h), (by have h := H.f4; simpa [doneSet] using h), (by have h := H.f5; simpa [doneSet] using h), (by have h := H.f6; simpa [doneSet] using h), (fun _ => rfl), (by have h := H.f8; simpa [doneSet] using h), (fun _ => rfl), (by have h := H.o1; simpa [doneSet] using h), (by have h := H.o4; simpa [doneSet] using h), (by have h := H.k8; simpa [doneSet] using h), (by have h := H.x8; simpa [doneSet] using h), (by have h := H.k9; simpa [doneSet] using h), (by have h := H.g5_4; simpa [doneSet] using h), (by have h := H.g6_4; simpa [doneSet] using h), (by have h := H.g9_4; simpa [doneSet] using h), (by have h := H.g9_8; simpa [doneSet] using h), (by have h := H.g4_1; simpa [doneSet] using h)⟩⟩
    simp only [putAll, Act.put, List.setIfInBounds_toArray, List.set_cons_succ, List.set_cons_zero]
    all_goals rfl
  rintro d vs w2 ⟨v0, v1, v2, v3, v4, v5, v6, v7, v8, v9, v10, av, cv, a1, c1, X1, rfl, H⟩ hn
  obtain rfl := H.f0 (hn 0 (by decide))
  obtain rfl := H.f1 (hn 1 (by decide))
  obtain rfl := H.f2 (hn 2 (by decide))
  obtain rfl := H.f3 (hn 3 (by decide))
  obtain rfl := H.f4 (hn 4 (by decide))
  obtain rfl := H.f5 (hn 5 (by decide))
  obtain rfl := H.f6 (hn 6 (by decide))
  obtain rfl := H.f7 (hn 7 (by decide))
  obtain rfl := H.f8 (hn 8 (by decide))
  obtain rfl := H.f10 (hn 10 (by decide))
  have bE : Below w1.heap.size w1 w2 := (Below.refl _ w1).drew.trans H.bel
  have oE : Og 18 pkC 38 w1.heap.size w2 (.slice a1 st.length c1) st := H.o4 (hn 4 (by decide))
  have kE : Blk w2 X1 (plA pp (.slice a1 st.length c1)) 29 := H.k9 (hn 9 (by decide))
  clear H hn
  have B_w2 : Hid (Below w.heap.size w w2) := belowCall B_w1.out bE B_w1.out.size
  have K_w2 : Hid (Blk w2 GA (plA p (.slice a ls.length cap)) 24) := K_w1.out.below bE K_w1.out.lt
  have KP_w2 : Hid (Blk w2 GP (pkA k) 35) := KP_w1.out.below bE KP_w1.out.lt
  have C0_w2 : Hid (Blk w2 X1 (plA pp (.slice a1 st.length c1)) 29) := kE
  have V0_w2 : Hid (Og 18 pkC 38 w1.heap.size w2 (.slice a1 st.length c1) st) := oE
  have HZ0 : Hid (w1.heap.size ≤ w2.heap.size ∧ w.heap.size ≤ w1.heap.size) := ⟨bE.size, B_w1.out.size⟩
  clear bE kE B_w1 K_w1 KP_w1 gg
  simp only [putAll, Act.put, List.setIfInBounds_toArray, List.set_cons_succ, List.set_cons_zero]
  have HP0 : Hid (∀ j, (Value.slice a1 st.length c1).ownBlock = some j → j < w2.heap.size) := fun j hj => (oE.lt j hj).2
  clear oE HRB HKA HKP
  have k0 := K_w2.out.cell 0
  have k1 := K_w2.out.cell 1
  have k2 := K_w2.out.cell 2
  have k3 := K_w2.out.cell 3
  have k4 := K_w2.out.cell 4
  have k5 := K_w2.out.cell 5
  simp at k0 k1 k2 k3 k4 k5
  go_wp2_with (fail)
  refine (toPl_c p _ ls w2 (HR0.out.below B_w2.out) HL.out).mono ?_
  rintro e w3 ⟨vx, rfl, ox, b⟩
  have HSX : Hid (w.heap.size ≤ w2.heap.size) := B_w2.out.size
  have HXE : Hid (w2.heap.size ≤ w3.heap.size) := b.size
  have B_w3 : Hid (Below w.heap.size w w3) := belowCall B_w2.out b B_w2.out.size
  have K_w3 : Hid (Blk w3 GA (plA p (.slice a ls.length cap)) 24) := K_w2.out.below b K_w2.out.lt
  have KP_w3 : Hid (Blk w3 GP (pkA k) 35) := KP_w2.out.below b KP_w2.out.lt
  have C0_w3 : Hid (Blk w3 X1 (plA pp (.slice a1 st.length c1)) 29) := C0_w2.out.below b C0_w2.out.lt
  have V0_w3 : Hid (Og 18 pkC 38 w1.heap.size w3 (.slice a1 st.length c1) st) := V0_w2.out.below b
  clear b B_w2 K_w2 KP_w2 C0_w2 V0_w2 k0 k1 k2 k3 k4 k5
  obtain ⟨ax, cx, rfl⟩ := ox.form
  have X_w3 : Hid (Og 18 pkC 38 w2.heap.size w3 (.slice ax ls.length cx) ls) := ox
  have HPX : Hid (∀ j, (Value.slice ax ls.length cx : Value).ownBlock = some j → w2.heap.size ≤ j ∧ j < w3.heap.size) := fun j hj => ox.lt j hj
  clear ox
  have ZE_w3 : Hid (w3.heap.size ≤ w3.heap.size) := Nat.le_refl _
  have ba : Below w3.heap.size w3 (w3.alloc (Obj.cells (plA p (.slice ax ls.length cx)) 29)) := (Below.refl _ _).alloc (Nat.le_refl _) _
  have kb : Blk (w3.alloc (Obj.cells (plA p (.slice ax ls.length cx)) 29)) w3.heap.size (plA p (.slice ax ls.length cx)) 29 := Blk.new _ _ _
  obtain ⟨X4, hX4⟩ : ∃ X, w3.heap.size = X := ⟨_, rfl⟩
  obtain ⟨W4, hW4⟩ : ∃ W, w3.alloc (Obj.cells (plA p (.slice ax ls.length cx)) 29) = W := ⟨_, rfl⟩
  rw [hW4] at ba kb
  rw [hX4] at kb
  have B_W4 : Hid (Below w.heap.size w W4) := belowCall B_w3.out ba B_w3.out.size
  have K_W4 : Hid (Blk W4 GA (plA p (.slice a ls.length cap)) 24) := K_w3.out.below ba K_w3.out.lt
  have KP_W4 : Hid (Blk W4 GP (pkA k) 35) := KP_w3.out.below ba KP_w3.out.lt
  have C0_W4 : Hid (Blk W4 X1 (plA pp (.slice a1 st.length c1)) 29) := C0_w3.out.below ba C0_w3.out.lt
  have V0_W4 : Hid (Og 18 pkC 38 w1.heap.size W4 (.slice a1 st.length c1) st) := V0_w3.out.below ba
  have X_W4 : Hid (Og 18 pkC 38 w2.heap.size W4 (.slice ax ls.length cx) ls) := X_w3.out.below ba
  have ZE_W4 : Hid (w3.heap.size ≤ W4.heap.size) := Nat.le_trans ZE_w3.out ba.size
  have CX_W4 : Hid (Blk W4 X4 (plA p (.slice ax ls.length cx)) 29) := kb
  clear ba kb B_w3 K_w3 KP_w3 C0_w3 V0_w3 X_w3 ZE_w3
  have HZX : Hid (w3.heap.size ≤ W4.heap.size) := ZE_W4.out
  obtain ⟨GX, hGX⟩ : ∃ x, X4 = x := ⟨_, rfl⟩
  rw [hGX] at CX_W4
  go_upto_region 7 with fail
  try rw [hW4]
  try rw [hX4]
  try rw [hGX]
  have HRB : Hid (Rg 18 pkC W4.drew (.slice ax ls.length cx) ls) := (X_W4.out.rd pkC_len).below (Below.refl _ _).drew
  have HKA : Hid (Blk W4.drew GX (plA p (.slice ax ls.length cx)) 29) := CX_W4.out
  have HKP : Hid (Blk W4.drew GP (pkA k) 35) := KP_W4.out
  clear hW4 hX4 ZE_W4 hGX
  refine region_vals [undef, undef, undef, undef, undef, undef, undef, undef, undef, undef] (RvS (W4.drew) (p) (pp) (ax) (cx) (k) (ls) (st) (ok)) (by kernel_rfl) (by kernel_rfl) ?_ ⟨?_, ?_, ?_, ?_, ?_, ?_, ?_, ?_, ?_, ?_, trivial⟩ ?_
  · refine ⟨_, _, _, _, _, _, _, _, _, _, none, 0, 0, rfl, ⟨(Below.refl _ _), ?_, ?_, ?_, ?_, ?_, ?_, ?_, ?_, ?_, ?_, ?_, ?_, ?_, ?_, ?_, ?_, ?_⟩⟩ <;> simp
  · rintro d vs W ⟨v0, v1, v2, v3, v4, v5, v6, v7, v8, v9, a0, c0, X, rfl, H⟩ hn hd
    simp only [putAll, Act.put, List.setIfInBounds_toArray, List.set_cons_succ, List.set_cons_zero]
    have HKW : Hid (Blk W GX (plA p (.slice ax ls.length cx)) 29) := HKA.out.below H.bel HKA.out.lt
    have HH1 : Hid (Rv (W4.drew) (p) (pp) (ax) (cx) (k) (ls) (st) (ok) d W v0 v1 v2 v3 v4 v5 v6 v7 v8 v9 a0 c0 X) := H
    clear H
    have HHN : Hid (d 0 = false) := hn
    clear hd hn
    go_wp2_with (refine wpList_load_row rfl 29 _ rfl GX rfl 29 (plA p (.slice ax ls.length cx)) (0, 0) _ HKW.out Try.underlying29 rfl (by kernel_rfl) ?_)
    have H0 := HH1.out
    have H := HH1.out
    have hn := HHN.out
    refine ⟨rfl, [.agg (plA p (.slice ax ls.length cx)), v1, v2, v3, v4, v5, v6, v7, v8, v9], ?_, .agg (plA p (.slice ax ls.length cx)), v1, v2, v3, v4, v5, v6, v7, v8, v9, a0, c0, X, rfl, ⟨H.bel, (fun _ => rfl), (by have h := H.f1; simpa [doneSet] using h), (by have h := H.f2; simpa [doneSet] using h), (by have h := H.f3; simpa [doneSet] using h), (by have h := H.f4; simpa [doneSet] using h), (by have h := H.f5; simpa [doneSet] using h), (by have h := H.f6; simpa [doneSet] using h), (by have h := H.f7; simpa [doneSet] using h), (by have h := H.f9; simpa [doneSet] using h), (by have h := H.o3; simpa [doneSet] using h), (by have h := H.k7; simpa [doneSet] using h), (by have h := H.x7; simpa [doneSet] using h), (by have h := H.k8; simpa [doneSet] using h), (by have h := H.g4_3; simpa [doneSet] using h), (by have h := H.g5_3; simpa [doneSet] using h), (by have h := H.g8_3; simpa [doneSet] using h), (by have h := H.g8_7; simpa [doneSet] using h)⟩⟩
    simp only [putAll, Act.put, List.setIfInBounds_toArray, List.set_cons_succ, List.set_cons_zero]
    all_goals rfl
  · rintro d vs W ⟨v0, v1, v2, v3, v4, v5, v6, v7, v8, v9, a0, c0, X, rfl, H⟩ hn hd
    simp only [putAll, Act.put, List.setIfInBounds_toArray, List.set_cons_succ, List.set_cons_zero]
    have HKW : Hid (Blk W GP (pkA k) 35) := HKP.out.below H.bel HKP.out.lt
    have HH1 : Hid (Rv (W4.drew) (p) (pp) (ax) (cx) (k) (ls) (st) (ok) d W v0 v1 v2 v3 v4 v5 v6 v7 v8 v9 a0 c0 X) := H
    clear H
    have HHN : Hid (d 1 = false) := hn
    clear hd hn
    go_wp2_with (refine wpList_load_row rfl 35 _ rfl GP rfl 35 (pkA k) (0, 0) _ HKW.out Try.underlying35 rfl (by rw [pkA_size]; kernel_rfl) ?_)
    have H0 := HH1.out
    have H := HH1.out
    have hn := HHN.out
    refine ⟨rfl, [v0, .agg (pkA k), v2, v3, v4, v5, v6, v7, v8, v9], ?_, v0, .agg (pkA k), v2, v3, v4, v5, v6, v7, v8, v9, a0, c0, X, rfl, ⟨H.bel, (by have h := H.f0; simpa [doneSet] using h), (fun _ => rfl), (by have h := H.f2; simpa [doneSet] using h), (by have h := H.f3; simpa [doneSet] using h), (by have h := H.f4; simpa [doneSet] using h), (by have h := H.f5; simpa [doneSet] using h), (by have h := H.f6; simpa [doneSet] using h), (by have h := H.f7; simpa [doneSet] using h), (by have h := H.f9; simpa [doneSet] using h), (by have h := H.o3; simpa [doneSet] using h), (by have h := H.k7; simpa [doneSet] using h), (by have h := H.x7; simpa [doneSet] using h), (by have h := H.k8; simpa [doneSet] using h), (by have h := H.g4_3; simpa [doneSet] using h), (by have h := H.g5_3; simpa [doneSet] using h), (by have h := H.g8_3; simpa [doneSet] using h), (by have h := H.g8_7; simpa [doneSet] using h)⟩⟩
    simp only [putAll, Act.put, List.setIfInBounds_toArray, List.set_cons_succ, List.set_cons_zero]
    all_goals rfl
  · rintro d vs W ⟨v0, v1, v2, v3, v4, v5, v6, v7, v8, v9, a0, c0, X, rfl, H⟩ hn hd
    simp only [putAll, Act.put, List.setIfInBounds_toArray, List.set_cons_succ, List.set_cons_zero]
    have h1 : d 1 = true := hd { on := 1, ground := .data } (by simp) rfl
    obtain rfl := H.f1 h1
    have HH1 : Hid (Rv (W4.drew) (p) (pp) (ax) (cx) (k) (ls) (st) (ok) d W v0 (.agg (pkA k)) v2 v3 v4 v5 v6 v7 v8 v9 a0 c0 X) := H
    clear H
    have HHN : Hid (d 2 = false) := hn
    have HHD : Hid (d 1 = true) := h1
    clear hd hn h1
    go_wp2_with (fail)
    refine (toPk_c k W).mono ?_
    rintro e W3 ⟨rfl, b7⟩
    have HB7 : Hid (Below W.heap.size W W3) := b7
    clear b7
    go_wp2
    have H0 := HH1.out
    have H := HH1.out.below HB7.out
    have hn := HHN.out
    have h1 := HHD.out
    refine ⟨rfl, [v0, .agg (pkA k), .agg (pkA k), v3, v4, v5, v6, v7, v8, v9], ?_, v0, .agg (pkA k), .agg (pkA k), v3, v4, v5, v6, v7, v8, v9, a0, c0, X, rfl, ⟨H.bel, (by have h := H.f0; simpa [doneSet] using h), (fun _ => rfl), (fun _ => rfl), (by have h := H.f3; simpa [doneSet] using h), (by have h := H.f4; simpa [doneSet] using h), (by have h := H.f5; simpa [doneSet] using h), (by have h := H.f6; simpa [doneSet] using h), (by have h := H.f7; simpa [doneSet] using h), (by have h := H.f9; simpa [doneSet] using h), (by have h := H.o3; simpa [doneSet] using h), (by have h := H.k7; simpa [doneSet] using h), (by have h := H.x7; simpa [doneSet] using h), (by have h := H.k8; simpa [doneSet] using h), (by have h := H.g4_3; simpa [doneSet] using h), (by have h := H.g5_3; simpa [doneSet] using h), (by have h := H.g8_3; simpa [doneSet] using h), (by have h := H.g8_7; simpa [doneSet] using h)⟩⟩
    simp only [putAll, Act.put, List.setIfInBounds_toArray, List.set_cons_succ, List.set_cons_zero]
    all_goals rfl
  · rintro d vs W ⟨v0, v1, v2, v3, v4, v5, v6, v7, v8, v9, a0, c0, X, rfl, H⟩ hn hd
    simp only [putAll, Act.put, List.setIfInBounds_toArray, List.set_cons_succ, List.set_cons_zero]
    have h0 : d 0 = true := hd { on := 0, ground := .data } (by simp) rfl
    have h2 : d 2 = true := hd { on := 2, ground := .data } (by simp) rfl
    have HRW : Hid (Rg 18 pkC W (.slice ax ls.length cx) ls) := HRB.out.below H.bel
    obtain rfl := H.f0 h0
    obtain rfl := H.f2 h2
    have HH1 : Hid (Rv (W4.drew) (p) (pp) (ax) (cx) (k) (ls) (st) (ok) d W (.agg (plA p (.slice ax ls.length cx))) v1 (.agg (pkA k)) v3 v4 v5 v6 v7 v8 v9 a0 c0 X) := H
    clear H
    have HHN : Hid (d 3 = false) := hn
    have HHD : Hid (d 0 = true ∧ d 2 = true) := ⟨h0, h2⟩
    clear hd hn h0 h2
    go_wp2_with (fail)
    refine (HI.out W _ HRW.out).mono ?_
    rintro e W3 ⟨v7, rfl, o7, b7⟩
    have HB7 : Hid (Below W.heap.size W W3) := b7
    obtain ⟨a7, c7, rfl⟩ := o7.form
    have HO7 : Hid (Og 18 pkC 38 W.heap.size W3 (.slice a7 st.length c7) st) := o7
    clear b7 o7
    go_wp2
    have H0 := HH1.out
    have H := HH1.out.below HB7.out
    have hn := HHN.out
    have h0 := HHD.out.1
    have h2 := HHD.out.2
    refine ⟨rfl, [.agg (plA p (.slice ax ls.length cx)), v1, .agg (pkA k), .tuple #[.agg (plA pp (.slice a7 st.length c7)), .bool ok], v4, v5, v6, v7, v8, v9], ?_, .agg (plA p (.slice ax ls.length cx)), v1, .agg (pkA k), .tuple #[.agg (plA pp (.slice a7 st.length c7)), .bool ok], v4, v5, v6, v7, v8, v9, a7, c7, X, rfl, ⟨H.bel, (fun _ => rfl), (by have h := H.f1; simpa [doneSet] using h), (fun _ => rfl), (fun _ => rfl), (fun e => absurd (H0.g4_3 (by simpa [doneSet] using e)) (by rw [hn]; simp)), (fun e => absurd (H0.g5_3 (by simpa [doneSet] using e)) (by rw [hn]; simp)), (by have h := H.f6; simpa [doneSet] using h), (by have h := H.f7; simpa [doneSet] using h), (by have h := H.f9; simpa [doneSet] using h), (fun _ => HO7.out.mono H0.bel.size), (by have h := H.k7; simpa [doneSet] using h), (by have h := H.x7; simpa [doneSet] using h), (fun e => absurd (H0.g8_3 (by simpa [doneSet] using e)) (by rw [hn]; simp)), (fun _ => by simp [doneSet]), (fun _ => by simp [doneSet]), (fun _ => by simp [doneSet]), (by have h := H.g8_7; simpa [doneSet] using h)⟩⟩
    simp only [putAll, Act.put, List.setIfInBounds_toArray, List.set_cons_succ, List.set_cons_zero]
    all_goals rfl
  · rintro d vs W ⟨v0, v1, v2, v3, v4, v5, v6, v7, v8, v9, a0, c0, X, rfl, H⟩ hn hd
    simp only [putAll, Act.put, List.setIfInBounds_toArray, List.set_cons_succ, List.set_cons_zero]
    have h3 : d 3 = true := hd { on := 3, ground := .data } (by simp) rfl
    obtain rfl := H.f3 h3
    have HH1 : Hid (Rv (W4.drew) (p) (pp) (ax) (cx) (k) (ls) (st) (ok) d W v0 v1 v2 (.tuple #[.agg (plA pp (.slice a0 st.length c0)), .bool ok]) v4 v5 v6 v7 v8 v9 a0 c0 X) := H
    clear H
    have HHN : Hid (d 4 = false) := hn
    have HHD : Hid (d 3 = true) := h3
    clear hd hn h3
    go_wp2
    have H0 := HH1.out
    have H := HH1.out
    have hn := HHN.out
    have h3 := HHD.out
    refine ⟨rfl, [v0, v1, v2, .tuple #[.agg (plA pp (.slice a0 st.length c0)), .bool ok], .tuple #[.agg (plA pp (.slice a0 st.length c0)), .bool ok], v5, v6, v7, v8, v9], ?_, v0, v1, v2, .tuple #[.agg (plA pp (.slice a0 st.length c0)), .bool ok], .tuple #[.agg (plA pp (.slice a0 st.length c0)), .bool ok], v5, v6, v7, v8, v9, a0, c0, X, rfl, ⟨H.bel, (by have h := H.f0; simpa [doneSet] using h), (by have h := H.f1; simpa [doneSet] using h), (by have h := H.f2; simpa [doneSet] using h), (fun _ => rfl), (fun _ => rfl), (by have h := H.f5; simpa [doneSet] using h), (by have h := H.f6; simpa [doneSet] using h), (by have h := H.f7; simpa [doneSet] using h), (by have h := H.f9; simpa [doneSet] using h), (by have h := H.o3; simpa [doneSet] using h), (by have h := H.k7; simpa [doneSet] using h), (by have h := H.x7; simpa [doneSet] using h), (by have h := H.k8; simpa [doneSet] using h), (fun _ => by simpa [doneSet] using h3), (by have h := H.g5_3; simpa [doneSet] using h), (by have h := H.g8_3; simpa [doneSet] using h), (by have h := H.g8_7; simpa [doneSet] using h)⟩⟩
    simp only [putAll, Act.put, List.setIfInBounds_toArray, List.set_cons_succ, List.set_cons_zero]
    all_goals rfl
  · rintro d vs W ⟨v0, v1, v2, v3, v4, v5, v6, v7, v8, v9, a0, c0, X, rfl, H⟩ hn hd
    simp only [putAll, Act.put, List.setIfInBounds_toArray, List.set_cons_succ, List.set_cons_zero]
    have h4 : d 4 = true := hd { on := 4, ground := .data } (by simp) rfl
    have h3 := H.g4_3 h4
    obtain rfl := H.f4 h4
    have HH1 : Hid (Rv (W4.drew) (p) (pp) (ax) (cx) (k) (ls) (st) (ok) d W v0 v1 v2 v3 (.tuple #[.agg (plA pp (.slice a0 st.length c0)), .bool ok]) v5 v6 v7 v8 v9 a0 c0 X) := H
    clear H
    have HHN : Hid (d 5 = false) := hn
    have HHD : Hid (d 4 = true) := h4
    clear hd hn h4
    go_wp2
    have H0 := HH1.out
    have H := HH1.out
    have hn := HHN.out
    have h4 := HHD.out
    refine ⟨rfl, [v0, v1, v2, v3, .tuple #[.agg (plA pp (.slice a0 st.length c0)), .bool ok], .agg (plA pp (.slice a0 st.length c0)), v6, v7, v8, v9], ?_, v0, v1, v2, v3, .tuple #[.agg (plA pp (.slice a0 st.length c0)), .bool ok], .agg (plA pp (.slice a0 st.length c0)), v6, v7, v8, v9, a0, c0, X, rfl, ⟨H.bel, (by have h := H.f0; simpa [doneSet] using h), (by have h := H.f1; simpa [doneSet] using h), (by have h := H.f2; simpa [doneSet] using h), (by have h := H.f3; simpa [doneSet] using h), (fun _ => rfl), (fun _ => rfl), (by have h := H.f6; simpa [doneSet] using h), (by have h := H.f7; simpa [doneSet] using h), (by have h := H.f9; simpa [doneSet] using h), (by have h := H.o3; simpa [doneSet] using h), (by have h := H.k7; simpa [doneSet] using h), (by have h := H.x7; simpa [doneSet] using h), (by have h := H.k8; simpa [doneSet] using h), (by have h := H.g4_3; simpa [doneSet] using h), (fun _ => by simpa [doneSet] using h3), (by have h := H.g8_3; simpa [doneSet] using h), (by have h := H.g8_7; simpa [doneSet] using h)⟩⟩
    simp only [putAll, Act.put, List.setIfInBounds_toArray, List.set_cons_succ, List.set_cons_zero]
    all_goals rfl
  · rintro d vs W ⟨v0, v1, v2, v3, v4, v5, v6, v7, v8, v9, a0, c0, X, rfl, H⟩ hn hd
    simp only [putAll, Act.put, List.setIfInBounds_toArray, List.set_cons_succ, List.set_cons_zero]
    have h4 : d 4 = true := hd { on := 4, ground := .data } (by simp) rfl
    obtain rfl := H.f4 h4
    have HH1 : Hid (Rv (W4.drew) (p) (pp) (ax) (cx) (k) (ls) (st) (ok) d W v0 v1 v2 v3 (.tuple #[.agg (plA pp (.slice a0 st.length c0)), .bool ok]) v5 v6 v7 v8 v9 a0 c0 X) := H
    clear H
    have HHN : Hid (d 6 = false) := hn
    have HHD : Hid (d 4 = true) := h4
    clear hd hn h4
    go_wp2
    have H0 := HH1.out
    have H := HH1.out
    have hn := HHN.out
    have h4 := HHD.out
    refine ⟨rfl, [v0, v1, v2, v3, .tuple #[.agg (plA pp (.slice a0 st.length c0)), .bool ok], v5, .bool ok, v7, v8, v9], ?_, v0, v1, v2, v3, .tuple #[.agg (plA pp (.slice a0 st.length c0)), .bool ok], v5, .bool ok, v7, v8, v9, a0, c0, X, rfl, ⟨H.bel, (by have h := H.f0; simpa [doneSet] using h), (by have h := H.f1; simpa [doneSet] using h), (by have h := H.f2; simpa [doneSet] using h), (by have h := H.f3; simpa [doneSet] using h), (fun _ => rfl), (by have h := H.f5; simpa [doneSet] using h), (fun _ => rfl), (by have h := H.f7; simpa [doneSet] using h), (by have h := H.f9; simpa [doneSet] using h), (by have h := H.o3; simpa [doneSet] using h), (by have h := H.k7; simpa [doneSet] using h), (by have h := H.x7; simpa [doneSet] using h), (by have h := H.k8; simpa [doneSet] using h), (by have h := H.g4_3; simpa [doneSet] using h), (by have h := H.g5_3; simpa [doneSet] using h), (by have h := H.g8_3; simpa [doneSet] using h), (by have h := H.g8_7; simpa [doneSet] using h)⟩⟩
    simp only [putAll, Act.put, List.setIfInBounds_toArray, List.set_cons_succ, List.set_cons_zero]
    all_goals rfl
  · rintro d vs W ⟨v0, v1, v2, v3, v4, v5, v6, v7, v8, v9, a0, c0, X, rfl, H⟩ hn hd
    simp only [putAll, Act.put, List.setIfInBounds_toArray, List.set_cons_succ, List.set_cons_zero]
    have HH1 : Hid (Rv (W4.drew) (p) (pp) (ax) (cx) (k) (ls) (st) (ok) d W v0 v1 v2 v3 v4 v5 v6 v7 v8 v9 a0 c0 X) := H
    clear H
    have HHN : Hid (d 7 = false) := hn
    clear hd hn
    go_wp2
    have H0 := HH1.out
    have H := HH1.out.below ((Below.refl _ W).alloc (Nat.le_refl _) (.cells (plA ⟨0, 0, 0, 0, 0⟩ (.slice none 0 0)) 29))
    have hn := HHN.out
    refine ⟨rfl, [v0, v1, v2, v3, v4, v5, v6, .pointer (some ⟨W.heap.size, 0, none⟩), v8, v9], ?_, v0, v1, v2, v3, v4, v5, v6, .pointer (some ⟨W.heap.size, 0, none⟩), v8, v9, a0, c0, W.heap.size, rfl, ⟨H.bel, (by have h := H.f0; simpa [doneSet] using h), (by have h := H.f1; simpa [doneSet] using h), (by have h := H.f2; simpa [doneSet] using h), (by have h := H.f3; simpa [doneSet] using h), (by have h := H.f4; simpa [doneSet] using h), (by have h := H.f5; simpa [doneSet] using h), (by have h := H.f6; simpa [doneSet] using h), (fun _ => rfl), (by have h := H.f9; simpa [doneSet] using h), (by have h := H.o3; simpa [doneSet] using h), (fun _ _ => Blk.new _ _ _), (fun _ => H0.bel.size), (fun e => absurd (H0.g8_7 (by simpa [doneSet] using e)) (by rw [hn]; simp)), (by have h := H.g4_3; simpa [doneSet] using h), (by have h := H.g5_3; simpa [doneSet] using h), (by have h := H.g8_3; simpa [doneSet] using h), (fun _ => by simp [doneSet])⟩⟩
    simp only [putAll, Act.put, List.setIfInBounds_toArray, List.set_cons_succ, List.set_cons_zero]
    all_goals rfl
  · rintro d vs W ⟨v0, v1, v2, v3, v4, v5, v6, v7, v8, v9, a0, c0, X, rfl, H⟩ hn hd
    simp only [putAll, Act.put, List.setIfInBounds_toArray, List.set_cons_succ, List.set_cons_zero]
    have h7 : d 7 = true := hd { on := 7, ground := .data } (by simp) rfl
    have h5 : d 5 = true := hd { on := 5, ground := .data } (by simp) rfl
    have HK8 : Hid (Blk W X (plA ⟨0, 0, 0, 0, 0⟩ (.slice none 0 0)) 29) := H.k7 h7 hn
    have HX8 : Hid (W4.drew.heap.size ≤ X) := H.x7 h7
    have h3 : d 3 = true := H.g5_3 h5
    have HO4 : Hid (Og 18 pkC 38 W4.drew.heap.size W (.slice a0 st.length c0) st) := H.o3 h3
    have HH4 : Hid (d 3 = true) := h3
    obtain rfl := H.f7 h7
    obtain rfl := H.f5 h5
    have HH1 : Hid (Rv (W4.drew) (p) (pp) (ax) (cx) (k) (ls) (st) (ok) d W v0 v1 v2 v3 v4 (.agg (plA pp (.slice a0 st.length c0))) v6 (.pointer (some ⟨X, 0, none⟩)) v8 v9 a0 c0 X) := H
    clear H
    have HHN : Hid (d 8 = false) := hn
    have HHD : Hid (d 7 = true ∧ d 5 = true) := ⟨h7, h5⟩
    clear hd hn h7 h5
    go_wp2_with (refine wpList_store_row rfl 29 _ _ rfl X (plA pp (.slice a0 st.length c0)) rfl rfl 29 (plA ⟨0, 0, 0, 0, 0⟩ (.slice none 0 0)) HK8.out (by kernel_rfl) rfl (by simp [Value.oneCell']) ?_)
    have H0 := HH1.out
    have H := HH1.out
    have hn := HHN.out
    have h7 := HHD.out.1
    have h5 := HHD.out.2
    refine ⟨rfl, [v0, v1, v2, v3, v4, .agg (plA pp (.slice a0 st.length c0)), v6, .pointer (some ⟨X, 0, none⟩), undef, v9], ?_, v0, v1, v2, v3, v4, .agg (plA pp (.slice a0 st.length c0)), v6, .pointer (some ⟨X, 0, none⟩), undef, v9, a0, c0, X, rfl, ⟨(belowRow H0.bel _ HX8.out _), (by have h := H.f0; simpa [doneSet] using h), (by have h := H.f1; simpa [doneSet] using h), (by have h := H.f2; simpa [doneSet] using h), (by have h := H.f3; simpa [doneSet] using h), (by have h := H.f4; simpa [doneSet] using h), (fun _ => rfl), (by have h := H.f6; simpa [doneSet] using h), (fun _ => rfl), (by have h := H.f9; simpa [doneSet] using h), (fun _ => og_setRow HO4.out HK8.out (by decide)), (fun _ e => absurd e (by simp [doneSet])), (by have h := H.x7; simpa [doneSet] using h), (fun _ => HK8.out.row _), (by have h := H.g4_3; simpa [doneSet] using h), (by have h := H.g5_3; simpa [doneSet] using h), (fun _ => by simpa [doneSet] using HH4.out), (fun _ => by simpa [doneSet] using h7)⟩⟩
    simp only [putAll, Act.put, List.setIfInBounds_toArray, List.set_cons_succ, List.set_cons_zero]
    all_goals rfl
  · rintro d vs W ⟨v0, v1, v2, v3, v4, v5, v6, v7, v8, v9, a0, c0, X, rfl, H⟩ hn hd
    simp only [putAll, Act.put, List.setIfInBounds_toArray, List.set_cons_succ, List.set_cons_zero]
    have h6 : d 6 = true := hd { on := 6, ground := .data } (by simp) rfl
    obtain rfl := H.f6 h6
    have HH1 : Hid (Rv (W4.drew) (p) (pp) (ax) (cx) (k) (ls) (st) (ok) d W v0 v1 v2 v3 v4 v5 (.bool ok) v7 v8 v9 a0 c0 X) := H
    clear H
    have HHN : Hid (d 9 = false) := hn
    have HHD : Hid (d 6 = true) := h6
    clear hd hn h6
    go_wp2
    have H0 := HH1.out
    have H := HH1.out
    have hn := HHN.out
    have h6 := HHD.out
    refine ⟨rfl, [v0, v1, v2, v3, v4, v5, .bool ok, v7, v8, .bool ok], ?_, v0, v1, v2, v3, v4, v5, .bool ok, v7, v8, .bool ok, a0, c0, X, rfl, ⟨H.bel, (by have h := H.f0; simpa [doneSet] using h), (by have h := H.f1; simpa [doneSet] using h), (by have h := H.f2; simpa [doneSet] using h), (by have h := H.f3; simpa [doneSet] using h), (by have h := H.f4; simpa [doneSet] using h), (by have h := H.f5; simpa [doneSet] using h), (fun _ => rfl), (by have h := H.f7; simpa [doneSet] using h), (fun _ => rfl), (by have h := H.o3; simpa [doneSet] using h), (by have h := H.k7; simpa [doneSet] using h), (by have h := H.x7; simpa [doneSet] using h), (by have h := H.k8; simpa [doneSet] using h), (by have h := H.g4_3; simpa [doneSet] using h), (by have h := H.g5_3; simpa [doneSet] using h), (by have h := H.g8_3; simpa [doneSet] using h), (by have h := H.g8_7; simpa [doneSet] using h)⟩⟩
    simp only [putAll, Act.put, List.setIfInBounds_toArray, List.set_cons_succ, List.set_cons_zero]
    all_goals rfl
  rintro d vs w5 ⟨v0, v1, v2, v3, v4, v5, v6, v7, v8, v9, ag, cg, X2, rfl, H⟩ hn
  obtain rfl := H.f0 (hn 0 (by decide))
  obtain rfl := H.f1 (hn 1 (by decide))
  obtain rfl := H.f2 (hn 2 (by decide))
  obtain rfl := H.f3 (hn 3 (by decide))
  obtain rfl := H.f4 (hn 4 (by decide))
  obtain rfl := H.f5 (hn 5 (by decide))
  obtain rfl := H.f6 (hn 6 (by decide))
  obtain rfl := H.f7 (hn 7 (by decide))
  obtain rfl := H.f9 (hn 9 (by decide))
  have bE : Below W4.heap.size W4 w5 := (Below.refl _ W4).drew.trans H.bel
  have oE : Og 18 pkC 38 W4.heap.size w5 (.slice ag st.length cg) st := H.o3 (hn 3 (by decide))
  have kE : Blk w5 X2 (plA pp (.slice ag st.length cg)) 29 := H.k8 (hn 8 (by decide))
  clear H hn
  have B_w5 : Hid (Below w.heap.size w w5) := belowCall B_W4.out bE B_W4.out.size
  have K_w5 : Hid (Blk w5 GA (plA p (.slice a ls.length cap)) 24) := K_W4.out.below bE K_W4.out.lt
  have KP_w5 : Hid (Blk w5 GP (pkA k) 35) := KP_W4.out.below bE KP_W4.out.lt
  have C0_w5 : Hid (Blk w5 X1 (plA pp (.slice a1 st.length c1)) 29) := C0_W4.out.below bE C0_W4.out.lt
  have V0_w5 : Hid (Og 18 pkC 38 w1.heap.size w5 (.slice a1 st.length c1) st) := V0_W4.out.below bE
  have X_w5 : Hid (Og 18 pkC 38 w2.heap.size w5 (.slice ax ls.length cx) ls) := X_W4.out.below bE
  have CX_w5 : Hid (Blk w5 GX (plA p (.slice ax ls.length cx)) 29) := CX_W4.out.below bE CX_W4.out.lt
  have CG_w5 : Hid (Blk w5 X2 (plA pp (.slice ag st.length cg)) 29) := kE
  have G_w5 : Hid (Og 18 pkC 38 W4.heap.size w5 (.slice ag st.length cg) st) := oE
  have HZG : Hid (W4.heap.size ≤ w5.heap.size ∧ w.heap.size ≤ W4.heap.size) := ⟨bE.size, B_W4.out.size⟩
  clear bE kE B_W4 K_W4 KP_W4 C0_W4 V0_W4 X_W4 CX_W4
  simp only [putAll, Act.put, List.setIfInBounds_toArray, List.set_cons_succ, List.set_cons_zero]
  have NX0 : Hid ((Value.slice a1 st.length c1).ownBlock = none ∨ (Value.slice a1 st.length c1).ownBlock ≠ (Value.slice ax ls.length cx).ownBlock) := by
    cases hv : (Value.slice a1 st.length c1).ownBlock with
    | none => exact .inl rfl
    | some j => exact .inr fun e => by have h1 := HP0.out j hv; have h2 := HPX.out j e.symm; omega
  have NG0 : Hid ((Value.slice a1 st.length c1).ownBlock = none ∨ (Value.slice a1 st.length c1).ownBlock ≠ (Value.slice ag st.length cg).ownBlock) := by
    cases hv : (Value.slice a1 st.length c1).ownBlock with
    | none => exact .inl rfl
    | some j => exact .inr fun e => by have h1 := HP0.out j hv; have h2 := oE.lt j e.symm; have h3 := HXE.out; have h4 := HZX.out; omega
  have NGX : Hid ((Value.slice ag st.length cg).ownBlock = none ∨ (Value.slice ag st.length cg).ownBlock ≠ (Value.slice ax ls.length cx).ownBlock) := by
    cases hv : (Value.slice ag st.length cg).ownBlock with
    | none => exact .inl rfl
    | some j => exact .inr fun e => by have h1 := oE.lt j hv; have h2 := HPX.out j e.symm; have h4 := HZX.out; omega
  clear oE HRB HKA HKP
  have k0 := CG_w5.out.cell 0
  have k1 := CG_w5.out.cell 1
  have k2 := CG_w5.out.cell 2
  have k3 := CG_w5.out.cell 3
  have k4 := CG_w5.out.cell 4
  have k5 := CG_w5.out.cell 5
  simp at k0 k1 k2 k3 k4 k5
  have l0 := C0_w5.out.cell 0
  have l1 := C0_w5.out.cell 1
  have l2 := C0_w5.out.cell 2
  have l3 := C0_w5.out.cell 3
  have l4 := C0_w5.out.cell 4
  have l5 := C0_w5.out.cell 5
  simp at l0 l1 l2 l3 l4 l5
  go_wp2_with (fail)
  refine (eqPl_t pp _ _ st w5 (G_w5.out.rd pkC_len) (V0_w5.out.rd pkC_len)).mono ?_
  rintro e w6 ⟨rfl, b⟩
  have B_w6 : Hid (Below w.heap.size w w6) := belowCall B_w5.out b B_w5.out.size
  have K_w6 : Hid (Blk w6 GA (plA p (.slice a ls.length cap)) 24) := K_w5.out.below b K_w5.out.lt
  have KP_w6 : Hid (Blk w6 GP (pkA k) 35) := KP_w5.out.below b KP_w5.out.lt
  have C0_w6 : Hid (Blk w6 X1 (plA pp (.slice a1 st.length c1)) 29) := C0_w5.out.below b C0_w5.out.lt
  have V0_w6 : Hid (Og 18 pkC 38 w1.heap.size w6 (.slice a1 st.length c1) st) := V0_w5.out.below b
  have X_w6 : Hid (Og 18 pkC 38 w2.heap.size w6 (.slice ax ls.length cx) ls) := X_w5.out.below b
  have CX_w6 : Hid (Blk w6 GX (plA p (.slice ax ls.length cx)) 29) := CX_w5.out.below b CX_w5.out.lt
  have CG_w6 : Hid (Blk w6 X2 (plA pp (.slice ag st.length cg)) 29) := CG_w5.out.below b CG_w5.out.lt
  have G_w6 : Hid (Og 18 pkC 38 W4.heap.size w6 (.slice ag st.length cg) st) := G_w5.out.below b
  clear b B_w5 K_w5 KP_w5 C0_w5 V0_w5 X_w5 CX_w5 CG_w5 G_w5 k0 k1 k2 k3 k4 k5 l0 l1 l2 l3 l4 l5
  obtain ⟨S, hS⟩ : ∃ S : World → Prop, ∀ W, S W ↔ Below w6.heap.size w6 W := ⟨_, fun _ => Iff.rfl⟩
  have zc0 : ∀ W : At S, W.wd.cell? ⟨GA, 0, none⟩ = some ((plA p (.slice a ls.length cap))[0]) := fun W => by rw [(K_w6.out.below ((hS _).1 W.ok) K_w6.out.lt).cell 0]; rfl
  have zx0 : ∀ W : At S, W.wd.cell? ⟨GX, 0, none⟩ = some ((plA p (.slice ax ls.length cx))[0]) := fun W => by rw [(CX_w6.out.below ((hS _).1 W.ok) CX_w6.out.lt).cell 0]; rfl
  have zc1 : ∀ W : At S, W.wd.cell? ⟨GA, 1, none⟩ = some ((plA p (.slice a ls.length cap))[1]) := fun W => by rw [(K_w6.out.below ((hS _).1 W.ok) K_w6.out.lt).cell 1]; rfl
  have zx1 : ∀ W : At S, W.wd.cell? ⟨GX, 1, none⟩ = some ((plA p (.slice ax ls.length cx))[1]) := fun W => by rw [(CX_w6.out.below ((hS _).1 W.ok) CX_w6.out.lt).cell 1]; rfl
  have zc2 : ∀ W : At S, W.wd.cell? ⟨GA, 2, none⟩ = some ((plA p (.slice a ls.length cap))[2]) := fun W => by rw [(K_w6.out.below ((hS _).1 W.ok) K_w6.out.lt).cell 2]; rfl
  have zx2 : ∀ W : At S, W.wd.cell? ⟨GX, 2, none⟩ = some ((plA p (.slice ax ls.length cx))[2]) := fun W => by rw [(CX_w6.out.below ((hS _).1 W.ok) CX_w6.out.lt).cell 2]; rfl
  have zc3 : ∀ W : At S, W.wd.cell? ⟨GA, 3, none⟩ = some ((plA p (.slice a ls.length cap))[3]) := fun W => by rw [(K_w6.out.below ((hS _).1 W.ok) K_w6.out.lt).cell 3]; rfl
  have zx3 : ∀ W : At S, W.wd.cell? ⟨GX, 3, none⟩ = some ((plA p (.slice ax ls.length cx))[3]) := fun W => by rw [(CX_w6.out.below ((hS _).1 W.ok) CX_w6.out.lt).cell 3]; rfl
  have zc4 : ∀ W : At S, W.wd.cell? ⟨GA, 4, none⟩ = some ((plA p (.slice a ls.length cap))[4]) := fun W => by rw [(K_w6.out.below ((hS _).1 W.ok) K_w6.out.lt).cell 4]; rfl
  have zx4 : ∀ W : At S, W.wd.cell? ⟨GX, 4, none⟩ = some ((plA p (.slice ax ls.length cx))[4]) := fun W => by rw [(CX_w6.out.below ((hS _).1 W.ok) CX_w6.out.lt).cell 4]; rfl
  have zc5 : ∀ W : At S, W.wd.cell? ⟨GA, 5, none⟩ = some ((plA p (.slice a ls.length cap))[5]) := fun W => by rw [(K_w6.out.below ((hS _).1 W.ok) K_w6.out.lt).cell 5]; rfl
  have zx5 : ∀ W : At S, W.wd.cell? ⟨GX, 5, none⟩ = some ((plA p (.slice ax ls.length cx))[5]) := fun W => by rw [(CX_w6.out.below ((hS _).1 W.ok) CX_w6.out.lt).cell 5]; rfl
  simp at zc0 zx0 zc1 zx1 zc2 zx2 zc3 zx3 zc4 zx4 zc5 zx5
  have HS : Hid (∀ W, S W ↔ Below w6.heap.size w6 W) := hS
  have ne : Nonempty (At S) := ⟨⟨w6, (hS _).2 (Below.refl _ _)⟩⟩
  clear hS
  go_wp2
  refine region_mixA [true, true, false, false, false] 5 3 S (by kernel_rfl) rfl (by kernel_rfl) (fun _ _ _ _ _ h => h) ((HS.out _).2 (Below.refl _ _).drew) ?_
  simp only [selT, selF]
  repeat (go_big_quiet_step (fail))
  refine wpQuiet_nil ?_
  refine tail_step ?_
  go_wp2_with (fail)
  refine (toPl_c p _ ls w6.drew (HR0.out.below B_w6.out.drew) HL.out).mono ?_
  rintro e wq ⟨v7, rfl, o7, b7⟩
  have B7 : Below w6.heap.size w6 wq := (Below.refl _ _).drew.trans b7
  have HB7 : Hid (Below w6.heap.size w6 wq) := B7
  have HO7 : Hid (Rg 18 pkC wq (.slice ax ls.length cx) ls ∧ Rg 18 pkC wq v7 ls) := ⟨(X_w6.out.rd pkC_len).below B7, o7.rd pkC_len⟩
  clear o7 b7 B7
  go_wp2
  refine ⟨(HS.out _).2 HB7.out, tail_step ?_⟩
  go_wp2_with (fail)
  refine (eqPl_t p _ _ ls wq HO7.out.1 HO7.out.2).mono ?_
  rintro e wr ⟨rfl, b8⟩
  have HB8 : Hid (Below w6.heap.size w6 wr) := belowCall HB7.out b8 HB7.out.size
  clear b8 HO7
  go_wp2
  refine ⟨(HS.out _).2 HB8.out, tail_step ?_⟩
  go_wp2
  refine ⟨(HS.out _).2 HB8.out, tail_end ?_⟩
  have bE := HB8.out
  have B_wr : Hid (Below w.heap.size w wr) := belowCall B_w6.out bE B_w6.out.size
  have K_wr : Hid (Blk wr GA (plA p (.slice a ls.length cap)) 24) := K_w6.out.below bE K_w6.out.lt
  have KP_wr : Hid (Blk wr GP (pkA k) 35) := KP_w6.out.below bE KP_w6.out.lt
  have C0_wr : Hid (Blk wr X1 (plA pp (.slice a1 st.length c1)) 29) := C0_w6.out.below bE C0_w6.out.lt
  have V0_wr : Hid (Og 18 pkC 38 w1.heap.size wr (.slice a1 st.length c1) st) := V0_w6.out.below bE
  have X_wr : Hid (Og 18 pkC 38 w2.heap.size wr (.slice ax ls.length cx) ls) := X_w6.out.below bE
  have CX_wr : Hid (Blk wr GX (plA p (.slice ax ls.length cx)) 29) := CX_w6.out.below bE CX_w6.out.lt
  have CG_wr : Hid (Blk wr X2 (plA pp (.slice ag st.length cg)) 29) := CG_w6.out.below bE CG_w6.out.lt
  have G_wr : Hid (Og 18 pkC 38 W4.heap.size wr (.slice ag st.length cg) st) := G_w6.out.below bE
  clear bE HB7 HB8 HS ne zc0 zx0 zc1 zx1 zc2 zx2 zc3 zx3 zc4 zx4 zc5 zx5 B_w6 K_w6 KP_w6 C0_w6 V0_w6 X_w6 CX_w6 CG_w6 G_w6
  have k0 := CX_wr.out.cell 0
  have k1 := CX_wr.out.cell 1
  have k2 := CX_wr.out.cell 2
  have k3 := CX_wr.out.cell 3
  have k4 := CX_wr.out.cell 4
  have k5 := CX_wr.out.cell 5
  simp at k0 k1 k2 k3 k4 k5
  go_wp2_with (fail)
  refine (markPl_c p _ ls 1 w2.heap.size wr X_wr.out (by omega) (by omega)).mono ?_
  rintro e w7 ⟨rfl, om, gm⟩
  have bm : Below w.heap.size wr w7 := grown_below gm B_wr.out.size (fun j hj => Nat.le_trans HSX.out (X_wr.out.lt j hj).1)
  have B_w7 : Hid (Below w.heap.size w w7) := B_wr.out.trans bm
  have K_w7 : Hid (Blk w7 GA (plA p (.slice a ls.length cap)) 24) := K_wr.out.grown gm (fun e => og_blk_ne X_wr.out K_wr.out (by decide) e.symm)
  have KP_w7 : Hid (Blk w7 GP (pkA k) 35) := KP_wr.out.grown gm (fun e => og_blk_ne X_wr.out KP_wr.out (by decide) e.symm)
  have C0_w7 : Hid (Blk w7 X1 (plA pp (.slice a1 st.length c1)) 29) := C0_wr.out.grown gm (fun e => og_blk_ne X_wr.out C0_wr.out (by decide) e.symm)
  have V0_w7 : Hid (Og 18 pkC 38 w1.heap.size w7 (.slice a1 st.length c1) st) := V0_wr.out.grownN gm NX0.out
  have CX_w7 : Hid (Blk w7 GX (plA p (.slice ax ls.length cx)) 29) := CX_wr.out.grown gm (fun e => og_blk_ne X_wr.out CX_wr.out (by decide) e.symm)
  have CG_w7 : Hid (Blk w7 X2 (plA pp (.slice ag st.length cg)) 29) := CG_wr.out.grown gm (fun e => og_blk_ne X_wr.out CG_wr.out (by decide) e.symm)
  have G_w7 : Hid (Og 18 pkC 38 W4.heap.size w7 (.slice ag st.length cg) st) := G_wr.out.grownN gm NGX.out
  clear om gm bm X_wr B_wr K_wr KP_wr C0_wr V0_wr CX_wr CG_wr G_wr k0 k1 k2 k3 k4 k5
  have e0 : decide ((1 : Int) + 18 * (ls.length : Int) < 0) = false := by simp only [decide_eq_false_iff_not]; omega
  have k0 := CG_w7.out.cell 0
  have k1 := CG_w7.out.cell 1
  have k2 := CG_w7.out.cell 2
  have k3 := CG_w7.out.cell 3
  have k4 := CG_w7.out.cell 4
  have k5 := CG_w7.out.cell 5
  simp at k0 k1 k2 k3 k4 k5
  have l0 := C0_w7.out.cell 0
  have l1 := C0_w7.out.cell 1
  have l2 := C0_w7.out.cell 2
  have l3 := C0_w7.out.cell 3
  have l4 := C0_w7.out.cell 4
  have l5 := C0_w7.out.cell 5
  simp at l0 l1 l2 l3 l4 l5
  go_wp2_with (fail)
  refine (eqPl_t pp _ _ st w7 (G_w7.out.rd pkC_len) (V0_w7.out.rd pkC_len)).mono ?_
  rintro e w8 ⟨rfl, b⟩
  have B_w8 : Hid (Below w.heap.size w w8) := belowCall B_w7.out b B_w7.out.size
  have K_w8 : Hid (Blk w8 GA (plA p (.slice a ls.length cap)) 24) := K_w7.out.below b K_w7.out.lt
  have KP_w8 : Hid (Blk w8 GP (pkA k) 35) := KP_w7.out.below b KP_w7.out.lt
  have C0_w8 : Hid (Blk w8 X1 (plA pp (.slice a1 st.length c1)) 29) := C0_w7.out.below b C0_w7.out.lt
  have V0_w8 : Hid (Og 18 pkC 38 w1.heap.size w8 (.slice a1 st.length c1) st) := V0_w7.out.below b
  have CX_w8 : Hid (Blk w8 GX (plA p (.slice ax ls.length cx)) 29) := CX_w7.out.below b CX_w7.out.lt
  have CG_w8 : Hid (Blk w8 X2 (plA pp (.slice ag st.length cg)) 29) := CG_w7.out.below b CG_w7.out.lt
  have G_w8 : Hid (Og 18 pkC 38 W4.heap.size w8 (.slice ag st.length cg) st) := G_w7.out.below b
  clear b B_w7 K_w7 KP_w7 C0_w7 V0_w7 CX_w7 CG_w7 G_w7 k0 k1 k2 k3 k4 k5 l0 l1 l2 l3 l4 l5
  have k0 := CG_w8.out.cell 0
  have k1 := CG_w8.out.cell 1
  have k2 := CG_w8.out.cell 2
  have k3 := CG_w8.out.cell 3
  have k4 := CG_w8.out.cell 4
  have k5 := CG_w8.out.cell 5
  simp at k0 k1 k2 k3 k4 k5
  go_wp2_with (fail)
  refine (markPl_c pp _ st 1 W4.heap.size w8 G_w8.out (by omega) (by omega)).mono ?_
  rintro e w9 ⟨rfl, om, gm⟩
  have bm : Below w.heap.size w8 w9 := grown_below gm B_w8.out.size (fun j hj => Nat.le_trans HZG.out.2 (G_w8.out.lt j hj).1)
  have B_w9 : Hid (Below w.heap.size w w9) := B_w8.out.trans bm
  have K_w9 : Hid (Blk w9 GA (plA p (.slice a ls.length cap)) 24) := K_w8.out.grown gm (fun e => og_blk_ne G_w8.out K_w8.out (by decide) e.symm)
  have KP_w9 : Hid (Blk w9 GP (pkA k) 35) := KP_w8.out.grown gm (fun e => og_blk_ne G_w8.out KP_w8.out (by decide) e.symm)
  have C0_w9 : Hid (Blk w9 X1 (plA pp (.slice a1 st.length c1)) 29) := C0_w8.out.grown gm (fun e => og_blk_ne G_w8.out C0_w8.out (by decide) e.symm)
  have V0_w9 : Hid (Og 18 pkC 38 w1.heap.size w9 (.slice a1 st.length c1) st) := V0_w8.out.grownN gm NG0.out
  have CX_w9 : Hid (Blk w9 GX (plA p (.slice ax ls.length cx)) 29) := CX_w8.out.grown gm (fun e => og_blk_ne G_w8.out CX_w8.out (by decide) e.symm)
  have CG_w9 : Hid (Blk w9 X2 (plA pp (.slice ag st.length cg)) 29) := CG_w8.out.grown gm (fun e => og_blk_ne G_w8.out CG_w8.out (by decide) e.symm)
  have GM_w9 : Hid (Og 18 pkC 38 W4.heap.size w9 (.slice ag st.length cg) (mkg (mkPk 1) st.length)) := om
  clear om gm bm G_w8 B_w8 K_w8 KP_w8 C0_w8 V0_w8 CX_w8 CG_w8 k0 k1 k2 k3 k4 k5
  obtain ⟨q1, hq1⟩ : ∃ q, (1 : Int) + 18 * (st.length : Int) = q := ⟨_, rfl⟩
  have hq1b : 0 ≤ q1 ∧ q1 ≤ 20000000 := by omega
  have HQ1 : Hid ((1 : Int) + 18 * (st.length : Int) = q1) := hq1
  rw [hq1]
  clear hq1
  have e2 : (q1 != q1) = false := by simp
  have e3 : decide (q1 < 0) = false := by simp only [decide_eq_false_iff_not]; omega
  have k0 := CG_w9.out.cell 0
  have k1 := CG_w9.out.cell 1
  have k2 := CG_w9.out.cell 2
  have k3 := CG_w9.out.cell 3
  have k4 := CG_w9.out.cell 4
  have k5 := CG_w9.out.cell 5
  simp at k0 k1 k2 k3 k4 k5
  go_wp2_with (fail)
  refine (heldPl_c pp _ 1 st.length w9 (GM_w9.out.rd pkC_len) (by omega) (by omega)).mono ?_
  rintro e w10 ⟨rfl, b⟩
  rw [HQ1.out]
  have B_w10 : Hid (Below w.heap.size w w10) := belowCall B_w9.out b B_w9.out.size
  have K_w10 : Hid (Blk w10 GA (plA p (.slice a ls.length cap)) 24) := K_w9.out.below b K_w9.out.lt
  have KP_w10 : Hid (Blk w10 GP (pkA k) 35) := KP_w9.out.below b KP_w9.out.lt
  have C0_w10 : Hid (Blk w10 X1 (plA pp (.slice a1 st.length c1)) 29) := C0_w9.out.below b C0_w9.out.lt
  have V0_w10 : Hid (Og 18 pkC 38 w1.heap.size w10 (.slice a1 st.length c1) st) := V0_w9.out.below b
  have CX_w10 : Hid (Blk w10 GX (plA p (.slice ax ls.length cx)) 29) := CX_w9.out.below b CX_w9.out.lt
  have CG_w10 : Hid (Blk w10 X2 (plA pp (.slice ag st.length cg)) 29) := CG_w9.out.below b CG_w9.out.lt
  have GM_w10 : Hid (Og 18 pkC 38 W4.heap.size w10 (.slice ag st.length cg) (mkg (mkPk 1) st.length)) := GM_w9.out.below b
  clear b B_w9 K_w9 KP_w9 C0_w9 V0_w9 CX_w9 CG_w9 GM_w9 k0 k1 k2 k3 k4 k5
  go_upto_region 24 with fail
  have HRB : Hid (Rg 18 pkC w10.drew (.slice a ls.length cap) ls) := HR0.out.below B_w10.out.drew
  have HKA : Hid (Blk w10.drew GA (plA p (.slice a ls.length cap)) 24) := K_w10.out
  have HKP : Hid (Blk w10.drew GP (pkA k) 35) := KP_w10.out
  refine region_vals [undef, undef, undef, undef, undef, undef, undef, undef, undef, undef, undef] (RuS (w10.drew) (p) (pp) (a) (cap) (k) (ls) (st) (ok)) (by kernel_rfl) (by kernel_rfl) ?_ ⟨?_, ?_, ?_, ?_, ?_, ?_, ?_, ?_, ?_, ?_, ?_, trivial⟩ ?_
  · refine ⟨_, _, _, _, _, _, _, _, _, _, _, none, 0, none, 0, 0, rfl, ⟨(Below.refl _ _), ?_, ?_, ?_, ?_, ?_, ?_, ?_, ?_, ?_, ?_, ?_, ?_, ?_, ?_, ?_, ?_, ?_, ?_, ?_, ?_⟩⟩ <;> simp
  · rintro d vs W ⟨v0, v1, v2, v3, v4, v5, v6, v7, v8, v9, v10, av, cv, a0, c0, X, rfl, H⟩ hn hd
    simp only [putAll, Act.put, List.setIfInBounds_toArray, List.set_cons_succ, List.set_cons_zero]
    have HKW : Hid (Blk W GA (plA p (.slice a ls.length cap)) 24) := HKA.out.below H.bel HKA.out.lt
    have HH1 : Hid (Ru (w10.drew) (p) (pp) (a) (cap) (k) (ls) (st) (ok) d W v0 v1 v2 v3 v4 v5 v6 v7 v8 v9 v10 av cv a0 c0 X) := H
    clear H
    have HHN : Hid (d 0 = false) := hn
    clear hd hn
    go_wp2_with (refine wpList_load_row rfl 24 _ rfl GA rfl 24 (plA p (.slice a ls.length cap)) (0, 0) _ HKW.out Try.underlying24 rfl (by kernel_rfl) ?_)
    have H0 := HH1.out
    have H := HH1.out
    have hn := HHN.out
    refine ⟨rfl, [.agg (plA p (.slice a ls.length cap)), v1, v2, v3, v4, v5, v6, v7, v8, v9, v10], ?_, .agg (plA p (.slice a ls.length cap)), v1, v2, v3, v4, v5, v6, v7, v8, v9, v10, av, cv, a0, c0, X, rfl, ⟨H.bel, (fun _ => rfl), (by have h := H.f1; simpa [doneSet] using h), (by have h := H.f2; simpa [doneSet] using h), (by have h := H.f3; simpa [doneSet] using h), (by have h := H.f4; simpa [doneSet] using h), (by have h := H.f5; simpa [doneSet] using h), (by have h := H.f6; simpa [doneSet] using h), (by have h := H.f7; simpa [doneSet] using h), (by have h := H.f8; simpa [doneSet] using h), (by have h := H.f10; simpa [doneSet] using h), (by have h := H.o1; simpa [doneSet] using h), (by have h := H.o4; simpa [doneSet] using h), (by have h := H.k8; simpa [doneSet] using h), (by have h := H.x8; simpa [doneSet] using h), (by have h := H.k9; simpa [doneSet] using h), (by have h := H.g5_4; simpa [doneSet] using h), (by have h := H.g6_4; simpa [doneSet] using h), (by have h := H.g9_4; simpa [doneSet] using h), (by have h := H.g9_8; simpa [doneSet] using h), (by have h := H.g4_1; simpa [doneSet] using h)⟩⟩
    simp only [putAll, Act.put, List.setIfInBounds_toArray, List.set_cons_succ, List.set_cons_zero]
    all_goals rfl
  · rintro d vs W ⟨v0, v1, v2, v3, v4, v5, v6, v7, v8, v9, v10, av, cv, a0, c0, X, rfl, H⟩ hn hd
    simp only [putAll, Act.put, List.setIfInBounds_toArray, List.set_cons_succ, List.set_cons_zero]
    have h0 : d 0 = true := hd { on := 0, ground := .data } (by simp) rfl
    have HRW : Hid (Rg 18 pkC W (.slice a ls.length cap) ls) := HRB.out.below H.bel
    obtain rfl := H.f0 h0
    have HH1 : Hid (Ru (w10.drew) (p) (pp) (a) (cap) (k) (ls) (st) (ok) d W (.agg (plA p (.slice a ls.length cap))) v1 v2 v3 v4 v5 v6 v7 v8 v9 v10 av cv a0 c0 X) := H
    clear H
    have HHN : Hid (d 1 = false) := hn
    have HHD : Hid (d 0 = true) := h0
    clear hd hn h0
    go_wp2_with (fail)
    refine (toPl_c p _ ls W HRW.out HL.out).mono ?_
    rintro e W3 ⟨v7, rfl, o7, b7⟩
    have HB7 : Hid (Below W.heap.size W W3) := b7
    obtain ⟨a7, c7, rfl⟩ := o7.form
    have HO7 : Hid (Rg 18 pkC W3 (.slice a7 ls.length c7) ls) := o7.rd pkC_len
    clear b7 o7
    go_wp2
    have H0 := HH1.out
    have H := HH1.out.below HB7.out
    have hn := HHN.out
    have h0 := HHD.out
    refine ⟨rfl, [.agg (plA p (.slice a ls.length cap)), .agg (plA p (.slice a7 ls.length c7)), v2, v3, v4, v5, v6, v7, v8, v9, v10], ?_, .agg (plA p (.slice a ls.length cap)), .agg (plA p (.slice a7 ls.length c7)), v2, v3, v4, v5, v6, v7, v8, v9, v10, a7, c7, a0, c0, X, rfl, ⟨H.bel, (fun _ => rfl), (fun _ => rfl), (by have h := H.f2; simpa [doneSet] using h), (by have h := H.f3; simpa [doneSet] using h), (by have h := H.f4; simpa [doneSet] using h), (by have h := H.f5; simpa [doneSet] using h), (by have h := H.f6; simpa [doneSet] using h), (by have h := H.f7; simpa [doneSet] using h), (by have h := H.f8; simpa [doneSet] using h), (by have h := H.f10; simpa [doneSet] using h), (fun _ _ => HO7.out), (by have h := H.o4; simpa [doneSet] using h), (by have h := H.k8; simpa [doneSet] using h), (by have h := H.x8; simpa [doneSet] using h), (by have h := H.k9; simpa [doneSet] using h), (by have h := H.g5_4; simpa [doneSet] using h), (by have h := H.g6_4; simpa [doneSet] using h), (by have h := H.g9_4; simpa [doneSet] using h), (by have h := H.g9_8; simpa [doneSet] using h), (fun _ => by simp [doneSet])⟩⟩
    simp only [putAll, Act.put, List.setIfInBounds_toArray, List.set_cons_succ, List.set_cons_zero]
    all_goals rfl
  · rintro d vs W ⟨v0, v1, v2, v3, v4, v5, v6, v7, v8, v9, v10, av, cv, a0, c0, X, rfl, H⟩ hn hd
    simp only [putAll, Act.put, List.setIfInBounds_toArray, List.set_cons_succ, List.set_cons_zero]
    have HKW : Hid (Blk W GP (pkA k) 35) := HKP.out.below H.bel HKP.out.lt
    have HH1 : Hid (Ru (w10.drew) (p) (pp) (a) (cap) (k) (ls) (st) (ok) d W v0 v1 v2 v3 v4 v5 v6 v7 v8 v9 v10 av cv a0 c0 X) := H
    clear H
    have HHN : Hid (d 2 = false) := hn
    clear hd hn
    go_wp2_with (refine wpList_load_row rfl 35 _ rfl GP rfl 35 (pkA k) (0, 0) _ HKW.out Try.underlying35 rfl (by rw [pkA_size]; kernel_rfl) ?_)
    have H0 := HH1.out
    have H := HH1.out
    have hn := HHN.out
    refine ⟨rfl, [v0, v1, .agg (pkA k), v3, v4, v5, v6, v7, v8, v9, v10], ?_, v0, v1, .agg (pkA k), v3, v4, v5, v6, v7, v8, v9, v10, av, cv, a0, c0, X, rfl, ⟨H.bel, (by have h := H.f0; simpa [doneSet] using h), (by have h := H.f1; simpa [doneSet] using h), (fun _ => rfl), (by have h := H.f3; simpa [doneSet] using h), (by have h := H.f4; simpa [doneSet] using h), (by have h := H.f5; simpa [doneSet] using h), (by have h := H.f6; simpa [doneSet] using h), (by have h := H.f7; simpa [doneSet] using h), (by have h := H.f8; simpa [doneSet] using h), (by have h := H.f10; simpa [doneSet] using h), (by have h := H.o1; simpa [doneSet] using h), (by have h := H.o4; simpa [doneSet] using h), (by have h := H.k8; simpa [doneSet] using h), (by have h := H.x8; simpa [doneSet] using h), (by have h := H.k9; simpa [doneSet] using h), (by have h := H.g5_4; simpa [doneSet] using h), (by have h := H.g6_4; simpa [doneSet] using h), (by have h := H.g9_4; simpa [doneSet] using h), (by have h := H.g9_8; simpa [doneSet] using h), (by have h := H.g4_1; simpa [doneSet] using h)⟩⟩
    simp only [putAll, Act.put, List.setIfInBounds_toArray, List.set_cons_succ, List.set_cons_zero]
    all_goals rfl
  · rintro d vs W ⟨v0, v1, v2, v3, v4, v5, v6, v7, v8, v9, v10, av, cv, a0, c0, X, rfl, H⟩ hn hd
    simp only [putAll, Act.put, List.setIfInBounds_toArray, List.set_cons_succ, List.set_cons_zero]
    have h2 : d 2 = true := hd { on := 2, ground := .data } (by simp) rfl
    obtain rfl := H.f2 h2
    have HH1 : Hid (Ru (w10.drew) (p) (pp) (a) (cap) (k) (ls) (st) (ok) d W v0 v1 (.agg (pkA k)) v3 v4 v5 v6 v7 v8 v9 v10 av cv a0 c0 X) := H
    clear H
    have HHN : Hid (d 3 = false) := hn
    have HHD : Hid (d 2 = true) := h2
    clear hd hn h2
    go_wp2_with (fail)
    refine (toPk_c k W).mono ?_
    rintro e W3 ⟨rfl, b7⟩
    have HB7 : Hid (Below W.heap.size W W3) := b7
    clear b7
    go_wp2
    have H0 := HH1.out
    have H := HH1.out.below HB7.out
    have hn := HHN.out
    have h2 := HHD.out
    refine ⟨rfl, [v0, v1, .agg (pkA k), .agg (pkA k), v4, v5, v6, v7, v8, v9, v10], ?_, v0, v1, .agg (pkA k), .agg (pkA k), v4, v5, v6, v7, v8, v9, v10, av, cv, a0, c0, X, rfl, ⟨H.bel, (by have h := H.f0; simpa [doneSet] using h), (by have h := H.f1; simpa [doneSet] using h), (fun _ => rfl), (fun _ => rfl), (by have h := H.f4; simpa [doneSet] using h), (by have h := H.f5; simpa [doneSet] using h), (by have h := H.f6; simpa [doneSet] using h), (by have h := H.f7; simpa [doneSet] using h), (by have h := H.f8; simpa [doneSet] using h), (by have h := H.f10; simpa [doneSet] using h), (by have h := H.o1; simpa [doneSet] using h), (by have h := H.o4; simpa [doneSet] using h), (by have h := H.k8; simpa [doneSet] using h), (by have h := H.x8; simpa [doneSet] using h), (by have h := H.k9; simpa [doneSet] using h), (by have h := H.g5_4; simpa [doneSet] using h), (by have h := H.g6_4; simpa [doneSet] using h), (by have h := H.g9_4; simpa [doneSet] using h), (by have h := H.g9_8; simpa [doneSet] using h), (by have h := H.g4_1; simpa [doneSet] using h)⟩⟩
    simp only [putAll, Act.put, List.setIfInBounds_toArray, List.set_cons_succ, List.set_cons_zero]
    all_goals rfl
  · rintro d vs W ⟨v0, v1, v2, v3, v4, v5, v6, v7, v8, v9, v10, av, cv, a0, c0, X, rfl, H⟩ hn hd
    simp only [putAll, Act.put, List.setIfInBounds_toArray, List.set_cons_succ, List.set_cons_zero]
    have h1 : d 1 = true := hd { on := 1, ground := .data } (by simp) rfl
    have h3 : d 3 = true := hd { on := 3, ground := .data } (by simp) rfl
    have HO1 : Hid (Rg 18 pkC W (.slice av ls.length cv) ls) := H.o1 h1 hn
    obtain rfl := H.f1 h1
    obtain rfl := H.f3 h3
    have HH1 : Hid (Ru (w10.drew) (p) (pp) (a) (cap) (k) (ls) (st) (ok) d W v0 (.agg (plA p (.slice av ls.length cv))) v2 (.agg (pkA k)) v4 v5 v6 v7 v8 v9 v10 av cv a0 c0 X) := H
    clear H
    have HHN : Hid (d 4 = false) := hn
    have HHD : Hid (d 1 = true ∧ d 3 = true) := ⟨h1, h3⟩
    clear hd hn h1 h3
    go_wp2_with (fail)
    refine (HI.out W _ HO1.out).mono ?_
    rintro e W3 ⟨v7, rfl, o7, b7⟩
    have HB7 : Hid (Below W.heap.size W W3) := b7
    obtain ⟨a7, c7, rfl⟩ := o7.form
    have HO7 : Hid (Og 18 pkC 38 W.heap.size W3 (.slice a7 st.length c7) st) := o7
    clear b7 o7
    go_wp2
    have H0 := HH1.out
    have H := HH1.out.below HB7.out
    have hn := HHN.out
    have h1 := HHD.out.1
    have h3 := HHD.out.2
    refine ⟨rfl, [v0, .agg (plA p (.slice av ls.length cv)), v2, .agg (pkA k), .tuple #[.agg (plA pp (.slice a7 st.length c7)), .bool ok], v5, v6, v7, v8, v9, v10], ?_, v0, .agg (plA p (.slice av ls.length cv)), v2, .agg (pkA k), .tuple #[.agg (plA pp (.slice a7 st.length c7)), .bool ok], v5, v6, v7, v8, v9, v10, av, cv, a7, c7, X, rfl, ⟨H.bel, (by have h := H.f0; simpa [doneSet] using h), (fun _ => rfl), (by have h := H.f2; simpa [doneSet] using h), (fun _ => rfl), (fun _ => rfl), (fun e => absurd (H0.g5_4 (by simpa [doneSet] using e)) (by rw [hn]; simp)), (fun e => absurd (H0.g6_4 (by simpa [doneSet] using e)) (by rw [hn]; simp)), (by have h := H.f7; simpa [doneSet] using h), (by have h := H.f8; simpa [doneSet] using h), (by have h := H.f10; simpa [doneSet] using h), (fun _ e => absurd e (by simp [doneSet])), (fun _ => HO7.out.mono H0.bel.size), (by have h := H.k8; simpa [doneSet] using h), (by have h := H.x8; simpa [doneSet] using h), (fun e => absurd (H0.g9_4 (by simpa [doneSet] using e)) (by rw [hn]; simp)), (fun _ => by simp [doneSet]), (fun _ => by simp [doneSet]), (fun _ => by simp [doneSet]), (by have h := H.g9_8; simpa [doneSet] using h), (fun _ => by simpa [doneSet] using h1)⟩⟩
    simp only [putAll, Act.put, List.setIfInBounds_toArray, List.set_cons_succ, List.set_cons_zero]
    all_goals rfl
  · rintro d vs W ⟨v0, v1, v2, v3, v4, v5, v6, v7, v8, v9, v10, av, cv, a0, c0, X, rfl, H⟩ hn hd
    simp only [putAll, Act.put, List.setIfInBounds_toArray, List.set_cons_succ, List.set_cons_zero]
    have h4 : d 4 = true := hd { on := 4, ground := .data } (by simp) rfl
    obtain rfl := H.f4 h4
    have HH1 : Hid (Ru (w10.drew) (p) (pp) (a) (cap) (k) (ls) (st) (ok) d W v0 v1 v2 v3 (.tuple #[.agg (plA pp (.slice a0 st.length c0)), .bool ok]) v5 v6 v7 v8 v9 v10 av cv a0 c0 X) := H
    clear H
    have HHN : Hid (d 5 = false) := hn
    have HHD : Hid (d 4 = true) := h4
    clear hd hn h4
    go_wp2
    have H0 := HH1.out
    have H := HH1.out
    have hn := HHN.out
    have h4 := HHD.out
    refine ⟨rfl, [v0, v1, v2, v3, .tuple #[.agg (plA pp (.slice a0 st.length c0)), .bool ok], .tuple #[.agg (plA pp (.slice a0 st.length c0)), .bool ok], v6, v7, v8, v9, v10], ?_, v0, v1, v2, v3, .tuple #[.agg (plA pp (.slice a0 st.length c0)), .bool ok], .tuple #[.agg (plA pp (.slice a0 st.length c0)), .bool ok], v6, v7, v8, v9, v10, av, cv, a0, c0, X, rfl, ⟨H.bel, (by have h := H.f0; simpa [doneSet] using h), (by have h := H.f1; simpa [doneSet] using h), (by have h := H.f2; simpa [doneSet] using h), (by have h := H.f3; simpa [doneSet] using h), (fun _ => rfl), (fun _ => rfl), (by have h := H.f6; simpa [doneSet] using h), (by have h := H.f7; simpa [doneSet] using h), (by have h := H.f8; simpa [doneSet] using h), (by have h := H.f10; simpa [doneSet] using h), (by have h := H.o1; simpa [doneSet] using h), (by have h := H.o4; simpa [doneSet] using h), (by have h := H.k8; simpa [doneSet] using h), (by have h := H.x8; simpa [doneSet] using h), (by have h := H.k9; simpa [doneSet] using h), (fun _ => by simpa [doneSet] using h4), (by have h := H.g6_4; simpa [doneSet] using h), (by have h := H.g9_4; simpa [doneSet] using h), (by have h := H.g9_8; simpa [doneSet] using h), (by have h := H.g4_1; simpa [doneSet] using h)⟩⟩
    simp only [putAll, Act.put, List.setIfInBounds_toArray, List.set_cons_succ, List.set_cons_zero]
    all_goals rfl
  · rintro d vs W ⟨v0, v1, v2, v3, v4, v5, v6, v7, v8, v9, v10, av, cv, a0, c0, X, rfl, H⟩ hn hd
    simp only [putAll, Act.put, List.setIfInBounds_toArray, List.set_cons_succ, List.set_cons_zero]
    have h5 : d 5 = true := hd { on := 5, ground := .data } (by simp) rfl
    have h4 := H.g5_4 h5
    obtain rfl := H.f5 h5
    have HH1 : Hid (Ru (w10.drew) (p) (pp) (a) (cap) (k) (ls) (st) (ok) d W v0 v1 v2 v3 v4 (.tuple #[.agg (plA pp (.slice a0 st.length c0)), .bool ok]) v6 v7 v8 v9 v10 av cv a0 c0 X) := H
    clear H
    have HHN : Hid (d 6 = false) := hn
    have HHD : Hid (d 5 = true) := h5
    clear hd hn h5
    go_wp2
    have H0 := HH1.out
    have H := HH1.out
    have hn := HHN.out
    have h5 := HHD.out
    refine ⟨rfl, [v0, v1, v2, v3, v4, .tuple #[.agg (plA pp (.slice a0 st.length c0)), .bool ok], .agg (plA pp (.slice a0 st.length c0)), v7, v8, v9, v10], ?_, v0, v1, v2, v3, v4, .tuple #[.agg (plA pp (.slice a0 st.length c0)), .bool ok], .agg (plA pp (.slice a0 st.length c0)), v7, v8, v9, v10, av, cv, a0, c0, X, rfl, ⟨H.bel, (by have h := H.f0; simpa [doneSet] using h), (by have h := H.f1; simpa [doneSet] using h), (by have h := H.f2; simpa [doneSet] using h), (by have h := H.f3; simpa [doneSet] using h), (by have h := H.f4; simpa [doneSet] using h), (fun _ => rfl), (fun _ => rfl), (by have h := H.f7; simpa [doneSet] using h), (by have h := H.f8; simpa [doneSet] using h), (by have h := H.f10; simpa [doneSet] using h), (by have h := H.o1; simpa [doneSet] using h), (by have h := H.o4; simpa [doneSet] using h), (by have h := H.k8; simpa [doneSet] using h), (by have h := H.x8; simpa [doneSet] using h), (by have h := H.k9; simpa [doneSet] using h), (by have h := H.g5_4; simpa [doneSet] using h), (fun _ => by simpa [doneSet] using h4), (by have h := H.g9_4; simpa [doneSet] using h), (by have h := H.g9_8; simpa [doneSet] using h), (by have h := H.g4_1; simpa [doneSet] using h)⟩⟩
    simp only [putAll, Act.put, List.setIfInBounds_toArray, List.set_cons_succ, List.set_cons_zero]
    all_goals rfl
  · rintro d vs W ⟨v0, v1, v2, v3, v4, v5, v6, v7, v8, v9, v10, av, cv, a0, c0, X, rfl, H⟩ hn hd
    simp only [putAll, Act.put, List.setIfInBounds_toArray, List.set_cons_succ, List.set_cons_zero]
    have h5 : d 5 = true := hd { on := 5, ground := .data } (by simp) rfl
    obtain rfl := H.f5 h5
    have HH1 : Hid (Ru (w10.drew) (p) (pp) (a) (cap) (k) (ls) (st) (ok) d W v0 v1 v2 v3 v4 (.tuple #[.agg (plA pp (.slice a0 st.length c0)), .bool ok]) v6 v7 v8 v9 v10 av cv a0 c0 X) := H
    clear H
    have HHN : Hid (d 7 = false) := hn
    have HHD : Hid (d 5 = true) := h5
    clear hd hn h5
    go_wp2
    have H0 := HH1.out
    have H := HH1.out
    have hn := HHN.out
    have h5 := HHD.out
    refine ⟨rfl, [v0, v1, v2, v3, v4, .tuple #[.agg (plA pp (.slice a0 st.length c0)), .bool ok], v6, .bool ok, v8, v9, v10], ?_, v0, v1, v2, v3, v4, .tuple #[.agg (plA pp (.slice a0 st.length c0)), .bool ok], v6, .bool ok, v8, v9, v10, av, cv, a0, c0, X, rfl, ⟨H.bel, (by have h := H.f0; simpa [doneSet] using h), (by have h := H.f1; simpa [doneSet] using h), (by have h := H.f2; simpa [doneSet] using h), (by have h := H.f3; simpa [doneSet] using h), (by have h := H.f4; simpa [doneSet] using h), (fun _ => rfl), (by have h := H.f6; simpa [doneSet] using h), (fun _ => rfl), (by have h := H.f8; simpa [doneSet] using h), (by have h := H.f10; simpa [doneSet] using h), (by have h := H.o1; simpa [doneSet] using h), (by have h := H.o4; simpa [doneSet] using h), (by have h := H.k8; simpa [doneSet] using h), (by have h := H.x8; simpa [doneSet] using h), (by have h := H.k9; simpa [doneSet] using h), (by have h := H.g5_4; simpa [doneSet] using h), (by have h := H.g6_4; simpa [doneSet] using h), (by have h := H.g9_4; simpa [doneSet] using h), (by have h := H.g9_8; simpa [doneSet] using h), (by have h := H.g4_1; simpa [doneSet] using h)⟩⟩
    simp only [putAll, Act.put, List.setIfInBounds_toArray, List.set_cons_succ, List.set_cons_zero]
    all_goals rfl
  · rintro d vs W ⟨v0, v1, v2, v3, v4, v5, v6, v7, v8, v9, v10, av, cv, a0, c0, X, rfl, H⟩ hn hd
    simp only [putAll, Act.put, List.setIfInBounds_toArray, List.set_cons_succ, List.set_cons_zero]
    have HH1 : Hid (Ru (w10.drew) (p) (pp) (a) (cap) (k) (ls) (st) (ok) d W v0 v1 v2 v3 v4 v5 v6 v7 v8 v9 v10 av cv a0 c0 X) := H
    clear H
    have HHN : Hid (d 8 = false) := hn
    clear hd hn
    go_wp2
    have H0 := HH1.out
    have H := HH1.out.below ((Below.refl _ W).alloc (Nat.le_refl _) (.cells (plA ⟨0, 0, 0, 0, 0⟩ (.slice none 0 0)) 29))
    have hn := HHN.out
    refine ⟨rfl, [v0, v1, v2, v3, v4, v5, v6, v7, .pointer (some ⟨W.heap.size, 0, none⟩), v9, v10], ?_, v0, v1, v2, v3, v4, v5, v6, v7, .pointer (some ⟨W.heap.size, 0, none⟩), v9, v10, av, cv, a0, c0, W.heap.size, rfl, ⟨H.bel, (by have h := H.f0; simpa [doneSet] using h), (by have h := H.f1; simpa [doneSet] using h), (by have h := H.f2; simpa [doneSet] using h), (by have h := H.f3; simpa [doneSet] using h), (by have h := H.f4; simpa [doneSet] using h), (by have h := H.f5; simpa [doneSet] using h), (by have h := H.f6; simpa [doneSet] using h), (by have h := H.f7; simpa [doneSet] using h), (fun _ => rfl), (by have h := H.f10; simpa [doneSet] using h), (by have h := H.o1; simpa [doneSet] using h), (by have h := H.o4; simpa [doneSet] using h), (fun _ _ => Blk.new _ _ _), (fun _ => H0.bel.size), (fun e => absurd (H0.g9_8 (by simpa [doneSet] using e)) (by rw [hn]; simp)), (by have h := H.g5_4; simpa [doneSet] using h), (by have h := H.g6_4; simpa [doneSet] using h), (by have h := H.g9_4; simpa [doneSet] using h), (fun _ => by simp [doneSet]), (by have h := H.g4_1; simpa [doneSet] using h)⟩⟩
    simp only [putAll, Act.put, List.setIfInBounds_toArray, List.set_cons_succ, List.set_cons_zero]
    all_goals rfl
  · rintro d vs W ⟨v0, v1, v2, v3, v4, v5, v6, v7, v8, v9, v10, av, cv, a0, c0, X, rfl, H⟩ hn hd
    simp only [putAll, Act.put, List.setIfInBounds_toArray, List.set_cons_succ, List.set_cons_zero]
    have h8 : d 8 = true := hd { on := 8, ground := .data } (by simp) rfl
    have h6 : d 6 = true := hd { on := 6, ground := .data } (by simp) rfl
    have HK8 : Hid (Blk W X (plA ⟨0, 0, 0, 0, 0⟩ (.slice none 0 0)) 29) := H.k8 h8 hn
    have HX8 : Hid (w10.drew.heap.size ≤ X) := H.x8 h8
    have h4 : d 4 = true := H.g6_4 h6
    have HO4 : Hid (Og 18 pkC 38 w10.drew.heap.size W (.slice a0 st.length c0) st) := H.o4 h4
    have HH4 : Hid (d 4 = true) := h4
    obtain rfl := H.f8 h8
    obtain rfl := H.f6 h6
    have HH1 : Hid (Ru (w10.drew) (p) (pp) (a) (cap) (k) (ls) (st) (ok) d W v0 v1 v2 v3 v4 v5 (.agg (plA pp (.slice a0 st.length c0))) v7 (.pointer (some ⟨X, 0, none⟩)) v9 v10 av cv a0 c0 X) := H
    clear H
    have HHN : Hid (d 9 = false) := hn
    have HHD : Hid (d 8 = true ∧ d 6 = true) := ⟨h8, h6⟩
    clear hd hn h8 h6
    go_wp2_with (refine wpList_store_row rfl 29 _ _ rfl X (plA pp (.slice a0 st.length c0)) rfl rfl 29 (plA ⟨0, 0, 0, 0, 0⟩ (.slice none 0 0)) HK8.out (by kernel_rfl) rfl (by simp [Value.oneCell']) ?_)
    have H0 := HH1.out
    have H := HH1.out
    have hn := HHN.out
    have h8 := HHD.out.1
    have h6 := HHD.out.2
    refine ⟨rfl, [v0, v1, v2, v3, v4, v5, .agg (plA pp (.slice a0 st.length c0)), v7, .pointer (some ⟨X, 0, none⟩), undef, v10], ?_, v0, v1, v2, v3, v4, v5, .agg (plA pp (.slice a0 st.length c0)), v7, .pointer (some ⟨X, 0, none⟩), undef, v10, av, cv, a0, c0, X, rfl, ⟨(belowRow H0.bel _ HX8.out _), (by have h := H.f0; simpa [doneSet] using h), (by have h := H.f1; simpa [doneSet] using h), (by have h := H.f2; simpa [doneSet] using h), (by have h := H.f3; simpa [doneSet] using h), (by have h := H.f4; simpa [doneSet] using h), (by have h := H.f5; simpa [doneSet] using h), (fun _ => rfl), (by have h := H.f7; simpa [doneSet] using h), (fun _ => rfl), (by have h := H.f10; simpa [doneSet] using h), (fun _ e => absurd HH4.out (by simp [doneSet] at e; rw [e]; simp)), (fun _ => og_setRow HO4.out HK8.out (by decide)), (fun _ e => absurd e (by simp [doneSet])), (by have h := H.x8; simpa [doneSet] using h), (fun _ => HK8.out.row _), (by have h := H.g5_4; simpa [doneSet] using h), (by have h := H.g6_4; simpa [doneSet] using h), (fun _ => by simpa [doneSet] using HH4.out), (fun _ => by simpa [doneSet] using h8), (by have h := H.g4_1; simpa [doneSet] using h)⟩⟩
    simp only [putAll, Act.put, List.setIfInBounds_toArray, List.set_cons_succ, List.set_cons_zero]
    all_goals rfl
  · rintro d vs W ⟨v0, v1, v2, v3, v4, v5, v6, v7, v8, v9, v10, av, cv, a0, c0, X, rfl, H⟩ hn hd
    simp only [putAll, Act.put, List.setIfInBounds_toArray, List.set_cons_succ, List.set_cons_zero]
    have h7 : d 7 = true := hd { on := 7, ground := .data } (by simp) rfl
    obtain rfl := H.f7 h7
    have HH1 : Hid (Ru (w10.drew) (p) (pp) (a) (cap) (k) (ls) (st) (ok) d W v0 v1 v2 v3 v4 v5 v6 (.bool ok) v8 v9 v10 av cv a0 c0 X) := H
    clear H
    have HHN : Hid (d 10 = false) := hn
    have HHD : Hid (d 7 = true) := h7
    clear hd hn h7
    go_wp2
    have H0 := HH1.out
    have H := HH1.out
    have hn := HHN.out
    have h7 := HHD.out
    refine ⟨rfl, [v0, v1, v2, v3, v4, v5, v6, .bool ok, v8, v9, .bool ok], ?_, v0, v1, v2, v3, v4, v5, v6, .bool ok, v8, v9, .bool ok, av, cv, a0, c0, X, rfl, ⟨H.bel, (by have h := H.f0; simpa [doneSet] using h), (by have h := H.f1; simpa [doneSet] using h), (by have h := H.f2; simpa [doneSet] using h), (by have h := H.f3; simpa [doneSet] using h), (by have h := H.f4; simpa [doneSet] using h), (by have h := H.f5; simpa [doneSet] using h), (by have h := H.f6; simpa [doneSet] using h), (fun _ => rfl), (by have h := H.f8; simpa [doneSet] using h), (fun _ => rfl), (by have h := H.o1; simpa [doneSet] using h), (by have h := H.o4; simpa [doneSet] using h), (by have h := H.k8; simpa [doneSet] using h), (by have h := H.x8; simpa [doneSet] using h), (by have h := H.k9; simpa [doneSet] using h), (by have h := H.g5_4; simpa [doneSet] using h), (by have h := H.g6_4; simpa [doneSet] using h), (by have h := H.g9_4; simpa [doneSet] using h), (by have h := H.g9_8; simpa [doneSet] using h), (by have h := H.g4_1; simpa [doneSet] using h)⟩⟩
    simp only [putAll, Act.put, List.setIfInBounds_toArray, List.set_cons_succ, List.set_cons_zero]
    all_goals rfl
  rintro d vs w11 ⟨v0, v1, v2, v3, v4, v5, v6, v7, v8, v9, v10, av, cv, ah, ch, X3, rfl, H⟩ hn
  obtain rfl := H.f0 (hn 0 (by decide))
  obtain rfl := H.f1 (hn 1 (by decide))
  obtain rfl := H.f2 (hn 2 (by decide))
  obtain rfl := H.f3 (hn 3 (by decide))
  obtain rfl := H.f4 (hn 4 (by decide))
  obtain rfl := H.f5 (hn 5 (by decide))
  obtain rfl := H.f6 (hn 6 (by decide))
  obtain rfl := H.f7 (hn 7 (by decide))
  obtain rfl := H.f8 (hn 8 (by decide))
  obtain rfl := H.f10 (hn 10 (by decide))
  have bE : Below w10.heap.size w10 w11 := (Below.refl _ w10).drew.trans H.bel
  have oE : Og 18 pkC 38 w10.heap.size w11 (.slice ah st.length ch) st := H.o4 (hn 4 (by decide))
  have kE : Blk w11 X3 (plA pp (.slice ah st.length ch)) 29 := H.k9 (hn 9 (by decide))
  clear H hn
  have B_w11 : Hid (Below w.heap.size w w11) := belowCall B_w10.out bE B_w10.out.size
  have K_w11 : Hid (Blk w11 GA (plA p (.slice a ls.length cap)) 24) := K_w10.out.below bE K_w10.out.lt
  have KP_w11 : Hid (Blk w11 GP (pkA k) 35) := KP_w10.out.below bE KP_w10.out.lt
  have C0_w11 : Hid (Blk w11 X1 (plA pp (.slice a1 st.length c1)) 29) := C0_w10.out.below bE C0_w10.out.lt
  have V0_w11 : Hid (Og 18 pkC 38 w1.heap.size w11 (.slice a1 st.length c1) st) := V0_w10.out.below bE
  have CX_w11 : Hid (Blk w11 GX (plA p (.slice ax ls.length cx)) 29) := CX_w10.out.below bE CX_w10.out.lt
  have CG_w11 : Hid (Blk w11 X2 (plA pp (.slice ag st.length cg)) 29) := CG_w10.out.below bE CG_w10.out.lt
  have GM_w11 : Hid (Og 18 pkC 38 W4.heap.size w11 (.slice ag st.length cg) (mkg (mkPk 1) st.length)) := GM_w10.out.below bE
  have CH_w11 : Hid (Blk w11 X3 (plA pp (.slice ah st.length ch)) 29) := kE
  have H_w11 : Hid (Og 18 pkC 38 w10.heap.size w11 (.slice ah st.length ch) st) := oE
  have HZH : Hid (w10.heap.size ≤ w11.heap.size ∧ w.heap.size ≤ w10.heap.size) := ⟨bE.size, B_w10.out.size⟩
  clear bE kE B_w10 K_w10 KP_w10 C0_w10 V0_w10 CX_w10 CG_w10 GM_w10
  simp only [putAll, Act.put, List.setIfInBounds_toArray, List.set_cons_succ, List.set_cons_zero]
  clear oE HRB HKA HKP
  have k0 := CH_w11.out.cell 0
  have k1 := CH_w11.out.cell 1
  have k2 := CH_w11.out.cell 2
  have k3 := CH_w11.out.cell 3
  have k4 := CH_w11.out.cell 4
  have k5 := CH_w11.out.cell 5
  simp at k0 k1 k2 k3 k4 k5
  have l0 := C0_w11.out.cell 0
  have l1 := C0_w11.out.cell 1
  have l2 := C0_w11.out.cell 2
  have l3 := C0_w11.out.cell 3
  have l4 := C0_w11.out.cell 4
  have l5 := C0_w11.out.cell 5
  simp at l0 l1 l2 l3 l4 l5
  go_wp2_with (fail)
  refine (eqPl_t pp _ _ st w11 (H_w11.out.rd pkC_len) (V0_w11.out.rd pkC_len)).mono ?_
  rintro e w12 ⟨rfl, b⟩
  have B_w12 : Hid (Below w.heap.size w w12) := belowCall B_w11.out b B_w11.out.size
  have K_w12 : Hid (Blk w12 GA (plA p (.slice a ls.length cap)) 24) := K_w11.out.below b K_w11.out.lt
  have KP_w12 : Hid (Blk w12 GP (pkA k) 35) := KP_w11.out.below b KP_w11.out.lt
  have C0_w12 : Hid (Blk w12 X1 (plA pp (.slice a1 st.length c1)) 29) := C0_w11.out.below b C0_w11.out.lt
  have V0_w12 : Hid (Og 18 pkC 38 w1.heap.size w12 (.slice a1 st.length c1) st) := V0_w11.out.below b
  have CX_w12 : Hid (Blk w12 GX (plA p (.slice ax ls.length cx)) 29) := CX_w11.out.below b CX_w11.out.lt
  have CG_w12 : Hid (Blk w12 X2 (plA pp (.slice ag st.length cg)) 29) := CG_w11.out.below b CG_w11.out.lt
  have GM_w12 : Hid (Og 18 pkC 38 W4.heap.size w12 (.slice ag st.length cg) (mkg (mkPk 1) st.length)) := GM_w11.out.below b
  have CH_w12 : Hid (Blk w12 X3 (plA pp (.slice ah st.length ch)) 29) := CH_w11.out.below b CH_w11.out.lt
  have H_w12 : Hid (Og 18 pkC 38 w10.heap.size w12 (.slice ah st.length ch) st) := H_w11.out.below b
  clear b B_w11 K_w11 KP_w11 C0_w11 V0_w11 CX_w11 CG_w11 GM_w11 CH_w11 H_w11 k0 k1 k2 k3 k4 k5 l0 l1 l2 l3 l4 l5
  have k0 := CG_w12.out.cell 0
  have k1 := CG_w12.out.cell 1
  have k2 := CG_w12.out.cell 2
  have k3 := CG_w12.out.cell 3
  have k4 := CG_w12.out.cell 4
  have k5 := CG_w12.out.cell 5
  simp at k0 k1 k2 k3 k4 k5
  go_wp2_with (fail)
  refine (heldPl_c pp _ 1 st.length w12 (GM_w12.out.rd pkC_len) (by omega) (by omega)).mono ?_
  rintro e w13 ⟨rfl, b⟩
  rw [HQ1.out]
  have B_w13 : Hid (Below w.heap.size w w13) := belowCall B_w12.out b B_w12.out.size
  have K_w13 : Hid (Blk w13 GA (plA p (.slice a ls.length cap)) 24) := K_w12.out.below b K_w12.out.lt
  have KP_w13 : Hid (Blk w13 GP (pkA k) 35) := KP_w12.out.below b KP_w12.out.lt
  have C0_w13 : Hid (Blk w13 X1 (plA pp (.slice a1 st.length c1)) 29) := C0_w12.out.below b C0_w12.out.lt
  have V0_w13 : Hid (Og 18 pkC 38 w1.heap.size w13 (.slice a1 st.length c1) st) := V0_w12.out.below b
  have CX_w13 : Hid (Blk w13 GX (plA p (.slice ax ls.length cx)) 29) := CX_w12.out.below b CX_w12.out.lt
  have CG_w13 : Hid (Blk w13 X2 (plA pp (.slice ag st.length cg)) 29) := CG_w12.out.below b CG_w12.out.lt
  have GM_w13 : Hid (Og 18 pkC 38 W4.heap.size w13 (.slice ag st.length cg) (mkg (mkPk 1) st.length)) := GM_w12.out.below b
  have CH_w13 : Hid (Blk w13 X3 (plA pp (.slice ah st.length ch)) 29) := CH_w12.out.below b CH_w12.out.lt
  have H_w13 : Hid (Og 18 pkC 38 w10.heap.size w13 (.slice ah st.length ch) st) := H_w12.out.below b
  clear b B_w12 K_w12 KP_w12 C0_w12 V0_w12 CX_w12 CG_w12 GM_w12 CH_w12 H_w12 k0 k1 k2 k3 k4 k5
  go_wp2
  go_ret
  exact ⟨rfl, B_w13.out⟩

end Go.Proofs.Ytlgogikogmndmaa
