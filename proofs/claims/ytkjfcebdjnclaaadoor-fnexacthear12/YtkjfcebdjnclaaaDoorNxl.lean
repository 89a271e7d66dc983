/- The next levels of a player; the table is as it was laid. -/
import Derived.Test.YtkjfcebdjnclaaaDoorFad
import Derived.Test.YtkjfcebdjnclaaaDoorCdh
import Derived.Test.YtkjfcebdjnclaaaDoorDet
namespace Go.Proofs.YtkjfcebdjnclaaaDoor
open Go.RowKit Go.ChangeShapes Go.WideShapes Go.ChangeAt
set_option linter.unusedVariables false
set_option linter.unusedSimpArgs false
set_option maxRecDepth 8000

/-- levels and whether they are a gap's -/
def NxQ (out : List Int) (gap : Bool) (w : World) (e : Ending) (w' : World) : Prop := ∃ v, e = .returned (.tuple #[v, .bool gap]) ∧ Ow .i64 3 w.heap.size w' v out ∧ Below w.heap.size w w'
theorem nx_leave {tmps : Array Value} {gV gG gL : Nat} (hV : tmps.getD 4 undef = .pointer (some ⟨gV, 0, none⟩)) (hGp : tmps.getD 5 undef = .pointer (some ⟨gG, 0, none⟩)) {W w : World} {gap : Bool} {l : Int} (hl : -32767 ≤ l ∧ l ≤ 32767) {old : Value} (k0 : Blk W gG #[.bool gap] 4) (k1 : Blk W gL #[.int .i64 l] 3) (k2 : Blk W gV #[old] 26)
    (hne : gV ≠ gG) (hge : w.heap.size ≤ gV) {out : List Int} (h0 : gap = false → Ow .i64 3 w.heap.size W old out) (h1 : gap = true → out = fdL l 30) (hb : Below w.heap.size w W) :
    Leaves Tryd.prog Tryd.f82 tmps (NxQ out gap w) [{ target := .fn (.func 108) #[.pointer (some ⟨gG, 0, none⟩), .pointer (some ⟨gL, 0, none⟩), .pointer (some ⟨gV, 0, none⟩)], args := #[] }] .returning W := by
  have hV' : tmps[4]?.getD undef = .pointer (some ⟨gV, 0, none⟩) := by simpa using hV
  have hG' : tmps[5]?.getD undef = .pointer (some ⟨gG, 0, none⟩) := by simpa using hGp
  refine leaves_cons (f := 108) (args := #[.pointer (some ⟨gG, 0, none⟩), .pointer (some ⟨gL, 0, none⟩), .pointer (some ⟨gV, 0, none⟩)]) (by simp) (by simp [go_sem]) ?_
  refine (clo_d gG gL gV gap l hl old W .returning k0 k1 k2).mono ?_
  rintro e u' w'' ⟨rfl, rfl, q0, q1⟩
  cases gap with
  | false =>
    obtain rfl := q0 rfl
    have c0 := k0.cell 0
    have c2 := k2.cell 0
    simp at c0 c2
    refine ⟨.tuple #[old, .bool false], ?_, _, rfl, h0 rfl, hb⟩
    simp [results, Tryd.results82, go_sem, hV', hG', c0, c2]
  | true =>
    obtain ⟨v, w1, o1, b1, rfl⟩ := q1 rfl
    have k2' := (k2.below b1 k2.lt).set 0 v
    have k0' := (k0.below b1 k0.lt).other ⟨gV, 0, none⟩ v (by dsimp only; omega)
    have c0 := k0'.cell 0
    have c2 := k2'.cell 0
    simp at c0 c2
    have hO : Ow .i64 3 w.heap.size (w1.setCell ⟨gV, 0, none⟩ v) v out := by
      rw [h1 rfl]
      have hlt := k2.lt
      have hO' : Ow .i64 3 W.heap.size (w1.setCell ⟨gV, 0, none⟩ v) v (fdL l 30) := ownsRow_setCell_below (a := ⟨gV, 0, none⟩) o1 hlt v
      exact hO'.mono hb.size
    have hB : Below w.heap.size w (w1.setCell ⟨gV, 0, none⟩ v) := (belowCall hb b1 hb.size).setCell (by dsimp only; omega) _
    refine ⟨.tuple #[v, .bool true], ?_, _, rfl, hO, hB⟩
    simp [results, Tryd.results82, go_sem, hV', hG', c0, c2]
/-- the next levels, and whether they are a gap's -/
def lvF (ls : List Pk) (n l : Int) : List Int × Bool := if h : thB ls n = true ∧ ∃ h : pcF ls n < ls.length, COk (l, (ls[pcF ls n]'h).f 0) then (exL (l, (ls[pcF ls n]'h.2.1).f 0) (frNs (ls[pcF ls n]'h.2.1).f 15), false) else (fdL l 30, true)
theorem thB_lt {ls : List Pk} {n : Int} (h : thB ls n = true) : pcF ls n < ls.length := by
  unfold thB at h
  by_cases c : pcF ls n < ls.length
  · exact c
  · rw [List.getElem?_eq_none (by omega)] at h; simp at h

theorem Ow.putX {base X : Nat} {w : World} {v : Value} {zs : List Int} {cs cs' : Array Value} (h : Ow .i64 3 base w v zs) (hb : Blk w X cs 25) : Ow .i64 3 base (w.setRow X cs') v zs := by
  refine World.ownsRow.kept (row := some X) h ⟨rfl, rfl, rfl, by simp, fun i _ hi => setRow_other w _ i _ (fun e => hi (by simp [e]))⟩ ?_
  exact .inr (own_blk_ne h hb (by decide))
structure Rn (Wd : World) (gs : Nat) (b : Nat) (off : Nat) (n : Nat) (cap : Nat) (l : Int) (j : Nat) (f : Nat → Int) (out : List Int) (cc : Int × Int) (ok : Bool) (d : Nat → Bool) (W : World) (v0 v1 v2 v3 v4 v5 v6 v7 v8 v9 v10 v11 v12 v13 v14 v15 : Value) (av : Option Addr) (cv : Nat) (X : Nat) : Prop where
  bel : Below Wd.heap.size Wd W
  f0 : d 0 = true → v0 = .int .i64 l
  f1 : d 1 = true → v1 = .pointer (some ⟨gs, 0, none⟩)
  f2 : d 2 = true → v2 = .slice (some ⟨b, off, none⟩) n cap
  f3 : d 3 = true → v3 = .int .i64 (j : Int)
  f4 : d 4 = true → v4 = .pointer (some ⟨b, off + j * 18, none⟩)
  f5 : d 5 = true → v5 = .pointer (some ⟨b, off + j * 18 + 2, none⟩)
  f6 : d 6 = true → v6 = .agg (A16 f)
  f7 : d 7 = true → v7 = .tuple #[.slice av out.length cv, .agg (cdA cc), .bool ok]
  f8 : d 8 = true → v8 = .tuple #[.slice av out.length cv, .agg (cdA cc), .bool ok]
  f9 : d 9 = true → v9 = .slice av out.length cv
  f10 : d 10 = true → v10 = .agg (cdA cc)
  f11 : d 11 = true → v11 = .bool ok
  f12 : d 12 = true → v12 = .pointer (some ⟨X, 0, none⟩)
  f13 : d 13 = true → v13 = .slice av out.length cv
  f15 : d 15 = true → v15 = .bool ok
  o7 : d 7 = true → Ow .i64 3 Wd.heap.size W (.slice av out.length cv) out
  k12 : d 12 = true → d 14 = false → Blk W X (cdA (0, 0)) 25
  x12 : d 12 = true → Wd.heap.size ≤ X
  g8_7 : d 8 = true → d 7 = true
  g9_7 : d 9 = true → d 7 = true
  g13_7 : d 13 = true → d 7 = true
def RnS (Wd : World) (gs : Nat) (b : Nat) (off : Nat) (n : Nat) (cap : Nat) (l : Int) (j : Nat) (f : Nat → Int) (out : List Int) (cc : Int × Int) (ok : Bool) (d : Nat → Bool) (q : List Value) (W : World) : Prop := ∃ v0 v1 v2 v3 v4 v5 v6 v7 v8 v9 v10 v11 v12 v13 v14 v15 av cv X, q = [v0, v1, v2, v3, v4, v5, v6, v7, v8, v9, v10, v11, v12, v13, v14, v15] ∧ Rn Wd gs b off n cap l j f out cc ok d W v0 v1 v2 v3 v4 v5 v6 v7 v8 v9 v10 v11 v12 v13 v14 v15 av cv X
theorem Rn.below {Wd : World} {gs : Nat} {b : Nat} {off : Nat} {n : Nat} {cap : Nat} {l : Int} {j : Nat} {f : Nat → Int} {out : List Int} {cc : Int × Int} {ok : Bool} {d : Nat → Bool} {W W' : World} {v0 v1 v2 v3 v4 v5 v6 v7 v8 v9 v10 v11 v12 v13 v14 v15 : Value} {av : Option Addr} {cv : Nat} {X : Nat} (h : Rn Wd gs b off n cap l j f out cc ok d W v0 v1 v2 v3 v4 v5 v6 v7 v8 v9 v10 v11 v12 v13 v14 v15 av cv X) (hb : Below W.heap.size W W') : Rn Wd gs b off n cap l j f out cc ok d W' v0 v1 v2 v3 v4 v5 v6 v7 v8 v9 v10 v11 v12 v13 v14 v15 av cv X :=
  { h with
    bel := belowCall h.bel hb h.bel.size
    o7 := fun e0 => (h.o7 e0).below hb
    k12 := fun e0 e1 => (h.k12 e0 e1).below hb (h.k12 e0 e1).lt
  }
set_option maxHeartbeats 3200000 in
theorem next_c (v : Value) (ls : List Pk) (n l : Int) (hl : -32767 ≤ l ∧ l ≤ 32767) (w : World) (h : Rg 18 pkC w v ls) (hG : ChG w) (hb : ∀ k ∈ ls, PkBy k) : Calls Tryd.prog 82 #[.agg #[v, .int .i64 n], .int .i64 l] w (NxQ (lvF ls n l).1 (lvF ls n l).2 w) := by
  have HR : Hid (Rg 18 pkC w v ls) := h
  have hmf : ∀ (fn : Fn) (first cap : Array Value) (w : World), (Instr.makeFunc fn first cap).run Tryd.prog w = .ok (.func fn first cap) w := fun _ _ _ _ => rfl
  have HG : Hid (ChG w) := hG
  have HPB : Hid (∀ k ∈ ls, PkBy k) := hb
  have HLL : Hid (-32767 ≤ l ∧ l ≤ 32767) := hl
  obtain ⟨a, cap, rfl, h1, h2, h3⟩ := h
  obtain ⟨W4, hW4⟩ : ∃ W, (((w.alloc (Obj.cells #[.slice a ls.length cap, .int .i64 n] 94)).alloc (Obj.cells #[.int .i64 l] 3)).alloc (Obj.cells #[.slice none 0 0] 26)).alloc (Obj.cells #[.bool false] 4) = W := ⟨_, rfl⟩
  obtain ⟨gs, hgs⟩ : ∃ g, w.heap.size = g := ⟨_, rfl⟩
  have HS4 : Hid (Blk W4 gs #[.slice a ls.length cap, .int .i64 n] 94) := by rw [← hW4, ← hgs]; exact (((Blk.new _ _ _).alloc _).alloc _).alloc _
  have HL4 : Hid (Blk W4 (gs + 1) #[.int .i64 l] 3) := by rw [← hW4, ← hgs]; exact ((Blk.newAt _ _ _ _ (by simp)).alloc _).alloc _
  have HV4 : Hid (Blk W4 (gs + 1 + 1) #[.slice none 0 0] 26) := by rw [← hW4, ← hgs]; exact (Blk.newAt _ _ _ _ (by simp)).alloc _
  have HG4 : Hid (Blk W4 (gs + 1 + 1 + 1) #[.bool false] 4) := by rw [← hW4, ← hgs]; exact Blk.newAt _ _ _ _ (by simp)
  have HB4 : Hid (Below w.heap.size w W4) := by rw [← hW4]; exact ((((Below.refl _ _).alloc (Nat.le_refl _) _).alloc (by simp) _).alloc (by simp; omega) _).alloc (by simp; omega) _
  have HGS : Hid (w.heap.size = gs) := hgs
  have HW4 : Hid ((((w.alloc (Obj.cells #[.slice a ls.length cap, .int .i64 n] 94)).alloc (Obj.cells #[.int .i64 l] 3)).alloc (Obj.cells #[.slice none 0 0] 26)).alloc (Obj.cells #[.bool false] 4) = W4) := hW4
  clear hW4 hgs hG hb hl
  go_enter_defers Tryd.func82, Tryd.ntmps82
  go_wp2_with (fail)
  rw [HW4.out, HGS.out]
  refine (placeOf_c _ ls n W4 (HR.out.below HB4.out)).mono ?_
  rintro e w5 ⟨rfl, b5⟩
  have HS5 : Hid (Blk w5 gs #[.slice a ls.length cap, .int .i64 n] 94) := HS4.out.below b5 HS4.out.lt
  have HL5 : Hid (Blk w5 (gs + 1) #[.int .i64 l] 3) := HL4.out.below b5 HL4.out.lt
  have HV5 : Hid (Blk w5 (gs + 1 + 1) #[.slice none 0 0] 26) := HV4.out.below b5 HV4.out.lt
  have HG5 : Hid (Blk w5 (gs + 1 + 1 + 1) #[.bool false] 4) := HG4.out.below b5 HG4.out.lt
  have HB5 : Hid (Below w.heap.size w w5) := belowCall HB4.out b5 HB4.out.size
  clear b5 HS4 HL4 HV4 HG4 HB4 HW4
  obtain ⟨th, hth⟩ : ∃ b, thB ls n = b := ⟨_, rfl⟩
  have HTH : Hid (thB ls n = th) := hth
  rw [hth]
  clear hth
  cases th
  · have cv := HV5.out.cell 0
    have cg := HG5.out.cell 0
    have fv := HV5.out.frozen 0
    have fg := HG5.out.frozen 0
    simp at cv cg
    have hlv : lvF ls n l = (fdL l 30, true) := by unfold lvF; rw [dif_neg (fun h => by have h2 := h.1; rw [HTH.out] at h2; cases h2)]
    have HLV : Hid (lvF ls n l = (fdL l 30, true)) := hlv
    have HKS : Hid (Blk w5 (gs + 1 + 1) #[.slice none 0 0] 26 ∧ Blk w5 (gs + 1 + 1 + 1) #[.bool false] 4 ∧ Blk w5 (gs + 1) #[.int .i64 l] 3) := ⟨HV5.out, HG5.out, HL5.out⟩
    clear h3 hlv
    go_wp2
    rw [HLV.out]
    have hgs := HGS.out
    refine nx_leave (old := .slice none 0 0) rfl rfl HLL.out (HKS.out.2.1.other ⟨gs + 1 + 1, 0, none⟩ _ (by dsimp only; omega) |>.set 0 _) ((HKS.out.2.2.other ⟨gs + 1 + 1, 0, none⟩ _ (by dsimp only; omega)).other ⟨gs + 1 + 1 + 1, 0, none⟩ _ (by dsimp only; omega)) ((HKS.out.1.set 0 _).other ⟨gs + 1 + 1 + 1, 0, none⟩ _ (by dsimp only; omega)) (by omega) (by omega) ?_ ?_ ((HB5.out.setCell (by dsimp only; omega) _).setCell (by dsimp only; omega) _)
    · intro h; cases h
    · intro _; rfl
  · have hlt : pcF ls n < ls.length := thB_lt HTH.out
    rcases h3 with h3 | ⟨b, off, rfl, h4⟩
    · subst h3; simp at hlt
    obtain ⟨j, hj⟩ : ∃ j, pcF ls n = j := ⟨_, rfl⟩
    have HJ : Hid (pcF ls n = j) := hj
    rw [hj] at hlt ⊢
    obtain ⟨f, hf⟩ : ∃ f, ls[j].f = f := ⟨_, rfl⟩
    have HFJ : Hid (ls[j].f = f) := hf
    have hcb : b < w.heap.size := block_lt_of_cell (h4 j hlt 0 _ rfl)
    have HFB : Hid (∀ i, i < 16 → 0 ≤ f i ∧ f i ≤ 255) := by rw [← hf]; exact HPB.out _ (List.getElem_mem hlt)
    have HGF : Hid (∀ W, Below w5.drew.heap.size w5.drew W → ChG W) := fun W hW => HG.out.below (belowCall HB5.out.drew hW HB5.out.size) HG.out.lt
    have CE : Hid (∀ W, Below w5.drew.heap.size w5.drew W → W.cell? ⟨gs + 1, 0, none⟩ = some (.int .i64 l) ∧ W.cell? ⟨gs, 0, none⟩ = some (.slice (some ⟨b, off, none⟩) ls.length cap) ∧ W.rangeAt b (off + j * 18 + 2) (frF f)) := fun W hW => by
      have k1 := (HL5.out.drew.below hW HL5.out.lt).cell 0
      have k2 := (HS5.out.drew.below hW HS5.out.lt).cell 0
      refine ⟨by simpa using k1, by simpa using k2, ?_⟩
      rw [← hf]
      exact (rg_mid (rangeAt_below (h4 j hlt) (belowCall HB5.out.drew hW HB5.out.size) hcb)).2.2
    have hi1 : (0 : Int) ≤ (j : Int) := by omega
    have hi2 : (j : Int) < (ls.length : Int) := by omega
    clear h4 hj hf
    by_cases hCO : COk (l, f 0)
    · have HCO : Hid (COk (l, f 0)) := hCO
      clear hCO
      go_wp2_with (fail)
      refine region_vals [undef, undef, undef, undef, undef, undef, undef, undef, undef, undef, undef, undef, undef, undef, undef, undef] (RnS (w5.drew) (gs) (b) (off) (ls.length) (cap) (l) (j) (f) ((exL (l, f 0) (frNs f 15))) ((cdE (l, f 0) (frNs f 15))) (true)) (by kernel_rfl) (by kernel_rfl) ?_ ⟨?_, ?_, ?_, ?_, ?_, ?_, ?_, ?_, ?_, ?_, ?_, ?_, ?_, ?_, ?_, ?_, trivial⟩ ?_
      · refine ⟨_, _, _, _, _, _, _, _, _, _, _, _, _, _, _, _, none, 0, 0, rfl, ⟨(Below.refl _ _), ?_, ?_, ?_, ?_, ?_, ?_, ?_, ?_, ?_, ?_, ?_, ?_, ?_, ?_, ?_, ?_, ?_, ?_, ?_, ?_, ?_⟩⟩ <;> simp
      · rintro d vs W ⟨v0, v1, v2, v3, v4, v5, v6, v7, v8, v9, v10, v11, v12, v13, v14, v15, av, cv, X, rfl, H⟩ hn hd
        simp only [putAll, Act.put, List.setIfInBounds_toArray, List.set_cons_succ, List.set_cons_zero]
        obtain ⟨q0, q1, q2⟩ := CE.out W H.bel
        have HH1 : Hid (Rn (w5.drew) (gs) (b) (off) (ls.length) (cap) (l) (j) (f) ((exL (l, f 0) (frNs f 15))) ((cdE (l, f 0) (frNs f 15))) (true) d W v0 v1 v2 v3 v4 v5 v6 v7 v8 v9 v10 v11 v12 v13 v14 v15 av cv X) := H
        clear H
        have HHN : Hid (d 0 = false) := hn
        clear hd hn q1 q2
        go_wp2
        have H0 := HH1.out
        have H := HH1.out
        have hn := HHN.out
        refine ⟨rfl, [.int .i64 l, v1, v2, v3, v4, v5, v6, v7, v8, v9, v10, v11, v12, v13, v14, v15], ?_, .int .i64 l, v1, v2, v3, v4, v5, v6, v7, v8, v9, v10, v11, v12, v13, v14, v15, av, cv, X, rfl, ⟨H.bel, (fun _ => rfl), (by have h := H.f1; simpa [doneSet] using h), (by have h := H.f2; simpa [doneSet] using h), (by have h := H.f3; simpa [doneSet] using h), (by have h := H.f4; simpa [doneSet] using h), (by have h := H.f5; simpa [doneSet] using h), (by have h := H.f6; simpa [doneSet] using h), (by have h := H.f7; simpa [doneSet] using h), (by have h := H.f8; simpa [doneSet] using h), (by have h := H.f9; simpa [doneSet] using h), (by have h := H.f10; simpa [doneSet] using h), (by have h := H.f11; simpa [doneSet] using h), (by have h := H.f12; simpa [doneSet] using h), (by have h := H.f13; simpa [doneSet] using h), (by have h := H.f15; simpa [doneSet] using h), (by have h := H.o7; simpa [doneSet] using h), (by have h := H.k12; simpa [doneSet] using h), (by have h := H.x12; simpa [doneSet] using h), (by have h := H.g8_7; simpa [doneSet] using h), (by have h := H.g9_7; simpa [doneSet] using h), (by have h := H.g13_7; simpa [doneSet] using h)⟩⟩
        simp only [putAll, Act.put, List.setIfInBounds_toArray, List.set_cons_succ, List.set_cons_zero]
        all_goals rfl
      · rintro d vs W ⟨v0, v1, v2, v3, v4, v5, v6, v7, v8, v9, v10, v11, v12, v13, v14, v15, av, cv, X, rfl, H⟩ hn hd
        simp only [putAll, Act.put, List.setIfInBounds_toArray, List.set_cons_succ, List.set_cons_zero]
        have HH1 : Hid (Rn (w5.drew) (gs) (b) (off) (ls.length) (cap) (l) (j) (f) ((exL (l, f 0) (frNs f 15))) ((cdE (l, f 0) (frNs f 15))) (true) d W v0 v1 v2 v3 v4 v5 v6 v7 v8 v9 v10 v11 v12 v13 v14 v15 av cv X) := H
        clear H
        have HHN : Hid (d 1 = false) := hn
        clear hd hn
        go_wp2
        have H0 := HH1.out
        have H := HH1.out
        have hn := HHN.out
        refine ⟨rfl, [v0, .pointer (some ⟨gs, 0, none⟩), v2, v3, v4, v5, v6, v7, v8, v9, v10, v11, v12, v13, v14, v15], ?_, v0, .pointer (some ⟨gs, 0, none⟩), v2, v3, v4, v5, v6, v7, v8, v9, v10, v11, v12, v13, v14, v15, av, cv, X, rfl, ⟨H.bel, (by have h := H.f0; simpa [doneSet] using h), (fun _ => rfl), (by have h := H.f2; simpa [doneSet] using h), (by have h := H.f3; simpa [doneSet] using h), (by have h := H.f4; simpa [doneSet] using h), (by have h := H.f5; simpa [doneSet] using h), (by have h := H.f6; simpa [doneSet] using h), (by have h := H.f7; simpa [doneSet] using h), (by have h := H.f8; simpa [doneSet] using h), (by have h := H.f9; simpa [doneSet] using h), (by have h := H.f10; simpa [doneSet] using h), (by have h := H.f11; simpa [doneSet] using h), (by have h := H.f12; simpa [doneSet] using h), (by have h := H.f13; simpa [doneSet] using h), (by have h := H.f15; simpa [doneSet] using h), (by have h := H.o7; simpa [doneSet] using h), (by have h := H.k12; simpa [doneSet] using h), (by have h := H.x12; simpa [doneSet] using h), (by have h := H.g8_7; simpa [doneSet] using h), (by have h := H.g9_7; simpa [doneSet] using h), (by have h := H.g13_7; simpa [doneSet] using h)⟩⟩
        simp only [putAll, Act.put, List.setIfInBounds_toArray, List.set_cons_succ, List.set_cons_zero]
        all_goals rfl
      · rintro d vs W ⟨v0, v1, v2, v3, v4, v5, v6, v7, v8, v9, v10, v11, v12, v13, v14, v15, av, cv, X, rfl, H⟩ hn hd
        simp only [putAll, Act.put, List.setIfInBounds_toArray, List.set_cons_succ, List.set_cons_zero]
        have h1 : d 1 = true := hd { on := 1, ground := .data } (by simp) rfl
        obtain ⟨q0, q1, q2⟩ := CE.out W H.bel
        obtain rfl := H.f1 h1
        have HH1 : Hid (Rn (w5.drew) (gs) (b) (off) (ls.length) (cap) (l) (j) (f) ((exL (l, f 0) (frNs f 15))) ((cdE (l, f 0) (frNs f 15))) (true) d W v0 (.pointer (some ⟨gs, 0, none⟩)) v2 v3 v4 v5 v6 v7 v8 v9 v10 v11 v12 v13 v14 v15 av cv X) := H
        clear H
        have HHN : Hid (d 2 = false) := hn
        have HHD : Hid (d 1 = true) := h1
        clear hd hn h1 q0 q2
        go_wp2
        have H0 := HH1.out
        have H := HH1.out
        have hn := HHN.out
        have h1 := HHD.out
        refine ⟨rfl, [v0, .pointer (some ⟨gs, 0, none⟩), .slice (some ⟨b, off, none⟩) ls.length cap, v3, v4, v5, v6, v7, v8, v9, v10, v11, v12, v13, v14, v15], ?_, v0, .pointer (some ⟨gs, 0, none⟩), .slice (some ⟨b, off, none⟩) ls.length cap, v3, v4, v5, v6, v7, v8, v9, v10, v11, v12, v13, v14, v15, av, cv, X, rfl, ⟨H.bel, (by have h := H.f0; simpa [doneSet] using h), (fun _ => rfl), (fun _ => rfl), (by have h := H.f3; simpa [doneSet] using h), (by have h := H.f4; simpa [doneSet] using h), (by have h := H.f5; simpa [doneSet] using h), (by have h := H.f6; simpa [doneSet] using h), (by have h := H.f7; simpa [doneSet] using h), (by have h := H.f8; simpa [doneSet] using h), (by have h := H.f9; simpa [doneSet] using h), (by have h := H.f10; simpa [doneSet] using h), (by have h := H.f11; simpa [doneSet] using h), (by have h := H.f12; simpa [doneSet] using h), (by have h := H.f13; simpa [doneSet] using h), (by have h := H.f15; simpa [doneSet] using h), (by have h := H.o7; simpa [doneSet] using h), (by have h := H.k12; simpa [doneSet] using h), (by have h := H.x12; simpa [doneSet] using h), (by have h := H.g8_7; simpa [doneSet] using h), (by have h := H.g9_7; simpa [doneSet] using h), (by have h := H.g13_7; simpa [doneSet] using h)⟩⟩
        simp only [putAll, Act.put, List.setIfInBounds_toArray, List.set_cons_succ, List.set_cons_zero]
        all_goals rfl
      · rintro d vs W ⟨v0, v1, v2, v3, v4, v5, v6, v7, v8, v9, v10, v11, v12, v13, v14, v15, av, cv, X, rfl, H⟩ hn hd
        simp only [putAll, Act.put, List.setIfInBounds_toArray, List.set_cons_succ, List.set_cons_zero]
        have HH1 : Hid (Rn (w5.drew) (gs) (b) (off) (ls.length) (cap) (l) (j) (f) ((exL (l, f 0) (frNs f 15))) ((cdE (l, f 0) (frNs f 15))) (true) d W v0 v1 v2 v3 v4 v5 v6 v7 v8 v9 v10 v11 v12 v13 v14 v15 av cv X) := H
        clear H
        have HHN : Hid (d 3 = false) := hn
        clear hd hn
        go_wp2
        have H0 := HH1.out
        have H := HH1.out
        have hn := HHN.out
        refine ⟨rfl, [v0, v1, v2, .int .i64 (j : Int), v4, v5, v6, v7, v8, v9, v10, v11, v12, v13, v14, v15], ?_, v0, v1, v2, .int .i64 (j : Int), v4, v5, v6, v7, v8, v9, v10, v11, v12, v13, v14, v15, av, cv, X, rfl, ⟨H.bel, (by have h := H.f0; simpa [doneSet] using h), (by have h := H.f1; simpa [doneSet] using h), (by have h := H.f2; simpa [doneSet] using h), (fun _ => rfl), (by have h := H.f4; simpa [doneSet] using h), (by have h := H.f5; simpa [doneSet] using h), (by have h := H.f6; simpa [doneSet] using h), (by have h := H.f7; simpa [doneSet] using h), (by have h := H.f8; simpa [doneSet] using h), (by have h := H.f9; simpa [doneSet] using h), (by have h := H.f10; simpa [doneSet] using h), (by have h := H.f11; simpa [doneSet] using h), (by have h := H.f12; simpa [doneSet] using h), (by have h := H.f13; simpa [doneSet] using h), (by have h := H.f15; simpa [doneSet] using h), (by have h := H.o7; simpa [doneSet] using h), (by have h := H.k12; simpa [doneSet] using h), (by have h := H.x12; simpa [doneSet] using h), (by have h := H.g8_7; simpa [doneSet] using h), (by have h := H.g9_7; simpa [doneSet] using h), (by have h := H.g13_7; simpa [doneSet] using h)⟩⟩
        simp only [putAll, Act.put, List.setIfInBounds_toArray, List.set_cons_succ, List.set_cons_zero]
        all_goals rfl
      · rintro d vs W ⟨v0, v1, v2, v3, v4, v5, v6, v7, v8, v9, v10, v11, v12, v13, v14, v15, av, cv, X, rfl, H⟩ hn hd
        simp only [putAll, Act.put, List.setIfInBounds_toArray, List.set_cons_succ, List.set_cons_zero]
        have h2 : d 2 = true := hd { on := 2, ground := .data } (by simp) rfl
        have h3 : d 3 = true := hd { on := 3, ground := .data } (by simp) rfl
        obtain rfl := H.f2 h2
        obtain rfl := H.f3 h3
        have HH1 : Hid (Rn (w5.drew) (gs) (b) (off) (ls.length) (cap) (l) (j) (f) ((exL (l, f 0) (frNs f 15))) ((cdE (l, f 0) (frNs f 15))) (true) d W v0 v1 (.slice (some ⟨b, off, none⟩) ls.length cap) (.int .i64 (j : Int)) v4 v5 v6 v7 v8 v9 v10 v11 v12 v13 v14 v15 av cv X) := H
        clear H
        have HHN : Hid (d 4 = false) := hn
        have HHD : Hid (d 2 = true ∧ d 3 = true) := ⟨h2, h3⟩
        clear hd hn h2 h3
        go_wp2
        have H0 := HH1.out
        have H := HH1.out
        have hn := HHN.out
        have h2 := HHD.out.1
        have h3 := HHD.out.2
        refine ⟨rfl, [v0, v1, .slice (some ⟨b, off, none⟩) ls.length cap, .int .i64 (j : Int), .pointer (some ⟨b, off + j * 18, none⟩), v5, v6, v7, v8, v9, v10, v11, v12, v13, v14, v15], ?_, v0, v1, .slice (some ⟨b, off, none⟩) ls.length cap, .int .i64 (j : Int), .pointer (some ⟨b, off + j * 18, none⟩), v5, v6, v7, v8, v9, v10, v11, v12, v13, v14, v15, av, cv, X, rfl, ⟨H.bel, (by have h := H.f0; simpa [doneSet] using h), (by have h := H.f1; simpa [doneSet] using h), (fun _ => rfl), (fun _ => rfl), (fun _ => rfl), (by have h := H.f5; simpa [doneSet] using h), (by have h := H.f6; simpa [doneSet] using h), (by have h := H.f7; simpa [doneSet] using h), (by have h := H.f8; simpa [doneSet] using h), (by have h := H.f9; simpa [doneSet] using h), (by have h := H.f10; simpa [doneSet] using h), (by have h := H.f11; simpa [doneSet] using h), (by have h := H.f12; simpa [doneSet] using h), (by have h := H.f13; simpa [doneSet] using h), (by have h := H.f15; simpa [doneSet] using h), (by have h := H.o7; simpa [doneSet] using h), (by have h := H.k12; simpa [doneSet] using h), (by have h := H.x12; simpa [doneSet] using h), (by have h := H.g8_7; simpa [doneSet] using h), (by have h := H.g9_7; simpa [doneSet] using h), (by have h := H.g13_7; simpa [doneSet] using h)⟩⟩
        simp only [putAll, Act.put, List.setIfInBounds_toArray, List.set_cons_succ, List.set_cons_zero]
        all_goals rfl
      · rintro d vs W ⟨v0, v1, v2, v3, v4, v5, v6, v7, v8, v9, v10, v11, v12, v13, v14, v15, av, cv, X, rfl, H⟩ hn hd
        simp only [putAll, Act.put, List.setIfInBounds_toArray, List.set_cons_succ, List.set_cons_zero]
        have h4 : d 4 = true := hd { on := 4, ground := .data } (by simp) rfl
        obtain rfl := H.f4 h4
        have HH1 : Hid (Rn (w5.drew) (gs) (b) (off) (ls.length) (cap) (l) (j) (f) ((exL (l, f 0) (frNs f 15))) ((cdE (l, f 0) (frNs f 15))) (true) d W v0 v1 v2 v3 (.pointer (some ⟨b, off + j * 18, none⟩)) v5 v6 v7 v8 v9 v10 v11 v12 v13 v14 v15 av cv X) := H
        clear H
        have HHN : Hid (d 5 = false) := hn
        have HHD : Hid (d 4 = true) := h4
        clear hd hn h4
        go_wp2
        have H0 := HH1.out
        have H := HH1.out
        have hn := HHN.out
        have h4 := HHD.out
        refine ⟨rfl, [v0, v1, v2, v3, .pointer (some ⟨b, off + j * 18, none⟩), .pointer (some ⟨b, off + j * 18 + 2, none⟩), v6, v7, v8, v9, v10, v11, v12, v13, v14, v15], ?_, v0, v1, v2, v3, .pointer (some ⟨b, off + j * 18, none⟩), .pointer (some ⟨b, off + j * 18 + 2, none⟩), v6, v7, v8, v9, v10, v11, v12, v13, v14, v15, av, cv, X, rfl, ⟨H.bel, (by have h := H.f0; simpa [doneSet] using h), (by have h := H.f1; simpa [doneSet] using h), (by have h := H.f2; simpa [doneSet] using h), (by have h := H.f3; simpa [doneSet] using h), (fun _ => rfl), (fun _ => rfl), (by have h := H.f6; simpa [doneSet] using h), (by have h := H.f7; simpa [doneSet] using h), (by have h := H.f8; simpa [doneSet] using h), (by have h := H.f9; simpa [doneSet] using h), (by have h := H.f10; simpa [doneSet] using h), (by have h := H.f11; simpa [doneSet] using h), (by have h := H.f12; simpa [doneSet] using h), (by have h := H.f13; simpa [doneSet] using h), (by have h := H.f15; simpa [doneSet] using h), (by have h := H.o7; simpa [doneSet] using h), (by have h := H.k12; simpa [doneSet] using h), (by have h := H.x12; simpa [doneSet] using h), (by have h := H.g8_7; simpa [doneSet] using h), (by have h := H.g9_7; simpa [doneSet] using h), (by have h := H.g13_7; simpa [doneSet] using h)⟩⟩
        simp only [putAll, Act.put, List.setIfInBounds_toArray, List.set_cons_succ, List.set_cons_zero]
        all_goals rfl
      · rintro d vs W ⟨v0, v1, v2, v3, v4, v5, v6, v7, v8, v9, v10, v11, v12, v13, v14, v15, av, cv, X, rfl, H⟩ hn hd
        simp only [putAll, Act.put, List.setIfInBounds_toArray, List.set_cons_succ, List.set_cons_zero]
        have h5 : d 5 = true := hd { on := 5, ground := .data } (by simp) rfl
        obtain ⟨q0, q1, q2⟩ := CE.out W H.bel
        have z0 : W.cell? ⟨b, off + j * 18 + 2 + 0, none⟩ = some (.int .u8 (f 0)) := q2 0 _ (frF_at f 0 (by decide))
        have z1 : W.cell? ⟨b, off + j * 18 + 2 + 1, none⟩ = some (.int .u8 (f 1)) := q2 1 _ (frF_at f 1 (by decide))
        have z2 : W.cell? ⟨b, off + j * 18 + 2 + 2, none⟩ = some (.int .u8 (f 2)) := q2 2 _ (frF_at f 2 (by decide))
        have z3 : W.cell? ⟨b, off + j * 18 + 2 + 3, none⟩ = some (.int .u8 (f 3)) := q2 3 _ (frF_at f 3 (by decide))
        have z4 : W.cell? ⟨b, off + j * 18 + 2 + 4, none⟩ = some (.int .u8 (f 4)) := q2 4 _ (frF_at f 4 (by decide))
        have z5 : W.cell? ⟨b, off + j * 18 + 2 + 5, none⟩ = some (.int .u8 (f 5)) := q2 5 _ (frF_at f 5 (by decide))
        have z6 : W.cell? ⟨b, off + j * 18 + 2 + 6, none⟩ = some (.int .u8 (f 6)) := q2 6 _ (frF_at f 6 (by decide))
        have z7 : W.cell? ⟨b, off + j * 18 + 2 + 7, none⟩ = some (.int .u8 (f 7)) := q2 7 _ (frF_at f 7 (by decide))
        have z8 : W.cell? ⟨b, off + j * 18 + 2 + 8, none⟩ = some (.int .u8 (f 8)) := q2 8 _ (frF_at f 8 (by decide))
        have z9 : W.cell? ⟨b, off + j * 18 + 2 + 9, none⟩ = some (.int .u8 (f 9)) := q2 9 _ (frF_at f 9 (by decide))
        have z10 : W.cell? ⟨b, off + j * 18 + 2 + 10, none⟩ = some (.int .u8 (f 10)) := q2 10 _ (frF_at f 10 (by decide))
        have z11 : W.cell? ⟨b, off + j * 18 + 2 + 11, none⟩ = some (.int .u8 (f 11)) := q2 11 _ (frF_at f 11 (by decide))
        have z12 : W.cell? ⟨b, off + j * 18 + 2 + 12, none⟩ = some (.int .u8 (f 12)) := q2 12 _ (frF_at f 12 (by decide))
        have z13 : W.cell? ⟨b, off + j * 18 + 2 + 13, none⟩ = some (.int .u8 (f 13)) := q2 13 _ (frF_at f 13 (by decide))
        have z14 : W.cell? ⟨b, off + j * 18 + 2 + 14, none⟩ = some (.int .u8 (f 14)) := q2 14 _ (frF_at f 14 (by decide))
        have z15 : W.cell? ⟨b, off + j * 18 + 2 + 15, none⟩ = some (.int .u8 (f 15)) := q2 15 _ (frF_at f 15 (by decide))
        obtain rfl := H.f5 h5
        have HH1 : Hid (Rn (w5.drew) (gs) (b) (off) (ls.length) (cap) (l) (j) (f) ((exL (l, f 0) (frNs f 15))) ((cdE (l, f 0) (frNs f 15))) (true) d W v0 v1 v2 v3 v4 (.pointer (some ⟨b, off + j * 18 + 2, none⟩)) v6 v7 v8 v9 v10 v11 v12 v13 v14 v15 av cv X) := H
        clear H
        have HHN : Hid (d 6 = false) := hn
        have HHD : Hid (d 5 = true) := h5
        clear hd hn h5 q0 q1 q2
        go_wp2
        have H0 := HH1.out
        have H := HH1.out
        have hn := HHN.out
        have h5 := HHD.out
        refine ⟨rfl, [v0, v1, v2, v3, v4, .pointer (some ⟨b, off + j * 18 + 2, none⟩), .agg (A16 f), v7, v8, v9, v10, v11, v12, v13, v14, v15], ?_, v0, v1, v2, v3, v4, .pointer (some ⟨b, off + j * 18 + 2, none⟩), .agg (A16 f), v7, v8, v9, v10, v11, v12, v13, v14, v15, av, cv, X, rfl, ⟨H.bel, (by have h := H.f0; simpa [doneSet] using h), (by have h := H.f1; simpa [doneSet] using h), (by have h := H.f2; simpa [doneSet] using h), (by have h := H.f3; simpa [doneSet] using h), (by have h := H.f4; simpa [doneSet] using h), (fun _ => rfl), (fun _ => rfl), (by have h := H.f7; simpa [doneSet] using h), (by have h := H.f8; simpa [doneSet] using h), (by have h := H.f9; simpa [doneSet] using h), (by have h := H.f10; simpa [doneSet] using h), (by have h := H.f11; simpa [doneSet] using h), (by have h := H.f12; simpa [doneSet] using h), (by have h := H.f13; simpa [doneSet] using h), (by have h := H.f15; simpa [doneSet] using h), (by have h := H.o7; simpa [doneSet] using h), (by have h := H.k12; simpa [doneSet] using h), (by have h := H.x12; simpa [doneSet] using h), (by have h := H.g8_7; simpa [doneSet] using h), (by have h := H.g9_7; simpa [doneSet] using h), (by have h := H.g13_7; simpa [doneSet] using h)⟩⟩
        simp only [putAll, Act.put, List.setIfInBounds_toArray, List.set_cons_succ, List.set_cons_zero]
        all_goals rfl
      · rintro d vs W ⟨v0, v1, v2, v3, v4, v5, v6, v7, v8, v9, v10, v11, v12, v13, v14, v15, av, cv, X, rfl, H⟩ hn hd
        simp only [putAll, Act.put, List.setIfInBounds_toArray, List.set_cons_succ, List.set_cons_zero]
        have h0 : d 0 = true := hd { on := 0, ground := .data } (by simp) rfl
        have h6 : d 6 = true := hd { on := 6, ground := .data } (by simp) rfl
        have HGW : Hid (ChG W) := HGF.out W H.bel
        obtain rfl := H.f0 h0
        obtain rfl := H.f6 h6
        have HH1 : Hid (Rn (w5.drew) (gs) (b) (off) (ls.length) (cap) (l) (j) (f) ((exL (l, f 0) (frNs f 15))) ((cdE (l, f 0) (frNs f 15))) (true) d W (.int .i64 l) v1 v2 v3 v4 v5 (.agg (A16 f)) v7 v8 v9 v10 v11 v12 v13 v14 v15 av cv X) := H
        clear H
        have HHN : Hid (d 7 = false) := hn
        have HHD : Hid (d 0 = true ∧ d 6 = true) := ⟨h0, h6⟩
        clear hd hn h0 h6
        go_wp2_with (fail)
        refine ((ofI_c l f HFB.out W HGW.out).mono fun e w' hh => (hh.1 HCO.out : CdR (exL (l, f 0) (frNs f 15)) (cdE (l, f 0) (frNs f 15)) true W e w')).mono ?_
        rintro e W3 ⟨v7, rfl, o7, b7⟩
        have HB7 : Hid (Below W.heap.size W W3) := b7
        obtain ⟨a7, c7, rfl, -⟩ := o7.rd
        have HO7 : Hid (Ow .i64 3 W.heap.size W3 (.slice a7 (exL (l, f 0) (frNs f 15)).length c7) (exL (l, f 0) (frNs f 15))) := o7
        clear b7 o7
        go_wp2
        have H0 := HH1.out
        have H := HH1.out.below HB7.out
        have hn := HHN.out
        have h0 := HHD.out.1
        have h6 := HHD.out.2
        refine ⟨rfl, [.int .i64 l, v1, v2, v3, v4, v5, .agg (A16 f), .tuple #[.slice a7 (exL (l, f 0) (frNs f 15)).length c7, .agg (cdA (cdE (l, f 0) (frNs f 15))), .bool true], v8, v9, v10, v11, v12, v13, v14, v15], ?_, .int .i64 l, v1, v2, v3, v4, v5, .agg (A16 f), .tuple #[.slice a7 (exL (l, f 0) (frNs f 15)).length c7, .agg (cdA (cdE (l, f 0) (frNs f 15))), .bool true], v8, v9, v10, v11, v12, v13, v14, v15, a7, c7, X, rfl, ⟨H.bel, (fun _ => rfl), (by have h := H.f1; simpa [doneSet] using h), (by have h := H.f2; simpa [doneSet] using h), (by have h := H.f3; simpa [doneSet] using h), (by have h := H.f4; simpa [doneSet] using h), (by have h := H.f5; simpa [doneSet] using h), (fun _ => rfl), (fun _ => rfl), (fun e => absurd (H0.g8_7 (by simpa [doneSet] using e)) (by rw [hn]; simp)), (fun e => absurd (H0.g9_7 (by simpa [doneSet] using e)) (by rw [hn]; simp)), (by have h := H.f10; simpa [doneSet] using h), (by have h := H.f11; simpa [doneSet] using h), (by have h := H.f12; simpa [doneSet] using h), (fun e => absurd (H0.g13_7 (by simpa [doneSet] using e)) (by rw [hn]; simp)), (by have h := H.f15; simpa [doneSet] using h), (fun _ => HO7.out.mono H0.bel.size), (by have h := H.k12; simpa [doneSet] using h), (by have h := H.x12; simpa [doneSet] using h), (fun _ => by simp [doneSet]), (fun _ => by simp [doneSet]), (fun _ => by simp [doneSet])⟩⟩
        simp only [putAll, Act.put, List.setIfInBounds_toArray, List.set_cons_succ, List.set_cons_zero]
        all_goals rfl
      · rintro d vs W ⟨v0, v1, v2, v3, v4, v5, v6, v7, v8, v9, v10, v11, v12, v13, v14, v15, av, cv, X, rfl, H⟩ hn hd
        simp only [putAll, Act.put, List.setIfInBounds_toArray, List.set_cons_succ, List.set_cons_zero]
        have h7 : d 7 = true := hd { on := 7, ground := .data } (by simp) rfl
        obtain rfl := H.f7 h7
        have HH1 : Hid (Rn (w5.drew) (gs) (b) (off) (ls.length) (cap) (l) (j) (f) ((exL (l, f 0) (frNs f 15))) ((cdE (l, f 0) (frNs f 15))) (true) d W v0 v1 v2 v3 v4 v5 v6 (.tuple #[.slice av ((exL (l, f 0) (frNs f 15))).length cv, .agg (cdA ((cdE (l, f 0) (frNs f 15)))), .bool true]) v8 v9 v10 v11 v12 v13 v14 v15 av cv X) := H
        clear H
        have HHN : Hid (d 8 = false) := hn
        have HHD : Hid (d 7 = true) := h7
        clear hd hn h7
        go_wp2
        have H0 := HH1.out
        have H := HH1.out
        have hn := HHN.out
        have h7 := HHD.out
        refine ⟨rfl, [v0, v1, v2, v3, v4, v5, v6, .tuple #[.slice av ((exL (l, f 0) (frNs f 15))).length cv, .agg (cdA ((cdE (l, f 0) (frNs f 15)))), .bool true], .tuple #[.slice av ((exL (l, f 0) (frNs f 15))).length cv, .agg (cdA ((cdE (l, f 0) (frNs f 15)))), .bool true], v9, v10, v11, v12, v13, v14, v15], ?_, v0, v1, v2, v3, v4, v5, v6, .tuple #[.slice av ((exL (l, f 0) (frNs f 15))).length cv, .agg (cdA ((cdE (l, f 0) (frNs f 15)))), .bool true], .tuple #[.slice av ((exL (l, f 0) (frNs f 15))).length cv, .agg (cdA ((cdE (l, f 0) (frNs f 15)))), .bool true], v9, v10, v11, v12, v13, v14, v15, av, cv, X, rfl, ⟨H.bel, (by have h := H.f0; simpa [doneSet] using h), (by have h := H.f1; simpa [doneSet] using h), (by have h := H.f2; simpa [doneSet] using h), (by have h := H.f3; simpa [doneSet] using h), (by have h := H.f4; simpa [doneSet] using h), (by have h := H.f5; simpa [doneSet] using h), (by have h := H.f6; simpa [doneSet] using h), (fun _ => rfl), (fun _ => rfl), (by have h := H.f9; simpa [doneSet] using h), (by have h := H.f10; simpa [doneSet] using h), (by have h := H.f11; simpa [doneSet] using h), (by have h := H.f12; simpa [doneSet] using h), (by have h := H.f13; simpa [doneSet] using h), (by have h := H.f15; simpa [doneSet] using h), (by have h := H.o7; simpa [doneSet] using h), (by have h := H.k12; simpa [doneSet] using h), (by have h := H.x12; simpa [doneSet] using h), (fun _ => by simpa [doneSet] using h7), (by have h := H.g9_7; simpa [doneSet] using h), (by have h := H.g13_7; simpa [doneSet] using h)⟩⟩
        simp only [putAll, Act.put, List.setIfInBounds_toArray, List.set_cons_succ, List.set_cons_zero]
        all_goals rfl
      · rintro d vs W ⟨v0, v1, v2, v3, v4, v5, v6, v7, v8, v9, v10, v11, v12, v13, v14, v15, av, cv, X, rfl, H⟩ hn hd
        simp only [putAll, Act.put, List.setIfInBounds_toArray, List.set_cons_succ, List.set_cons_zero]
        have h8 : d 8 = true := hd { on := 8, ground := .data } (by simp) rfl
        have h7 := H.g8_7 h8
        obtain rfl := H.f8 h8
        have HH1 : Hid (Rn (w5.drew) (gs) (b) (off) (ls.length) (cap) (l) (j) (f) ((exL (l, f 0) (frNs f 15))) ((cdE (l, f 0) (frNs f 15))) (true) d W v0 v1 v2 v3 v4 v5 v6 v7 (.tuple #[.slice av ((exL (l, f 0) (frNs f 15))).length cv, .agg (cdA ((cdE (l, f 0) (frNs f 15)))), .bool true]) v9 v10 v11 v12 v13 v14 v15 av cv X) := H
        clear H
        have HHN : Hid (d 9 = false) := hn
        have HHD : Hid (d 8 = true) := h8
        clear hd hn h8
        go_wp2
        have H0 := HH1.out
        have H := HH1.out
        have hn := HHN.out
        have h8 := HHD.out
        refine ⟨rfl, [v0, v1, v2, v3, v4, v5, v6, v7, .tuple #[.slice av ((exL (l, f 0) (frNs f 15))).length cv, .agg (cdA ((cdE (l, f 0) (frNs f 15)))), .bool true], .slice av ((exL (l, f 0) (frNs f 15))).length cv, v10, v11, v12, v13, v14, v15], ?_, v0, v1, v2, v3, v4, v5, v6, v7, .tuple #[.slice av ((exL (l, f 0) (frNs f 15))).length cv, .agg (cdA ((cdE (l, f 0) (frNs f 15)))), .bool true], .slice av ((exL (l, f 0) (frNs f 15))).length cv, v10, v11, v12, v13, v14, v15, av, cv, X, rfl, ⟨H.bel, (by have h := H.f0; simpa [doneSet] using h), (by have h := H.f1; simpa [doneSet] using h), (by have h := H.f2; simpa [doneSet] using h), (by have h := H.f3; simpa [doneSet] using h), (by have h := H.f4; simpa [doneSet] using h), (by have h := H.f5; simpa [doneSet] using h), (by have h := H.f6; simpa [doneSet] using h), (by have h := H.f7; simpa [doneSet] using h), (fun _ => rfl), (fun _ => rfl), (by have h := H.f10; simpa [doneSet] using h), (by have h := H.f11; simpa [doneSet] using h), (by have h := H.f12; simpa [doneSet] using h), (by have h := H.f13; simpa [doneSet] using h), (by have h := H.f15; simpa [doneSet] using h), (by have h := H.o7; simpa [doneSet] using h), (by have h := H.k12; simpa [doneSet] using h), (by have h := H.x12; simpa [doneSet] using h), (by have h := H.g8_7; simpa [doneSet] using h), (fun _ => by simpa [doneSet] using h7), (by have h := H.g13_7; simpa [doneSet] using h)⟩⟩
        simp only [putAll, Act.put, List.setIfInBounds_toArray, List.set_cons_succ, List.set_cons_zero]
        all_goals rfl
      · rintro d vs W ⟨v0, v1, v2, v3, v4, v5, v6, v7, v8, v9, v10, v11, v12, v13, v14, v15, av, cv, X, rfl, H⟩ hn hd
        simp only [putAll, Act.put, List.setIfInBounds_toArray, List.set_cons_succ, List.set_cons_zero]
        have h8 : d 8 = true := hd { on := 8, ground := .data } (by simp) rfl
        obtain rfl := H.f8 h8
        have HH1 : Hid (Rn (w5.drew) (gs) (b) (off) (ls.length) (cap) (l) (j) (f) ((exL (l, f 0) (frNs f 15))) ((cdE (l, f 0) (frNs f 15))) (true) d W v0 v1 v2 v3 v4 v5 v6 v7 (.tuple #[.slice av ((exL (l, f 0) (frNs f 15))).length cv, .agg (cdA ((cdE (l, f 0) (frNs f 15)))), .bool true]) v9 v10 v11 v12 v13 v14 v15 av cv X) := H
        clear H
        have HHN : Hid (d 10 = false) := hn
        have HHD : Hid (d 8 = true) := h8
        clear hd hn h8
        go_wp2
        have H0 := HH1.out
        have H := HH1.out
        have hn := HHN.out
        have h8 := HHD.out
        refine ⟨rfl, [v0, v1, v2, v3, v4, v5, v6, v7, .tuple #[.slice av ((exL (l, f 0) (frNs f 15))).length cv, .agg (cdA ((cdE (l, f 0) (frNs f 15)))), .bool true], v9, .agg (cdA ((cdE (l, f 0) (frNs f 15)))), v11, v12, v13, v14, v15], ?_, v0, v1, v2, v3, v4, v5, v6, v7, .tuple #[.slice av ((exL (l, f 0) (frNs f 15))).length cv, .agg (cdA ((cdE (l, f 0) (frNs f 15)))), .bool true], v9, .agg (cdA ((cdE (l, f 0) (frNs f 15)))), v11, v12, v13, v14, v15, av, cv, X, rfl, ⟨H.bel, (by have h := H.f0; simpa [doneSet] using h), (by have h := H.f1; simpa [doneSet] using h), (by have h := H.f2; simpa [doneSet] using h), (by have h := H.f3; simpa [doneSet] using h), (by have h := H.f4; simpa [doneSet] using h), (by have h := H.f5; simpa [doneSet] using h), (by have h := H.f6; simpa [doneSet] using h), (by have h := H.f7; simpa [doneSet] using h), (fun _ => rfl), (by have h := H.f9; simpa [doneSet] using h), (fun _ => rfl), (by have h := H.f11; simpa [doneSet] using h), (by have h := H.f12; simpa [doneSet] using h), (by have h := H.f13; simpa [doneSet] using h), (by have h := H.f15; simpa [doneSet] using h), (by have h := H.o7; simpa [doneSet] using h), (by have h := H.k12; simpa [doneSet] using h), (by have h := H.x12; simpa [doneSet] using h), (by have h := H.g8_7; simpa [doneSet] using h), (by have h := H.g9_7; simpa [doneSet] using h), (by have h := H.g13_7; simpa [doneSet] using h)⟩⟩
        simp only [putAll, Act.put, List.setIfInBounds_toArray, List.set_cons_succ, List.set_cons_zero]
        all_goals rfl
      · rintro d vs W ⟨v0, v1, v2, v3, v4, v5, v6, v7, v8, v9, v10, v11, v12, v13, v14, v15, av, cv, X, rfl, H⟩ hn hd
        simp only [putAll, Act.put, List.setIfInBounds_toArray, List.set_cons_succ, List.set_cons_zero]
        have h8 : d 8 = true := hd { on := 8, ground := .data } (by simp) rfl
        obtain rfl := H.f8 h8
        have HH1 : Hid (Rn (w5.drew) (gs) (b) (off) (ls.length) (cap) (l) (j) (f) ((exL (l, f 0) (frNs f 15))) ((cdE (l, f 0) (frNs f 15))) (true) d W v0 v1 v2 v3 v4 v5 v6 v7 (.tuple #[.slice av ((exL (l, f 0) (frNs f 15))).length cv, .agg (cdA ((cdE (l, f 0) (frNs f 15)))), .bool true]) v9 v10 v11 v12 v13 v14 v15 av cv X) := H
        clear H
        have HHN : Hid (d 11 = false) := hn
        have HHD : Hid (d 8 = true) := h8
        clear hd hn h8
        go_wp2
        have H0 := HH1.out
        have H := HH1.out
        have hn := HHN.out
        have h8 := HHD.out
        refine ⟨rfl, [v0, v1, v2, v3, v4, v5, v6, v7, .tuple #[.slice av ((exL (l, f 0) (frNs f 15))).length cv, .agg (cdA ((cdE (l, f 0) (frNs f 15)))), .bool true], v9, v10, .bool true, v12, v13, v14, v15], ?_, v0, v1, v2, v3, v4, v5, v6, v7, .tuple #[.slice av ((exL (l, f 0) (frNs f 15))).length cv, .agg (cdA ((cdE (l, f 0) (frNs f 15)))), .bool true], v9, v10, .bool true, v12, v13, v14, v15, av, cv, X, rfl, ⟨H.bel, (by have h := H.f0; simpa [doneSet] using h), (by have h := H.f1; simpa [doneSet] using h), (by have h := H.f2; simpa [doneSet] using h), (by have h := H.f3; simpa [doneSet] using h), (by have h := H.f4; simpa [doneSet] using h), (by have h := H.f5; simpa [doneSet] using h), (by have h := H.f6; simpa [doneSet] using h), (by have h := H.f7; simpa [doneSet] using h), (fun _ => rfl), (by have h := H.f9; simpa [doneSet] using h), (by have h := H.f10; simpa [doneSet] using h), (fun _ => rfl), (by have h := H.f12; simpa [doneSet] using h), (by have h := H.f13; simpa [doneSet] using h), (by have h := H.f15; simpa [doneSet] using h), (by have h := H.o7; simpa [doneSet] using h), (by have h := H.k12; simpa [doneSet] using h), (by have h := H.x12; simpa [doneSet] using h), (by have h := H.g8_7; simpa [doneSet] using h), (by have h := H.g9_7; simpa [doneSet] using h), (by have h := H.g13_7; simpa [doneSet] using h)⟩⟩
        simp only [putAll, Act.put, List.setIfInBounds_toArray, List.set_cons_succ, List.set_cons_zero]
        all_goals rfl
      · rintro d vs W ⟨v0, v1, v2, v3, v4, v5, v6, v7, v8, v9, v10, v11, v12, v13, v14, v15, av, cv, X, rfl, H⟩ hn hd
        simp only [putAll, Act.put, List.setIfInBounds_toArray, List.set_cons_succ, List.set_cons_zero]
        have HH1 : Hid (Rn (w5.drew) (gs) (b) (off) (ls.length) (cap) (l) (j) (f) ((exL (l, f 0) (frNs f 15))) ((cdE (l, f 0) (frNs f 15))) (true) d W v0 v1 v2 v3 v4 v5 v6 v7 v8 v9 v10 v11 v12 v13 v14 v15 av cv X) := H
        clear H
        have HHN : Hid (d 12 = false) := hn
        clear hd hn
        go_wp2
        have H0 := HH1.out
        have H := HH1.out.below ((Below.refl _ W).alloc (Nat.le_refl _) (.cells (cdA (0, 0)) 25))
        have hn := HHN.out
        refine ⟨rfl, [v0, v1, v2, v3, v4, v5, v6, v7, v8, v9, v10, v11, .pointer (some ⟨W.heap.size, 0, none⟩), v13, v14, v15], ?_, v0, v1, v2, v3, v4, v5, v6, v7, v8, v9, v10, v11, .pointer (some ⟨W.heap.size, 0, none⟩), v13, v14, v15, av, cv, W.heap.size, rfl, ⟨H.bel, (by have h := H.f0; simpa [doneSet] using h), (by have h := H.f1; simpa [doneSet] using h), (by have h := H.f2; simpa [doneSet] using h), (by have h := H.f3; simpa [doneSet] using h), (by have h := H.f4; simpa [doneSet] using h), (by have h := H.f5; simpa [doneSet] using h), (by have h := H.f6; simpa [doneSet] using h), (by have h := H.f7; simpa [doneSet] using h), (by have h := H.f8; simpa [doneSet] using h), (by have h := H.f9; simpa [doneSet] using h), (by have h := H.f10; simpa [doneSet] using h), (by have h := H.f11; simpa [doneSet] using h), (fun _ => rfl), (by have h := H.f13; simpa [doneSet] using h), (by have h := H.f15; simpa [doneSet] using h), (by have h := H.o7; simpa [doneSet] using h), (fun _ _ => Blk.new _ _ _), (fun _ => H0.bel.size), (by have h := H.g8_7; simpa [doneSet] using h), (by have h := H.g9_7; simpa [doneSet] using h), (by have h := H.g13_7; simpa [doneSet] using h)⟩⟩
        simp only [putAll, Act.put, List.setIfInBounds_toArray, List.set_cons_succ, List.set_cons_zero]
        all_goals rfl
      · rintro d vs W ⟨v0, v1, v2, v3, v4, v5, v6, v7, v8, v9, v10, v11, v12, v13, v14, v15, av, cv, X, rfl, H⟩ hn hd
        simp only [putAll, Act.put, List.setIfInBounds_toArray, List.set_cons_succ, List.set_cons_zero]
        have h9 : d 9 = true := hd { on := 9, ground := .data } (by simp) rfl
        have h7 := H.g9_7 h9
        obtain rfl := H.f9 h9
        have HH1 : Hid (Rn (w5.drew) (gs) (b) (off) (ls.length) (cap) (l) (j) (f) ((exL (l, f 0) (frNs f 15))) ((cdE (l, f 0) (frNs f 15))) (true) d W v0 v1 v2 v3 v4 v5 v6 v7 v8 (.slice av ((exL (l, f 0) (frNs f 15))).length cv) v10 v11 v12 v13 v14 v15 av cv X) := H
        clear H
        have HHN : Hid (d 13 = false) := hn
        have HHD : Hid (d 9 = true) := h9
        clear hd hn h9
        go_wp2
        have H0 := HH1.out
        have H := HH1.out
        have hn := HHN.out
        have h9 := HHD.out
        refine ⟨rfl, [v0, v1, v2, v3, v4, v5, v6, v7, v8, .slice av ((exL (l, f 0) (frNs f 15))).length cv, v10, v11, v12, .slice av ((exL (l, f 0) (frNs f 15))).length cv, v14, v15], ?_, v0, v1, v2, v3, v4, v5, v6, v7, v8, .slice av ((exL (l, f 0) (frNs f 15))).length cv, v10, v11, v12, .slice av ((exL (l, f 0) (frNs f 15))).length cv, v14, v15, av, cv, X, rfl, ⟨H.bel, (by have h := H.f0; simpa [doneSet] using h), (by have h := H.f1; simpa [doneSet] using h), (by have h := H.f2; simpa [doneSet] using h), (by have h := H.f3; simpa [doneSet] using h), (by have h := H.f4; simpa [doneSet] using h), (by have h := H.f5; simpa [doneSet] using h), (by have h := H.f6; simpa [doneSet] using h), (by have h := H.f7; simpa [doneSet] using h), (by have h := H.f8; simpa [doneSet] using h), (fun _ => rfl), (by have h := H.f10; simpa [doneSet] using h), (by have h := H.f11; simpa [doneSet] using h), (by have h := H.f12; simpa [doneSet] using h), (fun _ => rfl), (by have h := H.f15; simpa [doneSet] using h), (by have h := H.o7; simpa [doneSet] using h), (by have h := H.k12; simpa [doneSet] using h), (by have h := H.x12; simpa [doneSet] using h), (by have h := H.g8_7; simpa [doneSet] using h), (by have h := H.g9_7; simpa [doneSet] using h), (fun _ => by simpa [doneSet] using h7)⟩⟩
        simp only [putAll, Act.put, List.setIfInBounds_toArray, List.set_cons_succ, List.set_cons_zero]
        all_goals rfl
      · rintro d vs W ⟨v0, v1, v2, v3, v4, v5, v6, v7, v8, v9, v10, v11, v12, v13, v14, v15, av, cv, X, rfl, H⟩ hn hd
        simp only [putAll, Act.put, List.setIfInBounds_toArray, List.set_cons_succ, List.set_cons_zero]
        have h12 : d 12 = true := hd { on := 12, ground := .data } (by simp) rfl
        have h10 : d 10 = true := hd { on := 10, ground := .data } (by simp) rfl
        have HK12 : Hid (Blk W X (cdA (0, 0)) 25) := H.k12 h12 hn
        have HX12 : Hid (w5.drew.heap.size ≤ X) := H.x12 h12
        obtain rfl := H.f12 h12
        obtain rfl := H.f10 h10
        have HH1 : Hid (Rn (w5.drew) (gs) (b) (off) (ls.length) (cap) (l) (j) (f) ((exL (l, f 0) (frNs f 15))) ((cdE (l, f 0) (frNs f 15))) (true) d W v0 v1 v2 v3 v4 v5 v6 v7 v8 v9 (.agg (cdA ((cdE (l, f 0) (frNs f 15))))) v11 (.pointer (some ⟨X, 0, none⟩)) v13 v14 v15 av cv X) := H
        clear H
        have HHN : Hid (d 14 = false) := hn
        have HHD : Hid (d 12 = true ∧ d 10 = true) := ⟨h12, h10⟩
        clear hd hn h12 h10
        go_wp2_with (refine wpList_store_row rfl 25 _ _ rfl X _ rfl rfl 25 (cdA (0, 0)) HK12.out sizeCd rfl (by simp [Value.oneCell']) ?_)
        have H0 := HH1.out
        have H := HH1.out
        have hn := HHN.out
        have h12 := HHD.out.1
        have h10 := HHD.out.2
        refine ⟨rfl, [v0, v1, v2, v3, v4, v5, v6, v7, v8, v9, .agg (cdA ((cdE (l, f 0) (frNs f 15)))), v11, .pointer (some ⟨X, 0, none⟩), v13, undef, v15], ?_, v0, v1, v2, v3, v4, v5, v6, v7, v8, v9, .agg (cdA ((cdE (l, f 0) (frNs f 15)))), v11, .pointer (some ⟨X, 0, none⟩), v13, undef, v15, av, cv, X, rfl, ⟨(belowRow H0.bel _ HX12.out _), (by have h := H.f0; simpa [doneSet] using h), (by have h := H.f1; simpa [doneSet] using h), (by have h := H.f2; simpa [doneSet] using h), (by have h := H.f3; simpa [doneSet] using h), (by have h := H.f4; simpa [doneSet] using h), (by have h := H.f5; simpa [doneSet] using h), (by have h := H.f6; simpa [doneSet] using h), (by have h := H.f7; simpa [doneSet] using h), (by have h := H.f8; simpa [doneSet] using h), (by have h := H.f9; simpa [doneSet] using h), (fun _ => rfl), (by have h := H.f11; simpa [doneSet] using h), (fun _ => rfl), (by have h := H.f13; simpa [doneSet] using h), (by have h := H.f15; simpa [doneSet] using h), (fun e => (H0.o7 (by simpa [doneSet] using e)).putX HK12.out), (fun _ e => absurd e (by simp [doneSet])), (by have h := H.x12; simpa [doneSet] using h), (by have h := H.g8_7; simpa [doneSet] using h), (by have h := H.g9_7; simpa [doneSet] using h), (by have h := H.g13_7; simpa [doneSet] using h)⟩⟩
        simp only [putAll, Act.put, List.setIfInBounds_toArray, List.set_cons_succ, List.set_cons_zero]
        all_goals rfl
      · rintro d vs W ⟨v0, v1, v2, v3, v4, v5, v6, v7, v8, v9, v10, v11, v12, v13, v14, v15, av, cv, X, rfl, H⟩ hn hd
        simp only [putAll, Act.put, List.setIfInBounds_toArray, List.set_cons_succ, List.set_cons_zero]
        have h11 : d 11 = true := hd { on := 11, ground := .data } (by simp) rfl
        obtain rfl := H.f11 h11
        have HH1 : Hid (Rn (w5.drew) (gs) (b) (off) (ls.length) (cap) (l) (j) (f) ((exL (l, f 0) (frNs f 15))) ((cdE (l, f 0) (frNs f 15))) (true) d W v0 v1 v2 v3 v4 v5 v6 v7 v8 v9 v10 (.bool true) v12 v13 v14 v15 av cv X) := H
        clear H
        have HHN : Hid (d 15 = false) := hn
        have HHD : Hid (d 11 = true) := h11
        clear hd hn h11
        go_wp2
        have H0 := HH1.out
        have H := HH1.out
        have hn := HHN.out
        have h11 := HHD.out
        refine ⟨rfl, [v0, v1, v2, v3, v4, v5, v6, v7, v8, v9, v10, .bool true, v12, v13, v14, .bool true], ?_, v0, v1, v2, v3, v4, v5, v6, v7, v8, v9, v10, .bool true, v12, v13, v14, .bool true, av, cv, X, rfl, ⟨H.bel, (by have h := H.f0; simpa [doneSet] using h), (by have h := H.f1; simpa [doneSet] using h), (by have h := H.f2; simpa [doneSet] using h), (by have h := H.f3; simpa [doneSet] using h), (by have h := H.f4; simpa [doneSet] using h), (by have h := H.f5; simpa [doneSet] using h), (by have h := H.f6; simpa [doneSet] using h), (by have h := H.f7; simpa [doneSet] using h), (by have h := H.f8; simpa [doneSet] using h), (by have h := H.f9; simpa [doneSet] using h), (by have h := H.f10; simpa [doneSet] using h), (fun _ => rfl), (by have h := H.f12; simpa [doneSet] using h), (by have h := H.f13; simpa [doneSet] using h), (fun _ => rfl), (by have h := H.o7; simpa [doneSet] using h), (by have h := H.k12; simpa [doneSet] using h), (by have h := H.x12; simpa [doneSet] using h), (by have h := H.g8_7; simpa [doneSet] using h), (by have h := H.g9_7; simpa [doneSet] using h), (by have h := H.g13_7; simpa [doneSet] using h)⟩⟩
        simp only [putAll, Act.put, List.setIfInBounds_toArray, List.set_cons_succ, List.set_cons_zero]
        all_goals rfl
      rintro d vs W ⟨v0, v1, v2, v3, v4, v5, v6, v7, v8, v9, v10, v11, v12, v13, v14, v15, av, cv, X, rfl, H⟩ hn
      obtain rfl := H.f0 (hn 0 (by decide))
      obtain rfl := H.f1 (hn 1 (by decide))
      obtain rfl := H.f2 (hn 2 (by decide))
      obtain rfl := H.f3 (hn 3 (by decide))
      obtain rfl := H.f4 (hn 4 (by decide))
      obtain rfl := H.f5 (hn 5 (by decide))
      obtain rfl := H.f6 (hn 6 (by decide))
      obtain rfl := H.f7 (hn 7 (by decide))
      obtain rfl := H.f8 (hn 8 (by decide))
      obtain rfl := H.f9 (hn 9 (by decide))
      obtain rfl := H.f10 (hn 10 (by decide))
      obtain rfl := H.f11 (hn 11 (by decide))
      obtain rfl := H.f12 (hn 12 (by decide))
      obtain rfl := H.f13 (hn 13 (by decide))
      obtain rfl := H.f15 (hn 15 (by decide))
      have BW : Hid (Below w5.drew.heap.size w5.drew W) := H.bel
      have OW : Hid (Ow .i64 3 w5.drew.heap.size W (.slice av (exL (l, f 0) (frNs f 15)).length cv) (exL (l, f 0) (frNs f 15))) := H.o7 (hn 7 (by decide))
      clear H hn CE HGF
      have KV := HV5.out.drew.below BW.out HV5.out.lt
      have KG := HG5.out.drew.below BW.out HG5.out.lt
      have KL := HL5.out.drew.below BW.out HL5.out.lt
      have cv0 := KV.cell 0
      have cg0 := KG.cell 0
      simp at cv0 cg0
      have fv := KV.frozen 0
      have fg := KG.frozen 0
      have HKS : Hid (Blk W (gs + 1 + 1) #[.slice none 0 0] 26 ∧ Blk W (gs + 1 + 1 + 1) #[.bool false] 4 ∧ Blk W (gs + 1) #[.int .i64 l] 3) := ⟨KV, KG, KL⟩
      have HBW : Hid (Below w.heap.size w W) := belowCall HB5.out.drew BW.out HB5.out.size
      have HLV : Hid (lvF ls n l = ((exL (l, f 0) (frNs f 15)), false)) := by
        show _ = _
        unfold lvF
        obtain rfl := HJ.out
        rw [dif_pos ⟨HTH.out, hlt, by rw [HFJ.out]; exact HCO.out⟩]
        rw [HFJ.out]
      clear KV KG KL
      simp only [putAll, Act.put, List.setIfInBounds_toArray, List.set_cons_succ, List.set_cons_zero]
      go_wp2
      rw [HLV.out]
      have hs5 : w.heap.size ≤ w5.drew.heap.size := HB5.out.size
      have hgt : gs + 1 + 1 + 1 < w5.drew.heap.size := HG5.out.lt
      have hgs := HGS.out
      refine nx_leave (old := .slice av (exL (l, f 0) (frNs f 15)).length cv) rfl rfl HLL.out (HKS.out.2.1.other ⟨gs + 1 + 1, 0, none⟩ _ (by dsimp only; omega) |>.set 0 _) ((HKS.out.2.2.other ⟨gs + 1 + 1, 0, none⟩ _ (by dsimp only; omega)).other ⟨gs + 1 + 1 + 1, 0, none⟩ _ (by dsimp only; omega)) ((HKS.out.1.set 0 _).other ⟨gs + 1 + 1 + 1, 0, none⟩ _ (by dsimp only; omega)) (by omega) (by omega) ?_ ?_ ((HBW.out.setCell (by dsimp only; omega) _).setCell (by dsimp only; omega) _)
      · intro _
        have o1 : Ow .i64 3 w5.drew.heap.size (W.setCell ⟨gs + 1 + 1, 0, none⟩ (.slice av (exL (l, f 0) (frNs f 15)).length cv)) _ (exL (l, f 0) (frNs f 15)) := ownsRow_setCell_below (a := ⟨gs + 1 + 1, 0, none⟩) OW.out (by dsimp only; omega) _
        have o2 : Ow .i64 3 w5.drew.heap.size ((W.setCell ⟨gs + 1 + 1, 0, none⟩ (.slice av (exL (l, f 0) (frNs f 15)).length cv)).setCell ⟨gs + 1 + 1 + 1, 0, none⟩ (.bool false)) _ (exL (l, f 0) (frNs f 15)) := ownsRow_setCell_below (a := ⟨gs + 1 + 1 + 1, 0, none⟩) o1 (by dsimp only; omega) _
        exact o2.mono hs5
      · intro h; cases h
    · have HCO : Hid (¬ COk (l, f 0)) := hCO
      clear hCO
      go_wp2_with (fail)
      refine region_vals [undef, undef, undef, undef, undef, undef, undef, undef, undef, undef, undef, undef, undef, undef, undef, undef] (RnS (w5.drew) (gs) (b) (off) (ls.length) (cap) (l) (j) (f) (([] : List Int)) ((0, 0)) (false)) (by kernel_rfl) (by kernel_rfl) ?_ ⟨?_, ?_, ?_, ?_, ?_, ?_, ?_, ?_, ?_, ?_, ?_, ?_, ?_, ?_, ?_, ?_, trivial⟩ ?_
      · refine ⟨_, _, _, _, _, _, _, _, _, _, _, _, _, _, _, _, none, 0, 0, rfl, ⟨(Below.refl _ _), ?_, ?_, ?_, ?_, ?_, ?_, ?_, ?_, ?_, ?_, ?_, ?_, ?_, ?_, ?_, ?_, ?_, ?_, ?_, ?_, ?_⟩⟩ <;> simp
      · rintro d vs W ⟨v0, v1, v2, v3, v4, v5, v6, v7, v8, v9, v10, v11, v12, v13, v14, v15, av, cv, X, rfl, H⟩ hn hd
        simp only [putAll, Act.put, List.setIfInBounds_toArray, List.set_cons_succ, List.set_cons_zero]
        obtain ⟨q0, q1, q2⟩ := CE.out W H.bel
        have HH1 : Hid (Rn (w5.drew) (gs) (b) (off) (ls.length) (cap) (l) (j) (f) (([] : List Int)) ((0, 0)) (false) d W v0 v1 v2 v3 v4 v5 v6 v7 v8 v9 v10 v11 v12 v13 v14 v15 av cv X) := H
        clear H
        have HHN : Hid (d 0 = false) := hn
        clear hd hn q1 q2
        go_wp2
        have H0 := HH1.out
        have H := HH1.out
        have hn := HHN.out
        refine ⟨rfl, [.int .i64 l, v1, v2, v3, v4, v5, v6, v7, v8, v9, v10, v11, v12, v13, v14, v15], ?_, .int .i64 l, v1, v2, v3, v4, v5, v6, v7, v8, v9, v10, v11, v12, v13, v14, v15, av, cv, X, rfl, ⟨H.bel, (fun _ => rfl), (by have h := H.f1; simpa [doneSet] using h), (by have h := H.f2; simpa [doneSet] using h), (by have h := H.f3; simpa [doneSet] using h), (by have h := H.f4; simpa [doneSet] using h), (by have h := H.f5; simpa [doneSet] using h), (by have h := H.f6; simpa [doneSet] using h), (by have h := H.f7; simpa [doneSet] using h), (by have h := H.f8; simpa [doneSet] using h), (by have h := H.f9; simpa [doneSet] using h), (by have h := H.f10; simpa [doneSet] using h), (by have h := H.f11; simpa [doneSet] using h), (by have h := H.f12; simpa [doneSet] using h), (by have h := H.f13; simpa [doneSet] using h), (by have h := H.f15; simpa [doneSet] using h), (by have h := H.o7; simpa [doneSet] using h), (by have h := H.k12; simpa [doneSet] using h), (by have h := H.x12; simpa [doneSet] using h), (by have h := H.g8_7; simpa [doneSet] using h), (by have h := H.g9_7; simpa [doneSet] using h), (by have h := H.g13_7; simpa [doneSet] using h)⟩⟩
        simp only [putAll, Act.put, List.setIfInBounds_toArray, List.set_cons_succ, List.set_cons_zero]
        all_goals rfl
      · rintro d vs W ⟨v0, v1, v2, v3, v4, v5, v6, v7, v8, v9, v10, v11, v12, v13, v14, v15, av, cv, X, rfl, H⟩ hn hd
        simp only [putAll, Act.put, List.setIfInBounds_toArray, List.set_cons_succ, List.set_cons_zero]
        have HH1 : Hid (Rn (w5.drew) (gs) (b) (off) (ls.length) (cap) (l) (j) (f) (([] : List Int)) ((0, 0)) (false) d W v0 v1 v2 v3 v4 v5 v6 v7 v8 v9 v10 v11 v12 v13 v14 v15 av cv X) := H
        clear H
        have HHN : Hid (d 1 = false) := hn
        clear hd hn
        go_wp2
        have H0 := HH1.out
        have H := HH1.out
        have hn := HHN.out
        refine ⟨rfl, [v0, .pointer (some ⟨gs, 0, none⟩), v2, v3, v4, v5, v6, v7, v8, v9, v10, v11, v12, v13, v14, v15], ?_, v0, .pointer (some ⟨gs, 0, none⟩), v2, v3, v4, v5, v6, v7, v8, v9, v10, v11, v12, v13, v14, v15, av, cv, X, rfl, ⟨H.bel, (by have h := H.f0; simpa [doneSet] using h), (fun _ => rfl), (by have h := H.f2; simpa [doneSet] using h), (by have h := H.f3; simpa [doneSet] using h), (by have h := H.f4; simpa [doneSet] using h), (by have h := H.f5; simpa [doneSet] using h), (by have h := H.f6; simpa [doneSet] using h), (by have h := H.f7; simpa [doneSet] using h), (by have h := H.f8; simpa [doneSet] using h), (by have h := H.f9; simpa [doneSet] using h), (by have h := H.f10; simpa [doneSet] using h), (by have h := H.f11; simpa [doneSet] using h), (by have h := H.f12; simpa [doneSet] using h), (by have h := H.f13; simpa [doneSet] using h), (by have h := H.f15; simpa [doneSet] using h), (by have h := H.o7; simpa [doneSet] using h), (by have h := H.k12; simpa [doneSet] using h), (by have h := H.x12; simpa [doneSet] using h), (by have h := H.g8_7; simpa [doneSet] using h), (by have h := H.g9_7; simpa [doneSet] using h), (by have h := H.g13_7; simpa [doneSet] using h)⟩⟩
        simp only [putAll, Act.put, List.setIfInBounds_toArray, List.set_cons_succ, List.set_cons_zero]
        all_goals rfl
      · rintro d vs W ⟨v0, v1, v2, v3, v4, v5, v6, v7, v8, v9, v10, v11, v12, v13, v14, v15, av, cv, X, rfl, H⟩ hn hd
        simp only [putAll, Act.put, List.setIfInBounds_toArray, List.set_cons_succ, List.set_cons_zero]
        have h1 : d 1 = true := hd { on := 1, ground := .data } (by simp) rfl
        obtain ⟨q0, q1, q2⟩ := CE.out W H.bel
        obtain rfl := H.f1 h1
        have HH1 : Hid (Rn (w5.drew) (gs) (b) (off) (ls.length) (cap) (l) (j) (f) (([] : List Int)) ((0, 0)) (false) d W v0 (.pointer (some ⟨gs, 0, none⟩)) v2 v3 v4 v5 v6 v7 v8 v9 v10 v11 v12 v13 v14 v15 av cv X) := H
        clear H
        have HHN : Hid (d 2 = false) := hn
        have HHD : Hid (d 1 = true) := h1
        clear hd hn h1 q0 q2
        go_wp2
        have H0 := HH1.out
        have H := HH1.out
        have hn := HHN.out
        have h1 := HHD.out
        refine ⟨rfl, [v0, .pointer (some ⟨gs, 0, none⟩), .slice (some ⟨b, off, none⟩) ls.length cap, v3, v4, v5, v6, v7, v8, v9, v10, v11, v12, v13, v14, v15], ?_, v0, .pointer (some ⟨gs, 0, none⟩), .slice (some ⟨b, off, none⟩) ls.length cap, v3, v4, v5, v6, v7, v8, v9, v10, v11, v12, v13, v14, v15, av, cv, X, rfl, ⟨H.bel, (by have h := H.f0; simpa [doneSet] using h), (fun _ => rfl), (fun _ => rfl), (by have h := H.f3; simpa [doneSet] using h), (by have h := H.f4; simpa [doneSet] using h), (by have h := H.f5; simpa [doneSet] using h), (by have h := H.f6; simpa [doneSet] using h), (by have h := H.f7; simpa [doneSet] using h), (by have h := H.f8; simpa [doneSet] using h), (by have h := H.f9; simpa [doneSet] using h), (by have h := H.f10; simpa [doneSet] using h), (by have h := H.f11; simpa [doneSet] using h), (by have h := H.f12; simpa [doneSet] using h), (by have h := H.f13; simpa [doneSet] using h), (by have h := H.f15; simpa [doneSet] using h), (by have h := H.o7; simpa [doneSet] using h), (by have h := H.k12; simpa [doneSet] using h), (by have h := H.x12; simpa [doneSet] using h), (by have h := H.g8_7; simpa [doneSet] using h), (by have h := H.g9_7; simpa [doneSet] using h), (by have h := H.g13_7; simpa [doneSet] using h)⟩⟩
        simp only [putAll, Act.put, List.setIfInBounds_toArray, List.set_cons_succ, List.set_cons_zero]
        all_goals rfl
      · rintro d vs W ⟨v0, v1, v2, v3, v4, v5, v6, v7, v8, v9, v10, v11, v12, v13, v14, v15, av, cv, X, rfl, H⟩ hn hd
        simp only [putAll, Act.put, List.setIfInBounds_toArray, List.set_cons_succ, List.set_cons_zero]
        have HH1 : Hid (Rn (w5.drew) (gs) (b) (off) (ls.length) (cap) (l) (j) (f) (([] : List Int)) ((0, 0)) (false) d W v0 v1 v2 v3 v4 v5 v6 v7 v8 v9 v10 v11 v12 v13 v14 v15 av cv X) := H
        clear H
        have HHN : Hid (d 3 = false) := hn
        clear hd hn
        go_wp2
        have H0 := HH1.out
        have H := HH1.out
        have hn := HHN.out
        refine ⟨rfl, [v0, v1, v2, .int .i64 (j : Int), v4, v5, v6, v7, v8, v9, v10, v11, v12, v13, v14, v15], ?_, v0, v1, v2, .int .i64 (j : Int), v4, v5, v6, v7, v8, v9, v10, v11, v12, v13, v14, v15, av, cv, X, rfl, ⟨H.bel, (by have h := H.f0; simpa [doneSet] using h), (by have h := H.f1; simpa [doneSet] using h), (by have h := H.f2; simpa [doneSet] using h), (fun _ => rfl), (by have h := H.f4; simpa [doneSet] using h), (by have h := H.f5; simpa [doneSet] using h), (by have h := H.f6; simpa [doneSet] using h), (by have h := H.f7; simpa [doneSet] using h), (by have h := H.f8; simpa [doneSet] using h), (by have h := H.f9; simpa [doneSet] using h), (by have h := H.f10; simpa [doneSet] using h), (by have h := H.f11; simpa [doneSet] using h), (by have h := H.f12; simpa [doneSet] using h), (by have h := H.f13; simpa [doneSet] using h), (by have h := H.f15; simpa [doneSet] using h), (by have h := H.o7; simpa [doneSet] using h), (by have h := H.k12; simpa [doneSet] using h), (by have h := H.x12; simpa [doneSet] using h), (by have h := H.g8_7; simpa [doneSet] using h), (by have h := H.g9_7; simpa [doneSet] using h), (by have h := H.g13_7; simpa [doneSet] using h)⟩⟩
        simp only [putAll, Act.put, List.setIfInBounds_toArray, List.set_cons_succ, List.set_cons_zero]
        all_goals rfl
      · rintro d vs W ⟨v0, v1, v2, v3, v4, v5, v6, v7, v8, v9, v10, v11, v12, v13, v14, v15, av, cv, X, rfl, H⟩ hn hd
        simp only [putAll, Act.put, List.setIfInBounds_toArray, List.set_cons_succ, List.set_cons_zero]
        have h2 : d 2 = true := hd { on := 2, ground := .data } (by simp) rfl
        have h3 : d 3 = true := hd { on := 3, ground := .data } (by simp) rfl
        obtain rfl := H.f2 h2
        obtain rfl := H.f3 h3
        have HH1 : Hid (Rn (w5.drew) (gs) (b) (off) (ls.length) (cap) (l) (j) (f) (([] : List Int)) ((0, 0)) (false) d W v0 v1 (.slice (some ⟨b, off, none⟩) ls.length cap) (.int .i64 (j : Int)) v4 v5 v6 v7 v8 v9 v10 v11 v12 v13 v14 v15 av cv X) := H
        clear H
        have HHN : Hid (d 4 = false) := hn
        have HHD : Hid (d 2 = true ∧ d 3 = true) := ⟨h2, h3⟩
        clear hd hn h2 h3
        go_wp2
        have H0 := HH1.out
        have H := HH1.out
        have hn := HHN.out
        have h2 := HHD.out.1
        have h3 := HHD.out.2
        refine ⟨rfl, [v0, v1, .slice (some ⟨b, off, none⟩) ls.length cap, .int .i64 (j : Int), .pointer (some ⟨b, off + j * 18, none⟩), v5, v6, v7, v8, v9, v10, v11, v12, v13, v14, v15], ?_, v0, v1, .slice (some ⟨b, off, none⟩) ls.length cap, .int .i64 (j : Int), .pointer (some ⟨b, off + j * 18, none⟩), v5, v6, v7, v8, v9, v10, v11, v12, v13, v14, v15, av, cv, X, rfl, ⟨H.bel, (by have h := H.f0; simpa [doneSet] using h), (by have h := H.f1; simpa [doneSet] using h), (fun _ => rfl), (fun _ => rfl), (fun _ => rfl), (by have h := H.f5; simpa [doneSet] using h), (by have h := H.f6; simpa [doneSet] using h), (by have h := H.f7; simpa [doneSet] using h), (by have h := H.f8; simpa [doneSet] using h), (by have h := H.f9; simpa [doneSet] using h), (by have h := H.f10; simpa [doneSet] using h), (by have h := H.f11; simpa [doneSet] using h), (by have h := H.f12; simpa [doneSet] using h), (by have h := H.f13; simpa [doneSet] using h), (by have h := H.f15; simpa [doneSet] using h), (by have h := H.o7; simpa [doneSet] using h), (by have h := H.k12; simpa [doneSet] using h), (by have h := H.x12; simpa [doneSet] using h), (by have h := H.g8_7; simpa [doneSet] using h), (by have h := H.g9_7; simpa [doneSet] using h), (by have h := H.g13_7; simpa [doneSet] using h)⟩⟩
        simp only [putAll, Act.put, List.setIfInBounds_toArray, List.set_cons_succ, List.set_cons_zero]
        all_goals rfl
      · rintro d vs W ⟨v0, v1, v2, v3, v4, v5, v6, v7, v8, v9, v10, v11, v12, v13, v14, v15, av, cv, X, rfl, H⟩ hn hd
        simp only [putAll, Act.put, List.setIfInBounds_toArray, List.set_cons_succ, List.set_cons_zero]
        have h4 : d 4 = true := hd { on := 4, ground := .data } (by simp) rfl
        obtain rfl := H.f4 h4
        have HH1 : Hid (Rn (w5.drew) (gs) (b) (off) (ls.length) (cap) (l) (j) (f) (([] : List Int)) ((0, 0)) (false) d W v0 v1 v2 v3 (.pointer (some ⟨b, off + j * 18, none⟩)) v5 v6 v7 v8 v9 v10 v11 v12 v13 v14 v15 av cv X) := H
        clear H
        have HHN : Hid (d 5 = false) := hn
        have HHD : Hid (d 4 = true) := h4
        clear hd hn h4
        go_wp2
        have H0 := HH1.out
        have H := HH1.out
        have hn := HHN.out
        have h4 := HHD.out
        refine ⟨rfl, [v0, v1, v2, v3, .pointer (some ⟨b, off + j * 18, none⟩), .pointer (some ⟨b, off + j * 18 + 2, none⟩), v6, v7, v8, v9, v10, v11, v12, v13, v14, v15], ?_, v0, v1, v2, v3, .pointer (some ⟨b, off + j * 18, none⟩), .pointer (some ⟨b, off + j * 18 + 2, none⟩), v6, v7, v8, v9, v10, v11, v12, v13, v14, v15, av, cv, X, rfl, ⟨H.bel, (by have h := H.f0; simpa [doneSet] using h), (by have h := H.f1; simpa [doneSet] using h), (by have h := H.f2; simpa [doneSet] using h), (by have h := H.f3; simpa [doneSet] using h), (fun _ => rfl), (fun _ => rfl), (by have h := H.f6; simpa [doneSet] using h), (by have h := H.f7; simpa [doneSet] using h), (by have h := H.f8; simpa [doneSet] using h), (by have h := H.f9; simpa [doneSet] using h), (by have h := H.f10; simpa [doneSet] using h), (by have h := H.f11; simpa [doneSet] using h), (by have h := H.f12; simpa [doneSet] using h), (by have h := H.f13; simpa [doneSet] using h), (by have h := H.f15; simpa [doneSet] using h), (by have h := H.o7; simpa [doneSet] using h), (by have h := H.k12; simpa [doneSet] using h), (by have h := H.x12; simpa [doneSet] using h), (by have h := H.g8_7; simpa [doneSet] using h), (by have h := H.g9_7; simpa [doneSet] using h), (by have h := H.g13_7; simpa [doneSet] using h)⟩⟩
        simp only [putAll, Act.put, List.setIfInBounds_toArray, List.set_cons_succ, List.set_cons_zero]
        all_goals rfl
      · rintro d vs W ⟨v0, v1, v2, v3, v4, v5, v6, v7, v8, v9, v10, v11, v12, v13, v14, v15, av, cv, X, rfl, H⟩ hn hd
        simp only [putAll, Act.put, List.setIfInBounds_toArray, List.set_cons_succ, List.set_cons_zero]
        have h5 : d 5 = true := hd { on := 5, ground := .data } (by simp) rfl
        obtain ⟨q0, q1, q2⟩ := CE.out W H.bel
        have z0 : W.cell? ⟨b, off + j * 18 + 2 + 0, none⟩ = some (.int .u8 (f 0)) := q2 0 _ (frF_at f 0 (by decide))
        have z1 : W.cell? ⟨b, off + j * 18 + 2 + 1, none⟩ = some (.int .u8 (f 1)) := q2 1 _ (frF_at f 1 (by decide))
        have z2 : W.cell? ⟨b, off + j * 18 + 2 + 2, none⟩ = some (.int .u8 (f 2)) := q2 2 _ (frF_at f 2 (by decide))
        have z3 : W.cell? ⟨b, off + j * 18 + 2 + 3, none⟩ = some (.int .u8 (f 3)) := q2 3 _ (frF_at f 3 (by decide))
        have z4 : W.cell? ⟨b, off + j * 18 + 2 + 4, none⟩ = some (.int .u8 (f 4)) := q2 4 _ (frF_at f 4 (by decide))
        have z5 : W.cell? ⟨b, off + j * 18 + 2 + 5, none⟩ = some (.int .u8 (f 5)) := q2 5 _ (frF_at f 5 (by decide))
        have z6 : W.cell? ⟨b, off + j * 18 + 2 + 6, none⟩ = some (.int .u8 (f 6)) := q2 6 _ (frF_at f 6 (by decide))
        have z7 : W.cell? ⟨b, off + j * 18 + 2 + 7, none⟩ = some (.int .u8 (f 7)) := q2 7 _ (frF_at f 7 (by decide))
        have z8 : W.cell? ⟨b, off + j * 18 + 2 + 8, none⟩ = some (.int .u8 (f 8)) := q2 8 _ (frF_at f 8 (by decide))
        have z9 : W.cell? ⟨b, off + j * 18 + 2 + 9, none⟩ = some (.int .u8 (f 9)) := q2 9 _ (frF_at f 9 (by decide))
        have z10 : W.cell? ⟨b, off + j * 18 + 2 + 10, none⟩ = some (.int .u8 (f 10)) := q2 10 _ (frF_at f 10 (by decide))
        have z11 : W.cell? ⟨b, off + j * 18 + 2 + 11, none⟩ = some (.int .u8 (f 11)) := q2 11 _ (frF_at f 11 (by decide))
        have z12 : W.cell? ⟨b, off + j * 18 + 2 + 12, none⟩ = some (.int .u8 (f 12)) := q2 12 _ (frF_at f 12 (by decide))
        have z13 : W.cell? ⟨b, off + j * 18 + 2 + 13, none⟩ = some (.int .u8 (f 13)) := q2 13 _ (frF_at f 13 (by decide))
        have z14 : W.cell? ⟨b, off + j * 18 + 2 + 14, none⟩ = some (.int .u8 (f 14)) := q2 14 _ (frF_at f 14 (by decide))
        have z15 : W.cell? ⟨b, off + j * 18 + 2 + 15, none⟩ = some (.int .u8 (f 15)) := q2 15 _ (frF_at f 15 (by decide))
        obtain rfl := H.f5 h5
        have HH1 : Hid (Rn (w5.drew) (gs) (b) (off) (ls.length) (cap) (l) (j) (f) (([] : List Int)) ((0, 0)) (false) d W v0 v1 v2 v3 v4 (.pointer (some ⟨b, off + j * 18 + 2, none⟩)) v6 v7 v8 v9 v10 v11 v12 v13 v14 v15 av cv X) := H
        clear H
        have HHN : Hid (d 6 = false) := hn
        have HHD : Hid (d 5 = true) := h5
        clear hd hn h5 q0 q1 q2
        go_wp2
        have H0 := HH1.out
        have H := HH1.out
        have hn := HHN.out
        have h5 := HHD.out
        refine ⟨rfl, [v0, v1, v2, v3, v4, .pointer (some ⟨b, off + j * 18 + 2, none⟩), .agg (A16 f), v7, v8, v9, v10, v11, v12, v13, v14, v15], ?_, v0, v1, v2, v3, v4, .pointer (some ⟨b, off + j * 18 + 2, none⟩), .agg (A16 f), v7, v8, v9, v10, v11, v12, v13, v14, v15, av, cv, X, rfl, ⟨H.bel, (by have h := H.f0; simpa [doneSet] using h), (by have h := H.f1; simpa [doneSet] using h), (by have h := H.f2; simpa [doneSet] using h), (by have h := H.f3; simpa [doneSet] using h), (by have h := H.f4; simpa [doneSet] using h), (fun _ => rfl), (fun _ => rfl), (by have h := H.f7; simpa [doneSet] using h), (by have h := H.f8; simpa [doneSet] using h), (by have h := H.f9; simpa [doneSet] using h), (by have h := H.f10; simpa [doneSet] using h), (by have h := H.f11; simpa [doneSet] using h), (by have h := H.f12; simpa [doneSet] using h), (by have h := H.f13; simpa [doneSet] using h), (by have h := H.f15; simpa [doneSet] using h), (by have h := H.o7; simpa [doneSet] using h), (by have h := H.k12; simpa [doneSet] using h), (by have h := H.x12; simpa [doneSet] using h), (by have h := H.g8_7; simpa [doneSet] using h), (by have h := H.g9_7; simpa [doneSet] using h), (by have h := H.g13_7; simpa [doneSet] using h)⟩⟩
        simp only [putAll, Act.put, List.setIfInBounds_toArray, List.set_cons_succ, List.set_cons_zero]
        all_goals rfl
      · rintro d vs W ⟨v0, v1, v2, v3, v4, v5, v6, v7, v8, v9, v10, v11, v12, v13, v14, v15, av, cv, X, rfl, H⟩ hn hd
        simp only [putAll, Act.put, List.setIfInBounds_toArray, List.set_cons_succ, List.set_cons_zero]
        have h0 : d 0 = true := hd { on := 0, ground := .data } (by simp) rfl
        have h6 : d 6 = true := hd { on := 6, ground := .data } (by simp) rfl
        have HGW : Hid (ChG W) := HGF.out W H.bel
        obtain rfl := H.f0 h0
        obtain rfl := H.f6 h6
        have HH1 : Hid (Rn (w5.drew) (gs) (b) (off) (ls.length) (cap) (l) (j) (f) (([] : List Int)) ((0, 0)) (false) d W (.int .i64 l) v1 v2 v3 v4 v5 (.agg (A16 f)) v7 v8 v9 v10 v11 v12 v13 v14 v15 av cv X) := H
        clear H
        have HHN : Hid (d 7 = false) := hn
        have HHD : Hid (d 0 = true ∧ d 6 = true) := ⟨h0, h6⟩
        clear hd hn h0 h6
        go_wp2_with (fail)
        refine ((ofI_c l f HFB.out W HGW.out).mono fun e w' hh => (hh.2 HCO.out : CdR ([] : List Int) (0, 0) false W e w')).mono ?_
        rintro e W3 ⟨v7, rfl, o7, b7⟩
        have HB7 : Hid (Below W.heap.size W W3) := b7
        obtain ⟨a7, c7, rfl, -⟩ := o7.rd
        have HO7 : Hid (Ow .i64 3 W.heap.size W3 (.slice a7 ([] : List Int).length c7) ([] : List Int)) := o7
        clear b7 o7
        go_wp2
        have H0 := HH1.out
        have H := HH1.out.below HB7.out
        have hn := HHN.out
        have h0 := HHD.out.1
        have h6 := HHD.out.2
        refine ⟨rfl, [.int .i64 l, v1, v2, v3, v4, v5, .agg (A16 f), .tuple #[.slice a7 ([] : List Int).length c7, .agg (cdA (0, 0)), .bool false], v8, v9, v10, v11, v12, v13, v14, v15], ?_, .int .i64 l, v1, v2, v3, v4, v5, .agg (A16 f), .tuple #[.slice a7 ([] : List Int).length c7, .agg (cdA (0, 0)), .bool false], v8, v9, v10, v11, v12, v13, v14, v15, a7, c7, X, rfl, ⟨H.bel, (fun _ => rfl), (by have h := H.f1; simpa [doneSet] using h), (by have h := H.f2; simpa [doneSet] using h), (by have h := H.f3; simpa [doneSet] using h), (by have h := H.f4; simpa [doneSet] using h), (by have h := H.f5; simpa [doneSet] using h), (fun _ => rfl), (fun _ => rfl), (fun e => absurd (H0.g8_7 (by simpa [doneSet] using e)) (by rw [hn]; simp)), (fun e => absurd (H0.g9_7 (by simpa [doneSet] using e)) (by rw [hn]; simp)), (by have h := H.f10; simpa [doneSet] using h), (by have h := H.f11; simpa [doneSet] using h), (by have h := H.f12; simpa [doneSet] using h), (fun e => absurd (H0.g13_7 (by simpa [doneSet] using e)) (by rw [hn]; simp)), (by have h := H.f15; simpa [doneSet] using h), (fun _ => HO7.out.mono H0.bel.size), (by have h := H.k12; simpa [doneSet] using h), (by have h := H.x12; simpa [doneSet] using h), (fun _ => by simp [doneSet]), (fun _ => by simp [doneSet]), (fun _ => by simp [doneSet])⟩⟩
        simp only [putAll, Act.put, List.setIfInBounds_toArray, List.set_cons_succ, List.set_cons_zero]
        all_goals rfl
      · rintro d vs W ⟨v0, v1, v2, v3, v4, v5, v6, v7, v8, v9, v10, v11, v12, v13, v14, v15, av, cv, X, rfl, H⟩ hn hd
        simp only [putAll, Act.put, List.setIfInBounds_toArray, List.set_cons_succ, List.set_cons_zero]
        have h7 : d 7 = true := hd { on := 7, ground := .data } (by simp) rfl
        obtain rfl := H.f7 h7
        have HH1 : Hid (Rn (w5.drew) (gs) (b) (off) (ls.length) (cap) (l) (j) (f) (([] : List Int)) ((0, 0)) (false) d W v0 v1 v2 v3 v4 v5 v6 (.tuple #[.slice av (([] : List Int)).length cv, .agg (cdA ((0, 0))), .bool false]) v8 v9 v10 v11 v12 v13 v14 v15 av cv X) := H
        clear H
        have HHN : Hid (d 8 = false) := hn
        have HHD : Hid (d 7 = true) := h7
        clear hd hn h7
        go_wp2
        have H0 := HH1.out
        have H := HH1.out
        have hn := HHN.out
        have h7 := HHD.out
        refine ⟨rfl, [v0, v1, v2, v3, v4, v5, v6, .tuple #[.slice av (([] : List Int)).length cv, .agg (cdA ((0, 0))), .bool false], .tuple #[.slice av (([] : List Int)).length cv, .agg (cdA ((0, 0))), .bool false], v9, v10, v11, v12, v13, v14, v15], ?_, v0, v1, v2, v3, v4, v5, v6, .tuple #[.slice av (([] : List Int)).length cv, .agg (cdA ((0, 0))), .bool false], .tuple #[.slice av (([] : List Int)).length cv, .agg (cdA ((0, 0))), .bool false], v9, v10, v11, v12, v13, v14, v15, av, cv, X, rfl, ⟨H.bel, (by have h := H.f0; simpa [doneSet] using h), (by have h := H.f1; simpa [doneSet] using h), (by have h := H.f2; simpa [doneSet] using h), (by have h := H.f3; simpa [doneSet] using h), (by have h := H.f4; simpa [doneSet] using h), (by have h := H.f5; simpa [doneSet] using h), (by have h := H.f6; simpa [doneSet] using h), (fun _ => rfl), (fun _ => rfl), (by have h := H.f9; simpa [doneSet] using h), (by have h := H.f10; simpa [doneSet] using h), (by have h := H.f11; simpa [doneSet] using h), (by have h := H.f12; simpa [doneSet] using h), (by have h := H.f13; simpa [doneSet] using h), (by have h := H.f15; simpa [doneSet] using h), (by have h := H.o7; simpa [doneSet] using h), (by have h := H.k12; simpa [doneSet] using h), (by have h := H.x12; simpa [doneSet] using h), (fun _ => by simpa [doneSet] using h7), (by have h := H.g9_7; simpa [doneSet] using h), (by have h := H.g13_7; simpa [doneSet] using h)⟩⟩
        simp only [putAll, Act.put, List.setIfInBounds_toArray, List.set_cons_succ, List.set_cons_zero]
        all_goals rfl
      · rintro d vs W ⟨v0, v1, v2, v3, v4, v5, v6, v7, v8, v9, v10, v11, v12, v13, v14, v15, av, cv, X, rfl, H⟩ hn hd
        simp only [putAll, Act.put, List.setIfInBounds_toArray, List.set_cons_succ, List.set_cons_zero]
        have h8 : d 8 = true := hd { on := 8, ground := .data } (by simp) rfl
        have h7 := H.g8_7 h8
        obtain rfl := H.f8 h8
        have HH1 : Hid (Rn (w5.drew) (gs) (b) (off) (ls.length) (cap) (l) (j) (f) (([] : List Int)) ((0, 0)) (false) d W v0 v1 v2 v3 v4 v5 v6 v7 (.tuple #[.slice av (([] : List Int)).length cv, .agg (cdA ((0, 0))), .bool false]) v9 v10 v11 v12 v13 v14 v15 av cv X) := H
        clear H
        have HHN : Hid (d 9 = false) := hn
        have HHD : Hid (d 8 = true) := h8
        clear hd hn h8
        go_wp2
        have H0 := HH1.out
        have H := HH1.out
        have hn := HHN.out
        have h8 := HHD.out
        refine ⟨rfl, [v0, v1, v2, v3, v4, v5, v6, v7, .tuple #[.slice av (([] : List Int)).length cv, .agg (cdA ((0, 0))), .bool false], .slice av (([] : List Int)).length cv, v10, v11, v12, v13, v14, v15], ?_, v0, v1, v2, v3, v4, v5, v6, v7, .tuple #[.slice av (([] : List Int)).length cv, .agg (cdA ((0, 0))), .bool false], .slice av (([] : List Int)).length cv, v10, v11, v12, v13, v14, v15, av, cv, X, rfl, ⟨H.bel, (by have h := H.f0; simpa [doneSet] using h), (by have h := H.f1; simpa [doneSet] using h), (by have h := H.f2; simpa [doneSet] using h), (by have h := H.f3; simpa [doneSet] using h), (by have h := H.f4; simpa [doneSet] using h), (by have h := H.f5; simpa [doneSet] using h), (by have h := H.f6; simpa [doneSet] using h), (by have h := H.f7; simpa [doneSet] using h), (fun _ => rfl), (fun _ => rfl), (by have h := H.f10; simpa [doneSet] using h), (by have h := H.f11; simpa [doneSet] using h), (by have h := H.f12; simpa [doneSet] using h), (by have h := H.f13; simpa [doneSet] using h), (by have h := H.f15; simpa [doneSet] using h), (by have h := H.o7; simpa [doneSet] using h), (by have h := H.k12; simpa [doneSet] using h), (by have h := H.x12; simpa [doneSet] using h), (by have h := H.g8_7; simpa [doneSet] using h), (fun _ => by simpa [doneSet] using h7), (by have h := H.g13_7; simpa [doneSet] using h)⟩⟩
        simp only [putAll, Act.put, List.setIfInBounds_toArray, List.set_cons_succ, List.set_cons_zero]
        all_goals rfl
      · rintro d vs W ⟨v0, v1, v2, v3, v4, v5, v6, v7, v8, v9, v10, v11, v12, v13, v14, v15, av, cv, X, rfl, H⟩ hn hd
        simp only [putAll, Act.put, List.setIfInBounds_toArray, List.set_cons_succ, List.set_cons_zero]
        have h8 : d 8 = true := hd { on := 8, ground := .data } (by simp) rfl
        obtain rfl := H.f8 h8
        have HH1 : Hid (Rn (w5.drew) (gs) (b) (off) (ls.length) (cap) (l) (j) (f) (([] : List Int)) ((0, 0)) (false) d W v0 v1 v2 v3 v4 v5 v6 v7 (.tuple #[.slice av (([] : List Int)).length cv, .agg (cdA ((0, 0))), .bool false]) v9 v10 v11 v12 v13 v14 v15 av cv X) := H
        clear H
        have HHN : Hid (d 10 = false) := hn
        have HHD : Hid (d 8 = true) := h8
        clear hd hn h8
        go_wp2
        have H0 := HH1.out
        have H := HH1.out
        have hn := HHN.out
        have h8 := HHD.out
        refine ⟨rfl, [v0, v1, v2, v3, v4, v5, v6, v7, .tuple #[.slice av (([] : List Int)).length cv, .agg (cdA ((0, 0))), .bool false], v9, .agg (cdA ((0, 0))), v11, v12, v13, v14, v15], ?_, v0, v1, v2, v3, v4, v5, v6, v7, .tuple #[.slice av (([] : List Int)).length cv, .agg (cdA ((0, 0))), .bool false], v9, .agg (cdA ((0, 0))), v11, v12, v13, v14, v15, av, cv, X, rfl, ⟨H.bel, (by have h := H.f0; simpa [doneSet] using h), (by have h := H.f1; simpa [doneSet] using h), (by have h := H.f2; simpa [doneSet] using h), (by have h := H.f3; simpa [doneSet] using h), (by have h := H.f4; simpa [doneSet] using h), (by have h := H.f5; simpa [doneSet] using h), (by have h := H.f6; simpa [doneSet] using h), (by have h := H.f7; simpa [doneSet] using h), (fun _ => rfl), (by have h := H.f9; simpa [doneSet] using h), (fun _ => rfl), (by have h := H.f11; simpa [doneSet] using h), (by have h := H.f12; simpa [doneSet] using h), (by have h := H.f13; simpa [doneSet] using h), (by have h := H.f15; simpa [doneSet] using h), (by have h := H.o7; simpa [doneSet] using h), (by have h := H.k12; simpa [doneSet] using h), (by have h := H.x12; simpa [doneSet] using h), (by have h := H.g8_7; simpa [doneSet] using h), (by have h := H.g9_7; simpa [doneSet] using h), (by have h := H.g13_7; simpa [doneSet] using h)⟩⟩
        simp only [putAll, Act.put, List.setIfInBounds_toArray, List.set_cons_succ, List.set_cons_zero]
        all_goals rfl
      · rintro d vs W ⟨v0, v1, v2, v3, v4, v5, v6, v7, v8, v9, v10, v11, v12, v13, v14, v15, av, cv, X, rfl, H⟩ hn hd
        simp only [putAll, Act.put, List.setIfInBounds_toArray, List.set_cons_succ, List.set_cons_zero]
        have h8 : d 8 = true := hd { on := 8, ground := .data } (by simp) rfl
        obtain rfl := H.f8 h8
        have HH1 : Hid (Rn (w5.drew) (gs) (b) (off) (ls.length) (cap) (l) (j) (f) (([] : List Int)) ((0, 0)) (false) d W v0 v1 v2 v3 v4 v5 v6 v7 (.tuple #[.slice av (([] : List Int)).length cv, .agg (cdA ((0, 0))), .bool false]) v9 v10 v11 v12 v13 v14 v15 av cv X) := H
        clear H
        have HHN : Hid (d 11 = false) := hn
        have HHD : Hid (d 8 = true) := h8
        clear hd hn h8
        go_wp2
        have H0 := HH1.out
        have H := HH1.out
        have hn := HHN.out
        have h8 := HHD.out
        refine ⟨rfl, [v0, v1, v2, v3, v4, v5, v6, v7, .tuple #[.slice av (([] : List Int)).length cv, .agg (cdA ((0, 0))), .bool false], v9, v10, .bool false, v12, v13, v14, v15], ?_, v0, v1, v2, v3, v4, v5, v6, v7, .tuple #[.slice av (([] : List Int)).length cv, .agg (cdA ((0, 0))), .bool false], v9, v10, .bool false, v12, v13, v14, v15, av, cv, X, rfl, ⟨H.bel, (by have h := H.f0; simpa [doneSet] using h), (by have h := H.f1; simpa [doneSet] using h), (by have h := H.f2; simpa [doneSet] using h), (by have h := H.f3; simpa [doneSet] using h), (by have h := H.f4; simpa [doneSet] using h), (by have h := H.f5; simpa [doneSet] using h), (by have h := H.f6; simpa [doneSet] using h), (by have h := H.f7; simpa [doneSet] using h), (fun _ => rfl), (by have h := H.f9; simpa [doneSet] using h), (by have h := H.f10; simpa [doneSet] using h), (fun _ => rfl), (by have h := H.f12; simpa [doneSet] using h), (by have h := H.f13; simpa [doneSet] using h), (by have h := H.f15; simpa [doneSet] using h), (by have h := H.o7; simpa [doneSet] using h), (by have h := H.k12; simpa [doneSet] using h), (by have h := H.x12; simpa [doneSet] using h), (by have h := H.g8_7; simpa [doneSet] using h), (by have h := H.g9_7; simpa [doneSet] using h), (by have h := H.g13_7; simpa [doneSet] using h)⟩⟩
        simp only [putAll, Act.put, List.setIfInBounds_toArray, List.set_cons_succ, List.set_cons_zero]
        all_goals rfl
      · rintro d vs W ⟨v0, v1, v2, v3, v4, v5, v6, v7, v8, v9, v10, v11, v12, v13, v14, v15, av, cv, X, rfl, H⟩ hn hd
        simp only [putAll, Act.put, List.setIfInBounds_toArray, List.set_cons_succ, List.set_cons_zero]
        have HH1 : Hid (Rn (w5.drew) (gs) (b) (off) (ls.length) (cap) (l) (j) (f) (([] : List Int)) ((0, 0)) (false) d W v0 v1 v2 v3 v4 v5 v6 v7 v8 v9 v10 v11 v12 v13 v14 v15 av cv X) := H
        clear H
        have HHN : Hid (d 12 = false) := hn
        clear hd hn
        go_wp2
        have H0 := HH1.out
        have H := HH1.out.below ((Below.refl _ W).alloc (Nat.le_refl _) (.cells (cdA (0, 0)) 25))
        have hn := HHN.out
        refine ⟨rfl, [v0, v1, v2, v3, v4, v5, v6, v7, v8, v9, v10, v11, .pointer (some ⟨W.heap.size, 0, none⟩), v13, v14, v15], ?_, v0, v1, v2, v3, v4, v5, v6, v7, v8, v9, v10, v11, .pointer (some ⟨W.heap.size, 0, none⟩), v13, v14, v15, av, cv, W.heap.size, rfl, ⟨H.bel, (by have h := H.f0; simpa [doneSet] using h), (by have h := H.f1; simpa [doneSet] using h), (by have h := H.f2; simpa [doneSet] using h), (by have h := H.f3; simpa [doneSet] using h), (by have h := H.f4; simpa [doneSet] using h), (by have h := H.f5; simpa [doneSet] using h), (by have h := H.f6; simpa [doneSet] using h), (by have h := H.f7; simpa [doneSet] using h), (by have h := H.f8; simpa [doneSet] using h), (by have h := H.f9; simpa [doneSet] using h), (by have h := H.f10; simpa [doneSet] using h), (by have h := H.f11; simpa [doneSet] using h), (fun _ => rfl), (by have h := H.f13; simpa [doneSet] using h), (by have h := H.f15; simpa [doneSet] using h), (by have h := H.o7; simpa [doneSet] using h), (fun _ _ => Blk.new _ _ _), (fun _ => H0.bel.size), (by have h := H.g8_7; simpa [doneSet] using h), (by have h := H.g9_7; simpa [doneSet] using h), (by have h := H.g13_7; simpa [doneSet] using h)⟩⟩
        simp only [putAll, Act.put, List.setIfInBounds_toArray, List.set_cons_succ, List.set_cons_zero]
        all_goals rfl
      · rintro d vs W ⟨v0, v1, v2, v3, v4, v5, v6, v7, v8, v9, v10, v11, v12, v13, v14, v15, av, cv, X, rfl, H⟩ hn hd
        simp only [putAll, Act.put, List.setIfInBounds_toArray, List.set_cons_succ, List.set_cons_zero]
        have h9 : d 9 = true := hd { on := 9, ground := .data } (by simp) rfl
        have h7 := H.g9_7 h9
        obtain rfl := H.f9 h9
        have HH1 : Hid (Rn (w5.drew) (gs) (b) (off) (ls.length) (cap) (l) (j) (f) (([] : List Int)) ((0, 0)) (false) d W v0 v1 v2 v3 v4 v5 v6 v7 v8 (.slice av (([] : List Int)).length cv) v10 v11 v12 v13 v14 v15 av cv X) := H
        clear H
        have HHN : Hid (d 13 = false) := hn
        have HHD : Hid (d 9 = true) := h9
        clear hd hn h9
        go_wp2
        have H0 := HH1.out
        have H := HH1.out
        have hn := HHN.out
        have h9 := HHD.out
        refine ⟨rfl, [v0, v1, v2, v3, v4, v5, v6, v7, v8, .slice av (([] : List Int)).length cv, v10, v11, v12, .slice av (([] : List Int)).length cv, v14, v15], ?_, v0, v1, v2, v3, v4, v5, v6, v7, v8, .slice av (([] : List Int)).length cv, v10, v11, v12, .slice av (([] : List Int)).length cv, v14, v15, av, cv, X, rfl, ⟨H.bel, (by have h := H.f0; simpa [doneSet] using h), (by have h := H.f1; simpa [doneSet] using h), (by have h := H.f2; simpa [doneSet] using h), (by have h := H.f3; simpa [doneSet] using h), (by have h := H.f4; simpa [doneSet] using h), (by have h := H.f5; simpa [doneSet] using h), (by have h := H.f6; simpa [doneSet] using h), (by have h := H.f7; simpa [doneSet] using h), (by have h := H.f8; simpa [doneSet] using h), (fun _ => rfl), (by have h := H.f10; simpa [doneSet] using h), (by have h := H.f11; simpa [doneSet] using h), (by have h := H.f12; simpa [doneSet] using h), (fun _ => rfl), (by have h := H.f15; simpa [doneSet] using h), (by have h := H.o7; simpa [doneSet] using h), (by have h := H.k12; simpa [doneSet] using h), (by have h := H.x12; simpa [doneSet] using h), (by have h := H.g8_7; simpa [doneSet] using h), (by have h := H.g9_7; simpa [doneSet] using h), (fun _ => by simpa [doneSet] using h7)⟩⟩
        simp only [putAll, Act.put, List.setIfInBounds_toArray, List.set_cons_succ, List.set_cons_zero]
        all_goals rfl
      · rintro d vs W ⟨v0, v1, v2, v3, v4, v5, v6, v7, v8, v9, v10, v11, v12, v13, v14, v15, av, cv, X, rfl, H⟩ hn hd
        simp only [putAll, Act.put, List.setIfInBounds_toArray, List.set_cons_succ, List.set_cons_zero]
        have h12 : d 12 = true := hd { on := 12, ground := .data } (by simp) rfl
        have h10 : d 10 = true := hd { on := 10, ground := .data } (by simp) rfl
        have HK12 : Hid (Blk W X (cdA (0, 0)) 25) := H.k12 h12 hn
        have HX12 : Hid (w5.drew.heap.size ≤ X) := H.x12 h12
        obtain rfl := H.f12 h12
        obtain rfl := H.f10 h10
        have HH1 : Hid (Rn (w5.drew) (gs) (b) (off) (ls.length) (cap) (l) (j) (f) (([] : List Int)) ((0, 0)) (false) d W v0 v1 v2 v3 v4 v5 v6 v7 v8 v9 (.agg (cdA ((0, 0)))) v11 (.pointer (some ⟨X, 0, none⟩)) v13 v14 v15 av cv X) := H
        clear H
        have HHN : Hid (d 14 = false) := hn
        have HHD : Hid (d 12 = true ∧ d 10 = true) := ⟨h12, h10⟩
        clear hd hn h12 h10
        go_wp2_with (refine wpList_store_row rfl 25 _ _ rfl X _ rfl rfl 25 (cdA (0, 0)) HK12.out sizeCd rfl (by simp [Value.oneCell']) ?_)
        have H0 := HH1.out
        have H := HH1.out
        have hn := HHN.out
        have h12 := HHD.out.1
        have h10 := HHD.out.2
        refine ⟨rfl, [v0, v1, v2, v3, v4, v5, v6, v7, v8, v9, .agg (cdA ((0, 0))), v11, .pointer (some ⟨X, 0, none⟩), v13, undef, v15], ?_, v0, v1, v2, v3, v4, v5, v6, v7, v8, v9, .agg (cdA ((0, 0))), v11, .pointer (some ⟨X, 0, none⟩), v13, undef, v15, av, cv, X, rfl, ⟨(belowRow H0.bel _ HX12.out _), (by have h := H.f0; simpa [doneSet] using h), (by have h := H.f1; simpa [doneSet] using h), (by have h := H.f2; simpa [doneSet] using h), (by have h := H.f3; simpa [doneSet] using h), (by have h := H.f4; simpa [doneSet] using h), (by have h := H.f5; simpa [doneSet] using h), (by have h := H.f6; simpa [doneSet] using h), (by have h := H.f7; simpa [doneSet] using h), (by have h := H.f8; simpa [doneSet] using h), (by have h := H.f9; simpa [doneSet] using h), (fun _ => rfl), (by have h := H.f11; simpa [doneSet] using h), (fun _ => rfl), (by have h := H.f13; simpa [doneSet] using h), (by have h := H.f15; simpa [doneSet] using h), (fun e => (H0.o7 (by simpa [doneSet] using e)).putX HK12.out), (fun _ e => absurd e (by simp [doneSet])), (by have h := H.x12; simpa [doneSet] using h), (by have h := H.g8_7; simpa [doneSet] using h), (by have h := H.g9_7; simpa [doneSet] using h), (by have h := H.g13_7; simpa [doneSet] using h)⟩⟩
        simp only [putAll, Act.put, List.setIfInBounds_toArray, List.set_cons_succ, List.set_cons_zero]
        all_goals rfl
      · rintro d vs W ⟨v0, v1, v2, v3, v4, v5, v6, v7, v8, v9, v10, v11, v12, v13, v14, v15, av, cv, X, rfl, H⟩ hn hd
        simp only [putAll, Act.put, List.setIfInBounds_toArray, List.set_cons_succ, List.set_cons_zero]
        have h11 : d 11 = true := hd { on := 11, ground := .data } (by simp) rfl
        obtain rfl := H.f11 h11
        have HH1 : Hid (Rn (w5.drew) (gs) (b) (off) (ls.length) (cap) (l) (j) (f) (([] : List Int)) ((0, 0)) (false) d W v0 v1 v2 v3 v4 v5 v6 v7 v8 v9 v10 (.bool false) v12 v13 v14 v15 av cv X) := H
        clear H
        have HHN : Hid (d 15 = false) := hn
        have HHD : Hid (d 11 = true) := h11
        clear hd hn h11
        go_wp2
        have H0 := HH1.out
        have H := HH1.out
        have hn := HHN.out
        have h11 := HHD.out
        refine ⟨rfl, [v0, v1, v2, v3, v4, v5, v6, v7, v8, v9, v10, .bool false, v12, v13, v14, .bool false], ?_, v0, v1, v2, v3, v4, v5, v6, v7, v8, v9, v10, .bool false, v12, v13, v14, .bool false, av, cv, X, rfl, ⟨H.bel, (by have h := H.f0; simpa [doneSet] using h), (by have h := H.f1; simpa [doneSet] using h), (by have h := H.f2; simpa [doneSet] using h), (by have h := H.f3; simpa [doneSet] using h), (by have h := H.f4; simpa [doneSet] using h), (by have h := H.f5; simpa [doneSet] using h), (by have h := H.f6; simpa [doneSet] using h), (by have h := H.f7; simpa [doneSet] using h), (by have h := H.f8; simpa [doneSet] using h), (by have h := H.f9; simpa [doneSet] using h), (by have h := H.f10; simpa [doneSet] using h), (fun _ => rfl), (by have h := H.f12; simpa [doneSet] using h), (by have h := H.f13; simpa [doneSet] using h), (fun _ => rfl), (by have h := H.o7; simpa [doneSet] using h), (by have h := H.k12; simpa [doneSet] using h), (by have h := H.x12; simpa [doneSet] using h), (by have h := H.g8_7; simpa [doneSet] using h), (by have h := H.g9_7; simpa [doneSet] using h), (by have h := H.g13_7; simpa [doneSet] using h)⟩⟩
        simp only [putAll, Act.put, List.setIfInBounds_toArray, List.set_cons_succ, List.set_cons_zero]
        all_goals rfl
      rintro d vs W ⟨v0, v1, v2, v3, v4, v5, v6, v7, v8, v9, v10, v11, v12, v13, v14, v15, av, cv, X, rfl, H⟩ hn
      obtain rfl := H.f0 (hn 0 (by decide))
      obtain rfl := H.f1 (hn 1 (by decide))
      obtain rfl := H.f2 (hn 2 (by decide))
      obtain rfl := H.f3 (hn 3 (by decide))
      obtain rfl := H.f4 (hn 4 (by decide))
      obtain rfl := H.f5 (hn 5 (by decide))
      obtain rfl := H.f6 (hn 6 (by decide))
      obtain rfl := H.f7 (hn 7 (by decide))
      obtain rfl := H.f8 (hn 8 (by decide))
      obtain rfl := H.f9 (hn 9 (by decide))
      obtain rfl := H.f10 (hn 10 (by decide))
      obtain rfl := H.f11 (hn 11 (by decide))
      obtain rfl := H.f12 (hn 12 (by decide))
      obtain rfl := H.f13 (hn 13 (by decide))
      obtain rfl := H.f15 (hn 15 (by decide))
      have BW : Hid (Below w5.drew.heap.size w5.drew W) := H.bel
      have OW : Hid (Ow .i64 3 w5.drew.heap.size W (.slice av ([] : List Int).length cv) ([] : List Int)) := H.o7 (hn 7 (by decide))
      clear H hn CE HGF
      have KV := HV5.out.drew.below BW.out HV5.out.lt
      have KG := HG5.out.drew.below BW.out HG5.out.lt
      have KL := HL5.out.drew.below BW.out HL5.out.lt
      have cv0 := KV.cell 0
      have cg0 := KG.cell 0
      simp at cv0 cg0
      have fv := KV.frozen 0
      have fg := KG.frozen 0
      have HKS : Hid (Blk W (gs + 1 + 1) #[.slice none 0 0] 26 ∧ Blk W (gs + 1 + 1 + 1) #[.bool false] 4 ∧ Blk W (gs + 1) #[.int .i64 l] 3) := ⟨KV, KG, KL⟩
      have HBW : Hid (Below w.heap.size w W) := belowCall HB5.out.drew BW.out HB5.out.size
      have HLV : Hid (lvF ls n l = (fdL l 30, true)) := by
        show _ = _
        unfold lvF
        obtain rfl := HJ.out
        rw [dif_neg (fun h => HCO.out (by have h2 := h.2.2; rw [HFJ.out] at h2; exact h2))]
      clear KV KG KL
      simp only [putAll, Act.put, List.setIfInBounds_toArray, List.set_cons_succ, List.set_cons_zero]
      go_wp2
      rw [HLV.out]
      have hs5 : w.heap.size ≤ w5.drew.heap.size := HB5.out.size
      have hgt : gs + 1 + 1 + 1 < w5.drew.heap.size := HG5.out.lt
      have hgs := HGS.out
      refine nx_leave (old := .slice av ([] : List Int).length cv) rfl rfl HLL.out (HKS.out.2.1.other ⟨gs + 1 + 1, 0, none⟩ _ (by dsimp only; omega) |>.set 0 _) ((HKS.out.2.2.other ⟨gs + 1 + 1, 0, none⟩ _ (by dsimp only; omega)).other ⟨gs + 1 + 1 + 1, 0, none⟩ _ (by dsimp only; omega)) ((HKS.out.1.set 0 _).other ⟨gs + 1 + 1 + 1, 0, none⟩ _ (by dsimp only; omega)) (by omega) (by omega) ?_ ?_ ((HBW.out.setCell (by dsimp only; omega) _).setCell (by dsimp only; omega) _)
      · intro h; cases h
      · intro _; rfl

end Go.Proofs.YtkjfcebdjnclaaaDoor
