/- The meter's count; no condition. -/
import Derived.Test.YtdnophdldpophaaRA
import Derived.Test.YtdnophdldpophaaOver
import Derived.Test.YtdnophdldpophaaInv
namespace Go.Proofs.Ytdnophdldpophaa
open Go.RowKit Go.ChangeShapes Go.WideShapes Go.ChangeAt
set_option linter.unusedVariables false
set_option linter.unusedSimpArgs false
set_option maxRecDepth 8000

def DsS (V V' : World) (l1 l2 ad st : Nat) (d : Nat → Bool) (W : World) : Prop := (d st = false → W = V) ∧ (d st = true → W = V') ∧ (d st = true → d ad = true) ∧ (d ad = true → d l1 = true ∧ d l2 = true)
theorem DsS.begin (V V' : World) (l1 l2 ad st : Nat) : DsS V V' l1 l2 ad st (fun _ => false) V := ⟨fun _ => rfl, fun h => (by cases h), fun h => (by cases h), fun h => (by cases h)⟩
theorem DsS.other {V V' : World} {l1 l2 ad st : Nat} {d : Nat → Bool} {W : World} (h : DsS V V' l1 l2 ad st d W) (i : Nat) (hi : st ≠ i) (ha : ad = i → d l1 = true ∧ d l2 = true) : DsS V V' l1 l2 ad st (doneSet d i) W := by
  have hs : doneSet d i st = d st := by simp [doneSet, hi]
  have mono : ∀ j, d j = true → doneSet d i j = true := fun j hj => by simp [doneSet, hj]
  refine ⟨fun e => h.1 (hs ▸ e), fun e => h.2.1 (hs ▸ e), fun e => mono _ (h.2.2.1 (hs ▸ e)), fun e => ?_⟩
  by_cases hc : ad = i
  · exact ⟨mono _ (ha hc).1, mono _ (ha hc).2⟩
  · have ha' : doneSet d i ad = d ad := by simp [doneSet, hc]
    have := h.2.2.2 (ha' ▸ e)
    exact ⟨mono _ this.1, mono _ this.2⟩
theorem DsS.store {V V' : World} {l1 l2 ad st : Nat} {d : Nat → Bool} {W : World} (h : DsS V V' l1 l2 ad st d W) (hst : ad ≠ st) (ha : d ad = true) : DsS V V' l1 l2 ad st (doneSet d st) V' := by
  have mono : ∀ j, d j = true → doneSet d st j = true := fun j hj => by simp [doneSet, hj]
  refine ⟨fun e => by simp [doneSet] at e, fun _ => rfl, fun _ => mono _ ha, fun e => ?_⟩
  have := h.2.2.2 ha
  exact ⟨mono _ this.1, mono _ this.2⟩
theorem DsS.ld1 {V V' : World} {l1 l2 ad st : Nat} {d : Nat → Bool} {W : World} (h : DsS V V' l1 l2 ad st d W) (hn : d l1 = false) : W = V := h.1 (by
  cases hd : d st with
  | false => rfl
  | true => have := (h.2.2.2 (h.2.2.1 hd)).1; rw [hn] at this; cases this)
theorem DsS.ld2 {V V' : World} {l1 l2 ad st : Nat} {d : Nat → Bool} {W : World} (h : DsS V V' l1 l2 ad st d W) (hn : d l2 = false) : W = V := h.1 (by
  cases hd : d st with
  | false => rfl
  | true => have := (h.2.2.2 (h.2.2.1 hd)).2; rw [hn] at this; cases this)
structure Sc (C : Nat) (B : World) (M : Nat) (b off len cap : Nat) (z t : Int) (i : Nat) (r : Tf) (d : Nat → Bool) (W : World) (v0 v1 v2 v3 v4 v5 v6 v7 v8 v9 v10 v11 v12 v13 v14 v15 v16 v17 v18 v19 v20 : Value) (X : Nat) : Prop where
  bel : Below C B W
  f0 : d 0 = true → v0 = .pointer (some ⟨M, 0, none⟩)
  f1 : d 1 = true → v1 = .pointer (some ⟨M, 0, none⟩)
  f2 : d 2 = true → v2 = .pointer (some ⟨M, 0, none⟩)
  f3 : d 3 = true → v3 = .slice (some ⟨b, off, none⟩) len cap
  f4 : d 4 = true → v4 = .pointer (some ⟨M, 0, none⟩)
  f5 : d 5 = true → v5 = .pointer (some ⟨M, 0, none⟩)
  f6 : d 6 = true → v6 = .pointer (some ⟨M, 0, none⟩)
  f7 : d 7 = true → v7 = .slice (some ⟨b, off, none⟩) len cap
  f8 : d 8 = true → v8 = .pointer (some ⟨M, 0, none⟩)
  f9 : d 9 = true → v9 = .pointer (some ⟨M, 0, none⟩)
  f10 : d 10 = true → v10 = .pointer (some ⟨M, 1, none⟩)
  f11 : d 11 = true → v11 = .int .i64 z
  f12 : d 12 = true → v12 = .pointer (some ⟨M, 0, none⟩)
  f13 : d 13 = true → v13 = .pointer (some ⟨M, 0, none⟩)
  f14 : d 14 = true → v14 = .pointer (some ⟨M, 2, none⟩)
  f15 : d 15 = true → v15 = .int .i64 t
  f16 : d 16 = true → v16 = .int .i64 (i : Int)
  f17 : d 17 = true → v17 = .pointer (some ⟨b, off + i * 5, none⟩)
  f18 : d 18 = true → v18 = .agg #[.int .i64 r.1, .int .i64 r.2.1, .int .i64 r.2.2.1, .int .i64 r.2.2.2.1, .int .i64 r.2.2.2.2]
  f19 : d 19 = true → v19 = .pointer (some ⟨X, 0, none⟩)
  oa : d 19 = true → C ≤ X ∧ (d 20 = false → Blk W X #[.int .i64 0, .int .i64 0, .int .i64 0, .int .i64 0, .int .i64 0] 32)
  os : d 20 = true → Blk W X #[.int .i64 r.1, .int .i64 r.2.1, .int .i64 r.2.2.1, .int .i64 r.2.2.2.1, .int .i64 r.2.2.2.2] 32
  ga : d 20 = true → d 19 = true
theorem Sc.below {C : Nat} {B : World} {M : Nat} {b off len cap : Nat} {z t : Int} {i : Nat} {r : Tf} {d : Nat → Bool} {W W' : World} {v0 v1 v2 v3 v4 v5 v6 v7 v8 v9 v10 v11 v12 v13 v14 v15 v16 v17 v18 v19 v20 : Value} {X : Nat} (h : Sc C B M b off len cap z t i r d W v0 v1 v2 v3 v4 v5 v6 v7 v8 v9 v10 v11 v12 v13 v14 v15 v16 v17 v18 v19 v20 X) (hC : C ≤ B.heap.size) (hb : Below W.heap.size W W') : Sc C B M b off len cap z t i r d W' v0 v1 v2 v3 v4 v5 v6 v7 v8 v9 v10 v11 v12 v13 v14 v15 v16 v17 v18 v19 v20 X :=
  { h with
    bel := belowCall h.bel hb (Nat.le_trans hC h.bel.size)
    oa := fun e => ⟨(h.oa e).1, fun e2 => ((h.oa e).2 e2).below hb ((h.oa e).2 e2).lt⟩
    os := fun e => (h.os e).below hb (h.os e).lt }
def ScS (C : Nat) (B : World) (M : Nat) (b off len cap : Nat) (z t : Int) (i : Nat) (r : Tf) (d : Nat → Bool) (vs : List Value) (W : World) : Prop := ∃ v0 v1 v2 v3 v4 v5 v6 v7 v8 v9 v10 v11 v12 v13 v14 v15 v16 v17 v18 v19 v20 X, vs = [v0, v1, v2, v3, v4, v5, v6, v7, v8, v9, v10, v11, v12, v13, v14, v15, v16, v17, v18, v19, v20] ∧ Sc C B M b off len cap z t i r d W v0 v1 v2 v3 v4 v5 v6 v7 v8 v9 v10 v11 v12 v13 v14 v15 v16 v17 v18 v19 v20 X
/-- what count leaves: the meter behind its steps -/
def CnR (ls : List Tf) (v : Value) (M : Nat) (z : Int) (q : Int × Int × Int) (w : World) (w' : World) : Prop :=
  Blk w' M #[v, .int .i64 z, .int .i64 q.1, .int .i64 q.2.1, .int .i64 q.2.2] 71 ∧ Fr (fun k => k = M) w w'
theorem Rg.frM {w w' : World} {v : Value} {ls : List Tf} {M : Nat} (h : Rg 5 tfC w v ls) (hM : ∀ k, v.ownBlock = some k → k ≠ M) (hf : Fr (fun k => k = M) w w') : Rg 5 tfC w' v ls := by
  obtain ⟨a, cap, rfl, h1, h2, h3⟩ := h
  refine ⟨a, cap, rfl, h1, h2, ?_⟩
  rcases h3 with h3 | ⟨b, off, rfl, h4⟩
  · exact .inl h3
  · exact .inr ⟨b, off, rfl, fun i hi j u hu => (World.cell?_of_block (w := w) (hf.block b (block_lt_of_cell (h4 i hi j u hu)) (hM b rfl))).trans (h4 i hi j u hu)⟩
set_option maxHeartbeats 25600000 in
theorem count_c (v : Value) (ls : List Tf) (M F : Nat) (z e r0 t0 s0 c0 : Int) (w : World) (h : Rg 5 tfC w v ls) (hM : ∀ k, v.ownBlock = some k → k ≠ M) (hb : Blk w M #[v, .int .i64 z, .int .i64 t0, .int .i64 s0, .int .i64 c0] 71)
    (ok : TfOk ls) (hz : HasZ ls z) (hF : e - t0 = F) (he : e ≤ 1000000000) (h0 : 0 ≤ t0) (hmt : MtOk t0 t0 s0 c0) :
   Calls Try.prog 37 #[.pointer (some ⟨M, 0, none⟩), .int .i64 e, .int .i64 r0] w fun x w' => x = .returned (.tuple #[]) ∧ CnR ls v M z (cN ls z e r0 F t0 s0 c0) w w' := by
  have HH : Hid (Rg 5 tfC w v ls) := h
  have HM : Hid (∀ k, v.ownBlock = some k → k ≠ M) := hM
  have HOK : Hid (TfOk ls ∧ HasZ ls z) := ⟨ok, hz⟩
  have HMT : Hid (MtOk t0 t0 s0 c0) := hmt
  have HB0 : Hid (Blk w M #[v, .int .i64 z, .int .i64 t0, .int .i64 s0, .int .i64 c0] 71) := hb
  obtain ⟨a, cap, rfl, h1, h2, h3⟩ := h
  unfold maxLen at h2
  rcases h3 with h3 | ⟨b, off, rfl, -⟩
  · subst h3
    obtain ⟨i, hi, -⟩ := hz
    simp at hi
  have x0 := hb.cell 0
  have x1 := hb.cell 1
  have x2 := hb.cell 2
  have x3 := hb.cell 3
  have x4 := hb.cell 4
  simp at x0 x1 x2 x3 x4
  have hw0 : -9223372036854775808 ≤ e - t0 ∧ e - t0 ≤ 9223372036854775807 := by omega
  have HF : Hid (e - t0 = F) := hF
  have hFb : F ≤ 1000000000 := by omega
  have HE : Hid (e ≤ 1000000000 ∧ 0 ≤ t0) := ⟨he, h0⟩
  clear hb hM ok hz hmt he h0
  go_enter Try.func37, Try.ntmps37
  go_wp2
  clear hF hw0
  go_loopw [13] (fun x wr => ∃ (j : Nat) (t s c : Int), j ≤ F ∧ x = .int .i64 j ∧ Hid (Blk wr M #[.slice (some ⟨b, off, none⟩) ls.length cap, .int .i64 z, .int .i64 t, .int .i64 s, .int .i64 c] 71) ∧ Hid (Fr (fun k => k = M) w wr) ∧ Hid (cN ls z e r0 F t0 s0 c0 = cN ls z e r0 (F - j) t s c) ∧ Hid (MtOk t0 t s c) ∧ Hid (t ≤ e + 10000)) (fun x _ => F - (intOf x).toNat)
  case atStart => exact ⟨0, t0, s0, c0, Nat.zero_le _, rfl, HB0.out, Fr.refl _ _, rfl, HMT.out, by have := HF.out; show t0 ≤ e + 10000; omega⟩
  case round =>
    obtain ⟨j, t, s, c, hj, rfl, hK, hfr, hcn, hmt, hte⟩ := hrel
    clear x0 x1 x2 x3 x4 HB0 HMT
    by_cases hlt : j < F
    case neg =>
      obtain rfl : j = F := by omega
      have HR : Hid (cN ls z e r0 j t0 s0 c0 = (t, s, c)) := by show _ = _; rw [hcn.out, Nat.sub_self]; rfl
      go_wp2
      first | refine bodyPost_end (results_none rfl _ _ _) rfl ?_ | refine bodyPost_ret (results_none rfl _ _ _) rfl ?_
      exact ⟨rfl, by rw [HR.out]; exact ⟨hK.out, hfr.out⟩⟩
    case pos =>
    have hjI : (j : Int) < (F : Int) := by omega
    have x0 := hK.out.cell 0
    have x1 := hK.out.cell 1
    have x2 := hK.out.cell 2
    have x3 := hK.out.cell 3
    have x4 := hK.out.cell 4
    simp at x0 x1 x2 x3 x4
    by_cases hge : e ≤ t
    · have HR : Hid (cN ls z e r0 F t0 s0 c0 = (t, s, c)) := by show _ = _; rw [hcn.out]; exact cN_stop _ _ _ _ _ _ _ _ (.inl hge)
      go_wp2
      refine bodyPost_ret (results_none rfl _ _ _) rfl ?_
      exact ⟨rfl, by rw [HR.out]; exact ⟨hK.out, hfr.out⟩⟩
    have hge' : (e ≤ t) = False := eq_false hge
    have HT : Hid (0 ≤ t ∧ t ≤ 1000000000 ∧ ¬ e ≤ t) := ⟨by have := HE.out; have := hmt.out.st; have := hmt.out.s0; omega, by have := HE.out; omega, hge⟩
    clear hge
    obtain ⟨i, hi, hil, -⟩ := hoF_neg (t := t) HOK.out.2
    obtain ⟨r, hr⟩ : ∃ r, ls[i] = r := ⟨_, rfl⟩
    have HTA : Hid (tfA ls z t = r) := by show tfA ls z t = r; rw [tfA_at hi hil, hr]
    have HBM : Hid (Blk wr M #[.slice (some ⟨b, off, none⟩) ls.length cap, .int .i64 z, .int .i64 t, .int .i64 s, .int .i64 c] 71) := hK.out
    have HRG : Hid (∀ W, Fr (fun k => k = M) w W → Rg 5 tfC W (.slice (some ⟨b, off, none⟩) ls.length cap) ls) := fun W hW => HH.out.frM HM.out hW
    have HRW : Hid (∀ W, Below wr.heap.size wr W → Rg 5 tfC W (.slice (some ⟨b, off, none⟩) ls.length cap) ls) := fun W hW => HRG.out W (hfr.out.trans (Fr.ofBelow hW))
    have HRC : Hid (∀ W, Below wr.heap.size wr W → W.rangeAt b (off + i * 5) (tfC r)) := fun W hW => by
      obtain ⟨a', cap', he', -, -, h5⟩ := HRW.out W hW
      cases he'
      rcases h5 with h5 | ⟨b', off', he', h6⟩
      · subst h5; simp at hil
      · cases he'
        have := h6 i hil
        rw [hr] at this; exact this
    have HHO : Hid (∀ W, Below wr.heap.size wr W → Calls Try.prog 46 #[.slice (some ⟨b, off, none⟩) ls.length cap, .int .i64 z, .int .i64 t] W fun x w' => x = .returned (.int .i64 (i : Int)) ∧ Below W.heap.size W w') := fun W hW =>
      (holder_c _ ls z t W (HRW.out W hW) ⟨HT.out.1, HT.out.2.1⟩ (fun i hi => ⟨(HOK.out.1.tf i hi).2.2.1, (HOK.out.1.tf i hi).2.2.2.1⟩) (by have := HOK.out.1.2; omega)).mono fun x w' ⟨p, hx, hp, hb⟩ => ⟨by rw [hx, hp.eq HOK.out.1, hi], hb⟩
    have hiI : (i : Int) < (ls.length : Int) := by omega
    clear hr hi
    go_wp2
    refine region_vals [undef, undef, undef, undef, undef, undef, undef, undef, undef, undef, undef, undef, undef, undef, undef, undef, undef, undef, undef, undef, undef]
      (ScS wr.heap.size wr M b off ls.length cap z t i r)
      (by kernel_rfl) (by kernel_rfl) ?_ ⟨?_, ?_, ?_, ?_, ?_, ?_, ?_, ?_, ?_, ?_, ?_, ?_, ?_, ?_, ?_, ?_, ?_, ?_, ?_, ?_, ?_, trivial⟩ ?_
    · refine ⟨_, _, _, _, _, _, _, _, _, _, _, _, _, _, _, _, _, _, _, _, _, 0, rfl, ⟨(Below.refl _ _).drew, ?_, ?_, ?_, ?_, ?_, ?_, ?_, ?_, ?_, ?_, ?_, ?_, ?_, ?_, ?_, ?_, ?_, ?_, ?_, ?_, ?_, ?_, ?_⟩⟩ <;> simp
    · rintro d vs W ⟨v0, v1, v2, v3, v4, v5, v6, v7, v8, v9, v10, v11, v12, v13, v14, v15, v16, v17, v18, v19, v20, X, rfl, H⟩ hn hd
      simp only [putAll, Act.put, List.setIfInBounds_toArray, List.set_cons_succ, List.set_cons_zero]
      have HH1 : Hid _ := H
      clear H
      clear hd
      go_wp2
      have H := HH1.out
      refine ⟨rfl, [.pointer (some ⟨M, 0, none⟩), v1, v2, v3, v4, v5, v6, v7, v8, v9, v10, v11, v12, v13, v14, v15, v16, v17, v18, v19, v20], ?_, .pointer (some ⟨M, 0, none⟩), v1, v2, v3, v4, v5, v6, v7, v8, v9, v10, v11, v12, v13, v14, v15, v16, v17, v18, v19, v20, X, rfl, ⟨H.bel, (fun _ => rfl), (by have h := H.f1; simpa [doneSet] using h), (by have h := H.f2; simpa [doneSet] using h), (by have h := H.f3; simpa [doneSet] using h), (by have h := H.f4; simpa [doneSet] using h), (by have h := H.f5; simpa [doneSet] using h), (by have h := H.f6; simpa [doneSet] using h), (by have h := H.f7; simpa [doneSet] using h), (by have h := H.f8; simpa [doneSet] using h), (by have h := H.f9; simpa [doneSet] using h), (by have h := H.f10; simpa [doneSet] using h), (by have h := H.f11; simpa [doneSet] using h), (by have h := H.f12; simpa [doneSet] using h), (by have h := H.f13; simpa [doneSet] using h), (by have h := H.f14; simpa [doneSet] using h), (by have h := H.f15; simpa [doneSet] using h), (by have h := H.f16; simpa [doneSet] using h), (by have h := H.f17; simpa [doneSet] using h), (by have h := H.f18; simpa [doneSet] using h), (by have h := H.f19; simpa [doneSet] using h), (by have h := H.oa; simpa [doneSet] using h), (by have h := H.os; simpa [doneSet] using h), (by have h := H.ga; simpa [doneSet] using h)⟩⟩
      simp only [putAll, Act.put, List.setIfInBounds_toArray, List.set_cons_succ, List.set_cons_zero]
    · rintro d vs W ⟨v0, v1, v2, v3, v4, v5, v6, v7, v8, v9, v10, v11, v12, v13, v14, v15, v16, v17, v18, v19, v20, X, rfl, H⟩ hn hd
      simp only [putAll, Act.put, List.setIfInBounds_toArray, List.set_cons_succ, List.set_cons_zero]
      have h0 : d 0 = true := hd { on := 0, ground := .data } (by simp) rfl
      obtain rfl := H.f0 h0
      have HH1 : Hid _ := H
      clear H
      clear hd
      go_wp2
      have H := HH1.out
      refine ⟨rfl, [.pointer (some ⟨M, 0, none⟩), .pointer (some ⟨M, 0, none⟩), v2, v3, v4, v5, v6, v7, v8, v9, v10, v11, v12, v13, v14, v15, v16, v17, v18, v19, v20], ?_, .pointer (some ⟨M, 0, none⟩), .pointer (some ⟨M, 0, none⟩), v2, v3, v4, v5, v6, v7, v8, v9, v10, v11, v12, v13, v14, v15, v16, v17, v18, v19, v20, X, rfl, ⟨H.bel, (fun _ => rfl), (fun _ => rfl), (by have h := H.f2; simpa [doneSet] using h), (by have h := H.f3; simpa [doneSet] using h), (by have h := H.f4; simpa [doneSet] using h), (by have h := H.f5; simpa [doneSet] using h), (by have h := H.f6; simpa [doneSet] using h), (by have h := H.f7; simpa [doneSet] using h), (by have h := H.f8; simpa [doneSet] using h), (by have h := H.f9; simpa [doneSet] using h), (by have h := H.f10; simpa [doneSet] using h), (by have h := H.f11; simpa [doneSet] using h), (by have h := H.f12; simpa [doneSet] using h), (by have h := H.f13; simpa [doneSet] using h), (by have h := H.f14; simpa [doneSet] using h), (by have h := H.f15; simpa [doneSet] using h), (by have h := H.f16; simpa [doneSet] using h), (by have h := H.f17; simpa [doneSet] using h), (by have h := H.f18; simpa [doneSet] using h), (by have h := H.f19; simpa [doneSet] using h), (by have h := H.oa; simpa [doneSet] using h), (by have h := H.os; simpa [doneSet] using h), (by have h := H.ga; simpa [doneSet] using h)⟩⟩
      simp only [putAll, Act.put, List.setIfInBounds_toArray, List.set_cons_succ, List.set_cons_zero]
    · rintro d vs W ⟨v0, v1, v2, v3, v4, v5, v6, v7, v8, v9, v10, v11, v12, v13, v14, v15, v16, v17, v18, v19, v20, X, rfl, H⟩ hn hd
      simp only [putAll, Act.put, List.setIfInBounds_toArray, List.set_cons_succ, List.set_cons_zero]
      have h1 : d 1 = true := hd { on := 1, ground := .data } (by simp) rfl
      obtain rfl := H.f1 h1
      have HH1 : Hid _ := H
      clear H
      clear hd
      go_wp2
      have H := HH1.out
      refine ⟨rfl, [v0, .pointer (some ⟨M, 0, none⟩), .pointer (some ⟨M, 0, none⟩), v3, v4, v5, v6, v7, v8, v9, v10, v11, v12, v13, v14, v15, v16, v17, v18, v19, v20], ?_, v0, .pointer (some ⟨M, 0, none⟩), .pointer (some ⟨M, 0, none⟩), v3, v4, v5, v6, v7, v8, v9, v10, v11, v12, v13, v14, v15, v16, v17, v18, v19, v20, X, rfl, ⟨H.bel, (by have h := H.f0; simpa [doneSet] using h), (fun _ => rfl), (fun _ => rfl), (by have h := H.f3; simpa [doneSet] using h), (by have h := H.f4; simpa [doneSet] using h), (by have h := H.f5; simpa [doneSet] using h), (by have h := H.f6; simpa [doneSet] using h), (by have h := H.f7; simpa [doneSet] using h), (by have h := H.f8; simpa [doneSet] using h), (by have h := H.f9; simpa [doneSet] using h), (by have h := H.f10; simpa [doneSet] using h), (by have h := H.f11; simpa [doneSet] using h), (by have h := H.f12; simpa [doneSet] using h), (by have h := H.f13; simpa [doneSet] using h), (by have h := H.f14; simpa [doneSet] using h), (by have h := H.f15; simpa [doneSet] using h), (by have h := H.f16; simpa [doneSet] using h), (by have h := H.f17; simpa [doneSet] using h), (by have h := H.f18; simpa [doneSet] using h), (by have h := H.f19; simpa [doneSet] using h), (by have h := H.oa; simpa [doneSet] using h), (by have h := H.os; simpa [doneSet] using h), (by have h := H.ga; simpa [doneSet] using h)⟩⟩
      simp only [putAll, Act.put, List.setIfInBounds_toArray, List.set_cons_succ, List.set_cons_zero]
    · rintro d vs W ⟨v0, v1, v2, v3, v4, v5, v6, v7, v8, v9, v10, v11, v12, v13, v14, v15, v16, v17, v18, v19, v20, X, rfl, H⟩ hn hd
      simp only [putAll, Act.put, List.setIfInBounds_toArray, List.set_cons_succ, List.set_cons_zero]
      have h2 : d 2 = true := hd { on := 2, ground := .data } (by simp) rfl
      obtain rfl := H.f2 h2
      have kk := HBM.out.below H.bel HBM.out.lt
      have x0 := kk.cell 0
      have x1 := kk.cell 1
      have x2 := kk.cell 2
      have x3 := kk.cell 3
      have x4 := kk.cell 4
      simp at x0 x1 x2 x3 x4
      have HH1 : Hid _ := H
      clear H
      clear hd kk
      go_wp2
      have H := HH1.out
      refine ⟨rfl, [v0, v1, .pointer (some ⟨M, 0, none⟩), .slice (some ⟨b, off, none⟩) ls.length cap, v4, v5, v6, v7, v8, v9, v10, v11, v12, v13, v14, v15, v16, v17, v18, v19, v20], ?_, v0, v1, .pointer (some ⟨M, 0, none⟩), .slice (some ⟨b, off, none⟩) ls.length cap, v4, v5, v6, v7, v8, v9, v10, v11, v12, v13, v14, v15, v16, v17, v18, v19, v20, X, rfl, ⟨H.bel, (by have h := H.f0; simpa [doneSet] using h), (by have h := H.f1; simpa [doneSet] using h), (fun _ => rfl), (fun _ => rfl), (by have h := H.f4; simpa [doneSet] using h), (by have h := H.f5; simpa [doneSet] using h), (by have h := H.f6; simpa [doneSet] using h), (by have h := H.f7; simpa [doneSet] using h), (by have h := H.f8; simpa [doneSet] using h), (by have h := H.f9; simpa [doneSet] using h), (by have h := H.f10; simpa [doneSet] using h), (by have h := H.f11; simpa [doneSet] using h), (by have h := H.f12; simpa [doneSet] using h), (by have h := H.f13; simpa [doneSet] using h), (by have h := H.f14; simpa [doneSet] using h), (by have h := H.f15; simpa [doneSet] using h), (by have h := H.f16; simpa [doneSet] using h), (by have h := H.f17; simpa [doneSet] using h), (by have h := H.f18; simpa [doneSet] using h), (by have h := H.f19; simpa [doneSet] using h), (by have h := H.oa; simpa [doneSet] using h), (by have h := H.os; simpa [doneSet] using h), (by have h := H.ga; simpa [doneSet] using h)⟩⟩
      simp only [putAll, Act.put, List.setIfInBounds_toArray, List.set_cons_succ, List.set_cons_zero]
    · rintro d vs W ⟨v0, v1, v2, v3, v4, v5, v6, v7, v8, v9, v10, v11, v12, v13, v14, v15, v16, v17, v18, v19, v20, X, rfl, H⟩ hn hd
      simp only [putAll, Act.put, List.setIfInBounds_toArray, List.set_cons_succ, List.set_cons_zero]
      have HH1 : Hid _ := H
      clear H
      clear hd
      go_wp2
      have H := HH1.out
      refine ⟨rfl, [v0, v1, v2, v3, .pointer (some ⟨M, 0, none⟩), v5, v6, v7, v8, v9, v10, v11, v12, v13, v14, v15, v16, v17, v18, v19, v20], ?_, v0, v1, v2, v3, .pointer (some ⟨M, 0, none⟩), v5, v6, v7, v8, v9, v10, v11, v12, v13, v14, v15, v16, v17, v18, v19, v20, X, rfl, ⟨H.bel, (by have h := H.f0; simpa [doneSet] using h), (by have h := H.f1; simpa [doneSet] using h), (by have h := H.f2; simpa [doneSet] using h), (by have h := H.f3; simpa [doneSet] using h), (fun _ => rfl), (by have h := H.f5; simpa [doneSet] using h), (by have h := H.f6; simpa [doneSet] using h), (by have h := H.f7; simpa [doneSet] using h), (by have h := H.f8; simpa [doneSet] using h), (by have h := H.f9; simpa [doneSet] using h), (by have h := H.f10; simpa [doneSet] using h), (by have h := H.f11; simpa [doneSet] using h), (by have h := H.f12; simpa [doneSet] using h), (by have h := H.f13; simpa [doneSet] using h), (by have h := H.f14; simpa [doneSet] using h), (by have h := H.f15; simpa [doneSet] using h), (by have h := H.f16; simpa [doneSet] using h), (by have h := H.f17; simpa [doneSet] using h), (by have h := H.f18; simpa [doneSet] using h), (by have h := H.f19; simpa [doneSet] using h), (by have h := H.oa; simpa [doneSet] using h), (by have h := H.os; simpa [doneSet] using h), (by have h := H.ga; simpa [doneSet] using h)⟩⟩
      simp only [putAll, Act.put, List.setIfInBounds_toArray, List.set_cons_succ, List.set_cons_zero]
    · rintro d vs W ⟨v0, v1, v2, v3, v4, v5, v6, v7, v8, v9, v10, v11, v12, v13, v14, v15, v16, v17, v18, v19, v20, X, rfl, H⟩ hn hd
      simp only [putAll, Act.put, List.setIfInBounds_toArray, List.set_cons_succ, List.set_cons_zero]
      have h4 : d 4 = true := hd { on := 4, ground := .data } (by simp) rfl
      obtain rfl := H.f4 h4
      have HH1 : Hid _ := H
      clear H
      clear hd
      go_wp2
      have H := HH1.out
      refine ⟨rfl, [v0, v1, v2, v3, .pointer (some ⟨M, 0, none⟩), .pointer (some ⟨M, 0, none⟩), v6, v7, v8, v9, v10, v11, v12, v13, v14, v15, v16, v17, v18, v19, v20], ?_, v0, v1, v2, v3, .pointer (some ⟨M, 0, none⟩), .pointer (some ⟨M, 0, none⟩), v6, v7, v8, v9, v10, v11, v12, v13, v14, v15, v16, v17, v18, v19, v20, X, rfl, ⟨H.bel, (by have h := H.f0; simpa [doneSet] using h), (by have h := H.f1; simpa [doneSet] using h), (by have h := H.f2; simpa [doneSet] using h), (by have h := H.f3; simpa [doneSet] using h), (fun _ => rfl), (fun _ => rfl), (by have h := H.f6; simpa [doneSet] using h), (by have h := H.f7; simpa [doneSet] using h), (by have h := H.f8; simpa [doneSet] using h), (by have h := H.f9; simpa [doneSet] using h), (by have h := H.f10; simpa [doneSet] using h), (by have h := H.f11; simpa [doneSet] using h), (by have h := H.f12; simpa [doneSet] using h), (by have h := H.f13; simpa [doneSet] using h), (by have h := H.f14; simpa [doneSet] using h), (by have h := H.f15; simpa [doneSet] using h), (by have h := H.f16; simpa [doneSet] using h), (by have h := H.f17; simpa [doneSet] using h), (by have h := H.f18; simpa [doneSet] using h), (by have h := H.f19; simpa [doneSet] using h), (by have h := H.oa; simpa [doneSet] using h), (by have h := H.os; simpa [doneSet] using h), (by have h := H.ga; simpa [doneSet] using h)⟩⟩
      simp only [putAll, Act.put, List.setIfInBounds_toArray, List.set_cons_succ, List.set_cons_zero]
    · rintro d vs W ⟨v0, v1, v2, v3, v4, v5, v6, v7, v8, v9, v10, v11, v12, v13, v14, v15, v16, v17, v18, v19, v20, X, rfl, H⟩ hn hd
      simp only [putAll, Act.put, List.setIfInBounds_toArray, List.set_cons_succ, List.set_cons_zero]
      have h5 : d 5 = true := hd { on := 5, ground := .data } (by simp) rfl
      obtain rfl := H.f5 h5
      have HH1 : Hid _ := H
      clear H
      clear hd
      go_wp2
      have H := HH1.out
      refine ⟨rfl, [v0, v1, v2, v3, v4, .pointer (some ⟨M, 0, none⟩), .pointer (some ⟨M, 0, none⟩), v7, v8, v9, v10, v11, v12, v13, v14, v15, v16, v17, v18, v19, v20], ?_, v0, v1, v2, v3, v4, .pointer (some ⟨M, 0, none⟩), .pointer (some ⟨M, 0, none⟩), v7, v8, v9, v10, v11, v12, v13, v14, v15, v16, v17, v18, v19, v20, X, rfl, ⟨H.bel, (by have h := H.f0; simpa [doneSet] using h), (by have h := H.f1; simpa [doneSet] using h), (by have h := H.f2; simpa [doneSet] using h), (by have h := H.f3; simpa [doneSet] using h), (by have h := H.f4; simpa [doneSet] using h), (fun _ => rfl), (fun _ => rfl), (by have h := H.f7; simpa [doneSet] using h), (by have h := H.f8; simpa [doneSet] using h), (by have h := H.f9; simpa [doneSet] using h), (by have h := H.f10; simpa [doneSet] using h), (by have h := H.f11; simpa [doneSet] using h), (by have h := H.f12; simpa [doneSet] using h), (by have h := H.f13; simpa [doneSet] using h), (by have h := H.f14; simpa [doneSet] using h), (by have h := H.f15; simpa [doneSet] using h), (by have h := H.f16; simpa [doneSet] using h), (by have h := H.f17; simpa [doneSet] using h), (by have h := H.f18; simpa [doneSet] using h), (by have h := H.f19; simpa [doneSet] using h), (by have h := H.oa; simpa [doneSet] using h), (by have h := H.os; simpa [doneSet] using h), (by have h := H.ga; simpa [doneSet] using h)⟩⟩
      simp only [putAll, Act.put, List.setIfInBounds_toArray, List.set_cons_succ, List.set_cons_zero]
    · rintro d vs W ⟨v0, v1, v2, v3, v4, v5, v6, v7, v8, v9, v10, v11, v12, v13, v14, v15, v16, v17, v18, v19, v20, X, rfl, H⟩ hn hd
      simp only [putAll, Act.put, List.setIfInBounds_toArray, List.set_cons_succ, List.set_cons_zero]
      have h6 : d 6 = true := hd { on := 6, ground := .data } (by simp) rfl
      obtain rfl := H.f6 h6
      have kk := HBM.out.below H.bel HBM.out.lt
      have x0 := kk.cell 0
      have x1 := kk.cell 1
      have x2 := kk.cell 2
      have x3 := kk.cell 3
      have x4 := kk.cell 4
      simp at x0 x1 x2 x3 x4
      have HH1 : Hid _ := H
      clear H
      clear hd kk
      go_wp2
      have H := HH1.out
      refine ⟨rfl, [v0, v1, v2, v3, v4, v5, .pointer (some ⟨M, 0, none⟩), .slice (some ⟨b, off, none⟩) ls.length cap, v8, v9, v10, v11, v12, v13, v14, v15, v16, v17, v18, v19, v20], ?_, v0, v1, v2, v3, v4, v5, .pointer (some ⟨M, 0, none⟩), .slice (some ⟨b, off, none⟩) ls.length cap, v8, v9, v10, v11, v12, v13, v14, v15, v16, v17, v18, v19, v20, X, rfl, ⟨H.bel, (by have h := H.f0; simpa [doneSet] using h), (by have h := H.f1; simpa [doneSet] using h), (by have h := H.f2; simpa [doneSet] using h), (by have h := H.f3; simpa [doneSet] using h), (by have h := H.f4; simpa [doneSet] using h), (by have h := H.f5; simpa [doneSet] using h), (fun _ => rfl), (fun _ => rfl), (by have h := H.f8; simpa [doneSet] using h), (by have h := H.f9; simpa [doneSet] using h), (by have h := H.f10; simpa [doneSet] using h), (by have h := H.f11; simpa [doneSet] using h), (by have h := H.f12; simpa [doneSet] using h), (by have h := H.f13; simpa [doneSet] using h), (by have h := H.f14; simpa [doneSet] using h), (by have h := H.f15; simpa [doneSet] using h), (by have h := H.f16; simpa [doneSet] using h), (by have h := H.f17; simpa [doneSet] using h), (by have h := H.f18; simpa [doneSet] using h), (by have h := H.f19; simpa [doneSet] using h), (by have h := H.oa; simpa [doneSet] using h), (by have h := H.os; simpa [doneSet] using h), (by have h := H.ga; simpa [doneSet] using h)⟩⟩
      simp only [putAll, Act.put, List.setIfInBounds_toArray, List.set_cons_succ, List.set_cons_zero]
    · rintro d vs W ⟨v0, v1, v2, v3, v4, v5, v6, v7, v8, v9, v10, v11, v12, v13, v14, v15, v16, v17, v18, v19, v20, X, rfl, H⟩ hn hd
      simp only [putAll, Act.put, List.setIfInBounds_toArray, List.set_cons_succ, List.set_cons_zero]
      have HH1 : Hid _ := H
      clear H
      clear hd
      go_wp2
      have H := HH1.out
      refine ⟨rfl, [v0, v1, v2, v3, v4, v5, v6, v7, .pointer (some ⟨M, 0, none⟩), v9, v10, v11, v12, v13, v14, v15, v16, v17, v18, v19, v20], ?_, v0, v1, v2, v3, v4, v5, v6, v7, .pointer (some ⟨M, 0, none⟩), v9, v10, v11, v12, v13, v14, v15, v16, v17, v18, v19, v20, X, rfl, ⟨H.bel, (by have h := H.f0; simpa [doneSet] using h), (by have h := H.f1; simpa [doneSet] using h), (by have h := H.f2; simpa [doneSet] using h), (by have h := H.f3; simpa [doneSet] using h), (by have h := H.f4; simpa [doneSet] using h), (by have h := H.f5; simpa [doneSet] using h), (by have h := H.f6; simpa [doneSet] using h), (by have h := H.f7; simpa [doneSet] using h), (fun _ => rfl), (by have h := H.f9; simpa [doneSet] using h), (by have h := H.f10; simpa [doneSet] using h), (by have h := H.f11; simpa [doneSet] using h), (by have h := H.f12; simpa [doneSet] using h), (by have h := H.f13; simpa [doneSet] using h), (by have h := H.f14; simpa [doneSet] using h), (by have h := H.f15; simpa [doneSet] using h), (by have h := H.f16; simpa [doneSet] using h), (by have h := H.f17; simpa [doneSet] using h), (by have h := H.f18; simpa [doneSet] using h), (by have h := H.f19; simpa [doneSet] using h), (by have h := H.oa; simpa [doneSet] using h), (by have h := H.os; simpa [doneSet] using h), (by have h := H.ga; simpa [doneSet] using h)⟩⟩
      simp only [putAll, Act.put, List.setIfInBounds_toArray, List.set_cons_succ, List.set_cons_zero]
    · rintro d vs W ⟨v0, v1, v2, v3, v4, v5, v6, v7, v8, v9, v10, v11, v12, v13, v14, v15, v16, v17, v18, v19, v20, X, rfl, H⟩ hn hd
      simp only [putAll, Act.put, List.setIfInBounds_toArray, List.set_cons_succ, List.set_cons_zero]
      have h8 : d 8 = true := hd { on := 8, ground := .data } (by simp) rfl
      obtain rfl := H.f8 h8
      have HH1 : Hid _ := H
      clear H
      clear hd
      go_wp2
      have H := HH1.out
      refine ⟨rfl, [v0, v1, v2, v3, v4, v5, v6, v7, .pointer (some ⟨M, 0, none⟩), .pointer (some ⟨M, 0, none⟩), v10, v11, v12, v13, v14, v15, v16, v17, v18, v19, v20], ?_, v0, v1, v2, v3, v4, v5, v6, v7, .pointer (some ⟨M, 0, none⟩), .pointer (some ⟨M, 0, none⟩), v10, v11, v12, v13, v14, v15, v16, v17, v18, v19, v20, X, rfl, ⟨H.bel, (by have h := H.f0; simpa [doneSet] using h), (by have h := H.f1; simpa [doneSet] using h), (by have h := H.f2; simpa [doneSet] using h), (by have h := H.f3; simpa [doneSet] using h), (by have h := H.f4; simpa [doneSet] using h), (by have h := H.f5; simpa [doneSet] using h), (by have h := H.f6; simpa [doneSet] using h), (by have h := H.f7; simpa [doneSet] using h), (fun _ => rfl), (fun _ => rfl), (by have h := H.f10; simpa [doneSet] using h), (by have h := H.f11; simpa [doneSet] using h), (by have h := H.f12; simpa [doneSet] using h), (by have h := H.f13; simpa [doneSet] using h), (by have h := H.f14; simpa [doneSet] using h), (by have h := H.f15; simpa [doneSet] using h), (by have h := H.f16; simpa [doneSet] using h), (by have h := H.f17; simpa [doneSet] using h), (by have h := H.f18; simpa [doneSet] using h), (by have h := H.f19; simpa [doneSet] using h), (by have h := H.oa; simpa [doneSet] using h), (by have h := H.os; simpa [doneSet] using h), (by have h := H.ga; simpa [doneSet] using h)⟩⟩
      simp only [putAll, Act.put, List.setIfInBounds_toArray, List.set_cons_succ, List.set_cons_zero]
    · rintro d vs W ⟨v0, v1, v2, v3, v4, v5, v6, v7, v8, v9, v10, v11, v12, v13, v14, v15, v16, v17, v18, v19, v20, X, rfl, H⟩ hn hd
      simp only [putAll, Act.put, List.setIfInBounds_toArray, List.set_cons_succ, List.set_cons_zero]
      have h9 : d 9 = true := hd { on := 9, ground := .data } (by simp) rfl
      obtain rfl := H.f9 h9
      have HH1 : Hid _ := H
      clear H
      clear hd
      go_wp2
      have H := HH1.out
      refine ⟨rfl, [v0, v1, v2, v3, v4, v5, v6, v7, v8, .pointer (some ⟨M, 0, none⟩), .pointer (some ⟨M, 1, none⟩), v11, v12, v13, v14, v15, v16, v17, v18, v19, v20], ?_, v0, v1, v2, v3, v4, v5, v6, v7, v8, .pointer (some ⟨M, 0, none⟩), .pointer (some ⟨M, 1, none⟩), v11, v12, v13, v14, v15, v16, v17, v18, v19, v20, X, rfl, ⟨H.bel, (by have h := H.f0; simpa [doneSet] using h), (by have h := H.f1; simpa [doneSet] using h), (by have h := H.f2; simpa [doneSet] using h), (by have h := H.f3; simpa [doneSet] using h), (by have h := H.f4; simpa [doneSet] using h), (by have h := H.f5; simpa [doneSet] using h), (by have h := H.f6; simpa [doneSet] using h), (by have h := H.f7; simpa [doneSet] using h), (by have h := H.f8; simpa [doneSet] using h), (fun _ => rfl), (fun _ => rfl), (by have h := H.f11; simpa [doneSet] using h), (by have h := H.f12; simpa [doneSet] using h), (by have h := H.f13; simpa [doneSet] using h), (by have h := H.f14; simpa [doneSet] using h), (by have h := H.f15; simpa [doneSet] using h), (by have h := H.f16; simpa [doneSet] using h), (by have h := H.f17; simpa [doneSet] using h), (by have h := H.f18; simpa [doneSet] using h), (by have h := H.f19; simpa [doneSet] using h), (by have h := H.oa; simpa [doneSet] using h), (by have h := H.os; simpa [doneSet] using h), (by have h := H.ga; simpa [doneSet] using h)⟩⟩
      simp only [putAll, Act.put, List.setIfInBounds_toArray, List.set_cons_succ, List.set_cons_zero]
    · rintro d vs W ⟨v0, v1, v2, v3, v4, v5, v6, v7, v8, v9, v10, v11, v12, v13, v14, v15, v16, v17, v18, v19, v20, X, rfl, H⟩ hn hd
      simp only [putAll, Act.put, List.setIfInBounds_toArray, List.set_cons_succ, List.set_cons_zero]
      have h10 : d 10 = true := hd { on := 10, ground := .data } (by simp) rfl
      obtain rfl := H.f10 h10
      have kk := HBM.out.below H.bel HBM.out.lt
      have x0 := kk.cell 0
      have x1 := kk.cell 1
      have x2 := kk.cell 2
      have x3 := kk.cell 3
      have x4 := kk.cell 4
      simp at x0 x1 x2 x3 x4
      have HH1 : Hid _ := H
      clear H
      clear hd kk
      go_wp2
      have H := HH1.out
      refine ⟨rfl, [v0, v1, v2, v3, v4, v5, v6, v7, v8, v9, .pointer (some ⟨M, 1, none⟩), .int .i64 z, v12, v13, v14, v15, v16, v17, v18, v19, v20], ?_, v0, v1, v2, v3, v4, v5, v6, v7, v8, v9, .pointer (some ⟨M, 1, none⟩), .int .i64 z, v12, v13, v14, v15, v16, v17, v18, v19, v20, X, rfl, ⟨H.bel, (by have h := H.f0; simpa [doneSet] using h), (by have h := H.f1; simpa [doneSet] using h), (by have h := H.f2; simpa [doneSet] using h), (by have h := H.f3; simpa [doneSet] using h), (by have h := H.f4; simpa [doneSet] using h), (by have h := H.f5; simpa [doneSet] using h), (by have h := H.f6; simpa [doneSet] using h), (by have h := H.f7; simpa [doneSet] using h), (by have h := H.f8; simpa [doneSet] using h), (by have h := H.f9; simpa [doneSet] using h), (fun _ => rfl), (fun _ => rfl), (by have h := H.f12; simpa [doneSet] using h), (by have h := H.f13; simpa [doneSet] using h), (by have h := H.f14; simpa [doneSet] using h), (by have h := H.f15; simpa [doneSet] using h), (by have h := H.f16; simpa [doneSet] using h), (by have h := H.f17; simpa [doneSet] using h), (by have h := H.f18; simpa [doneSet] using h), (by have h := H.f19; simpa [doneSet] using h), (by have h := H.oa; simpa [doneSet] using h), (by have h := H.os; simpa [doneSet] using h), (by have h := H.ga; simpa [doneSet] using h)⟩⟩
      simp only [putAll, Act.put, List.setIfInBounds_toArray, List.set_cons_succ, List.set_cons_zero]
    · rintro d vs W ⟨v0, v1, v2, v3, v4, v5, v6, v7, v8, v9, v10, v11, v12, v13, v14, v15, v16, v17, v18, v19, v20, X, rfl, H⟩ hn hd
      simp only [putAll, Act.put, List.setIfInBounds_toArray, List.set_cons_succ, List.set_cons_zero]
      have HH1 : Hid _ := H
      clear H
      clear hd
      go_wp2
      have H := HH1.out
      refine ⟨rfl, [v0, v1, v2, v3, v4, v5, v6, v7, v8, v9, v10, v11, .pointer (some ⟨M, 0, none⟩), v13, v14, v15, v16, v17, v18, v19, v20], ?_, v0, v1, v2, v3, v4, v5, v6, v7, v8, v9, v10, v11, .pointer (some ⟨M, 0, none⟩), v13, v14, v15, v16, v17, v18, v19, v20, X, rfl, ⟨H.bel, (by have h := H.f0; simpa [doneSet] using h), (by have h := H.f1; simpa [doneSet] using h), (by have h := H.f2; simpa [doneSet] using h), (by have h := H.f3; simpa [doneSet] using h), (by have h := H.f4; simpa [doneSet] using h), (by have h := H.f5; simpa [doneSet] using h), (by have h := H.f6; simpa [doneSet] using h), (by have h := H.f7; simpa [doneSet] using h), (by have h := H.f8; simpa [doneSet] using h), (by have h := H.f9; simpa [doneSet] using h), (by have h := H.f10; simpa [doneSet] using h), (by have h := H.f11; simpa [doneSet] using h), (fun _ => rfl), (by have h := H.f13; simpa [doneSet] using h), (by have h := H.f14; simpa [doneSet] using h), (by have h := H.f15; simpa [doneSet] using h), (by have h := H.f16; simpa [doneSet] using h), (by have h := H.f17; simpa [doneSet] using h), (by have h := H.f18; simpa [doneSet] using h), (by have h := H.f19; simpa [doneSet] using h), (by have h := H.oa; simpa [doneSet] using h), (by have h := H.os; simpa [doneSet] using h), (by have h := H.ga; simpa [doneSet] using h)⟩⟩
      simp only [putAll, Act.put, List.setIfInBounds_toArray, List.set_cons_succ, List.set_cons_zero]
    · rintro d vs W ⟨v0, v1, v2, v3, v4, v5, v6, v7, v8, v9, v10, v11, v12, v13, v14, v15, v16, v17, v18, v19, v20, X, rfl, H⟩ hn hd
      simp only [putAll, Act.put, List.setIfInBounds_toArray, List.set_cons_succ, List.set_cons_zero]
      have h12 : d 12 = true := hd { on := 12, ground := .data } (by simp) rfl
      obtain rfl := H.f12 h12
      have HH1 : Hid _ := H
      clear H
      clear hd
      go_wp2
      have H := HH1.out
      refine ⟨rfl, [v0, v1, v2, v3, v4, v5, v6, v7, v8, v9, v10, v11, .pointer (some ⟨M, 0, none⟩), .pointer (some ⟨M, 0, none⟩), v14, v15, v16, v17, v18, v19, v20], ?_, v0, v1, v2, v3, v4, v5, v6, v7, v8, v9, v10, v11, .pointer (some ⟨M, 0, none⟩), .pointer (some ⟨M, 0, none⟩), v14, v15, v16, v17, v18, v19, v20, X, rfl, ⟨H.bel, (by have h := H.f0; simpa [doneSet] using h), (by have h := H.f1; simpa [doneSet] using h), (by have h := H.f2; simpa [doneSet] using h), (by have h := H.f3; simpa [doneSet] using h), (by have h := H.f4; simpa [doneSet] using h), (by have h := H.f5; simpa [doneSet] using h), (by have h := H.f6; simpa [doneSet] using h), (by have h := H.f7; simpa [doneSet] using h), (by have h := H.f8; simpa [doneSet] using h), (by have h := H.f9; simpa [doneSet] using h), (by have h := H.f10; simpa [doneSet] using h), (by have h := H.f11; simpa [doneSet] using h), (fun _ => rfl), (fun _ => rfl), (by have h := H.f14; simpa [doneSet] using h), (by have h := H.f15; simpa [doneSet] using h), (by have h := H.f16; simpa [doneSet] using h), (by have h := H.f17; simpa [doneSet] using h), (by have h := H.f18; simpa [doneSet] using h), (by have h := H.f19; simpa [doneSet] using h), (by have h := H.oa; simpa [doneSet] using h), (by have h := H.os; simpa [doneSet] using h), (by have h := H.ga; simpa [doneSet] using h)⟩⟩
      simp only [putAll, Act.put, List.setIfInBounds_toArray, List.set_cons_succ, List.set_cons_zero]
    · rintro d vs W ⟨v0, v1, v2, v3, v4, v5, v6, v7, v8, v9, v10, v11, v12, v13, v14, v15, v16, v17, v18, v19, v20, X, rfl, H⟩ hn hd
      simp only [putAll, Act.put, List.setIfInBounds_toArray, List.set_cons_succ, List.set_cons_zero]
      have h13 : d 13 = true := hd { on := 13, ground := .data } (by simp) rfl
      obtain rfl := H.f13 h13
      have HH1 : Hid _ := H
      clear H
      clear hd
      go_wp2
      have H := HH1.out
      refine ⟨rfl, [v0, v1, v2, v3, v4, v5, v6, v7, v8, v9, v10, v11, v12, .pointer (some ⟨M, 0, none⟩), .pointer (some ⟨M, 2, none⟩), v15, v16, v17, v18, v19, v20], ?_, v0, v1, v2, v3, v4, v5, v6, v7, v8, v9, v10, v11, v12, .pointer (some ⟨M, 0, none⟩), .pointer (some ⟨M, 2, none⟩), v15, v16, v17, v18, v19, v20, X, rfl, ⟨H.bel, (by have h := H.f0; simpa [doneSet] using h), (by have h := H.f1; simpa [doneSet] using h), (by have h := H.f2; simpa [doneSet] using h), (by have h := H.f3; simpa [doneSet] using h), (by have h := H.f4; simpa [doneSet] using h), (by have h := H.f5; simpa [doneSet] using h), (by have h := H.f6; simpa [doneSet] using h), (by have h := H.f7; simpa [doneSet] using h), (by have h := H.f8; simpa [doneSet] using h), (by have h := H.f9; simpa [doneSet] using h), (by have h := H.f10; simpa [doneSet] using h), (by have h := H.f11; simpa [doneSet] using h), (by have h := H.f12; simpa [doneSet] using h), (fun _ => rfl), (fun _ => rfl), (by have h := H.f15; simpa [doneSet] using h), (by have h := H.f16; simpa [doneSet] using h), (by have h := H.f17; simpa [doneSet] using h), (by have h := H.f18; simpa [doneSet] using h), (by have h := H.f19; simpa [doneSet] using h), (by have h := H.oa; simpa [doneSet] using h), (by have h := H.os; simpa [doneSet] using h), (by have h := H.ga; simpa [doneSet] using h)⟩⟩
      simp only [putAll, Act.put, List.setIfInBounds_toArray, List.set_cons_succ, List.set_cons_zero]
    · rintro d vs W ⟨v0, v1, v2, v3, v4, v5, v6, v7, v8, v9, v10, v11, v12, v13, v14, v15, v16, v17, v18, v19, v20, X, rfl, H⟩ hn hd
      simp only [putAll, Act.put, List.setIfInBounds_toArray, List.set_cons_succ, List.set_cons_zero]
      have h14 : d 14 = true := hd { on := 14, ground := .data } (by simp) rfl
      obtain rfl := H.f14 h14
      have kk := HBM.out.below H.bel HBM.out.lt
      have x0 := kk.cell 0
      have x1 := kk.cell 1
      have x2 := kk.cell 2
      have x3 := kk.cell 3
      have x4 := kk.cell 4
      simp at x0 x1 x2 x3 x4
      have HH1 : Hid _ := H
      clear H
      clear hd kk
      go_wp2
      have H := HH1.out
      refine ⟨rfl, [v0, v1, v2, v3, v4, v5, v6, v7, v8, v9, v10, v11, v12, v13, .pointer (some ⟨M, 2, none⟩), .int .i64 t, v16, v17, v18, v19, v20], ?_, v0, v1, v2, v3, v4, v5, v6, v7, v8, v9, v10, v11, v12, v13, .pointer (some ⟨M, 2, none⟩), .int .i64 t, v16, v17, v18, v19, v20, X, rfl, ⟨H.bel, (by have h := H.f0; simpa [doneSet] using h), (by have h := H.f1; simpa [doneSet] using h), (by have h := H.f2; simpa [doneSet] using h), (by have h := H.f3; simpa [doneSet] using h), (by have h := H.f4; simpa [doneSet] using h), (by have h := H.f5; simpa [doneSet] using h), (by have h := H.f6; simpa [doneSet] using h), (by have h := H.f7; simpa [doneSet] using h), (by have h := H.f8; simpa [doneSet] using h), (by have h := H.f9; simpa [doneSet] using h), (by have h := H.f10; simpa [doneSet] using h), (by have h := H.f11; simpa [doneSet] using h), (by have h := H.f12; simpa [doneSet] using h), (by have h := H.f13; simpa [doneSet] using h), (fun _ => rfl), (fun _ => rfl), (by have h := H.f16; simpa [doneSet] using h), (by have h := H.f17; simpa [doneSet] using h), (by have h := H.f18; simpa [doneSet] using h), (by have h := H.f19; simpa [doneSet] using h), (by have h := H.oa; simpa [doneSet] using h), (by have h := H.os; simpa [doneSet] using h), (by have h := H.ga; simpa [doneSet] using h)⟩⟩
      simp only [putAll, Act.put, List.setIfInBounds_toArray, List.set_cons_succ, List.set_cons_zero]
    · rintro d vs W ⟨v0, v1, v2, v3, v4, v5, v6, v7, v8, v9, v10, v11, v12, v13, v14, v15, v16, v17, v18, v19, v20, X, rfl, H⟩ hn hd
      simp only [putAll, Act.put, List.setIfInBounds_toArray, List.set_cons_succ, List.set_cons_zero]
      have h7 : d 7 = true := hd { on := 7, ground := .data } (by simp) rfl
      obtain rfl := H.f7 h7
      have h11 : d 11 = true := hd { on := 11, ground := .data } (by simp) rfl
      obtain rfl := H.f11 h11
      have h15 : d 15 = true := hd { on := 15, ground := .data } (by simp) rfl
      obtain rfl := H.f15 h15
      have HH1 : Hid _ := H
      clear H
      clear hd
      go_wp2_with (fail)
      refine (HHO.out W HH1.out.bel).mono ?_
      rintro x W3 ⟨rfl, hb⟩
      have H := HH1.out.below (Nat.le_refl _) hb
      have HH2 : Hid _ := H
      clear HH1 H hb
      go_wp2
      have H := HH2.out
      refine ⟨rfl, [v0, v1, v2, v3, v4, v5, v6, .slice (some ⟨b, off, none⟩) ls.length cap, v8, v9, v10, .int .i64 z, v12, v13, v14, .int .i64 t, .int .i64 (i : Int), v17, v18, v19, v20], ?_, v0, v1, v2, v3, v4, v5, v6, .slice (some ⟨b, off, none⟩) ls.length cap, v8, v9, v10, .int .i64 z, v12, v13, v14, .int .i64 t, .int .i64 (i : Int), v17, v18, v19, v20, X, rfl, ⟨H.bel, (by have h := H.f0; simpa [doneSet] using h), (by have h := H.f1; simpa [doneSet] using h), (by have h := H.f2; simpa [doneSet] using h), (by have h := H.f3; simpa [doneSet] using h), (by have h := H.f4; simpa [doneSet] using h), (by have h := H.f5; simpa [doneSet] using h), (by have h := H.f6; simpa [doneSet] using h), (fun _ => rfl), (by have h := H.f8; simpa [doneSet] using h), (by have h := H.f9; simpa [doneSet] using h), (by have h := H.f10; simpa [doneSet] using h), (fun _ => rfl), (by have h := H.f12; simpa [doneSet] using h), (by have h := H.f13; simpa [doneSet] using h), (by have h := H.f14; simpa [doneSet] using h), (fun _ => rfl), (fun _ => rfl), (by have h := H.f17; simpa [doneSet] using h), (by have h := H.f18; simpa [doneSet] using h), (by have h := H.f19; simpa [doneSet] using h), (by have h := H.oa; simpa [doneSet] using h), (by have h := H.os; simpa [doneSet] using h), (by have h := H.ga; simpa [doneSet] using h)⟩⟩
      simp only [putAll, Act.put, List.setIfInBounds_toArray, List.set_cons_succ, List.set_cons_zero]
    · rintro d vs W ⟨v0, v1, v2, v3, v4, v5, v6, v7, v8, v9, v10, v11, v12, v13, v14, v15, v16, v17, v18, v19, v20, X, rfl, H⟩ hn hd
      simp only [putAll, Act.put, List.setIfInBounds_toArray, List.set_cons_succ, List.set_cons_zero]
      have h3 : d 3 = true := hd { on := 3, ground := .data } (by simp) rfl
      obtain rfl := H.f3 h3
      have h16 : d 16 = true := hd { on := 16, ground := .data } (by simp) rfl
      obtain rfl := H.f16 h16
      have HH1 : Hid _ := H
      clear H
      clear hd
      go_wp2
      have H := HH1.out
      refine ⟨rfl, [v0, v1, v2, .slice (some ⟨b, off, none⟩) ls.length cap, v4, v5, v6, v7, v8, v9, v10, v11, v12, v13, v14, v15, .int .i64 (i : Int), .pointer (some ⟨b, off + i * 5, none⟩), v18, v19, v20], ?_, v0, v1, v2, .slice (some ⟨b, off, none⟩) ls.length cap, v4, v5, v6, v7, v8, v9, v10, v11, v12, v13, v14, v15, .int .i64 (i : Int), .pointer (some ⟨b, off + i * 5, none⟩), v18, v19, v20, X, rfl, ⟨H.bel, (by have h := H.f0; simpa [doneSet] using h), (by have h := H.f1; simpa [doneSet] using h), (by have h := H.f2; simpa [doneSet] using h), (fun _ => rfl), (by have h := H.f4; simpa [doneSet] using h), (by have h := H.f5; simpa [doneSet] using h), (by have h := H.f6; simpa [doneSet] using h), (by have h := H.f7; simpa [doneSet] using h), (by have h := H.f8; simpa [doneSet] using h), (by have h := H.f9; simpa [doneSet] using h), (by have h := H.f10; simpa [doneSet] using h), (by have h := H.f11; simpa [doneSet] using h), (by have h := H.f12; simpa [doneSet] using h), (by have h := H.f13; simpa [doneSet] using h), (by have h := H.f14; simpa [doneSet] using h), (by have h := H.f15; simpa [doneSet] using h), (fun _ => rfl), (fun _ => rfl), (by have h := H.f18; simpa [doneSet] using h), (by have h := H.f19; simpa [doneSet] using h), (by have h := H.oa; simpa [doneSet] using h), (by have h := H.os; simpa [doneSet] using h), (by have h := H.ga; simpa [doneSet] using h)⟩⟩
      simp only [putAll, Act.put, List.setIfInBounds_toArray, List.set_cons_succ, List.set_cons_zero]
    · rintro d vs W ⟨v0, v1, v2, v3, v4, v5, v6, v7, v8, v9, v10, v11, v12, v13, v14, v15, v16, v17, v18, v19, v20, X, rfl, H⟩ hn hd
      simp only [putAll, Act.put, List.setIfInBounds_toArray, List.set_cons_succ, List.set_cons_zero]
      have h17 : d 17 = true := hd { on := 17, ground := .data } (by simp) rfl
      obtain rfl := H.f17 h17
      have hcc := HRC.out W H.bel
      have e0 : W.cell? ⟨b, off + i * 5, none⟩ = some (.int .i64 r.1) := hcc 0 _ rfl
      have e1 : W.cell? ⟨b, off + i * 5 + 1, none⟩ = some (.int .i64 r.2.1) := hcc 1 _ rfl
      have e2 : W.cell? ⟨b, off + i * 5 + 2, none⟩ = some (.int .i64 r.2.2.1) := hcc 2 _ rfl
      have e3 : W.cell? ⟨b, off + i * 5 + 3, none⟩ = some (.int .i64 r.2.2.2.1) := hcc 3 _ rfl
      have e4 : W.cell? ⟨b, off + i * 5 + 4, none⟩ = some (.int .i64 r.2.2.2.2) := hcc 4 _ rfl
      clear hcc
      have HH1 : Hid _ := H
      clear H
      clear hd
      go_wp2
      have H := HH1.out
      refine ⟨rfl, [v0, v1, v2, v3, v4, v5, v6, v7, v8, v9, v10, v11, v12, v13, v14, v15, v16, .pointer (some ⟨b, off + i * 5, none⟩), .agg #[.int .i64 r.1, .int .i64 r.2.1, .int .i64 r.2.2.1, .int .i64 r.2.2.2.1, .int .i64 r.2.2.2.2], v19, v20], ?_, v0, v1, v2, v3, v4, v5, v6, v7, v8, v9, v10, v11, v12, v13, v14, v15, v16, .pointer (some ⟨b, off + i * 5, none⟩), .agg #[.int .i64 r.1, .int .i64 r.2.1, .int .i64 r.2.2.1, .int .i64 r.2.2.2.1, .int .i64 r.2.2.2.2], v19, v20, X, rfl, ⟨H.bel, (by have h := H.f0; simpa [doneSet] using h), (by have h := H.f1; simpa [doneSet] using h), (by have h := H.f2; simpa [doneSet] using h), (by have h := H.f3; simpa [doneSet] using h), (by have h := H.f4; simpa [doneSet] using h), (by have h := H.f5; simpa [doneSet] using h), (by have h := H.f6; simpa [doneSet] using h), (by have h := H.f7; simpa [doneSet] using h), (by have h := H.f8; simpa [doneSet] using h), (by have h := H.f9; simpa [doneSet] using h), (by have h := H.f10; simpa [doneSet] using h), (by have h := H.f11; simpa [doneSet] using h), (by have h := H.f12; simpa [doneSet] using h), (by have h := H.f13; simpa [doneSet] using h), (by have h := H.f14; simpa [doneSet] using h), (by have h := H.f15; simpa [doneSet] using h), (by have h := H.f16; simpa [doneSet] using h), (fun _ => rfl), (fun _ => rfl), (by have h := H.f19; simpa [doneSet] using h), (by have h := H.oa; simpa [doneSet] using h), (by have h := H.os; simpa [doneSet] using h), (by have h := H.ga; simpa [doneSet] using h)⟩⟩
      simp only [putAll, Act.put, List.setIfInBounds_toArray, List.set_cons_succ, List.set_cons_zero]
    · rintro d vs W ⟨v0, v1, v2, v3, v4, v5, v6, v7, v8, v9, v10, v11, v12, v13, v14, v15, v16, v17, v18, v19, v20, X, rfl, H⟩ hn hd
      simp only [putAll, Act.put, List.setIfInBounds_toArray, List.set_cons_succ, List.set_cons_zero]
      have HH1 : Hid _ := H
      clear H
      have HHN : Hid (d 19 = false) := hn
      clear hd hn
      go_wp2
      have H0 := HH1.out
      have hn := HHN.out
      have H := HH1.out.below (Nat.le_refl _) ((Below.refl _ W).alloc (Nat.le_refl _) (.cells #[.int .i64 0, .int .i64 0, .int .i64 0, .int .i64 0, .int .i64 0] 32))
      refine ⟨rfl, [v0, v1, v2, v3, v4, v5, v6, v7, v8, v9, v10, v11, v12, v13, v14, v15, v16, v17, v18, .pointer (some ⟨W.heap.size, 0, none⟩), v20], ?_, v0, v1, v2, v3, v4, v5, v6, v7, v8, v9, v10, v11, v12, v13, v14, v15, v16, v17, v18, .pointer (some ⟨W.heap.size, 0, none⟩), v20, W.heap.size, rfl, ⟨H.bel, (by have h := H.f0; simpa [doneSet] using h), (by have h := H.f1; simpa [doneSet] using h), (by have h := H.f2; simpa [doneSet] using h), (by have h := H.f3; simpa [doneSet] using h), (by have h := H.f4; simpa [doneSet] using h), (by have h := H.f5; simpa [doneSet] using h), (by have h := H.f6; simpa [doneSet] using h), (by have h := H.f7; simpa [doneSet] using h), (by have h := H.f8; simpa [doneSet] using h), (by have h := H.f9; simpa [doneSet] using h), (by have h := H.f10; simpa [doneSet] using h), (by have h := H.f11; simpa [doneSet] using h), (by have h := H.f12; simpa [doneSet] using h), (by have h := H.f13; simpa [doneSet] using h), (by have h := H.f14; simpa [doneSet] using h), (by have h := H.f15; simpa [doneSet] using h), (by have h := H.f16; simpa [doneSet] using h), (by have h := H.f17; simpa [doneSet] using h), (by have h := H.f18; simpa [doneSet] using h), (fun _ => rfl), (fun _ => ⟨H0.bel.size, fun _ => Blk.new _ _ _⟩), (fun e => absurd (H.ga (by simpa [doneSet] using e)) (by rw [hn]; simp)), (fun _ => by simp [doneSet])⟩⟩
      simp only [putAll, Act.put, List.setIfInBounds_toArray, List.set_cons_succ, List.set_cons_zero]
    · rintro d vs W ⟨v0, v1, v2, v3, v4, v5, v6, v7, v8, v9, v10, v11, v12, v13, v14, v15, v16, v17, v18, v19, v20, X, rfl, H⟩ hn hd
      simp only [putAll, Act.put, List.setIfInBounds_toArray, List.set_cons_succ, List.set_cons_zero]
      have h19 : d 19 = true := hd { on := 19, ground := .data } (by simp) rfl
      have h18 : d 18 = true := hd { on := 18, ground := .data } (by simp) rfl
      obtain rfl := H.f19 h19
      obtain rfl := H.f18 h18
      obtain ⟨hCX, hb⟩ := H.oa h19
      have hb := hb hn
      have e0 := hb.cell 0
      have u0 := hb.frozen 0
      have e1 := hb.cell 1
      have u1 := hb.frozen 1
      have e2 := hb.cell 2
      have u2 := hb.frozen 2
      have e3 := hb.cell 3
      have u3 := hb.frozen 3
      have e4 := hb.cell 4
      have u4 := hb.frozen 4
      simp at e0 e1 e2 e3 e4
      have HBX2 : Hid (wr.heap.size ≤ X ∧ Blk W X #[.int .i64 0, .int .i64 0, .int .i64 0, .int .i64 0, .int .i64 0] 32) := ⟨hCX, hb⟩
      have HH1 : Hid _ := H
      clear H
      clear hd hn hCX hb
      go_wp2
      have H := HH1.out
      obtain ⟨hCX, hb⟩ := HBX2.out
      have gf : W.grownBy (((((W.setCell ⟨X, 0, none⟩ (.int .i64 r.1)).setCell ⟨X, 1, none⟩ (.int .i64 r.2.1)).setCell ⟨X, 2, none⟩ (.int .i64 r.2.2.1)).setCell ⟨X, 3, none⟩ (.int .i64 r.2.2.2.1)).setCell ⟨X, 4, none⟩ (.int .i64 r.2.2.2.2)) (some X) := grown_trans (grown_trans (grown_trans (grown_trans (grown_set' _ _ _ _) (grown_set' _ _ _ _)) (grown_set' _ _ _ _)) (grown_set' _ _ _ _)) (grown_set' _ _ _ _)
      refine ⟨rfl, [v0, v1, v2, v3, v4, v5, v6, v7, v8, v9, v10, v11, v12, v13, v14, v15, v16, v17, .agg #[.int .i64 r.1, .int .i64 r.2.1, .int .i64 r.2.2.1, .int .i64 r.2.2.2.1, .int .i64 r.2.2.2.2], .pointer (some ⟨X, 0, none⟩), undef], ?_, v0, v1, v2, v3, v4, v5, v6, v7, v8, v9, v10, v11, v12, v13, v14, v15, v16, v17, .agg #[.int .i64 r.1, .int .i64 r.2.1, .int .i64 r.2.2.1, .int .i64 r.2.2.2.1, .int .i64 r.2.2.2.2], .pointer (some ⟨X, 0, none⟩), undef, X, rfl, ⟨(H.bel.trans (grown_below gf H.bel.size (fun _ e => by cases e; exact hCX))), (by have h := H.f0; simpa [doneSet] using h), (by have h := H.f1; simpa [doneSet] using h), (by have h := H.f2; simpa [doneSet] using h), (by have h := H.f3; simpa [doneSet] using h), (by have h := H.f4; simpa [doneSet] using h), (by have h := H.f5; simpa [doneSet] using h), (by have h := H.f6; simpa [doneSet] using h), (by have h := H.f7; simpa [doneSet] using h), (by have h := H.f8; simpa [doneSet] using h), (by have h := H.f9; simpa [doneSet] using h), (by have h := H.f10; simpa [doneSet] using h), (by have h := H.f11; simpa [doneSet] using h), (by have h := H.f12; simpa [doneSet] using h), (by have h := H.f13; simpa [doneSet] using h), (by have h := H.f14; simpa [doneSet] using h), (by have h := H.f15; simpa [doneSet] using h), (by have h := H.f16; simpa [doneSet] using h), (by have h := H.f17; simpa [doneSet] using h), (fun _ => rfl), (fun _ => rfl), (fun _ => ⟨hCX, fun e => by simp [doneSet] at e⟩), (fun _ => ((((hb.set 0 _).set 1 _).set 2 _).set 3 _).set 4 _), (fun _ => by simpa [doneSet] using h19)⟩⟩
      simp only [putAll, Act.put, List.setIfInBounds_toArray, List.set_cons_succ, List.set_cons_zero]
    rintro d vs W3 ⟨v0, v1, v2, v3, v4, v5, v6, v7, v8, v9, v10, v11, v12, v13, v14, v15, v16, v17, v18, v19, v20, X, rfl, H⟩ hn
    obtain rfl := H.f19 (hn 19 (by decide))
    have hbel := H.bel
    have hX := H.os (hn 20 (by decide))
    have hCX := (H.oa (hn 19 (by decide))).1
    have HK3 : Hid (Blk W3 M #[.slice (some ⟨b, off, none⟩) ls.length cap, .int .i64 z, .int .i64 t, .int .i64 s, .int .i64 c] 71) := hK.out.below hbel hK.out.lt
    have HX3 : Hid (Blk W3 X #[.int .i64 r.1, .int .i64 r.2.1, .int .i64 r.2.2.1, .int .i64 r.2.2.2.1, .int .i64 r.2.2.2.2] 32) := hX
    have HF3 : Hid (Fr (fun k => k = M) w W3) := hfr.out.trans (Fr.ofBelow hbel)
    have HMX : Hid (M ≠ X) := by have := hK.out.lt; show M ≠ X; omega
    have HMB : Hid (M < w.heap.size ∨ True) := .inr trivial
    simp only [putAll, Act.put, List.setIfInBounds_toArray, List.set_cons_succ, List.set_cons_zero]
    clear H hn hbel hX hCX HBM HHO HRC x0 x1 x2 x3 x4 hge'
    have hra := tfA_bd HOK.out.1 HOK.out.2 t
    rw [HTA.out] at hra
    have hm1 := hmt.out.s0
    have hm2 := hmt.out.st
    have hm3 := hmt.out.c0
    have hm4 := hmt.out.cs
    have HN : Hid (MtOk t0 (t + r.2.2.1) (s + 1) (c + r.2.2.2.1)) := by have := hmt.out.step HOK.out.1 HOK.out.2; rw [HTA.out] at this; exact this
    have hw1 : -9223372036854775808 ≤ c + r.2.2.2.1 ∧ c + r.2.2.2.1 ≤ 9223372036854775807 := by have := HE.out; have := HT.out; omega
    have hw2 : -9223372036854775808 ≤ s + 1 ∧ s + 1 ≤ 9223372036854775807 := by have := HE.out; have := HT.out; omega
    have hw3 : -9223372036854775808 ≤ t + r.2.2.1 ∧ t + r.2.2.1 ≤ 9223372036854775807 := by have := HE.out; have := HT.out; omega
    have HTE : Hid (t + r.2.2.1 ≤ e + 10000) := by have := HT.out; show t + r.2.2.1 ≤ e + 10000; omega
    clear hra hm1 hm2 hm3 hm4
    have z4 : ∀ W : Ov W3, W.wd.cell? ⟨M, 4, none⟩ = some (.int .i64 c) := ov_cell (HK3.out.cell 4)
    have y3 : ∀ W : Ov W3, W.wd.cell? ⟨X, 3, none⟩ = some (.int .i64 r.2.2.2.1) := ov_cell (HX3.out.cell 3)
    have ne1 : Nonempty (Ov W3) := ⟨⟨_, Below.refl _ _⟩⟩
    by_cases hov : r0 < c + r.2.2.2.1
    · have hov' : decide (r0 < c + r.2.2.2.1) = true := by simpa using hov
      have HR : Hid (cN ls z e r0 F t0 s0 c0 = (t, s, c)) := by show _ = _; rw [hcn.out]; exact cN_stop _ _ _ _ _ _ _ _ (.inr (by rw [HTA.out]; exact hov))
      clear hov
      go_wp2
      refine region_over (by kernel_rfl) (by kernel_rfl) ?_
      repeat (go_big_quiet_step (fail))
      refine wpQuiet_nil ?_
      rintro _ ⟨V, rfl⟩
      go_wp2
      refine bodyPost_ret (results_none rfl _ _ _) rfl ?_
      exact ⟨rfl, by rw [HR.out]; exact ⟨HK3.out.below V.ok HK3.out.lt, HF3.out.trans (Fr.ofBelow V.ok)⟩⟩
    have hov' : decide (r0 < c + r.2.2.2.1) = false := by simpa using hov
    have HCN : Hid (cN ls z e r0 F t0 s0 c0 = cN ls z e r0 (F - (j + 1)) (t + r.2.2.1) (s + 1) (c + r.2.2.2.1)) := by
      show _ = _
      rw [hcn.out, show F - j = (F - (j + 1)) + 1 by omega, cN_step _ _ _ _ _ _ _ _ (by rw [HTA.out]; have := HT.out.2.2; omega), HTA.out]
    clear hov
    go_wp2
    refine region_over (by kernel_rfl) (by kernel_rfl) ?_
    repeat (go_big_quiet_step (fail))
    refine wpQuiet_nil ?_
    rintro _ ⟨V, rfl⟩
    obtain ⟨V4, hV4⟩ : ∃ V4, V.wd = V4 := ⟨_, rfl⟩
    have hVo := V.ok
    rw [hV4] at hVo ⊢
    have HK4 : Hid (Blk V4 M #[.slice (some ⟨b, off, none⟩) ls.length cap, .int .i64 z, .int .i64 t, .int .i64 s, .int .i64 c] 71) := HK3.out.below hVo HK3.out.lt
    have HX4 : Hid (Blk V4 X #[.int .i64 r.1, .int .i64 r.2.1, .int .i64 r.2.2.1, .int .i64 r.2.2.2.1, .int .i64 r.2.2.2.2] 32) := HX3.out.below hVo HX3.out.lt
    have HF4 : Hid (Fr (fun k => k = M) w V4) := HF3.out.trans (Fr.ofBelow hVo)
    clear hV4 hVo z4 y3 ne1 hov' HK3 HX3 HF3
    obtain ⟨V5, hV5⟩ : ∃ V5, V4.setCell ⟨M, 3, none⟩ (.int .i64 (s + 1)) = V5 := ⟨_, rfl⟩
    have HV5 : Hid (V4.setCell ⟨M, 3, none⟩ (.int .i64 (s + 1)) = V5) := hV5
    have HK5 : Hid (Blk V5 M #[.slice (some ⟨b, off, none⟩) ls.length cap, .int .i64 z, .int .i64 t, .int .i64 (s + 1), .int .i64 c] 71) := hV5 ▸ HK4.out.set 3 _
    have HX5 : Hid (Blk V5 X #[.int .i64 r.1, .int .i64 r.2.1, .int .i64 r.2.2.1, .int .i64 r.2.2.2.1, .int .i64 r.2.2.2.2] 32) := hV5 ▸ HX4.out.other _ _ (Ne.symm HMX.out)
    have HF5 : Hid (Fr (fun k => k = M) w V5) := HF4.out.trans (hV5 ▸ Fr.ofGrown (grown_set' _ _ _ _) (fun _ e => by cases e; rfl))
    have g3 := HK4.out.cell 3
    have gf3 := HK4.out.frozen 3
    simp at g3
    clear hV5
    go_wp2
    rw [HV5.out]
    clear g3 gf3
    obtain ⟨V6, hV6⟩ : ∃ V6, (V5.setCell ⟨M, 4, none⟩ (.int .i64 (c + r.2.2.2.1))).drew = V6 := ⟨_, rfl⟩
    have HV6 : Hid ((V5.setCell ⟨M, 4, none⟩ (.int .i64 (c + r.2.2.2.1))).drew = V6) := hV6
    have HK6 : Hid (Blk V6 M #[.slice (some ⟨b, off, none⟩) ls.length cap, .int .i64 z, .int .i64 t, .int .i64 (s + 1), .int .i64 (c + r.2.2.2.1)] 71) := hV6 ▸ (HK5.out.set 4 _).drew
    have HX6 : Hid (Blk V6 X #[.int .i64 r.1, .int .i64 r.2.1, .int .i64 r.2.2.1, .int .i64 r.2.2.2.1, .int .i64 r.2.2.2.2] 32) := hV6 ▸ (HX5.out.other _ _ (Ne.symm HMX.out)).drew
    have HF6 : Hid (Fr (fun k => k = M) w V6) := HF5.out.trans (hV6 ▸ (Fr.ofGrown (grown_set' _ _ _ _) (fun _ e => by cases e; rfl)).trans (Fr.ofBelow (Below.refl _ _).drew))
    clear hV6
    have g0 : V5.drew.cell? ⟨M, 4, none⟩ = some (.int .i64 c) := HK5.out.drew.cell 4
    have gf0 : V5.drew.frozen? ⟨M, 4, none⟩ = false := HK5.out.drew.frozen 4
    have g1 : V5.drew.cell? ⟨X, 3, none⟩ = some (.int .i64 r.2.2.2.1) := HX5.out.drew.cell 3
    refine region_det [.pointer (some ⟨M, 0, none⟩), .pointer (some ⟨M, 0, none⟩), .pointer (some ⟨M, 3, none⟩), .pointer (some ⟨M, 4, none⟩), .int .i64 c, .pointer (some ⟨X, 3, none⟩), .int .i64 r.2.2.2.1, .int .i64 (c + r.2.2.2.1), .pointer (some ⟨M, 0, none⟩), .pointer (some ⟨M, 3, none⟩), .pointer (some ⟨M, 4, none⟩), undef] (DsS V5.drew V6 4 6 7 11) (by kernel_rfl) (by kernel_rfl)
      (by simp only [putAll, Act.put, List.setIfInBounds_toArray, List.set_cons_succ, List.set_cons_zero]; exact rfl) (DsS.begin _ _ _ _ _ _) ⟨?_, ?_, ?_, ?_, ?_, ?_, ?_, ?_, ?_, ?_, ?_, ?_, trivial⟩ ?_
    · rintro d W H hn hd
      have HH1 : Hid (DsS V5.drew V6 4 6 7 11 (doneSet d 0) W) := H.other 0 (by decide) (fun h => by cases h)
      clear H hn hd
      go_wp2
      exact ⟨rfl, rfl, HH1.out⟩
    · rintro d W H hn hd
      have HH1 : Hid (DsS V5.drew V6 4 6 7 11 (doneSet d 1) W) := H.other 1 (by decide) (fun h => by cases h)
      clear H hn hd
      go_wp2
      exact ⟨rfl, rfl, HH1.out⟩
    · rintro d W H hn hd
      have HH1 : Hid (DsS V5.drew V6 4 6 7 11 (doneSet d 2) W) := H.other 2 (by decide) (fun h => by cases h)
      clear H hn hd
      go_wp2
      exact ⟨rfl, rfl, HH1.out⟩
    · rintro d W H hn hd
      have HH1 : Hid (DsS V5.drew V6 4 6 7 11 (doneSet d 3) W) := H.other 3 (by decide) (fun h => by cases h)
      clear H hn hd
      go_wp2
      exact ⟨rfl, rfl, HH1.out⟩
    · rintro d W H hn hd
      have HH1 : Hid (DsS V5.drew V6 4 6 7 11 (doneSet d 4) W) := H.other 4 (by decide) (fun h => by cases h)
      obtain rfl := H.ld1 hn
      clear H hn hd
      go_wp2
      exact ⟨rfl, rfl, HH1.out⟩
    · rintro d W H hn hd
      have HH1 : Hid (DsS V5.drew V6 4 6 7 11 (doneSet d 5) W) := H.other 5 (by decide) (fun h => by cases h)
      clear H hn hd
      go_wp2
      exact ⟨rfl, rfl, HH1.out⟩
    · rintro d W H hn hd
      have HH1 : Hid (DsS V5.drew V6 4 6 7 11 (doneSet d 6) W) := H.other 6 (by decide) (fun h => by cases h)
      obtain rfl := H.ld2 hn
      clear H hn hd
      go_wp2
      exact ⟨rfl, rfl, HH1.out⟩
    · rintro d W H hn hd
      have hA : d 4 = true ∧ d 6 = true := ⟨hd { on := 4, ground := .data } (by simp) rfl, hd { on := 6, ground := .data } (by simp) rfl⟩
      have HH1 : Hid (DsS V5.drew V6 4 6 7 11 (doneSet d 7) W) := H.other 7 (by decide) (fun _ => hA)
      clear H hn hd hA
      go_wp2
      exact ⟨rfl, rfl, HH1.out⟩
    · rintro d W H hn hd
      have HH1 : Hid (DsS V5.drew V6 4 6 7 11 (doneSet d 8) W) := H.other 8 (by decide) (fun h => by cases h)
      clear H hn hd
      go_wp2
      exact ⟨rfl, rfl, HH1.out⟩
    · rintro d W H hn hd
      have HH1 : Hid (DsS V5.drew V6 4 6 7 11 (doneSet d 9) W) := H.other 9 (by decide) (fun h => by cases h)
      clear H hn hd
      go_wp2
      exact ⟨rfl, rfl, HH1.out⟩
    · rintro d W H hn hd
      have HH1 : Hid (DsS V5.drew V6 4 6 7 11 (doneSet d 10) W) := H.other 10 (by decide) (fun h => by cases h)
      clear H hn hd
      go_wp2
      exact ⟨rfl, rfl, HH1.out⟩
    · rintro d W H hn hd
      have hA : d 7 = true := hd { on := 7, ground := .data } (by simp) rfl
      have HH1 : Hid (DsS V5.drew V6 4 6 7 11 (doneSet d 11) V6) := H.store (by decide) hA
      obtain rfl := H.1 hn
      clear H hn hd hA
      go_wp2
      first | rw [HV6.out] | skip
      exact ⟨rfl, rfl, HH1.out⟩
    rintro d W H hn
    rw [H.2.1 (hn 11 (by decide))]
    clear H hn g0 gf0 g1
    go_wp2
    obtain ⟨V7, hV7⟩ : ∃ V7, (V6.setCell ⟨M, 2, none⟩ (.int .i64 (t + r.2.2.1))).drew = V7 := ⟨_, rfl⟩
    have HV7 : Hid ((V6.setCell ⟨M, 2, none⟩ (.int .i64 (t + r.2.2.1))).drew = V7) := hV7
    have HK7 : Hid (Blk V7 M #[.slice (some ⟨b, off, none⟩) ls.length cap, .int .i64 z, .int .i64 (t + r.2.2.1), .int .i64 (s + 1), .int .i64 (c + r.2.2.2.1)] 71) := hV7 ▸ (HK6.out.set 2 _).drew
    have HF7 : Hid (Fr (fun k => k = M) w V7) := HF6.out.trans (hV7 ▸ (Fr.ofGrown (grown_set' _ _ _ _) (fun _ e => by cases e; rfl)).trans (Fr.ofBelow (Below.refl _ _).drew))
    clear hV7
    have g0 : V6.drew.cell? ⟨M, 2, none⟩ = some (.int .i64 t) := HK6.out.drew.cell 2
    have gf0 : V6.drew.frozen? ⟨M, 2, none⟩ = false := HK6.out.drew.frozen 2
    have g1 : V6.drew.cell? ⟨X, 2, none⟩ = some (.int .i64 r.2.2.1) := HX6.out.drew.cell 2
    refine region_det [.pointer (some ⟨M, 0, none⟩), .pointer (some ⟨M, 0, none⟩), .pointer (some ⟨M, 2, none⟩), .int .i64 t, .pointer (some ⟨X, 2, none⟩), .int .i64 r.2.2.1, .int .i64 (t + r.2.2.1), .pointer (some ⟨M, 0, none⟩), .pointer (some ⟨M, 2, none⟩), undef] (DsS V6.drew V7 3 5 6 9) (by kernel_rfl) (by kernel_rfl)
      (by simp only [putAll, Act.put, List.setIfInBounds_toArray, List.set_cons_succ, List.set_cons_zero]; exact rfl) (DsS.begin _ _ _ _ _ _) ⟨?_, ?_, ?_, ?_, ?_, ?_, ?_, ?_, ?_, ?_, trivial⟩ ?_
    · rintro d W H hn hd
      have HH1 : Hid (DsS V6.drew V7 3 5 6 9 (doneSet d 0) W) := H.other 0 (by decide) (fun h => by cases h)
      clear H hn hd
      go_wp2
      exact ⟨rfl, rfl, HH1.out⟩
    · rintro d W H hn hd
      have HH1 : Hid (DsS V6.drew V7 3 5 6 9 (doneSet d 1) W) := H.other 1 (by decide) (fun h => by cases h)
      clear H hn hd
      go_wp2
      exact ⟨rfl, rfl, HH1.out⟩
    · rintro d W H hn hd
      have HH1 : Hid (DsS V6.drew V7 3 5 6 9 (doneSet d 2) W) := H.other 2 (by decide) (fun h => by cases h)
      clear H hn hd
      go_wp2
      exact ⟨rfl, rfl, HH1.out⟩
    · rintro d W H hn hd
      have HH1 : Hid (DsS V6.drew V7 3 5 6 9 (doneSet d 3) W) := H.other 3 (by decide) (fun h => by cases h)
      obtain rfl := H.ld1 hn
      clear H hn hd
      go_wp2
      exact ⟨rfl, rfl, HH1.out⟩
    · rintro d W H hn hd
      have HH1 : Hid (DsS V6.drew V7 3 5 6 9 (doneSet d 4) W) := H.other 4 (by decide) (fun h => by cases h)
      clear H hn hd
      go_wp2
      exact ⟨rfl, rfl, HH1.out⟩
    · rintro d W H hn hd
      have HH1 : Hid (DsS V6.drew V7 3 5 6 9 (doneSet d 5) W) := H.other 5 (by decide) (fun h => by cases h)
      obtain rfl := H.ld2 hn
      clear H hn hd
      go_wp2
      exact ⟨rfl, rfl, HH1.out⟩
    · rintro d W H hn hd
      have hA : d 3 = true ∧ d 5 = true := ⟨hd { on := 3, ground := .data } (by simp) rfl, hd { on := 5, ground := .data } (by simp) rfl⟩
      have HH1 : Hid (DsS V6.drew V7 3 5 6 9 (doneSet d 6) W) := H.other 6 (by decide) (fun _ => hA)
      clear H hn hd hA
      go_wp2
      exact ⟨rfl, rfl, HH1.out⟩
    · rintro d W H hn hd
      have HH1 : Hid (DsS V6.drew V7 3 5 6 9 (doneSet d 7) W) := H.other 7 (by decide) (fun h => by cases h)
      clear H hn hd
      go_wp2
      exact ⟨rfl, rfl, HH1.out⟩
    · rintro d W H hn hd
      have HH1 : Hid (DsS V6.drew V7 3 5 6 9 (doneSet d 8) W) := H.other 8 (by decide) (fun h => by cases h)
      clear H hn hd
      go_wp2
      exact ⟨rfl, rfl, HH1.out⟩
    · rintro d W H hn hd
      have hA : d 6 = true := hd { on := 6, ground := .data } (by simp) rfl
      have HH1 : Hid (DsS V6.drew V7 3 5 6 9 (doneSet d 9) V7) := H.store (by decide) hA
      obtain rfl := H.1 hn
      clear H hn hd hA
      go_wp2
      first | rw [HV7.out] | skip
      exact ⟨rfl, rfl, HH1.out⟩
    rintro d W H hn
    rw [H.2.1 (hn 9 (by decide))]
    clear H hn g0 gf0 g1
    go_wp2
    go_roundw
    case rel => exact ⟨j + 1, t + r.2.2.1, s + 1, c + r.2.2.2.1, by omega, by go_num, HK7.out, HF7.out, HCN.out, HN.out, HTE.out⟩
    case measure => simp [intOf]; omega
end Go.Proofs.Ytdnophdldpophaa
