/- The model's chain of moves; no condition. -/
import Derived.Test.YtikhfeafbckjlaaDoorFChn
import Derived.Test.YtikhfeafbckjlaaDoorFMv
namespace Go.Proofs.YtikhfeafbckjlaaDoor
open Go.RowKit Go.ChangeShapes Go.WideShapes Go.ChangeAt
set_option linter.unusedVariables false
set_option linter.unusedSimpArgs false
set_option maxRecDepth 8000
/-- what the chain's function answers -/
def ChR (p : Int) (ps : Tri) (h t : Int) (o : Bool) (c0 : Int) (w : World) (e : Ending) (w' : World) : Prop :=
  ∃ (v' : Value) (K : Nat), e = .returned v' ∧ stt p ps h t o c0 K < 0 ∧ (∀ i, i < K → 0 ≤ stt p ps h t o c0 i) ∧ Op mf mg 74 w.heap.size w' v' (mvL p ps h t o c0 K) ∧ Below w.heap.size w w'
def slen : Value → Nat
  | .slice _ n _ => n
  | _ => 0
theorem par_not (k : Nat) (o : Bool) : par (k + 1) o (!o) = !(par k o (!o)) := by
  rw [par_succ]; unfold par; split <;> simp
theorem own_form2 {e : TypeId} {base : Nat} {w : World} {v : Value} {l : Mvs} (h : Op mf mg e base w v l) : ∃ a c, v = .slice a l.length c ∧ l.length ≤ c ∧ c ≤ maxLen := by
  obtain ⟨a, c, h1, h2, h3, -⟩ := h.rd
  exact ⟨a, c, h1, h2, h3⟩
set_option maxHeartbeats 6400000 in
theorem l3Chain_c (s p m : Int) (v : Value) (ps : Tri) (c0 h t : Int) (o : Bool) (w : World) (hr : Rt w v ps) (hR : InR ps) (hp1 : 1 ≤ p) (hp4 : p ≤ 4) (H : ChOk p ps h t o c0) (hlen : ps.length ≤ 100000) :
   Calls Tryd.prog 48 #[.agg (F4 s p m v), .int .i64 c0, .int .i64 h, .int .i64 t, .bool o] w (ChR p ps h t o c0 w) := by
  obtain ⟨a, cap, rfl, h1, h2, h3⟩ := id hr
  unfold maxLen at h2
  have HH : Hid (ChOk p ps h t o c0) := H
  have HR : Hid (InR ps) := hR
  have HRt : Hid (Rt w (.slice a ps.length cap) ps) := hr
  have hp0 : p ≠ 0 := by omega
  have bb : Below w.heap.size w (w.alloc (Obj.cells (F4 s p m (.slice a ps.length cap)) 26)) := (Below.refl _ _).alloc (Nat.le_refl _) _
  have hbx : Blk (w.alloc (Obj.cells (F4 s p m (.slice a ps.length cap)) 26)) w.heap.size (F4 s p m (.slice a ps.length cap)) 26 := Blk.new _ _ _
  obtain ⟨W0, hW0⟩ : ∃ W0, (w.alloc (Obj.cells (F4 s p m (.slice a ps.length cap)) 26)).alloc (Obj.cells #[] 74) = W0 := ⟨_, rfl⟩
  have ba : Below (w.alloc (Obj.cells (F4 s p m (.slice a ps.length cap)) 26)).heap.size (w.alloc (Obj.cells (F4 s p m (.slice a ps.length cap)) 26)) W0 := hW0 ▸ (Below.refl _ _).alloc (Nat.le_refl _) _
  have HB0 : Hid (Blk W0 w.heap.size (F4 s p m (.slice a ps.length cap)) 26 ∧ Below w.heap.size w W0) := ⟨hbx.below ba hbx.lt, belowCall bb ba bb.size⟩
  have esz : (w.alloc (Obj.cells (F4 s p m (.slice a ps.length cap)) 26)).heap.size = w.heap.size + 1 := by simp
  have HO0 : Hid (Op mf mg 74 (w.heap.size + 1) W0 (.slice (some ⟨w.heap.size + 1, 0, none⟩) 0 0) (mvL p ps h t o c0 0)) := by
    have := World.ownsRow_lit (w.alloc (Obj.cells (F4 s p m (.slice a ps.length cap)) 26)) (base := w.heap.size + 1) (e := 74) (size := 2) #[] 0 (by simp) (by simp [maxLen]) (by simp)
    rw [hW0, esz] at this
    exact this
  have HW0 : Hid ((w.alloc (Obj.cells (F4 s p m (.slice a ps.length cap)) 26)).alloc (Obj.cells #[] 74) = W0) := hW0
  clear hr hR H bb hbx ba hW0 esz
  go_enter Tryd.func48, Tryd.ntmps48
  go_wp2
  rw [HW0.out]
  go_loopw [1, 2, 3, 4, 11] (fun c hh tt oo mv wr => ∃ k : Nat, c = .int .i64 (stt p ps h t o c0 k) ∧ hh = .int .i64 (par k h t) ∧ tt = .int .i64 (par k t h) ∧ oo = .bool (par k o (!o)) ∧ Hid (∀ i, i < k → 0 ≤ stt p ps h t o c0 i) ∧ Hid (Blk wr w.heap.size (F4 s p m (.slice a ps.length cap)) 26 ∧ Below w.heap.size w wr) ∧ Hid (Op mf mg 74 (w.heap.size + 1) wr mv (mvL p ps h t o c0 k))) (fun _ _ _ _ mv _ => ps.length + 1 - slen mv)
  case atStart => exact ⟨0, rfl, rfl, rfl, rfl, fun i hi => by omega, HB0.out, HO0.out⟩
  case round =>
    obtain ⟨k, rfl, rfl, rfl, rfl, HA, HBk, HOk⟩ := hrel
    clear HB0 HO0 HW0
    obtain ⟨av, cv, hv, l1, l2⟩ := own_form2 HOk.out
    rw [mvL_len] at hv l1
    subst hv
    unfold maxLen at l2
    obtain ⟨c, hc⟩ : ∃ c, stt p ps h t o c0 k = c := ⟨_, rfl⟩
    have HC : Hid (stt p ps h t o c0 k = c) := hc
    rw [hc]
    by_cases hneg : c < 0
    case pos =>
      have hge : ¬ (0 ≤ c) := by omega
      have hfin : ChR p ps h t o c0 w (.returned (.slice av k cv)) wr := ⟨_, k, rfl, by rw [hc]; exact hneg, HA.out, HOk.out.mono (by omega), HBk.out.2⟩
      have HF : Hid (ChR p ps h t o c0 w (.returned (.slice av k cv)) wr) := hfin
      clear hc hfin
      go_wp2
      go_ret
      exact HF.out
    case neg =>
    have hpos : 0 ≤ stt p ps h t o c0 k := by omega
    obtain ⟨i1, i2⟩ := stt_in HH.out k hpos
    have hkb := stt_bound HH.out k hpos
    rw [hc] at i1
    obtain ⟨j, rfl⟩ := Int.eq_ofNat_of_zero_le (show 0 ≤ c by omega)
    have hj : j < ps.length := by simpa using i1
    rcases h3 with h3 | ⟨b, off, rfl, h4⟩
    · subst h3; simp at hj
    have hcj := h4 j hj
    have hcb : b < w.heap.size := block_lt_of_cell hcj.1
    obtain ⟨x, ex⟩ : ∃ x, ps[j].1 = x := ⟨_, rfl⟩
    obtain ⟨y, ey⟩ : ∃ y, ps[j].2.1 = y := ⟨_, rfl⟩
    obtain ⟨z, ez⟩ : ∃ z, ps[j].2.2 = z := ⟨_, rfl⟩
    have HX : Hid (pAt ps (j : Int) = (x, y, z)) := by
      show pAt ps (j : Int) = (x, y, z)
      rw [pAt_eq (by simpa using hj), ← ex, ← ey, ← ez]; rfl
    have hrr := HR.out ps[j] (List.getElem_mem hj)
    rw [ex, ey] at hrr
    obtain ⟨⟨x1, x2⟩, ⟨y1, y2⟩⟩ := hrr
    rw [ex, ey, ez] at hcj
    have d0 := (HBk.out.2.cell (p := ⟨b, off + j * 3, none⟩) hcb).trans hcj.1
    have d1 := (HBk.out.2.cell (p := ⟨b, off + j * 3 + 1, none⟩) hcb).trans hcj.2.1
    have d2 := (HBk.out.2.cell (p := ⟨b, off + j * 3 + 2, none⟩) hcb).trans hcj.2.2
    have k1 := HBk.out.1.cell 1
    have k3 := HBk.out.1.cell 3
    simp at k1 k3
    have hws : w.heap.size < wr.heap.size := HBk.out.1.lt
    have hbw : b < wr.heap.size := by omega
    have hjl : (j : Int) < (ps.length : Int) := by omega
    have hj0 : (0 : Int) ≤ (j : Int) := by omega
    obtain ⟨th, hth⟩ : ∃ th, par k t h = th := ⟨_, rfl⟩
    obtain ⟨hh, hhh⟩ : ∃ hh, par k h t = hh := ⟨_, rfl⟩
    have HTH : Hid (par k t h = th ∧ par k h t = hh) := ⟨hth, hhh⟩
    rw [hth, hhh]
    obtain ⟨W1, hW1⟩ : ∃ W1, (wr.alloc (Obj.cells #[.int .i64 x, .int .i64 y, .int .i64 z] 35)).alloc (Obj.cells #[.int .i64 x, .int .i64 th] 74) = W1 := ⟨_, rfl⟩
    have b1 : Below wr.heap.size wr W1 := hW1 ▸ ((Below.refl _ _).alloc (Nat.le_refl _) _).alloc (by simp) _
    have kp : Blk W1 wr.heap.size #[.int .i64 x, .int .i64 y, .int .i64 z] 35 := hW1 ▸ (Blk.new _ _ _).below ((Below.refl _ _).alloc (Nat.le_refl _) _) (by simp)
    have km : Blk W1 (wr.heap.size + 1) #[.int .i64 x, .int .i64 th] 74 := hW1 ▸ Blk.newAt _ (wr.heap.size + 1) _ 74 (by simp)
    have HRL : Hid (Rp mf mg W1 (.slice (some ⟨wr.heap.size + 1, 0, none⟩) 1 1) [(x, th)]) := by
      refine ⟨_, 1, rfl, by simp, by simp [maxLen], .inr ⟨_, 0, rfl, fun i hi => ?_⟩⟩
      obtain rfl : i = 0 := Nat.lt_one_iff.1 hi
      exact ⟨km.cell 0, km.cell 1⟩
    have HO1 : Hid (Op mf mg 74 (w.heap.size + 1) W1 (.slice av k cv) (mvL p ps h t o c0 k)) := HOk.out.below b1
    have HB1 : Hid (Blk W1 w.heap.size (F4 s p m (.slice (some ⟨b, off, none⟩) ps.length cap)) 26 ∧ Below w.heap.size w W1) := ⟨HBk.out.1.below b1 HBk.out.1.lt, belowCall HBk.out.2 b1 HBk.out.2.size⟩
    have HKP : Hid (Blk W1 wr.heap.size #[.int .i64 x, .int .i64 y, .int .i64 z] 35) := kp
    have HOW : Hid (∀ q, (Value.slice av k cv).ownBlock = some q → w.heap.size + 1 ≤ q ∧ q < wr.heap.size) := fun q e => World.ownsRow.lt HOk.out q e
    have HW1 : Hid ((wr.alloc (Obj.cells #[.int .i64 x, .int .i64 y, .int .i64 z] 35)).alloc (Obj.cells #[.int .i64 x, .int .i64 th] 74) = W1) := hW1
    have hs1 : wr.heap.size ≤ W1.heap.size := b1.size
    clear h4 hcj ex ey ez hc hth hhh i1 i2 HOk HBk b1 kp km hW1 hpos
    go_wp2_with (at_builtin; rw [HW1.out]; refine appMv rfl _ _ rfl (w.heap.size + 1) _ (mvL p ps h t o c0 k) rfl HO1.out _ [(x, th)] rfl HRL.out (by rw [mvL_len]; simp; omega) (by omega) ?_)
    intro v' w2 ho2 hg2 hv2
    obtain ⟨a', c'', hv', -, -⟩ := own_form2 ho2
    rw [show (mvL p ps h t o c0 k ++ [(x, th)]).length = k + 1 by simp [mvL_len]] at hv'
    subst hv'
    have HB2 : Hid (Blk w2 w.heap.size (F4 s p m (.slice (some ⟨b, off, none⟩) ps.length cap)) 26 ∧ Below w.heap.size w w2) := ⟨(hg2.block w.heap.size HB1.out.1.lt (fun e => by have := HOW.out _ e.symm; omega)).trans HB1.out.1, HB1.out.2.trans (grown_below hg2 (by omega) (fun q e => by have := HOW.out _ e; omega))⟩
    have kp2 : Blk w2 wr.heap.size #[.int .i64 x, .int .i64 y, .int .i64 z] 35 := (hg2.block wr.heap.size HKP.out.lt (fun e => by have := HOW.out _ e.symm; omega)).trans HKP.out
    have HO2 : Hid (Op mf mg 74 (w.heap.size + 1) w2 (.slice a' (k + 1) c'') (mvL p ps h t o c0 (k + 1))) := by
      have e : mvL p ps h t o c0 (k + 1) = mvL p ps h t o c0 k ++ [(x, th)] := by rw [mvL_succ, HC.out, HX.out, HTH.out.1]
      show Op mf mg 74 (w.heap.size + 1) w2 (.slice a' (k + 1) c'') (mvL p ps h t o c0 (k + 1))
      rw [e]; exact ho2
    obtain ⟨c', hc'⟩ : ∃ c', stt p ps h t o c0 (k + 1) = c' := ⟨_, rfl⟩
    have HS : Hid (stt p ps h t o c0 (k + 1) = c') := hc'
    have HN : Hid (c' = nxt p ps (par k o (!o)) th (x, y, z)) := by
      show c' = _
      rw [← hc', stt_nxt (by rw [HC.out]; omega), HC.out, HX.out, HTH.out.1]
    have z0 : ∀ W : Ov w2, W.wd.cell? ⟨w.heap.size, 0, none⟩ = some (.int .i64 s) := ov_cell (HB2.out.1.cell 0)
    have z1 : ∀ W : Ov w2, W.wd.cell? ⟨w.heap.size, 1, none⟩ = some (.int .i64 p) := ov_cell (HB2.out.1.cell 1)
    have z2 : ∀ W : Ov w2, W.wd.cell? ⟨w.heap.size, 2, none⟩ = some (.int .i64 m) := ov_cell (HB2.out.1.cell 2)
    have z3 : ∀ W : Ov w2, W.wd.cell? ⟨w.heap.size, 3, none⟩ = some (.slice (some ⟨b, off, none⟩) ps.length cap) := ov_cell (HB2.out.1.cell 3)
    have z4 : ∀ W : Ov w2, W.wd.cell? ⟨wr.heap.size, 0, none⟩ = some (.int .i64 x) := ov_cell (kp2.cell 0)
    have z5 : ∀ W : Ov w2, W.wd.cell? ⟨wr.heap.size, 1, none⟩ = some (.int .i64 y) := ov_cell (kp2.cell 1)
    have ne1 : Nonempty (Ov w2) := ⟨⟨_, Below.refl _ _⟩⟩
    clear ho2 hg2 hv2 kp2 hc' HO1 HB1 HKP HRL HW1 d0 d1 d2 k1 k3
    cases ho : par k o (!o) with
    | true =>
      have HCALL : Hid (∀ W : Ov w2, Calls Tryd.prog 46 #[.agg #[.int .i64 s, .int .i64 p, .int .i64 m, .slice (some ⟨b, off, none⟩) ps.length cap], .int .i64 (x / p), .int .i64 th] W.wd fun e w'' => e = .returned (.int .i64 c') ∧ ∃ W' : Ov w2, w'' = W'.wd) := fun W => ov_call ((l3In_v s p m (x / p) th _ ps _ ((HRt.out.below HB2.out.2).below W.ok) HR.out hp1 hp4).mono fun e w' ⟨h1, h2⟩ => ⟨by rw [h1]; have := HN.out; rw [ho] at this; rw [this]; rfl, h2⟩)
      have HPO : Hid (par (k + 1) o (!o) = false) := by show par (k + 1) o (!o) = _; rw [par_not, ho]; rfl
      clear ho
      go_wp2
      refine region_over (by kernel_rfl) (by kernel_rfl) ?_
      repeat (go_big_quiet_step (first | (go_at_call 46; exact HCALL.out _)))
      refine wpQuiet_nil ?_
      rintro _ ⟨W, rfl⟩
      go_wp2
      go_roundw
      case rel =>
        refine ⟨k + 1, by rw [HS.out], by rw [par_succ, HTH.out.1], by rw [par_succ, HTH.out.2], by rw [HPO.out], fun i hi => ?_, ⟨HB2.out.1.below W.ok HB2.out.1.lt, belowCall HB2.out.2 W.ok HB2.out.2.size⟩, HO2.out.below W.ok⟩
        by_cases hik : i < k
        · exact HA.out i hik
        · obtain rfl : i = k := by omega
          rw [HC.out]; omega
      case measure => simp [slen]; omega
    | false =>
      have HCALL : Hid (∀ W : Ov w2, Calls Tryd.prog 47 #[.agg #[.int .i64 s, .int .i64 p, .int .i64 m, .slice (some ⟨b, off, none⟩) ps.length cap], .int .i64 (y / p), .int .i64 th] W.wd fun e w'' => e = .returned (.int .i64 c') ∧ ∃ W' : Ov w2, w'' = W'.wd) := fun W => ov_call ((l3Out_v s p m (y / p) th _ ps _ ((HRt.out.below HB2.out.2).below W.ok) HR.out hp1 hp4).mono fun e w' ⟨h1, h2⟩ => ⟨by rw [h1]; have := HN.out; rw [ho] at this; rw [this]; rfl, h2⟩)
      have HPO : Hid (par (k + 1) o (!o) = true) := by show par (k + 1) o (!o) = _; rw [par_not, ho]; rfl
      clear ho
      go_wp2
      refine region_over (by kernel_rfl) (by kernel_rfl) ?_
      repeat (go_big_quiet_step (first | (go_at_call 47; exact HCALL.out _)))
      refine wpQuiet_nil ?_
      rintro _ ⟨W, rfl⟩
      go_wp2
      go_roundw
      case rel =>
        refine ⟨k + 1, by rw [HS.out], by rw [par_succ, HTH.out.1], by rw [par_succ, HTH.out.2], by rw [HPO.out], fun i hi => ?_, ⟨HB2.out.1.below W.ok HB2.out.1.lt, belowCall HB2.out.2 W.ok HB2.out.2.size⟩, HO2.out.below W.ok⟩
        by_cases hik : i < k
        · exact HA.out i hik
        · obtain rfl : i = k := by omega
          rw [HC.out]; omega
      case measure => simp [slen]; omega
end Go.Proofs.YtikhfeafbckjlaaDoor
