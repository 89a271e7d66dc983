/- Where a call goes on to, the program's way; no condition. -/
import Derived.Test.YtfaflnhembceoaaRiB
namespace Go.Proofs.Ytfaflnhembceoaa
open Go.RowKit Go.ChangeShapes Go.WideShapes Go.ChangeAt
set_option linter.unusedVariables false
set_option linter.unusedSimpArgs false
set_option maxRecDepth 8000
def onF (fs : Fts) (k : Int) (d : Int × Int) : Int × Int := if fs.any (fun x => x.1 == k) = true then (0, hasV fs k) else d
theorem fin2 {W : World} {R : Nat} {cells : Array Value} (c n : Value) (hk : Blk W R cells 109) (hc : cells.size = 2) : Blk ((W.setCell ⟨R, 0, none⟩ c).setCell ⟨R, 1, none⟩ n) R #[c, n] 109 := by
  obtain ⟨l⟩ := cells
  match l, hc with
  | [x0, x1], _ => exact (hk.set 0 c).set 1 n
abbrev C2 (r : Int × Int) : Array Value := #[.int .i64 r.1, .int .i64 r.2]
set_option maxHeartbeats 3200000 in
theorem onward_c (p q : Bool) (v : Value) (fs : Fts) (kd : Int) (d : Int × Int) (w : World) (h : Rx w v fs) (hd : dvK kd) : Calls Try.prog 91 #[.agg (S3 p q v), .int .i64 kd, .agg (C2 d)] w fun e w' => e = .returned (.agg (C2 (onF fs kd d))) ∧ Below w.heap.size w w' := by
  obtain ⟨a, cap, rfl, h1, h2, -⟩ := id h
  unfold maxLen at h2
  obtain ⟨d1, d2⟩ := d
  obtain ⟨m, hm⟩ : ∃ m, fs.length = m := ⟨_, rfl⟩
  have HM : Hid (fs.length = m) := hm
  rw [hm] at h h1 ⊢
  have HX : Hid (Rx w (.slice a m cap) fs) := h
  have HD : Hid (dvK kd) := hd
  obtain ⟨W0, hW0⟩ : ∃ W0, ((w.alloc (Obj.cells (S3 p q (.slice a m cap)) 101)).alloc (Obj.cells (C2 (d1, d2)) 109)).alloc (Obj.cells (C2 (0, 0)) 109) = W0 := ⟨_, rfl⟩
  have hb0 : Below w.heap.size w W0 := hW0 ▸ (((Below.refl _ _).alloc (Nat.le_refl _) _).alloc (by simp) _).alloc (by simp; omega) _
  have B0 : Hid (Below w.heap.size w W0) := hb0
  have KD : Hid (Blk W0 (w.heap.size + 1) (C2 (d1, d2)) 109) := hW0 ▸ (Blk.newAt _ (w.heap.size + 1) _ 109 (by simp)).alloc _
  have KR : Hid (Blk W0 (w.heap.size + 1 + 1) (C2 (0, 0)) 109) := hW0 ▸ Blk.newAt _ (w.heap.size + 1 + 1) _ 109 (by simp)
  have HW0 : Hid (((w.alloc (Obj.cells (S3 p q (.slice a m cap)) 101)).alloc (Obj.cells (C2 (d1, d2)) 109)).alloc (Obj.cells (C2 (0, 0)) 109) = W0) := hW0
  clear hm hb0 hW0 h hd
  go_enter Try.func91, Try.ntmps91
  go_wp2
  rw [HW0.out]
  go_loopw [14] (fun i wr => ∃ j : Nat, j ≤ m ∧ i = .int .i64 j ∧ Hid (∀ t (ht : t < j) (h : t < fs.length), (fun x : Int × Int => x.1 == kd) fs[t] = false) ∧ Hid (Below W0.heap.size W0 wr)) (fun i _ => m - (intOf i).toNat)
  case atStart => exact ⟨0, Nat.zero_le _, rfl, fun t ht => by omega, Below.refl _ _⟩
  case round =>
    obtain ⟨j, hj, rfl, hA, BJ⟩ := hrel
    have BW : Hid (Below w.heap.size w wr) := belowCall B0.out BJ.out B0.out.size
    have kr := KR.out.below BJ.out KR.out.lt
    have K1 : Hid (Blk wr (w.heap.size + 1 + 1) (C2 (0, 0)) 109) := kr
    by_cases hlt : j < m
    case neg =>
      obtain rfl : m = j := by omega
      have HN : Hid (onF fs kd (d1, d2) = (d1, d2)) := by
        show onF fs kd (d1, d2) = (d1, d2)
        rw [onF, any_no (fun t ht => hA.out t (by have := HM.out; omega) ht)]; rfl
      have kd2 := KD.out.below BJ.out KD.out.lt
      have y0 := kd2.cell 0
      have y1 := kd2.cell 1
      have r0 := kr.cell 0
      have r1 := kr.cell 1
      have z0 := kr.frozen 0
      have z1 := kr.frozen 1
      simp at y0 y1 r0 r1
      clear kd2 kr
      go_wp2
      rw [HN.out]
      exact bodyPost_ret (v := .agg (C2 (d1, d2))) (results_cell_row rfl _ _ _ 109 _ (0, 0) _ rfl (fin2 _ _ K1.out rfl) Try.underlying109 rfl size109) rfl ⟨rfl, (BW.out.setCell (by dsimp only; omega) _).setCell (by dsimp only; omega) _⟩
    case pos =>
    have hjl : j < fs.length := by rw [HM.out]; exact hlt
    obtain ⟨b, off, rfl, hcb, hc⟩ := HX.out.at j hjl
    obtain ⟨k, o, hr⟩ : ∃ k o, fs[j] = (k, o) := ⟨_, _, rfl⟩
    have HR : Hid (fs[j] = (k, o)) := hr
    rw [hr] at hc
    have e0 := (BW.out.cell (p := ⟨b, off + j, none⟩) hcb).trans hc
    have NO : Hid ((k == kd) = false → ∀ t (ht : t < j + 1) (h : t < fs.length), (fun x : Int × Int => x.1 == kd) fs[t] = false) := fun h => no_succ (f := fun x : Int × Int => x.1 == kd) hA.out hjl (by rw [HR.out]; exact h)
    have YES : Hid (k = kd → onF fs kd (d1, d2) = (0, o)) := fun h => by
      rw [onF, if_pos (any_yes hjl (by rw [HR.out]; simpa using h)), hasV_hit fs kd j hjl (by rw [HR.out]; exact h) (fun t ht => by simpa using hA.out t ht (by omega)), HR.out]
    clear hc hr kr
    rcases exV_or k o with ⟨hk, e⟩ | ⟨rfl, e⟩ | ⟨rfl, e⟩ | ⟨hk, e⟩
    · rw [e] at e0
      have a1 := asF129 (.agg #[.int .i64 k, .int .i64 o])
      clear e hk
      go_wp2_with (fail)
      refine (kdD_c k o wr).mono ?_
      rintro e w2 ⟨rfl, b2⟩
      have B2 : Hid (Below w.heap.size w w2) := belowCall BW.out b2 BW.out.size
      have B2' : Hid (Below W0.heap.size W0 w2) := belowCall BJ.out b2 BJ.out.size
      have K2 : Hid (Blk w2 (w.heap.size + 1 + 1) (C2 (0, 0)) 109) := K1.out.below b2 K1.out.lt
      clear b2 a1 e0
      by_cases hkk : k = kd
      · have y : (k == kd) = true := by simp [hkk]
        have HF : Hid (onF fs kd (d1, d2) = (0, o)) := YES.out hkk
        clear NO YES hkk
        go_wp2_with (fail)
        refine (nxD_c k o w2).mono ?_
        rintro e w3 ⟨rfl, b3⟩
        have B3 : Hid (Below w.heap.size w w3) := belowCall B2.out b3 B2.out.size
        have k3 := K2.out.below b3 K2.out.lt
        have K3 : Hid (Blk w3 (w.heap.size + 1 + 1) (C2 (0, 0)) 109) := k3
        have r0 := k3.cell 0
        have r1 := k3.cell 1
        have z0 := k3.frozen 0
        have z1 := k3.frozen 1
        simp at r0 r1
        clear b3 k3
        go_wp2
        rw [HF.out]
        exact bodyPost_ret (v := .agg (C2 (0, o))) (results_cell_row rfl _ _ _ 109 _ (0, 0) _ rfl (fin2 _ _ K3.out rfl) Try.underlying109 rfl size109) rfl ⟨rfl, (B3.out.setCell (by dsimp only; omega) _).setCell (by dsimp only; omega) _⟩
      · have y : (k == kd) = false := by simp [hkk]
        have HN := NO.out y
        have HN2 : Hid (∀ t (ht : t < j + 1) (h : t < fs.length), (fun x : Int × Int => x.1 == kd) fs[t] = false) := HN
        clear NO YES HN hkk
        go_wp2
        go_roundw
        case rel => exact ⟨j + 1, by omega, by go_num, HN2.out, B2'.out⟩
        case measure => simp [intOf]; omega
    · rw [e] at e0
      have a1 := asF131 (.agg #[.int .i64 o])
      have HN := NO.out (by have := HD.out; unfold dvK at this; simp; omega)
      have HN2 : Hid (∀ t (ht : t < j + 1) (h : t < fs.length), (fun x : Int × Int => x.1 == kd) fs[t] = false) := HN
      clear e NO HN
      go_wp2
      go_roundw
      case rel => exact ⟨j + 1, by omega, by go_num, HN2.out, BJ.out⟩
      case measure => simp [intOf]; omega
    · rw [e] at e0
      have a1 := asF133 (.agg #[])
      have HN := NO.out (by have := HD.out; unfold dvK at this; simp; omega)
      have HN2 : Hid (∀ t (ht : t < j + 1) (h : t < fs.length), (fun x : Int × Int => x.1 == kd) fs[t] = false) := HN
      clear e NO HN
      go_wp2
      go_roundw
      case rel => exact ⟨j + 1, by omega, by go_num, HN2.out, BJ.out⟩
      case measure => simp [intOf]; omega
    · rw [e] at e0
      have a1 := asF135 (.agg #[.int .i64 k])
      have HN := NO.out (by have := HD.out; have := hk.1; unfold dvK at *; simp; omega)
      have HN2 : Hid (∀ t (ht : t < j + 1) (h : t < fs.length), (fun x : Int × Int => x.1 == kd) fs[t] = false) := HN
      clear e NO HN
      go_wp2
      go_roundw
      case rel => exact ⟨j + 1, by omega, by go_num, HN2.out, BJ.out⟩
      case measure => simp [intOf]; omega
def buF (fs : Fts) : Int × Int := if fs.any (fun x => x.1 == 6) = true then (2, 0) else onF fs 2 (3, 0)
set_option maxHeartbeats 3200000 in
theorem busy_c (p q : Bool) (v : Value) (fs : Fts) (w : World) (h : Rx w v fs) : Calls Try.prog 102 #[.agg (S3 p q v)] w fun e w' => e = .returned (.agg (C2 (buF fs))) ∧ Below w.heap.size w w' := by
  obtain ⟨a, cap, rfl, h1, h2, -⟩ := id h
  unfold maxLen at h2
  obtain ⟨m, hm⟩ : ∃ m, fs.length = m := ⟨_, rfl⟩
  have HM : Hid (fs.length = m) := hm
  rw [hm] at h h1 ⊢
  have HX : Hid (Rx w (.slice a m cap) fs) := h
  obtain ⟨W0, hW0⟩ : ∃ W0, (w.alloc (Obj.cells (S3 p q (.slice a m cap)) 101)).alloc (Obj.cells (C2 (0, 0)) 109) = W0 := ⟨_, rfl⟩
  have hb0 : Below w.heap.size w W0 := hW0 ▸ ((Below.refl _ _).alloc (Nat.le_refl _) _).alloc (by simp) _
  have B0 : Hid (Below w.heap.size w W0) := hb0
  have KS : Hid (Blk W0 w.heap.size (S3 p q (.slice a m cap)) 101) := hW0 ▸ (Blk.new _ _ _).alloc _
  have KR : Hid (Blk W0 (w.heap.size + 1) (C2 (0, 0)) 109) := hW0 ▸ Blk.newAt _ (w.heap.size + 1) _ 109 (by simp)
  have HW0 : Hid ((w.alloc (Obj.cells (S3 p q (.slice a m cap)) 101)).alloc (Obj.cells (C2 (0, 0)) 109) = W0) := hW0
  clear hm hb0 hW0 h
  go_enter Try.func102, Try.ntmps102
  go_wp2
  rw [HW0.out]
  go_loopw [10] (fun i wr => ∃ j : Nat, j ≤ m ∧ i = .int .i64 j ∧ Hid (∀ t (ht : t < j) (h : t < fs.length), (fun x : Int × Int => x.1 == 6) fs[t] = false) ∧ Hid (Below W0.heap.size W0 wr)) (fun i _ => m - (intOf i).toNat)
  case atStart => exact ⟨0, Nat.zero_le _, rfl, fun t ht => by omega, Below.refl _ _⟩
  case round =>
    obtain ⟨j, hj, rfl, hA, BJ⟩ := hrel
    have BW : Hid (Below w.heap.size w wr) := belowCall B0.out BJ.out B0.out.size
    have K1 : Hid (Blk wr (w.heap.size + 1) (C2 (0, 0)) 109) := KR.out.below BJ.out KR.out.lt
    by_cases hlt : j < m
    case neg =>
      obtain rfl : m = j := by omega
      have HN : Hid (buF fs = onF fs 2 (3, 0)) := by
        show buF fs = onF fs 2 (3, 0)
        rw [buF, any_no (fun t ht => hA.out t (by have := HM.out; omega) ht)]; rfl
      have ks := KS.out.below BJ.out KS.out.lt
      have y0 := ks.cell 0
      have y1 := ks.cell 1
      have y2 := ks.cell 2
      simp at y0 y1 y2
      clear ks
      go_wp2_with (fail)
      refine (onward_c p q _ fs 2 (3, 0) wr (HX.out.below BW.out) (.inr (.inl rfl))).mono ?_
      rintro e w3 ⟨rfl, b3⟩
      have B3 : Hid (Below w.heap.size w w3) := belowCall BW.out b3 BW.out.size
      have k3 := K1.out.below b3 K1.out.lt
      have K3 : Hid (Blk w3 (w.heap.size + 1) (C2 (0, 0)) 109) := k3
      have r0 := k3.cell 0
      have r1 := k3.cell 1
      have z0 := k3.frozen 0
      have z1 := k3.frozen 1
      simp at r0 r1
      obtain ⟨u1, u2, hu⟩ : ∃ u1 u2, onF fs 2 (3, 0) = (u1, u2) := ⟨_, _, rfl⟩
      rw [hu] at HN ⊢
      clear b3 k3 hu y0 y1 y2
      go_wp2
      rw [HN.out]
      exact bodyPost_ret (v := .agg (C2 (u1, u2))) (results_cell_row rfl _ _ _ 109 _ (0, 0) _ rfl (fin2 _ _ K3.out rfl) Try.underlying109 rfl size109) rfl ⟨rfl, (B3.out.setCell (by dsimp only; omega) _).setCell (by dsimp only; omega) _⟩
    case pos =>
    have hjl : j < fs.length := by rw [HM.out]; exact hlt
    obtain ⟨b, off, rfl, hcb, hc⟩ := HX.out.at j hjl
    obtain ⟨k, o, hr⟩ : ∃ k o, fs[j] = (k, o) := ⟨_, _, rfl⟩
    have HR : Hid (fs[j] = (k, o)) := hr
    rw [hr] at hc
    have e0 := (BW.out.cell (p := ⟨b, off + j, none⟩) hcb).trans hc
    have NO : Hid ((k == 6) = false → ∀ t (ht : t < j + 1) (h : t < fs.length), (fun x : Int × Int => x.1 == 6) fs[t] = false) := fun h => no_succ (f := fun x : Int × Int => x.1 == 6) hA.out hjl (by rw [HR.out]; exact h)
    have YES : Hid (k = 6 → buF fs = (2, 0)) := fun h => by
      rw [buF, if_pos (any_yes hjl (by rw [HR.out]; simpa using h))]
    clear hc hr
    rcases exV_or k o with ⟨hk, e⟩ | ⟨rfl, e⟩ | ⟨rfl, e⟩ | ⟨hk, e⟩
    · rw [e] at e0
      have a1 := asW129 (.agg #[.int .i64 k, .int .i64 o])
      have HN := NO.out (by unfold dvK at hk; simp; omega)
      have HN2 : Hid (∀ t (ht : t < j + 1) (h : t < fs.length), (fun x : Int × Int => x.1 == 6) fs[t] = false) := HN
      clear e NO HN
      go_wp2
      go_roundw
      case rel => exact ⟨j + 1, by omega, by go_num, HN2.out, BJ.out⟩
      case measure => simp [intOf]; omega
    · rw [e] at e0
      have a1 := asW131 (.agg #[.int .i64 o])
      have HN := NO.out (by decide)
      have HN2 : Hid (∀ t (ht : t < j + 1) (h : t < fs.length), (fun x : Int × Int => x.1 == 6) fs[t] = false) := HN
      clear e NO HN
      go_wp2
      go_roundw
      case rel => exact ⟨j + 1, by omega, by go_num, HN2.out, BJ.out⟩
      case measure => simp [intOf]; omega
    · rw [e] at e0
      have a1 := asW133 (.agg #[])
      have HF : Hid (buF fs = (2, 0)) := YES.out rfl
      clear e NO YES
      go_wp2_with (fail)
      refine (wbW_c wr).mono ?_
      rintro e w3 ⟨rfl, b3⟩
      have B3 : Hid (Below w.heap.size w w3) := belowCall BW.out b3 BW.out.size
      have k3 := K1.out.below b3 K1.out.lt
      have K3 : Hid (Blk w3 (w.heap.size + 1) (C2 (0, 0)) 109) := k3
      have r0 := k3.cell 0
      have r1 := k3.cell 1
      have z0 := k3.frozen 0
      have z1 := k3.frozen 1
      simp at r0 r1
      clear b3 k3
      go_wp2
      rw [HF.out]
      exact bodyPost_ret (v := .agg (C2 (2, 0))) (results_cell_row rfl _ _ _ 109 _ (0, 0) _ rfl (fin2 _ _ K3.out rfl) Try.underlying109 rfl size109) rfl ⟨rfl, (B3.out.setCell (by dsimp only; omega) _).setCell (by dsimp only; omega) _⟩
    · rw [e] at e0
      have a1 := asW135 (.agg #[.int .i64 k])
      have HN := NO.out (by simp [hk.2.2])
      have HN2 : Hid (∀ t (ht : t < j + 1) (h : t < fs.length), (fun x : Int × Int => x.1 == 6) fs[t] = false) := HN
      clear e NO HN
      go_wp2
      go_roundw
      case rel => exact ⟨j + 1, by omega, by go_num, HN2.out, BJ.out⟩
      case measure => simp [intOf]; omega
end Go.Proofs.Ytfaflnhembceoaa
