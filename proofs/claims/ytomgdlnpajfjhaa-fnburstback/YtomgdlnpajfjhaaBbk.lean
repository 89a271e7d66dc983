/- Bits and gains come back; no condition. -/
import Derived.Test.YtomgdlnpajfjhaaBck
import Derived.Test.YtomgdlnpajfjhaaBta
import Derived.Test.YtomgdlnpajfjhaaBrs
namespace Go.Proofs.Ytomgdlnpajfjhaa
open Go.RowKit Go.ChangeShapes Go.WideShapes Go.ChangeAt
set_option linter.unusedVariables false
set_option linter.unusedSimpArgs false
set_option maxRecDepth 8000

/-- what the air makes of a burst -/
def AirV (L : List (Nat × Nat)) (GR GI : Int) (a b : Nat → Int) (air : List (Nat × Nat)) : Prop :=
  air.length = L.length ∧ ∀ k, k < air.length → ∀ s t : Int, (s = 1 ∨ s = -1) → (t = 1 ∨ t = -1) → Dy .f32 0 (L.getD k (0, 0)).1 s → Dy .f32 0 (L.getD k (0, 0)).2 t → Dy .f32 6 (air.getD k (0, 0)).1 (s * GR - t * GI + a k) ∧ Dy .f32 6 (air.getD k (0, 0)).2 (s * GI + t * GR + b k)
theorem bqL_all (U Q : Option Nat) : ∀ (ls : List (Nat × Nat)) (zs : List Int), zs.length = 2 * ls.length → (∀ k, k < ls.length → bq U Q (ls.getD k (0, 0)) = some (zs.getD (2 * k) 0, zs.getD (2 * k + 1) 0)) → bqL U Q ls = zs
  | [], zs, hl, _ => by
    have : zs = [] := List.eq_nil_of_length_eq_zero (by simpa using hl)
    rw [this]; rfl
  | p :: r, zs, hl, h => by
    match zs, hl, h with
    | [], hl, _ => simp at hl
    | [_], hl, _ => simp at hl; omega
    | x :: y :: zs, hl, h =>
      have h0 := h 0 (by simp)
      have h1 := bqL_all U Q r zs (by simp at hl; omega) (fun k hk => by
        have := h (k + 1) (by simpa using hk)
        simpa [Nat.mul_add, List.getD_eq_getElem?_getD] using this)
      have e : bqL U Q (p :: r) = (match bq U Q p with | some (x, y) => [x, y] | none => []) ++ bqL U Q r := rfl
      have h0' : bq U Q p = some (x, y) := by simpa using h0
      rw [e, h0', h1]; rfl
theorem brL_len {zs : List Int} (h : brB zs = true) : (brL zs).length = zs.length / 2 + 26 := by
  unfold brL; rw [if_pos h]
  simp only [List.length_append, List.length_take, List.length_drop, brS_len, trL_len]
  omega
theorem getD_app1 {α : Type} (x y : List α) (k : Nat) (d : α) (h : k < x.length) : (x ++ y).getD k d = x.getD k d := by
  simp [List.getD_eq_getElem?_getD, List.getElem?_append, h]
theorem getD_app2 {α : Type} (x y : List α) (k : Nat) (d : α) (h : x.length ≤ k) : (x ++ y).getD k d = y.getD (k - x.length) d := by
  rw [List.getD_eq_getElem?_getD, List.getElem?_append_right h, ← List.getD_eq_getElem?_getD]
theorem getD_tk {α : Type} (x : List α) (n k : Nat) (d : α) (h : k < n) : (x.take n).getD k d = x.getD k d := by
  simp [List.getD_eq_getElem?_getD, List.getElem?_take, h]
theorem getD_dr {α : Type} (x : List α) (n k : Nat) (d : α) : (x.drop n).getD k d = x.getD (n + k) d := by
  simp [List.getD_eq_getElem?_getD, List.getElem?_drop]
theorem brS_getD (zs : List Int) (k : Nat) (h : k < zs.length / 2) : (brS zs).getD k (0, 0) = brP zs k := by
  have hl : k < (brS zs).length := by rw [brS_len]; exact h
  rw [List.getD_eq_getElem?_getD, List.getElem?_eq_getElem hl, Option.getD_some, brS_at]
theorem brL_lo {zs : List Int} (h : brB zs = true) (k : Nat) (hk : k < zs.length / 2 / 2) : (brL zs).getD k (0, 0) = brP zs k := by
  unfold brL; rw [if_pos h, getD_app1 _ _ _ _ (by rw [List.length_take, brS_len]; omega), getD_tk _ _ _ _ hk, brS_getD _ _ (by omega)]
theorem brL_mid {zs : List Int} (h : brB zs = true) (j : Nat) (hj : j < 26) : (brL zs).getD (zs.length / 2 / 2 + j) (0, 0) = trL.getD j (0, 0) := by
  have hl : ((brS zs).take (zs.length / 2 / 2)).length = zs.length / 2 / 2 := by rw [List.length_take, brS_len]; omega
  unfold brL; rw [if_pos h, getD_app2 _ _ _ _ (by omega), hl, Nat.add_sub_cancel_left, getD_app1 _ _ _ _ (by rw [trL_len]; exact hj)]
theorem brL_hi {zs : List Int} (h : brB zs = true) (k : Nat) (h1 : zs.length / 2 / 2 ≤ k) (h2 : k < zs.length / 2) : (brL zs).getD (k + 26) (0, 0) = brP zs k := by
  have hl : ((brS zs).take (zs.length / 2 / 2)).length = zs.length / 2 / 2 := by rw [List.length_take, brS_len]; omega
  unfold brL; rw [if_pos h, getD_app2 _ _ _ _ (by omega), hl, getD_app2 _ _ _ _ (by rw [trL_len]; omega), trL_len, getD_dr, show zs.length / 2 / 2 + (k + 26 - zs.length / 2 / 2 - 26) = k by omega, brS_getD _ _ h2]
def sn (b : Int) : Int := if b = 1 then 1 else -1
theorem sn_or (b : Int) : sn b = 1 ∨ sn b = -1 := by unfold sn; split; exact .inl rfl; exact .inr rfl
theorem sn_bit {b : Int} (h : b = 0 ∨ b = 1) : (if decide (sn b < 0) = true then (0 : Int) else 1) = b := by rcases h with rfl | rfl <;> decide
theorem fcw {x : Nat} {a : Int} (h : Dy .f32 6 x a) : ∃ y, (fc .f32 x).map wid = some y ∧ Dy .f64 6 y a := DyO.wid (by omega) h.fc
theorem bq_num (GR GI SR SI a b u v : Int) (hG : GR.natAbs + GI.natAbs ≤ 480) (hR : GR.natAbs ≤ 320) (hI : GI.natAbs ≤ 320) (big : 64 ≤ GR.natAbs ∨ 64 ≤ GI.natAbs) (hSR : SR.natAbs ≤ 416) (hSI : SI.natAbs ≤ 416) (ha : a.natAbs ≤ 8) (hb : b.natAbs ≤ 8) (uo : u = 1 ∨ u = -1) (vo : v = 1 ∨ v = -1) :
    (u * GR - v * GI + a).natAbs ≤ 600 ∧ (u * GI + v * GR + b).natAbs ≤ 600 ∧ 52 * (u * GR - v * GI + a) = u * (52 * GR + SR) - v * (52 * GI + SI) + (52 * a - u * SR + v * SI) ∧ 52 * (u * GI + v * GR + b) = u * (52 * GI + SI) + v * (52 * GR + SR) + (52 * b - u * SI - v * SR) ∧
      (52 * a - u * SR + v * SI).natAbs ≤ 1248 ∧ (52 * b - u * SI - v * SR).natAbs ≤ 1248 ∧ (2912 ≤ (52 * GR + SR).natAbs ∨ 2912 ≤ (52 * GI + SI).natAbs) ∧ (52 * GR + SR).natAbs ≤ 17500 ∧ (52 * GI + SI).natAbs ≤ 17500 := by
  refine ⟨?_, ?_, ?_, ?_, ?_, ?_, by omega, by omega, by omega⟩
  · clear big hSR hSI hb; rcases uo with rfl | rfl <;> rcases vo with rfl | rfl <;> omega
  · clear big hSR hSI ha; rcases uo with rfl | rfl <;> rcases vo with rfl | rfl <;> omega
  · clear big hSR hSI ha hb hG hR hI; rcases uo with rfl | rfl <;> rcases vo with rfl | rfl <;> omega
  · clear big hSR hSI ha hb hG hR hI; rcases uo with rfl | rfl <;> rcases vo with rfl | rfl <;> omega
  · clear big hb hG hR hI; rcases uo with rfl | rfl <;> rcases vo with rfl | rfl <;> omega
  · clear big ha hG hR hI; rcases uo with rfl | rfl <;> rcases vo with rfl | rfl <;> omega
/-- one sample's bits -/
theorem bq_ok (E : Nat) (hE : (2 : Nat) ^ 162 = E) {c d : Nat} {vc vd GR GI SR SI a b z1 z2 : Int} (p : Nat × Nat) (hc : FN c vc) (hd : FN d vd) (hG : GR.natAbs + GI.natAbs ≤ 480) (hR : GR.natAbs ≤ 320) (hI : GI.natAbs ≤ 320) (big : 64 ≤ GR.natAbs ∨ 64 ≤ GI.natAbs)
    (hSR : SR.natAbs ≤ 416) (hSI : SI.natAbs ≤ 416) (ha : a.natAbs ≤ 8) (hb : b.natAbs ≤ 8)
    (kc : (3328 * vc - (52 * GR + SR) * (274877906944 * E : Nat)).natAbs ≤ 3328 * E) (kd : (3328 * vd - (52 * GI + SI) * (274877906944 * E : Nat)).natAbs ≤ 3328 * E) (zc : 52 * GR + SR = 0 → vc = 0) (zd : 52 * GI + SI = 0 → vd = 0)
    (hz1 : z1 = 0 ∨ z1 = 1) (hz2 : z2 = 0 ∨ z2 = 1)
    (h1 : Dy .f32 6 p.1 (sn z1 * GR - sn z2 * GI + a)) (h2 : Dy .f32 6 p.2 (sn z1 * GI + sn z2 * GR + b)) : bq (some c) (some d) p = some (z1, z2) := by
  obtain ⟨x, x1, x2⟩ := fcw h1
  obtain ⟨y, y1, y2⟩ := fcw h2
  obtain ⟨u, hu⟩ : ∃ u, sn z1 = u := ⟨_, rfl⟩
  obtain ⟨v, hv⟩ : ∃ v, sn z2 = v := ⟨_, rfl⟩
  have uo : u = 1 ∨ u = -1 := hu ▸ sn_or z1
  have vo : v = 1 ∨ v = -1 := hv ▸ sn_or z2
  rw [hu, hv] at x2 y2
  obtain ⟨b1, b2, eR, eI, e1, e2, hbig, hC, hD⟩ := bq_num GR GI SR SI a b u v hG hR hI big hSR hSI ha hb uo vo
  obtain ⟨t1, t2⟩ := back_re _ _ _ _ u v _ _ uo e1 e2 hbig eR eI
  obtain ⟨t3, t4⟩ := back_im _ _ _ _ u v _ _ vo e1 e2 hbig eR eI
  obtain ⟨q1, q2, q3⟩ := bits_ok E hE (x2.fn6 E hE) (y2.fn6 E hE) b1 b2 hc hd hC hD kc kd zc zd hbig t1 t3
  unfold bq
  rw [x1, y1]
  show (if qOk x y c d = true then some (bitF (qR x y c d), bitF (qI x y c d)) else none) = _
  rw [if_pos q1, q2, q3, t2, t4, ← hu, ← hv, sn_bit hz1, sn_bit hz2]
/-- all bits come back -/
theorem bits_back {zs : List Int} {GR GI : Int} {a b : Nat → Int} {air : List (Nat × Nat)} (h : brB zs = true) (hz : ∀ k, zs.getD k 0 = 0 ∨ zs.getD k 0 = 1) (hair : AirV (brL zs) GR GI a b air) (hlen : zs.length / 2 + 26 ≤ 200)
    (hG : GR.natAbs + GI.natAbs ≤ 480) (hR : GR.natAbs ≤ 320) (hI : GI.natAbs ≤ 320) (big : 64 ≤ GR.natAbs ∨ 64 ≤ GI.natAbs) (ha : ∀ k, (a k).natAbs ≤ 8) (hb : ∀ k, (b k).natAbs ≤ 8) (h2 : 2 ≤ zs.length) (hev : zs.length % 2 = 0) :
    btB air = true ∧ btL air = zs := by
  obtain ⟨hl, hv⟩ := hair
  rw [brL_len h] at hl
  have hH : gnH air = zs.length / 2 / 2 := by unfold gnH; rw [hl, Nat.add_sub_cancel]
  have hgB : gnB air = true := by unfold gnB; rw [hl]; simp; omega
  obtain ⟨E, hE⟩ : ∃ E, (2 : Nat) ^ 162 = E := ⟨_, rfl⟩
  have hgS : ∀ j, j < 26 → (gnS air).getD j (0, 0) = air.getD (zs.length / 2 / 2 + j) (0, 0) := by
    intro j hj
    unfold gnS
    rw [getD_tk _ _ _ _ hj, getD_dr, hH]
  obtain ⟨s1, s2⟩ := train_sums (gnS air) GR GI (fun j => a (zs.length / 2 / 2 + j)) (fun j => b (zs.length / 2 / 2 + j)) hG (fun j _ => ha _) (fun j _ => hb _) (fun j hj => by
    obtain ⟨t1, t2⟩ := trL_dy j hj
    rw [← brL_mid h j hj] at t1 t2
    obtain ⟨r1, r2⟩ := hv (zs.length / 2 / 2 + j) (by omega) _ _ (ta_or j) (ta_or j) t1 t2
    rw [hgS j hj]
    rw [← Int.mul_sub] at r1
    rw [← Int.mul_add, Int.add_comm GI GR] at r2
    exact ⟨r1, r2⟩)
  obtain ⟨n1, n2⟩ := noise_sum (fun j => a (zs.length / 2 / 2 + j)) (fun j => b (zs.length / 2 / 2 + j)) (fun j _ => ha _) (fun j _ => hb _)
  generalize sI (fun j => ta j * ((fun j => a (zs.length / 2 / 2 + j)) j + (fun j => b (zs.length / 2 / 2 + j)) j)) 26 = SR at *
  generalize sI (fun j => ta j * ((fun j => b (zs.length / 2 / 2 + j)) j - (fun j => a (zs.length / 2 / 2 + j)) j)) 26 = SI at *
  obtain ⟨c, vc, c1, c2, c3, c4⟩ := gain_fn E hE s1 (by omega)
  obtain ⟨d, vd, d1, d2, d3, d4⟩ := gain_fn E hE s2 (by omega)
  have hU : gnF pXR air = some c := by unfold gnF; rw [if_pos hgB]; exact c1
  have hQ : gnF pXI air = some d := by unfold gnF; rw [if_pos hgB]; exact d1
  have hrl : (restS air).length = zs.length / 2 := by rw [restS_len (by omega), hl]; omega
  have hbq : ∀ k, k < (restS air).length → bq (gnF pXR air) (gnF pXI air) ((restS air).getD k (0, 0)) = some (zs.getD (2 * k) 0, zs.getD (2 * k + 1) 0) := by
    intro k hk
    rw [hU, hQ]
    rw [hrl] at hk
    have dy := fun (i : Nat) (e : (brL zs).getD i (0, 0) = brP zs k) (hi : i < air.length) => hv i hi (sn (zs.getD (2 * k) 0)) (sn (zs.getD (2 * k + 1) 0)) (sn_or _) (sn_or _) (by rw [e]; exact sgB_dy _) (by rw [e]; exact sgB_dy _)
    have ht : (air.take (zs.length / 2 / 2)).length = zs.length / 2 / 2 := by rw [List.length_take, hl]; omega
    by_cases hlo : k < zs.length / 2 / 2
    · have e : (restS air).getD k (0, 0) = air.getD k (0, 0) := by
        unfold restS
        rw [hH, getD_app1 _ _ _ _ (by rw [ht]; exact hlo), getD_tk _ _ _ _ hlo]
      rw [e]
      obtain ⟨r1, r2⟩ := dy k (brL_lo h k hlo) (by omega)
      exact bq_ok E hE _ c2 d2 hG hR hI big n1 n2 (ha _) (hb _) c3 d3 c4 d4 (hz _) (hz _) r1 r2
    · have e : (restS air).getD k (0, 0) = air.getD (k + 26) (0, 0) := by
        unfold restS
        rw [hH, getD_app2 _ _ _ _ (by rw [ht]; omega), ht, getD_dr]
        congr 1
        omega
      rw [e]
      obtain ⟨r1, r2⟩ := dy (k + 26) (brL_hi h k (by omega) hk) (by omega)
      exact bq_ok E hE _ c2 d2 hG hR hI big n1 n2 (ha _) (hb _) c3 d3 c4 d4 (hz _) (hz _) r1 r2
  have hB : btB air = true := btB_all hgB (fun k hk => by
    have := hbq k hk
    rw [List.getD_eq_getElem?_getD, List.getElem?_eq_getElem hk, Option.getD_some] at this
    rw [this]; rfl)
  refine ⟨hB, ?_⟩
  unfold btL
  rw [if_pos hB]
  exact bqL_all _ _ _ _ (by rw [hrl]; omega) hbq
/-- without noise the gain is learnt exactly -/
theorem gain_back {zs : List Int} {GR GI : Int} {air : List (Nat × Nat)} (h : brB zs = true) (hair : AirV (brL zs) GR GI (fun _ => 0) (fun _ => 0) air) (hlen : zs.length / 2 + 26 ≤ 200)
    (hG : GR.natAbs + GI.natAbs ≤ 480) (h2 : 2 ≤ zs.length) : gnB air = true ∧ DyO .f64 6 (gnF pXR air) GR ∧ DyO .f64 6 (gnF pXI air) GI := by
  obtain ⟨hl, hv⟩ := hair
  rw [brL_len h] at hl
  have hH : gnH air = zs.length / 2 / 2 := by unfold gnH; rw [hl, Nat.add_sub_cancel]
  have hgB : gnB air = true := by unfold gnB; rw [hl]; simp; omega
  have hgS : ∀ j, j < 26 → (gnS air).getD j (0, 0) = air.getD (zs.length / 2 / 2 + j) (0, 0) := by
    intro j hj
    unfold gnS
    rw [getD_tk _ _ _ _ hj, getD_dr, hH]
  obtain ⟨s1, s2⟩ := train_sums (gnS air) GR GI (fun _ => 0) (fun _ => 0) hG (fun j _ => by simp) (fun j _ => by simp) (fun j hj => by
    obtain ⟨t1, t2⟩ := trL_dy j hj
    rw [← brL_mid h j hj] at t1 t2
    obtain ⟨r1, r2⟩ := hv (zs.length / 2 / 2 + j) (by omega) _ _ (ta_or j) (ta_or j) t1 t2
    rw [hgS j hj]
    rw [← Int.mul_sub] at r1
    rw [← Int.mul_add, Int.add_comm GI GR] at r2
    exact ⟨r1, r2⟩)
  have z1 : sI (fun j => ta j * ((fun _ => (0 : Int)) j + (fun _ => (0 : Int)) j)) 26 = 0 := by
    rw [sI_congr (g := fun _ => 0) 26 (fun i _ => by simp), sI_const]; rfl
  have z2 : sI (fun j => ta j * ((fun _ => (0 : Int)) j - (fun _ => (0 : Int)) j)) 26 = 0 := by
    rw [sI_congr (g := fun _ => 0) 26 (fun i _ => by simp), sI_const]; rfl
  rw [z1, Int.add_zero] at s1
  rw [z2, Int.add_zero] at s2
  refine ⟨hgB, ?_, ?_⟩
  · unfold gnF; rw [if_pos hgB]; exact quo52 s1
  · unfold gnF; rw [if_pos hgB]; exact quo52 s2

end Go.Proofs.Ytomgdlnpajfjhaa
