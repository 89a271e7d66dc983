/- The program tells of Fair what is said; no condition. -/
import Derived.Test.YtiadakponjpkmaaFra
namespace Go.Proofs.Ytiadakponjpkmaa
open Go.RowKit Go.ChangeShapes Go.WideShapes Go.ChangeAt
set_option linter.unusedVariables false
set_option linter.unusedSimpArgs false
set_option maxRecDepth 8000

set_option maxHeartbeats 6400000 in
theorem faI_c (v : Value) (ls : List (List Int)) (t : Int) (w : World) (h : Rn w v ls) : Calls Try.prog 27 #[v, .int .i64 t] w (FaR ls t w) := by
  have HQ : Hid (Calls Try.prog 67 #[v] w fun e w' => e = .returned (.bool (qkB ls)) ∧ w' = w) := queues_c v ls w h
  obtain ⟨a, cap, rfl, h1, h2, -⟩ := id h
  unfold maxLen at h2
  have HC : Hid (∀ W j, j < ls.length → Below w.heap.size w W → ∃ (bo : Nat × Nat) (u : Value), a = some ⟨bo.1, bo.2, none⟩ ∧ bo.1 < w.heap.size ∧ W.cell? ⟨bo.1, bo.2 + j, none⟩ = some u ∧ Rd .i64 w u (ls.getD j [])) := rnc h
  have HE : Hid (faB ls t = (qkB ls && decide (0 ≤ t ∧ t ≤ 500))) := rfl
  have HNO : Hid (faB ls t = false → FaR ls t w (.returned (.tuple #[.slice none 0 0, .bool false])) w) := fun e => ⟨_, by rw [e], by rw [faR_no e]; exact Ow.nil _ _ _ _, Below.refl _ _⟩
  clear h
  go_enter Try.func27, Try.ntmps27
  go_wp2_with (fail)
  refine HQ.out.mono ?_
  rintro e w1 ⟨rfl, hw⟩
  rw [hw]
  clear hw w1
  obtain ⟨q1, hq1⟩ : ∃ q, qkB ls = q := ⟨_, rfl⟩
  have HQ1 : Hid (qkB ls = q1) := hq1
  rw [hq1]
  clear hq1
  cases q1 with
  | false =>
    have HF : Hid (faB ls t = false) := by show _ = _; rw [HE.out, HQ1.out]; rfl
    go_wp2
    go_ret2
    exact HNO.out HF.out
  | true =>
  go_wp2_with (fail)
  refine (within_c t 0 500 _).mono ?_
  rintro e w1 ⟨rfl, hw⟩
  rw [hw]
  clear hw w1
  by_cases hr : 0 ≤ t ∧ t ≤ 500
  case neg =>
    have HF : Hid (faB ls t = false) := by show _ = _; rw [HE.out, decide_eq_false hr]; simp
    rw [decide_eq_false hr]
    clear hr
    go_wp2
    go_ret2
    exact HNO.out HF.out
  rw [decide_eq_true hr]
  have HT : Hid (faB ls t = true) := by show _ = _; rw [HE.out, HQ1.out, decide_eq_true hr]; rfl
  obtain ⟨T, rfl⟩ : ∃ T : Nat, t = T := ⟨t.toNat, by omega⟩
  have HTR : Hid (faR ls T = frO ls T (ls.length * 60)) := by show _ = _; rw [faR_yes HT.out]; simp
  have HTB : Hid (T ≤ 500) := by show _ ≤ _; omega
  have HYE : Hid (∀ p q, q < ls.length → p < (ls.getD q []).length → (frO ls T (ls.length * p + q)).length < T → frO ls T (ls.length * p + (q + 1)) = frO ls T (ls.length * p + q) ++ [(ls.getD q []).getD p 0]) := fun p q h1 h2 h3 => frO_yes h1 h2 h3
  have HNE : Hid (∀ p q, q < ls.length → ¬ (p < (ls.getD q []).length ∧ (frO ls T (ls.length * p + q)).length < T) → frO ls T (ls.length * p + (q + 1)) = frO ls T (ls.length * p + q)) := fun p q h1 h2 => frO_no h1 h2
  have HLE : Hid (∀ t, (frO ls T t).length ≤ T) := fun t => by rw [frO_len]; exact gS_len t
  have HL8 : Hid (ls.length ≤ 8) := (qkB_len HQ1.out).2
  have HZ : Hid (frO ls T (ls.length * 0) = []) := rfl
  obtain ⟨L, hL⟩ : ∃ L, ls.length = L := ⟨_, rfl⟩
  rw [hL] at h1 HC HTR HYE HNE HL8 HZ ⊢
  obtain ⟨F, hF⟩ : ∃ F, frO ls T = F := ⟨_, rfl⟩
  rw [hF] at HTR HYE HNE HLE HZ
  clear hr hL hF HE HNO HQ HQ1
  obtain ⟨v0, hv0⟩ : ∃ x, Value.slice none 0 0 = x := ⟨_, rfl⟩
  have HO0 : Hid (Ow .i64 3 w.heap.size w v0 (F (L * 0))) := by rw [HZ.out, ← hv0]; exact Ow.nil .i64 3 _ _
  have HV0 : Hid (Value.slice none 0 0 = v0) := hv0
  clear hv0
  rw [HV0.out]
  go_wp2
  rw [HV0.out]
  go_loopw [6, 18] (fun o i wr => ∃ (p : Nat) (o' : Value), i = .int .i64 p ∧ o' = o ∧ p ≤ 60 ∧ Hid (Ow .i64 3 w.heap.size wr o' (F (L * p))) ∧ Hid (Below w.heap.size w wr)) (fun _ i _ => 60 - (intOf i).toNat)
  case atStart => exact ⟨0, _, rfl, rfl, by omega, HO0.out, Below.refl _ _⟩
  case round =>
    obtain ⟨p, o', rfl, ho', hp, hO, hB⟩ := hrel
    subst ho'
    clear HO0 HV0
    by_cases hlt : p < 60
    case neg =>
      obtain rfl : p = 60 := by omega
      have HF : Hid (Ow .i64 3 w.heap.size wr o' (faR ls T)) := by have := hO.out; rw [← HTR.out] at this; exact this
      clear hO hlt hp
      go_wp2
      go_ret2
      exact ⟨_, by rw [HT.out]; rfl, HF.out, hB.out⟩
    case pos =>
    have HI0 : Hid (Ow .i64 3 w.heap.size wr o' (F (L * p + 0))) := hO
    have HJ0 : Hid (Below w.heap.size w wr) := hB
    have hp60 : (p : Int) < 60 := by omega
    clear hO hB
    go_wp2
    go_loopw [6, 23] (fun o i wr => ∃ (q : Nat) (o' : Value), i = .int .i64 q ∧ o' = o ∧ q ≤ L ∧ Hid (Ow .i64 3 w.heap.size wr o' (F (L * p + q))) ∧ Hid (Below w.heap.size w wr)) (fun _ i _ => L - (intOf i).toNat)
    case atStart => exact ⟨0, _, rfl, rfl, by omega, HI0.out, HJ0.out⟩
    case round =>
      obtain ⟨q, o', rfl, ho', hq, hO, hB⟩ := hrel
      subst ho'
      clear HI0 HJ0
      by_cases hql : q < L
      case neg =>
        obtain rfl : q = L := by omega
        clear hql hq
        go_wp2
        go_roundw
        case rel => exact ⟨p + 1, _, by go_num, rfl, by omega, by rw [Nat.mul_succ]; exact hO.out, hB.out⟩
        case measure => simp [intOf]; omega
      case pos =>
      obtain ⟨⟨b, off⟩, u, rfl, hbl, hc0, hr0⟩ := HC.out wr q hql hB.out
      dsimp only at hc0 hbl
      have HRC : Hid _ := id hr0
      obtain ⟨x0, k0, rfl, hr1, hr2, hr3⟩ := hr0
      have HYQ : Hid (p < (ls.getD q []).length → (F (L * p + q)).length < T → F (L * p + (q + 1)) = F (L * p + q) ++ [(ls.getD q []).getD p 0]) := HYE.out p q hql
      have HNQ : Hid (¬ (p < (ls.getD q []).length ∧ (F (L * p + q)).length < T) → F (L * p + (q + 1)) = F (L * p + q)) := HNE.out p q hql
      have HLQ : Hid ((F (L * p + q)).length ≤ T) := HLE.out _
      have hi0 : (0 : Int) ≤ (q : Int) := by omega
      have hi1 : (q : Int) < (L : Int) := by omega
      have hp0 : (0 : Int) ≤ (p : Int) := by omega
      obtain ⟨G, hG⟩ : ∃ G, F (L * p + q) = G := ⟨_, rfl⟩
      rw [hG] at HYQ HNQ HLQ hO
      obtain ⟨X, hX⟩ : ∃ X, ls.getD q [] = X := ⟨_, rfl⟩
      rw [hX] at HYQ HNQ hr1 hr3 hc0 HRC
      unfold maxLen at hr2
      clear hX hG
      by_cases hpx : p < X.length
      case neg =>
        have HN2 : Hid (F (L * p + (q + 1)) = G) := HNQ.out (fun h => hpx h.1)
        have hpx' : ¬ ((p : Int) < (X.length : Int)) := by omega
        clear hpx hr3
        go_wp2
        go_roundw
        case rel => exact ⟨q + 1, _, by go_num, rfl, by omega, by rw [HN2.out]; exact hO.out, hB.out⟩
        case measure => simp [intOf]; omega
      case pos =>
      have hpx' : ((p : Int) < (X.length : Int)) := by omega
      obtain ⟨oa, oc, rfl, -⟩ := own_form hO.out
      by_cases hgt : G.length < T
      case neg =>
        have HN2 : Hid (F (L * p + (q + 1)) = G) := HNQ.out (fun h => hgt h.2)
        have hgt' : ¬ ((G.length : Int) < (T : Int)) := by omega
        clear hpx hgt hr3
        go_wp2
        go_roundw
        case rel => exact ⟨q + 1, _, by go_num, rfl, by omega, by rw [HN2.out]; exact hO.out, hB.out⟩
        case measure => simp [intOf]; omega
      case pos =>
      have HN2 : Hid (F (L * p + (q + 1)) = G ++ [X.getD p 0]) := HYQ.out hpx hgt
      have hgt' : ((G.length : Int) < (T : Int)) := by omega
      obtain ⟨⟨b2, off2⟩, rfl, hbl2, hc2⟩ := rdc (HRC.out) wr p hpx hB.out
      dsimp only at hc2 hbl2
      obtain ⟨z, hz⟩ : ∃ z, X.getD p 0 = z := ⟨_, rfl⟩
      rw [hz] at hc2 HN2
      have HGL : Hid (G.length < 501) := by show _ < _; have := HTB.out; omega
      have HSZ : Hid (w.heap.size ≤ wr.heap.size) := hB.out.size
      clear hz hpx hgt hr3 HYQ HNQ
      obtain ⟨vo, hvo⟩ : ∃ vo, Value.slice oa G.length oc = vo := ⟨_, rfl⟩
      have HVO : Hid (Value.slice oa G.length oc = vo) := hvo
      clear hvo
      go_wp2_with (at_builtin; refine appI rfl (.tmp 37) (.tmp 42) rfl w.heap.size _ G rfl (hO.out.alloc _) wr.heap.size z rfl (by simp) (by have := HGL.out; omega) (by have := HSZ.out; simp; omega) ?_)
      intro v6 w6 ho hb
      have HO6 : Hid (Ow .i64 3 w.heap.size w6 v6 (F (L * p + (q + 1)))) := by rw [HN2.out]; exact ho
      have HB6 : Hid (Below w.heap.size w w6) := (hB.out.alloc HSZ.out _).trans hb
      clear ho hb hO hB
      go_wp2
      go_roundw
      case rel => exact ⟨q + 1, _, by go_num, rfl, by omega, HO6.out, HB6.out⟩
      case measure => simp [intOf]; omega

end Go.Proofs.Ytiadakponjpkmaa
