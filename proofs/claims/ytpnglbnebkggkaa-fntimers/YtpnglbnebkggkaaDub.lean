/- Rules are drawn; no condition. -/
import Derived.Test.YtpnglbnebkggkaaDua
import Derived.Deep.DeepCutAuto
namespace Go.Proofs.Ytpnglbnebkggkaa
open Go.RowKit Go.ChangeShapes Go.WideShapes Go.ChangeAt
set_option linter.unusedVariables false
set_option linter.unusedSimpArgs false
set_option maxRecDepth 8000
/-- rules that are drawn -/
def DuR (g : Nat) (cv : Value) (zs : List Int) (w : World) (e : Ending) (w' : World) : Prop := ∃ (v : Value) (ls : Rls), e = .returned v ∧ Orr 31 w.heap.size w' v ls ∧ ls.length ≤ 7 ∧ (∀ r ∈ ls, r.pre.size ≤ 100 ∧ r.ad.size ≤ 100) ∧ Dc w w' g cv zs
set_option maxHeartbeats 25600000 in
theorem rules_c (g : Nat) (cv : Value) (zs : List Int) (w : World) (h : Dr w g cv zs) : Calls Try.prog 53 #[.pointer (some ⟨g, 0, none⟩)] w (DuR g cv zs w) := by
  have HD0 : Hid (Dc w w g cv zs) := Dc.start h
  obtain ⟨W0, hW0⟩ : ∃ W, w.alloc (Obj.cells #[] 31) = W := ⟨_, rfl⟩
  have HDA : Hid (Dc w W0 g cv zs) := by rw [← hW0]; exact HD0.out.below ((Below.refl _ _).alloc (Nat.le_refl _) _)
  have HOA : Hid (Orr 31 w.heap.size W0 (.slice (some ⟨w.heap.size, 0, none⟩) 0 0) []) := by rw [← hW0]; exact Orr.lit0 w _ (Nat.le_refl _)
  obtain ⟨v0, hv0⟩ : ∃ v, Value.slice (some ⟨w.heap.size, 0, none⟩) 0 0 = v := ⟨_, rfl⟩
  rw [hv0] at HOA
  have HW0 : Hid (w.alloc (Obj.cells #[] 31) = W0 ∧ Value.slice (some ⟨w.heap.size, 0, none⟩) 0 0 = v0) := ⟨hW0, hv0⟩
  clear h hW0 hv0 HD0
  go_enter Try.func53, Try.ntmps53
  go_wp2_with (fail)
  rw [HW0.out.1, HW0.out.2]
  clear HW0
  refine (below_c g cv zs _ _ HDA.out.dr (by omega)).mono ?_
  rintro e w1 ⟨k, rfl, k0, k1, -, d1, g1⟩
  have k2 := k1 (by omega)
  have HD1 : Hid (Dc w w1 g cv zs) := HDA.out.draw d1 g1
  have HO1 : Hid (Orr 31 w.heap.size w1 v0 []) := HOA.out.draw g1 HDA.out.lt
  clear d1 g1 k1 HDA HOA
  obtain ⟨k, rfl⟩ := Int.eq_ofNat_of_zero_le k0
  go_wp2
  go_loopw [3, 4] (fun v i wr => ∃ (m : Nat) (ls : Rls), i = .int .i64 m ∧ Hid (m + ls.length ≤ 7) ∧ Hid (∀ r ∈ ls, r.pre.size ≤ 100 ∧ r.ad.size ≤ 100) ∧ Hid (Orr 31 w.heap.size wr v ls) ∧ Hid (Dc w wr g cv zs)) (fun _ i _ => (intOf i).toNat)
  case atStart => exact ⟨k, [], rfl, by show _ ≤ _; simp; omega, fun r hr => by simp at hr, HO1.out, HD1.out⟩
  case round =>
    obtain ⟨m, ls, rfl, hm, hP, hO, hD⟩ := hrel
    clear HO1 HD1
    have hm7 : m ≤ 7 := by have := hm.out; omega
    by_cases hm0 : m = 0
    case pos =>
      subst hm0
      have HL : Hid (ls.length ≤ 7) := by have := hm.out; show _ ≤ _; omega
      have e0 : decide ((0 : Int) < ((0 : Nat) : Int)) = false := by decide
      go_wp2
      go_ret
      exact ⟨_, ls, rfl, hO.out, HL.out, hP.out, hD.out⟩
    case neg =>
    have hmp : decide ((0 : Int) < (m : Int)) = true := by simp; omega
    go_wp2_with (fail)
    refine (below_c g cv zs _ _ hD.out.dr (by omega)).mono ?_
    rintro e w2 ⟨x, rfl, x0, x1, -, d1, g1⟩
    have x2 := x1 (by omega)
    have HD2 : Hid (Dc w w2 g cv zs) := hD.out.draw d1 g1
    have HO2 : Hid (Orr 31 w.heap.size w2 u3 ls) := hO.out.draw g1 hD.out.lt
    clear d1 g1 x1 hD hO
    go_wp2_with (fail)
    refine (digits_c g cv zs _ w2 HD2.out.dr (by omega) (by omega)).mono ?_
    rintro e w3 ⟨s, rfl, hs, d3⟩
    have HD3 : Hid (Dc w w3 g cv zs) := HD2.out.draw d3.dr d3.gr
    have HO3 : Hid (Orr 31 w.heap.size w3 u3 ls) := HO2.out.draw d3.gr HD2.out.lt
    have hs3 : s.size ≤ 3 := by omega
    clear d3 hs HD2 HO2
    go_wp2_with (fail)
    refine (below_c g cv zs _ _ HD3.out.dr (by omega)).mono ?_
    rintro e w4 ⟨ro, rfl, ro0, ro1, -, d1, g1⟩
    have ro2 := ro1 (by omega)
    have HD4 : Hid (Dc w w4 g cv zs) := HD3.out.draw d1 g1
    have HO4 : Hid (Orr 31 w.heap.size w4 u3 ls) := HO3.out.draw g1 HD3.out.lt
    clear d1 g1 ro1 HD3 HO3
    obtain ⟨gs, hgs⟩ : ∃ k, w4.heap.size = k := ⟨_, rfl⟩
    obtain ⟨W5, hW5⟩ : ∃ W, w4.alloc (Obj.cells (R6 ⟨s, 0, 0, ro, 0, ⟨#[]⟩⟩) 31) = W := ⟨_, rfl⟩
    have D5 : Hid (Du w u3 ls gs ⟨s, 0, 0, ro, 0, ⟨#[]⟩⟩ g cv zs W5.heap.size W5) := by
      have al : Below w4.heap.size w4 W5 := by rw [← hW5]; exact (Below.refl _ _).alloc (Nat.le_refl _) _
      have h1 : Blk W5 gs (R6 ⟨s, 0, 0, ro, 0, ⟨#[]⟩⟩) 31 := by rw [← hW5, ← hgs]; exact Blk.new _ _ _
      have h2 := HO4.out.below al
      exact ⟨h1, h2, HD4.out.below al, ⟨h1.lt, Nat.le_refl _, by rw [← hgs]; exact HD4.out.gr.size⟩, fun k e => (World.ownsRow.lt h2 k e).2, by
        cases hv : u3.ownBlock with
        | none => exact .inl rfl
        | some k => exact .inr (fun e => by have h7 := (World.ownsRow.lt HO4.out k hv).2; have := Option.some.inj e; omega)⟩
    have HW5 : Hid (w4.alloc (Obj.cells (R6 ⟨s, 0, 0, ro, 0, ⟨#[]⟩⟩) 31) = W5 ∧ w4.heap.size = gs) := ⟨hW5, hgs⟩
    clear hW5 hgs HD4 HO4
    go_upto_region 6 with fail
    rw [HW5.out.1, HW5.out.2]
    clear HW5
    obtain ⟨S, hS⟩ : ∃ S : World → Prop, ∀ W, S W ↔ Blk W gs (R6 ⟨s, 0, 0, ro, 0, ⟨#[]⟩⟩) 31 := ⟨_, fun _ => Iff.rfl⟩
    have y0 : ∀ W : N2.At S, W.wd.cell? ⟨gs, 0, none⟩ = some (.string s) := fun W => by have := ((hS _).1 W.ok).cell 0; simpa using this
    have HSI : Hid (∀ W K, Du w u3 ls gs ⟨s, 0, 0, ro, 0, ⟨#[]⟩⟩ g cv zs K W → S W) := fun W K h => (hS W).2 h.ks
    have DD : Hid (Du w u3 ls gs ⟨s, 0, 0, ro, 0, ⟨#[]⟩⟩ g cv zs W5.heap.size W5.drew) := D5.out.below (Below.refl _ _).drew
    have HSD : Hid (S W5.drew) := HSI.out _ _ DD.out
    have ne : Nonempty (N2.At S) := ⟨⟨_, HSD.out⟩⟩
    clear hS D5
    refine N2.region_mixT [true, true, true, true, false, false, false, false] 6 2 S (by kernel_rfl) rfl (by kernel_rfl) (fun _ _ _ _ _ h => h) HSD.out ?_
    simp only [N2.selT, N2.selF]
    try simp only [Act.put]
    repeat (go_big_quiet_step (fail))
    refine wpQuiet_nil ?_
    refine N2.tail_step ?_
    clear y0 ne
    go_wp2_with (fail)
    refine (below_c g cv zs _ _ DD.out.dc.dr (by omega)).mono ?_
    rintro e w6a ⟨y, rfl, y0, y1, -, d1, g1⟩
    have y2 := y1 (by omega)
    have DE : Hid (Du w u3 ls gs ⟨s, 0, 0, ro, 0, ⟨#[]⟩⟩ g cv zs w6a.heap.size w6a) := (DD.out.draw d1 g1).re
    have HSE : Hid (S w6a) := HSI.out _ _ DE.out
    clear d1 g1 y1 DD HSD
    go_wp2
    refine ⟨HSE.out, N2.tail_step ?_⟩
    go_wp2
    have xk := DE.out.ks.cell 1
    have fk := DE.out.ks.frozen 1
    have lk := DE.out.ks.lt
    simp at xk
    obtain ⟨w6, hw6⟩ : ∃ W, w6a.setCell ⟨gs, 1, none⟩ (.int .i64 ((s.size : Int) + y)) = W := ⟨_, rfl⟩
    have Dw6 : Hid (Du w u3 ls gs ⟨s, ((s.size : Int) + y), 0, ro, 0, ⟨#[]⟩⟩ g cv zs w6.heap.size w6) := by rw [← hw6]; exact (DE.out.set 1 (.int .i64 ((s.size : Int) + y)) (r' := ⟨s, ((s.size : Int) + y), 0, ro, 0, ⟨#[]⟩⟩) rfl).re
    have HW : Hid (w6a.setCell ⟨gs, 1, none⟩ (.int .i64 ((s.size : Int) + y)) = w6) := hw6
    clear hw6 HSI DE
    refine ⟨HSE.out, N2.tail_end ?_⟩
    go_upto_region 7 with fail
    rw [HW.out]
    clear HW xk fk lk HSE
    obtain ⟨S, hS⟩ : ∃ S : World → Prop, ∀ W, S W ↔ Blk W gs (R6 ⟨s, ((s.size : Int) + y), 0, ro, 0, ⟨#[]⟩⟩) 31 := ⟨_, fun _ => Iff.rfl⟩
    have y0 : ∀ W : N2.At S, W.wd.cell? ⟨gs, 1, none⟩ = some (.int .i64 ((s.size : Int) + y)) := fun W => by have := ((hS _).1 W.ok).cell 1; simpa using this
    have HSI : Hid (∀ W K, Du w u3 ls gs ⟨s, ((s.size : Int) + y), 0, ro, 0, ⟨#[]⟩⟩ g cv zs K W → S W) := fun W K h => (hS W).2 h.ks
    have DD : Hid (Du w u3 ls gs ⟨s, ((s.size : Int) + y), 0, ro, 0, ⟨#[]⟩⟩ g cv zs w6.heap.size w6.drew) := Dw6.out.below (Below.refl _ _).drew
    have HSD : Hid (S w6.drew) := HSI.out _ _ DD.out
    have ne : Nonempty (N2.At S) := ⟨⟨_, HSD.out⟩⟩
    clear hS Dw6
    refine N2.region_mixT [true, true, true, false, false, false, false] 5 2 S (by kernel_rfl) rfl (by kernel_rfl) (fun _ _ _ _ _ h => h) HSD.out ?_
    simp only [N2.selT, N2.selF]
    try simp only [Act.put]
    repeat (go_big_quiet_step (fail))
    refine wpQuiet_nil ?_
    refine N2.tail_step ?_
    clear y0 ne
    go_wp2_with (fail)
    refine (below_c g cv zs _ _ DD.out.dc.dr (by omega)).mono ?_
    rintro e w7a ⟨z, rfl, z0, z1, -, d1, g1⟩
    have z2 := z1 (by omega)
    have DE : Hid (Du w u3 ls gs ⟨s, ((s.size : Int) + y), 0, ro, 0, ⟨#[]⟩⟩ g cv zs w7a.heap.size w7a) := (DD.out.draw d1 g1).re
    have HSE : Hid (S w7a) := HSI.out _ _ DE.out
    clear d1 g1 z1 DD HSD
    go_wp2
    refine ⟨HSE.out, N2.tail_step ?_⟩
    go_wp2
    have xk := DE.out.ks.cell 2
    have fk := DE.out.ks.frozen 2
    have lk := DE.out.ks.lt
    simp at xk
    obtain ⟨w7, hw7⟩ : ∃ W, w7a.setCell ⟨gs, 2, none⟩ (.int .i64 ((s.size : Int) + y + z)) = W := ⟨_, rfl⟩
    have Dw7 : Hid (Du w u3 ls gs ⟨s, ((s.size : Int) + y), ((s.size : Int) + y + z), ro, 0, ⟨#[]⟩⟩ g cv zs w7.heap.size w7) := by rw [← hw7]; exact (DE.out.set 2 (.int .i64 ((s.size : Int) + y + z)) (r' := ⟨s, ((s.size : Int) + y), ((s.size : Int) + y + z), ro, 0, ⟨#[]⟩⟩) rfl).re
    have HW : Hid (w7a.setCell ⟨gs, 2, none⟩ (.int .i64 ((s.size : Int) + y + z)) = w7) := hw7
    clear hw7 HSI DE
    refine ⟨HSE.out, N2.tail_end ?_⟩
    go_upto_region 8 with fail
    rw [HW.out]
    clear HW xk fk lk HSE
    have hle : (s.size : Int) + y ≤ 10 ∧ 0 ≤ (s.size : Int) + y := by omega
    obtain ⟨le, hLE⟩ : ∃ le : Int, (s.size : Int) + y = le := ⟨_, rfl⟩
    rw [hLE] at Dw7 hle
    try rw [hLE]
    clear hLE
    have x1 := Dw7.out.ks.cell 1
    have xl := Dw7.out.ks.lt
    simp at x1
    go_wp2_with (fail)
    refine (below_c g cv zs _ _ Dw7.out.dc.dr (by omega)).mono ?_
    rintro e w8a ⟨st, rfl, st0, st1, -, d1, g1⟩
    have st2 := st1 (by omega)
    have D8a : Hid (Du w u3 ls gs ⟨s, le, (le + z), ro, 0, ⟨#[]⟩⟩ g cv zs w8a.heap.size w8a) := (Dw7.out.draw d1 g1).re
    clear d1 g1 st1 x1 xl Dw7
    have x4 := D8a.out.ks.cell 4
    have f4 := D8a.out.ks.frozen 4
    have l4 := D8a.out.ks.lt
    simp at x4
    have D8 : Hid (∀ W, w8a.setCell ⟨gs, 4, none⟩ (.int .i64 st) = W → Du w u3 ls gs ⟨s, le, (le + z), ro, st, ⟨#[]⟩⟩ g cv zs W.heap.size W) := fun W hW => by rw [← hW]; exact (D8a.out.set 4 (.int .i64 st) (r' := ⟨s, le, (le + z), ro, st, ⟨#[]⟩⟩) rfl).re
    obtain ⟨w8, hw8⟩ : ∃ W, w8a.setCell ⟨gs, 4, none⟩ (.int .i64 st) = W := ⟨_, rfl⟩
    have D8b : Hid (Du w u3 ls gs ⟨s, le, (le + z), ro, st, ⟨#[]⟩⟩ g cv zs w8.heap.size w8) := D8.out _ hw8
    have HW8 : Hid (w8a.setCell ⟨gs, 4, none⟩ (.int .i64 st) = w8) := hw8
    clear hw8 D8 D8a
    go_wp2_with (fail)
    rw [HW8.out]
    clear HW8 x4 f4 l4
    refine (below_c g cv zs _ _ D8b.out.dc.dr (by omega)).mono ?_
    rintro e w9 ⟨q, rfl, q0, q1, -, d1, g1⟩
    have q2 := q1 (by omega)
    have D9 : Hid (Du w u3 ls gs ⟨s, le, (le + z), ro, st, ⟨#[]⟩⟩ g cv zs w9.heap.size w9) := (D8b.out.draw d1 g1).re
    clear d1 g1 q1 D8b
    go_wp2_with (fail)
    refine (digits_c g cv zs _ w9 D9.out.dc.dr (by omega) (by omega)).mono ?_
    rintro e w10 ⟨ad, rfl, had, d3⟩
    have D10 : Hid (Du w u3 ls gs ⟨s, le, (le + z), ro, st, ⟨#[]⟩⟩ g cv zs w10.heap.size w10) := (D9.out.draw d3.dr d3.gr).re
    have had3 : ad.size ≤ 3 := by omega
    clear d3 had D9
    have x5 := D10.out.ks.cell 5
    have f5 := D10.out.ks.frozen 5
    have l5 := D10.out.ks.lt
    simp at x5
    obtain ⟨w11, hw11⟩ : ∃ W, w10.setCell ⟨gs, 5, none⟩ (.string ad) = W := ⟨_, rfl⟩
    have D11 : Hid (Du w u3 ls gs ⟨s, le, (le + z), ro, st, ad⟩ g cv zs w11.heap.size w11) := by rw [← hw11]; exact (D10.out.set 5 (.string ad) (r' := ⟨s, le, (le + z), ro, st, ad⟩) rfl).re
    have HW11 : Hid (w10.setCell ⟨gs, 5, none⟩ (.string ad) = w11) := hw11
    clear hw11 D10
    go_upto_region 10 with fail
    rw [HW11.out]
    clear HW11 x5 f5 l5
    obtain ⟨r, hr⟩ : ∃ r : Rl, r = ⟨s, le, (le + z), ro, st, ad⟩ := ⟨_, rfl⟩
    have HRS : Hid (r.pre.size ≤ 100 ∧ r.ad.size ≤ 100) := by rw [hr]; show s.size ≤ 100 ∧ ad.size ≤ 100; omega
    rw [← hr] at D11
    clear hr
    obtain ⟨K0, hK0⟩ : ∃ k, w11.heap.size = k := ⟨_, rfl⟩
    rw [hK0] at D11
    have HLS : Hid (ls.length ≤ 7) := by have := hm.out; show _ ≤ _; omega
    go_cut [51] from 9 to 55 (fun t wx => ∃ q : Bool, t = .bool q ∧ Hid (Du w u3 ls gs r g cv zs K0 wx))
    case first =>
      obtain ⟨S, hS⟩ : ∃ S : World → Prop, ∀ W, S W ↔ Blk W gs (R6 r) 31 := ⟨_, fun _ => Iff.rfl⟩
      have t0 : ∀ W : At S, W.wd.cell? ⟨gs, 0, none⟩ = some (.string r.pre) := fun W => by have := ((hS _).1 W.ok).cell 0; simpa using this
      have t1 : ∀ W : At S, W.wd.cell? ⟨gs, 1, none⟩ = some (.int .i64 r.le) := fun W => by have := ((hS _).1 W.ok).cell 1; simpa using this
      have t2 : ∀ W : At S, W.wd.cell? ⟨gs, 2, none⟩ = some (.int .i64 r.mo) := fun W => by have := ((hS _).1 W.ok).cell 2; simpa using this
      have t3 : ∀ W : At S, W.wd.cell? ⟨gs, 3, none⟩ = some (.int .i64 r.ro) := fun W => by have := ((hS _).1 W.ok).cell 3; simpa using this
      have t4 : ∀ W : At S, W.wd.cell? ⟨gs, 4, none⟩ = some (.int .i64 r.st) := fun W => by have := ((hS _).1 W.ok).cell 4; simpa using this
      have t5 : ∀ W : At S, W.wd.cell? ⟨gs, 5, none⟩ = some (.string r.ad) := fun W => by have := ((hS _).1 W.ok).cell 5; simpa using this
      have HSI : Hid (∀ W K, Du w u3 ls gs r g cv zs K W → S W) := fun W K h => (hS W).2 h.ks
      clear hS hK0
      have DA : Hid (Du w u3 ls gs r g cv zs K0 w11.drew) := D11.out.below (Below.refl _ _).drew
      obtain ⟨wa, hwa⟩ : ∃ W, w11.drew = W := ⟨_, rfl⟩
      have ne1 : Nonempty (At S) := ⟨⟨w11.drew, HSI.out _ _ DA.out⟩⟩
      refine region_anyS S (by kernel_rfl) ?_
      refine anyS_quiet [false, true, false, true, false, false, false] 5 rfl (by kernel_rfl) (fun _ _ _ _ _ h => h) (HSI.out _ _ DA.out) ?_
      simp only [selT]
      repeat (go_big_quiet_step (fail))
      refine wpQuiet_nil ?_
      rw [hwa] at DA ⊢
      have D_wa := DA
      clear hwa t0 t1 t2 t3 t4 t5 ne1 DA D11
      refine anyS_two 0 4 (by kernel_rfl) rfl rfl ?_ ?_
      · obtain ⟨wae, hwae⟩ : ∃ W, wa.alloc (Obj.cells #[] 31) = W := ⟨_, rfl⟩
        obtain ⟨ga, hga⟩ : ∃ k, wa.heap.size = k := ⟨_, rfl⟩
        have D_wae : Hid (Du w u3 ls gs r g cv zs K0 wae) := by rw [← hwae]; exact D_wa.out.alloc _
        have E_wae : Hid (Orr 31 K0 wae (.slice (some ⟨ga, 0, none⟩) 0 0) []) := by rw [← hwae, ← hga]; exact Orr.lit0 wa K0 D_wa.out.k0.2.1
        go_wp2
        clear hwae
        refine ⟨HSI.out _ _ D_wae.out, ?_⟩
        refine anyS_two 2 4 (by kernel_rfl) rfl rfl ?_ ?_
        · refine appR rfl _ _ rfl K0 _ [] rfl E_wae.out _ ls rfl D_wae.out.ow.rd (by have := HLS.out; simp; omega) D_wae.out.k0.2.1 ?_
          intro v' waea ho hg
          have hrow : ∀ k, (Value.slice (some ⟨ga, 0, none⟩) 0 0).ownBlock = some k → K0 ≤ k := fun k e => (World.ownsRow.lt E_wae.out k e).1
          have D_waea : Hid (Du w u3 ls gs r g cv zs K0 waea) := D_wae.out.grown hg hrow
          have F_waea : Hid (Orr 31 K0 waea v' ls) := by show Orr 31 K0 waea v' ls; rw [List.nil_append] at ho; exact ho
          clear ho hg hrow
          refine wpList_nil ?_
          refine ⟨HSI.out _ _ D_waea.out, ?_⟩
          refine anyS_one 4 (by kernel_rfl) rfl ?_
          obtain ⟨waeaf, hwaeaf⟩ : ∃ W, waea.alloc (Obj.cells (R6 r) 31) = W := ⟨_, rfl⟩
          obtain ⟨gb, hgb⟩ : ∃ k, waea.heap.size = k := ⟨_, rfl⟩
          have D_waeaf : Hid (Du w u3 ls gs r g cv zs K0 waeaf) := by rw [← hwaeaf]; exact D_waea.out.alloc _
          have B_waeaf : Hid (Blk waeaf gb (R6 r) 31 ∧ K0 ≤ gb) := ⟨by rw [← hwaeaf, ← hgb]; exact Blk.new _ _ _, by rw [← hgb]; exact D_waea.out.k0.2.1⟩
          have F_waeaf : Hid (Orr 31 K0 waeaf v' ls) := by rw [← hwaeaf]; exact World.ownsRow.alloc F_waea.out _
          go_wp2
          clear hwaeaf
          refine ⟨HSI.out _ _ D_waeaf.out, ?_⟩
          refine anyS_one 5 (by kernel_rfl) rfl ?_
          refine appR rfl _ _ rfl K0 _ ls rfl F_waeaf.out _ [r] rfl (Rr.one B_waeaf.out.1) (by have := HLS.out; simp; omega) D_waeaf.out.k0.2.1 ?_
          intro v2 waeafz ho hg
          have hrow : ∀ k, v'.ownBlock = some k → K0 ≤ k := fun k e => (World.ownsRow.lt F_waeaf.out k e).1
          have D_waeafz : Hid (Du w u3 ls gs r g cv zs K0 waeafz) := D_waeaf.out.grown hg hrow
          have F_waeafz : Hid (Orr 31 K0 waeafz v2 (ls ++ [r])) := ho
          clear ho hg hrow
          refine wpList_nil ?_
          refine ⟨HSI.out _ _ D_waeafz.out, ?_⟩
          refine anyS_one 6 (by kernel_rfl) rfl ?_
          go_wp2_with (fail)
          refine (rulesM_c v2 (ls ++ [r]) waeafz F_waeafz.out.rd (fun t ht => by rcases List.mem_append.1 ht with h | h; exact ⟨by have := (hP.out t h).1; omega, by have := (hP.out t h).2; omega⟩; rw [List.mem_singleton] at h; subst h; exact ⟨by have := HRS.out.1; omega, by have := HRS.out.2; omega⟩)).mono ?_
          rintro e we ⟨qq, rfl, -, be⟩
          have DZ : Hid (Du w u3 ls gs r g cv zs K0 we) := D_waeafz.out.below be
          have SZ : Hid (S we) := HSI.out _ _ DZ.out
          clear be
          go_wp2
          refine ⟨SZ.out, ?_⟩
          refine anyS_end (by kernel_rfl) ?_
          go_wp2_with fail
          go_meet
          case rel => exact ⟨qq, rfl, DZ.out⟩
        · obtain ⟨waef, hwaef⟩ : ∃ W, wae.alloc (Obj.cells (R6 r) 31) = W := ⟨_, rfl⟩
          obtain ⟨gb, hgb⟩ : ∃ k, wae.heap.size = k := ⟨_, rfl⟩
          have D_waef : Hid (Du w u3 ls gs r g cv zs K0 waef) := by rw [← hwaef]; exact D_wae.out.alloc _
          have B_waef : Hid (Blk waef gb (R6 r) 31 ∧ K0 ≤ gb) := ⟨by rw [← hwaef, ← hgb]; exact Blk.new _ _ _, by rw [← hgb]; exact D_wae.out.k0.2.1⟩
          have E_waef : Hid (Orr 31 K0 waef (.slice (some ⟨ga, 0, none⟩) 0 0) []) := by rw [← hwaef]; exact World.ownsRow.alloc E_wae.out _
          have HNE : Hid (ga ≠ gb) := by have := (World.ownsRow.lt E_wae.out ga rfl).2; show _ ≠ _; omega
          go_wp2
          clear hwaef
          refine ⟨HSI.out _ _ D_waef.out, ?_⟩
          refine anyS_one 2 (by kernel_rfl) rfl ?_
          refine appR rfl _ _ rfl K0 _ [] rfl E_waef.out _ ls rfl D_waef.out.ow.rd (by have := HLS.out; simp; omega) D_waef.out.k0.2.1 ?_
          intro v' waefa ho hg
          have hrow : ∀ k, (Value.slice (some ⟨ga, 0, none⟩) 0 0).ownBlock = some k → K0 ≤ k := fun k e => (World.ownsRow.lt E_waef.out k e).1
          have D_waefa : Hid (Du w u3 ls gs r g cv zs K0 waefa) := D_waef.out.grown hg hrow
          have F_waefa : Hid (Orr 31 K0 waefa v' ls) := by show Orr 31 K0 waefa v' ls; rw [List.nil_append] at ho; exact ho
          have B_waefa : Hid (Blk waefa gb (R6 r) 31 ∧ K0 ≤ gb) := ⟨B_waef.out.1.grown hg (fun e => by have e2 : (Value.slice (some ⟨ga, 0, none⟩) 0 0).ownBlock = some gb := e.symm; have h1 : ga = gb := (by simpa [Value.ownBlock] using e2); have := HNE.out; omega), B_waef.out.2⟩
          clear ho hg hrow
          refine wpList_nil ?_
          refine ⟨HSI.out _ _ D_waefa.out, ?_⟩
          refine anyS_one 5 (by kernel_rfl) rfl ?_
          refine appR rfl _ _ rfl K0 _ ls rfl F_waefa.out _ [r] rfl (Rr.one B_waefa.out.1) (by have := HLS.out; simp; omega) D_waefa.out.k0.2.1 ?_
          intro v2 waefaz ho hg
          have hrow : ∀ k, v'.ownBlock = some k → K0 ≤ k := fun k e => (World.ownsRow.lt F_waefa.out k e).1
          have D_waefaz : Hid (Du w u3 ls gs r g cv zs K0 waefaz) := D_waefa.out.grown hg hrow
          have F_waefaz : Hid (Orr 31 K0 waefaz v2 (ls ++ [r])) := ho
          clear ho hg hrow
          refine wpList_nil ?_
          refine ⟨HSI.out _ _ D_waefaz.out, ?_⟩
          refine anyS_one 6 (by kernel_rfl) rfl ?_
          go_wp2_with (fail)
          refine (rulesM_c v2 (ls ++ [r]) waefaz F_waefaz.out.rd (fun t ht => by rcases List.mem_append.1 ht with h | h; exact ⟨by have := (hP.out t h).1; omega, by have := (hP.out t h).2; omega⟩; rw [List.mem_singleton] at h; subst h; exact ⟨by have := HRS.out.1; omega, by have := HRS.out.2; omega⟩)).mono ?_
          rintro e we ⟨qq, rfl, -, be⟩
          have DZ : Hid (Du w u3 ls gs r g cv zs K0 we) := D_waefaz.out.below be
          have SZ : Hid (S we) := HSI.out _ _ DZ.out
          clear be
          go_wp2
          refine ⟨SZ.out, ?_⟩
          refine anyS_end (by kernel_rfl) ?_
          go_wp2_with fail
          go_meet
          case rel => exact ⟨qq, rfl, DZ.out⟩
      · obtain ⟨waf, hwaf⟩ : ∃ W, wa.alloc (Obj.cells (R6 r) 31) = W := ⟨_, rfl⟩
        obtain ⟨gb, hgb⟩ : ∃ k, wa.heap.size = k := ⟨_, rfl⟩
        have D_waf : Hid (Du w u3 ls gs r g cv zs K0 waf) := by rw [← hwaf]; exact D_wa.out.alloc _
        have B_waf : Hid (Blk waf gb (R6 r) 31 ∧ K0 ≤ gb) := ⟨by rw [← hwaf, ← hgb]; exact Blk.new _ _ _, by rw [← hgb]; exact D_wa.out.k0.2.1⟩
        go_wp2
        clear hwaf
        refine ⟨HSI.out _ _ D_waf.out, ?_⟩
        refine anyS_one 0 (by kernel_rfl) rfl ?_
        obtain ⟨wafe, hwafe⟩ : ∃ W, waf.alloc (Obj.cells #[] 31) = W := ⟨_, rfl⟩
        obtain ⟨ga, hga⟩ : ∃ k, waf.heap.size = k := ⟨_, rfl⟩
        have D_wafe : Hid (Du w u3 ls gs r g cv zs K0 wafe) := by rw [← hwafe]; exact D_waf.out.alloc _
        have E_wafe : Hid (Orr 31 K0 wafe (.slice (some ⟨ga, 0, none⟩) 0 0) []) := by rw [← hwafe, ← hga]; exact Orr.lit0 waf K0 D_waf.out.k0.2.1
        have B_wafe : Hid (Blk wafe gb (R6 r) 31 ∧ K0 ≤ gb) := ⟨by rw [← hwafe]; exact B_waf.out.1.alloc _, B_waf.out.2⟩
        have HNE : Hid (ga ≠ gb) := by have := B_waf.out.1.lt; show _ ≠ _; omega
        go_wp2
        clear hwafe
        refine ⟨HSI.out _ _ D_wafe.out, ?_⟩
        refine anyS_one 2 (by kernel_rfl) rfl ?_
        refine appR rfl _ _ rfl K0 _ [] rfl E_wafe.out _ ls rfl D_wafe.out.ow.rd (by have := HLS.out; simp; omega) D_wafe.out.k0.2.1 ?_
        intro v' wafea ho hg
        have hrow : ∀ k, (Value.slice (some ⟨ga, 0, none⟩) 0 0).ownBlock = some k → K0 ≤ k := fun k e => (World.ownsRow.lt E_wafe.out k e).1
        have D_wafea : Hid (Du w u3 ls gs r g cv zs K0 wafea) := D_wafe.out.grown hg hrow
        have F_wafea : Hid (Orr 31 K0 wafea v' ls) := by show Orr 31 K0 wafea v' ls; rw [List.nil_append] at ho; exact ho
        have B_wafea : Hid (Blk wafea gb (R6 r) 31 ∧ K0 ≤ gb) := ⟨B_wafe.out.1.grown hg (fun e => by have e2 : (Value.slice (some ⟨ga, 0, none⟩) 0 0).ownBlock = some gb := e.symm; have h1 : ga = gb := (by simpa [Value.ownBlock] using e2); have := HNE.out; omega), B_wafe.out.2⟩
        clear ho hg hrow
        refine wpList_nil ?_
        refine ⟨HSI.out _ _ D_wafea.out, ?_⟩
        refine anyS_one 5 (by kernel_rfl) rfl ?_
        refine appR rfl _ _ rfl K0 _ ls rfl F_wafea.out _ [r] rfl (Rr.one B_wafea.out.1) (by have := HLS.out; simp; omega) D_wafea.out.k0.2.1 ?_
        intro v2 wafeaz ho hg
        have hrow : ∀ k, v'.ownBlock = some k → K0 ≤ k := fun k e => (World.ownsRow.lt F_wafea.out k e).1
        have D_wafeaz : Hid (Du w u3 ls gs r g cv zs K0 wafeaz) := D_wafea.out.grown hg hrow
        have F_wafeaz : Hid (Orr 31 K0 wafeaz v2 (ls ++ [r])) := ho
        clear ho hg hrow
        refine wpList_nil ?_
        refine ⟨HSI.out _ _ D_wafeaz.out, ?_⟩
        refine anyS_one 6 (by kernel_rfl) rfl ?_
        go_wp2_with (fail)
        refine (rulesM_c v2 (ls ++ [r]) wafeaz F_wafeaz.out.rd (fun t ht => by rcases List.mem_append.1 ht with h | h; exact ⟨by have := (hP.out t h).1; omega, by have := (hP.out t h).2; omega⟩; rw [List.mem_singleton] at h; subst h; exact ⟨by have := HRS.out.1; omega, by have := HRS.out.2; omega⟩)).mono ?_
        rintro e we ⟨qq, rfl, -, be⟩
        have DZ : Hid (Du w u3 ls gs r g cv zs K0 we) := D_wafeaz.out.below be
        have SZ : Hid (S we) := HSI.out _ _ DZ.out
        clear be
        go_wp2
        refine ⟨SZ.out, ?_⟩
        refine anyS_end (by kernel_rfl) ?_
        go_wp2_with fail
        go_meet
        case rel => exact ⟨qq, rfl, DZ.out⟩
    case rest =>
    obtain ⟨q, rfl, DC⟩ := hcut
    clear D11
    obtain ⟨m', hm'⟩ : ∃ m', m = m' + 1 := ⟨m - 1, by omega⟩
    have HM : Hid (m = m' + 1) := hm'
    have hmI : (m : Int) - 1 = (m' : Int) := by omega
    clear hm' hK0
    cases q
    · go_wp2
      go_roundw
      case rel => exact ⟨m', ls, by first | rfl | rw [hmI], by have := hm.out; have := HM.out; show _ ≤ _; omega, hP.out, DC.out.ow, DC.out.dc⟩
      case measure => have := HM.out; simp [intOf]; omega
    · obtain ⟨gx, hgx⟩ : ∃ k, wc.heap.size = k := ⟨_, rfl⟩
      obtain ⟨WX, hWX⟩ : ∃ W, wc.alloc (Obj.cells (R6 r) 31) = W := ⟨_, rfl⟩
      have KX : Hid (Blk WX gx (R6 r) 31) := by rw [← hWX, ← hgx]; exact Blk.new _ _ _
      have DX : Hid (Du w u3 ls gs r g cv zs K0 WX) := by rw [← hWX]; exact DC.out.alloc _
      have t0 : wc.cell? ⟨gs, 0, none⟩ = some (.string r.pre) := by have := DC.out.ks.cell 0; simpa using this
      have t1 : wc.cell? ⟨gs, 1, none⟩ = some (.int .i64 r.le) := by have := DC.out.ks.cell 1; simpa using this
      have t2 : wc.cell? ⟨gs, 2, none⟩ = some (.int .i64 r.mo) := by have := DC.out.ks.cell 2; simpa using this
      have t3 : wc.cell? ⟨gs, 3, none⟩ = some (.int .i64 r.ro) := by have := DC.out.ks.cell 3; simpa using this
      have t4 : wc.cell? ⟨gs, 4, none⟩ = some (.int .i64 r.st) := by have := DC.out.ks.cell 4; simpa using this
      have t5 : wc.cell? ⟨gs, 5, none⟩ = some (.string r.ad) := by have := DC.out.ks.cell 5; simpa using this
      have tl := DC.out.ks.lt
      have HWX : Hid (wc.alloc (Obj.cells (R6 r) 31) = WX) := hWX
      have HGX : Hid (wc.heap.size = gx) := hgx
      clear hWX hgx
      go_wp2_with (at_builtin; rw [HWX.out]; refine appR rfl _ _ rfl w.heap.size _ ls rfl DX.out.ow (.slice (some ⟨gx, 0, none⟩) 1 1) [r] (by rw [← HGX.out]; rfl) (Rr.one KX.out) (by have := HLS.out; simp; omega) DX.out.dc.gr.size ?_)
      intro v' w' ho hg
      have HON : Hid (Orr 31 w.heap.size w' v' (ls ++ [r])) := ho
      have HDN : Hid (Dc w w' g cv zs) := DX.out.dc.app (fun k e => (World.ownsRow.lt DX.out.ow k e).1) hg
      have HPN : Hid (∀ c ∈ ls ++ [r], c.pre.size ≤ 100 ∧ c.ad.size ≤ 100) := by
        intro c hc
        rcases List.mem_append.1 hc with h | h
        · exact hP.out c h
        · rw [List.mem_singleton] at h; subst h; exact HRS.out
      clear ho hg t0 t1 t2 t3 t4 t5 tl
      go_wp2
      go_roundw
      case rel => exact ⟨m', _, by first | rfl | rw [hmI], by have := hm.out; have := HM.out; show _ ≤ _; rw [List.length_append]; simp only [List.length_singleton]; omega, HPN.out, HON.out, HDN.out⟩
      case measure => have := HM.out; simp [intOf]; omega
end Go.Proofs.Ytpnglbnebkggkaa
