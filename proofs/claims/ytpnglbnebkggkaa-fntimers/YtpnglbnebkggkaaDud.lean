/- Digits are drawn; no condition. -/
import Derived.Test.YtpnglbnebkggkaaDuc
namespace Go.Proofs.Ytpnglbnebkggkaa
open Go.RowKit Go.ChangeShapes Go.WideShapes Go.ChangeAt
set_option linter.unusedVariables false
set_option linter.unusedSimpArgs false
set_option maxRecDepth 8000
/-- digits that are drawn -/
def DgD (g : Nat) (cv : Value) (zs : List Int) (w : World) (e : Ending) (w' : World) : Prop := ∃ s : ByteArray, e = .returned (.string s) ∧ s.size ≤ 200 ∧ Dc w w' g cv zs
set_option maxHeartbeats 25600000 in
theorem dialled27_c (g : Nat) (cv : Value) (zs : List Int) (B : Nat) (v : Value) (ls : Rls) (w : World) (h : Dr w g cv zs) (ho : Orr 31 B w v ls) (hB : g < B) (hl : ls.length ≤ 7) (hP : ∀ r ∈ ls, r.pre.size ≤ 100 ∧ r.ad.size ≤ 100) : Calls Try.prog 27 #[.pointer (some ⟨g, 0, none⟩), v] w (DgD g cv zs w) := by
  have HD0 : Hid (Dc w w g cv zs) := Dc.start h
  have HO0 : Hid (Orr 31 B w v ls) := ho
  have HP : Hid (∀ r ∈ ls, r.pre.size ≤ 100 ∧ r.ad.size ≤ 100) := hP
  have HB : Hid (g < B) := hB
  obtain ⟨a, cap, rfl, h1, h2, h3⟩ := own_form ho
  clear h ho hP hB
  go_enter Try.func27, Try.ntmps27
  go_wp2_with (fail)
  refine (below_c g cv zs _ _ HD0.out.dr (by omega)).mono ?_
  rintro e w1 ⟨x, rfl, x0, x1, -, d1, g1⟩
  have x2 := x1 (by omega)
  have HD1 : Hid (Dc w w1 g cv zs) := HD0.out.draw d1 g1
  have HO1 : Hid (Orr 31 B w1 (.slice a ls.length cap) ls) := HO0.out.draw g1 HB.out
  clear d1 g1 x1 HD0 HO0
  go_wp2_with (fail)
  refine (digits_c g cv zs _ w1 HD1.out.dr (by omega) (by omega)).mono ?_
  rintro e w2 ⟨s, rfl, hs, d3⟩
  have HD2 : Hid (Dc w w2 g cv zs) := HD1.out.draw d3.dr d3.gr
  have HO2 : Hid (Orr 31 B w2 (.slice a ls.length cap) ls) := HO1.out.draw d3.gr HB.out
  have hs3 : s.size ≤ 150 := by omega
  clear d3 hs HD1 HO1
  by_cases hn : ls.length = 0
  · rw [hn]
    clear h3 HO2 h1 hn
    go_wp2_with (fail)
    refine (once_c g cv zs _ _ HD2.out.dr (by omega)).mono ?_
    rintro e wo ⟨qo, rfl, d1, g1⟩
    have HDo : Hid (Dc w wo g cv zs) := HD2.out.draw d1 g1
    clear d1 g1 HD2
    cases qo
    · go_wp2
      go_ret
      exact ⟨_, rfl, by omega, HDo.out⟩
    · obtain ⟨X, hX⟩ : ∃ X, wo.heap.size = X := ⟨_, rfl⟩
      obtain ⟨W5, hW5⟩ : ∃ W, wo.alloc (Obj.cells #[.string ⟨#[120]⟩, .string ⟨#[45]⟩, .string ⟨#[49, 50, 51, 52, 53, 54, 55, 56, 57, 48, 49, 50, 51, 52, 53, 54, 55, 56, 57, 48]⟩] 9) = W := ⟨_, rfl⟩
      have HR : Hid (Rx W5 (.slice (some ⟨X, 0, none⟩) 3 3) [⟨#[120]⟩, ⟨#[45]⟩, ⟨#[49, 50, 51, 52, 53, 54, 55, 56, 57, 48, 49, 50, 51, 52, 53, 54, 55, 56, 57, 48]⟩]) := by rw [← hW5, ← hX]; exact Rx.lit wo [⟨#[120]⟩, ⟨#[45]⟩, ⟨#[49, 50, 51, 52, 53, 54, 55, 56, 57, 48, 49, 50, 51, 52, 53, 54, 55, 56, 57, 48]⟩] (by decide)
      have HD5 : Hid (Dc w W5 g cv zs) := by rw [← hW5]; exact HDo.out.below ((Below.refl _ _).alloc (Nat.le_refl _) _)
      have HGX : Hid (g < X) := by rw [← hX]; exact HDo.out.dr.lt
      have HW5 : Hid (wo.alloc (Obj.cells #[.string ⟨#[120]⟩, .string ⟨#[45]⟩, .string ⟨#[49, 50, 51, 52, 53, 54, 55, 56, 57, 48, 49, 50, 51, 52, 53, 54, 55, 56, 57, 48]⟩] 9) = W5 ∧ wo.heap.size = X) := ⟨hW5, hX⟩
      clear hW5 hX HDo
      go_wp2_with (fail)
      rw [HW5.out.1, HW5.out.2]
      refine (pick_c g cv zs _ [⟨#[120]⟩, ⟨#[45]⟩, ⟨#[49, 50, 51, 52, 53, 54, 55, 56, 57, 48, 49, 50, 51, 52, 53, 54, 55, 56, 57, 48]⟩] _ HD5.out.dr HR.out (.inr (by have := HGX.out; simp [Value.ownBlock]; omega)) (by decide) (by decide)).mono ?_
      rintro e w6 ⟨xx, rfl, hx, d1, g1⟩
      have hxs : xx.size ≤ 50 := by
        simp only [List.mem_cons, List.not_mem_nil, or_false] at hx
        rcases hx with rfl | rfl | rfl <;> decide
      have HD6 : Hid (Dc w w6 g cv zs) := HD5.out.draw d1 g1
      have HSZ : Hid ((s ++ xx).size ≤ 200) := by show _ ≤ _; rw [ByteArray.size_append]; omega
      clear d1 g1 hx HD5 HR HGX HW5
      go_wp2
      go_ret
      exact ⟨_, rfl, HSZ.out, HD6.out⟩
  have e0 : decide ((0 : Int) < (ls.length : Int)) = true := decide_eq_true (by omega)
  have hn' : (0 : Int) < (ls.length : Int) := by omega
  rcases h3 with h3 | ⟨b, rfl⟩
  · exact absurd h3 hn
  go_wp2_with (fail)
  refine (once_c g cv zs _ _ HD2.out.dr (by omega)).mono ?_
  rintro e w3 ⟨q, rfl, d1, g1⟩
  have HD3 : Hid (Dc w w3 g cv zs) := HD2.out.draw d1 g1
  have HO3 : Hid (Orr 31 B w3 (.slice (some ⟨b, 0, none⟩) ls.length cap) ls) := HO2.out.draw g1 HB.out
  clear d1 g1 HD2 HO2
  cases q
  case true =>
    go_wp2_with (fail)
    refine (once_c g cv zs _ _ HD3.out.dr (by omega)).mono ?_
    rintro e wo ⟨qo, rfl, d1, g1⟩
    have HDo : Hid (Dc w wo g cv zs) := HD3.out.draw d1 g1
    clear d1 g1 HD3
    cases qo
    · go_wp2
      go_ret
      exact ⟨_, rfl, by omega, HDo.out⟩
    · obtain ⟨X, hX⟩ : ∃ X, wo.heap.size = X := ⟨_, rfl⟩
      obtain ⟨W5, hW5⟩ : ∃ W, wo.alloc (Obj.cells #[.string ⟨#[120]⟩, .string ⟨#[45]⟩, .string ⟨#[49, 50, 51, 52, 53, 54, 55, 56, 57, 48, 49, 50, 51, 52, 53, 54, 55, 56, 57, 48]⟩] 9) = W := ⟨_, rfl⟩
      have HR : Hid (Rx W5 (.slice (some ⟨X, 0, none⟩) 3 3) [⟨#[120]⟩, ⟨#[45]⟩, ⟨#[49, 50, 51, 52, 53, 54, 55, 56, 57, 48, 49, 50, 51, 52, 53, 54, 55, 56, 57, 48]⟩]) := by rw [← hW5, ← hX]; exact Rx.lit wo [⟨#[120]⟩, ⟨#[45]⟩, ⟨#[49, 50, 51, 52, 53, 54, 55, 56, 57, 48, 49, 50, 51, 52, 53, 54, 55, 56, 57, 48]⟩] (by decide)
      have HD5 : Hid (Dc w W5 g cv zs) := by rw [← hW5]; exact HDo.out.below ((Below.refl _ _).alloc (Nat.le_refl _) _)
      have HGX : Hid (g < X) := by rw [← hX]; exact HDo.out.dr.lt
      have HW5 : Hid (wo.alloc (Obj.cells #[.string ⟨#[120]⟩, .string ⟨#[45]⟩, .string ⟨#[49, 50, 51, 52, 53, 54, 55, 56, 57, 48, 49, 50, 51, 52, 53, 54, 55, 56, 57, 48]⟩] 9) = W5 ∧ wo.heap.size = X) := ⟨hW5, hX⟩
      clear hW5 hX HDo
      go_wp2_with (fail)
      rw [HW5.out.1, HW5.out.2]
      refine (pick_c g cv zs _ [⟨#[120]⟩, ⟨#[45]⟩, ⟨#[49, 50, 51, 52, 53, 54, 55, 56, 57, 48, 49, 50, 51, 52, 53, 54, 55, 56, 57, 48]⟩] _ HD5.out.dr HR.out (.inr (by have := HGX.out; simp [Value.ownBlock]; omega)) (by decide) (by decide)).mono ?_
      rintro e w6 ⟨xx, rfl, hx, d1, g1⟩
      have hxs : xx.size ≤ 50 := by
        simp only [List.mem_cons, List.not_mem_nil, or_false] at hx
        rcases hx with rfl | rfl | rfl <;> decide
      have HD6 : Hid (Dc w w6 g cv zs) := HD5.out.draw d1 g1
      have HSZ : Hid ((s ++ xx).size ≤ 200) := by show _ ≤ _; rw [ByteArray.size_append]; omega
      clear d1 g1 hx HD5 HR HGX HW5
      go_wp2
      go_ret
      exact ⟨_, rfl, HSZ.out, HD6.out⟩
  case false =>
  go_upto_region 3 with fail
  obtain ⟨S, hS⟩ : ∃ S : World → Prop, ∀ W, S W ↔ Orr 31 B W (.slice (some ⟨b, 0, none⟩) ls.length cap) ls := ⟨_, fun _ => Iff.rfl⟩
  have HS : Hid (∀ W, S W ↔ Orr 31 B W (.slice (some ⟨b, 0, none⟩) ls.length cap) ls) := hS
  have HCE : Hid (∀ (W : At S) (k : Nat) (hk : k < ls.length), W.wd.cell? ⟨b, k * 6, none⟩ = some (.string ls[k].pre)) := fun W k hk => by have := World.ownsRow.cellAt ((hS _).1 W.ok) (k * 6) (by omega); rw [this]; exact (rr_at ls k hk).1
  have HDA : Hid (Dc w w3.drew g cv zs) := HD3.out.below (Below.refl _ _).drew
  have HOA : Hid (Orr 31 B w3.drew (.slice (some ⟨b, 0, none⟩) ls.length cap) ls) := HO3.out.below (Below.refl _ _).drew
  clear hS HD3 HO3
  have ne1 : Nonempty (At S) := ⟨⟨w3.drew, (HS.out _).2 HOA.out⟩⟩
  obtain ⟨wa, hwa⟩ : ∃ W, w3.drew = W := ⟨_, rfl⟩
  refine region_anyS S (by kernel_rfl) ?_
  refine anyS_quiet [true, true, true, false, false, false, false, false, true, true, false, false, false, false] 9 rfl (by kernel_rfl) (fun _ _ _ _ _ h => h) ((HS.out _).2 HOA.out) ?_
  simp only [selT]
  repeat (go_big_quiet_step (fail))
  refine wpQuiet_nil ?_
  rw [hwa] at HDA HOA ⊢
  clear hwa
  refine anyS_one 3 (by kernel_rfl) rfl ?_
  go_wp2
  refine ⟨(HS.out _).2 HOA.out, ?_⟩
  refine anyS_one 4 (by kernel_rfl) rfl ?_
  go_wp2_with (fail)
  refine (below_c g cv zs _ _ HDA.out.dr (by omega)).mono ?_
  rintro e wb ⟨k, rfl, k0, k1, -, d1, g1⟩
  have k2 := k1 (by omega)
  have HDB : Hid (Dc w wb g cv zs) := HDA.out.draw d1 g1
  have HOB : Hid (Orr 31 B wb (.slice (some ⟨b, 0, none⟩) ls.length cap) ls) := HOA.out.draw g1 HB.out
  clear d1 g1 k1 HDA HOA
  obtain ⟨k, rfl⟩ := Int.eq_ofNat_of_zero_le k0
  have hk : k < ls.length := by omega
  go_wp2
  refine ⟨(HS.out _).2 HOB.out, ?_⟩
  obtain ⟨r, hr⟩ : ∃ r, ls[k] = r := ⟨_, rfl⟩
  have c0 : ∀ W : At S, W.wd.cell? ⟨b, k * 6, none⟩ = some (.string r.pre) := fun W => by rw [← hr]; exact HCE.out W k hk
  have HRP : Hid (r.pre.size ≤ 100) := by rw [← hr]; exact (HP.out _ (List.getElem_mem hk)).1
  clear hr
  refine anyS_quiet [false, false, false, false, false, true, true, true, false, false, false, false, false, false] 4 rfl (by kernel_rfl) (fun _ _ _ _ _ h => h) ((HS.out _).2 HOB.out) ?_
  simp only [selT]
  repeat (go_big_quiet_step (fail))
  refine wpQuiet_nil ?_
  refine anyS_one 10 (by kernel_rfl) rfl ?_
  go_wp2_with (fail)
  refine (below_c g cv zs _ _ HDB.out.dr (by omega)).mono ?_
  rintro e wd ⟨y, rfl, y0, y1, -, d1, g1⟩
  have y2 := y1 (by omega)
  have HDD : Hid (Dc w wd g cv zs) := HDB.out.draw d1 g1
  have HOD : Hid (Orr 31 B wd (.slice (some ⟨b, 0, none⟩) ls.length cap) ls) := HOB.out.draw g1 HB.out
  clear d1 g1 y1 HDB HOB
  go_wp2
  refine ⟨(HS.out _).2 HOD.out, ?_⟩
  refine anyS_one 11 (by kernel_rfl) rfl ?_
  go_wp2_with (fail)
  refine (digits_c g cv zs _ wd HDD.out.dr (by omega) (by omega)).mono ?_
  rintro e we ⟨t, rfl, ht, d3⟩
  have HDE : Hid (Dc w we g cv zs) := HDD.out.draw d3.dr d3.gr
  have HOE : Hid (Orr 31 B we (.slice (some ⟨b, 0, none⟩) ls.length cap) ls) := HOD.out.draw d3.gr HB.out
  have ht3 : t.size ≤ 10 := by omega
  have hrp := HRP.out
  clear d3 ht HDD HOD c0 ne1
  go_wp2
  refine ⟨(HS.out _).2 HOE.out, ?_⟩
  refine anyS_one 12 (by kernel_rfl) rfl ?_
  go_wp2
  refine ⟨(HS.out _).2 HOE.out, ?_⟩
  refine anyS_one 13 (by kernel_rfl) rfl ?_
  go_wp2
  refine ⟨(HS.out _).2 HOE.out, ?_⟩
  refine anyS_end (by kernel_rfl) ?_
  obtain ⟨s2, hs2⟩ : ∃ s2, r.pre ++ t = s2 := ⟨_, rfl⟩
  have hs150 : s2.size ≤ 150 := by rw [← hs2, ByteArray.size_append]; omega
  rw [hs2]
  clear hs2 hrp ht3
  go_wp2_with (fail)
  refine (once_c g cv zs _ _ HDE.out.dr (by omega)).mono ?_
  rintro e wo ⟨qo, rfl, d1, g1⟩
  have HDo : Hid (Dc w wo g cv zs) := HDE.out.draw d1 g1
  clear d1 g1 HDE
  cases qo
  · go_wp2
    go_ret
    exact ⟨_, rfl, by omega, HDo.out⟩
  · obtain ⟨X, hX⟩ : ∃ X, wo.heap.size = X := ⟨_, rfl⟩
    obtain ⟨W5, hW5⟩ : ∃ W, wo.alloc (Obj.cells #[.string ⟨#[120]⟩, .string ⟨#[45]⟩, .string ⟨#[49, 50, 51, 52, 53, 54, 55, 56, 57, 48, 49, 50, 51, 52, 53, 54, 55, 56, 57, 48]⟩] 9) = W := ⟨_, rfl⟩
    have HR : Hid (Rx W5 (.slice (some ⟨X, 0, none⟩) 3 3) [⟨#[120]⟩, ⟨#[45]⟩, ⟨#[49, 50, 51, 52, 53, 54, 55, 56, 57, 48, 49, 50, 51, 52, 53, 54, 55, 56, 57, 48]⟩]) := by rw [← hW5, ← hX]; exact Rx.lit wo [⟨#[120]⟩, ⟨#[45]⟩, ⟨#[49, 50, 51, 52, 53, 54, 55, 56, 57, 48, 49, 50, 51, 52, 53, 54, 55, 56, 57, 48]⟩] (by decide)
    have HD5 : Hid (Dc w W5 g cv zs) := by rw [← hW5]; exact HDo.out.below ((Below.refl _ _).alloc (Nat.le_refl _) _)
    have HGX : Hid (g < X) := by rw [← hX]; exact HDo.out.dr.lt
    have HW5 : Hid (wo.alloc (Obj.cells #[.string ⟨#[120]⟩, .string ⟨#[45]⟩, .string ⟨#[49, 50, 51, 52, 53, 54, 55, 56, 57, 48, 49, 50, 51, 52, 53, 54, 55, 56, 57, 48]⟩] 9) = W5 ∧ wo.heap.size = X) := ⟨hW5, hX⟩
    clear hW5 hX HDo
    go_wp2_with (fail)
    rw [HW5.out.1, HW5.out.2]
    refine (pick_c g cv zs _ [⟨#[120]⟩, ⟨#[45]⟩, ⟨#[49, 50, 51, 52, 53, 54, 55, 56, 57, 48, 49, 50, 51, 52, 53, 54, 55, 56, 57, 48]⟩] _ HD5.out.dr HR.out (.inr (by have := HGX.out; simp [Value.ownBlock]; omega)) (by decide) (by decide)).mono ?_
    rintro e w6 ⟨xx, rfl, hx, d1, g1⟩
    have hxs : xx.size ≤ 50 := by
      simp only [List.mem_cons, List.not_mem_nil, or_false] at hx
      rcases hx with rfl | rfl | rfl <;> decide
    have HD6 : Hid (Dc w w6 g cv zs) := HD5.out.draw d1 g1
    have HSZ : Hid ((s2 ++ xx).size ≤ 200) := by show _ ≤ _; rw [ByteArray.size_append]; omega
    clear d1 g1 hx HD5 HR HGX HW5
    go_wp2
    go_ret
    exact ⟨_, rfl, HSZ.out, HD6.out⟩
/-- rules and digits that are drawn -/
def DdD (w : World) (e : Ending) (w' : World) : Prop := ∃ (v : Value) (ls : Rls) (s : ByteArray), e = .returned (.tuple #[v, .string s]) ∧ Orr 31 w.heap.size w' v ls ∧ ls.length ≤ 7 ∧ (∀ r ∈ ls, r.pre.size ≤ 100 ∧ r.ad.size ≤ 100) ∧ s.size ≤ 200 ∧ Below w.heap.size w w'
theorem Dc.out_below {w0 w1 W : World} {g : Nat} {cv : Value} {zs : List Int} (hb : Below w0.heap.size w0 w1) (hg : w0.heap.size ≤ g) (h : Dc w1 W g cv zs) : Below w0.heap.size w0 W := by
  refine hb.trans (grown_below h.gr hb.size fun k e => ?_)
  have := Option.some.inj e; omega
set_option maxHeartbeats 3200000 in
theorem drawDial_c (v : Value) (zs : List Int) (w : World) (h : Rd .u8 w v zs) (hok : ∀ z ∈ zs, 0 ≤ z ∧ z ≤ 255) (hlen : zs.length ≤ 2097152) : Calls Try.prog 9 #[v] w (DdD w) := by
  go_enter Try.func9, Try.ntmps9
  go_wp2_with (fail)
  refine (new_c v zs w h hok hlen).mono ?_
  rintro e w1 ⟨g, rfl, d1, hg1, b1⟩
  have HB1 : Hid (Below w.heap.size w w1) := b1
  have HG : Hid (w.heap.size ≤ g) := hg1
  have HD1 : Hid (Dc w1 w1 g v zs) := Dc.start d1
  clear d1 b1 hg1 h hok
  go_wp2_with (fail)
  refine (any_c g v zs w1 HD1.out.dr).mono ?_
  rintro e w2 ⟨u, ls, rfl, o2, l2, p2, d2⟩
  have HD2 : Hid (Dc w1 w2 g v zs) := d2
  have HO2 : Hid (Orr 31 w1.heap.size w2 u ls) := o2
  have HL : Hid (ls.length ≤ 7 ∧ ∀ r ∈ ls, r.pre.size ≤ 100 ∧ r.ad.size ≤ 100) := ⟨l2, p2⟩
  clear d2 o2 l2 p2
  go_wp2_with (fail)
  refine (dialled27_c g v zs w1.heap.size u ls w2 HD2.out.dr HO2.out HD1.out.lt HL.out.1 HL.out.2).mono ?_
  rintro e w3 ⟨s, rfl, hs, d3⟩
  have HD3 : Hid (Dc w1 w3 g v zs) := HD2.out.draw d3.dr d3.gr
  have HO3 : Hid (Orr 31 w.heap.size w3 u ls) := (HO2.out.draw d3.gr HD2.out.lt).mono HB1.out.size
  clear d3
  go_wp2
  go_ret2
  exact ⟨u, ls, s, rfl, HO3.out, HL.out.1, HL.out.2, hs, Dc.out_below HB1.out HG.out HD3.out⟩
end Go.Proofs.Ytpnglbnebkggkaa
