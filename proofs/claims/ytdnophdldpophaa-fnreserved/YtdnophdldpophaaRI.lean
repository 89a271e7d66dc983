/- The program's Rate; no condition. -/
import Derived.Test.YtdnophdldpophaaRC
namespace Go.Proofs.Ytdnophdldpophaa
open Go.RowKit Go.ChangeShapes Go.WideShapes Go.ChangeAt
set_option linter.unusedVariables false
set_option linter.unusedSimpArgs false
set_option maxRecDepth 8000
theorem sizeC : (Try.prog.info? 34).map (·.size) = some 2 := by kernel_rfl
theorem results_C2 {fn : Func} {p u : Tmp} (h : fn.results = #[.cell p 34, .tmp u]) (tmps : Array Value) (w : World) (g : Nat) (l k : Int) (x : Value)
    (hp : tmps.getD p undef = .pointer (some ⟨g, 0, none⟩)) (hx : tmps.getD u undef = x) (hg : Blk w g (P2 l k) 34) :
    (results fn tmps).run Try.prog w = .ok (.tuple #[.agg (P2 l k), x]) w := by
  have hp' : tmps[p]?.getD undef = .pointer (some ⟨g, 0, none⟩) := by simpa using hp
  have hx' : tmps[u]?.getD undef = x := by simpa using hx
  have hr := run_loadVar_row (P := Try.prog) w g 34 34 (P2 l k) (0, 0) _ hg Try.underlying34 rfl sizeC
  simp [results, h, hp', hx', asAddr, hr]
/-- may this call be rated -/
def RtOk (ls : List Tf) (z b e : Int) : Prop := (TfOk ls ∧ 0 ≤ b ∧ b ≤ 1000000000 ∧ HasZ ls z) ∧ b ≤ e ∧ e ≤ 1000000000 ∧ e ≤ b + 86400
/-- what Rate tells -/
def RtS (ls : List Tf) (z b e : Int) (s c : Int) (ok : Bool) : Prop :=
  (RtOk ls z b e ∧ ok = true ∧ s = (rtF ls z b e 9223372036854775807).2.1 ∧ c = (rtF ls z b e 9223372036854775807).2.2) ∨ (¬ RtOk ls z b e ∧ ok = false ∧ s = 0 ∧ c = 0)
theorem RtS.uniq {ls : List Tf} {z b e s c s' c' : Int} {ok ok' : Bool} (h : RtS ls z b e s c ok) (h' : RtS ls z b e s' c' ok') : s = s' ∧ c = c' ∧ ok = ok' := by
  rcases h with ⟨h1, rfl, rfl, rfl⟩ | ⟨h1, rfl, rfl, rfl⟩ <;> rcases h' with ⟨h2, rfl, rfl, rfl⟩ | ⟨h2, rfl, rfl, rfl⟩
  · exact ⟨rfl, rfl, rfl⟩
  · exact absurd h1 h2
  · exact absurd h2 h1
  · exact ⟨rfl, rfl, rfl⟩
def RtR (ls : List Tf) (z b e : Int) (w : World) (x : Ending) (w' : World) : Prop :=
  ∃ s c ok, x = .returned (.tuple #[.agg (P2 s c), .bool ok]) ∧ RtS ls z b e s c ok ∧ Below w.heap.size w w'
set_option maxHeartbeats 6400000 in
theorem rateI_c (v : Value) (ls : List Tf) (z b e : Int) (w : World) (h : Rg 5 tfC w v ls) : Calls Try.prog 13 #[v, .int .i64 z, .int .i64 b, .int .i64 e] w (RtR ls z b e w) := by
  obtain ⟨W0, hW0⟩ : ∃ W0, w.alloc (Obj.cells (P2 0 0) 34) = W0 := ⟨_, rfl⟩
  have hb0 : Below w.heap.size w W0 := hW0 ▸ (Below.refl _ _).alloc (Nat.le_refl _) _
  have hs0 : W0.heap.size = w.heap.size + 1 := by rw [← hW0]; simp
  have HK0 : Hid (Blk W0 w.heap.size (P2 0 0) 34) := hW0 ▸ Blk.new _ _ _
  have HH : Hid (Rg 5 tfC W0 v ls) := h.below hb0
  have HB0 : Hid (Below w.heap.size w W0) := hb0
  have HS0 : Hid (W0.heap.size = w.heap.size + 1) := hs0
  have HV : Hid (ls = [] ∨ ∀ k, v.ownBlock = some k → k < w.heap.size) := h.blk tfC_len (by decide)
  obtain ⟨a, cap, rfl, -⟩ := h
  obtain ⟨P, hP⟩ : ∃ P, w.heap.size = P := ⟨_, rfl⟩
  have HW0 : Hid (w.alloc (Obj.cells (P2 0 0) 34) = W0) := hW0
  have HP : Hid (w.heap.size = P) := hP
  clear hW0 hb0 hs0
  go_enter Try.func13, Try.ntmps13
  go_wp2_with (fail)
  clear hP
  rw [HW0.out]
  refine (startMeter_c _ ls z b W0 HH.out).mono ?_
  have HNO : Hid (∀ W, Below W0.heap.size W0 W → ¬ RtOk ls z b e → Blk ((W.setCell ⟨P, 0, none⟩ (.int .i64 0)).setCell ⟨P, 1, none⟩ (.int .i64 0)) P (P2 0 0) 34 ∧ RtR ls z b e w (.returned (.tuple #[.agg (P2 0 0), .bool false])) ((W.setCell ⟨P, 0, none⟩ (.int .i64 0)).setCell ⟨P, 1, none⟩ (.int .i64 0))) := by
    intro W hW hn
    have hk := HK0.out.below hW HK0.out.lt
    have hP := HP.out
    subst hP
    exact ⟨(hk.set 0 _).set 1 _, 0, 0, false, rfl, .inr ⟨hn, rfl, rfl, rfl⟩, ((HB0.out.trans (hW.mono HB0.out.size)).setCell (p := ⟨w.heap.size, 0, none⟩) (Nat.le_refl _) _).setCell (p := ⟨w.heap.size, 1, none⟩) (Nat.le_refl _) _⟩
  rintro x w1 (⟨rfl, hn, b1⟩ | ⟨M, rfl, hc, hM, hkM, b1⟩)
  · have hk := HK0.out.below b1 HK0.out.lt
    rw [HP.out] at hk
    have c0 := hk.cell 0
    have c1 := hk.cell 1
    have f0 := hk.frozen 0
    have f1 := hk.frozen 1
    simp at c0 c1
    obtain ⟨h1, h2⟩ := HNO.out w1 b1 (fun h => hn h.1)
    have H1 : Hid _ := h1
    have H2 : Hid _ := h2
    clear hk h1 h2 hn b1
    go_wp2
    exact bodyPost_ret (results_C2 rfl _ _ P 0 0 (.bool false) rfl rfl H1.out) rfl H2.out
  · have HC : Hid (TfOk ls ∧ 0 ≤ b ∧ b ≤ 1000000000 ∧ HasZ ls z) := hc
    have HKM : Hid (Blk w1 M #[.slice a ls.length cap, .int .i64 z, .int .i64 b, .int .i64 0, .int .i64 (tfA ls z b).2.2.2.2] 71) := hkM
    have HMP : Hid (W0.heap.size ≤ M) := hM
    have HB1 : Hid (Below W0.heap.size W0 w1) := b1
    clear hc hkM hM b1
    go_wp2_with (fail)
    refine (endOk_c b e ⟨HC.out.2.1, HC.out.2.2.1⟩ _).mono ?_
    rintro x w2 ⟨rfl, hw⟩
    rw [hw]
    clear hw w2
    by_cases he : b ≤ e ∧ e ≤ 1000000000 ∧ e ≤ b + 86400
    · have hd : decide (b ≤ e ∧ e ≤ 1000000000 ∧ e ≤ b + 86400) = true := by simpa using he
      rw [hd]
      have HE : Hid (b ≤ e ∧ e ≤ 1000000000 ∧ e ≤ b + 86400) := he
      have HM : Hid (∀ k, (Value.slice a ls.length cap).ownBlock = some k → k ≠ M) := fun k hk => by
        rcases HV.out with h | h
        · obtain ⟨i, hi, -⟩ := HC.out.2.2.2
          rw [h] at hi; simp at hi
        · have h1 := h k hk
          have h2 := HMP.out
          have h3 := HS0.out
          omega
      clear hd he
      go_wp2_with (fail)
      refine (count_c _ ls M (e - b).toNat z e 9223372036854775807 b 0 (tfA ls z b).2.2.2.2 w1 (HH.out.below HB1.out) HM.out HKM.out HC.out.1 HC.out.2.2.2 (by have := HE.out; omega) HE.out.2.1 HC.out.2.1 (MtOk.zero HC.out.1 HC.out.2.2.2)).mono ?_
      rintro x w2 ⟨rfl, hkm, hfr⟩
      obtain ⟨q, hq⟩ : ∃ q, cN ls z e 9223372036854775807 (e - b).toNat b 0 (tfA ls z b).2.2.2.2 = q := ⟨_, rfl⟩
      rw [hq] at hkm
      have HQ : Hid (rtF ls z b e 9223372036854775807 = q) := hq
      have hPM : P ≠ M := by have h1 := HMP.out; have h2 := HS0.out; have h3 := HP.out; omega
      have hk : Blk w2 P (P2 0 0) 34 := by
        have := (HK0.out.below HB1.out HK0.out.lt).fr hfr (by rw [HP.out]; exact hPM)
        rw [HP.out] at this; exact this
      have c0 := hk.cell 0
      have c1 := hk.cell 1
      have f0 := hk.frozen 0
      have f1 := hk.frozen 1
      have m3 := hkm.cell 3
      have m4 := hkm.cell 4
      simp at c0 c1 m3 m4
      have h1 : Blk ((w2.setCell ⟨P, 0, none⟩ (.int .i64 q.2.1)).setCell ⟨P, 1, none⟩ (.int .i64 q.2.2)) P (P2 q.2.1 q.2.2) 34 := (hk.set 0 _).set 1 _
      have h2 : RtR ls z b e w (.returned (.tuple #[.agg (P2 q.2.1 q.2.2), .bool true])) ((w2.setCell ⟨P, 0, none⟩ (.int .i64 q.2.1)).setCell ⟨P, 1, none⟩ (.int .i64 q.2.2)) := by
        have hP := HP.out
        subst hP
        have hb2 : Below w.heap.size w w2 := (HB0.out.trans (HB1.out.mono HB0.out.size)).trans (hfr.below (by have := HB1.out.size; have := HB0.out.size; omega) (fun k e => by have h1 := HMP.out; have h2 := HS0.out; omega))
        exact ⟨_, _, _, rfl, .inl ⟨⟨HC.out, HE.out⟩, rfl, by rw [HQ.out], by rw [HQ.out]⟩, (hb2.setCell (p := ⟨w.heap.size, 0, none⟩) (Nat.le_refl _) _).setCell (p := ⟨w.heap.size, 1, none⟩) (Nat.le_refl _) _⟩
      have H1 : Hid _ := h1
      have H2 : Hid _ := h2
      clear hk hkm hfr h1 h2 hq
      go_wp2
      exact bodyPost_ret (results_C2 rfl _ _ P q.2.1 q.2.2 (.bool true) rfl rfl H1.out) rfl H2.out
    · have hd : decide (b ≤ e ∧ e ≤ 1000000000 ∧ e ≤ b + 86400) = false := by
        cases hq : decide (b ≤ e ∧ e ≤ 1000000000 ∧ e ≤ b + 86400) with
        | false => rfl
        | true => exact absurd (of_decide_eq_true hq) he
      rw [hd]
      have hk := HK0.out.below HB1.out HK0.out.lt
      rw [HP.out] at hk
      have c0 := hk.cell 0
      have c1 := hk.cell 1
      have f0 := hk.frozen 0
      have f1 := hk.frozen 1
      simp at c0 c1
      obtain ⟨h1, h2⟩ := HNO.out w1 HB1.out (fun h => he h.2)
      have H1 : Hid _ := h1
      have H2 : Hid _ := h2
      clear hk h1 h2 hd he
      go_wp2
      exact bodyPost_ret (results_C2 rfl _ _ P 0 0 (.bool false) rfl rfl H1.out) rfl H2.out
end Go.Proofs.Ytdnophdldpophaa
