/- Reserve of the program; no condition. -/
import Derived.Test.YtdnophdldpophaaRQ
namespace Go.Proofs.Ytdnophdldpophaa
open Go.RowKit Go.ChangeShapes Go.WideShapes Go.ChangeAt
set_option linter.unusedVariables false
set_option linter.unusedSimpArgs false
set_option maxRecDepth 8000
theorem results_P3 {fn : Func} {p u u' : Tmp} (h : fn.results = #[.cell p 25, .tmp u, .tmp u']) (tmps : Array Value) (w : World) (g : Nat) (l k : Int) (x y : Value)
    (hp : tmps.getD p undef = .pointer (some ⟨g, 0, none⟩)) (hx : tmps.getD u undef = x) (hy : tmps.getD u' undef = y) (hg : Blk w g (P2 l k) 25) :
    (results fn tmps).run Try.prog w = .ok (.tuple #[.agg (P2 l k), x, y]) w := by
  have hp' : tmps[p]?.getD undef = .pointer (some ⟨g, 0, none⟩) := by simpa using hp
  have hx' : tmps[u]?.getD undef = x := by simpa using hx
  have hy' : tmps[u']?.getD undef = y := by simpa using hy
  have hr := run_loadVar_row (P := Try.prog) w g 25 25 (P2 l k) (0, 0) _ hg Try.underlying25 rfl sizeP
  simp [results, h, hp', hx', hy', asAddr, hr]
def reE (b m : Int) : Int := min (b + m) 1000000000
def reQ (ls : List Tf) (l k z b m : Int) : Int × Int × Int := cN ls z (reE b m) (l - k) (reE b m - b).toNat b 0 (tfA ls z b).2.2.2.2
def reN (ls : List Tf) (l k z b m : Int) : Int := min (reQ ls l k z b m).1 (reE b m) - b
/-- may it be asked -/
def ReA (ls : List Tf) (l k z b m : Int) : Prop := (TfOk ls ∧ 0 ≤ b ∧ b ≤ 1000000000 ∧ HasZ ls z) ∧ pOk l k = true ∧ 1 ≤ m ∧ m ≤ 86400
def ReOk (ls : List Tf) (l k z b m : Int) : Prop := ReA ls l k z b m ∧ 1 ≤ reN ls l k z b m
/-- what Reserve tells -/
def ReS (ls : List Tf) (l k z b m k' n : Int) (ok : Bool) : Prop := (ReOk ls l k z b m ∧ k' = k + (reQ ls l k z b m).2.2 ∧ n = reN ls l k z b m ∧ ok = true) ∨ (¬ ReOk ls l k z b m ∧ k' = k ∧ n = 0 ∧ ok = false)
theorem ReS.uniq {ls : List Tf} {l k z b m k' n k2 n2 : Int} {ok ok2 : Bool} (h : ReS ls l k z b m k' n ok) (h' : ReS ls l k z b m k2 n2 ok2) : k' = k2 ∧ n = n2 ∧ ok = ok2 := by
  rcases h with ⟨h1, rfl, rfl, rfl⟩ | ⟨h1, rfl, rfl, rfl⟩ <;> rcases h' with ⟨h2, rfl, rfl, rfl⟩ | ⟨h2, rfl, rfl, rfl⟩
  · exact ⟨rfl, rfl, rfl⟩
  · exact absurd h1 h2
  · exact absurd h2 h1
  · exact ⟨rfl, rfl, rfl⟩
def ReR (ls : List Tf) (l k z b m : Int) (w : World) (x : Ending) (w' : World) : Prop :=
  ∃ k' n ok, x = .returned (.tuple #[.agg (P2 l k'), .int .i64 n, .bool ok]) ∧ ReS ls l k z b m k' n ok ∧ Below w.heap.size w w'
def DwS (V V' : World) (st : Nat) (d : Nat → Bool) (W : World) : Prop := (d st = false → W = V) ∧ (d st = true → W = V')
theorem DwS.begin (V V' : World) (st : Nat) : DwS V V' st (fun _ => false) V := ⟨fun _ => rfl, fun h => (by cases h)⟩
theorem DwS.other {V V' : World} {st : Nat} {d : Nat → Bool} {W : World} (h : DwS V V' st d W) (i : Nat) (hi : st ≠ i) : DwS V V' st (doneSet d i) W := by
  have hs : doneSet d i st = d st := by simp [doneSet, hi]
  exact ⟨fun e => h.1 (hs ▸ e), fun e => h.2 (hs ▸ e)⟩
theorem DwS.store {V V' : World} {st : Nat} {d : Nat → Bool} : DwS V V' st (doneSet d st) V' := ⟨fun e => by simp [doneSet] at e, fun _ => rfl⟩
theorem DwS.or {V V' : World} {st : Nat} {d : Nat → Bool} {W : World} (h : DwS V V' st d W) : W = V ∨ W = V' := by
  cases hd : d st with
  | false => exact .inl (h.1 hd)
  | true => exact .inr (h.2 hd)
theorem cN_end {ls : List Tf} {z e r : Int} (ok : TfOk ls) (hz : HasZ ls z) : ∀ (f : Nat) (t s c : Int), t ≤ e + 10000 → (cN ls z e r f t s c).1 ≤ e + 10000
  | 0, t, s, c, h => h
  | f + 1, t, s, c, h => by
    rw [cN]
    split
    · exact h
    · have := tfA_bd ok hz t
      exact cN_end ok hz f _ _ _ (by omega)
set_option maxHeartbeats 12800000 in
theorem resI_c (l k : Int) (v : Value) (ls : List Tf) (z b m : Int) (w : World) (h : Rg 5 tfC w v ls) : Calls Try.prog 11 #[.agg (P2 l k), v, .int .i64 z, .int .i64 b, .int .i64 m] w (ReR ls l k z b m w) := by
  obtain ⟨W0, hW0⟩ : ∃ W0, (w.alloc (Obj.cells (P2 l k) 25)).alloc (Obj.cells (P2 0 0) 25) = W0 := ⟨_, rfl⟩
  have hb0 : Below w.heap.size w W0 := hW0 ▸ ((Below.refl _ _).alloc (Nat.le_refl _) _).alloc (by simp) _
  have hs0 : W0.heap.size = w.heap.size + 2 := by rw [← hW0]; simp
  have HA0 : Hid (Blk W0 w.heap.size (P2 l k) 25) := hW0 ▸ (Blk.new _ _ _).alloc _
  have HK0 : Hid (Blk W0 (w.heap.size + 1) (P2 0 0) 25) := hW0 ▸ Blk.newAt _ (w.heap.size + 1) _ 25 (by simp)
  have HH : Hid (Rg 5 tfC W0 v ls) := h.below hb0
  have HB0 : Hid (Below w.heap.size w W0) := hb0
  have HS0 : Hid (W0.heap.size = w.heap.size + 2) := hs0
  have HV : Hid (ls = [] ∨ ∀ k, v.ownBlock = some k → k < w.heap.size) := h.blk tfC_len (by decide)
  obtain ⟨a, cap, rfl, -⟩ := h
  obtain ⟨P, hP⟩ : ∃ P, w.heap.size = P := ⟨_, rfl⟩
  have HW0 : Hid ((w.alloc (Obj.cells (P2 l k) 25)).alloc (Obj.cells (P2 0 0) 25) = W0) := hW0
  have HP : Hid (w.heap.size = P) := hP
  rw [hP] at HA0 HK0
  clear hW0 hb0 hs0
  go_enter Try.func11, Try.ntmps11
  go_wp2_with (fail)
  clear hP
  rw [HW0.out]
  refine (startMeter_c _ ls z b W0 HH.out).mono ?_
  have HNO : Hid (∀ W, Blk W (P + 1) (P2 0 0) 25 → Below w.heap.size w W → ¬ ReOk ls l k z b m → Blk ((W.setCell ⟨P + 1, 0, none⟩ (.int .i64 l)).setCell ⟨P + 1, 1, none⟩ (.int .i64 k)) (P + 1) (P2 l k) 25 ∧ ReR ls l k z b m w (.returned (.tuple #[.agg (P2 l k), .int .i64 0, .bool false])) ((W.setCell ⟨P + 1, 0, none⟩ (.int .i64 l)).setCell ⟨P + 1, 1, none⟩ (.int .i64 k))) := by
    intro W hk hW hn
    have hP := HP.out
    subst hP
    exact ⟨(hk.set 0 _).set 1 _, k, 0, false, rfl, .inr ⟨hn, rfl, rfl, rfl⟩, (hW.setCell (p := ⟨w.heap.size + 1, 0, none⟩) (by dsimp only; omega) _).setCell (p := ⟨w.heap.size + 1, 1, none⟩) (by dsimp only; omega) _⟩
  rintro x w1 (⟨rfl, hn, b1⟩ | ⟨M, rfl, hc, hM, hkM, b1⟩)
  · have hk := HK0.out.below b1 HK0.out.lt
    have hA := HA0.out.below b1 HA0.out.lt
    have c0 := hk.cell 0
    have c1 := hk.cell 1
    have f0 := hk.frozen 0
    have f1 := hk.frozen 1
    have a0 := hA.cell 0
    have a1 := hA.cell 1
    simp at c0 c1 a0 a1
    obtain ⟨h1, h2⟩ := HNO.out w1 hk (HB0.out.trans (b1.mono HB0.out.size)) (fun h => hn h.1.1)
    have H1 : Hid _ := h1
    have H2 : Hid _ := h2
    clear hk hA h1 h2 hn b1
    go_wp2
    exact bodyPost_ret (results_P3 rfl _ _ _ l k (.int .i64 0) (.bool false) rfl rfl rfl H1.out) rfl H2.out
  · have HC : Hid (TfOk ls ∧ 0 ≤ b ∧ b ≤ 1000000000 ∧ HasZ ls z) := hc
    have HKM : Hid (Blk w1 M #[.slice a ls.length cap, .int .i64 z, .int .i64 b, .int .i64 0, .int .i64 (tfA ls z b).2.2.2.2] 71) := hkM
    have HMP : Hid (P + 2 ≤ M) := by show P + 2 ≤ M; have := HS0.out; have := HP.out; omega
    have HB1 : Hid (Below w.heap.size w w1) := HB0.out.trans (b1.mono HB0.out.size)
    have HK1 : Hid (Blk w1 (P + 1) (P2 0 0) 25) := HK0.out.below b1 HK0.out.lt
    have HA1 : Hid (Blk w1 P (P2 l k) 25) := HA0.out.below b1 HA0.out.lt
    have HH1 : Hid (Rg 5 tfC w1 (.slice a ls.length cap) ls) := HH.out.below b1
    have a0 := HA1.out.cell 0
    have a1 := HA1.out.cell 1
    simp at a0 a1
    clear hc hkM hM b1 HK0 HA0
    go_wp2_with (fail)
    refine (purseI_c l k w1).mono ?_
    rintro x w2 ⟨rfl, b2⟩
    have HKM2 : Hid (Blk w2 M #[.slice a ls.length cap, .int .i64 z, .int .i64 b, .int .i64 0, .int .i64 (tfA ls z b).2.2.2.2] 71) := HKM.out.below b2 HKM.out.lt
    have HB2 : Hid (Below w.heap.size w w2) := belowCall HB1.out b2 HB1.out.size
    have HK2 : Hid (Blk w2 (P + 1) (P2 0 0) 25) := HK1.out.below b2 HK1.out.lt
    have HA2 : Hid (Blk w2 P (P2 l k) 25) := HA1.out.below b2 HA1.out.lt
    have HH2 : Hid (Rg 5 tfC w2 (.slice a ls.length cap) ls) := HH1.out.below b2
    clear a0 a1 b2 HKM HB1 HK1 HA1 HH1
    have c0 := HK2.out.cell 0
    have c1 := HK2.out.cell 1
    have f0 := HK2.out.frozen 0
    have f1 := HK2.out.frozen 1
    have a0 := HA2.out.cell 0
    have a1 := HA2.out.cell 1
    simp at c0 c1 a0 a1
    cases hpk : pOk l k with
    | false =>
      obtain ⟨h1, h2⟩ := HNO.out w2 HK2.out HB2.out (fun h => by have := h.1.2.1; rw [hpk] at this; cases this)
      have H1 : Hid _ := h1
      have H2 : Hid _ := h2
      clear h1 h2 hpk
      go_wp2
      exact bodyPost_ret (results_P3 rfl _ _ _ l k (.int .i64 0) (.bool false) rfl rfl rfl H1.out) rfl H2.out
    | true =>
    have HPK : Hid (pOk l k = true) := hpk
    clear hpk
    go_wp2_with (fail)
    refine (within_c _ _ _ _).mono ?_
    rintro x w3 ⟨rfl, hw⟩
    rw [hw]
    clear hw w3
    by_cases hm : 1 ≤ m ∧ m ≤ 86400
    case neg =>
      have hd : decide (1 ≤ m ∧ m ≤ 86400) = false := by simpa using hm
      rw [hd]
      obtain ⟨h1, h2⟩ := HNO.out w2 HK2.out HB2.out (fun h => hm h.1.2.2)
      have H1 : Hid _ := h1
      have H2 : Hid _ := h2
      clear h1 h2 hd hm
      go_wp2
      exact bodyPost_ret (results_P3 rfl _ _ _ l k (.int .i64 0) (.bool false) rfl rfl rfl H1.out) rfl H2.out
    case pos =>
    have hd : decide (1 ≤ m ∧ m ≤ 86400) = true := by simpa using hm
    rw [hd]
    have HMM : Hid (1 ≤ m ∧ m ≤ 86400) := hm
    have hbo := HC.out.2
    have hw1 : -9223372036854775808 ≤ b + m ∧ b + m ≤ 9223372036854775807 := by omega
    have hpk := HPK.out
    simp [pOk] at hpk
    have hw2 : -9223372036854775808 ≤ l - k ∧ l - k ≤ 9223372036854775807 := by omega
    clear hd hm hbo hpk
    by_cases hbm : b + m ≤ 1000000000
    · have hbm2 : b ≤ b + m := by have := HMM.out; omega
      have HEE : Hid (reE b m = (b + m)) := by show reE b m = (b + m); unfold reE; omega
      have HM : Hid (∀ k, (Value.slice a ls.length cap).ownBlock = some k → k ≠ M) := fun k hk => by
        rcases HV.out with h | h
        · obtain ⟨i, hi, -⟩ := HC.out.2.2.2
          rw [h] at hi; simp at hi
        · have h1 := h k hk
          have h2 := HMP.out
          have h3 := HP.out
          omega
      go_wp2_with (fail)
      refine (count_c _ ls M ((b + m) - b).toNat z ((b + m)) (l - k) b 0 (tfA ls z b).2.2.2.2 w2 HH2.out HM.out HKM2.out HC.out.1 HC.out.2.2.2 (by have := HMM.out; have := HC.out.2; omega) (by omega) HC.out.2.1 (MtOk.zero HC.out.1 HC.out.2.2.2)).mono ?_
      rintro x w3 ⟨rfl, hkm, hfr⟩
      obtain ⟨q, hq⟩ : ∃ q, cN ls z ((b + m)) (l - k) ((b + m) - b).toNat b 0 (tfA ls z b).2.2.2.2 = q := ⟨_, rfl⟩
      have hmt := cN_bd (e := (b + m)) (r := l - k) HC.out.1 HC.out.2.2.2 ((b + m) - b).toNat b 0 (tfA ls z b).2.2.2.2 (MtOk.zero HC.out.1 HC.out.2.2.2)
      have hqt : q.1 ≤ (b + m) + 10000 := by have := cN_end (e := (b + m)) (r := l - k) HC.out.1 HC.out.2.2.2 ((b + m) - b).toNat b 0 (tfA ls z b).2.2.2.2 (by have := HC.out.2; have := HMM.out; omega); rw [hq] at this; exact this
      rw [hq] at hkm hmt
      have HQ : Hid (reQ ls l k z b m = q) := by show reQ ls l k z b m = q; unfold reQ; rw [HEE.out, hq]
      have HB3 : Hid (Below w.heap.size w w3) := HB2.out.trans (hfr.below HB2.out.size (fun j e => by have h1 := HMP.out; have h2 := HP.out; omega))
      have HK3 : Hid (Blk w3 (P + 1) (P2 0 0) 25) := HK2.out.fr hfr (by have h1 := HMP.out; omega)
      have HA3 : Hid (Blk w3 P (P2 l k) 25) := HA2.out.fr hfr (by have h1 := HMP.out; omega)
      have HM3 : Hid (Blk w3 M #[.slice a ls.length cap, .int .i64 z, .int .i64 q.1, .int .i64 q.2.1, .int .i64 q.2.2] 71) := hkm
      have HMT : Hid (MtOk b q.1 q.2.1 q.2.2) := hmt
      have hq1 : b ≤ q.1 := by have := hmt.s0; have := hmt.st; omega
      clear hkm hfr hq hmt c0 c1 f0 f1 a0 a1 HK2 HA2 HB2 HH2 HKM2
      have c0 := HK3.out.cell 0
      have c1 := HK3.out.cell 1
      have f0 := HK3.out.frozen 0
      have f1 := HK3.out.frozen 1
      have a0 := HA3.out.cell 0
      have a1 := HA3.out.cell 1
      have m2 := HM3.out.cell 2
      simp at c0 c1 a0 a1 m2
      by_cases hle : q.1 ≤ (b + m)
      · have hw4 : -9223372036854775808 ≤ q.1 - b ∧ q.1 - b ≤ 9223372036854775807 := by have := HC.out.2; have := HMM.out; omega
        have HRN : Hid (reN ls l k z b m = q.1 - b) := by show reN ls l k z b m = q.1 - b; unfold reN; rw [HQ.out, HEE.out]; omega
        by_cases hn : q.1 - b < 1
        · obtain ⟨h1, h2⟩ := HNO.out w3 HK3.out HB3.out (fun h => by have := h.2; rw [HRN.out] at this; omega)
          have H1 : Hid _ := h1
          have H2 : Hid _ := h2
          clear h1 h2
          go_wp2
          exact bodyPost_ret (results_P3 rfl _ _ _ l k (.int .i64 0) (.bool false) rfl rfl rfl H1.out) rfl H2.out
        have hn' : (q.1 - b < 1) = False := eq_false hn
        have HN1 : Hid (1 ≤ q.1 - b) := by show 1 ≤ q.1 - b; omega
        clear hn
        go_wp2
        obtain ⟨V6, hV6⟩ : ∃ V6, ((w3.setCell ⟨P + 1, 0, none⟩ (.int .i64 l)).setCell ⟨P + 1, 1, none⟩ (.int .i64 (k + q.2.2))).drew = V6 := ⟨_, rfl⟩
        have HV6 : Hid (((w3.setCell ⟨P + 1, 0, none⟩ (.int .i64 l)).setCell ⟨P + 1, 1, none⟩ (.int .i64 (k + q.2.2))).drew = V6) := hV6
        have HK6 : Hid (Blk V6 (P + 1) (P2 l (k + q.2.2)) 25) := hV6 ▸ ((HK3.out.set 0 _).set 1 _).drew
        have HA6 : Hid (Blk V6 P (P2 l k) 25) := hV6 ▸ ((HA3.out.other _ _ (by dsimp only; omega)).other _ _ (by dsimp only; omega)).drew
        have HM6 : Hid (Blk V6 M #[.slice a ls.length cap, .int .i64 z, .int .i64 q.1, .int .i64 q.2.1, .int .i64 q.2.2] 71) := hV6 ▸ ((HM3.out.other _ _ (by have := HMP.out; dsimp only; omega)).other _ _ (by have := HMP.out; dsimp only; omega)).drew
        have HB6 : Hid (Below w.heap.size w V6) := hV6 ▸ ((HB3.out.setCell (p := ⟨P + 1, 0, none⟩) (by have := HP.out; dsimp only; omega) _).setCell (p := ⟨P + 1, 1, none⟩) (by have := HP.out; dsimp only; omega) _).drew
        have hpk := HPK.out
        simp [pOk] at hpk
        have hcs := HMT.out.cs
        have hc0 := HMT.out.c0
        have hst := HMT.out.st
        have hw5 : -9223372036854775808 ≤ k + q.2.2 ∧ k + q.2.2 ≤ 9223372036854775807 := by have := HC.out.2; have := HMM.out; omega
        clear hV6 hpk hcs hc0 hst c0 c1 f0 f1 a0 a1 m2
        have g0 : w3.drew.cell? ⟨P, 0, none⟩ = some (.int .i64 l) := HA3.out.drew.cell 0
        have g1 : w3.drew.cell? ⟨P, 1, none⟩ = some (.int .i64 k) := HA3.out.drew.cell 1
        have g4 : w3.drew.cell? ⟨M, 4, none⟩ = some (.int .i64 q.2.2) := HM3.out.drew.cell 4
        have g0' : V6.cell? ⟨P, 0, none⟩ = some (.int .i64 l) := HA6.out.cell 0
        have g1' : V6.cell? ⟨P, 1, none⟩ = some (.int .i64 k) := HA6.out.cell 1
        have g4' : V6.cell? ⟨M, 4, none⟩ = some (.int .i64 q.2.2) := HM6.out.cell 4
        have c0 : w3.drew.cell? ⟨P + 1, 0, none⟩ = some (.int .i64 0) := HK3.out.drew.cell 0
        have c1 : w3.drew.cell? ⟨P + 1, 1, none⟩ = some (.int .i64 0) := HK3.out.drew.cell 1
        have f0 : w3.drew.frozen? ⟨P + 1, 0, none⟩ = false := HK3.out.drew.frozen 0
        have f1 : w3.drew.frozen? ⟨P + 1, 1, none⟩ = false := HK3.out.drew.frozen 1
        have c0p : w3.cell? ⟨P + 1, 0, none⟩ = some (.int .i64 0) := HK3.out.cell 0
        have c1p : w3.cell? ⟨P + 1, 1, none⟩ = some (.int .i64 0) := HK3.out.cell 1
        have f0p : w3.frozen? ⟨P + 1, 0, none⟩ = false := HK3.out.frozen 0
        have f1p : w3.frozen? ⟨P + 1, 1, none⟩ = false := HK3.out.frozen 1
        refine region_det [.pointer (some ⟨P, 0, none⟩), .int .i64 l, .pointer (some ⟨P, 1, none⟩), .int .i64 k, .pointer (some ⟨M, 0, none⟩), .pointer (some ⟨M, 0, none⟩), .pointer (some ⟨M, 3, none⟩), .pointer (some ⟨M, 4, none⟩), .int .i64 q.2.2, .int .i64 (k + q.2.2), .agg (P2 l (k + q.2.2)), .int .i64 (q.1 - b), undef, .int .i64 (q.1 - b), .bool true] (DwS w3.drew V6 12) (by kernel_rfl) (by kernel_rfl)
          (by simp only [putAll, Act.put, List.setIfInBounds_toArray, List.set_cons_succ, List.set_cons_zero]; exact rfl) (DwS.begin _ _ _) ⟨?_, ?_, ?_, ?_, ?_, ?_, ?_, ?_, ?_, ?_, ?_, ?_, ?_, ?_, ?_, trivial⟩ ?_
        · rintro d W H hn hd
          have HH1 : Hid (DwS w3.drew V6 12 (doneSet d 0) W) := H.other 0 (by decide)
          clear H hn hd
          go_wp2
          exact ⟨rfl, rfl, HH1.out⟩
        · rintro d W H hn hd
          have HH1 : Hid (DwS w3.drew V6 12 (doneSet d 1) W) := H.other 1 (by decide)
          rcases H.or with hW | hW
          · rw [hW] at HH1 ⊢
            clear H hn hd hW
            go_wp2
            exact ⟨rfl, rfl, HH1.out⟩
          · rw [hW] at HH1 ⊢
            clear H hn hd hW
            go_wp2
            exact ⟨rfl, rfl, HH1.out⟩
        · rintro d W H hn hd
          have HH1 : Hid (DwS w3.drew V6 12 (doneSet d 2) W) := H.other 2 (by decide)
          clear H hn hd
          go_wp2
          exact ⟨rfl, rfl, HH1.out⟩
        · rintro d W H hn hd
          have HH1 : Hid (DwS w3.drew V6 12 (doneSet d 3) W) := H.other 3 (by decide)
          rcases H.or with hW | hW
          · rw [hW] at HH1 ⊢
            clear H hn hd hW
            go_wp2
            exact ⟨rfl, rfl, HH1.out⟩
          · rw [hW] at HH1 ⊢
            clear H hn hd hW
            go_wp2
            exact ⟨rfl, rfl, HH1.out⟩
        · rintro d W H hn hd
          have HH1 : Hid (DwS w3.drew V6 12 (doneSet d 4) W) := H.other 4 (by decide)
          clear H hn hd
          go_wp2
          exact ⟨rfl, rfl, HH1.out⟩
        · rintro d W H hn hd
          have HH1 : Hid (DwS w3.drew V6 12 (doneSet d 5) W) := H.other 5 (by decide)
          clear H hn hd
          go_wp2
          exact ⟨rfl, rfl, HH1.out⟩
        · rintro d W H hn hd
          have HH1 : Hid (DwS w3.drew V6 12 (doneSet d 6) W) := H.other 6 (by decide)
          clear H hn hd
          go_wp2
          exact ⟨rfl, rfl, HH1.out⟩
        · rintro d W H hn hd
          have HH1 : Hid (DwS w3.drew V6 12 (doneSet d 7) W) := H.other 7 (by decide)
          clear H hn hd
          go_wp2
          exact ⟨rfl, rfl, HH1.out⟩
        · rintro d W H hn hd
          have HH1 : Hid (DwS w3.drew V6 12 (doneSet d 8) W) := H.other 8 (by decide)
          rcases H.or with hW | hW
          · rw [hW] at HH1 ⊢
            clear H hn hd hW
            go_wp2
            exact ⟨rfl, rfl, HH1.out⟩
          · rw [hW] at HH1 ⊢
            clear H hn hd hW
            go_wp2
            exact ⟨rfl, rfl, HH1.out⟩
        · rintro d W H hn hd
          have HH1 : Hid (DwS w3.drew V6 12 (doneSet d 9) W) := H.other 9 (by decide)
          clear H hn hd
          go_wp2
          exact ⟨rfl, rfl, HH1.out⟩
        · rintro d W H hn hd
          have HH1 : Hid (DwS w3.drew V6 12 (doneSet d 10) W) := H.other 10 (by decide)
          clear H hn hd
          go_wp2
          exact ⟨rfl, rfl, HH1.out⟩
        · rintro d W H hn hd
          have HH1 : Hid (DwS w3.drew V6 12 (doneSet d 11) W) := H.other 11 (by decide)
          clear H hn hd
          go_wp2
          exact ⟨rfl, rfl, HH1.out⟩
        · rintro d W H hn hd
          obtain rfl := H.1 hn
          clear H hn hd g0' g1' g4'
          go_wp2
          first | rw [HV6.out] | skip
          exact ⟨rfl, rfl, DwS.store⟩
        · rintro d W H hn hd
          have HH1 : Hid (DwS w3.drew V6 12 (doneSet d 13) W) := H.other 13 (by decide)
          clear H hn hd
          go_wp2
          exact ⟨rfl, rfl, HH1.out⟩
        · rintro d W H hn hd
          have HH1 : Hid (DwS w3.drew V6 12 (doneSet d 14) W) := H.other 14 (by decide)
          clear H hn hd
          go_wp2
          exact ⟨rfl, rfl, HH1.out⟩
        rintro d W H hn
        rw [H.2 (hn 12 (by decide))]
        clear H hn g0 g1 g4 g0' g1' g4' c0 c1 f0 f1 c0p c1p f0p f1p
        go_wp2
        exact bodyPost_ret (results_P3 rfl _ _ _ l (k + q.2.2) (.int .i64 (q.1 - b)) (.bool true) rfl rfl rfl HK6.out) rfl ⟨_, _, _, rfl, .inl ⟨⟨⟨HC.out, HPK.out, HMM.out⟩, by rw [HRN.out]; exact HN1.out⟩, by rw [HQ.out], by rw [HRN.out], rfl⟩, HB6.out⟩
      · have hw4 : -9223372036854775808 ≤ (b + m) - b ∧ (b + m) - b ≤ 9223372036854775807 := by have := HC.out.2; have := HMM.out; omega
        have hle2 : (b + m) < q.1 := by omega
        have hle' : (q.1 ≤ (b + m)) = False := eq_false hle
        clear hle
        have HRN : Hid (reN ls l k z b m = (b + m) - b) := by show reN ls l k z b m = (b + m) - b; unfold reN; rw [HQ.out, HEE.out]; omega
        by_cases hn : (b + m) - b < 1
        · obtain ⟨h1, h2⟩ := HNO.out w3 HK3.out HB3.out (fun h => by have := h.2; rw [HRN.out] at this; omega)
          have H1 : Hid _ := h1
          have H2 : Hid _ := h2
          clear h1 h2
          go_wp2
          exact bodyPost_ret (results_P3 rfl _ _ _ l k (.int .i64 0) (.bool false) rfl rfl rfl H1.out) rfl H2.out
        have hn' : ((b + m) - b < 1) = False := eq_false hn
        have HN1 : Hid (1 ≤ (b + m) - b) := by show 1 ≤ (b + m) - b; omega
        clear hn
        go_wp2
        obtain ⟨V6, hV6⟩ : ∃ V6, ((w3.setCell ⟨P + 1, 0, none⟩ (.int .i64 l)).setCell ⟨P + 1, 1, none⟩ (.int .i64 (k + q.2.2))).drew = V6 := ⟨_, rfl⟩
        have HV6 : Hid (((w3.setCell ⟨P + 1, 0, none⟩ (.int .i64 l)).setCell ⟨P + 1, 1, none⟩ (.int .i64 (k + q.2.2))).drew = V6) := hV6
        have HK6 : Hid (Blk V6 (P + 1) (P2 l (k + q.2.2)) 25) := hV6 ▸ ((HK3.out.set 0 _).set 1 _).drew
        have HA6 : Hid (Blk V6 P (P2 l k) 25) := hV6 ▸ ((HA3.out.other _ _ (by dsimp only; omega)).other _ _ (by dsimp only; omega)).drew
        have HM6 : Hid (Blk V6 M #[.slice a ls.length cap, .int .i64 z, .int .i64 q.1, .int .i64 q.2.1, .int .i64 q.2.2] 71) := hV6 ▸ ((HM3.out.other _ _ (by have := HMP.out; dsimp only; omega)).other _ _ (by have := HMP.out; dsimp only; omega)).drew
        have HB6 : Hid (Below w.heap.size w V6) := hV6 ▸ ((HB3.out.setCell (p := ⟨P + 1, 0, none⟩) (by have := HP.out; dsimp only; omega) _).setCell (p := ⟨P + 1, 1, none⟩) (by have := HP.out; dsimp only; omega) _).drew
        have hpk := HPK.out
        simp [pOk] at hpk
        have hcs := HMT.out.cs
        have hc0 := HMT.out.c0
        have hst := HMT.out.st
        have hw5 : -9223372036854775808 ≤ k + q.2.2 ∧ k + q.2.2 ≤ 9223372036854775807 := by have := HC.out.2; have := HMM.out; omega
        clear hV6 hpk hcs hc0 hst c0 c1 f0 f1 a0 a1 m2
        have g0 : w3.drew.cell? ⟨P, 0, none⟩ = some (.int .i64 l) := HA3.out.drew.cell 0
        have g1 : w3.drew.cell? ⟨P, 1, none⟩ = some (.int .i64 k) := HA3.out.drew.cell 1
        have g4 : w3.drew.cell? ⟨M, 4, none⟩ = some (.int .i64 q.2.2) := HM3.out.drew.cell 4
        have g0' : V6.cell? ⟨P, 0, none⟩ = some (.int .i64 l) := HA6.out.cell 0
        have g1' : V6.cell? ⟨P, 1, none⟩ = some (.int .i64 k) := HA6.out.cell 1
        have g4' : V6.cell? ⟨M, 4, none⟩ = some (.int .i64 q.2.2) := HM6.out.cell 4
        have c0 : w3.drew.cell? ⟨P + 1, 0, none⟩ = some (.int .i64 0) := HK3.out.drew.cell 0
        have c1 : w3.drew.cell? ⟨P + 1, 1, none⟩ = some (.int .i64 0) := HK3.out.drew.cell 1
        have f0 : w3.drew.frozen? ⟨P + 1, 0, none⟩ = false := HK3.out.drew.frozen 0
        have f1 : w3.drew.frozen? ⟨P + 1, 1, none⟩ = false := HK3.out.drew.frozen 1
        have c0p : w3.cell? ⟨P + 1, 0, none⟩ = some (.int .i64 0) := HK3.out.cell 0
        have c1p : w3.cell? ⟨P + 1, 1, none⟩ = some (.int .i64 0) := HK3.out.cell 1
        have f0p : w3.frozen? ⟨P + 1, 0, none⟩ = false := HK3.out.frozen 0
        have f1p : w3.frozen? ⟨P + 1, 1, none⟩ = false := HK3.out.frozen 1
        refine region_det [.pointer (some ⟨P, 0, none⟩), .int .i64 l, .pointer (some ⟨P, 1, none⟩), .int .i64 k, .pointer (some ⟨M, 0, none⟩), .pointer (some ⟨M, 0, none⟩), .pointer (some ⟨M, 3, none⟩), .pointer (some ⟨M, 4, none⟩), .int .i64 q.2.2, .int .i64 (k + q.2.2), .agg (P2 l (k + q.2.2)), .int .i64 ((b + m) - b), undef, .int .i64 ((b + m) - b), .bool true] (DwS w3.drew V6 12) (by kernel_rfl) (by kernel_rfl)
          (by simp only [putAll, Act.put, List.setIfInBounds_toArray, List.set_cons_succ, List.set_cons_zero]; exact rfl) (DwS.begin _ _ _) ⟨?_, ?_, ?_, ?_, ?_, ?_, ?_, ?_, ?_, ?_, ?_, ?_, ?_, ?_, ?_, trivial⟩ ?_
        · rintro d W H hn hd
          have HH1 : Hid (DwS w3.drew V6 12 (doneSet d 0) W) := H.other 0 (by decide)
          clear H hn hd
          go_wp2
          exact ⟨rfl, rfl, HH1.out⟩
        · rintro d W H hn hd
          have HH1 : Hid (DwS w3.drew V6 12 (doneSet d 1) W) := H.other 1 (by decide)
          rcases H.or with hW | hW
          · rw [hW] at HH1 ⊢
            clear H hn hd hW
            go_wp2
            exact ⟨rfl, rfl, HH1.out⟩
          · rw [hW] at HH1 ⊢
            clear H hn hd hW
            go_wp2
            exact ⟨rfl, rfl, HH1.out⟩
        · rintro d W H hn hd
          have HH1 : Hid (DwS w3.drew V6 12 (doneSet d 2) W) := H.other 2 (by decide)
          clear H hn hd
          go_wp2
          exact ⟨rfl, rfl, HH1.out⟩
        · rintro d W H hn hd
          have HH1 : Hid (DwS w3.drew V6 12 (doneSet d 3) W) := H.other 3 (by decide)
          rcases H.or with hW | hW
          · rw [hW] at HH1 ⊢
            clear H hn hd hW
            go_wp2
            exact ⟨rfl, rfl, HH1.out⟩
          · rw [hW] at HH1 ⊢
            clear H hn hd hW
            go_wp2
            exact ⟨rfl, rfl, HH1.out⟩
        · rintro d W H hn hd
          have HH1 : Hid (DwS w3.drew V6 12 (doneSet d 4) W) := H.other 4 (by decide)
          clear H hn hd
          go_wp2
          exact ⟨rfl, rfl, HH1.out⟩
        · rintro d W H hn hd
          have HH1 : Hid (DwS w3.drew V6 12 (doneSet d 5) W) := H.other 5 (by decide)
          clear H hn hd
          go_wp2
          exact ⟨rfl, rfl, HH1.out⟩
        · rintro d W H hn hd
          have HH1 : Hid (DwS w3.drew V6 12 (doneSet d 6) W) := H.other 6 (by decide)
          clear H hn hd
          go_wp2
          exact ⟨rfl, rfl, HH1.out⟩
        · rintro d W H hn hd
          have HH1 : Hid (DwS w3.drew V6 12 (doneSet d 7) W) := H.other 7 (by decide)
          clear H hn hd
          go_wp2
          exact ⟨rfl, rfl, HH1.out⟩
        · rintro d W H hn hd
          have HH1 : Hid (DwS w3.drew V6 12 (doneSet d 8) W) := H.other 8 (by decide)
          rcases H.or with hW | hW
          · rw [hW] at HH1 ⊢
            clear H hn hd hW
            go_wp2
            exact ⟨rfl, rfl, HH1.out⟩
          · rw [hW] at HH1 ⊢
            clear H hn hd hW
            go_wp2
            exact ⟨rfl, rfl, HH1.out⟩
        · rintro d W H hn hd
          have HH1 : Hid (DwS w3.drew V6 12 (doneSet d 9) W) := H.other 9 (by decide)
          clear H hn hd
          go_wp2
          exact ⟨rfl, rfl, HH1.out⟩
        · rintro d W H hn hd
          have HH1 : Hid (DwS w3.drew V6 12 (doneSet d 10) W) := H.other 10 (by decide)
          clear H hn hd
          go_wp2
          exact ⟨rfl, rfl, HH1.out⟩
        · rintro d W H hn hd
          have HH1 : Hid (DwS w3.drew V6 12 (doneSet d 11) W) := H.other 11 (by decide)
          clear H hn hd
          go_wp2
          exact ⟨rfl, rfl, HH1.out⟩
        · rintro d W H hn hd
          obtain rfl := H.1 hn
          clear H hn hd g0' g1' g4'
          go_wp2
          first | rw [HV6.out] | skip
          exact ⟨rfl, rfl, DwS.store⟩
        · rintro d W H hn hd
          have HH1 : Hid (DwS w3.drew V6 12 (doneSet d 13) W) := H.other 13 (by decide)
          clear H hn hd
          go_wp2
          exact ⟨rfl, rfl, HH1.out⟩
        · rintro d W H hn hd
          have HH1 : Hid (DwS w3.drew V6 12 (doneSet d 14) W) := H.other 14 (by decide)
          clear H hn hd
          go_wp2
          exact ⟨rfl, rfl, HH1.out⟩
        rintro d W H hn
        rw [H.2 (hn 12 (by decide))]
        clear H hn g0 g1 g4 g0' g1' g4' c0 c1 f0 f1 c0p c1p f0p f1p
        go_wp2
        exact bodyPost_ret (results_P3 rfl _ _ _ l (k + q.2.2) (.int .i64 ((b + m) - b)) (.bool true) rfl rfl rfl HK6.out) rfl ⟨_, _, _, rfl, .inl ⟨⟨⟨HC.out, HPK.out, HMM.out⟩, by rw [HRN.out]; exact HN1.out⟩, by rw [HQ.out], by rw [HRN.out], rfl⟩, HB6.out⟩
    · have hbm' : (b + m ≤ 1000000000) = False := eq_false hbm
      have hbm2 : 1000000000 < b + m := by omega
      clear hbm
      have HEE : Hid (reE b m = 1000000000) := by show reE b m = 1000000000; unfold reE; omega
      have HM : Hid (∀ k, (Value.slice a ls.length cap).ownBlock = some k → k ≠ M) := fun k hk => by
        rcases HV.out with h | h
        · obtain ⟨i, hi, -⟩ := HC.out.2.2.2
          rw [h] at hi; simp at hi
        · have h1 := h k hk
          have h2 := HMP.out
          have h3 := HP.out
          omega
      go_wp2_with (fail)
      refine (count_c _ ls M (1000000000 - b).toNat z (1000000000) (l - k) b 0 (tfA ls z b).2.2.2.2 w2 HH2.out HM.out HKM2.out HC.out.1 HC.out.2.2.2 (by have := HMM.out; have := HC.out.2; omega) (by omega) HC.out.2.1 (MtOk.zero HC.out.1 HC.out.2.2.2)).mono ?_
      rintro x w3 ⟨rfl, hkm, hfr⟩
      obtain ⟨q, hq⟩ : ∃ q, cN ls z (1000000000) (l - k) (1000000000 - b).toNat b 0 (tfA ls z b).2.2.2.2 = q := ⟨_, rfl⟩
      have hmt := cN_bd (e := 1000000000) (r := l - k) HC.out.1 HC.out.2.2.2 (1000000000 - b).toNat b 0 (tfA ls z b).2.2.2.2 (MtOk.zero HC.out.1 HC.out.2.2.2)
      have hqt : q.1 ≤ 1000000000 + 10000 := by have := cN_end (e := 1000000000) (r := l - k) HC.out.1 HC.out.2.2.2 (1000000000 - b).toNat b 0 (tfA ls z b).2.2.2.2 (by have := HC.out.2; have := HMM.out; omega); rw [hq] at this; exact this
      rw [hq] at hkm hmt
      have HQ : Hid (reQ ls l k z b m = q) := by show reQ ls l k z b m = q; unfold reQ; rw [HEE.out, hq]
      have HB3 : Hid (Below w.heap.size w w3) := HB2.out.trans (hfr.below HB2.out.size (fun j e => by have h1 := HMP.out; have h2 := HP.out; omega))
      have HK3 : Hid (Blk w3 (P + 1) (P2 0 0) 25) := HK2.out.fr hfr (by have h1 := HMP.out; omega)
      have HA3 : Hid (Blk w3 P (P2 l k) 25) := HA2.out.fr hfr (by have h1 := HMP.out; omega)
      have HM3 : Hid (Blk w3 M #[.slice a ls.length cap, .int .i64 z, .int .i64 q.1, .int .i64 q.2.1, .int .i64 q.2.2] 71) := hkm
      have HMT : Hid (MtOk b q.1 q.2.1 q.2.2) := hmt
      have hq1 : b ≤ q.1 := by have := hmt.s0; have := hmt.st; omega
      clear hkm hfr hq hmt c0 c1 f0 f1 a0 a1 HK2 HA2 HB2 HH2 HKM2
      have c0 := HK3.out.cell 0
      have c1 := HK3.out.cell 1
      have f0 := HK3.out.frozen 0
      have f1 := HK3.out.frozen 1
      have a0 := HA3.out.cell 0
      have a1 := HA3.out.cell 1
      have m2 := HM3.out.cell 2
      simp at c0 c1 a0 a1 m2
      by_cases hle : q.1 ≤ 1000000000
      · have hw4 : -9223372036854775808 ≤ q.1 - b ∧ q.1 - b ≤ 9223372036854775807 := by have := HC.out.2; have := HMM.out; omega
        have HRN : Hid (reN ls l k z b m = q.1 - b) := by show reN ls l k z b m = q.1 - b; unfold reN; rw [HQ.out, HEE.out]; omega
        by_cases hn : q.1 - b < 1
        · obtain ⟨h1, h2⟩ := HNO.out w3 HK3.out HB3.out (fun h => by have := h.2; rw [HRN.out] at this; omega)
          have H1 : Hid _ := h1
          have H2 : Hid _ := h2
          clear h1 h2
          go_wp2
          exact bodyPost_ret (results_P3 rfl _ _ _ l k (.int .i64 0) (.bool false) rfl rfl rfl H1.out) rfl H2.out
        have hn' : (q.1 - b < 1) = False := eq_false hn
        have HN1 : Hid (1 ≤ q.1 - b) := by show 1 ≤ q.1 - b; omega
        clear hn
        go_wp2
        obtain ⟨V6, hV6⟩ : ∃ V6, ((w3.setCell ⟨P + 1, 0, none⟩ (.int .i64 l)).setCell ⟨P + 1, 1, none⟩ (.int .i64 (k + q.2.2))).drew = V6 := ⟨_, rfl⟩
        have HV6 : Hid (((w3.setCell ⟨P + 1, 0, none⟩ (.int .i64 l)).setCell ⟨P + 1, 1, none⟩ (.int .i64 (k + q.2.2))).drew = V6) := hV6
        have HK6 : Hid (Blk V6 (P + 1) (P2 l (k + q.2.2)) 25) := hV6 ▸ ((HK3.out.set 0 _).set 1 _).drew
        have HA6 : Hid (Blk V6 P (P2 l k) 25) := hV6 ▸ ((HA3.out.other _ _ (by dsimp only; omega)).other _ _ (by dsimp only; omega)).drew
        have HM6 : Hid (Blk V6 M #[.slice a ls.length cap, .int .i64 z, .int .i64 q.1, .int .i64 q.2.1, .int .i64 q.2.2] 71) := hV6 ▸ ((HM3.out.other _ _ (by have := HMP.out; dsimp only; omega)).other _ _ (by have := HMP.out; dsimp only; omega)).drew
        have HB6 : Hid (Below w.heap.size w V6) := hV6 ▸ ((HB3.out.setCell (p := ⟨P + 1, 0, none⟩) (by have := HP.out; dsimp only; omega) _).setCell (p := ⟨P + 1, 1, none⟩) (by have := HP.out; dsimp only; omega) _).drew
        have hpk := HPK.out
        simp [pOk] at hpk
        have hcs := HMT.out.cs
        have hc0 := HMT.out.c0
        have hst := HMT.out.st
        have hw5 : -9223372036854775808 ≤ k + q.2.2 ∧ k + q.2.2 ≤ 9223372036854775807 := by have := HC.out.2; have := HMM.out; omega
        clear hV6 hpk hcs hc0 hst c0 c1 f0 f1 a0 a1 m2
        have g0 : w3.drew.cell? ⟨P, 0, none⟩ = some (.int .i64 l) := HA3.out.drew.cell 0
        have g1 : w3.drew.cell? ⟨P, 1, none⟩ = some (.int .i64 k) := HA3.out.drew.cell 1
        have g4 : w3.drew.cell? ⟨M, 4, none⟩ = some (.int .i64 q.2.2) := HM3.out.drew.cell 4
        have g0' : V6.cell? ⟨P, 0, none⟩ = some (.int .i64 l) := HA6.out.cell 0
        have g1' : V6.cell? ⟨P, 1, none⟩ = some (.int .i64 k) := HA6.out.cell 1
        have g4' : V6.cell? ⟨M, 4, none⟩ = some (.int .i64 q.2.2) := HM6.out.cell 4
        have c0 : w3.drew.cell? ⟨P + 1, 0, none⟩ = some (.int .i64 0) := HK3.out.drew.cell 0
        have c1 : w3.drew.cell? ⟨P + 1, 1, none⟩ = some (.int .i64 0) := HK3.out.drew.cell 1
        have f0 : w3.drew.frozen? ⟨P + 1, 0, none⟩ = false := HK3.out.drew.frozen 0
        have f1 : w3.drew.frozen? ⟨P + 1, 1, none⟩ = false := HK3.out.drew.frozen 1
        have c0p : w3.cell? ⟨P + 1, 0, none⟩ = some (.int .i64 0) := HK3.out.cell 0
        have c1p : w3.cell? ⟨P + 1, 1, none⟩ = some (.int .i64 0) := HK3.out.cell 1
        have f0p : w3.frozen? ⟨P + 1, 0, none⟩ = false := HK3.out.frozen 0
        have f1p : w3.frozen? ⟨P + 1, 1, none⟩ = false := HK3.out.frozen 1
        refine region_det [.pointer (some ⟨P, 0, none⟩), .int .i64 l, .pointer (some ⟨P, 1, none⟩), .int .i64 k, .pointer (some ⟨M, 0, none⟩), .pointer (some ⟨M, 0, none⟩), .pointer (some ⟨M, 3, none⟩), .pointer (some ⟨M, 4, none⟩), .int .i64 q.2.2, .int .i64 (k + q.2.2), .agg (P2 l (k + q.2.2)), .int .i64 (q.1 - b), undef, .int .i64 (q.1 - b), .bool true] (DwS w3.drew V6 12) (by kernel_rfl) (by kernel_rfl)
          (by simp only [putAll, Act.put, List.setIfInBounds_toArray, List.set_cons_succ, List.set_cons_zero]; exact rfl) (DwS.begin _ _ _) ⟨?_, ?_, ?_, ?_, ?_, ?_, ?_, ?_, ?_, ?_, ?_, ?_, ?_, ?_, ?_, trivial⟩ ?_
        · rintro d W H hn hd
          have HH1 : Hid (DwS w3.drew V6 12 (doneSet d 0) W) := H.other 0 (by decide)
          clear H hn hd
          go_wp2
          exact ⟨rfl, rfl, HH1.out⟩
        · rintro d W H hn hd
          have HH1 : Hid (DwS w3.drew V6 12 (doneSet d 1) W) := H.other 1 (by decide)
          rcases H.or with hW | hW
          · rw [hW] at HH1 ⊢
            clear H hn hd hW
            go_wp2
            exact ⟨rfl, rfl, HH1.out⟩
          · rw [hW] at HH1 ⊢
            clear H hn hd hW
            go_wp2
            exact ⟨rfl, rfl, HH1.out⟩
        · rintro d W H hn hd
          have HH1 : Hid (DwS w3.drew V6 12 (doneSet d 2) W) := H.other 2 (by decide)
          clear H hn hd
          go_wp2
          exact ⟨rfl, rfl, HH1.out⟩
        · rintro d W H hn hd
          have HH1 : Hid (DwS w3.drew V6 12 (doneSet d 3) W) := H.other 3 (by decide)
          rcases H.or with hW | hW
          · rw [hW] at HH1 ⊢
            clear H hn hd hW
            go_wp2
            exact ⟨rfl, rfl, HH1.out⟩
          · rw [hW] at HH1 ⊢
            clear H hn hd hW
            go_wp2
            exact ⟨rfl, rfl, HH1.out⟩
        · rintro d W H hn hd
          have HH1 : Hid (DwS w3.drew V6 12 (doneSet d 4) W) := H.other 4 (by decide)
          clear H hn hd
          go_wp2
          exact ⟨rfl, rfl, HH1.out⟩
        · rintro d W H hn hd
          have HH1 : Hid (DwS w3.drew V6 12 (doneSet d 5) W) := H.other 5 (by decide)
          clear H hn hd
          go_wp2
          exact ⟨rfl, rfl, HH1.out⟩
        · rintro d W H hn hd
          have HH1 : Hid (DwS w3.drew V6 12 (doneSet d 6) W) := H.other 6 (by decide)
          clear H hn hd
          go_wp2
          exact ⟨rfl, rfl, HH1.out⟩
        · rintro d W H hn hd
          have HH1 : Hid (DwS w3.drew V6 12 (doneSet d 7) W) := H.other 7 (by decide)
          clear H hn hd
          go_wp2
          exact ⟨rfl, rfl, HH1.out⟩
        · rintro d W H hn hd
          have HH1 : Hid (DwS w3.drew V6 12 (doneSet d 8) W) := H.other 8 (by decide)
          rcases H.or with hW | hW
          · rw [hW] at HH1 ⊢
            clear H hn hd hW
            go_wp2
            exact ⟨rfl, rfl, HH1.out⟩
          · rw [hW] at HH1 ⊢
            clear H hn hd hW
            go_wp2
            exact ⟨rfl, rfl, HH1.out⟩
        · rintro d W H hn hd
          have HH1 : Hid (DwS w3.drew V6 12 (doneSet d 9) W) := H.other 9 (by decide)
          clear H hn hd
          go_wp2
          exact ⟨rfl, rfl, HH1.out⟩
        · rintro d W H hn hd
          have HH1 : Hid (DwS w3.drew V6 12 (doneSet d 10) W) := H.other 10 (by decide)
          clear H hn hd
          go_wp2
          exact ⟨rfl, rfl, HH1.out⟩
        · rintro d W H hn hd
          have HH1 : Hid (DwS w3.drew V6 12 (doneSet d 11) W) := H.other 11 (by decide)
          clear H hn hd
          go_wp2
          exact ⟨rfl, rfl, HH1.out⟩
        · rintro d W H hn hd
          obtain rfl := H.1 hn
          clear H hn hd g0' g1' g4'
          go_wp2
          first | rw [HV6.out] | skip
          exact ⟨rfl, rfl, DwS.store⟩
        · rintro d W H hn hd
          have HH1 : Hid (DwS w3.drew V6 12 (doneSet d 13) W) := H.other 13 (by decide)
          clear H hn hd
          go_wp2
          exact ⟨rfl, rfl, HH1.out⟩
        · rintro d W H hn hd
          have HH1 : Hid (DwS w3.drew V6 12 (doneSet d 14) W) := H.other 14 (by decide)
          clear H hn hd
          go_wp2
          exact ⟨rfl, rfl, HH1.out⟩
        rintro d W H hn
        rw [H.2 (hn 12 (by decide))]
        clear H hn g0 g1 g4 g0' g1' g4' c0 c1 f0 f1 c0p c1p f0p f1p
        go_wp2
        exact bodyPost_ret (results_P3 rfl _ _ _ l (k + q.2.2) (.int .i64 (q.1 - b)) (.bool true) rfl rfl rfl HK6.out) rfl ⟨_, _, _, rfl, .inl ⟨⟨⟨HC.out, HPK.out, HMM.out⟩, by rw [HRN.out]; exact HN1.out⟩, by rw [HQ.out], by rw [HRN.out], rfl⟩, HB6.out⟩
      · have hw4 : -9223372036854775808 ≤ 1000000000 - b ∧ 1000000000 - b ≤ 9223372036854775807 := by have := HC.out.2; have := HMM.out; omega
        have hle2 : 1000000000 < q.1 := by omega
        have hle' : (q.1 ≤ 1000000000) = False := eq_false hle
        clear hle
        have HRN : Hid (reN ls l k z b m = 1000000000 - b) := by show reN ls l k z b m = 1000000000 - b; unfold reN; rw [HQ.out, HEE.out]; omega
        by_cases hn : 1000000000 - b < 1
        · obtain ⟨h1, h2⟩ := HNO.out w3 HK3.out HB3.out (fun h => by have := h.2; rw [HRN.out] at this; omega)
          have H1 : Hid _ := h1
          have H2 : Hid _ := h2
          clear h1 h2
          go_wp2
          exact bodyPost_ret (results_P3 rfl _ _ _ l k (.int .i64 0) (.bool false) rfl rfl rfl H1.out) rfl H2.out
        have hn' : (1000000000 - b < 1) = False := eq_false hn
        have HN1 : Hid (1 ≤ 1000000000 - b) := by show 1 ≤ 1000000000 - b; omega
        clear hn
        go_wp2
        obtain ⟨V6, hV6⟩ : ∃ V6, ((w3.setCell ⟨P + 1, 0, none⟩ (.int .i64 l)).setCell ⟨P + 1, 1, none⟩ (.int .i64 (k + q.2.2))).drew = V6 := ⟨_, rfl⟩
        have HV6 : Hid (((w3.setCell ⟨P + 1, 0, none⟩ (.int .i64 l)).setCell ⟨P + 1, 1, none⟩ (.int .i64 (k + q.2.2))).drew = V6) := hV6
        have HK6 : Hid (Blk V6 (P + 1) (P2 l (k + q.2.2)) 25) := hV6 ▸ ((HK3.out.set 0 _).set 1 _).drew
        have HA6 : Hid (Blk V6 P (P2 l k) 25) := hV6 ▸ ((HA3.out.other _ _ (by dsimp only; omega)).other _ _ (by dsimp only; omega)).drew
        have HM6 : Hid (Blk V6 M #[.slice a ls.length cap, .int .i64 z, .int .i64 q.1, .int .i64 q.2.1, .int .i64 q.2.2] 71) := hV6 ▸ ((HM3.out.other _ _ (by have := HMP.out; dsimp only; omega)).other _ _ (by have := HMP.out; dsimp only; omega)).drew
        have HB6 : Hid (Below w.heap.size w V6) := hV6 ▸ ((HB3.out.setCell (p := ⟨P + 1, 0, none⟩) (by have := HP.out; dsimp only; omega) _).setCell (p := ⟨P + 1, 1, none⟩) (by have := HP.out; dsimp only; omega) _).drew
        have hpk := HPK.out
        simp [pOk] at hpk
        have hcs := HMT.out.cs
        have hc0 := HMT.out.c0
        have hst := HMT.out.st
        have hw5 : -9223372036854775808 ≤ k + q.2.2 ∧ k + q.2.2 ≤ 9223372036854775807 := by have := HC.out.2; have := HMM.out; omega
        clear hV6 hpk hcs hc0 hst c0 c1 f0 f1 a0 a1 m2
        have g0 : w3.drew.cell? ⟨P, 0, none⟩ = some (.int .i64 l) := HA3.out.drew.cell 0
        have g1 : w3.drew.cell? ⟨P, 1, none⟩ = some (.int .i64 k) := HA3.out.drew.cell 1
        have g4 : w3.drew.cell? ⟨M, 4, none⟩ = some (.int .i64 q.2.2) := HM3.out.drew.cell 4
        have g0' : V6.cell? ⟨P, 0, none⟩ = some (.int .i64 l) := HA6.out.cell 0
        have g1' : V6.cell? ⟨P, 1, none⟩ = some (.int .i64 k) := HA6.out.cell 1
        have g4' : V6.cell? ⟨M, 4, none⟩ = some (.int .i64 q.2.2) := HM6.out.cell 4
        have c0 : w3.drew.cell? ⟨P + 1, 0, none⟩ = some (.int .i64 0) := HK3.out.drew.cell 0
        have c1 : w3.drew.cell? ⟨P + 1, 1, none⟩ = some (.int .i64 0) := HK3.out.drew.cell 1
        have f0 : w3.drew.frozen? ⟨P + 1, 0, none⟩ = false := HK3.out.drew.frozen 0
        have f1 : w3.drew.frozen? ⟨P + 1, 1, none⟩ = false := HK3.out.drew.frozen 1
        have c0p : w3.cell? ⟨P + 1, 0, none⟩ = some (.int .i64 0) := HK3.out.cell 0
        have c1p : w3.cell? ⟨P + 1, 1, none⟩ = some (.int .i64 0) := HK3.out.cell 1
        have f0p : w3.frozen? ⟨P + 1, 0, none⟩ = false := HK3.out.frozen 0
        have f1p : w3.frozen? ⟨P + 1, 1, none⟩ = false := HK3.out.frozen 1
        refine region_det [.pointer (some ⟨P, 0, none⟩), .int .i64 l, .pointer (some ⟨P, 1, none⟩), .int .i64 k, .pointer (some ⟨M, 0, none⟩), .pointer (some ⟨M, 0, none⟩), .pointer (some ⟨M, 3, none⟩), .pointer (some ⟨M, 4, none⟩), .int .i64 q.2.2, .int .i64 (k + q.2.2), .agg (P2 l (k + q.2.2)), .int .i64 (1000000000 - b), undef, .int .i64 (1000000000 - b), .bool true] (DwS w3.drew V6 12) (by kernel_rfl) (by kernel_rfl)
          (by simp only [putAll, Act.put, List.setIfInBounds_toArray, List.set_cons_succ, List.set_cons_zero]; exact rfl) (DwS.begin _ _ _) ⟨?_, ?_, ?_, ?_, ?_, ?_, ?_, ?_, ?_, ?_, ?_, ?_, ?_, ?_, ?_, trivial⟩ ?_
        · rintro d W H hn hd
          have HH1 : Hid (DwS w3.drew V6 12 (doneSet d 0) W) := H.other 0 (by decide)
          clear H hn hd
          go_wp2
          exact ⟨rfl, rfl, HH1.out⟩
        · rintro d W H hn hd
          have HH1 : Hid (DwS w3.drew V6 12 (doneSet d 1) W) := H.other 1 (by decide)
          rcases H.or with hW | hW
          · rw [hW] at HH1 ⊢
            clear H hn hd hW
            go_wp2
            exact ⟨rfl, rfl, HH1.out⟩
          · rw [hW] at HH1 ⊢
            clear H hn hd hW
            go_wp2
            exact ⟨rfl, rfl, HH1.out⟩
        · rintro d W H hn hd
          have HH1 : Hid (DwS w3.drew V6 12 (doneSet d 2) W) := H.other 2 (by decide)
          clear H hn hd
          go_wp2
          exact ⟨rfl, rfl, HH1.out⟩
        · rintro d W H hn hd
          have HH1 : Hid (DwS w3.drew V6 12 (doneSet d 3) W) := H.other 3 (by decide)
          rcases H.or with hW | hW
          · rw [hW] at HH1 ⊢
            clear H hn hd hW
            go_wp2
            exact ⟨rfl, rfl, HH1.out⟩
          · rw [hW] at HH1 ⊢
            clear H hn hd hW
            go_wp2
            exact ⟨rfl, rfl, HH1.out⟩
        · rintro d W H hn hd
          have HH1 : Hid (DwS w3.drew V6 12 (doneSet d 4) W) := H.other 4 (by decide)
          clear H hn hd
          go_wp2
          exact ⟨rfl, rfl, HH1.out⟩
        · rintro d W H hn hd
          have HH1 : Hid (DwS w3.drew V6 12 (doneSet d 5) W) := H.other 5 (by decide)
          clear H hn hd
          go_wp2
          exact ⟨rfl, rfl, HH1.out⟩
        · rintro d W H hn hd
          have HH1 : Hid (DwS w3.drew V6 12 (doneSet d 6) W) := H.other 6 (by decide)
          clear H hn hd
          go_wp2
          exact ⟨rfl, rfl, HH1.out⟩
        · rintro d W H hn hd
          have HH1 : Hid (DwS w3.drew V6 12 (doneSet d 7) W) := H.other 7 (by decide)
          clear H hn hd
          go_wp2
          exact ⟨rfl, rfl, HH1.out⟩
        · rintro d W H hn hd
          have HH1 : Hid (DwS w3.drew V6 12 (doneSet d 8) W) := H.other 8 (by decide)
          rcases H.or with hW | hW
          · rw [hW] at HH1 ⊢
            clear H hn hd hW
            go_wp2
            exact ⟨rfl, rfl, HH1.out⟩
          · rw [hW] at HH1 ⊢
            clear H hn hd hW
            go_wp2
            exact ⟨rfl, rfl, HH1.out⟩
        · rintro d W H hn hd
          have HH1 : Hid (DwS w3.drew V6 12 (doneSet d 9) W) := H.other 9 (by decide)
          clear H hn hd
          go_wp2
          exact ⟨rfl, rfl, HH1.out⟩
        · rintro d W H hn hd
          have HH1 : Hid (DwS w3.drew V6 12 (doneSet d 10) W) := H.other 10 (by decide)
          clear H hn hd
          go_wp2
          exact ⟨rfl, rfl, HH1.out⟩
        · rintro d W H hn hd
          have HH1 : Hid (DwS w3.drew V6 12 (doneSet d 11) W) := H.other 11 (by decide)
          clear H hn hd
          go_wp2
          exact ⟨rfl, rfl, HH1.out⟩
        · rintro d W H hn hd
          obtain rfl := H.1 hn
          clear H hn hd g0' g1' g4'
          go_wp2
          first | rw [HV6.out] | skip
          exact ⟨rfl, rfl, DwS.store⟩
        · rintro d W H hn hd
          have HH1 : Hid (DwS w3.drew V6 12 (doneSet d 13) W) := H.other 13 (by decide)
          clear H hn hd
          go_wp2
          exact ⟨rfl, rfl, HH1.out⟩
        · rintro d W H hn hd
          have HH1 : Hid (DwS w3.drew V6 12 (doneSet d 14) W) := H.other 14 (by decide)
          clear H hn hd
          go_wp2
          exact ⟨rfl, rfl, HH1.out⟩
        rintro d W H hn
        rw [H.2 (hn 12 (by decide))]
        clear H hn g0 g1 g4 g0' g1' g4' c0 c1 f0 f1 c0p c1p f0p f1p
        go_wp2
        exact bodyPost_ret (results_P3 rfl _ _ _ l (k + q.2.2) (.int .i64 (1000000000 - b)) (.bool true) rfl rfl rfl HK6.out) rfl ⟨_, _, _, rfl, .inl ⟨⟨⟨HC.out, HPK.out, HMM.out⟩, by rw [HRN.out]; exact HN1.out⟩, by rw [HQ.out], by rw [HRN.out], rfl⟩, HB6.out⟩
end Go.Proofs.Ytdnophdldpophaa
