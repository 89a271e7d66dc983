/- The model: what is played next; no condition. -/
import Derived.Test.YtkjfcebdjnclaaaDoorPyi
import Derived.Test.YtkjfcebdjnclaaaDoorOfm
namespace Go.Proofs.YtkjfcebdjnclaaaDoor
open Go.RowKit Go.ChangeShapes Go.WideShapes Go.ChangeAt
set_option linter.unusedVariables false
set_option linter.unusedSimpArgs false
set_option maxRecDepth 8000

theorem pcF_zero {n : Int} {ls : List Pk} (h : StOk n ls) : pcF ls n = 0 := pcF_eq ls n 0 (Nat.zero_le _) (fun t _ ht => by omega) (fun h0 => by have := h.ge 0 h0; simp at this; omega)

theorem rgSet {w : World} {v : Value} {ls : List Pk} (h : Rg 18 pkC w v ls) (g j : Nat) (u : Value) (hne : v.ownBlock ≠ some g) : Rg 18 pkC (w.setCell ⟨g, j, none⟩ u) v ls :=
  h.grown (row := some g) ⟨rfl, rfl, rfl, by simp, fun i _ hi => heap_setCell_other w ⟨g, j, none⟩ i u (fun e => hi (by simp [e]))⟩ (.inr (.inr hne))
theorem rgRow {w : World} {v : Value} {ls : List Pk} (h : Rg 18 pkC w v ls) (g : Nat) (cs : Array Value) (hne : v.ownBlock ≠ some g) : Rg 18 pkC (w.setRow g cs) v ls :=
  h.grown (row := some g) ⟨rfl, rfl, rfl, by simp, fun i _ hi => setRow_other w g i cs (fun e => hi (by simp [e]))⟩ (.inr (.inr hne))
/-- whether the next one stands first -/
def hdB (n : Int) : List Pk → Bool
  | [] => false
  | k :: _ => k.s == n
theorem thB_hd {n : Int} {ls : List Pk} (h : StOk n ls) : thB ls n = hdB n ls := by
  unfold thB
  rw [pcF_zero h]
  cases ls <;> rfl
theorem pcF_succ {n : Int} {ls : List Pk} (h : StOk n ls) : pcF ls (n + 1) = if hdB n ls then 1 else 0 := by
  cases ls with
  | nil => rfl
  | cons k r =>
    by_cases hk : k.s = n
    · have hb : hdB n (k :: r) = true := by simp [hdB, hk]
      rw [hb, if_pos rfl]
      refine pcF_eq _ _ 1 (by simp) (fun t ht h1 => ?_) (fun h1 => ?_)
      · obtain rfl : t = 0 := by omega
        simp; omega
      · have := h.ge 1 h1
        simp at this ⊢; omega
    · have hb : hdB n (k :: r) = false := by simp [hdB, hk]
      rw [hb]
      refine pcF_eq _ _ 0 (by simp) (fun t _ h1 => by omega) (fun h1 => ?_)
      have := h.ge 0 h1
      simp at this ⊢; omega
structure Rm (Wd : World) (g : Nat) (b : Nat) (off : Nat) (n : Nat) (cap : Nat) (l : Int) (f : Nat → Int) (out : List Int) (cc : Int × Int) (ok : Bool) (d : Nat → Bool) (W : World) (v0 v1 v2 v3 v4 v5 v6 v7 v8 v9 v10 v11 v12 v13 : Value) (av : Option Addr) (cv : Nat) : Prop where
  bel : Below Wd.heap.size Wd W
  f0 : d 0 = true → v0 = .pointer (some ⟨g, 4, none⟩)
  f1 : d 1 = true → v1 = .int .i64 l
  f2 : d 2 = true → v2 = .pointer (some ⟨g, 5, none⟩)
  f3 : d 3 = true → v3 = .slice (some ⟨b, off, none⟩) n cap
  f4 : d 4 = true → v4 = .pointer (some ⟨b, off, none⟩)
  f5 : d 5 = true → v5 = .pointer (some ⟨b, off + 2, none⟩)
  f6 : d 6 = true → v6 = .agg (A16 f)
  f7 : d 7 = true → v7 = .tuple #[.slice av out.length cv, .agg (cdA cc), .bool ok]
  f8 : d 8 = true → v8 = .tuple #[.slice av out.length cv, .agg (cdA cc), .bool ok]
  f9 : d 9 = true → v9 = .slice av out.length cv
  f10 : d 10 = true → v10 = .agg (cdA cc)
  f11 : d 11 = true → v11 = .bool ok
  f12 : d 12 = true → v12 = .slice av out.length cv
  f13 : d 13 = true → v13 = .bool ok
  o7 : d 7 = true → Ow .i64 3 Wd.heap.size W (.slice av out.length cv) out
  g8_7 : d 8 = true → d 7 = true
  g9_7 : d 9 = true → d 7 = true
  g12_7 : d 12 = true → d 7 = true
def RmS (Wd : World) (g : Nat) (b : Nat) (off : Nat) (n : Nat) (cap : Nat) (l : Int) (f : Nat → Int) (out : List Int) (cc : Int × Int) (ok : Bool) (d : Nat → Bool) (q : List Value) (W : World) : Prop := ∃ v0 v1 v2 v3 v4 v5 v6 v7 v8 v9 v10 v11 v12 v13 av cv, q = [v0, v1, v2, v3, v4, v5, v6, v7, v8, v9, v10, v11, v12, v13] ∧ Rm Wd g b off n cap l f out cc ok d W v0 v1 v2 v3 v4 v5 v6 v7 v8 v9 v10 v11 v12 v13 av cv
theorem Rm.below {Wd : World} {g : Nat} {b : Nat} {off : Nat} {n : Nat} {cap : Nat} {l : Int} {f : Nat → Int} {out : List Int} {cc : Int × Int} {ok : Bool} {d : Nat → Bool} {W W' : World} {v0 v1 v2 v3 v4 v5 v6 v7 v8 v9 v10 v11 v12 v13 : Value} {av : Option Addr} {cv : Nat} (h : Rm Wd g b off n cap l f out cc ok d W v0 v1 v2 v3 v4 v5 v6 v7 v8 v9 v10 v11 v12 v13 av cv) (hb : Below W.heap.size W W') : Rm Wd g b off n cap l f out cc ok d W' v0 v1 v2 v3 v4 v5 v6 v7 v8 v9 v10 v11 v12 v13 av cv :=
  { h with
    bel := belowCall h.bel hb h.bel.size
    o7 := fun e0 => (h.o7 e0).below hb
  }
/-- what the model's Play tells: a store that may be read, in memory of its own -/
def PmR (p : Pl) (st : List Pk) (out : List Int) (ok : Bool) (w : World) (e : Ending) (w' : World) : Prop := ∃ v u, e = .returned (.tuple #[.agg (plA p v), u, .bool ok]) ∧ Rg 18 pkC w' v st ∧ (∀ k, v.ownBlock = some k → w.heap.size ≤ k ∧ k < w'.heap.size) ∧ Ow .i64 3 w.heap.size w' u out ∧ Below w.heap.size w w'
set_option maxHeartbeats 6400000 in
theorem playM_c (p : Pl) (v : Value) (ls : List Pk) (w : World) (h : Rg 18 pkC w v ls) (hn : ls.length ≤ 1048576) (hb : ∀ k ∈ ls, PkBy k) : Calls Tryd.prog 30 #[.agg (plA p v)] w fun e w' => (PyP p ls → PmR (pyF p ls) (ls.drop (pcF ls (p.n + 1))) (lvF ls p.n p.x).1 true w e w') ∧ (¬ PyP p ls → PmR p ls [] false w e w') := by
  have HR : Hid (Rg 18 pkC w v ls) := h
  have HN : Hid (ls.length ≤ 1048576) := hn
  have HPB : Hid (∀ k ∈ ls, PkBy k) := hb
  obtain ⟨a, cap, rfl, h1, h2, -⟩ := h
  obtain ⟨W2, hW2⟩ : ∃ W, (w.alloc (Obj.cells (plA p (.slice a ls.length cap)) 42)).alloc (Obj.cells (plA ⟨0, 0, 0, 0, 0⟩ (.slice none 0 0)) 42) = W := ⟨_, rfl⟩
  obtain ⟨g, hg⟩ : ∃ g, w.heap.size = g := ⟨_, rfl⟩
  have HB2 : Hid (Below w.heap.size w W2) := by rw [← hW2]; exact ((Below.refl _ _).alloc (Nat.le_refl _) _).alloc (by simp) _
  have HP2 : Hid (Blk W2 g (plA p (.slice a ls.length cap)) 42) := by rw [← hW2, ← hg]; exact (Blk.new _ _ _).alloc _
  have HZ2 : Hid (Blk W2 (g + 1) (plA ⟨0, 0, 0, 0, 0⟩ (.slice none 0 0)) 42) := by rw [← hW2, ← hg]; exact Blk.newAt _ _ _ _ (by simp)
  have HGG : Hid (w.heap.size = g) := hg
  have HW2 : Hid ((w.alloc (Obj.cells (plA p (.slice a ls.length cap)) 42)).alloc (Obj.cells (plA ⟨0, 0, 0, 0, 0⟩ (.slice none 0 0)) 42) = W2) := hW2
  clear hn hb hW2 hg
  go_enter Tryd.func30, Tryd.ntmps30
  go_wp2_with (fail)
  rw [HW2.out, HGG.out]
  refine (copyM_c p _ ls W2 (HR.out.below HB2.out) HN.out).mono ?_
  rintro e w3 ⟨v', rfl, o3, b3⟩
  obtain ⟨a', cap', rfl⟩ := o3.form
  have K3 := HP2.out.below b3 HP2.out.lt
  have Z3 := HZ2.out.below b3 HZ2.out.lt
  have B3 : Below w.heap.size w w3 := belowCall HB2.out b3 HB2.out.size
  have hgw := HGG.out
  have hlt := HZ2.out.lt
  obtain ⟨W4, hW4⟩ : ∃ W, w3.setRow g (plA p (.slice a' ls.length cap')) = W := ⟨_, rfl⟩
  have HK3 : Hid (Blk w3 g (plA p (.slice a ls.length cap)) 42) := K3
  have HP4 : Hid (Blk W4 g (plA p (.slice a' ls.length cap')) 42) := by rw [← hW4]; exact K3.row _
  have HZ4 : Hid (Blk W4 (g + 1) (plA ⟨0, 0, 0, 0, 0⟩ (.slice none 0 0)) 42) := by rw [← hW4]; exact Z3.rowOther _ _ (by omega)
  have HB4 : Hid (Below w.heap.size w W4) := by rw [← hW4]; exact belowRow B3 _ (by omega) _
  have HO4 : Hid (Og 18 pkC 40 W2.heap.size W4 (.slice a' ls.length cap') ls) := by rw [← hW4]; exact ogRow o3 (by omega)
  have HS2 : Hid (w.heap.size ≤ W2.heap.size ∧ g + 1 < W2.heap.size) := ⟨HB2.out.size, hlt⟩
  have HW4 : Hid (w3.setRow g (plA p (.slice a' ls.length cap')) = W4) := hW4
  clear K3 Z3 B3 o3 b3 hgw hlt hW4 HP2 HZ2 HW2 HB2
  have x0 := HP4.out.cell 0
  have x1 := HP4.out.cell 1
  have x2 := HP4.out.cell 2
  have x3 := HP4.out.cell 3
  have x4 := HP4.out.cell 4
  have x5 := HP4.out.cell 5
  simp at x0 x1 x2 x3 x4 x5
  go_wp2_with (refine wpList_store_row rfl 42 _ _ rfl g (plA p (.slice a' ls.length cap')) rfl rfl 42 (plA p (.slice a ls.length cap)) HK3.out (by kernel_rfl) rfl (by simp [Value.oneCell']) ?_; rw [HW4.out])
  refine (plM_c p _ ls W4 (HO4.out.rd pkC_len)).mono ?_
  rintro e w5 ⟨r, rfl, hr, b5⟩
  have HP5 : Hid (Blk w5 g (plA p (.slice a' ls.length cap')) 42) := HP4.out.below b5 HP4.out.lt
  have HZ5 : Hid (Blk w5 (g + 1) (plA ⟨0, 0, 0, 0, 0⟩ (.slice none 0 0)) 42) := HZ4.out.below b5 HZ4.out.lt
  have HB5 : Hid (Below w.heap.size w w5) := belowCall HB4.out b5 HB4.out.size
  have HO5 : Hid (Og 18 pkC 40 W2.heap.size w5 (.slice a' ls.length cap') ls) := HO4.out.below b5
  have HRR : Hid (r = true ↔ PlP p ∧ StOk p.n ls) := hr
  clear b5 hr HP4 HZ4 HB4 HO4 HW4 HK3 x0 x1 x2 x3 x4 x5
  have x0 := HP5.out.cell 0
  have x1 := HP5.out.cell 1
  have x2 := HP5.out.cell 2
  have x3 := HP5.out.cell 3
  have x4 := HP5.out.cell 4
  have x5 := HP5.out.cell 5
  simp at x0 x1 x2 x3 x4 x5
  by_cases hP : PyP p ls
  case neg =>
    have HNP : Hid (¬ PyP p ls) := hP
    clear hP
    cases r
    · obtain ⟨WA, hWA⟩ : ∃ W, w5.alloc (Obj.cells #[] 3) = W := ⟨_, rfl⟩
      have al : Below w5.heap.size w5 WA := by rw [← hWA]; exact (Below.refl _ _).alloc (Nat.le_refl _) _
      have HZA : Hid (Blk WA (g + 1) (plA ⟨0, 0, 0, 0, 0⟩ (.slice none 0 0)) 42) := HZ5.out.below al HZ5.out.lt
      have HBA : Hid (Below w.heap.size w WA) := belowCall HB5.out al HB5.out.size
      have HOA : Hid (Og 18 pkC 40 W2.heap.size WA (.slice a' ls.length cap') ls) := HO5.out.below al
      have HUA : Hid (Ow .i64 3 w5.heap.size WA (.slice (some ⟨w5.heap.size, 0, none⟩) 0 0) []) := by rw [← hWA]; exact Ow.empty .i64 3 _ w5 (Nat.le_refl _)
      have HLA : Hid (g + 1 < w5.heap.size) := HZ5.out.lt
      have HWA : Hid (w5.alloc (Obj.cells #[] 3) = WA) := hWA
      clear al hWA
      go_wp2_with (rw [HWA.out]; refine wpList_store_row rfl 42 _ _ rfl (g + 1) (plA p (.slice a' ls.length cap')) rfl rfl 42 (plA ⟨0, 0, 0, 0, 0⟩ (.slice none 0 0)) HZA.out (by kernel_rfl) rfl (by simp [Value.oneCell']) ?_)
      have hs2 := HS2.out
      have hgw := HGG.out
      have hq := ogRow (cs := plA p (.slice a' ls.length cap')) HOA.out hs2.2
      exact bodyPost_ret (results_P3 rfl _ _ (g + 1) p (.slice a' ls.length cap') _ _ rfl rfl rfl (HZA.out.row _)) rfl ⟨fun h => absurd h HNP.out, fun _ => ⟨_, _, rfl, hq.rd pkC_len, fun k hk => by have := hq.lt k hk; omega, Ow.mono (Ow.putRow HUA.out HLA.out) HB5.out.size, belowRow HBA.out _ (by omega) _⟩⟩
    · have hPS := HRR.out.1 rfl
      by_cases hn1 : p.n = 1000000
      · have hnb : (p.n == 1000000) = true := by simp [hn1]
        clear hPS hn1
        obtain ⟨WA, hWA⟩ : ∃ W, w5.alloc (Obj.cells #[] 3) = W := ⟨_, rfl⟩
        have al : Below w5.heap.size w5 WA := by rw [← hWA]; exact (Below.refl _ _).alloc (Nat.le_refl _) _
        have HZA : Hid (Blk WA (g + 1) (plA ⟨0, 0, 0, 0, 0⟩ (.slice none 0 0)) 42) := HZ5.out.below al HZ5.out.lt
        have HBA : Hid (Below w.heap.size w WA) := belowCall HB5.out al HB5.out.size
        have HOA : Hid (Og 18 pkC 40 W2.heap.size WA (.slice a' ls.length cap') ls) := HO5.out.below al
        have HUA : Hid (Ow .i64 3 w5.heap.size WA (.slice (some ⟨w5.heap.size, 0, none⟩) 0 0) []) := by rw [← hWA]; exact Ow.empty .i64 3 _ w5 (Nat.le_refl _)
        have HLA : Hid (g + 1 < w5.heap.size) := HZ5.out.lt
        have HWA : Hid (w5.alloc (Obj.cells #[] 3) = WA) := hWA
        clear al hWA
        go_wp2_with (rw [HWA.out]; refine wpList_store_row rfl 42 _ _ rfl (g + 1) (plA p (.slice a' ls.length cap')) rfl rfl 42 (plA ⟨0, 0, 0, 0, 0⟩ (.slice none 0 0)) HZA.out (by kernel_rfl) rfl (by simp [Value.oneCell']) ?_)
        have hs2 := HS2.out
        have hgw := HGG.out
        have hq := ogRow (cs := plA p (.slice a' ls.length cap')) HOA.out hs2.2
        exact bodyPost_ret (results_P3 rfl _ _ (g + 1) p (.slice a' ls.length cap') _ _ rfl rfl rfl (HZA.out.row _)) rfl ⟨fun h => absurd h HNP.out, fun _ => ⟨_, _, rfl, hq.rd pkC_len, fun k hk => by have := hq.lt k hk; omega, Ow.mono (Ow.putRow HUA.out HLA.out) HB5.out.size, belowRow HBA.out _ (by omega) _⟩⟩
      · have hnb : (p.n == 1000000) = false := by simpa using hn1
        have hgb : (p.g == 1000000000) = true := by
          rw [beq_iff_eq]
          by_cases hg : p.g = 1000000000
          · exact hg
          · exact absurd ⟨hPS, hn1, hg⟩ HNP.out
        clear hPS hn1
        obtain ⟨WA, hWA⟩ : ∃ W, w5.alloc (Obj.cells #[] 3) = W := ⟨_, rfl⟩
        have al : Below w5.heap.size w5 WA := by rw [← hWA]; exact (Below.refl _ _).alloc (Nat.le_refl _) _
        have HZA : Hid (Blk WA (g + 1) (plA ⟨0, 0, 0, 0, 0⟩ (.slice none 0 0)) 42) := HZ5.out.below al HZ5.out.lt
        have HBA : Hid (Below w.heap.size w WA) := belowCall HB5.out al HB5.out.size
        have HOA : Hid (Og 18 pkC 40 W2.heap.size WA (.slice a' ls.length cap') ls) := HO5.out.below al
        have HUA : Hid (Ow .i64 3 w5.heap.size WA (.slice (some ⟨w5.heap.size, 0, none⟩) 0 0) []) := by rw [← hWA]; exact Ow.empty .i64 3 _ w5 (Nat.le_refl _)
        have HLA : Hid (g + 1 < w5.heap.size) := HZ5.out.lt
        have HWA : Hid (w5.alloc (Obj.cells #[] 3) = WA) := hWA
        clear al hWA
        go_wp2_with (rw [HWA.out]; refine wpList_store_row rfl 42 _ _ rfl (g + 1) (plA p (.slice a' ls.length cap')) rfl rfl 42 (plA ⟨0, 0, 0, 0, 0⟩ (.slice none 0 0)) HZA.out (by kernel_rfl) rfl (by simp [Value.oneCell']) ?_)
        have hs2 := HS2.out
        have hgw := HGG.out
        have hq := ogRow (cs := plA p (.slice a' ls.length cap')) HOA.out hs2.2
        exact bodyPost_ret (results_P3 rfl _ _ (g + 1) p (.slice a' ls.length cap') _ _ rfl rfl rfl (HZA.out.row _)) rfl ⟨fun h => absurd h HNP.out, fun _ => ⟨_, _, rfl, hq.rd pkC_len, fun k hk => by have := hq.lt k hk; omega, Ow.mono (Ow.putRow HUA.out HLA.out) HB5.out.size, belowRow HBA.out _ (by omega) _⟩⟩
  case pos =>
    obtain rfl : r = true := HRR.out.2 hP.1
    have HPY : Hid (PyP p ls) := hP
    have hnb : (p.n == 1000000) = false := by simpa using hP.2.1
    have hgb : (p.g == 1000000000) = false := by simpa using hP.2.2
    clear hP
    obtain ⟨WA, hWA⟩ : ∃ W, w5.alloc (Obj.cells #[] 3) = W := ⟨_, rfl⟩
    have al : Below w5.heap.size w5 WA := by rw [← hWA]; exact (Below.refl _ _).alloc (Nat.le_refl _) _
    have HPA : Hid (Blk WA g (plA p (.slice a' ls.length cap')) 42) := HP5.out.below al HP5.out.lt
    have HZA : Hid (Blk WA (g + 1) (plA ⟨0, 0, 0, 0, 0⟩ (.slice none 0 0)) 42) := HZ5.out.below al HZ5.out.lt
    have HBA : Hid (Below w.heap.size w WA) := belowCall HB5.out al HB5.out.size
    have HOA : Hid (Og 18 pkC 40 W2.heap.size WA (.slice a' ls.length cap') ls) := HO5.out.below al
    have HWA : Hid (w5.alloc (Obj.cells #[] 3) = WA) := hWA
    have HPX : Hid (-32767 ≤ p.x ∧ p.x ≤ 32767) := HPY.out.1.1.2.2.2.2
    have HPN : Hid ((0 ≤ p.n ∧ p.n ≤ 1000000) ∧ 0 ≤ p.g ∧ p.g ≤ 1000000000) := ⟨HPY.out.1.1.1, HPY.out.1.1.2.2.2.1⟩
    have HST : Hid (StOk p.n ls) := HPY.out.1.2
    go_wp2_with (fail)
    clear al hWA HP5 HZ5 HO5 x0 x1 x2 x3 x4 x5 HWA
    have x0 := HPA.out.cell 0
    have x3 := HPA.out.cell 3
    have x4 := HPA.out.cell 4
    have x5 := HPA.out.cell 5
    simp at x0 x3 x4 x5
    cases ls with
    | nil =>
      have hz : decide ((0 : Int) < (([] : List Pk).length : Int)) = false := by simp
      have HLV : Hid (lvF [] p.n p.x = (fdL p.x 30, true)) := by
        show _ = _
        unfold lvF; rw [dif_neg (fun h => by have h2 := h.1; simp [thB] at h2)]
      have HDR : Hid (([] : List Pk).drop (pcF [] (p.n + 1)) = []) := by show _ = _; simp
      go_quiet (fail)
      go_wp2
      obtain ⟨WB, hWB⟩ : ∃ W, WA.drewN nq = W := ⟨_, rfl⟩
      have hsz : WA.heap.size = WB.heap.size := by rw [← hWB]; simp
      rw [hWB, hsz]
      clear hsz
      simp only [List.length_nil]
      have FP : Hid (Blk WB g (plA p (.slice a' 0 cap')) 42) := by rw [← hWB]; exact HPA.out.drewN nq
      have FZ : Hid (Blk WB (g + 1) (plA ⟨0, 0, 0, 0, 0⟩ (.slice none 0 0)) 42) := by rw [← hWB]; exact HZA.out.drewN nq
      have FB : Hid (Below w.heap.size w WB) := by rw [← hWB]; exact below_drewN HBA.out _
      have FO : Hid (Og 18 pkC 40 W2.heap.size WB (.slice a' 0 cap') []) := by rw [← hWB]; exact HOA.out.below (below_drewN (Below.refl _ _) _)
      clear hWB HPA HZA HBA HOA x0 x3 x4 x5
      have HFB : Hid (w.heap.size ≤ WB.heap.size ∧ g + 1 < WB.heap.size) := ⟨FB.out.size, FZ.out.lt⟩
      have HO0 : Hid (Ow .i64 3 WB.heap.size (WB.alloc (Obj.cells #[] 3)) (.slice (some ⟨WB.heap.size, 0, none⟩) 0 0) (fdL p.x 0)) := Ow.empty .i64 3 _ WB (Nat.le_refl _)
      have HB0 : Hid (Below WB.heap.size WB (WB.alloc (Obj.cells #[] 3))) := (Below.refl _ _).alloc (Nat.le_refl _) _
      go_loopw [5, 7] (fun o i wr => ∃ (j : Nat) (o' : Value), j ≤ 30 ∧ i = .int .i64 ((j : Int) + 1) ∧ o' = o ∧ Hid (Ow .i64 3 WB.heap.size wr o' (fdL p.x j)) ∧ Hid (Below WB.heap.size WB wr)) (fun _ i _ => 31 - (intOf i).toNat)
      case atStart => exact ⟨0, _, by omega, rfl, rfl, HO0.out, HB0.out⟩
      case round =>
        obtain ⟨j, o', hj, rfl, ho', HO, HB⟩ := hrel
        subst ho'
        clear HO0 HB0
        have KW := FP.out.below HB.out FP.out.lt
        by_cases hlt : j < 30
        case pos =>
          have hbd := fd_bd p.x HPX.out j hlt
          have y4 := KW.cell 4
          simp at y4
          have e29 : (30 : Int) - ((j : Int) + 1) = 29 - (j : Int) := by omega
          have hb1 : -1000000 ≤ p.x * (30 - ((j : Int) + 1)) := by rw [e29]; exact hbd.1
          have hb2 : p.x * (30 - ((j : Int) + 1)) ≤ 1000000 := by rw [e29]; exact hbd.2
          have HFD : Hid (fdL p.x (j + 1) = fdL p.x j ++ [(p.x * (30 - ((j : Int) + 1))).tdiv 30]) := by rw [e29]; rfl
          have HSZ : Hid (WB.heap.size ≤ wr.heap.size) := HB.out.size
          have HLE : Hid ((fdL p.x j).length = j) := fdL_len _ _
          have hlt2 : (j : Int) + 1 ≤ 30 := by omega
          clear hbd e29 KW
          go_wp2_with (at_builtin; refine appI rfl (.tmp 63) (.tmp 70) rfl WB.heap.size _ (fdL p.x j) rfl (HO.out.alloc _) wr.heap.size ((p.x * (30 - ((j : Int) + 1))).tdiv 30) rfl (by simp) (by have := HLE.out; omega) (by have := HSZ.out; simp; omega) ?_)
          intro v6 w6 ho hb
          have HO6 : Hid (Ow .i64 3 WB.heap.size w6 v6 (fdL p.x (j + 1))) := by rw [HFD.out]; exact ho
          have HB6 : Hid (Below WB.heap.size WB w6) := (HB.out.alloc HSZ.out _).trans hb
          clear ho hb HO HB hb1 hb2
          go_wp2
          go_roundw
          case rel => exact ⟨j + 1, _, by omega, by go_num, rfl, HO6.out, HB6.out⟩
          case measure => simp [intOf]; omega
        case neg =>
          obtain rfl : j = 30 := by omega
          obtain ⟨bu, cu, hu, hbu, hcu⟩ : ∃ bu cu, o' = .slice (some ⟨bu, 0, none⟩) 30 cu ∧ WB.heap.size ≤ bu ∧ wr.cell? ⟨bu, 29, none⟩ = some (.int .i64 ((fdL p.x 30).getD 29 0)) := by
            have h0 : wr.ownsRow WB.heap.size 3 1 o' (fdL p.x 30).length ((fdL p.x 30).map (Value.int .i64)) := HO.out
            rcases HO.out.2 with ⟨-, hz⟩ | ⟨k, c, cur, rfl, hb, -⟩
            · rw [fdL_len] at hz; cases hz
            · rw [fdL_len] at h0 ⊢
              refine ⟨k, c, rfl, hb, ?_⟩
              rw [h0.cellAt 29 (by omega)]
              simp [List.getElem?_eq_getElem (show 29 < (fdL p.x 30).length by rw [fdL_len]; omega)]
          subst hu
          obtain ⟨y, hy⟩ : ∃ y, (fdL p.x 30).getD 29 0 = y := ⟨_, rfl⟩
          have HY : Hid ((fdL p.x 30).getD 29 0 = y) := hy
          rw [hy] at hcu
          have hne1 : ¬ bu = g := by have := HFB.out; omega
          have hne2 : ¬ g = bu := fun e => hne1 e.symm
          have Z9 := FZ.out.below HB.out FZ.out.lt
          have B9 : Below w.heap.size w wr := belowCall FB.out HB.out FB.out.size
          have O9 := FO.out.below HB.out
          have hgw := HGG.out
          have hfb := HFB.out
          have x0 := KW.cell 0
          have x3 := KW.cell 3
          have x4 := KW.cell 4
          simp at x0 x3 x4
          have f0 := KW.frozen 0
          have f3 := KW.frozen 3
          have f4 := KW.frozen 4
          have hpn0 := HPN.out.1.1
          have hpn1 := HPN.out.1.2
          have hpg0 := HPN.out.2.1
          have hpg1 := HPN.out.2.2
          have hs2 := HS2.out
          obtain ⟨WT, hWT⟩ : ∃ W, ((wr.setCell ⟨g, 3, none⟩ (.int .i64 (p.g + 1))).setCell ⟨g, 0, none⟩ (.int .i64 (p.n + 1))).setCell ⟨g, 4, none⟩ (.int .i64 y) = W := ⟨_, rfl⟩
          have HPT : Hid (Blk WT g (plA ⟨p.n + 1, p.d, p.l, p.g + 1, y⟩ (.slice a' 0 cap')) 42) := by rw [← hWT]; exact ((KW.set 3 _).set 0 _).set 4 _
          have HZT : Hid (Blk WT (g + 1) (plA ⟨0, 0, 0, 0, 0⟩ (.slice none 0 0)) 42) := by rw [← hWT]; exact ((Z9.other ⟨g, 3, none⟩ _ (by dsimp only; omega)).other ⟨g, 0, none⟩ _ (by dsimp only; omega)).other ⟨g, 4, none⟩ _ (by dsimp only; omega)
          have HBT : Hid (Below w.heap.size w WT) := by rw [← hWT]; exact ((B9.setCell (by dsimp only; omega) _).setCell (by dsimp only; omega) _).setCell (by dsimp only; omega) _
          have HOT : Hid (Ow .i64 3 WB.heap.size WT (.slice (some ⟨bu, 0, none⟩) 30 cu) (fdL p.x 30)) := by rw [← hWT]; exact ownsRow_setCell_below (a := ⟨g, 4, none⟩) (ownsRow_setCell_below (a := ⟨g, 0, none⟩) (ownsRow_setCell_below (a := ⟨g, 3, none⟩) HO.out (by dsimp only; omega) _) (by dsimp only; omega) _) (by dsimp only; omega) _
          have HQT : Hid (Og 18 pkC 40 W2.heap.size WT (.slice a' 0 cap') []) := by rw [← hWT]; exact ownsRow_setCell_below (a := ⟨g, 4, none⟩) (ownsRow_setCell_below (a := ⟨g, 0, none⟩) (ownsRow_setCell_below (a := ⟨g, 3, none⟩) O9 (by dsimp only; omega) _) (by dsimp only; omega) _) (by dsimp only; omega) _
          have HWT : Hid (((wr.setCell ⟨g, 3, none⟩ (.int .i64 (p.g + 1))).setCell ⟨g, 0, none⟩ (.int .i64 (p.n + 1))).setCell ⟨g, 4, none⟩ (.int .i64 y) = WT) := hWT
          clear Z9 B9 O9 hWT KW HO HB
          go_wp2_with (first | (rw [HWT.out]; refine wpList_load_row rfl 42 _ rfl g rfl 42 (plA ⟨p.n + 1, p.d, p.l, p.g + 1, y⟩ (.slice a' 0 cap')) (0, 0) _ HPT.out Tryd.underlying42 rfl (by kernel_rfl) ?_) | refine wpList_store_row rfl 42 _ _ rfl (g + 1) (plA ⟨p.n + 1, p.d, p.l, p.g + 1, y⟩ (.slice a' 0 cap')) rfl rfl 42 (plA ⟨0, 0, 0, 0, 0⟩ (.slice none 0 0)) HZT.out (by kernel_rfl) rfl (by simp [Value.oneCell']) ?_)
          have hpy : pyF p [] = ⟨p.n + 1, p.d, p.l, p.g + 1, y⟩ := by
            unfold pyF; rw [HLV.out]
            show (⟨p.n + 1, p.d, p.l, p.g + 1, (fdL p.x 30).getD 29 0⟩ : Pl) = _
            rw [HY.out]
          have hl : (lvF [] p.n p.x).1 = fdL p.x 30 := by rw [HLV.out]
          have hq := ogRow (cs := plA ⟨p.n + 1, p.d, p.l, p.g + 1, y⟩ (.slice a' 0 cap')) HQT.out hs2.2
          exact bodyPost_ret (results_P3 rfl _ _ (g + 1) ⟨p.n + 1, p.d, p.l, p.g + 1, y⟩ (.slice a' 0 cap') _ _ rfl rfl rfl (HZT.out.row _)) rfl ⟨fun _ => ⟨_, _, by rw [hpy]; rfl, by rw [HDR.out]; exact hq.rd pkC_len, fun k hk => by have := hq.lt k hk; omega, by rw [hl]; exact Ow.mono (Ow.putRow HOT.out (by omega)) (by omega), belowRow HBT.out _ (by omega) _⟩, fun h => absurd HPY.out h⟩
    | cons k0 r0 =>
      have hx5 := HOA.out.rd pkC_len
      obtain ⟨aa, cc, hcc, q1, q2, q3⟩ := hx5
      rcases q3 with q3 | ⟨b, off, hab, h4⟩
      · cases q3
      obtain ⟨rfl, -, rfl⟩ : a' = aa ∧ True ∧ cap' = cc := by cases hcc; exact ⟨rfl, trivial, rfl⟩
      subst hab
      have hk0 := (rg_mid (h4 0 (by simp))).2.1
      have HFR : Hid (WA.rangeAt b (off + 2) (frF k0.f)) := by have h := h4 0 (by simp); simp only [Nat.zero_mul, Nat.add_zero] at h; exact (rg_mid h).2.2
      simp at hk0
      obtain ⟨L, hL⟩ : ∃ L, (k0 :: r0).length = L := ⟨_, rfl⟩
      have HL : Hid ((k0 :: r0).length = L) := hL
      have hL0 : 0 < L := by rw [← hL]; simp
      have hz : decide ((0 : Int) < (L : Int)) = true := by simp; omega
      rw [hL] at HPA HOA x5 ⊢
      clear h4 q1 q2 hcc hL
      by_cases hks : k0.s = p.n
      · have hkb : (k0.s == p.n) = true := by simp [hks]
        go_quiet (fail)
        go_wp2_with (fail)
        obtain ⟨WQ, hWQ⟩ : ∃ W, WA.drewN nq = W := ⟨_, rfl⟩
        rw [hWQ]
        have HPQ : Hid (Blk WQ g (plA p (.slice (some ⟨b, off, none⟩) L cap')) 42) := by rw [← hWQ]; exact HPA.out.drewN nq
        have HZQ : Hid (Blk WQ (g + 1) (plA ⟨0, 0, 0, 0, 0⟩ (.slice none 0 0)) 42) := by rw [← hWQ]; exact HZA.out.drewN nq
        have HBQ : Hid (Below w.heap.size w WQ) := by rw [← hWQ]; exact below_drewN HBA.out _
        have HOQ : Hid (Og 18 pkC 40 W2.heap.size WQ (.slice (some ⟨b, off, none⟩) L cap') (k0 :: r0)) := by rw [← hWQ]; exact HOA.out.below (below_drewN (Below.refl _ _) _)
        have HFQ : Hid (WQ.rangeAt b (off + 2) (frF k0.f)) := by rw [← hWQ]; exact fun t u hu => HFR.out t u hu
        have HFB : Hid (∀ i, i < 16 → 0 ≤ k0.f i ∧ k0.f i ≤ 255) := HPB.out k0 (by simp)
        clear hWQ HPA HZA HBA HOA HFR x0 x3 x4 x5 hk0
        have hbq : b < WQ.heap.size := block_lt_of_cell (HFQ.out 0 _ (frF_at k0.f 0 (by decide)))
        have CE : Hid (∀ W, Below WQ.drew.heap.size WQ.drew W → W.cell? ⟨g, 4, none⟩ = some (.int .i64 p.x) ∧ W.cell? ⟨g, 5, none⟩ = some (.slice (some ⟨b, off, none⟩) L cap') ∧ W.rangeAt b (off + 2) (frF k0.f)) := fun W hW => by
          have k1 := (HPQ.out.drew.below hW HPQ.out.lt).cell 4
          have k2 := (HPQ.out.drew.below hW HPQ.out.lt).cell 5
          refine ⟨by simpa using k1, by simpa using k2, ?_⟩
          exact rangeAt_below (w := WQ.drew) (fun t u hu => HFQ.out t u hu) hW hbq
        have HSC : Hid (1 ≤ L ∧ L ≤ cap') := ⟨by omega, by obtain ⟨_, _, e, h, -⟩ := HOQ.out.rd pkC_len; cases e; rw [HL.out] at h; exact h⟩
        by_cases hCO : COk (p.x, k0.f 0)
        · have HCO : Hid (COk (p.x, k0.f 0)) := hCO
          clear hCO
          refine region_vals [undef, undef, undef, undef, undef, undef, undef, undef, undef, undef, undef, undef, undef, undef] (RmS (WQ.drew) (g) (b) (off) (L) (cap') (p.x) (k0.f) ((exL (p.x, k0.f 0) (frNs k0.f 15))) ((cdE (p.x, k0.f 0) (frNs k0.f 15))) (true)) (by kernel_rfl) (by kernel_rfl) ?_ ⟨?_, ?_, ?_, ?_, ?_, ?_, ?_, ?_, ?_, ?_, ?_, ?_, ?_, ?_, trivial⟩ ?_
          · refine ⟨_, _, _, _, _, _, _, _, _, _, _, _, _, _, none, 0, rfl, ⟨(Below.refl _ _), ?_, ?_, ?_, ?_, ?_, ?_, ?_, ?_, ?_, ?_, ?_, ?_, ?_, ?_, ?_, ?_, ?_, ?_⟩⟩ <;> simp
          · rintro d vs W ⟨v0, v1, v2, v3, v4, v5, v6, v7, v8, v9, v10, v11, v12, v13, av, cv, rfl, H⟩ hn hd
            simp only [putAll, Act.put, List.setIfInBounds_toArray, List.set_cons_succ, List.set_cons_zero]
            have HH1 : Hid (Rm (WQ.drew) (g) (b) (off) (L) (cap') (p.x) (k0.f) ((exL (p.x, k0.f 0) (frNs k0.f 15))) ((cdE (p.x, k0.f 0) (frNs k0.f 15))) (true) d W v0 v1 v2 v3 v4 v5 v6 v7 v8 v9 v10 v11 v12 v13 av cv) := H
            clear H
            have HHN : Hid (d 0 = false) := hn
            clear hd hn
            go_wp2
            have H0 := HH1.out
            have H := HH1.out
            have hn := HHN.out
            refine ⟨rfl, [.pointer (some ⟨g, 4, none⟩), v1, v2, v3, v4, v5, v6, v7, v8, v9, v10, v11, v12, v13], ?_, .pointer (some ⟨g, 4, none⟩), v1, v2, v3, v4, v5, v6, v7, v8, v9, v10, v11, v12, v13, av, cv, rfl, ⟨H.bel, (fun _ => rfl), (by have h := H.f1; simpa [doneSet] using h), (by have h := H.f2; simpa [doneSet] using h), (by have h := H.f3; simpa [doneSet] using h), (by have h := H.f4; simpa [doneSet] using h), (by have h := H.f5; simpa [doneSet] using h), (by have h := H.f6; simpa [doneSet] using h), (by have h := H.f7; simpa [doneSet] using h), (by have h := H.f8; simpa [doneSet] using h), (by have h := H.f9; simpa [doneSet] using h), (by have h := H.f10; simpa [doneSet] using h), (by have h := H.f11; simpa [doneSet] using h), (by have h := H.f12; simpa [doneSet] using h), (by have h := H.f13; simpa [doneSet] using h), (by have h := H.o7; simpa [doneSet] using h), (by have h := H.g8_7; simpa [doneSet] using h), (by have h := H.g9_7; simpa [doneSet] using h), (by have h := H.g12_7; simpa [doneSet] using h)⟩⟩
            simp only [putAll, Act.put, List.setIfInBounds_toArray, List.set_cons_succ, List.set_cons_zero]
            all_goals rfl
          · rintro d vs W ⟨v0, v1, v2, v3, v4, v5, v6, v7, v8, v9, v10, v11, v12, v13, av, cv, rfl, H⟩ hn hd
            simp only [putAll, Act.put, List.setIfInBounds_toArray, List.set_cons_succ, List.set_cons_zero]
            have h0 : d 0 = true := hd { on := 0, ground := .data } (by simp) rfl
            obtain ⟨q0, q1, q2⟩ := CE.out W H.bel
            obtain rfl := H.f0 h0
            have HH1 : Hid (Rm (WQ.drew) (g) (b) (off) (L) (cap') (p.x) (k0.f) ((exL (p.x, k0.f 0) (frNs k0.f 15))) ((cdE (p.x, k0.f 0) (frNs k0.f 15))) (true) d W (.pointer (some ⟨g, 4, none⟩)) v1 v2 v3 v4 v5 v6 v7 v8 v9 v10 v11 v12 v13 av cv) := H
            clear H
            have HHN : Hid (d 1 = false) := hn
            have HHD : Hid (d 0 = true) := h0
            clear hd hn h0 q1 q2
            go_wp2
            have H0 := HH1.out
            have H := HH1.out
            have hn := HHN.out
            have h0 := HHD.out
            refine ⟨rfl, [.pointer (some ⟨g, 4, none⟩), .int .i64 p.x, v2, v3, v4, v5, v6, v7, v8, v9, v10, v11, v12, v13], ?_, .pointer (some ⟨g, 4, none⟩), .int .i64 p.x, v2, v3, v4, v5, v6, v7, v8, v9, v10, v11, v12, v13, av, cv, rfl, ⟨H.bel, (fun _ => rfl), (fun _ => rfl), (by have h := H.f2; simpa [doneSet] using h), (by have h := H.f3; simpa [doneSet] using h), (by have h := H.f4; simpa [doneSet] using h), (by have h := H.f5; simpa [doneSet] using h), (by have h := H.f6; simpa [doneSet] using h), (by have h := H.f7; simpa [doneSet] using h), (by have h := H.f8; simpa [doneSet] using h), (by have h := H.f9; simpa [doneSet] using h), (by have h := H.f10; simpa [doneSet] using h), (by have h := H.f11; simpa [doneSet] using h), (by have h := H.f12; simpa [doneSet] using h), (by have h := H.f13; simpa [doneSet] using h), (by have h := H.o7; simpa [doneSet] using h), (by have h := H.g8_7; simpa [doneSet] using h), (by have h := H.g9_7; simpa [doneSet] using h), (by have h := H.g12_7; simpa [doneSet] using h)⟩⟩
            simp only [putAll, Act.put, List.setIfInBounds_toArray, List.set_cons_succ, List.set_cons_zero]
            all_goals rfl
          · rintro d vs W ⟨v0, v1, v2, v3, v4, v5, v6, v7, v8, v9, v10, v11, v12, v13, av, cv, rfl, H⟩ hn hd
            simp only [putAll, Act.put, List.setIfInBounds_toArray, List.set_cons_succ, List.set_cons_zero]
            have HH1 : Hid (Rm (WQ.drew) (g) (b) (off) (L) (cap') (p.x) (k0.f) ((exL (p.x, k0.f 0) (frNs k0.f 15))) ((cdE (p.x, k0.f 0) (frNs k0.f 15))) (true) d W v0 v1 v2 v3 v4 v5 v6 v7 v8 v9 v10 v11 v12 v13 av cv) := H
            clear H
            have HHN : Hid (d 2 = false) := hn
            clear hd hn
            go_wp2
            have H0 := HH1.out
            have H := HH1.out
            have hn := HHN.out
            refine ⟨rfl, [v0, v1, .pointer (some ⟨g, 5, none⟩), v3, v4, v5, v6, v7, v8, v9, v10, v11, v12, v13], ?_, v0, v1, .pointer (some ⟨g, 5, none⟩), v3, v4, v5, v6, v7, v8, v9, v10, v11, v12, v13, av, cv, rfl, ⟨H.bel, (by have h := H.f0; simpa [doneSet] using h), (by have h := H.f1; simpa [doneSet] using h), (fun _ => rfl), (by have h := H.f3; simpa [doneSet] using h), (by have h := H.f4; simpa [doneSet] using h), (by have h := H.f5; simpa [doneSet] using h), (by have h := H.f6; simpa [doneSet] using h), (by have h := H.f7; simpa [doneSet] using h), (by have h := H.f8; simpa [doneSet] using h), (by have h := H.f9; simpa [doneSet] using h), (by have h := H.f10; simpa [doneSet] using h), (by have h := H.f11; simpa [doneSet] using h), (by have h := H.f12; simpa [doneSet] using h), (by have h := H.f13; simpa [doneSet] using h), (by have h := H.o7; simpa [doneSet] using h), (by have h := H.g8_7; simpa [doneSet] using h), (by have h := H.g9_7; simpa [doneSet] using h), (by have h := H.g12_7; simpa [doneSet] using h)⟩⟩
            simp only [putAll, Act.put, List.setIfInBounds_toArray, List.set_cons_succ, List.set_cons_zero]
            all_goals rfl
          · rintro d vs W ⟨v0, v1, v2, v3, v4, v5, v6, v7, v8, v9, v10, v11, v12, v13, av, cv, rfl, H⟩ hn hd
            simp only [putAll, Act.put, List.setIfInBounds_toArray, List.set_cons_succ, List.set_cons_zero]
            have h2 : d 2 = true := hd { on := 2, ground := .data } (by simp) rfl
            obtain ⟨q0, q1, q2⟩ := CE.out W H.bel
            obtain rfl := H.f2 h2
            have HH1 : Hid (Rm (WQ.drew) (g) (b) (off) (L) (cap') (p.x) (k0.f) ((exL (p.x, k0.f 0) (frNs k0.f 15))) ((cdE (p.x, k0.f 0) (frNs k0.f 15))) (true) d W v0 v1 (.pointer (some ⟨g, 5, none⟩)) v3 v4 v5 v6 v7 v8 v9 v10 v11 v12 v13 av cv) := H
            clear H
            have HHN : Hid (d 3 = false) := hn
            have HHD : Hid (d 2 = true) := h2
            clear hd hn h2 q0 q2
            go_wp2
            have H0 := HH1.out
            have H := HH1.out
            have hn := HHN.out
            have h2 := HHD.out
            refine ⟨rfl, [v0, v1, .pointer (some ⟨g, 5, none⟩), .slice (some ⟨b, off, none⟩) L cap', v4, v5, v6, v7, v8, v9, v10, v11, v12, v13], ?_, v0, v1, .pointer (some ⟨g, 5, none⟩), .slice (some ⟨b, off, none⟩) L cap', v4, v5, v6, v7, v8, v9, v10, v11, v12, v13, av, cv, rfl, ⟨H.bel, (by have h := H.f0; simpa [doneSet] using h), (by have h := H.f1; simpa [doneSet] using h), (fun _ => rfl), (fun _ => rfl), (by have h := H.f4; simpa [doneSet] using h), (by have h := H.f5; simpa [doneSet] using h), (by have h := H.f6; simpa [doneSet] using h), (by have h := H.f7; simpa [doneSet] using h), (by have h := H.f8; simpa [doneSet] using h), (by have h := H.f9; simpa [doneSet] using h), (by have h := H.f10; simpa [doneSet] using h), (by have h := H.f11; simpa [doneSet] using h), (by have h := H.f12; simpa [doneSet] using h), (by have h := H.f13; simpa [doneSet] using h), (by have h := H.o7; simpa [doneSet] using h), (by have h := H.g8_7; simpa [doneSet] using h), (by have h := H.g9_7; simpa [doneSet] using h), (by have h := H.g12_7; simpa [doneSet] using h)⟩⟩
            simp only [putAll, Act.put, List.setIfInBounds_toArray, List.set_cons_succ, List.set_cons_zero]
            all_goals rfl
          · rintro d vs W ⟨v0, v1, v2, v3, v4, v5, v6, v7, v8, v9, v10, v11, v12, v13, av, cv, rfl, H⟩ hn hd
            simp only [putAll, Act.put, List.setIfInBounds_toArray, List.set_cons_succ, List.set_cons_zero]
            have h3 : d 3 = true := hd { on := 3, ground := .data } (by simp) rfl
            obtain rfl := H.f3 h3
            have HH1 : Hid (Rm (WQ.drew) (g) (b) (off) (L) (cap') (p.x) (k0.f) ((exL (p.x, k0.f 0) (frNs k0.f 15))) ((cdE (p.x, k0.f 0) (frNs k0.f 15))) (true) d W v0 v1 v2 (.slice (some ⟨b, off, none⟩) L cap') v4 v5 v6 v7 v8 v9 v10 v11 v12 v13 av cv) := H
            clear H
            have HHN : Hid (d 4 = false) := hn
            have HHD : Hid (d 3 = true) := h3
            clear hd hn h3
            go_wp2
            have H0 := HH1.out
            have H := HH1.out
            have hn := HHN.out
            have h3 := HHD.out
            refine ⟨rfl, [v0, v1, v2, .slice (some ⟨b, off, none⟩) L cap', .pointer (some ⟨b, off, none⟩), v5, v6, v7, v8, v9, v10, v11, v12, v13], ?_, v0, v1, v2, .slice (some ⟨b, off, none⟩) L cap', .pointer (some ⟨b, off, none⟩), v5, v6, v7, v8, v9, v10, v11, v12, v13, av, cv, rfl, ⟨H.bel, (by have h := H.f0; simpa [doneSet] using h), (by have h := H.f1; simpa [doneSet] using h), (by have h := H.f2; simpa [doneSet] using h), (fun _ => rfl), (fun _ => rfl), (by have h := H.f5; simpa [doneSet] using h), (by have h := H.f6; simpa [doneSet] using h), (by have h := H.f7; simpa [doneSet] using h), (by have h := H.f8; simpa [doneSet] using h), (by have h := H.f9; simpa [doneSet] using h), (by have h := H.f10; simpa [doneSet] using h), (by have h := H.f11; simpa [doneSet] using h), (by have h := H.f12; simpa [doneSet] using h), (by have h := H.f13; simpa [doneSet] using h), (by have h := H.o7; simpa [doneSet] using h), (by have h := H.g8_7; simpa [doneSet] using h), (by have h := H.g9_7; simpa [doneSet] using h), (by have h := H.g12_7; simpa [doneSet] using h)⟩⟩
            simp only [putAll, Act.put, List.setIfInBounds_toArray, List.set_cons_succ, List.set_cons_zero]
            all_goals rfl
          · rintro d vs W ⟨v0, v1, v2, v3, v4, v5, v6, v7, v8, v9, v10, v11, v12, v13, av, cv, rfl, H⟩ hn hd
            simp only [putAll, Act.put, List.setIfInBounds_toArray, List.set_cons_succ, List.set_cons_zero]
            have h4 : d 4 = true := hd { on := 4, ground := .data } (by simp) rfl
            obtain rfl := H.f4 h4
            have HH1 : Hid (Rm (WQ.drew) (g) (b) (off) (L) (cap') (p.x) (k0.f) ((exL (p.x, k0.f 0) (frNs k0.f 15))) ((cdE (p.x, k0.f 0) (frNs k0.f 15))) (true) d W v0 v1 v2 v3 (.pointer (some ⟨b, off, none⟩)) v5 v6 v7 v8 v9 v10 v11 v12 v13 av cv) := H
            clear H
            have HHN : Hid (d 5 = false) := hn
            have HHD : Hid (d 4 = true) := h4
            clear hd hn h4
            go_wp2
            have H0 := HH1.out
            have H := HH1.out
            have hn := HHN.out
            have h4 := HHD.out
            refine ⟨rfl, [v0, v1, v2, v3, .pointer (some ⟨b, off, none⟩), .pointer (some ⟨b, off + 2, none⟩), v6, v7, v8, v9, v10, v11, v12, v13], ?_, v0, v1, v2, v3, .pointer (some ⟨b, off, none⟩), .pointer (some ⟨b, off + 2, none⟩), v6, v7, v8, v9, v10, v11, v12, v13, av, cv, rfl, ⟨H.bel, (by have h := H.f0; simpa [doneSet] using h), (by have h := H.f1; simpa [doneSet] using h), (by have h := H.f2; simpa [doneSet] using h), (by have h := H.f3; simpa [doneSet] using h), (fun _ => rfl), (fun _ => rfl), (by have h := H.f6; simpa [doneSet] using h), (by have h := H.f7; simpa [doneSet] using h), (by have h := H.f8; simpa [doneSet] using h), (by have h := H.f9; simpa [doneSet] using h), (by have h := H.f10; simpa [doneSet] using h), (by have h := H.f11; simpa [doneSet] using h), (by have h := H.f12; simpa [doneSet] using h), (by have h := H.f13; simpa [doneSet] using h), (by have h := H.o7; simpa [doneSet] using h), (by have h := H.g8_7; simpa [doneSet] using h), (by have h := H.g9_7; simpa [doneSet] using h), (by have h := H.g12_7; simpa [doneSet] using h)⟩⟩
            simp only [putAll, Act.put, List.setIfInBounds_toArray, List.set_cons_succ, List.set_cons_zero]
            all_goals rfl
          · rintro d vs W ⟨v0, v1, v2, v3, v4, v5, v6, v7, v8, v9, v10, v11, v12, v13, av, cv, rfl, H⟩ hn hd
            simp only [putAll, Act.put, List.setIfInBounds_toArray, List.set_cons_succ, List.set_cons_zero]
            have h5 : d 5 = true := hd { on := 5, ground := .data } (by simp) rfl
            obtain ⟨q0, q1, q2⟩ := CE.out W H.bel
            have z0 : W.cell? ⟨b, off + 2 + 0, none⟩ = some (.int .u8 (k0.f 0)) := q2 0 _ (frF_at k0.f 0 (by decide))
            have z1 : W.cell? ⟨b, off + 2 + 1, none⟩ = some (.int .u8 (k0.f 1)) := q2 1 _ (frF_at k0.f 1 (by decide))
            have z2 : W.cell? ⟨b, off + 2 + 2, none⟩ = some (.int .u8 (k0.f 2)) := q2 2 _ (frF_at k0.f 2 (by decide))
            have z3 : W.cell? ⟨b, off + 2 + 3, none⟩ = some (.int .u8 (k0.f 3)) := q2 3 _ (frF_at k0.f 3 (by decide))
            have z4 : W.cell? ⟨b, off + 2 + 4, none⟩ = some (.int .u8 (k0.f 4)) := q2 4 _ (frF_at k0.f 4 (by decide))
            have z5 : W.cell? ⟨b, off + 2 + 5, none⟩ = some (.int .u8 (k0.f 5)) := q2 5 _ (frF_at k0.f 5 (by decide))
            have z6 : W.cell? ⟨b, off + 2 + 6, none⟩ = some (.int .u8 (k0.f 6)) := q2 6 _ (frF_at k0.f 6 (by decide))
            have z7 : W.cell? ⟨b, off + 2 + 7, none⟩ = some (.int .u8 (k0.f 7)) := q2 7 _ (frF_at k0.f 7 (by decide))
            have z8 : W.cell? ⟨b, off + 2 + 8, none⟩ = some (.int .u8 (k0.f 8)) := q2 8 _ (frF_at k0.f 8 (by decide))
            have z9 : W.cell? ⟨b, off + 2 + 9, none⟩ = some (.int .u8 (k0.f 9)) := q2 9 _ (frF_at k0.f 9 (by decide))
            have z10 : W.cell? ⟨b, off + 2 + 10, none⟩ = some (.int .u8 (k0.f 10)) := q2 10 _ (frF_at k0.f 10 (by decide))
            have z11 : W.cell? ⟨b, off + 2 + 11, none⟩ = some (.int .u8 (k0.f 11)) := q2 11 _ (frF_at k0.f 11 (by decide))
            have z12 : W.cell? ⟨b, off + 2 + 12, none⟩ = some (.int .u8 (k0.f 12)) := q2 12 _ (frF_at k0.f 12 (by decide))
            have z13 : W.cell? ⟨b, off + 2 + 13, none⟩ = some (.int .u8 (k0.f 13)) := q2 13 _ (frF_at k0.f 13 (by decide))
            have z14 : W.cell? ⟨b, off + 2 + 14, none⟩ = some (.int .u8 (k0.f 14)) := q2 14 _ (frF_at k0.f 14 (by decide))
            have z15 : W.cell? ⟨b, off + 2 + 15, none⟩ = some (.int .u8 (k0.f 15)) := q2 15 _ (frF_at k0.f 15 (by decide))
            obtain rfl := H.f5 h5
            have HH1 : Hid (Rm (WQ.drew) (g) (b) (off) (L) (cap') (p.x) (k0.f) ((exL (p.x, k0.f 0) (frNs k0.f 15))) ((cdE (p.x, k0.f 0) (frNs k0.f 15))) (true) d W v0 v1 v2 v3 v4 (.pointer (some ⟨b, off + 2, none⟩)) v6 v7 v8 v9 v10 v11 v12 v13 av cv) := H
            clear H
            have HHN : Hid (d 6 = false) := hn
            have HHD : Hid (d 5 = true) := h5
            clear hd hn h5 q0 q1 q2
            go_wp2
            have H0 := HH1.out
            have H := HH1.out
            have hn := HHN.out
            have h5 := HHD.out
            refine ⟨rfl, [v0, v1, v2, v3, v4, .pointer (some ⟨b, off + 2, none⟩), .agg (A16 k0.f), v7, v8, v9, v10, v11, v12, v13], ?_, v0, v1, v2, v3, v4, .pointer (some ⟨b, off + 2, none⟩), .agg (A16 k0.f), v7, v8, v9, v10, v11, v12, v13, av, cv, rfl, ⟨H.bel, (by have h := H.f0; simpa [doneSet] using h), (by have h := H.f1; simpa [doneSet] using h), (by have h := H.f2; simpa [doneSet] using h), (by have h := H.f3; simpa [doneSet] using h), (by have h := H.f4; simpa [doneSet] using h), (fun _ => rfl), (fun _ => rfl), (by have h := H.f7; simpa [doneSet] using h), (by have h := H.f8; simpa [doneSet] using h), (by have h := H.f9; simpa [doneSet] using h), (by have h := H.f10; simpa [doneSet] using h), (by have h := H.f11; simpa [doneSet] using h), (by have h := H.f12; simpa [doneSet] using h), (by have h := H.f13; simpa [doneSet] using h), (by have h := H.o7; simpa [doneSet] using h), (by have h := H.g8_7; simpa [doneSet] using h), (by have h := H.g9_7; simpa [doneSet] using h), (by have h := H.g12_7; simpa [doneSet] using h)⟩⟩
            simp only [putAll, Act.put, List.setIfInBounds_toArray, List.set_cons_succ, List.set_cons_zero]
            all_goals rfl
          · rintro d vs W ⟨v0, v1, v2, v3, v4, v5, v6, v7, v8, v9, v10, v11, v12, v13, av, cv, rfl, H⟩ hn hd
            simp only [putAll, Act.put, List.setIfInBounds_toArray, List.set_cons_succ, List.set_cons_zero]
            have h1 : d 1 = true := hd { on := 1, ground := .data } (by simp) rfl
            have h6 : d 6 = true := hd { on := 6, ground := .data } (by simp) rfl
            obtain rfl := H.f1 h1
            obtain rfl := H.f6 h6
            have HH1 : Hid (Rm (WQ.drew) (g) (b) (off) (L) (cap') (p.x) (k0.f) ((exL (p.x, k0.f 0) (frNs k0.f 15))) ((cdE (p.x, k0.f 0) (frNs k0.f 15))) (true) d W v0 (.int .i64 p.x) v2 v3 v4 v5 (.agg (A16 k0.f)) v7 v8 v9 v10 v11 v12 v13 av cv) := H
            clear H
            have HHN : Hid (d 7 = false) := hn
            have HHD : Hid (d 1 = true ∧ d 6 = true) := ⟨h1, h6⟩
            clear hd hn h1 h6
            go_wp2_with (fail)
            refine ((ofM_c p.x k0.f HFB.out W).mono fun e w' hh => (hh.1 HCO.out : CdR (exL (p.x, k0.f 0) (frNs k0.f 15)) (cdE (p.x, k0.f 0) (frNs k0.f 15)) true W e w')).mono ?_
            rintro e W3 ⟨v7, rfl, o7, b7⟩
            have HB7 : Hid (Below W.heap.size W W3) := b7
            obtain ⟨a7, c7, rfl, -⟩ := o7.rd
            have HO7 : Hid (Ow .i64 3 W.heap.size W3 (.slice a7 (exL (p.x, k0.f 0) (frNs k0.f 15)).length c7) (exL (p.x, k0.f 0) (frNs k0.f 15))) := o7
            clear b7 o7
            go_wp2
            have H0 := HH1.out
            have H := HH1.out.below HB7.out
            have hn := HHN.out
            have h1 := HHD.out.1
            have h6 := HHD.out.2
            refine ⟨rfl, [v0, .int .i64 p.x, v2, v3, v4, v5, .agg (A16 k0.f), .tuple #[.slice a7 (exL (p.x, k0.f 0) (frNs k0.f 15)).length c7, .agg (cdA (cdE (p.x, k0.f 0) (frNs k0.f 15))), .bool true], v8, v9, v10, v11, v12, v13], ?_, v0, .int .i64 p.x, v2, v3, v4, v5, .agg (A16 k0.f), .tuple #[.slice a7 (exL (p.x, k0.f 0) (frNs k0.f 15)).length c7, .agg (cdA (cdE (p.x, k0.f 0) (frNs k0.f 15))), .bool true], v8, v9, v10, v11, v12, v13, a7, c7, rfl, ⟨H.bel, (by have h := H.f0; simpa [doneSet] using h), (fun _ => rfl), (by have h := H.f2; simpa [doneSet] using h), (by have h := H.f3; simpa [doneSet] using h), (by have h := H.f4; simpa [doneSet] using h), (by have h := H.f5; simpa [doneSet] using h), (fun _ => rfl), (fun _ => rfl), (fun e => absurd (H0.g8_7 (by simpa [doneSet] using e)) (by rw [hn]; simp)), (fun e => absurd (H0.g9_7 (by simpa [doneSet] using e)) (by rw [hn]; simp)), (by have h := H.f10; simpa [doneSet] using h), (by have h := H.f11; simpa [doneSet] using h), (fun e => absurd (H0.g12_7 (by simpa [doneSet] using e)) (by rw [hn]; simp)), (by have h := H.f13; simpa [doneSet] using h), (fun _ => HO7.out.mono H0.bel.size), (fun _ => by simp [doneSet]), (fun _ => by simp [doneSet]), (fun _ => by simp [doneSet])⟩⟩
            simp only [putAll, Act.put, List.setIfInBounds_toArray, List.set_cons_succ, List.set_cons_zero]
            all_goals rfl
          · rintro d vs W ⟨v0, v1, v2, v3, v4, v5, v6, v7, v8, v9, v10, v11, v12, v13, av, cv, rfl, H⟩ hn hd
            simp only [putAll, Act.put, List.setIfInBounds_toArray, List.set_cons_succ, List.set_cons_zero]
            have h7 : d 7 = true := hd { on := 7, ground := .data } (by simp) rfl
            obtain rfl := H.f7 h7
            have HH1 : Hid (Rm (WQ.drew) (g) (b) (off) (L) (cap') (p.x) (k0.f) ((exL (p.x, k0.f 0) (frNs k0.f 15))) ((cdE (p.x, k0.f 0) (frNs k0.f 15))) (true) d W v0 v1 v2 v3 v4 v5 v6 (.tuple #[.slice av ((exL (p.x, k0.f 0) (frNs k0.f 15))).length cv, .agg (cdA ((cdE (p.x, k0.f 0) (frNs k0.f 15)))), .bool true]) v8 v9 v10 v11 v12 v13 av cv) := H
            clear H
            have HHN : Hid (d 8 = false) := hn
            have HHD : Hid (d 7 = true) := h7
            clear hd hn h7
            go_wp2
            have H0 := HH1.out
            have H := HH1.out
            have hn := HHN.out
            have h7 := HHD.out
            refine ⟨rfl, [v0, v1, v2, v3, v4, v5, v6, .tuple #[.slice av ((exL (p.x, k0.f 0) (frNs k0.f 15))).length cv, .agg (cdA ((cdE (p.x, k0.f 0) (frNs k0.f 15)))), .bool true], .tuple #[.slice av ((exL (p.x, k0.f 0) (frNs k0.f 15))).length cv, .agg (cdA ((cdE (p.x, k0.f 0) (frNs k0.f 15)))), .bool true], v9, v10, v11, v12, v13], ?_, v0, v1, v2, v3, v4, v5, v6, .tuple #[.slice av ((exL (p.x, k0.f 0) (frNs k0.f 15))).length cv, .agg (cdA ((cdE (p.x, k0.f 0) (frNs k0.f 15)))), .bool true], .tuple #[.slice av ((exL (p.x, k0.f 0) (frNs k0.f 15))).length cv, .agg (cdA ((cdE (p.x, k0.f 0) (frNs k0.f 15)))), .bool true], v9, v10, v11, v12, v13, av, cv, rfl, ⟨H.bel, (by have h := H.f0; simpa [doneSet] using h), (by have h := H.f1; simpa [doneSet] using h), (by have h := H.f2; simpa [doneSet] using h), (by have h := H.f3; simpa [doneSet] using h), (by have h := H.f4; simpa [doneSet] using h), (by have h := H.f5; simpa [doneSet] using h), (by have h := H.f6; simpa [doneSet] using h), (fun _ => rfl), (fun _ => rfl), (by have h := H.f9; simpa [doneSet] using h), (by have h := H.f10; simpa [doneSet] using h), (by have h := H.f11; simpa [doneSet] using h), (by have h := H.f12; simpa [doneSet] using h), (by have h := H.f13; simpa [doneSet] using h), (by have h := H.o7; simpa [doneSet] using h), (fun _ => by simpa [doneSet] using h7), (by have h := H.g9_7; simpa [doneSet] using h), (by have h := H.g12_7; simpa [doneSet] using h)⟩⟩
            simp only [putAll, Act.put, List.setIfInBounds_toArray, List.set_cons_succ, List.set_cons_zero]
            all_goals rfl
          · rintro d vs W ⟨v0, v1, v2, v3, v4, v5, v6, v7, v8, v9, v10, v11, v12, v13, av, cv, rfl, H⟩ hn hd
            simp only [putAll, Act.put, List.setIfInBounds_toArray, List.set_cons_succ, List.set_cons_zero]
            have h8 : d 8 = true := hd { on := 8, ground := .data } (by simp) rfl
            have h7 := H.g8_7 h8
            obtain rfl := H.f8 h8
            have HH1 : Hid (Rm (WQ.drew) (g) (b) (off) (L) (cap') (p.x) (k0.f) ((exL (p.x, k0.f 0) (frNs k0.f 15))) ((cdE (p.x, k0.f 0) (frNs k0.f 15))) (true) d W v0 v1 v2 v3 v4 v5 v6 v7 (.tuple #[.slice av ((exL (p.x, k0.f 0) (frNs k0.f 15))).length cv, .agg (cdA ((cdE (p.x, k0.f 0) (frNs k0.f 15)))), .bool true]) v9 v10 v11 v12 v13 av cv) := H
            clear H
            have HHN : Hid (d 9 = false) := hn
            have HHD : Hid (d 8 = true) := h8
            clear hd hn h8
            go_wp2
            have H0 := HH1.out
            have H := HH1.out
            have hn := HHN.out
            have h8 := HHD.out
            refine ⟨rfl, [v0, v1, v2, v3, v4, v5, v6, v7, .tuple #[.slice av ((exL (p.x, k0.f 0) (frNs k0.f 15))).length cv, .agg (cdA ((cdE (p.x, k0.f 0) (frNs k0.f 15)))), .bool true], .slice av ((exL (p.x, k0.f 0) (frNs k0.f 15))).length cv, v10, v11, v12, v13], ?_, v0, v1, v2, v3, v4, v5, v6, v7, .tuple #[.slice av ((exL (p.x, k0.f 0) (frNs k0.f 15))).length cv, .agg (cdA ((cdE (p.x, k0.f 0) (frNs k0.f 15)))), .bool true], .slice av ((exL (p.x, k0.f 0) (frNs k0.f 15))).length cv, v10, v11, v12, v13, av, cv, rfl, ⟨H.bel, (by have h := H.f0; simpa [doneSet] using h), (by have h := H.f1; simpa [doneSet] using h), (by have h := H.f2; simpa [doneSet] using h), (by have h := H.f3; simpa [doneSet] using h), (by have h := H.f4; simpa [doneSet] using h), (by have h := H.f5; simpa [doneSet] using h), (by have h := H.f6; simpa [doneSet] using h), (by have h := H.f7; simpa [doneSet] using h), (fun _ => rfl), (fun _ => rfl), (by have h := H.f10; simpa [doneSet] using h), (by have h := H.f11; simpa [doneSet] using h), (by have h := H.f12; simpa [doneSet] using h), (by have h := H.f13; simpa [doneSet] using h), (by have h := H.o7; simpa [doneSet] using h), (by have h := H.g8_7; simpa [doneSet] using h), (fun _ => by simpa [doneSet] using h7), (by have h := H.g12_7; simpa [doneSet] using h)⟩⟩
            simp only [putAll, Act.put, List.setIfInBounds_toArray, List.set_cons_succ, List.set_cons_zero]
            all_goals rfl
          · rintro d vs W ⟨v0, v1, v2, v3, v4, v5, v6, v7, v8, v9, v10, v11, v12, v13, av, cv, rfl, H⟩ hn hd
            simp only [putAll, Act.put, List.setIfInBounds_toArray, List.set_cons_succ, List.set_cons_zero]
            have h8 : d 8 = true := hd { on := 8, ground := .data } (by simp) rfl
            obtain rfl := H.f8 h8
            have HH1 : Hid (Rm (WQ.drew) (g) (b) (off) (L) (cap') (p.x) (k0.f) ((exL (p.x, k0.f 0) (frNs k0.f 15))) ((cdE (p.x, k0.f 0) (frNs k0.f 15))) (true) d W v0 v1 v2 v3 v4 v5 v6 v7 (.tuple #[.slice av ((exL (p.x, k0.f 0) (frNs k0.f 15))).length cv, .agg (cdA ((cdE (p.x, k0.f 0) (frNs k0.f 15)))), .bool true]) v9 v10 v11 v12 v13 av cv) := H
            clear H
            have HHN : Hid (d 10 = false) := hn
            have HHD : Hid (d 8 = true) := h8
            clear hd hn h8
            go_wp2
            have H0 := HH1.out
            have H := HH1.out
            have hn := HHN.out
            have h8 := HHD.out
            refine ⟨rfl, [v0, v1, v2, v3, v4, v5, v6, v7, .tuple #[.slice av ((exL (p.x, k0.f 0) (frNs k0.f 15))).length cv, .agg (cdA ((cdE (p.x, k0.f 0) (frNs k0.f 15)))), .bool true], v9, .agg (cdA ((cdE (p.x, k0.f 0) (frNs k0.f 15)))), v11, v12, v13], ?_, v0, v1, v2, v3, v4, v5, v6, v7, .tuple #[.slice av ((exL (p.x, k0.f 0) (frNs k0.f 15))).length cv, .agg (cdA ((cdE (p.x, k0.f 0) (frNs k0.f 15)))), .bool true], v9, .agg (cdA ((cdE (p.x, k0.f 0) (frNs k0.f 15)))), v11, v12, v13, av, cv, rfl, ⟨H.bel, (by have h := H.f0; simpa [doneSet] using h), (by have h := H.f1; simpa [doneSet] using h), (by have h := H.f2; simpa [doneSet] using h), (by have h := H.f3; simpa [doneSet] using h), (by have h := H.f4; simpa [doneSet] using h), (by have h := H.f5; simpa [doneSet] using h), (by have h := H.f6; simpa [doneSet] using h), (by have h := H.f7; simpa [doneSet] using h), (fun _ => rfl), (by have h := H.f9; simpa [doneSet] using h), (fun _ => rfl), (by have h := H.f11; simpa [doneSet] using h), (by have h := H.f12; simpa [doneSet] using h), (by have h := H.f13; simpa [doneSet] using h), (by have h := H.o7; simpa [doneSet] using h), (by have h := H.g8_7; simpa [doneSet] using h), (by have h := H.g9_7; simpa [doneSet] using h), (by have h := H.g12_7; simpa [doneSet] using h)⟩⟩
            simp only [putAll, Act.put, List.setIfInBounds_toArray, List.set_cons_succ, List.set_cons_zero]
            all_goals rfl
          · rintro d vs W ⟨v0, v1, v2, v3, v4, v5, v6, v7, v8, v9, v10, v11, v12, v13, av, cv, rfl, H⟩ hn hd
            simp only [putAll, Act.put, List.setIfInBounds_toArray, List.set_cons_succ, List.set_cons_zero]
            have h8 : d 8 = true := hd { on := 8, ground := .data } (by simp) rfl
            obtain rfl := H.f8 h8
            have HH1 : Hid (Rm (WQ.drew) (g) (b) (off) (L) (cap') (p.x) (k0.f) ((exL (p.x, k0.f 0) (frNs k0.f 15))) ((cdE (p.x, k0.f 0) (frNs k0.f 15))) (true) d W v0 v1 v2 v3 v4 v5 v6 v7 (.tuple #[.slice av ((exL (p.x, k0.f 0) (frNs k0.f 15))).length cv, .agg (cdA ((cdE (p.x, k0.f 0) (frNs k0.f 15)))), .bool true]) v9 v10 v11 v12 v13 av cv) := H
            clear H
            have HHN : Hid (d 11 = false) := hn
            have HHD : Hid (d 8 = true) := h8
            clear hd hn h8
            go_wp2
            have H0 := HH1.out
            have H := HH1.out
            have hn := HHN.out
            have h8 := HHD.out
            refine ⟨rfl, [v0, v1, v2, v3, v4, v5, v6, v7, .tuple #[.slice av ((exL (p.x, k0.f 0) (frNs k0.f 15))).length cv, .agg (cdA ((cdE (p.x, k0.f 0) (frNs k0.f 15)))), .bool true], v9, v10, .bool true, v12, v13], ?_, v0, v1, v2, v3, v4, v5, v6, v7, .tuple #[.slice av ((exL (p.x, k0.f 0) (frNs k0.f 15))).length cv, .agg (cdA ((cdE (p.x, k0.f 0) (frNs k0.f 15)))), .bool true], v9, v10, .bool true, v12, v13, av, cv, rfl, ⟨H.bel, (by have h := H.f0; simpa [doneSet] using h), (by have h := H.f1; simpa [doneSet] using h), (by have h := H.f2; simpa [doneSet] using h), (by have h := H.f3; simpa [doneSet] using h), (by have h := H.f4; simpa [doneSet] using h), (by have h := H.f5; simpa [doneSet] using h), (by have h := H.f6; simpa [doneSet] using h), (by have h := H.f7; simpa [doneSet] using h), (fun _ => rfl), (by have h := H.f9; simpa [doneSet] using h), (by have h := H.f10; simpa [doneSet] using h), (fun _ => rfl), (by have h := H.f12; simpa [doneSet] using h), (by have h := H.f13; simpa [doneSet] using h), (by have h := H.o7; simpa [doneSet] using h), (by have h := H.g8_7; simpa [doneSet] using h), (by have h := H.g9_7; simpa [doneSet] using h), (by have h := H.g12_7; simpa [doneSet] using h)⟩⟩
            simp only [putAll, Act.put, List.setIfInBounds_toArray, List.set_cons_succ, List.set_cons_zero]
            all_goals rfl
          · rintro d vs W ⟨v0, v1, v2, v3, v4, v5, v6, v7, v8, v9, v10, v11, v12, v13, av, cv, rfl, H⟩ hn hd
            simp only [putAll, Act.put, List.setIfInBounds_toArray, List.set_cons_succ, List.set_cons_zero]
            have h9 : d 9 = true := hd { on := 9, ground := .data } (by simp) rfl
            have h7 := H.g9_7 h9
            obtain rfl := H.f9 h9
            have HH1 : Hid (Rm (WQ.drew) (g) (b) (off) (L) (cap') (p.x) (k0.f) ((exL (p.x, k0.f 0) (frNs k0.f 15))) ((cdE (p.x, k0.f 0) (frNs k0.f 15))) (true) d W v0 v1 v2 v3 v4 v5 v6 v7 v8 (.slice av ((exL (p.x, k0.f 0) (frNs k0.f 15))).length cv) v10 v11 v12 v13 av cv) := H
            clear H
            have HHN : Hid (d 12 = false) := hn
            have HHD : Hid (d 9 = true) := h9
            clear hd hn h9
            go_wp2
            have H0 := HH1.out
            have H := HH1.out
            have hn := HHN.out
            have h9 := HHD.out
            refine ⟨rfl, [v0, v1, v2, v3, v4, v5, v6, v7, v8, .slice av ((exL (p.x, k0.f 0) (frNs k0.f 15))).length cv, v10, v11, .slice av ((exL (p.x, k0.f 0) (frNs k0.f 15))).length cv, v13], ?_, v0, v1, v2, v3, v4, v5, v6, v7, v8, .slice av ((exL (p.x, k0.f 0) (frNs k0.f 15))).length cv, v10, v11, .slice av ((exL (p.x, k0.f 0) (frNs k0.f 15))).length cv, v13, av, cv, rfl, ⟨H.bel, (by have h := H.f0; simpa [doneSet] using h), (by have h := H.f1; simpa [doneSet] using h), (by have h := H.f2; simpa [doneSet] using h), (by have h := H.f3; simpa [doneSet] using h), (by have h := H.f4; simpa [doneSet] using h), (by have h := H.f5; simpa [doneSet] using h), (by have h := H.f6; simpa [doneSet] using h), (by have h := H.f7; simpa [doneSet] using h), (by have h := H.f8; simpa [doneSet] using h), (fun _ => rfl), (by have h := H.f10; simpa [doneSet] using h), (by have h := H.f11; simpa [doneSet] using h), (fun _ => rfl), (by have h := H.f13; simpa [doneSet] using h), (by have h := H.o7; simpa [doneSet] using h), (by have h := H.g8_7; simpa [doneSet] using h), (by have h := H.g9_7; simpa [doneSet] using h), (fun _ => by simpa [doneSet] using h7)⟩⟩
            simp only [putAll, Act.put, List.setIfInBounds_toArray, List.set_cons_succ, List.set_cons_zero]
            all_goals rfl
          · rintro d vs W ⟨v0, v1, v2, v3, v4, v5, v6, v7, v8, v9, v10, v11, v12, v13, av, cv, rfl, H⟩ hn hd
            simp only [putAll, Act.put, List.setIfInBounds_toArray, List.set_cons_succ, List.set_cons_zero]
            have h11 : d 11 = true := hd { on := 11, ground := .data } (by simp) rfl
            obtain rfl := H.f11 h11
            have HH1 : Hid (Rm (WQ.drew) (g) (b) (off) (L) (cap') (p.x) (k0.f) ((exL (p.x, k0.f 0) (frNs k0.f 15))) ((cdE (p.x, k0.f 0) (frNs k0.f 15))) (true) d W v0 v1 v2 v3 v4 v5 v6 v7 v8 v9 v10 (.bool true) v12 v13 av cv) := H
            clear H
            have HHN : Hid (d 13 = false) := hn
            have HHD : Hid (d 11 = true) := h11
            clear hd hn h11
            go_wp2
            have H0 := HH1.out
            have H := HH1.out
            have hn := HHN.out
            have h11 := HHD.out
            refine ⟨rfl, [v0, v1, v2, v3, v4, v5, v6, v7, v8, v9, v10, .bool true, v12, .bool true], ?_, v0, v1, v2, v3, v4, v5, v6, v7, v8, v9, v10, .bool true, v12, .bool true, av, cv, rfl, ⟨H.bel, (by have h := H.f0; simpa [doneSet] using h), (by have h := H.f1; simpa [doneSet] using h), (by have h := H.f2; simpa [doneSet] using h), (by have h := H.f3; simpa [doneSet] using h), (by have h := H.f4; simpa [doneSet] using h), (by have h := H.f5; simpa [doneSet] using h), (by have h := H.f6; simpa [doneSet] using h), (by have h := H.f7; simpa [doneSet] using h), (by have h := H.f8; simpa [doneSet] using h), (by have h := H.f9; simpa [doneSet] using h), (by have h := H.f10; simpa [doneSet] using h), (fun _ => rfl), (by have h := H.f12; simpa [doneSet] using h), (fun _ => rfl), (by have h := H.o7; simpa [doneSet] using h), (by have h := H.g8_7; simpa [doneSet] using h), (by have h := H.g9_7; simpa [doneSet] using h), (by have h := H.g12_7; simpa [doneSet] using h)⟩⟩
            simp only [putAll, Act.put, List.setIfInBounds_toArray, List.set_cons_succ, List.set_cons_zero]
            all_goals rfl
          rintro d vs W ⟨v0, v1, v2, v3, v4, v5, v6, v7, v8, v9, v10, v11, v12, v13, av, cv, rfl, H⟩ hn
          obtain rfl := H.f0 (hn 0 (by decide))
          obtain rfl := H.f1 (hn 1 (by decide))
          obtain rfl := H.f2 (hn 2 (by decide))
          obtain rfl := H.f3 (hn 3 (by decide))
          obtain rfl := H.f4 (hn 4 (by decide))
          obtain rfl := H.f5 (hn 5 (by decide))
          obtain rfl := H.f6 (hn 6 (by decide))
          obtain rfl := H.f7 (hn 7 (by decide))
          obtain rfl := H.f8 (hn 8 (by decide))
          obtain rfl := H.f9 (hn 9 (by decide))
          obtain rfl := H.f10 (hn 10 (by decide))
          obtain rfl := H.f11 (hn 11 (by decide))
          obtain rfl := H.f12 (hn 12 (by decide))
          obtain rfl := H.f13 (hn 13 (by decide))
          have BW : Hid (Below WQ.drew.heap.size WQ.drew W) := H.bel
          have OW : Hid (Ow .i64 3 WQ.drew.heap.size W (.slice av (exL (p.x, k0.f 0) (frNs k0.f 15)).length cv) (exL (p.x, k0.f 0) (frNs k0.f 15))) := H.o7 (hn 7 (by decide))
          clear H hn CE
          have KW := HPQ.out.drew.below BW.out HPQ.out.lt
          have ZW := HZQ.out.drew.below BW.out HZQ.out.lt
          have BWW : Below w.heap.size w W := belowCall HBQ.out.drew BW.out HBQ.out.size
          have hbL : W2.heap.size ≤ b := (HOQ.out.lt b rfl).1
          have hs2 := HS2.out
          have hgw := HGG.out
          have hneb : ¬ b = g := by omega
          have y5 := KW.cell 5
          simp at y5
          have fy5 := KW.frozen 5
          obtain ⟨A, C, hAC, HRW⟩ : ∃ A C, (∀ u, (if cap' = 1 then u = Value.slice (some ⟨b, off, none⟩) (L - 1) 0 else u = Value.slice (some ⟨b, off + 18, none⟩) (L - 1) (cap' - 1)) → u = Value.slice (some A) (L - 1) C) ∧ A.block = b ∧ Rg 18 pkC W (.slice (some A) (L - 1) C) r0 := by
            have hLr : L - 1 = r0.length := by have := HL.out; simp at this; omega
            by_cases hc1 : cap' = 1
            · refine ⟨⟨b, off, none⟩, 0, fun u hu => by rw [if_pos hc1] at hu; exact hu, rfl, ?_⟩
              have hr0 : r0 = [] := by have := HSC.out; exact List.eq_nil_of_length_eq_zero (by omega)
              rw [hLr]
              exact ⟨_, 0, rfl, by simp [hr0], by unfold maxLen; omega, .inl hr0⟩
            · refine ⟨⟨b, off + 18, none⟩, cap' - 1, fun u hu => by rw [if_neg hc1] at hu; exact hu, rfl, ?_⟩
              have hrd := (HOQ.out.rd pkC_len).below (w' := W) ⟨BW.out.os, BW.out.tape, BW.out.output, BW.out.size, BW.out.block⟩
              obtain ⟨_, _, e, t1, t2, t3⟩ := hrd
              cases e
              rcases t3 with t3 | ⟨b', off', e, h4⟩
              · cases t3
              · cases e
                have := Rg.drop h4 t1 t2 1 (by simp)
                rw [HL.out] at this
                simpa using this
          obtain ⟨hAb, HRW⟩ := HRW
          obtain ⟨S, hS⟩ : ∃ S, Value.slice (some A) (L - 1) C = S := ⟨_, rfl⟩
          rw [hS] at hAC HRW
          have hSb : S.ownBlock = some b := by rw [← hS, ← hAb]; rfl
          obtain ⟨WS, hWS⟩ : ∃ X, W.setCell ⟨g, 5, none⟩ S = X := ⟨_, rfl⟩
          have HPS : Hid (Blk WS g (plA p S) 42) := by rw [← hWS]; exact KW.set 5 _
          have HZS : Hid (Blk WS (g + 1) (plA ⟨0, 0, 0, 0, 0⟩ (.slice none 0 0)) 42) := by rw [← hWS]; exact ZW.other _ _ (by dsimp only; omega)
          have HBS : Hid (Below w.heap.size w WS) := by rw [← hWS]; exact BWW.setCell (by dsimp only; omega) _
          have HRS : Hid (Rg 18 pkC WS S r0) := by rw [← hWS]; exact rgSet HRW g 5 _ (by rw [hSb]; simpa using hneb)
          have HSB : Hid (S.ownBlock = some b ∧ w.heap.size ≤ b ∧ b < WS.heap.size ∧ ¬ b = g ∧ ¬ b = g + 1) := ⟨hSb, by omega, by rw [← hWS]; have h1 := BW.out.size; have h2 := hbq; simp; exact Nat.lt_of_lt_of_le h2 h1, hneb, by omega⟩
          have HWS : Hid (W.setCell ⟨g, 5, none⟩ S = WS) := hWS
          have HSF : Hid (S = .slice (some A) (L - 1) C) := hS.symm
          have HOS : Hid (Ow .i64 3 WQ.drew.heap.size WS (.slice av (exL (p.x, k0.f 0) (frNs k0.f 15)).length cv) (exL (p.x, k0.f 0) (frNs k0.f 15))) := by rw [← hWS]; exact ownsRow_setCell_below (a := ⟨g, 5, none⟩) OW.out (by have := HPQ.out.lt; dsimp only; exact this) _
          clear KW ZW BWW hS hWS HRW hSb hAb
          simp only [putAll, Act.put, List.setIfInBounds_toArray, List.set_cons_succ, List.set_cons_zero]
          have HDR : Hid ((k0 :: r0).drop (pcF (k0 :: r0) (p.n + 1)) = r0) := by show _ = _; rw [pcF_succ HST.out]; simp [hdB, hks]
          have hpc0 : pcF (k0 :: r0) p.n = 0 := pcF_zero HST.out
          have hth : thB (k0 :: r0) p.n = true := by rw [thB_hd HST.out]; simp [hdB, hks]
          have HLV : Hid (lvF (k0 :: r0) p.n p.x = (exL (p.x, k0.f 0) (frNs k0.f 15), false)) := by
            show _ = _
            unfold lvF
            simp only [hpc0, List.getElem_cons_zero]
            rw [dif_pos ⟨hth, by simp, HCO.out⟩]
          obtain ⟨out, hout⟩ : ∃ o, exL (p.x, k0.f 0) (frNs k0.f 15) = o := ⟨_, rfl⟩
          have hol : out.length = 30 := by rw [← hout, exL_len, frNs_len]
          rw [hout] at HOS HLV ⊢
          rw [hol] at HOS ⊢
          obtain ⟨bu, rfl, hbu, hcu⟩ : ∃ bu, av = some ⟨bu, 0, none⟩ ∧ WQ.drew.heap.size ≤ bu ∧ WS.cell? ⟨bu, 29, none⟩ = some (.int .i64 (out.getD 29 0)) := by
            have h0 : WS.ownsRow WQ.drew.heap.size 3 1 (.slice av 30 cv) out.length (out.map (Value.int .i64)) := HOS.out
            rw [hol] at h0
            rcases h0.2 with ⟨hz, -⟩ | ⟨k, c, cur, hv, hb, -⟩
            · cases hz
            · cases hv
              refine ⟨k, rfl, hb, ?_⟩
              rw [h0.cellAt 29 (by omega)]
              simp [List.getElem?_eq_getElem (show 29 < out.length by omega)]
          obtain ⟨y, hy⟩ : ∃ y, out.getD 29 0 = y := ⟨_, rfl⟩
          have HY : Hid (out.getD 29 0 = y) := hy
          rw [hy] at hcu
          have hgq : g < WQ.drew.heap.size := by simp; exact HPQ.out.lt
          have hne1 : ¬ bu = g := by omega
          have hne2 : ¬ g = bu := fun e => hne1 e.symm
          have KS := HPS.out
          have z0 := KS.cell 0
          have z4 := KS.cell 4
          simp at z0 z4
          have f0 := KS.frozen 0
          have f4 := KS.frozen 4
          have hpn0 := HPN.out.1.1
          have hpn1 := HPN.out.1.2
          obtain ⟨WT, hWT⟩ : ∃ W, (WS.setCell ⟨g, 0, none⟩ (.int .i64 (p.n + 1))).setCell ⟨g, 4, none⟩ (.int .i64 y) = W := ⟨_, rfl⟩
          have HPT : Hid (Blk WT g (plA ⟨p.n + 1, p.d, p.l, p.g, y⟩ S) 42) := by rw [← hWT]; exact (KS.set 0 _).set 4 _
          have HZT : Hid (Blk WT (g + 1) (plA ⟨0, 0, 0, 0, 0⟩ (.slice none 0 0)) 42) := by rw [← hWT]; exact (HZS.out.other ⟨g, 0, none⟩ _ (by dsimp only; omega)).other ⟨g, 4, none⟩ _ (by dsimp only; omega)
          have HBT : Hid (Below w.heap.size w WT) := by rw [← hWT]; exact (HBS.out.setCell (by dsimp only; omega) _).setCell (by dsimp only; omega) _
          have HOT : Hid (Ow .i64 3 WQ.drew.heap.size WT (.slice (some ⟨bu, 0, none⟩) 30 cv) out) := by rw [← hWT]; exact ownsRow_setCell_below (a := ⟨g, 4, none⟩) (ownsRow_setCell_below (a := ⟨g, 0, none⟩) HOS.out (by dsimp only; exact hgq) _) (by dsimp only; exact hgq) _
          have hSg : S.ownBlock ≠ some g := by rw [HSB.out.1]; simpa using HSB.out.2.2.2.1
          have hSg1 : S.ownBlock ≠ some (g + 1) := by rw [HSB.out.1]; simpa using HSB.out.2.2.2.2
          have HRT : Hid (Rg 18 pkC (WT.setRow (g + 1) (plA ⟨p.n + 1, p.d, p.l, p.g, y⟩ S)) S r0) := by rw [← hWT]; exact rgRow (rgSet (rgSet HRS.out g 0 _ hSg) g 4 _ hSg) (g + 1) _ hSg1
          have HWT : Hid ((WS.setCell ⟨g, 0, none⟩ (.int .i64 (p.n + 1))).setCell ⟨g, 4, none⟩ (.int .i64 y) = WT) := hWT
          have HZB : Hid (WQ.drew.heap.size ≤ WT.heap.size ∧ g + 1 < WQ.drew.heap.size ∧ w.heap.size ≤ WQ.drew.heap.size ∧ b < WT.heap.size) := ⟨by rw [← hWT, ← HWS.out]; have := BW.out.size; simpa using this, by simp; exact HZQ.out.lt, by simp; exact HBQ.out.size, by rw [← hWT]; have := HSB.out.2.2.1; simpa using this⟩
          have hpy : pyF p (k0 :: r0) = ⟨p.n + 1, p.d, p.l, p.g, y⟩ := by
            unfold pyF; rw [HLV.out]
            show (⟨p.n + 1, p.d, p.l, p.g, out.getD 29 0⟩ : Pl) = _
            rw [hy]
          have HPYF : Hid (pyF p (k0 :: r0) = ⟨p.n + 1, p.d, p.l, p.g, y⟩) := hpy
          have HFIN : Hid (PmR (pyF p (k0 :: r0)) ((k0 :: r0).drop (pcF (k0 :: r0) (p.n + 1))) (lvF (k0 :: r0) p.n p.x).1 true w (.returned (.tuple #[.agg (plA ⟨p.n + 1, p.d, p.l, p.g, y⟩ S), .slice (some ⟨bu, 0, none⟩) 30 cv, .bool true])) (WT.setRow (g + 1) (plA ⟨p.n + 1, p.d, p.l, p.g, y⟩ S))) := by
            refine ⟨S, _, by rw [hpy], by rw [HDR.out]; exact HRT.out, fun k hk => ?_, by rw [HLV.out]; exact Ow.mono (Ow.putRow HOT.out HZB.out.2.1) HZB.out.2.2.1, belowRow HBT.out _ (by omega) _⟩
            have := HSB.out
            rw [this.1] at hk
            obtain rfl : b = k := by simpa using hk
            refine ⟨this.2.1, ?_⟩
            have h9 := HZB.out.2.2.2
            simpa using h9
          have hWS' := HWS.out
          clear HOS HPS HZS HBS HRS HSB hWT hy hout hol KS hpy hth hpc0 HWS
          by_cases hc1 : cap' = 1
          · have hAC' := hAC _ (by rw [if_pos hc1])
            clear hAC
            have hWS2 : W.setCell ⟨g, 5, none⟩ (.slice (some ⟨b, off, none⟩) (L - 1) 0) = WS := by rw [hAC']; exact hWS'
            clear hAC' hWS'
            go_wp2_with (first | (rw [HWT.out]; refine wpList_load_row rfl 42 _ rfl g rfl 42 (plA ⟨p.n + 1, p.d, p.l, p.g, y⟩ S) (0, 0) _ HPT.out Tryd.underlying42 rfl (by kernel_rfl) ?_) | refine wpList_store_row rfl 42 _ _ rfl (g + 1) (plA ⟨p.n + 1, p.d, p.l, p.g, y⟩ S) rfl rfl 42 (plA ⟨0, 0, 0, 0, 0⟩ (.slice none 0 0)) HZT.out (by kernel_rfl) rfl (by rw [HSF.out]; simp [Value.oneCell']) ?_)
            exact bodyPost_ret (results_P3 rfl _ _ (g + 1) ⟨p.n + 1, p.d, p.l, p.g, y⟩ S (.slice (some ⟨bu, 0, none⟩) 30 cv) (.bool true) rfl rfl rfl (HZT.out.row _)) rfl ⟨fun _ => HFIN.out, fun h => absurd HPY.out h⟩
          · have hAC' := hAC _ (by rw [if_neg hc1])
            clear hAC
            have hWS2 : W.setCell ⟨g, 5, none⟩ (.slice (some ⟨b, off + 18, none⟩) (L - 1) (cap' - 1)) = WS := by rw [hAC']; exact hWS'
            clear hAC' hWS'
            go_wp2_with (first | (rw [HWT.out]; refine wpList_load_row rfl 42 _ rfl g rfl 42 (plA ⟨p.n + 1, p.d, p.l, p.g, y⟩ S) (0, 0) _ HPT.out Tryd.underlying42 rfl (by kernel_rfl) ?_) | refine wpList_store_row rfl 42 _ _ rfl (g + 1) (plA ⟨p.n + 1, p.d, p.l, p.g, y⟩ S) rfl rfl 42 (plA ⟨0, 0, 0, 0, 0⟩ (.slice none 0 0)) HZT.out (by kernel_rfl) rfl (by rw [HSF.out]; simp [Value.oneCell']) ?_)
            exact bodyPost_ret (results_P3 rfl _ _ (g + 1) ⟨p.n + 1, p.d, p.l, p.g, y⟩ S (.slice (some ⟨bu, 0, none⟩) 30 cv) (.bool true) rfl rfl rfl (HZT.out.row _)) rfl ⟨fun _ => HFIN.out, fun h => absurd HPY.out h⟩
        · have HCO : Hid (¬ COk (p.x, k0.f 0)) := hCO
          clear hCO
          refine region_vals [undef, undef, undef, undef, undef, undef, undef, undef, undef, undef, undef, undef, undef, undef] (RmS (WQ.drew) (g) (b) (off) (L) (cap') (p.x) (k0.f) (([] : List Int)) ((0, 0)) (false)) (by kernel_rfl) (by kernel_rfl) ?_ ⟨?_, ?_, ?_, ?_, ?_, ?_, ?_, ?_, ?_, ?_, ?_, ?_, ?_, ?_, trivial⟩ ?_
          · refine ⟨_, _, _, _, _, _, _, _, _, _, _, _, _, _, none, 0, rfl, ⟨(Below.refl _ _), ?_, ?_, ?_, ?_, ?_, ?_, ?_, ?_, ?_, ?_, ?_, ?_, ?_, ?_, ?_, ?_, ?_, ?_⟩⟩ <;> simp
          · rintro d vs W ⟨v0, v1, v2, v3, v4, v5, v6, v7, v8, v9, v10, v11, v12, v13, av, cv, rfl, H⟩ hn hd
            simp only [putAll, Act.put, List.setIfInBounds_toArray, List.set_cons_succ, List.set_cons_zero]
            have HH1 : Hid (Rm (WQ.drew) (g) (b) (off) (L) (cap') (p.x) (k0.f) (([] : List Int)) ((0, 0)) (false) d W v0 v1 v2 v3 v4 v5 v6 v7 v8 v9 v10 v11 v12 v13 av cv) := H
            clear H
            have HHN : Hid (d 0 = false) := hn
            clear hd hn
            go_wp2
            have H0 := HH1.out
            have H := HH1.out
            have hn := HHN.out
            refine ⟨rfl, [.pointer (some ⟨g, 4, none⟩), v1, v2, v3, v4, v5, v6, v7, v8, v9, v10, v11, v12, v13], ?_, .pointer (some ⟨g, 4, none⟩), v1, v2, v3, v4, v5, v6, v7, v8, v9, v10, v11, v12, v13, av, cv, rfl, ⟨H.bel, (fun _ => rfl), (by have h := H.f1; simpa [doneSet] using h), (by have h := H.f2; simpa [doneSet] using h), (by have h := H.f3; simpa [doneSet] using h), (by have h := H.f4; simpa [doneSet] using h), (by have h := H.f5; simpa [doneSet] using h), (by have h := H.f6; simpa [doneSet] using h), (by have h := H.f7; simpa [doneSet] using h), (by have h := H.f8; simpa [doneSet] using h), (by have h := H.f9; simpa [doneSet] using h), (by have h := H.f10; simpa [doneSet] using h), (by have h := H.f11; simpa [doneSet] using h), (by have h := H.f12; simpa [doneSet] using h), (by have h := H.f13; simpa [doneSet] using h), (by have h := H.o7; simpa [doneSet] using h), (by have h := H.g8_7; simpa [doneSet] using h), (by have h := H.g9_7; simpa [doneSet] using h), (by have h := H.g12_7; simpa [doneSet] using h)⟩⟩
            simp only [putAll, Act.put, List.setIfInBounds_toArray, List.set_cons_succ, List.set_cons_zero]
            all_goals rfl
          · rintro d vs W ⟨v0, v1, v2, v3, v4, v5, v6, v7, v8, v9, v10, v11, v12, v13, av, cv, rfl, H⟩ hn hd
            simp only [putAll, Act.put, List.setIfInBounds_toArray, List.set_cons_succ, List.set_cons_zero]
            have h0 : d 0 = true := hd { on := 0, ground := .data } (by simp) rfl
            obtain ⟨q0, q1, q2⟩ := CE.out W H.bel
            obtain rfl := H.f0 h0
            have HH1 : Hid (Rm (WQ.drew) (g) (b) (off) (L) (cap') (p.x) (k0.f) (([] : List Int)) ((0, 0)) (false) d W (.pointer (some ⟨g, 4, none⟩)) v1 v2 v3 v4 v5 v6 v7 v8 v9 v10 v11 v12 v13 av cv) := H
            clear H
            have HHN : Hid (d 1 = false) := hn
            have HHD : Hid (d 0 = true) := h0
            clear hd hn h0 q1 q2
            go_wp2
            have H0 := HH1.out
            have H := HH1.out
            have hn := HHN.out
            have h0 := HHD.out
            refine ⟨rfl, [.pointer (some ⟨g, 4, none⟩), .int .i64 p.x, v2, v3, v4, v5, v6, v7, v8, v9, v10, v11, v12, v13], ?_, .pointer (some ⟨g, 4, none⟩), .int .i64 p.x, v2, v3, v4, v5, v6, v7, v8, v9, v10, v11, v12, v13, av, cv, rfl, ⟨H.bel, (fun _ => rfl), (fun _ => rfl), (by have h := H.f2; simpa [doneSet] using h), (by have h := H.f3; simpa [doneSet] using h), (by have h := H.f4; simpa [doneSet] using h), (by have h := H.f5; simpa [doneSet] using h), (by have h := H.f6; simpa [doneSet] using h), (by have h := H.f7; simpa [doneSet] using h), (by have h := H.f8; simpa [doneSet] using h), (by have h := H.f9; simpa [doneSet] using h), (by have h := H.f10; simpa [doneSet] using h), (by have h := H.f11; simpa [doneSet] using h), (by have h := H.f12; simpa [doneSet] using h), (by have h := H.f13; simpa [doneSet] using h), (by have h := H.o7; simpa [doneSet] using h), (by have h := H.g8_7; simpa [doneSet] using h), (by have h := H.g9_7; simpa [doneSet] using h), (by have h := H.g12_7; simpa [doneSet] using h)⟩⟩
            simp only [putAll, Act.put, List.setIfInBounds_toArray, List.set_cons_succ, List.set_cons_zero]
            all_goals rfl
          · rintro d vs W ⟨v0, v1, v2, v3, v4, v5, v6, v7, v8, v9, v10, v11, v12, v13, av, cv, rfl, H⟩ hn hd
            simp only [putAll, Act.put, List.setIfInBounds_toArray, List.set_cons_succ, List.set_cons_zero]
            have HH1 : Hid (Rm (WQ.drew) (g) (b) (off) (L) (cap') (p.x) (k0.f) (([] : List Int)) ((0, 0)) (false) d W v0 v1 v2 v3 v4 v5 v6 v7 v8 v9 v10 v11 v12 v13 av cv) := H
            clear H
            have HHN : Hid (d 2 = false) := hn
            clear hd hn
            go_wp2
            have H0 := HH1.out
            have H := HH1.out
            have hn := HHN.out
            refine ⟨rfl, [v0, v1, .pointer (some ⟨g, 5, none⟩), v3, v4, v5, v6, v7, v8, v9, v10, v11, v12, v13], ?_, v0, v1, .pointer (some ⟨g, 5, none⟩), v3, v4, v5, v6, v7, v8, v9, v10, v11, v12, v13, av, cv, rfl, ⟨H.bel, (by have h := H.f0; simpa [doneSet] using h), (by have h := H.f1; simpa [doneSet] using h), (fun _ => rfl), (by have h := H.f3; simpa [doneSet] using h), (by have h := H.f4; simpa [doneSet] using h), (by have h := H.f5; simpa [doneSet] using h), (by have h := H.f6; simpa [doneSet] using h), (by have h := H.f7; simpa [doneSet] using h), (by have h := H.f8; simpa [doneSet] using h), (by have h := H.f9; simpa [doneSet] using h), (by have h := H.f10; simpa [doneSet] using h), (by have h := H.f11; simpa [doneSet] using h), (by have h := H.f12; simpa [doneSet] using h), (by have h := H.f13; simpa [doneSet] using h), (by have h := H.o7; simpa [doneSet] using h), (by have h := H.g8_7; simpa [doneSet] using h), (by have h := H.g9_7; simpa [doneSet] using h), (by have h := H.g12_7; simpa [doneSet] using h)⟩⟩
            simp only [putAll, Act.put, List.setIfInBounds_toArray, List.set_cons_succ, List.set_cons_zero]
            all_goals rfl
          · rintro d vs W ⟨v0, v1, v2, v3, v4, v5, v6, v7, v8, v9, v10, v11, v12, v13, av, cv, rfl, H⟩ hn hd
            simp only [putAll, Act.put, List.setIfInBounds_toArray, List.set_cons_succ, List.set_cons_zero]
            have h2 : d 2 = true := hd { on := 2, ground := .data } (by simp) rfl
            obtain ⟨q0, q1, q2⟩ := CE.out W H.bel
            obtain rfl := H.f2 h2
            have HH1 : Hid (Rm (WQ.drew) (g) (b) (off) (L) (cap') (p.x) (k0.f) (([] : List Int)) ((0, 0)) (false) d W v0 v1 (.pointer (some ⟨g, 5, none⟩)) v3 v4 v5 v6 v7 v8 v9 v10 v11 v12 v13 av cv) := H
            clear H
            have HHN : Hid (d 3 = false) := hn
            have HHD : Hid (d 2 = true) := h2
            clear hd hn h2 q0 q2
            go_wp2
            have H0 := HH1.out
            have H := HH1.out
            have hn := HHN.out
            have h2 := HHD.out
            refine ⟨rfl, [v0, v1, .pointer (some ⟨g, 5, none⟩), .slice (some ⟨b, off, none⟩) L cap', v4, v5, v6, v7, v8, v9, v10, v11, v12, v13], ?_, v0, v1, .pointer (some ⟨g, 5, none⟩), .slice (some ⟨b, off, none⟩) L cap', v4, v5, v6, v7, v8, v9, v10, v11, v12, v13, av, cv, rfl, ⟨H.bel, (by have h := H.f0; simpa [doneSet] using h), (by have h := H.f1; simpa [doneSet] using h), (fun _ => rfl), (fun _ => rfl), (by have h := H.f4; simpa [doneSet] using h), (by have h := H.f5; simpa [doneSet] using h), (by have h := H.f6; simpa [doneSet] using h), (by have h := H.f7; simpa [doneSet] using h), (by have h := H.f8; simpa [doneSet] using h), (by have h := H.f9; simpa [doneSet] using h), (by have h := H.f10; simpa [doneSet] using h), (by have h := H.f11; simpa [doneSet] using h), (by have h := H.f12; simpa [doneSet] using h), (by have h := H.f13; simpa [doneSet] using h), (by have h := H.o7; simpa [doneSet] using h), (by have h := H.g8_7; simpa [doneSet] using h), (by have h := H.g9_7; simpa [doneSet] using h), (by have h := H.g12_7; simpa [doneSet] using h)⟩⟩
            simp only [putAll, Act.put, List.setIfInBounds_toArray, List.set_cons_succ, List.set_cons_zero]
            all_goals rfl
          · rintro d vs W ⟨v0, v1, v2, v3, v4, v5, v6, v7, v8, v9, v10, v11, v12, v13, av, cv, rfl, H⟩ hn hd
            simp only [putAll, Act.put, List.setIfInBounds_toArray, List.set_cons_succ, List.set_cons_zero]
            have h3 : d 3 = true := hd { on := 3, ground := .data } (by simp) rfl
            obtain rfl := H.f3 h3
            have HH1 : Hid (Rm (WQ.drew) (g) (b) (off) (L) (cap') (p.x) (k0.f) (([] : List Int)) ((0, 0)) (false) d W v0 v1 v2 (.slice (some ⟨b, off, none⟩) L cap') v4 v5 v6 v7 v8 v9 v10 v11 v12 v13 av cv) := H
            clear H
            have HHN : Hid (d 4 = false) := hn
            have HHD : Hid (d 3 = true) := h3
            clear hd hn h3
            go_wp2
            have H0 := HH1.out
            have H := HH1.out
            have hn := HHN.out
            have h3 := HHD.out
            refine ⟨rfl, [v0, v1, v2, .slice (some ⟨b, off, none⟩) L cap', .pointer (some ⟨b, off, none⟩), v5, v6, v7, v8, v9, v10, v11, v12, v13], ?_, v0, v1, v2, .slice (some ⟨b, off, none⟩) L cap', .pointer (some ⟨b, off, none⟩), v5, v6, v7, v8, v9, v10, v11, v12, v13, av, cv, rfl, ⟨H.bel, (by have h := H.f0; simpa [doneSet] using h), (by have h := H.f1; simpa [doneSet] using h), (by have h := H.f2; simpa [doneSet] using h), (fun _ => rfl), (fun _ => rfl), (by have h := H.f5; simpa [doneSet] using h), (by have h := H.f6; simpa [doneSet] using h), (by have h := H.f7; simpa [doneSet] using h), (by have h := H.f8; simpa [doneSet] using h), (by have h := H.f9; simpa [doneSet] using h), (by have h := H.f10; simpa [doneSet] using h), (by have h := H.f11; simpa [doneSet] using h), (by have h := H.f12; simpa [doneSet] using h), (by have h := H.f13; simpa [doneSet] using h), (by have h := H.o7; simpa [doneSet] using h), (by have h := H.g8_7; simpa [doneSet] using h), (by have h := H.g9_7; simpa [doneSet] using h), (by have h := H.g12_7; simpa [doneSet] using h)⟩⟩
            simp only [putAll, Act.put, List.setIfInBounds_toArray, List.set_cons_succ, List.set_cons_zero]
            all_goals rfl
          · rintro d vs W ⟨v0, v1, v2, v3, v4, v5, v6, v7, v8, v9, v10, v11, v12, v13, av, cv, rfl, H⟩ hn hd
            simp only [putAll, Act.put, List.setIfInBounds_toArray, List.set_cons_succ, List.set_cons_zero]
            have h4 : d 4 = true := hd { on := 4, ground := .data } (by simp) rfl
            obtain rfl := H.f4 h4
            have HH1 : Hid (Rm (WQ.drew) (g) (b) (off) (L) (cap') (p.x) (k0.f) (([] : List Int)) ((0, 0)) (false) d W v0 v1 v2 v3 (.pointer (some ⟨b, off, none⟩)) v5 v6 v7 v8 v9 v10 v11 v12 v13 av cv) := H
            clear H
            have HHN : Hid (d 5 = false) := hn
            have HHD : Hid (d 4 = true) := h4
            clear hd hn h4
            go_wp2
            have H0 := HH1.out
            have H := HH1.out
            have hn := HHN.out
            have h4 := HHD.out
            refine ⟨rfl, [v0, v1, v2, v3, .pointer (some ⟨b, off, none⟩), .pointer (some ⟨b, off + 2, none⟩), v6, v7, v8, v9, v10, v11, v12, v13], ?_, v0, v1, v2, v3, .pointer (some ⟨b, off, none⟩), .pointer (some ⟨b, off + 2, none⟩), v6, v7, v8, v9, v10, v11, v12, v13, av, cv, rfl, ⟨H.bel, (by have h := H.f0; simpa [doneSet] using h), (by have h := H.f1; simpa [doneSet] using h), (by have h := H.f2; simpa [doneSet] using h), (by have h := H.f3; simpa [doneSet] using h), (fun _ => rfl), (fun _ => rfl), (by have h := H.f6; simpa [doneSet] using h), (by have h := H.f7; simpa [doneSet] using h), (by have h := H.f8; simpa [doneSet] using h), (by have h := H.f9; simpa [doneSet] using h), (by have h := H.f10; simpa [doneSet] using h), (by have h := H.f11; simpa [doneSet] using h), (by have h := H.f12; simpa [doneSet] using h), (by have h := H.f13; simpa [doneSet] using h), (by have h := H.o7; simpa [doneSet] using h), (by have h := H.g8_7; simpa [doneSet] using h), (by have h := H.g9_7; simpa [doneSet] using h), (by have h := H.g12_7; simpa [doneSet] using h)⟩⟩
            simp only [putAll, Act.put, List.setIfInBounds_toArray, List.set_cons_succ, List.set_cons_zero]
            all_goals rfl
          · rintro d vs W ⟨v0, v1, v2, v3, v4, v5, v6, v7, v8, v9, v10, v11, v12, v13, av, cv, rfl, H⟩ hn hd
            simp only [putAll, Act.put, List.setIfInBounds_toArray, List.set_cons_succ, List.set_cons_zero]
            have h5 : d 5 = true := hd { on := 5, ground := .data } (by simp) rfl
            obtain ⟨q0, q1, q2⟩ := CE.out W H.bel
            have z0 : W.cell? ⟨b, off + 2 + 0, none⟩ = some (.int .u8 (k0.f 0)) := q2 0 _ (frF_at k0.f 0 (by decide))
            have z1 : W.cell? ⟨b, off + 2 + 1, none⟩ = some (.int .u8 (k0.f 1)) := q2 1 _ (frF_at k0.f 1 (by decide))
            have z2 : W.cell? ⟨b, off + 2 + 2, none⟩ = some (.int .u8 (k0.f 2)) := q2 2 _ (frF_at k0.f 2 (by decide))
            have z3 : W.cell? ⟨b, off + 2 + 3, none⟩ = some (.int .u8 (k0.f 3)) := q2 3 _ (frF_at k0.f 3 (by decide))
            have z4 : W.cell? ⟨b, off + 2 + 4, none⟩ = some (.int .u8 (k0.f 4)) := q2 4 _ (frF_at k0.f 4 (by decide))
            have z5 : W.cell? ⟨b, off + 2 + 5, none⟩ = some (.int .u8 (k0.f 5)) := q2 5 _ (frF_at k0.f 5 (by decide))
            have z6 : W.cell? ⟨b, off + 2 + 6, none⟩ = some (.int .u8 (k0.f 6)) := q2 6 _ (frF_at k0.f 6 (by decide))
            have z7 : W.cell? ⟨b, off + 2 + 7, none⟩ = some (.int .u8 (k0.f 7)) := q2 7 _ (frF_at k0.f 7 (by decide))
            have z8 : W.cell? ⟨b, off + 2 + 8, none⟩ = some (.int .u8 (k0.f 8)) := q2 8 _ (frF_at k0.f 8 (by decide))
            have z9 : W.cell? ⟨b, off + 2 + 9, none⟩ = some (.int .u8 (k0.f 9)) := q2 9 _ (frF_at k0.f 9 (by decide))
            have z10 : W.cell? ⟨b, off + 2 + 10, none⟩ = some (.int .u8 (k0.f 10)) := q2 10 _ (frF_at k0.f 10 (by decide))
            have z11 : W.cell? ⟨b, off + 2 + 11, none⟩ = some (.int .u8 (k0.f 11)) := q2 11 _ (frF_at k0.f 11 (by decide))
            have z12 : W.cell? ⟨b, off + 2 + 12, none⟩ = some (.int .u8 (k0.f 12)) := q2 12 _ (frF_at k0.f 12 (by decide))
            have z13 : W.cell? ⟨b, off + 2 + 13, none⟩ = some (.int .u8 (k0.f 13)) := q2 13 _ (frF_at k0.f 13 (by decide))
            have z14 : W.cell? ⟨b, off + 2 + 14, none⟩ = some (.int .u8 (k0.f 14)) := q2 14 _ (frF_at k0.f 14 (by decide))
            have z15 : W.cell? ⟨b, off + 2 + 15, none⟩ = some (.int .u8 (k0.f 15)) := q2 15 _ (frF_at k0.f 15 (by decide))
            obtain rfl := H.f5 h5
            have HH1 : Hid (Rm (WQ.drew) (g) (b) (off) (L) (cap') (p.x) (k0.f) (([] : List Int)) ((0, 0)) (false) d W v0 v1 v2 v3 v4 (.pointer (some ⟨b, off + 2, none⟩)) v6 v7 v8 v9 v10 v11 v12 v13 av cv) := H
            clear H
            have HHN : Hid (d 6 = false) := hn
            have HHD : Hid (d 5 = true) := h5
            clear hd hn h5 q0 q1 q2
            go_wp2
            have H0 := HH1.out
            have H := HH1.out
            have hn := HHN.out
            have h5 := HHD.out
            refine ⟨rfl, [v0, v1, v2, v3, v4, .pointer (some ⟨b, off + 2, none⟩), .agg (A16 k0.f), v7, v8, v9, v10, v11, v12, v13], ?_, v0, v1, v2, v3, v4, .pointer (some ⟨b, off + 2, none⟩), .agg (A16 k0.f), v7, v8, v9, v10, v11, v12, v13, av, cv, rfl, ⟨H.bel, (by have h := H.f0; simpa [doneSet] using h), (by have h := H.f1; simpa [doneSet] using h), (by have h := H.f2; simpa [doneSet] using h), (by have h := H.f3; simpa [doneSet] using h), (by have h := H.f4; simpa [doneSet] using h), (fun _ => rfl), (fun _ => rfl), (by have h := H.f7; simpa [doneSet] using h), (by have h := H.f8; simpa [doneSet] using h), (by have h := H.f9; simpa [doneSet] using h), (by have h := H.f10; simpa [doneSet] using h), (by have h := H.f11; simpa [doneSet] using h), (by have h := H.f12; simpa [doneSet] using h), (by have h := H.f13; simpa [doneSet] using h), (by have h := H.o7; simpa [doneSet] using h), (by have h := H.g8_7; simpa [doneSet] using h), (by have h := H.g9_7; simpa [doneSet] using h), (by have h := H.g12_7; simpa [doneSet] using h)⟩⟩
            simp only [putAll, Act.put, List.setIfInBounds_toArray, List.set_cons_succ, List.set_cons_zero]
            all_goals rfl
          · rintro d vs W ⟨v0, v1, v2, v3, v4, v5, v6, v7, v8, v9, v10, v11, v12, v13, av, cv, rfl, H⟩ hn hd
            simp only [putAll, Act.put, List.setIfInBounds_toArray, List.set_cons_succ, List.set_cons_zero]
            have h1 : d 1 = true := hd { on := 1, ground := .data } (by simp) rfl
            have h6 : d 6 = true := hd { on := 6, ground := .data } (by simp) rfl
            obtain rfl := H.f1 h1
            obtain rfl := H.f6 h6
            have HH1 : Hid (Rm (WQ.drew) (g) (b) (off) (L) (cap') (p.x) (k0.f) (([] : List Int)) ((0, 0)) (false) d W v0 (.int .i64 p.x) v2 v3 v4 v5 (.agg (A16 k0.f)) v7 v8 v9 v10 v11 v12 v13 av cv) := H
            clear H
            have HHN : Hid (d 7 = false) := hn
            have HHD : Hid (d 1 = true ∧ d 6 = true) := ⟨h1, h6⟩
            clear hd hn h1 h6
            go_wp2_with (fail)
            refine ((ofM_c p.x k0.f HFB.out W).mono fun e w' hh => (hh.2 HCO.out : CdR ([] : List Int) (0, 0) false W e w')).mono ?_
            rintro e W3 ⟨v7, rfl, o7, b7⟩
            have HB7 : Hid (Below W.heap.size W W3) := b7
            obtain ⟨a7, c7, rfl, -⟩ := o7.rd
            have HO7 : Hid (Ow .i64 3 W.heap.size W3 (.slice a7 ([] : List Int).length c7) ([] : List Int)) := o7
            clear b7 o7
            go_wp2
            have H0 := HH1.out
            have H := HH1.out.below HB7.out
            have hn := HHN.out
            have h1 := HHD.out.1
            have h6 := HHD.out.2
            refine ⟨rfl, [v0, .int .i64 p.x, v2, v3, v4, v5, .agg (A16 k0.f), .tuple #[.slice a7 ([] : List Int).length c7, .agg (cdA (0, 0)), .bool false], v8, v9, v10, v11, v12, v13], ?_, v0, .int .i64 p.x, v2, v3, v4, v5, .agg (A16 k0.f), .tuple #[.slice a7 ([] : List Int).length c7, .agg (cdA (0, 0)), .bool false], v8, v9, v10, v11, v12, v13, a7, c7, rfl, ⟨H.bel, (by have h := H.f0; simpa [doneSet] using h), (fun _ => rfl), (by have h := H.f2; simpa [doneSet] using h), (by have h := H.f3; simpa [doneSet] using h), (by have h := H.f4; simpa [doneSet] using h), (by have h := H.f5; simpa [doneSet] using h), (fun _ => rfl), (fun _ => rfl), (fun e => absurd (H0.g8_7 (by simpa [doneSet] using e)) (by rw [hn]; simp)), (fun e => absurd (H0.g9_7 (by simpa [doneSet] using e)) (by rw [hn]; simp)), (by have h := H.f10; simpa [doneSet] using h), (by have h := H.f11; simpa [doneSet] using h), (fun e => absurd (H0.g12_7 (by simpa [doneSet] using e)) (by rw [hn]; simp)), (by have h := H.f13; simpa [doneSet] using h), (fun _ => HO7.out.mono H0.bel.size), (fun _ => by simp [doneSet]), (fun _ => by simp [doneSet]), (fun _ => by simp [doneSet])⟩⟩
            simp only [putAll, Act.put, List.setIfInBounds_toArray, List.set_cons_succ, List.set_cons_zero]
            all_goals rfl
          · rintro d vs W ⟨v0, v1, v2, v3, v4, v5, v6, v7, v8, v9, v10, v11, v12, v13, av, cv, rfl, H⟩ hn hd
            simp only [putAll, Act.put, List.setIfInBounds_toArray, List.set_cons_succ, List.set_cons_zero]
            have h7 : d 7 = true := hd { on := 7, ground := .data } (by simp) rfl
            obtain rfl := H.f7 h7
            have HH1 : Hid (Rm (WQ.drew) (g) (b) (off) (L) (cap') (p.x) (k0.f) (([] : List Int)) ((0, 0)) (false) d W v0 v1 v2 v3 v4 v5 v6 (.tuple #[.slice av (([] : List Int)).length cv, .agg (cdA ((0, 0))), .bool false]) v8 v9 v10 v11 v12 v13 av cv) := H
            clear H
            have HHN : Hid (d 8 = false) := hn
            have HHD : Hid (d 7 = true) := h7
            clear hd hn h7
            go_wp2
            have H0 := HH1.out
            have H := HH1.out
            have hn := HHN.out
            have h7 := HHD.out
            refine ⟨rfl, [v0, v1, v2, v3, v4, v5, v6, .tuple #[.slice av (([] : List Int)).length cv, .agg (cdA ((0, 0))), .bool false], .tuple #[.slice av (([] : List Int)).length cv, .agg (cdA ((0, 0))), .bool false], v9, v10, v11, v12, v13], ?_, v0, v1, v2, v3, v4, v5, v6, .tuple #[.slice av (([] : List Int)).length cv, .agg (cdA ((0, 0))), .bool false], .tuple #[.slice av (([] : List Int)).length cv, .agg (cdA ((0, 0))), .bool false], v9, v10, v11, v12, v13, av, cv, rfl, ⟨H.bel, (by have h := H.f0; simpa [doneSet] using h), (by have h := H.f1; simpa [doneSet] using h), (by have h := H.f2; simpa [doneSet] using h), (by have h := H.f3; simpa [doneSet] using h), (by have h := H.f4; simpa [doneSet] using h), (by have h := H.f5; simpa [doneSet] using h), (by have h := H.f6; simpa [doneSet] using h), (fun _ => rfl), (fun _ => rfl), (by have h := H.f9; simpa [doneSet] using h), (by have h := H.f10; simpa [doneSet] using h), (by have h := H.f11; simpa [doneSet] using h), (by have h := H.f12; simpa [doneSet] using h), (by have h := H.f13; simpa [doneSet] using h), (by have h := H.o7; simpa [doneSet] using h), (fun _ => by simpa [doneSet] using h7), (by have h := H.g9_7; simpa [doneSet] using h), (by have h := H.g12_7; simpa [doneSet] using h)⟩⟩
            simp only [putAll, Act.put, List.setIfInBounds_toArray, List.set_cons_succ, List.set_cons_zero]
            all_goals rfl
          · rintro d vs W ⟨v0, v1, v2, v3, v4, v5, v6, v7, v8, v9, v10, v11, v12, v13, av, cv, rfl, H⟩ hn hd
            simp only [putAll, Act.put, List.setIfInBounds_toArray, List.set_cons_succ, List.set_cons_zero]
            have h8 : d 8 = true := hd { on := 8, ground := .data } (by simp) rfl
            have h7 := H.g8_7 h8
            obtain rfl := H.f8 h8
            have HH1 : Hid (Rm (WQ.drew) (g) (b) (off) (L) (cap') (p.x) (k0.f) (([] : List Int)) ((0, 0)) (false) d W v0 v1 v2 v3 v4 v5 v6 v7 (.tuple #[.slice av (([] : List Int)).length cv, .agg (cdA ((0, 0))), .bool false]) v9 v10 v11 v12 v13 av cv) := H
            clear H
            have HHN : Hid (d 9 = false) := hn
            have HHD : Hid (d 8 = true) := h8
            clear hd hn h8
            go_wp2
            have H0 := HH1.out
            have H := HH1.out
            have hn := HHN.out
            have h8 := HHD.out
            refine ⟨rfl, [v0, v1, v2, v3, v4, v5, v6, v7, .tuple #[.slice av (([] : List Int)).length cv, .agg (cdA ((0, 0))), .bool false], .slice av (([] : List Int)).length cv, v10, v11, v12, v13], ?_, v0, v1, v2, v3, v4, v5, v6, v7, .tuple #[.slice av (([] : List Int)).length cv, .agg (cdA ((0, 0))), .bool false], .slice av (([] : List Int)).length cv, v10, v11, v12, v13, av, cv, rfl, ⟨H.bel, (by have h := H.f0; simpa [doneSet] using h), (by have h := H.f1; simpa [doneSet] using h), (by have h := H.f2; simpa [doneSet] using h), (by have h := H.f3; simpa [doneSet] using h), (by have h := H.f4; simpa [doneSet] using h), (by have h := H.f5; simpa [doneSet] using h), (by have h := H.f6; simpa [doneSet] using h), (by have h := H.f7; simpa [doneSet] using h), (fun _ => rfl), (fun _ => rfl), (by have h := H.f10; simpa [doneSet] using h), (by have h := H.f11; simpa [doneSet] using h), (by have h := H.f12; simpa [doneSet] using h), (by have h := H.f13; simpa [doneSet] using h), (by have h := H.o7; simpa [doneSet] using h), (by have h := H.g8_7; simpa [doneSet] using h), (fun _ => by simpa [doneSet] using h7), (by have h := H.g12_7; simpa [doneSet] using h)⟩⟩
            simp only [putAll, Act.put, List.setIfInBounds_toArray, List.set_cons_succ, List.set_cons_zero]
            all_goals rfl
          · rintro d vs W ⟨v0, v1, v2, v3, v4, v5, v6, v7, v8, v9, v10, v11, v12, v13, av, cv, rfl, H⟩ hn hd
            simp only [putAll, Act.put, List.setIfInBounds_toArray, List.set_cons_succ, List.set_cons_zero]
            have h8 : d 8 = true := hd { on := 8, ground := .data } (by simp) rfl
            obtain rfl := H.f8 h8
            have HH1 : Hid (Rm (WQ.drew) (g) (b) (off) (L) (cap') (p.x) (k0.f) (([] : List Int)) ((0, 0)) (false) d W v0 v1 v2 v3 v4 v5 v6 v7 (.tuple #[.slice av (([] : List Int)).length cv, .agg (cdA ((0, 0))), .bool false]) v9 v10 v11 v12 v13 av cv) := H
            clear H
            have HHN : Hid (d 10 = false) := hn
            have HHD : Hid (d 8 = true) := h8
            clear hd hn h8
            go_wp2
            have H0 := HH1.out
            have H := HH1.out
            have hn := HHN.out
            have h8 := HHD.out
            refine ⟨rfl, [v0, v1, v2, v3, v4, v5, v6, v7, .tuple #[.slice av (([] : List Int)).length cv, .agg (cdA ((0, 0))), .bool false], v9, .agg (cdA ((0, 0))), v11, v12, v13], ?_, v0, v1, v2, v3, v4, v5, v6, v7, .tuple #[.slice av (([] : List Int)).length cv, .agg (cdA ((0, 0))), .bool false], v9, .agg (cdA ((0, 0))), v11, v12, v13, av, cv, rfl, ⟨H.bel, (by have h := H.f0; simpa [doneSet] using h), (by have h := H.f1; simpa [doneSet] using h), (by have h := H.f2; simpa [doneSet] using h), (by have h := H.f3; simpa [doneSet] using h), (by have h := H.f4; simpa [doneSet] using h), (by have h := H.f5; simpa [doneSet] using h), (by have h := H.f6; simpa [doneSet] using h), (by have h := H.f7; simpa [doneSet] using h), (fun _ => rfl), (by have h := H.f9; simpa [doneSet] using h), (fun _ => rfl), (by have h := H.f11; simpa [doneSet] using h), (by have h := H.f12; simpa [doneSet] using h), (by have h := H.f13; simpa [doneSet] using h), (by have h := H.o7; simpa [doneSet] using h), (by have h := H.g8_7; simpa [doneSet] using h), (by have h := H.g9_7; simpa [doneSet] using h), (by have h := H.g12_7; simpa [doneSet] using h)⟩⟩
            simp only [putAll, Act.put, List.setIfInBounds_toArray, List.set_cons_succ, List.set_cons_zero]
            all_goals rfl
          · rintro d vs W ⟨v0, v1, v2, v3, v4, v5, v6, v7, v8, v9, v10, v11, v12, v13, av, cv, rfl, H⟩ hn hd
            simp only [putAll, Act.put, List.setIfInBounds_toArray, List.set_cons_succ, List.set_cons_zero]
            have h8 : d 8 = true := hd { on := 8, ground := .data } (by simp) rfl
            obtain rfl := H.f8 h8
            have HH1 : Hid (Rm (WQ.drew) (g) (b) (off) (L) (cap') (p.x) (k0.f) (([] : List Int)) ((0, 0)) (false) d W v0 v1 v2 v3 v4 v5 v6 v7 (.tuple #[.slice av (([] : List Int)).length cv, .agg (cdA ((0, 0))), .bool false]) v9 v10 v11 v12 v13 av cv) := H
            clear H
            have HHN : Hid (d 11 = false) := hn
            have HHD : Hid (d 8 = true) := h8
            clear hd hn h8
            go_wp2
            have H0 := HH1.out
            have H := HH1.out
            have hn := HHN.out
            have h8 := HHD.out
            refine ⟨rfl, [v0, v1, v2, v3, v4, v5, v6, v7, .tuple #[.slice av (([] : List Int)).length cv, .agg (cdA ((0, 0))), .bool false], v9, v10, .bool false, v12, v13], ?_, v0, v1, v2, v3, v4, v5, v6, v7, .tuple #[.slice av (([] : List Int)).length cv, .agg (cdA ((0, 0))), .bool false], v9, v10, .bool false, v12, v13, av, cv, rfl, ⟨H.bel, (by have h := H.f0; simpa [doneSet] using h), (by have h := H.f1; simpa [doneSet] using h), (by have h := H.f2; simpa [doneSet] using h), (by have h := H.f3; simpa [doneSet] using h), (by have h := H.f4; simpa [doneSet] using h), (by have h := H.f5; simpa [doneSet] using h), (by have h := H.f6; simpa [doneSet] using h), (by have h := H.f7; simpa [doneSet] using h), (fun _ => rfl), (by have h := H.f9; simpa [doneSet] using h), (by have h := H.f10; simpa [doneSet] using h), (fun _ => rfl), (by have h := H.f12; simpa [doneSet] using h), (by have h := H.f13; simpa [doneSet] using h), (by have h := H.o7; simpa [doneSet] using h), (by have h := H.g8_7; simpa [doneSet] using h), (by have h := H.g9_7; simpa [doneSet] using h), (by have h := H.g12_7; simpa [doneSet] using h)⟩⟩
            simp only [putAll, Act.put, List.setIfInBounds_toArray, List.set_cons_succ, List.set_cons_zero]
            all_goals rfl
          · rintro d vs W ⟨v0, v1, v2, v3, v4, v5, v6, v7, v8, v9, v10, v11, v12, v13, av, cv, rfl, H⟩ hn hd
            simp only [putAll, Act.put, List.setIfInBounds_toArray, List.set_cons_succ, List.set_cons_zero]
            have h9 : d 9 = true := hd { on := 9, ground := .data } (by simp) rfl
            have h7 := H.g9_7 h9
            obtain rfl := H.f9 h9
            have HH1 : Hid (Rm (WQ.drew) (g) (b) (off) (L) (cap') (p.x) (k0.f) (([] : List Int)) ((0, 0)) (false) d W v0 v1 v2 v3 v4 v5 v6 v7 v8 (.slice av (([] : List Int)).length cv) v10 v11 v12 v13 av cv) := H
            clear H
            have HHN : Hid (d 12 = false) := hn
            have HHD : Hid (d 9 = true) := h9
            clear hd hn h9
            go_wp2
            have H0 := HH1.out
            have H := HH1.out
            have hn := HHN.out
            have h9 := HHD.out
            refine ⟨rfl, [v0, v1, v2, v3, v4, v5, v6, v7, v8, .slice av (([] : List Int)).length cv, v10, v11, .slice av (([] : List Int)).length cv, v13], ?_, v0, v1, v2, v3, v4, v5, v6, v7, v8, .slice av (([] : List Int)).length cv, v10, v11, .slice av (([] : List Int)).length cv, v13, av, cv, rfl, ⟨H.bel, (by have h := H.f0; simpa [doneSet] using h), (by have h := H.f1; simpa [doneSet] using h), (by have h := H.f2; simpa [doneSet] using h), (by have h := H.f3; simpa [doneSet] using h), (by have h := H.f4; simpa [doneSet] using h), (by have h := H.f5; simpa [doneSet] using h), (by have h := H.f6; simpa [doneSet] using h), (by have h := H.f7; simpa [doneSet] using h), (by have h := H.f8; simpa [doneSet] using h), (fun _ => rfl), (by have h := H.f10; simpa [doneSet] using h), (by have h := H.f11; simpa [doneSet] using h), (fun _ => rfl), (by have h := H.f13; simpa [doneSet] using h), (by have h := H.o7; simpa [doneSet] using h), (by have h := H.g8_7; simpa [doneSet] using h), (by have h := H.g9_7; simpa [doneSet] using h), (fun _ => by simpa [doneSet] using h7)⟩⟩
            simp only [putAll, Act.put, List.setIfInBounds_toArray, List.set_cons_succ, List.set_cons_zero]
            all_goals rfl
          · rintro d vs W ⟨v0, v1, v2, v3, v4, v5, v6, v7, v8, v9, v10, v11, v12, v13, av, cv, rfl, H⟩ hn hd
            simp only [putAll, Act.put, List.setIfInBounds_toArray, List.set_cons_succ, List.set_cons_zero]
            have h11 : d 11 = true := hd { on := 11, ground := .data } (by simp) rfl
            obtain rfl := H.f11 h11
            have HH1 : Hid (Rm (WQ.drew) (g) (b) (off) (L) (cap') (p.x) (k0.f) (([] : List Int)) ((0, 0)) (false) d W v0 v1 v2 v3 v4 v5 v6 v7 v8 v9 v10 (.bool false) v12 v13 av cv) := H
            clear H
            have HHN : Hid (d 13 = false) := hn
            have HHD : Hid (d 11 = true) := h11
            clear hd hn h11
            go_wp2
            have H0 := HH1.out
            have H := HH1.out
            have hn := HHN.out
            have h11 := HHD.out
            refine ⟨rfl, [v0, v1, v2, v3, v4, v5, v6, v7, v8, v9, v10, .bool false, v12, .bool false], ?_, v0, v1, v2, v3, v4, v5, v6, v7, v8, v9, v10, .bool false, v12, .bool false, av, cv, rfl, ⟨H.bel, (by have h := H.f0; simpa [doneSet] using h), (by have h := H.f1; simpa [doneSet] using h), (by have h := H.f2; simpa [doneSet] using h), (by have h := H.f3; simpa [doneSet] using h), (by have h := H.f4; simpa [doneSet] using h), (by have h := H.f5; simpa [doneSet] using h), (by have h := H.f6; simpa [doneSet] using h), (by have h := H.f7; simpa [doneSet] using h), (by have h := H.f8; simpa [doneSet] using h), (by have h := H.f9; simpa [doneSet] using h), (by have h := H.f10; simpa [doneSet] using h), (fun _ => rfl), (by have h := H.f12; simpa [doneSet] using h), (fun _ => rfl), (by have h := H.o7; simpa [doneSet] using h), (by have h := H.g8_7; simpa [doneSet] using h), (by have h := H.g9_7; simpa [doneSet] using h), (by have h := H.g12_7; simpa [doneSet] using h)⟩⟩
            simp only [putAll, Act.put, List.setIfInBounds_toArray, List.set_cons_succ, List.set_cons_zero]
            all_goals rfl
          rintro d vs W ⟨v0, v1, v2, v3, v4, v5, v6, v7, v8, v9, v10, v11, v12, v13, av, cv, rfl, H⟩ hn
          obtain rfl := H.f0 (hn 0 (by decide))
          obtain rfl := H.f1 (hn 1 (by decide))
          obtain rfl := H.f2 (hn 2 (by decide))
          obtain rfl := H.f3 (hn 3 (by decide))
          obtain rfl := H.f4 (hn 4 (by decide))
          obtain rfl := H.f5 (hn 5 (by decide))
          obtain rfl := H.f6 (hn 6 (by decide))
          obtain rfl := H.f7 (hn 7 (by decide))
          obtain rfl := H.f8 (hn 8 (by decide))
          obtain rfl := H.f9 (hn 9 (by decide))
          obtain rfl := H.f10 (hn 10 (by decide))
          obtain rfl := H.f11 (hn 11 (by decide))
          obtain rfl := H.f12 (hn 12 (by decide))
          obtain rfl := H.f13 (hn 13 (by decide))
          have BW : Hid (Below WQ.drew.heap.size WQ.drew W) := H.bel
          have OW : Hid (Ow .i64 3 WQ.drew.heap.size W (.slice av ([] : List Int).length cv) ([] : List Int)) := H.o7 (hn 7 (by decide))
          clear H hn CE
          have KW := HPQ.out.drew.below BW.out HPQ.out.lt
          have ZW := HZQ.out.drew.below BW.out HZQ.out.lt
          have BWW : Below w.heap.size w W := belowCall HBQ.out.drew BW.out HBQ.out.size
          have hbL : W2.heap.size ≤ b := (HOQ.out.lt b rfl).1
          have hs2 := HS2.out
          have hgw := HGG.out
          have hneb : ¬ b = g := by omega
          have y5 := KW.cell 5
          simp at y5
          have fy5 := KW.frozen 5
          obtain ⟨A, C, hAC, HRW⟩ : ∃ A C, (∀ u, (if cap' = 1 then u = Value.slice (some ⟨b, off, none⟩) (L - 1) 0 else u = Value.slice (some ⟨b, off + 18, none⟩) (L - 1) (cap' - 1)) → u = Value.slice (some A) (L - 1) C) ∧ A.block = b ∧ Rg 18 pkC W (.slice (some A) (L - 1) C) r0 := by
            have hLr : L - 1 = r0.length := by have := HL.out; simp at this; omega
            by_cases hc1 : cap' = 1
            · refine ⟨⟨b, off, none⟩, 0, fun u hu => by rw [if_pos hc1] at hu; exact hu, rfl, ?_⟩
              have hr0 : r0 = [] := by have := HSC.out; exact List.eq_nil_of_length_eq_zero (by omega)
              rw [hLr]
              exact ⟨_, 0, rfl, by simp [hr0], by unfold maxLen; omega, .inl hr0⟩
            · refine ⟨⟨b, off + 18, none⟩, cap' - 1, fun u hu => by rw [if_neg hc1] at hu; exact hu, rfl, ?_⟩
              have hrd := (HOQ.out.rd pkC_len).below (w' := W) ⟨BW.out.os, BW.out.tape, BW.out.output, BW.out.size, BW.out.block⟩
              obtain ⟨_, _, e, t1, t2, t3⟩ := hrd
              cases e
              rcases t3 with t3 | ⟨b', off', e, h4⟩
              · cases t3
              · cases e
                have := Rg.drop h4 t1 t2 1 (by simp)
                rw [HL.out] at this
                simpa using this
          obtain ⟨hAb, HRW⟩ := HRW
          obtain ⟨S, hS⟩ : ∃ S, Value.slice (some A) (L - 1) C = S := ⟨_, rfl⟩
          rw [hS] at hAC HRW
          have hSb : S.ownBlock = some b := by rw [← hS, ← hAb]; rfl
          obtain ⟨WS, hWS⟩ : ∃ X, W.setCell ⟨g, 5, none⟩ S = X := ⟨_, rfl⟩
          have HPS : Hid (Blk WS g (plA p S) 42) := by rw [← hWS]; exact KW.set 5 _
          have HZS : Hid (Blk WS (g + 1) (plA ⟨0, 0, 0, 0, 0⟩ (.slice none 0 0)) 42) := by rw [← hWS]; exact ZW.other _ _ (by dsimp only; omega)
          have HBS : Hid (Below w.heap.size w WS) := by rw [← hWS]; exact BWW.setCell (by dsimp only; omega) _
          have HRS : Hid (Rg 18 pkC WS S r0) := by rw [← hWS]; exact rgSet HRW g 5 _ (by rw [hSb]; simpa using hneb)
          have HSB : Hid (S.ownBlock = some b ∧ w.heap.size ≤ b ∧ b < WS.heap.size ∧ ¬ b = g ∧ ¬ b = g + 1) := ⟨hSb, by omega, by rw [← hWS]; have h1 := BW.out.size; have h2 := hbq; simp; exact Nat.lt_of_lt_of_le h2 h1, hneb, by omega⟩
          have HWS : Hid (W.setCell ⟨g, 5, none⟩ S = WS) := hWS
          have HSF : Hid (S = .slice (some A) (L - 1) C) := hS.symm

          clear KW ZW BWW hS hWS HRW hSb hAb
          simp only [putAll, Act.put, List.setIfInBounds_toArray, List.set_cons_succ, List.set_cons_zero]
          have HDR : Hid ((k0 :: r0).drop (pcF (k0 :: r0) (p.n + 1)) = r0) := by show _ = _; rw [pcF_succ HST.out]; simp [hdB, hks]
          have hpc0 : pcF (k0 :: r0) p.n = 0 := pcF_zero HST.out
          have hth : thB (k0 :: r0) p.n = true := by rw [thB_hd HST.out]; simp [hdB, hks]
          have HLV : Hid (lvF (k0 :: r0) p.n p.x = (fdL p.x 30, true)) := by
            show _ = _
            unfold lvF
            simp only [hpc0, List.getElem_cons_zero]
            rw [dif_neg (fun h => HCO.out h.2.2)]
          have hWS' := HWS.out
          simp only [List.length_nil]
          by_cases hc1 : cap' = 1
          · have hAC' := hAC _ (by rw [if_pos hc1])
            clear hAC
            have hWS2 : W.setCell ⟨g, 5, none⟩ (.slice (some ⟨b, off, none⟩) (L - 1) 0) = WS := by rw [hAC']; exact hWS'
            clear hAC' hWS'
            have HFB : Hid (w.heap.size ≤ WS.heap.size ∧ g + 1 < WS.heap.size) := ⟨HBS.out.size, HZS.out.lt⟩
            have HO0 : Hid (Ow .i64 3 WS.heap.size (WS.alloc (Obj.cells #[] 3)) (.slice (some ⟨WS.heap.size, 0, none⟩) 0 0) (fdL p.x 0)) := Ow.empty .i64 3 _ WS (Nat.le_refl _)
            have HB0 : Hid (Below WS.heap.size WS (WS.alloc (Obj.cells #[] 3))) := (Below.refl _ _).alloc (Nat.le_refl _) _
            go_wp2
            clear hc1
            go_loopw [5, 7] (fun o i wr => ∃ (j : Nat) (o' : Value), j ≤ 30 ∧ i = .int .i64 ((j : Int) + 1) ∧ o' = o ∧ Hid (Ow .i64 3 WS.heap.size wr o' (fdL p.x j)) ∧ Hid (Below WS.heap.size WS wr)) (fun _ i _ => 31 - (intOf i).toNat)
            case atStart => exact ⟨0, _, by omega, rfl, rfl, HO0.out, HB0.out⟩
            case round =>
              obtain ⟨j, o', hj, rfl, ho', HO, HB⟩ := hrel
              subst ho'
              clear HO0 HB0
              have KW := HPS.out.below HB.out HPS.out.lt
              by_cases hlt : j < 30
              case pos =>
                have hbd := fd_bd p.x HPX.out j hlt
                have y4 := KW.cell 4
                simp at y4
                have e29 : (30 : Int) - ((j : Int) + 1) = 29 - (j : Int) := by omega
                have hb1 : -1000000 ≤ p.x * (30 - ((j : Int) + 1)) := by rw [e29]; exact hbd.1
                have hb2 : p.x * (30 - ((j : Int) + 1)) ≤ 1000000 := by rw [e29]; exact hbd.2
                have HFD : Hid (fdL p.x (j + 1) = fdL p.x j ++ [(p.x * (30 - ((j : Int) + 1))).tdiv 30]) := by rw [e29]; rfl
                have HSZ : Hid (WS.heap.size ≤ wr.heap.size) := HB.out.size
                have HLE : Hid ((fdL p.x j).length = j) := fdL_len _ _
                have hlt2 : (j : Int) + 1 ≤ 30 := by omega
                clear hbd e29 KW
                go_wp2_with (at_builtin; refine appI rfl (.tmp 63) (.tmp 70) rfl WS.heap.size _ (fdL p.x j) rfl (HO.out.alloc _) wr.heap.size ((p.x * (30 - ((j : Int) + 1))).tdiv 30) rfl (by simp) (by have := HLE.out; omega) (by have := HSZ.out; simp; omega) ?_)
                intro v6 w6 ho hb
                have HO6 : Hid (Ow .i64 3 WS.heap.size w6 v6 (fdL p.x (j + 1))) := by rw [HFD.out]; exact ho
                have HB6 : Hid (Below WS.heap.size WS w6) := (HB.out.alloc HSZ.out _).trans hb
                clear ho hb HO HB hb1 hb2
                go_wp2
                go_roundw
                case rel => exact ⟨j + 1, _, by omega, by go_num, rfl, HO6.out, HB6.out⟩
                case measure => simp [intOf]; omega
              case neg =>
                obtain rfl : j = 30 := by omega
                obtain ⟨bu, cu, hu, hbu, hcu⟩ : ∃ bu cu, o' = .slice (some ⟨bu, 0, none⟩) 30 cu ∧ WS.heap.size ≤ bu ∧ wr.cell? ⟨bu, 29, none⟩ = some (.int .i64 ((fdL p.x 30).getD 29 0)) := by
                  have h0 : wr.ownsRow WS.heap.size 3 1 o' (fdL p.x 30).length ((fdL p.x 30).map (Value.int .i64)) := HO.out
                  rcases HO.out.2 with ⟨-, hz⟩ | ⟨k, c, cur, rfl, hb, -⟩
                  · rw [fdL_len] at hz; cases hz
                  · rw [fdL_len] at h0 ⊢
                    refine ⟨k, c, rfl, hb, ?_⟩
                    rw [h0.cellAt 29 (by omega)]
                    simp [List.getElem?_eq_getElem (show 29 < (fdL p.x 30).length by rw [fdL_len]; omega)]
                subst hu
                obtain ⟨y, hy⟩ : ∃ y, (fdL p.x 30).getD 29 0 = y := ⟨_, rfl⟩
                have HY : Hid ((fdL p.x 30).getD 29 0 = y) := hy
                rw [hy] at hcu
                have hne1 : ¬ bu = g := by have := HFB.out; omega
                have hne2 : ¬ g = bu := fun e => hne1 e.symm
                have Z9 := HZS.out.below HB.out HZS.out.lt
                have B9 : Below w.heap.size w wr := belowCall HBS.out HB.out HBS.out.size
                have O9 : Rg 18 pkC wr S r0 := HRS.out.below HB.out
                have hgw := HGG.out
                have hfb := HFB.out
                have x0 := KW.cell 0
                have x3 := KW.cell 3
                have x4 := KW.cell 4
                simp at x0 x3 x4
                have f0 := KW.frozen 0
                have f3 := KW.frozen 3
                have f4 := KW.frozen 4
                have hpn0 := HPN.out.1.1
                have hpn1 := HPN.out.1.2
                have hpg0 := HPN.out.2.1
                have hpg1 := HPN.out.2.2
                have hs2 := HS2.out
                obtain ⟨WT, hWT⟩ : ∃ W, ((wr.setCell ⟨g, 3, none⟩ (.int .i64 (p.g + 1))).setCell ⟨g, 0, none⟩ (.int .i64 (p.n + 1))).setCell ⟨g, 4, none⟩ (.int .i64 y) = W := ⟨_, rfl⟩
                have HPT : Hid (Blk WT g (plA ⟨p.n + 1, p.d, p.l, p.g + 1, y⟩ S) 42) := by rw [← hWT]; exact ((KW.set 3 _).set 0 _).set 4 _
                have HZT : Hid (Blk WT (g + 1) (plA ⟨0, 0, 0, 0, 0⟩ (.slice none 0 0)) 42) := by rw [← hWT]; exact ((Z9.other ⟨g, 3, none⟩ _ (by dsimp only; omega)).other ⟨g, 0, none⟩ _ (by dsimp only; omega)).other ⟨g, 4, none⟩ _ (by dsimp only; omega)
                have HBT : Hid (Below w.heap.size w WT) := by rw [← hWT]; exact ((B9.setCell (by dsimp only; omega) _).setCell (by dsimp only; omega) _).setCell (by dsimp only; omega) _
                have HOT : Hid (Ow .i64 3 WS.heap.size WT (.slice (some ⟨bu, 0, none⟩) 30 cu) (fdL p.x 30)) := by rw [← hWT]; exact ownsRow_setCell_below (a := ⟨g, 4, none⟩) (ownsRow_setCell_below (a := ⟨g, 0, none⟩) (ownsRow_setCell_below (a := ⟨g, 3, none⟩) HO.out (by dsimp only; omega) _) (by dsimp only; omega) _) (by dsimp only; omega) _
                have hSg : S.ownBlock ≠ some g := by rw [HSB.out.1]; simpa using HSB.out.2.2.2.1
                have hSg1 : S.ownBlock ≠ some (g + 1) := by rw [HSB.out.1]; simpa using HSB.out.2.2.2.2
                have HQT : Hid (Rg 18 pkC WT S r0) := by rw [← hWT]; exact rgSet (rgSet (rgSet O9 g 3 _ hSg) g 0 _ hSg) g 4 _ hSg
                have HBB : Hid (b < WT.heap.size) := by show b < WT.heap.size; rw [← hWT]; have h1 := HSB.out.2.2.1; have h2 := HB.out.size; simp; omega
                have HWT : Hid (((wr.setCell ⟨g, 3, none⟩ (.int .i64 (p.g + 1))).setCell ⟨g, 0, none⟩ (.int .i64 (p.n + 1))).setCell ⟨g, 4, none⟩ (.int .i64 y) = WT) := hWT
                clear Z9 B9 O9 hWT KW HO HB
                go_wp2_with (first | (rw [HWT.out]; refine wpList_load_row rfl 42 _ rfl g rfl 42 (plA ⟨p.n + 1, p.d, p.l, p.g + 1, y⟩ S) (0, 0) _ HPT.out Tryd.underlying42 rfl (by kernel_rfl) ?_) | refine wpList_store_row rfl 42 _ _ rfl (g + 1) (plA ⟨p.n + 1, p.d, p.l, p.g + 1, y⟩ S) rfl rfl 42 (plA ⟨0, 0, 0, 0, 0⟩ (.slice none 0 0)) HZT.out (by kernel_rfl) rfl (by rw [HSF.out]; simp [Value.oneCell']) ?_)
                have hpy : pyF p (k0 :: r0) = ⟨p.n + 1, p.d, p.l, p.g + 1, y⟩ := by
                  unfold pyF; rw [HLV.out]
                  show (⟨p.n + 1, p.d, p.l, p.g + 1, (fdL p.x 30).getD 29 0⟩ : Pl) = _
                  rw [HY.out]
                have hl : (lvF (k0 :: r0) p.n p.x).1 = fdL p.x 30 := by rw [HLV.out]
                have hq := rgRow HQT.out (g + 1) (plA ⟨p.n + 1, p.d, p.l, p.g + 1, y⟩ S) hSg1
                exact bodyPost_ret (results_P3 rfl _ _ (g + 1) ⟨p.n + 1, p.d, p.l, p.g + 1, y⟩ S _ _ rfl rfl rfl (HZT.out.row _)) rfl ⟨fun _ => ⟨_, _, by rw [hpy]; rfl, by rw [HDR.out]; exact hq, fun k hk => by
                  have h7 := HSB.out
                  rw [h7.1] at hk
                  obtain rfl : b = k := by simpa using hk
                  exact ⟨h7.2.1, by have := HBB.out; simpa using this⟩, by rw [hl]; exact Ow.mono (Ow.putRow HOT.out (by omega)) (by omega), belowRow HBT.out _ (by omega) _⟩, fun h => absurd HPY.out h⟩
          · have hAC' := hAC _ (by rw [if_neg hc1])
            clear hAC
            have hWS2 : W.setCell ⟨g, 5, none⟩ (.slice (some ⟨b, off + 18, none⟩) (L - 1) (cap' - 1)) = WS := by rw [hAC']; exact hWS'
            clear hAC' hWS'
            have HFB : Hid (w.heap.size ≤ WS.heap.size ∧ g + 1 < WS.heap.size) := ⟨HBS.out.size, HZS.out.lt⟩
            have HO0 : Hid (Ow .i64 3 WS.heap.size (WS.alloc (Obj.cells #[] 3)) (.slice (some ⟨WS.heap.size, 0, none⟩) 0 0) (fdL p.x 0)) := Ow.empty .i64 3 _ WS (Nat.le_refl _)
            have HB0 : Hid (Below WS.heap.size WS (WS.alloc (Obj.cells #[] 3))) := (Below.refl _ _).alloc (Nat.le_refl _) _
            go_wp2
            clear hc1
            go_loopw [5, 7] (fun o i wr => ∃ (j : Nat) (o' : Value), j ≤ 30 ∧ i = .int .i64 ((j : Int) + 1) ∧ o' = o ∧ Hid (Ow .i64 3 WS.heap.size wr o' (fdL p.x j)) ∧ Hid (Below WS.heap.size WS wr)) (fun _ i _ => 31 - (intOf i).toNat)
            case atStart => exact ⟨0, _, by omega, rfl, rfl, HO0.out, HB0.out⟩
            case round =>
              obtain ⟨j, o', hj, rfl, ho', HO, HB⟩ := hrel
              subst ho'
              clear HO0 HB0
              have KW := HPS.out.below HB.out HPS.out.lt
              by_cases hlt : j < 30
              case pos =>
                have hbd := fd_bd p.x HPX.out j hlt
                have y4 := KW.cell 4
                simp at y4
                have e29 : (30 : Int) - ((j : Int) + 1) = 29 - (j : Int) := by omega
                have hb1 : -1000000 ≤ p.x * (30 - ((j : Int) + 1)) := by rw [e29]; exact hbd.1
                have hb2 : p.x * (30 - ((j : Int) + 1)) ≤ 1000000 := by rw [e29]; exact hbd.2
                have HFD : Hid (fdL p.x (j + 1) = fdL p.x j ++ [(p.x * (30 - ((j : Int) + 1))).tdiv 30]) := by rw [e29]; rfl
                have HSZ : Hid (WS.heap.size ≤ wr.heap.size) := HB.out.size
                have HLE : Hid ((fdL p.x j).length = j) := fdL_len _ _
                have hlt2 : (j : Int) + 1 ≤ 30 := by omega
                clear hbd e29 KW
                go_wp2_with (at_builtin; refine appI rfl (.tmp 63) (.tmp 70) rfl WS.heap.size _ (fdL p.x j) rfl (HO.out.alloc _) wr.heap.size ((p.x * (30 - ((j : Int) + 1))).tdiv 30) rfl (by simp) (by have := HLE.out; omega) (by have := HSZ.out; simp; omega) ?_)
                intro v6 w6 ho hb
                have HO6 : Hid (Ow .i64 3 WS.heap.size w6 v6 (fdL p.x (j + 1))) := by rw [HFD.out]; exact ho
                have HB6 : Hid (Below WS.heap.size WS w6) := (HB.out.alloc HSZ.out _).trans hb
                clear ho hb HO HB hb1 hb2
                go_wp2
                go_roundw
                case rel => exact ⟨j + 1, _, by omega, by go_num, rfl, HO6.out, HB6.out⟩
                case measure => simp [intOf]; omega
              case neg =>
                obtain rfl : j = 30 := by omega
                obtain ⟨bu, cu, hu, hbu, hcu⟩ : ∃ bu cu, o' = .slice (some ⟨bu, 0, none⟩) 30 cu ∧ WS.heap.size ≤ bu ∧ wr.cell? ⟨bu, 29, none⟩ = some (.int .i64 ((fdL p.x 30).getD 29 0)) := by
                  have h0 : wr.ownsRow WS.heap.size 3 1 o' (fdL p.x 30).length ((fdL p.x 30).map (Value.int .i64)) := HO.out
                  rcases HO.out.2 with ⟨-, hz⟩ | ⟨k, c, cur, rfl, hb, -⟩
                  · rw [fdL_len] at hz; cases hz
                  · rw [fdL_len] at h0 ⊢
                    refine ⟨k, c, rfl, hb, ?_⟩
                    rw [h0.cellAt 29 (by omega)]
                    simp [List.getElem?_eq_getElem (show 29 < (fdL p.x 30).length by rw [fdL_len]; omega)]
                subst hu
                obtain ⟨y, hy⟩ : ∃ y, (fdL p.x 30).getD 29 0 = y := ⟨_, rfl⟩
                have HY : Hid ((fdL p.x 30).getD 29 0 = y) := hy
                rw [hy] at hcu
                have hne1 : ¬ bu = g := by have := HFB.out; omega
                have hne2 : ¬ g = bu := fun e => hne1 e.symm
                have Z9 := HZS.out.below HB.out HZS.out.lt
                have B9 : Below w.heap.size w wr := belowCall HBS.out HB.out HBS.out.size
                have O9 : Rg 18 pkC wr S r0 := HRS.out.below HB.out
                have hgw := HGG.out
                have hfb := HFB.out
                have x0 := KW.cell 0
                have x3 := KW.cell 3
                have x4 := KW.cell 4
                simp at x0 x3 x4
                have f0 := KW.frozen 0
                have f3 := KW.frozen 3
                have f4 := KW.frozen 4
                have hpn0 := HPN.out.1.1
                have hpn1 := HPN.out.1.2
                have hpg0 := HPN.out.2.1
                have hpg1 := HPN.out.2.2
                have hs2 := HS2.out
                obtain ⟨WT, hWT⟩ : ∃ W, ((wr.setCell ⟨g, 3, none⟩ (.int .i64 (p.g + 1))).setCell ⟨g, 0, none⟩ (.int .i64 (p.n + 1))).setCell ⟨g, 4, none⟩ (.int .i64 y) = W := ⟨_, rfl⟩
                have HPT : Hid (Blk WT g (plA ⟨p.n + 1, p.d, p.l, p.g + 1, y⟩ S) 42) := by rw [← hWT]; exact ((KW.set 3 _).set 0 _).set 4 _
                have HZT : Hid (Blk WT (g + 1) (plA ⟨0, 0, 0, 0, 0⟩ (.slice none 0 0)) 42) := by rw [← hWT]; exact ((Z9.other ⟨g, 3, none⟩ _ (by dsimp only; omega)).other ⟨g, 0, none⟩ _ (by dsimp only; omega)).other ⟨g, 4, none⟩ _ (by dsimp only; omega)
                have HBT : Hid (Below w.heap.size w WT) := by rw [← hWT]; exact ((B9.setCell (by dsimp only; omega) _).setCell (by dsimp only; omega) _).setCell (by dsimp only; omega) _
                have HOT : Hid (Ow .i64 3 WS.heap.size WT (.slice (some ⟨bu, 0, none⟩) 30 cu) (fdL p.x 30)) := by rw [← hWT]; exact ownsRow_setCell_below (a := ⟨g, 4, none⟩) (ownsRow_setCell_below (a := ⟨g, 0, none⟩) (ownsRow_setCell_below (a := ⟨g, 3, none⟩) HO.out (by dsimp only; omega) _) (by dsimp only; omega) _) (by dsimp only; omega) _
                have hSg : S.ownBlock ≠ some g := by rw [HSB.out.1]; simpa using HSB.out.2.2.2.1
                have hSg1 : S.ownBlock ≠ some (g + 1) := by rw [HSB.out.1]; simpa using HSB.out.2.2.2.2
                have HQT : Hid (Rg 18 pkC WT S r0) := by rw [← hWT]; exact rgSet (rgSet (rgSet O9 g 3 _ hSg) g 0 _ hSg) g 4 _ hSg
                have HBB : Hid (b < WT.heap.size) := by show b < WT.heap.size; rw [← hWT]; have h1 := HSB.out.2.2.1; have h2 := HB.out.size; simp; omega
                have HWT : Hid (((wr.setCell ⟨g, 3, none⟩ (.int .i64 (p.g + 1))).setCell ⟨g, 0, none⟩ (.int .i64 (p.n + 1))).setCell ⟨g, 4, none⟩ (.int .i64 y) = WT) := hWT
                clear Z9 B9 O9 hWT KW HO HB
                go_wp2_with (first | (rw [HWT.out]; refine wpList_load_row rfl 42 _ rfl g rfl 42 (plA ⟨p.n + 1, p.d, p.l, p.g + 1, y⟩ S) (0, 0) _ HPT.out Tryd.underlying42 rfl (by kernel_rfl) ?_) | refine wpList_store_row rfl 42 _ _ rfl (g + 1) (plA ⟨p.n + 1, p.d, p.l, p.g + 1, y⟩ S) rfl rfl 42 (plA ⟨0, 0, 0, 0, 0⟩ (.slice none 0 0)) HZT.out (by kernel_rfl) rfl (by rw [HSF.out]; simp [Value.oneCell']) ?_)
                have hpy : pyF p (k0 :: r0) = ⟨p.n + 1, p.d, p.l, p.g + 1, y⟩ := by
                  unfold pyF; rw [HLV.out]
                  show (⟨p.n + 1, p.d, p.l, p.g + 1, (fdL p.x 30).getD 29 0⟩ : Pl) = _
                  rw [HY.out]
                have hl : (lvF (k0 :: r0) p.n p.x).1 = fdL p.x 30 := by rw [HLV.out]
                have hq := rgRow HQT.out (g + 1) (plA ⟨p.n + 1, p.d, p.l, p.g + 1, y⟩ S) hSg1
                exact bodyPost_ret (results_P3 rfl _ _ (g + 1) ⟨p.n + 1, p.d, p.l, p.g + 1, y⟩ S _ _ rfl rfl rfl (HZT.out.row _)) rfl ⟨fun _ => ⟨_, _, by rw [hpy]; rfl, by rw [HDR.out]; exact hq, fun k hk => by
                  have h7 := HSB.out
                  rw [h7.1] at hk
                  obtain rfl : b = k := by simpa using hk
                  exact ⟨h7.2.1, by have := HBB.out; simpa using this⟩, by rw [hl]; exact Ow.mono (Ow.putRow HOT.out (by omega)) (by omega), belowRow HBT.out _ (by omega) _⟩, fun h => absurd HPY.out h⟩
      · have hkb : (k0.s == p.n) = false := by simpa using hks
        have HLV : Hid (lvF (k0 :: r0) p.n p.x = (fdL p.x 30, true)) := by
          show _ = _
          unfold lvF; rw [dif_neg (fun h => by have h2 := h.1; rw [thB_hd HST.out] at h2; simp [hdB, hks] at h2)]
        have HDR : Hid ((k0 :: r0).drop (pcF (k0 :: r0) (p.n + 1)) = k0 :: r0) := by show _ = _; rw [pcF_succ HST.out]; simp [hdB, hks]
        go_quiet (fail)
        go_wp2
        obtain ⟨WB, hWB⟩ : ∃ W, WA.drewN nq = W := ⟨_, rfl⟩
        have hsz : WA.heap.size = WB.heap.size := by rw [← hWB]; simp
        rw [hWB, hsz]
        clear hsz
        have FP : Hid (Blk WB g (plA p (.slice (some ⟨b, off, none⟩) L cap')) 42) := by rw [← hWB]; exact HPA.out.drewN nq
        have FZ : Hid (Blk WB (g + 1) (plA ⟨0, 0, 0, 0, 0⟩ (.slice none 0 0)) 42) := by rw [← hWB]; exact HZA.out.drewN nq
        have FB : Hid (Below w.heap.size w WB) := by rw [← hWB]; exact below_drewN HBA.out _
        have FO : Hid (Og 18 pkC 40 W2.heap.size WB (.slice (some ⟨b, off, none⟩) L cap') (k0 :: r0)) := by rw [← hWB]; exact HOA.out.below (below_drewN (Below.refl _ _) _)
        clear hWB HPA HZA HBA HOA x0 x3 x4 x5
        have HFB : Hid (w.heap.size ≤ WB.heap.size ∧ g + 1 < WB.heap.size) := ⟨FB.out.size, FZ.out.lt⟩
        have HO0 : Hid (Ow .i64 3 WB.heap.size (WB.alloc (Obj.cells #[] 3)) (.slice (some ⟨WB.heap.size, 0, none⟩) 0 0) (fdL p.x 0)) := Ow.empty .i64 3 _ WB (Nat.le_refl _)
        have HB0 : Hid (Below WB.heap.size WB (WB.alloc (Obj.cells #[] 3))) := (Below.refl _ _).alloc (Nat.le_refl _) _
        go_loopw [5, 7] (fun o i wr => ∃ (j : Nat) (o' : Value), j ≤ 30 ∧ i = .int .i64 ((j : Int) + 1) ∧ o' = o ∧ Hid (Ow .i64 3 WB.heap.size wr o' (fdL p.x j)) ∧ Hid (Below WB.heap.size WB wr)) (fun _ i _ => 31 - (intOf i).toNat)
        case atStart => exact ⟨0, _, by omega, rfl, rfl, HO0.out, HB0.out⟩
        case round =>
          obtain ⟨j, o', hj, rfl, ho', HO, HB⟩ := hrel
          subst ho'
          clear HO0 HB0
          have KW := FP.out.below HB.out FP.out.lt
          by_cases hlt : j < 30
          case pos =>
            have hbd := fd_bd p.x HPX.out j hlt
            have y4 := KW.cell 4
            simp at y4
            have e29 : (30 : Int) - ((j : Int) + 1) = 29 - (j : Int) := by omega
            have hb1 : -1000000 ≤ p.x * (30 - ((j : Int) + 1)) := by rw [e29]; exact hbd.1
            have hb2 : p.x * (30 - ((j : Int) + 1)) ≤ 1000000 := by rw [e29]; exact hbd.2
            have HFD : Hid (fdL p.x (j + 1) = fdL p.x j ++ [(p.x * (30 - ((j : Int) + 1))).tdiv 30]) := by rw [e29]; rfl
            have HSZ : Hid (WB.heap.size ≤ wr.heap.size) := HB.out.size
            have HLE : Hid ((fdL p.x j).length = j) := fdL_len _ _
            have hlt2 : (j : Int) + 1 ≤ 30 := by omega
            clear hbd e29 KW
            go_wp2_with (at_builtin; refine appI rfl (.tmp 63) (.tmp 70) rfl WB.heap.size _ (fdL p.x j) rfl (HO.out.alloc _) wr.heap.size ((p.x * (30 - ((j : Int) + 1))).tdiv 30) rfl (by simp) (by have := HLE.out; omega) (by have := HSZ.out; simp; omega) ?_)
            intro v6 w6 ho hb
            have HO6 : Hid (Ow .i64 3 WB.heap.size w6 v6 (fdL p.x (j + 1))) := by rw [HFD.out]; exact ho
            have HB6 : Hid (Below WB.heap.size WB w6) := (HB.out.alloc HSZ.out _).trans hb
            clear ho hb HO HB hb1 hb2
            go_wp2
            go_roundw
            case rel => exact ⟨j + 1, _, by omega, by go_num, rfl, HO6.out, HB6.out⟩
            case measure => simp [intOf]; omega
          case neg =>
            obtain rfl : j = 30 := by omega
            obtain ⟨bu, cu, hu, hbu, hcu⟩ : ∃ bu cu, o' = .slice (some ⟨bu, 0, none⟩) 30 cu ∧ WB.heap.size ≤ bu ∧ wr.cell? ⟨bu, 29, none⟩ = some (.int .i64 ((fdL p.x 30).getD 29 0)) := by
              have h0 : wr.ownsRow WB.heap.size 3 1 o' (fdL p.x 30).length ((fdL p.x 30).map (Value.int .i64)) := HO.out
              rcases HO.out.2 with ⟨-, hz⟩ | ⟨k, c, cur, rfl, hb, -⟩
              · rw [fdL_len] at hz; cases hz
              · rw [fdL_len] at h0 ⊢
                refine ⟨k, c, rfl, hb, ?_⟩
                rw [h0.cellAt 29 (by omega)]
                simp [List.getElem?_eq_getElem (show 29 < (fdL p.x 30).length by rw [fdL_len]; omega)]
            subst hu
            obtain ⟨y, hy⟩ : ∃ y, (fdL p.x 30).getD 29 0 = y := ⟨_, rfl⟩
            have HY : Hid ((fdL p.x 30).getD 29 0 = y) := hy
            rw [hy] at hcu
            have hne1 : ¬ bu = g := by have := HFB.out; omega
            have hne2 : ¬ g = bu := fun e => hne1 e.symm
            have Z9 := FZ.out.below HB.out FZ.out.lt
            have B9 : Below w.heap.size w wr := belowCall FB.out HB.out FB.out.size
            have O9 := FO.out.below HB.out
            have hgw := HGG.out
            have hfb := HFB.out
            have x0 := KW.cell 0
            have x3 := KW.cell 3
            have x4 := KW.cell 4
            simp at x0 x3 x4
            have f0 := KW.frozen 0
            have f3 := KW.frozen 3
            have f4 := KW.frozen 4
            have hpn0 := HPN.out.1.1
            have hpn1 := HPN.out.1.2
            have hpg0 := HPN.out.2.1
            have hpg1 := HPN.out.2.2
            have hs2 := HS2.out
            obtain ⟨WT, hWT⟩ : ∃ W, ((wr.setCell ⟨g, 3, none⟩ (.int .i64 (p.g + 1))).setCell ⟨g, 0, none⟩ (.int .i64 (p.n + 1))).setCell ⟨g, 4, none⟩ (.int .i64 y) = W := ⟨_, rfl⟩
            have HPT : Hid (Blk WT g (plA ⟨p.n + 1, p.d, p.l, p.g + 1, y⟩ (.slice (some ⟨b, off, none⟩) L cap')) 42) := by rw [← hWT]; exact ((KW.set 3 _).set 0 _).set 4 _
            have HZT : Hid (Blk WT (g + 1) (plA ⟨0, 0, 0, 0, 0⟩ (.slice none 0 0)) 42) := by rw [← hWT]; exact ((Z9.other ⟨g, 3, none⟩ _ (by dsimp only; omega)).other ⟨g, 0, none⟩ _ (by dsimp only; omega)).other ⟨g, 4, none⟩ _ (by dsimp only; omega)
            have HBT : Hid (Below w.heap.size w WT) := by rw [← hWT]; exact ((B9.setCell (by dsimp only; omega) _).setCell (by dsimp only; omega) _).setCell (by dsimp only; omega) _
            have HOT : Hid (Ow .i64 3 WB.heap.size WT (.slice (some ⟨bu, 0, none⟩) 30 cu) (fdL p.x 30)) := by rw [← hWT]; exact ownsRow_setCell_below (a := ⟨g, 4, none⟩) (ownsRow_setCell_below (a := ⟨g, 0, none⟩) (ownsRow_setCell_below (a := ⟨g, 3, none⟩) HO.out (by dsimp only; omega) _) (by dsimp only; omega) _) (by dsimp only; omega) _
            have HQT : Hid (Og 18 pkC 40 W2.heap.size WT (.slice (some ⟨b, off, none⟩) L cap') (k0 :: r0)) := by rw [← hWT]; exact ownsRow_setCell_below (a := ⟨g, 4, none⟩) (ownsRow_setCell_below (a := ⟨g, 0, none⟩) (ownsRow_setCell_below (a := ⟨g, 3, none⟩) O9 (by dsimp only; omega) _) (by dsimp only; omega) _) (by dsimp only; omega) _
            have HWT : Hid (((wr.setCell ⟨g, 3, none⟩ (.int .i64 (p.g + 1))).setCell ⟨g, 0, none⟩ (.int .i64 (p.n + 1))).setCell ⟨g, 4, none⟩ (.int .i64 y) = WT) := hWT
            clear Z9 B9 O9 hWT KW HO HB
            go_wp2_with (first | (rw [HWT.out]; refine wpList_load_row rfl 42 _ rfl g rfl 42 (plA ⟨p.n + 1, p.d, p.l, p.g + 1, y⟩ (.slice (some ⟨b, off, none⟩) L cap')) (0, 0) _ HPT.out Tryd.underlying42 rfl (by kernel_rfl) ?_) | refine wpList_store_row rfl 42 _ _ rfl (g + 1) (plA ⟨p.n + 1, p.d, p.l, p.g + 1, y⟩ (.slice (some ⟨b, off, none⟩) L cap')) rfl rfl 42 (plA ⟨0, 0, 0, 0, 0⟩ (.slice none 0 0)) HZT.out (by kernel_rfl) rfl (by simp [Value.oneCell']) ?_)
            have hpy : pyF p (k0 :: r0) = ⟨p.n + 1, p.d, p.l, p.g + 1, y⟩ := by
              unfold pyF; rw [HLV.out]
              show (⟨p.n + 1, p.d, p.l, p.g + 1, (fdL p.x 30).getD 29 0⟩ : Pl) = _
              rw [HY.out]
            have hl : (lvF (k0 :: r0) p.n p.x).1 = fdL p.x 30 := by rw [HLV.out]
            have hq := ogRow (cs := plA ⟨p.n + 1, p.d, p.l, p.g + 1, y⟩ (.slice (some ⟨b, off, none⟩) L cap')) HQT.out hs2.2
            exact bodyPost_ret (results_P3 rfl _ _ (g + 1) ⟨p.n + 1, p.d, p.l, p.g + 1, y⟩ (.slice (some ⟨b, off, none⟩) L cap') _ _ rfl rfl rfl (HZT.out.row _)) rfl ⟨fun _ => ⟨_, _, by rw [hpy]; rfl, by rw [HDR.out]; exact hq.rd pkC_len, fun k hk => by have := hq.lt k hk; omega, by rw [hl]; exact Ow.mono (Ow.putRow HOT.out (by omega)) (by omega), belowRow HBT.out _ (by omega) _⟩, fun h => absurd HPY.out h⟩

end Go.Proofs.YtkjfcebdjnclaaaDoor
