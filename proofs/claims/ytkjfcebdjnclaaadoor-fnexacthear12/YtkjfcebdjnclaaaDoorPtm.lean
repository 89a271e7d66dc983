/- The model: a packet is put; no condition. -/
import Derived.Test.YtkjfcebdjnclaaaDoorCpp
import Derived.Test.YtkjfcebdjnclaaaDoorPlc
import Derived.Test.YtkjfcebdjnclaaaDoorSlc
import Derived.Test.YtkjfcebdjnclaaaDoorDrb
import Derived.Test.YtkjfcebdjnclaaaDoorMixT
import Derived.Deep.DeepCutAuto
namespace Go.Proofs.YtkjfcebdjnclaaaDoor
open Go.RowKit Go.ChangeShapes Go.WideShapes Go.ChangeAt
set_option linter.unusedVariables false
set_option linter.unusedSimpArgs false
set_option maxRecDepth 8000

/-- what Put takes -/
def PuP (p : Pl) (k : Pk) (ls : List Pk) : Prop := (PlP p ∧ StOk p.n ls) ∧ pkB k = true ∧ p.l ≠ 1000000000
/-- what Put leaves: the player, and what is stored -/
def puF (p : Pl) (k : Pk) (ls : List Pk) : Pl × List Pk := if thB ls k.s = true ∨ ¬ (p.n ≤ k.s ∧ k.s ≤ p.n + 12 - 1) then (⟨p.n, p.d, p.l + 1, p.g, p.x⟩, ls) else (p, ls.take (pcF ls k.s) ++ k :: ls.drop (pcF ls k.s))
/-- what Put tells -/
def PuR (p : Pl) (st : List Pk) (ok : Bool) (w : World) (e : Ending) (w' : World) : Prop := ∃ v, e = .returned (.tuple #[.agg (plA p v), .bool ok]) ∧ Og 18 pkC 40 w.heap.size w' v st ∧ Below w.heap.size w w'
theorem results_P2 {fn : Func} {u q : Tmp} (h : fn.results = #[.cell q 42, .tmp u]) (tmps : Array Value) (w : World) (g : Nat) (p : Pl) (v b : Value)
    (hu : tmps.getD u undef = b) (hq : tmps.getD q undef = .pointer (some ⟨g, 0, none⟩)) (hg : Blk w g (plA p v) 42) :
    (results fn tmps).run Tryd.prog w = .ok (.tuple #[.agg (plA p v), b]) w := by
  have hq' : tmps[q]?.getD undef = .pointer (some ⟨g, 0, none⟩) := by simpa using hq
  have hu' : tmps[u]?.getD undef = b := by simpa using hu
  have hr := run_loadVar_row (P := Tryd.prog) w g 42 42 (plA p v) (0, 0) _ hg Tryd.underlying42 rfl (by kernel_rfl)
  simp [results, h, hq', hu', asAddr, hr]
/-- a packet in a box is read behind a guard -/
theorem ldPg {ops : Array Oper} {rest : List Oper} {o : Oper} {a : Act} {w : World} {Q : Exit → Act → World → Prop} (hw : Region.wanted o (yielded ops a.tmps) = true) (x : Operand) (ho : o.op = .load 40 x)
    (g : Nat) (hx : a.eval x = .pointer (some ⟨g, 0, none⟩)) (k : Pk) (hg : Blk w g (pkA k) 40)
    (h : wpList Tryd.prog ops Q rest (a.put o.dst (.agg (pkA k))) w) : wpList Tryd.prog ops Q (o :: rest) a w := by
  unfold wpList
  rw [if_pos hw]
  exact .inl (wp_load_row 40 x ho g hx 40 (pkA k) (0, 0) _ hg Tryd.underlying40 rfl (by rw [pkA_size]; exact sizePk) h)
theorem og_at {base : Nat} {w : World} {b n cap : Nat} {ls : List Pk} (h : Og 18 pkC 40 base w (.slice (some ⟨b, 0, none⟩) n cap) ls) : ∀ i (hi : i < ls.length), w.rangeAt b (i * 18) (pkC ls[i]) := by
  obtain ⟨a2, c2, hv, -, -, h3⟩ := h.rd pkC_len
  injection hv with e1 e2 e3
  rcases h3 with h3 | ⟨b', off, h5, h4⟩
  · intro i hi; subst h3; simp at hi
  · rw [← e1] at h5
    injection h5 with h5
    injection h5 with h6 h7 h8
    intro i hi
    have := h4 i hi
    rw [← h6, ← h7, Nat.zero_add] at this
    exact this
theorem blk_range {w : World} {g : Nat} {k : Pk} (h : Blk w g (pkA k) 40) : w.rangeAt g 0 (pkC k) := fun j v hv => by
  rw [Nat.zero_add, h.cell j]; simpa using hv
theorem bsPk (k : Pk) (w : World) : (Instr.buildSlice 36 1 #[(0, .agg (pkA k))]).run Tryd.prog w = .ok (.slice (some ⟨w.heap.size, 0, none⟩) 1 1) (w.alloc (.cells (pkA k) 40)) := by kernel_rfl
theorem bsP {ops : Array Oper} {rest : List Oper} {o : Oper} {a : Act} {w : World} {Q : Exit → Act → World → Prop} (hgd : o.guard = none) (x : Operand) (ho : o.op = .buildSlice 36 1 #[(0, x)]) (k : Pk) (hx : a.eval x = .agg (pkA k))
    (h : wpList Tryd.prog ops Q rest (a.put o.dst (.slice (some ⟨w.heap.size, 0, none⟩) 1 1)) (w.alloc (.cells (pkA k) 40))) : wpList Tryd.prog ops Q (o :: rest) a w := by
  refine wpList_plain hgd fun K hK => ?_
  unfold Oper.wp execOp
  simp only [ho, List.map_toArray, List.map_cons, List.map_nil, hx, Sem.run_bind, bsPk, Result.andThen_ok, Sem.run_pure]
  exact hK _ _ h
theorem og_one {base : Nat} (w : World) (k : Pk) (hb : base ≤ w.heap.size) : Og 18 pkC 40 base (w.alloc (.cells (pkA k) 40)) (.slice (some ⟨w.heap.size, 0, none⟩) 1 1) [k] := by
  have := World.ownsRow_lit (e := 40) (size := 18) (base := base) w (pkA k) 1 hb (by unfold maxLen; omega) (by rw [pkA_size])
  unfold Og; simpa using this
theorem ogRow' {base g : Nat} {w : World} {a : Option Addr} {n cap : Nat} {ls : List Pk} {cs : Array Value} (h : Og 18 pkC 40 base w (.slice a n cap) ls) (hg : g < base) : Og 18 pkC 40 base (w.setRow g cs) (.slice a n cap) ls := by
  refine World.ownsRow.kept (row := some g) h ⟨rfl, rfl, rfl, by simp, fun i _ hi => setRow_other w _ i _ (fun e => hi (by simp [e]))⟩ ?_
  cases a with
  | none => exact .inl rfl
  | some ad =>
    refine .inr fun e => ?_
    have h2 := (h.lt ad.block rfl).1
    simp [Value.ownBlock] at e
    omega
set_option maxHeartbeats 6400000 in
theorem putM_c (p : Pl) (k : Pk) (v : Value) (ls : List Pk) (w : World) (h : Rg 18 pkC w v ls) (hn : ls.length ≤ 1048576) : Calls Tryd.prog 93 #[.agg (plA p v), .agg (pkA k)] w fun e w' => (PuP p k ls → PuR (puF p k ls).1 (puF p k ls).2 true w e w') ∧ (¬ PuP p k ls → PuR p ls false w e w') := by
  have HR : Hid (Rg 18 pkC w v ls) := h
  have HN : Hid (ls.length ≤ 1048576) := hn
  obtain ⟨a, cap, rfl, h1, h2, -⟩ := h
  obtain ⟨W2, hW2⟩ : ∃ W, ((w.alloc (Obj.cells (plA p (.slice a ls.length cap)) 42)).alloc (Obj.cells (pkA k) 40)).alloc (Obj.cells (plA ⟨0, 0, 0, 0, 0⟩ (.slice none 0 0)) 42) = W := ⟨_, rfl⟩
  obtain ⟨g, hg⟩ : ∃ g, w.heap.size = g := ⟨_, rfl⟩
  have HB2 : Hid (Below w.heap.size w W2) := by rw [← hW2]; exact (((Below.refl _ _).alloc (Nat.le_refl _) _).alloc (by simp) _).alloc (by simp; omega) _
  have HP2 : Hid (Blk W2 g (plA p (.slice a ls.length cap)) 42) := by rw [← hW2, ← hg]; exact ((Blk.new _ _ _).alloc _).alloc _
  have HK2 : Hid (Blk W2 (g + 1) (pkA k) 40) := by rw [← hW2, ← hg]; exact (Blk.newAt _ _ _ _ (by simp)).alloc _
  have HZ2 : Hid (Blk W2 (g + 2) (plA ⟨0, 0, 0, 0, 0⟩ (.slice none 0 0)) 42) := by rw [← hW2, ← hg]; exact Blk.newAt _ _ _ _ (by simp)
  have HGG : Hid (w.heap.size = g) := hg
  have HW2 : Hid (((w.alloc (Obj.cells (plA p (.slice a ls.length cap)) 42)).alloc (Obj.cells (pkA k) 40)).alloc (Obj.cells (plA ⟨0, 0, 0, 0, 0⟩ (.slice none 0 0)) 42) = W2) := hW2
  clear hn hW2 hg
  go_enter Tryd.func93, Tryd.ntmps93
  go_wp2_with (fail)
  rw [HW2.out, HGG.out]
  refine (copyM_c p _ ls W2 (HR.out.below HB2.out) HN.out).mono ?_
  rintro e w3 ⟨v', rfl, o3, b3⟩
  obtain ⟨a', cap', rfl⟩ := o3.form
  have K3 := HP2.out.below b3 HP2.out.lt
  have Y3 := HK2.out.below b3 HK2.out.lt
  have Z3 := HZ2.out.below b3 HZ2.out.lt
  have B3 : Below w.heap.size w w3 := belowCall HB2.out b3 HB2.out.size
  have hgw := HGG.out
  have hlt := HZ2.out.lt
  obtain ⟨W4, hW4⟩ : ∃ W, w3.setRow g (plA p (.slice a' ls.length cap')) = W := ⟨_, rfl⟩
  have HK3 : Hid (Blk w3 g (plA p (.slice a ls.length cap)) 42) := K3
  have HP4 : Hid (Blk W4 g (plA p (.slice a' ls.length cap')) 42) := by rw [← hW4]; exact K3.row _
  have HY4 : Hid (Blk W4 (g + 1) (pkA k) 40) := by rw [← hW4]; exact Y3.rowOther _ _ (by omega)
  have HZ4 : Hid (Blk W4 (g + 2) (plA ⟨0, 0, 0, 0, 0⟩ (.slice none 0 0)) 42) := by rw [← hW4]; exact Z3.rowOther _ _ (by omega)
  have HB4 : Hid (Below w.heap.size w W4) := by rw [← hW4]; exact belowRow B3 _ (by omega) _
  have HO4 : Hid (Og 18 pkC 40 W2.heap.size W4 (.slice a' ls.length cap') ls) := by rw [← hW4]; exact ogRow' o3 (by omega)
  have HS2 : Hid (w.heap.size ≤ W2.heap.size ∧ g + 2 < W2.heap.size) := ⟨HB2.out.size, hlt⟩
  have HCP : Hid (ls.length ≤ cap') := by obtain ⟨_, _, hv, h1, _⟩ := own_form o3; injection hv with e1 e2 e3; show _ ≤ _; omega
  have HW4 : Hid (w3.setRow g (plA p (.slice a' ls.length cap')) = W4) := hW4
  have HSU : Hid (W2.heap.size ≤ W4.heap.size) := by show _ ≤ _; rw [← hW4]; simpa using b3.size
  clear K3 Y3 Z3 B3 o3 b3 hgw hlt hW4 HP2 HK2 HZ2 HW2 HB2
  have x0 := HP4.out.cell 0
  have x1 := HP4.out.cell 1
  have x2 := HP4.out.cell 2
  have x3 := HP4.out.cell 3
  have x4 := HP4.out.cell 4
  have x5 := HP4.out.cell 5
  simp at x0 x1 x2 x3 x4 x5
  go_wp2_with (refine wpList_store_row rfl 42 _ _ rfl g (plA p (.slice a' ls.length cap')) rfl rfl 42 (plA p (.slice a ls.length cap)) HK3.out (by kernel_rfl) rfl (by simp [Value.oneCell']) ?_; rw [HW4.out])
  refine (plM_c p _ ls W4 (HO4.out.rd pkC_len)).mono ?_
  rintro e w5 ⟨r, rfl, hr, b5⟩
  have HP5 : Hid (Blk w5 g (plA p (.slice a' ls.length cap')) 42) := HP4.out.below b5 HP4.out.lt
  have HY5 : Hid (Blk w5 (g + 1) (pkA k) 40) := HY4.out.below b5 HY4.out.lt
  have HZ5 : Hid (Blk w5 (g + 2) (plA ⟨0, 0, 0, 0, 0⟩ (.slice none 0 0)) 42) := HZ4.out.below b5 HZ4.out.lt
  have HB5 : Hid (Below w.heap.size w w5) := belowCall HB4.out b5 HB4.out.size
  have HO5 : Hid (Og 18 pkC 40 W2.heap.size w5 (.slice a' ls.length cap') ls) := HO4.out.below b5
  have HRR : Hid (r = true ↔ PlP p ∧ StOk p.n ls) := hr
  have HSV : Hid (W2.heap.size ≤ w5.heap.size) := Nat.le_trans HSU.out b5.size
  clear b5 hr HP4 HY4 HZ4 HB4 HO4 HW4 HK3 x0 x1 x2 x3 x4 x5
  have x0 := HP5.out.cell 0
  have x1 := HP5.out.cell 1
  have x2 := HP5.out.cell 2
  have x3 := HP5.out.cell 3
  have x4 := HP5.out.cell 4
  have x5 := HP5.out.cell 5
  simp at x0 x1 x2 x3 x4 x5
  cases r
  · have HNP : Hid (¬ PuP p k ls) := fun h => by have := HRR.out.2 h.1; cases this
    go_wp2_with (refine wpList_store_row rfl 42 _ _ rfl (g + 2) (plA p (.slice a' ls.length cap')) rfl rfl 42 (plA ⟨0, 0, 0, 0, 0⟩ (.slice none 0 0)) HZ5.out (by kernel_rfl) rfl (by simp [Value.oneCell']) ?_)
    have hs2 := HS2.out
    have hgw := HGG.out
    exact bodyPost_ret (results_P2 rfl _ _ (g + 2) p (.slice a' ls.length cap') _ rfl rfl (HZ5.out.row _)) rfl ⟨fun h => absurd h HNP.out, fun _ => ⟨_, rfl, Og.mono (ogRow' HO5.out hs2.2) hs2.1, belowRow HB5.out _ (by omega) _⟩⟩
  · have HPS : Hid (PlP p ∧ StOk p.n ls) := HRR.out.1 rfl
    clear HRR
    go_wp2_with (refine ldPg (by rfl) _ rfl (g + 1) rfl k HY5.out ?_)
    refine (pkM_c k w5).mono ?_
    rintro e w6 ⟨rfl, b6⟩
    have HP6 : Hid (Blk w6 g (plA p (.slice a' ls.length cap')) 42) := HP5.out.below b6 HP5.out.lt
    have HY6 : Hid (Blk w6 (g + 1) (pkA k) 40) := HY5.out.below b6 HY5.out.lt
    have HZ6 : Hid (Blk w6 (g + 2) (plA ⟨0, 0, 0, 0, 0⟩ (.slice none 0 0)) 42) := HZ5.out.below b6 HZ5.out.lt
    have HB6 : Hid (Below w.heap.size w w6) := belowCall HB5.out b6 HB5.out.size
    have HO6 : Hid (Og 18 pkC 40 W2.heap.size w6 (.slice a' ls.length cap') ls) := HO5.out.below b6
    have HSW : Hid (W2.heap.size ≤ w6.heap.size) := Nat.le_trans HSV.out b6.size
    clear b6 HP5 HY5 HZ5 HB5 HO5 x0 x1 x2 x3 x4 x5
    have x0 := HP6.out.cell 0
    have x1 := HP6.out.cell 1
    have x2 := HP6.out.cell 2
    have x3 := HP6.out.cell 3
    have x4 := HP6.out.cell 4
    have x5 := HP6.out.cell 5
    simp at x0 x1 x2 x3 x4 x5
    cases hkb : pkB k
    · have HNP : Hid (¬ PuP p k ls) := fun h => by have h2 := h.2.1; rw [hkb] at h2; cases h2
      clear hkb
      go_wp2_with (refine wpList_store_row rfl 42 _ _ rfl (g + 2) (plA p (.slice a' ls.length cap')) rfl rfl 42 (plA ⟨0, 0, 0, 0, 0⟩ (.slice none 0 0)) HZ6.out (by kernel_rfl) rfl (by simp [Value.oneCell']) ?_)
      have hs2 := HS2.out
      have hgw := HGG.out
      exact bodyPost_ret (results_P2 rfl _ _ (g + 2) p (.slice a' ls.length cap') _ rfl rfl (HZ6.out.row _)) rfl ⟨fun h => absurd h HNP.out, fun _ => ⟨_, rfl, Og.mono (ogRow' HO6.out hs2.2) hs2.1, belowRow HB6.out _ (by omega) _⟩⟩
    by_cases hl1 : p.l = 1000000000
    · have HNP : Hid (¬ PuP p k ls) := fun h => h.2.2 hl1
      have hlb : (p.l == 1000000000) = true := by simp [hl1]
      clear hkb hl1
      go_wp2_with (refine wpList_store_row rfl 42 _ _ rfl (g + 2) (plA p (.slice a' ls.length cap')) rfl rfl 42 (plA ⟨0, 0, 0, 0, 0⟩ (.slice none 0 0)) HZ6.out (by kernel_rfl) rfl (by simp [Value.oneCell']) ?_)
      have hs2 := HS2.out
      have hgw := HGG.out
      exact bodyPost_ret (results_P2 rfl _ _ (g + 2) p (.slice a' ls.length cap') _ rfl rfl (HZ6.out.row _)) rfl ⟨fun h => absurd h HNP.out, fun _ => ⟨_, rfl, Og.mono (ogRow' HO6.out hs2.2) hs2.1, belowRow HB6.out _ (by omega) _⟩⟩
    have HPU : Hid (PuP p k ls) := ⟨HPS.out, hkb, hl1⟩
    have hlb : (p.l == 1000000000) = false := by simpa using hl1
    clear hkb hl1
    have y1 : w6.cell? ⟨g + 1, 1, none⟩ = some (.int .i64 k.s) := HY6.out.cell 1
    go_wp2_with (fail)
    clear x0 x1 x2 x3 x4 x5 y1
    go_loopw [6] (fun i wr => ∃ j : Nat, j ≤ ls.length ∧ i = .int .i64 j ∧ Hid (∀ t (ht : t < ls.length), t < j → ls[t].s < k.s) ∧ Hid (Below w6.heap.size w6 wr)) (fun i _ => ls.length - (intOf i).toNat)
    case atStart => exact ⟨0, Nat.zero_le _, rfl, fun t _ h => by omega, Below.refl _ _⟩
    case round =>
      obtain ⟨j, hj, rfl, hA, hbr⟩ := hrel
      have hnl := HN.out
      have x5 := (HP6.out.below hbr.out HP6.out.lt).cell 5
      have y1 : wr.cell? ⟨g + 1, 1, none⟩ = some (.int .i64 k.s) := (HY6.out.below hbr.out HY6.out.lt).cell 1
      simp at x5
      by_cases hlt : j < ls.length
      case neg =>
        have hpc : pcF ls k.s = j := pcF_eq ls k.s _ hj (fun t h ht => hA.out t h ht) (fun h => by omega)
        have HTH : Hid (pcF ls k.s = j ∧ thB ls k.s = false) := ⟨hpc, by rw [thB, hpc, List.getElem?_eq_none (by omega)]⟩
        have hdl : decide ((j : Int) < (ls.length : Int)) = false := decide_eq_false (by omega)
        clear hpc
        go_wp2_with (fail)
        go_quiet (fail)
        go_wp2_with (fail)
        obtain ⟨wx, hwx⟩ : ∃ W, wr.drewN nq = W := ⟨_, rfl⟩
        have bx : Below w6.heap.size w6 wx := by rw [← hwx]; exact below_drewN hbr.out _
        rw [hwx]
        have HPx : Hid (Blk wx g (plA p (.slice a' ls.length cap')) 42) := HP6.out.below bx HP6.out.lt
        have HYx : Hid (Blk wx (g + 1) (pkA k) 40) := HY6.out.below bx HY6.out.lt
        have HZx : Hid (Blk wx (g + 2) (plA ⟨0, 0, 0, 0, 0⟩ (.slice none 0 0)) 42) := HZ6.out.below bx HZ6.out.lt
        have HBx : Hid (Below w.heap.size w wx) := belowCall HB6.out bx HB6.out.size
        have HW2S : Hid (∀ {n : Nat}, wx.heap.size ≤ n → W2.heap.size ≤ n) := fun {n} h => Nat.le_trans (Nat.le_trans HSW.out bx.size) h
        have HOx : Hid (Og 18 pkC 40 W2.heap.size wx (.slice a' ls.length cap') ls) := HO6.out.below bx
        clear hwx bx hbr HP6 HY6 HZ6 HB6 HO6 x5 y1
        have x0 := HPx.out.cell 0
        have x5 := HPx.out.cell 5
        have y1 : wx.cell? ⟨g + 1, 1, none⟩ = some (.int .i64 k.s) := HYx.out.cell 1
        simp at x0 x5
        have hpn := HPU.out.1.1.1
        obtain ⟨q, hq⟩ : ∃ q : Bool, decide (p.n ≤ k.s ∧ k.s ≤ p.n + 12 - 1) = q := ⟨_, rfl⟩
        have HQ : Hid (decide (p.n ≤ k.s ∧ k.s ≤ p.n + 12 - 1) = q) := hq
        have HIN : Hid (∀ W, Calls Tryd.prog 87 #[.int .i64 k.s, .int .i64 p.n, .int .i64 (p.n + 12 - 1)] W fun e w' => e = .returned (.bool q) ∧ w' = W) := fun W => by rw [← hq]; exact in_c _ _ _ W
        clear hq
        cases q
        case false =>
          have HPF : Hid (puF p k ls = (⟨p.n, p.d, p.l + 1, p.g, p.x⟩, ls)) := by show _ = _; rw [puF, if_pos (.inr (of_decide_eq_false HQ.out))]
          go_quiet (first | (go_at_call 87; exact Calls.quiet_of_same (HIN.out _)))
          obtain ⟨wy, hwy⟩ : ∃ W, wx.drewN nq = W := ⟨_, rfl⟩
          have bx : Below wx.heap.size wx wy := by rw [← hwy]; exact below_drewN (Below.refl _ _) _
          have HPy : Hid (Blk wy g (plA p (.slice a' ls.length cap')) 42) := HPx.out.below bx HPx.out.lt
          have HZy : Hid (Blk wy (g + 2) (plA ⟨0, 0, 0, 0, 0⟩ (.slice none 0 0)) 42) := HZx.out.below bx HZx.out.lt
          have HBy : Hid (Below w.heap.size w wy) := belowCall HBx.out bx HBx.out.size
          have HOy : Hid (Og 18 pkC 40 W2.heap.size wy (.slice a' ls.length cap') ls) := HOx.out.below bx
          rw [hwy]
          clear hwy bx HPx HYx HZx HBx HOx x0 x5 y1
          have hl1 := HPU.out.1.1.2.2.1
          obtain ⟨W8, hW8⟩ : ∃ W, wy.setCell ⟨g, 2, none⟩ (.int .i64 (p.l + 1)) = W := ⟨_, rfl⟩
          have HP8 : Hid (Blk W8 g (plA ⟨p.n, p.d, p.l + 1, p.g, p.x⟩ (.slice a' ls.length cap')) 42) := by rw [← hW8]; exact HPy.out.set 2 (.int .i64 (p.l + 1))
          have hgz : wy.grownBy W8 (some g) := by rw [← hW8]; exact dgrown_set _ _ _ _
          have HZ8 : Hid (Blk W8 (g + 2) (plA ⟨0, 0, 0, 0, 0⟩ (.slice none 0 0)) 42) := HZy.out.grown hgz (fun e => by have := Option.some.inj e; omega)
          have HO8 : Hid (Og 18 pkC 40 W2.heap.size W8 (.slice a' ls.length cap') ls) := World.ownsRow.kept HOy.out hgz (by cases hv : (Value.slice a' ls.length cap').ownBlock with | none => exact .inl rfl | some m => exact .inr (fun e => by have := (HOy.out.lt m hv).1; have := Option.some.inj e; have := HS2.out.2; omega))
          have HB8 : Hid (Below w.heap.size w W8) := by rw [← hW8]; exact HBy.out.setCell (by dsimp only; have := HGG.out; omega) _
          have x2 := HPy.out.cell 2
          have f2 := HPy.out.frozen 2
          simp at x2
          have HW8 : Hid (wy.setCell ⟨g, 2, none⟩ (.int .i64 (p.l + 1)) = W8) := hW8
          clear hgz hW8 HPy HZy HOy HBy
          go_upto_region 9 with fail
          rw [HW8.out]
          clear HW8 x2 f2
          have x0 := HP8.out.cell 0
          have x1 := HP8.out.cell 1
          have x2 := HP8.out.cell 2
          have x3 := HP8.out.cell 3
          have x4 := HP8.out.cell 4
          have x5 := HP8.out.cell 5
          simp at x0 x1 x2 x3 x4 x5
          go_wp2_with (refine wpList_store_row rfl 42 _ _ rfl (g + 2) (plA ⟨p.n, p.d, p.l + 1, p.g, p.x⟩ (.slice a' ls.length cap')) rfl rfl 42 (plA ⟨0, 0, 0, 0, 0⟩ (.slice none 0 0)) HZ8.out (by kernel_rfl) rfl (by simp [Value.oneCell']) ?_)
          have hs2 := HS2.out
          have hgw := HGG.out
          have hpf := HPF.out
          exact bodyPost_ret (results_P2 rfl _ _ (g + 2) ⟨p.n, p.d, p.l + 1, p.g, p.x⟩ (.slice a' ls.length cap') _ rfl rfl (HZ8.out.row _)) rfl ⟨fun _ => by rw [hpf]; exact ⟨_, rfl, Og.mono (ogRow' HO8.out hs2.2) hs2.1, belowRow HB8.out _ (by omega) _⟩, fun h => absurd HPU.out h⟩
        case true =>
          have HPF : Hid (puF p k ls = (p, ls.take j ++ k :: ls.drop j)) := by show _ = _; rw [puF, if_neg (fun h => by rcases h with h | h; rw [HTH.out.2] at h; cases h; exact h (of_decide_eq_true HQ.out)), HTH.out.1]
          go_quiet (first | (go_at_call 87; exact Calls.quiet_of_same (HIN.out _)))
          obtain ⟨wy, hwy⟩ : ∃ W, wx.drewN nq = W := ⟨_, rfl⟩
          have bx : Below wx.heap.size wx wy := by rw [← hwy]; exact below_drewN (Below.refl _ _) _
          rw [hwy]
          have byd : Below wy.heap.size wy wy.drew := (Below.refl _ _).drew
          have HPy : Hid (Blk wy.drew g (plA p (.slice a' ls.length cap')) 42) := (HPx.out.below bx HPx.out.lt).below byd (HPx.out.below bx HPx.out.lt).lt
          have HYy : Hid (Blk wy.drew (g + 1) (pkA k) 40) := (HYx.out.below bx HYx.out.lt).below byd (HYx.out.below bx HYx.out.lt).lt
          have HZy : Hid (Blk wy.drew (g + 2) (plA ⟨0, 0, 0, 0, 0⟩ (.slice none 0 0)) 42) := (HZx.out.below bx HZx.out.lt).below byd (HZx.out.below bx HZx.out.lt).lt
          have HBy : Hid (Below w.heap.size w wy.drew) := belowCall (belowCall HBx.out bx HBx.out.size) byd (Nat.le_trans HBx.out.size bx.size)
          have HOy : Hid (Og 18 pkC 40 W2.heap.size wy.drew (.slice a' ls.length cap') ls) := (HOx.out.below bx).below byd
          have HWS : Hid (W2.heap.size ≤ wy.drew.heap.size) := HW2S.out (Nat.le_trans bx.size byd.size)
          clear hwy bx byd HPx HYx HZx HBx HOx x0 x5 y1 HIN
          go_upto_region 10 with fail
          obtain ⟨wd, hwd⟩ : ∃ W, wy.drew = W := ⟨_, rfl⟩
          rw [hwd] at HPy HYy HZy HBy HOy HWS
          obtain ⟨S, hS⟩ : ∃ S : World → Prop, ∀ W, S W ↔ (Blk W g (plA p (.slice a' ls.length cap')) 42 ∧ Blk W (g + 1) (pkA k) 40) := ⟨_, fun _ => Iff.rfl⟩
          have s5 : ∀ W : At S, W.wd.cell? ⟨g, 5, none⟩ = some (.slice a' ls.length cap') := fun W => by have := ((hS _).1 W.ok).1.cell 5; simpa using this
          have HRG : Hid (∀ W : At S, W.wd.rangeAt (g + 1) 0 (pkC k)) := fun W => blk_range ((hS _).1 W.ok).2
          have HSI : Hid (∀ W, Blk W g (plA p (.slice a' ls.length cap')) 42 → Blk W (g + 1) (pkA k) 40 → S W) := fun W h1 h2 => (hS W).2 ⟨h1, h2⟩
          have HSD : Hid (S wy.drew) := by show S wy.drew; rw [hwd]; exact HSI.out _ HPy.out HYy.out
          have ne1 : Nonempty (At S) := ⟨⟨wy.drew, HSD.out⟩⟩
          obtain ⟨vd, hvd⟩ : ∃ v, sliced a' j ls.length cap' 18 = v := ⟨_, rfl⟩
          obtain ⟨vt, hvt⟩ : ∃ v, sliced a' 0 j cap' 18 = v := ⟨_, rfl⟩
          have hsf : ∀ W, (Instr.slice 36 (.slice a' ls.length cap') (some (.int .i64 (j : Int))) none none).run Tryd.prog W = .ok vd W := fun W => by rw [← hvd]; exact sl_from _ _ _ _ (by omega) W
          have hst : ∀ W, (Instr.slice 36 (.slice a' ls.length cap') none (some (.int .i64 (j : Int))) none).run Tryd.prog W = .ok vt W := fun W => by rw [← hvt]; exact sl_to _ _ _ _ (by have := HCP.out; omega) W
          have HVD : Hid (∀ W, Rg 18 pkC W (.slice a' ls.length cap') ls → Rg 18 pkC W vd (ls.drop j)) := fun W h => by rw [← hvd]; exact rg_from h _ (by omega)
          have HVT : Hid (∀ W, Rg 18 pkC W (.slice a' ls.length cap') ls → Rg 18 pkC W vt (ls.take j)) := fun W h => by rw [← hvt]; exact rg_to h _ (by omega)
          have hbs := bsPk k
          clear hS hvd hvt
          refine region_mixT [true, false, true, true, true, true, false, false] 6 1 S (by kernel_rfl) rfl (by kernel_rfl) (fun _ _ _ _ _ h => h) HSD.out ?_
          simp only [selT, selF]
          try simp only [Act.put]
          refine BigFrame.wpQuiet_want rfl fun K hK => quietLdM _ rfl (g + 1) 0 rfl k (fun w hw => by obtain ⟨W, rfl⟩ := hw; exact HRG.out W) (hK _ ?_)
          clear hK K
          simp only [Act.put, List.setIfInBounds_toArray, List.set_cons_succ, List.set_cons_zero]
          repeat (go_big_quiet_step (fail))
          refine wpQuiet_nil ?_
          refine tail_step ?_
          rw [hwd]
          clear hwd ne1 s5 HRG
          refine bsP rfl _ rfl k rfl ?_
          refine wpList_nil ?_
          obtain ⟨X, hX⟩ : ∃ X, wd.heap.size = X := ⟨_, rfl⟩
          obtain ⟨we, hwe⟩ : ∃ W, wd.alloc (.cells (pkA k) 40) = W := ⟨_, rfl⟩
          have al : Below wd.heap.size wd we := by rw [← hwe]; exact (Below.refl _ _).alloc (Nat.le_refl _) _
          have HPe : Hid (Blk we g (plA p (.slice a' ls.length cap')) 42) := HPy.out.below al HPy.out.lt
          have HYe : Hid (Blk we (g + 1) (pkA k) 40) := HYy.out.below al HYy.out.lt
          have HZe : Hid (Blk we (g + 2) (plA ⟨0, 0, 0, 0, 0⟩ (.slice none 0 0)) 42) := HZy.out.below al HZy.out.lt
          have HBe : Hid (Below w.heap.size w we) := belowCall HBy.out al HBy.out.size
          have HOe : Hid (Og 18 pkC 40 W2.heap.size we (.slice a' ls.length cap') ls) := HOy.out.below al
          have HXe : Hid (Og 18 pkC 40 X we (.slice (some ⟨X, 0, none⟩) 1 1) [k]) := by rw [← hwe, ← hX]; exact og_one wd k (Nat.le_refl _)
          have HXS : Hid (W2.heap.size ≤ X ∧ X < we.heap.size) := ⟨by rw [← hX]; exact HWS.out, by rw [← hwe, ← hX]; simp⟩
          have HXN : Hid ((Value.slice a' ls.length cap').ownBlock ≠ some X) := fun e => by have := (HOy.out.lt X e).2; omega
          rw [hwe, hX]
          clear hwe al HPy HYy HZy HBy HOy hX hbs
          refine ⟨HSI.out _ HPe.out HYe.out, tail_end ?_⟩
          refine appPk Tryd.underlying36 rfl _ _ rfl X _ [k] rfl HXe.out _ (ls.drop j) rfl (HVD.out we (HOe.out.rd pkC_len)) (by have := HN.out; simp; omega) (by have := HXS.out.2; omega) ?_
          intro v1 wf of gf
          have gf' : we.grownBy wf (some X) := gf
          have HPf : Hid (Blk wf g (plA p (.slice a' ls.length cap')) 42) := HPe.out.grown gf' (fun e => by have := Option.some.inj e; have h1 := HXS.out; have h2 := HS2.out; omega)
          have HZf : Hid (Blk wf (g + 2) (plA ⟨0, 0, 0, 0, 0⟩ (.slice none 0 0)) 42) := HZe.out.grown gf' (fun e => by have := Option.some.inj e; have h1 := HXS.out; have h2 := HS2.out; omega)
          have HBf : Hid (Below w.heap.size w wf) := HBe.out.trans (grown_below gf' HBe.out.size (fun m e => by have := Option.some.inj e; have h1 := HXS.out; have h2 := HS2.out; omega))
          have HOf : Hid (Og 18 pkC 40 W2.heap.size wf (.slice a' ls.length cap') ls) := World.ownsRow.kept HOe.out gf' (.inr HXN.out)
          have HVf : Hid (Og 18 pkC 40 W2.heap.size wf v1 (k :: ls.drop j)) := Og.mono of HXS.out.1
          have HWf : Hid (W2.heap.size ≤ wf.heap.size) := Nat.le_trans (Nat.le_trans HXS.out.1 (Nat.le_of_lt HXS.out.2)) gf'.size
          clear of gf gf' HPe HYe HZe HBe HOe HXe
          have x5 := HPf.out.cell 5
          have f5 := HPf.out.frozen 5
          have l5 := HPf.out.lt
          simp at x5
          obtain ⟨Y, hY⟩ : ∃ Y, wf.heap.size = Y := ⟨_, rfl⟩
          obtain ⟨wg, hwg⟩ : ∃ W, wf.alloc (.cells #[] 40) = W := ⟨_, rfl⟩
          have al : Below wf.heap.size wf wg := by rw [← hwg]; exact (Below.refl _ _).alloc (Nat.le_refl _) _
          have HPg : Hid (Blk wg g (plA p (.slice a' ls.length cap')) 42) := HPf.out.below al HPf.out.lt
          have HZg : Hid (Blk wg (g + 2) (plA ⟨0, 0, 0, 0, 0⟩ (.slice none 0 0)) 42) := HZf.out.below al HZf.out.lt
          have HBg : Hid (Below w.heap.size w wg) := belowCall HBf.out al HBf.out.size
          have HOg : Hid (Og 18 pkC 40 W2.heap.size wg (.slice a' ls.length cap') ls) := HOf.out.below al
          have HVg : Hid (Og 18 pkC 40 W2.heap.size wg v1 (k :: ls.drop j)) := HVf.out.below al
          have HVN : Hid (v1.ownBlock = none ∨ v1.ownBlock ≠ some Y) := by
            cases hv : v1.ownBlock with
            | none => exact .inl rfl
            | some m => exact .inr (fun e => by have := (HVf.out.lt m hv).2; have := Option.some.inj e; omega)
          have HYg : Hid (Og 18 pkC 40 Y wg (.slice (some ⟨Y, 0, none⟩) 0 0) []) := by rw [← hwg, ← hY]; exact World.ownsRow_lit (e := 40) (size := 18) (base := wf.heap.size) wf #[] 0 (Nat.le_refl _) (by simp) (by simp)
          have HYS : Hid (W2.heap.size ≤ Y ∧ Y < wg.heap.size) := ⟨by rw [← hY]; exact HWf.out, by rw [← hwg, ← hY]; simp⟩
          have HWG : Hid (wf.alloc (.cells #[] 40) = wg ∧ wf.heap.size = Y) := ⟨hwg, hY⟩
          clear hwg hY al HPf HZf HBf HOf HVf
          go_wp2_with (at_builtin; rw [HWG.out.1]; refine appPk Tryd.underlying36 rfl _ _ rfl Y (.slice (some ⟨Y, 0, none⟩) 0 0) [] (by rw [← HWG.out.2]; rfl) HYg.out _ (ls.take j) rfl (HVT.out wg (HOg.out.rd pkC_len)) (by have := HN.out; simp; omega) (by have := HYS.out.2; omega) ?_)
          intro v2 wh oh gh
          have gh' : wg.grownBy wh (some Y) := gh
          have HPh : Hid (Blk wh g (plA p (.slice a' ls.length cap')) 42) := HPg.out.grown gh' (fun e => by have := Option.some.inj e; have h1 := HYS.out; have h2 := HS2.out; omega)
          have HZh : Hid (Blk wh (g + 2) (plA ⟨0, 0, 0, 0, 0⟩ (.slice none 0 0)) 42) := HZg.out.grown gh' (fun e => by have := Option.some.inj e; have h1 := HYS.out; have h2 := HS2.out; omega)
          have HBh : Hid (Below w.heap.size w wh) := HBg.out.trans (grown_below gh' HBg.out.size (fun m e => by have := Option.some.inj e; have h1 := HYS.out; have h2 := HS2.out; omega))
          have HVh : Hid (Og 18 pkC 40 W2.heap.size wh v1 (k :: ls.drop j)) := World.ownsRow.kept HVg.out gh' HVN.out
          have HTh : Hid (Og 18 pkC 40 W2.heap.size wh v2 (ls.take j)) := Og.mono oh HYS.out.1
          have HWh : Hid (W2.heap.size ≤ wh.heap.size) := Nat.le_trans (Nat.le_trans HYS.out.1 (Nat.le_of_lt HYS.out.2)) gh'.size
          clear oh gh gh' HPg HZg HBg HVg HOg HYg HWG x5 f5 l5
          go_wp2_with (at_builtin; refine appPk Tryd.underlying36 rfl _ _ rfl W2.heap.size v2 (ls.take j) rfl HTh.out v1 (k :: ls.drop j) rfl (HVh.out.rd pkC_len) (by have := HN.out; simp only [List.length_take, List.length_cons, List.length_drop]; omega) HWh.out ?_)
          intro v3 wi oi gi
          have hrow : ∀ m, v2.ownBlock = some m → W2.heap.size ≤ m := fun m e => (HTh.out.lt m e).1
          have HPi : Hid (Blk wi g (plA p (.slice a' ls.length cap')) 42) := HPh.out.grown gi (fun e => by have h1 := hrow _ e.symm; have h2 := HS2.out; omega)
          have HZi : Hid (Blk wi (g + 2) (plA ⟨0, 0, 0, 0, 0⟩ (.slice none 0 0)) 42) := HZh.out.grown gi (fun e => by have h1 := hrow _ e.symm; have h2 := HS2.out; omega)
          have HBi : Hid (Below w.heap.size w wi) := HBh.out.trans (grown_below gi HBh.out.size (fun m e => by have h1 := hrow _ e; have h2 := HS2.out; omega))
          obtain ⟨N3, hN3⟩ : ∃ N, (ls.take j ++ k :: ls.drop j).length = N := ⟨_, rfl⟩
          obtain ⟨a3, c3, hv3⟩ := oi.form
          rw [hN3] at hv3
          subst hv3
          have HOi : Hid (Og 18 pkC 40 W2.heap.size wi (.slice a3 N3 c3) (ls.take j ++ k :: ls.drop j)) := oi
          clear oi gi hrow hN3 HPh HZh HBh HVh HTh
          have x5 := HPi.out.cell 5
          have f5 := HPi.out.frozen 5
          have l5 := HPi.out.lt
          simp at x5
          obtain ⟨wj, hwj⟩ : ∃ W, wi.setCell ⟨g, 5, none⟩ (.slice a3 N3 c3) = W := ⟨_, rfl⟩
          have HPj : Hid (Blk wj g (plA p (.slice a3 N3 c3)) 42) := by rw [← hwj]; exact HPi.out.set 5 (.slice a3 N3 c3)
          have hgz : wi.grownBy wj (some g) := by rw [← hwj]; exact dgrown_set _ _ _ _
          have HZj : Hid (Blk wj (g + 2) (plA ⟨0, 0, 0, 0, 0⟩ (.slice none 0 0)) 42) := HZi.out.grown hgz (fun e => by have := Option.some.inj e; omega)
          have HOj : Hid (Og 18 pkC 40 W2.heap.size wj (.slice a3 N3 c3) (ls.take j ++ k :: ls.drop j)) := World.ownsRow.kept HOi.out hgz (by cases hv : (Value.slice a3 N3 c3).ownBlock with | none => exact .inl rfl | some m => exact .inr (fun e => by have := (HOi.out.lt m hv).1; have := Option.some.inj e; have := HS2.out.2; omega))
          have HBj : Hid (Below w.heap.size w wj) := by rw [← hwj]; exact HBi.out.setCell (by dsimp only; have := HGG.out; omega) _
          have HWJ : Hid (wi.setCell ⟨g, 5, none⟩ (.slice a3 N3 c3) = wj) := hwj
          clear hgz hwj HPi HZi HOi HBi
          go_upto_region 12 with fail
          rw [HWJ.out]
          clear HWJ x5 f5 l5
          have x0 := HPj.out.cell 0
          have x1 := HPj.out.cell 1
          have x2 := HPj.out.cell 2
          have x3 := HPj.out.cell 3
          have x4 := HPj.out.cell 4
          have x5 := HPj.out.cell 5
          simp at x0 x1 x2 x3 x4 x5
          go_wp2_with (refine wpList_store_row rfl 42 _ _ rfl (g + 2) (plA p (.slice a3 N3 c3)) rfl rfl 42 (plA ⟨0, 0, 0, 0, 0⟩ (.slice none 0 0)) HZj.out (by kernel_rfl) rfl (by simp [Value.oneCell']) ?_)
          have hs2 := HS2.out
          have hgw := HGG.out
          have hpf := HPF.out
          exact bodyPost_ret (results_P2 rfl _ _ (g + 2) p (.slice a3 N3 c3) _ rfl rfl (HZj.out.row _)) rfl ⟨fun _ => by rw [hpf]; exact ⟨_, rfl, Og.mono (ogRow' HOj.out hs2.2) hs2.1, belowRow HBj.out _ (by omega) _⟩, fun h => absurd HPU.out h⟩
      case pos =>
      obtain ⟨b, hab⟩ : ∃ b, a' = some ⟨b, 0, none⟩ := by
        obtain ⟨a2, c2, hv, -, -, h3⟩ := own_form HO6.out
        injection hv with e1 e2 e3
        rcases h3 with h3 | ⟨b, h3⟩
        · omega
        · exact ⟨b, e1.trans h3⟩
      subst hab
      have h4 : ∀ i (hi : i < ls.length), wr.rangeAt b (i * 18) (pkC ls[i]) := og_at (HO6.out.below hbr.out)
      obtain ⟨k1, hk⟩ : ∃ k1, ls[j] = k1 := ⟨_, rfl⟩
      have hc : wr.cell? ⟨b, j * 18 + 1, none⟩ = some (.int .i64 k1.s) := by
        rw [← hk]; exact (rg_mid (h4 j hlt)).2.1
      have hi : (0 : Int) ≤ (j : Int) := by omega
      have hi2 : (j : Int) < (ls.length : Int) := by omega
      have HKJ : Hid (ls[j] = k1) := hk
      clear h4 hk
      by_cases hs : k1.s < k.s
      case pos =>
        have HNX : Hid (∀ t (ht : t < ls.length), t < j + 1 → ls[t].s < k.s) := fun t ht h => by
          by_cases e : t < j
          · exact hA.out t ht e
          · obtain rfl : t = j := by omega
            rw [HKJ.out]; exact hs
        go_wp2_with (fail)
        go_quiet (fail)
        go_wp2
        go_roundw
        case rel => exact ⟨j + 1, by omega, by go_num, HNX.out, below_drewN hbr.out _⟩
        case measure => simp [intOf]; omega
      case neg =>
        have hpc : pcF ls k.s = j := pcF_eq ls k.s _ hj (fun t h ht => hA.out t h ht) (fun h => by rw [HKJ.out]; exact hs)
        have HTH : Hid (pcF ls k.s = j ∧ thB ls k.s = (k1.s == k.s)) := ⟨hpc, by simp [thB, hpc, List.getElem?_eq_getElem hlt, HKJ.out]⟩
        clear hpc
        go_wp2_with (fail)
        go_quiet (fail)
        go_wp2_with (fail)
        obtain ⟨wx, hwx⟩ : ∃ W, wr.drewN nq = W := ⟨_, rfl⟩
        have bx : Below w6.heap.size w6 wx := by rw [← hwx]; exact below_drewN hbr.out _
        rw [hwx]
        have HPx : Hid (Blk wx g (plA p (.slice (some ⟨b, 0, none⟩) ls.length cap')) 42) := HP6.out.below bx HP6.out.lt
        have HYx : Hid (Blk wx (g + 1) (pkA k) 40) := HY6.out.below bx HY6.out.lt
        have HZx : Hid (Blk wx (g + 2) (plA ⟨0, 0, 0, 0, 0⟩ (.slice none 0 0)) 42) := HZ6.out.below bx HZ6.out.lt
        have HBx : Hid (Below w.heap.size w wx) := belowCall HB6.out bx HB6.out.size
        have HW2S : Hid (∀ {n : Nat}, wx.heap.size ≤ n → W2.heap.size ≤ n) := fun {n} h => Nat.le_trans (Nat.le_trans HSW.out bx.size) h
        have HOx : Hid (Og 18 pkC 40 W2.heap.size wx (.slice (some ⟨b, 0, none⟩) ls.length cap') ls) := HO6.out.below bx
        have hcx : wx.cell? ⟨b, j * 18 + 1, none⟩ = some (.int .i64 k1.s) := by rw [← hwx]; exact hc
        clear hwx bx hbr HP6 HY6 HZ6 HB6 HO6 x5 y1 hc
        have x0 := HPx.out.cell 0
        have x5 := HPx.out.cell 5
        have y1 : wx.cell? ⟨g + 1, 1, none⟩ = some (.int .i64 k.s) := HYx.out.cell 1
        simp at x0 x5
        have hpn := HPU.out.1.1.1
        obtain ⟨q, hq⟩ : ∃ q : Bool, decide (p.n ≤ k.s ∧ k.s ≤ p.n + 12 - 1) = q := ⟨_, rfl⟩
        have HQ : Hid (decide (p.n ≤ k.s ∧ k.s ≤ p.n + 12 - 1) = q) := hq
        have HIN : Hid (∀ W, Calls Tryd.prog 87 #[.int .i64 k.s, .int .i64 p.n, .int .i64 (p.n + 12 - 1)] W fun e w' => e = .returned (.bool q) ∧ w' = W) := fun W => by rw [← hq]; exact in_c _ _ _ W
        clear hq
        cases q
        case false =>
          have HPF : Hid (puF p k ls = (⟨p.n, p.d, p.l + 1, p.g, p.x⟩, ls)) := by show _ = _; rw [puF, if_pos (.inr (of_decide_eq_false HQ.out))]
          go_quiet (first | (go_at_call 87; exact Calls.quiet_of_same (HIN.out _)))
          obtain ⟨wy, hwy⟩ : ∃ W, wx.drewN nq = W := ⟨_, rfl⟩
          have bx : Below wx.heap.size wx wy := by rw [← hwy]; exact below_drewN (Below.refl _ _) _
          have HPy : Hid (Blk wy g (plA p (.slice (some ⟨b, 0, none⟩) ls.length cap')) 42) := HPx.out.below bx HPx.out.lt
          have HZy : Hid (Blk wy (g + 2) (plA ⟨0, 0, 0, 0, 0⟩ (.slice none 0 0)) 42) := HZx.out.below bx HZx.out.lt
          have HBy : Hid (Below w.heap.size w wy) := belowCall HBx.out bx HBx.out.size
          have HOy : Hid (Og 18 pkC 40 W2.heap.size wy (.slice (some ⟨b, 0, none⟩) ls.length cap') ls) := HOx.out.below bx
          rw [hwy]
          clear hwy bx HPx HYx HZx HBx HOx x0 x5 y1
          have hl1 := HPU.out.1.1.2.2.1
          obtain ⟨W8, hW8⟩ : ∃ W, wy.setCell ⟨g, 2, none⟩ (.int .i64 (p.l + 1)) = W := ⟨_, rfl⟩
          have HP8 : Hid (Blk W8 g (plA ⟨p.n, p.d, p.l + 1, p.g, p.x⟩ (.slice (some ⟨b, 0, none⟩) ls.length cap')) 42) := by rw [← hW8]; exact HPy.out.set 2 (.int .i64 (p.l + 1))
          have hgz : wy.grownBy W8 (some g) := by rw [← hW8]; exact dgrown_set _ _ _ _
          have HZ8 : Hid (Blk W8 (g + 2) (plA ⟨0, 0, 0, 0, 0⟩ (.slice none 0 0)) 42) := HZy.out.grown hgz (fun e => by have := Option.some.inj e; omega)
          have HO8 : Hid (Og 18 pkC 40 W2.heap.size W8 (.slice (some ⟨b, 0, none⟩) ls.length cap') ls) := World.ownsRow.kept HOy.out hgz (by cases hv : (Value.slice (some ⟨b, 0, none⟩) ls.length cap').ownBlock with | none => exact .inl rfl | some m => exact .inr (fun e => by have := (HOy.out.lt m hv).1; have := Option.some.inj e; have := HS2.out.2; omega))
          have HB8 : Hid (Below w.heap.size w W8) := by rw [← hW8]; exact HBy.out.setCell (by dsimp only; have := HGG.out; omega) _
          have x2 := HPy.out.cell 2
          have f2 := HPy.out.frozen 2
          simp at x2
          have HW8 : Hid (wy.setCell ⟨g, 2, none⟩ (.int .i64 (p.l + 1)) = W8) := hW8
          clear hgz hW8 HPy HZy HOy HBy
          go_upto_region 9 with fail
          rw [HW8.out]
          clear HW8 x2 f2
          have x0 := HP8.out.cell 0
          have x1 := HP8.out.cell 1
          have x2 := HP8.out.cell 2
          have x3 := HP8.out.cell 3
          have x4 := HP8.out.cell 4
          have x5 := HP8.out.cell 5
          simp at x0 x1 x2 x3 x4 x5
          go_wp2_with (refine wpList_store_row rfl 42 _ _ rfl (g + 2) (plA ⟨p.n, p.d, p.l + 1, p.g, p.x⟩ (.slice (some ⟨b, 0, none⟩) ls.length cap')) rfl rfl 42 (plA ⟨0, 0, 0, 0, 0⟩ (.slice none 0 0)) HZ8.out (by kernel_rfl) rfl (by simp [Value.oneCell']) ?_)
          have hs2 := HS2.out
          have hgw := HGG.out
          have hpf := HPF.out
          exact bodyPost_ret (results_P2 rfl _ _ (g + 2) ⟨p.n, p.d, p.l + 1, p.g, p.x⟩ (.slice (some ⟨b, 0, none⟩) ls.length cap') _ rfl rfl (HZ8.out.row _)) rfl ⟨fun _ => by rw [hpf]; exact ⟨_, rfl, Og.mono (ogRow' HO8.out hs2.2) hs2.1, belowRow HB8.out _ (by omega) _⟩, fun h => absurd HPU.out h⟩
        case true =>
          cases he : (k1.s == k.s)
          case true =>
            rw [he] at HTH
            have HPF : Hid (puF p k ls = (⟨p.n, p.d, p.l + 1, p.g, p.x⟩, ls)) := by show _ = _; rw [puF, if_pos (.inl HTH.out.2)]
            go_quiet (first | (go_at_call 87; exact Calls.quiet_of_same (HIN.out _)))
            obtain ⟨wy, hwy⟩ : ∃ W, wx.drewN nq = W := ⟨_, rfl⟩
            have bx : Below wx.heap.size wx wy := by rw [← hwy]; exact below_drewN (Below.refl _ _) _
            have HPy : Hid (Blk wy g (plA p (.slice (some ⟨b, 0, none⟩) ls.length cap')) 42) := HPx.out.below bx HPx.out.lt
            have HZy : Hid (Blk wy (g + 2) (plA ⟨0, 0, 0, 0, 0⟩ (.slice none 0 0)) 42) := HZx.out.below bx HZx.out.lt
            have HBy : Hid (Below w.heap.size w wy) := belowCall HBx.out bx HBx.out.size
            have HOy : Hid (Og 18 pkC 40 W2.heap.size wy (.slice (some ⟨b, 0, none⟩) ls.length cap') ls) := HOx.out.below bx
            rw [hwy]
            clear hwy bx HPx HYx HZx HBx HOx x0 x5 y1
            have hl1 := HPU.out.1.1.2.2.1
            obtain ⟨W8, hW8⟩ : ∃ W, wy.setCell ⟨g, 2, none⟩ (.int .i64 (p.l + 1)) = W := ⟨_, rfl⟩
            have HP8 : Hid (Blk W8 g (plA ⟨p.n, p.d, p.l + 1, p.g, p.x⟩ (.slice (some ⟨b, 0, none⟩) ls.length cap')) 42) := by rw [← hW8]; exact HPy.out.set 2 (.int .i64 (p.l + 1))
            have hgz : wy.grownBy W8 (some g) := by rw [← hW8]; exact dgrown_set _ _ _ _
            have HZ8 : Hid (Blk W8 (g + 2) (plA ⟨0, 0, 0, 0, 0⟩ (.slice none 0 0)) 42) := HZy.out.grown hgz (fun e => by have := Option.some.inj e; omega)
            have HO8 : Hid (Og 18 pkC 40 W2.heap.size W8 (.slice (some ⟨b, 0, none⟩) ls.length cap') ls) := World.ownsRow.kept HOy.out hgz (by cases hv : (Value.slice (some ⟨b, 0, none⟩) ls.length cap').ownBlock with | none => exact .inl rfl | some m => exact .inr (fun e => by have := (HOy.out.lt m hv).1; have := Option.some.inj e; have := HS2.out.2; omega))
            have HB8 : Hid (Below w.heap.size w W8) := by rw [← hW8]; exact HBy.out.setCell (by dsimp only; have := HGG.out; omega) _
            have x2 := HPy.out.cell 2
            have f2 := HPy.out.frozen 2
            simp at x2
            have HW8 : Hid (wy.setCell ⟨g, 2, none⟩ (.int .i64 (p.l + 1)) = W8) := hW8
            clear hgz hW8 HPy HZy HOy HBy
            go_upto_region 9 with fail
            rw [HW8.out]
            clear HW8 x2 f2
            have x0 := HP8.out.cell 0
            have x1 := HP8.out.cell 1
            have x2 := HP8.out.cell 2
            have x3 := HP8.out.cell 3
            have x4 := HP8.out.cell 4
            have x5 := HP8.out.cell 5
            simp at x0 x1 x2 x3 x4 x5
            go_wp2_with (refine wpList_store_row rfl 42 _ _ rfl (g + 2) (plA ⟨p.n, p.d, p.l + 1, p.g, p.x⟩ (.slice (some ⟨b, 0, none⟩) ls.length cap')) rfl rfl 42 (plA ⟨0, 0, 0, 0, 0⟩ (.slice none 0 0)) HZ8.out (by kernel_rfl) rfl (by simp [Value.oneCell']) ?_)
            have hs2 := HS2.out
            have hgw := HGG.out
            have hpf := HPF.out
            exact bodyPost_ret (results_P2 rfl _ _ (g + 2) ⟨p.n, p.d, p.l + 1, p.g, p.x⟩ (.slice (some ⟨b, 0, none⟩) ls.length cap') _ rfl rfl (HZ8.out.row _)) rfl ⟨fun _ => by rw [hpf]; exact ⟨_, rfl, Og.mono (ogRow' HO8.out hs2.2) hs2.1, belowRow HB8.out _ (by omega) _⟩, fun h => absurd HPU.out h⟩
          case false =>
            rw [he] at HTH
            have HPF : Hid (puF p k ls = (p, ls.take j ++ k :: ls.drop j)) := by show _ = _; rw [puF, if_neg (fun h => by rcases h with h | h; rw [HTH.out.2] at h; cases h; exact h (of_decide_eq_true HQ.out)), HTH.out.1]
            go_quiet (first | (go_at_call 87; exact Calls.quiet_of_same (HIN.out _)))
            obtain ⟨wy, hwy⟩ : ∃ W, wx.drewN nq = W := ⟨_, rfl⟩
            have bx : Below wx.heap.size wx wy := by rw [← hwy]; exact below_drewN (Below.refl _ _) _
            rw [hwy]
            have byd : Below wy.heap.size wy wy.drew := (Below.refl _ _).drew
            have HPy : Hid (Blk wy.drew g (plA p (.slice (some ⟨b, 0, none⟩) ls.length cap')) 42) := (HPx.out.below bx HPx.out.lt).below byd (HPx.out.below bx HPx.out.lt).lt
            have HYy : Hid (Blk wy.drew (g + 1) (pkA k) 40) := (HYx.out.below bx HYx.out.lt).below byd (HYx.out.below bx HYx.out.lt).lt
            have HZy : Hid (Blk wy.drew (g + 2) (plA ⟨0, 0, 0, 0, 0⟩ (.slice none 0 0)) 42) := (HZx.out.below bx HZx.out.lt).below byd (HZx.out.below bx HZx.out.lt).lt
            have HBy : Hid (Below w.heap.size w wy.drew) := belowCall (belowCall HBx.out bx HBx.out.size) byd (Nat.le_trans HBx.out.size bx.size)
            have HOy : Hid (Og 18 pkC 40 W2.heap.size wy.drew (.slice (some ⟨b, 0, none⟩) ls.length cap') ls) := (HOx.out.below bx).below byd
            have HWS : Hid (W2.heap.size ≤ wy.drew.heap.size) := HW2S.out (Nat.le_trans bx.size byd.size)
            clear hwy bx byd HPx HYx HZx HBx HOx x0 x5 y1 HIN
            go_upto_region 10 with fail
            obtain ⟨wd, hwd⟩ : ∃ W, wy.drew = W := ⟨_, rfl⟩
            rw [hwd] at HPy HYy HZy HBy HOy HWS
            obtain ⟨S, hS⟩ : ∃ S : World → Prop, ∀ W, S W ↔ (Blk W g (plA p (.slice (some ⟨b, 0, none⟩) ls.length cap')) 42 ∧ Blk W (g + 1) (pkA k) 40) := ⟨_, fun _ => Iff.rfl⟩
            have s5 : ∀ W : At S, W.wd.cell? ⟨g, 5, none⟩ = some (.slice (some ⟨b, 0, none⟩) ls.length cap') := fun W => by have := ((hS _).1 W.ok).1.cell 5; simpa using this
            have HRG : Hid (∀ W : At S, W.wd.rangeAt (g + 1) 0 (pkC k)) := fun W => blk_range ((hS _).1 W.ok).2
            have HSI : Hid (∀ W, Blk W g (plA p (.slice (some ⟨b, 0, none⟩) ls.length cap')) 42 → Blk W (g + 1) (pkA k) 40 → S W) := fun W h1 h2 => (hS W).2 ⟨h1, h2⟩
            have HSD : Hid (S wy.drew) := by show S wy.drew; rw [hwd]; exact HSI.out _ HPy.out HYy.out
            have ne1 : Nonempty (At S) := ⟨⟨wy.drew, HSD.out⟩⟩
            obtain ⟨vd, hvd⟩ : ∃ v, sliced (some ⟨b, 0, none⟩) j ls.length cap' 18 = v := ⟨_, rfl⟩
            obtain ⟨vt, hvt⟩ : ∃ v, sliced (some ⟨b, 0, none⟩) 0 j cap' 18 = v := ⟨_, rfl⟩
            have hsf : ∀ W, (Instr.slice 36 (.slice (some ⟨b, 0, none⟩) ls.length cap') (some (.int .i64 (j : Int))) none none).run Tryd.prog W = .ok vd W := fun W => by rw [← hvd]; exact sl_from _ _ _ _ (by omega) W
            have hst : ∀ W, (Instr.slice 36 (.slice (some ⟨b, 0, none⟩) ls.length cap') none (some (.int .i64 (j : Int))) none).run Tryd.prog W = .ok vt W := fun W => by rw [← hvt]; exact sl_to _ _ _ _ (by have := HCP.out; omega) W
            have HVD : Hid (∀ W, Rg 18 pkC W (.slice (some ⟨b, 0, none⟩) ls.length cap') ls → Rg 18 pkC W vd (ls.drop j)) := fun W h => by rw [← hvd]; exact rg_from h _ (by omega)
            have HVT : Hid (∀ W, Rg 18 pkC W (.slice (some ⟨b, 0, none⟩) ls.length cap') ls → Rg 18 pkC W vt (ls.take j)) := fun W h => by rw [← hvt]; exact rg_to h _ (by omega)
            have hbs := bsPk k
            clear hS hvd hvt
            refine region_mixT [true, false, true, true, true, true, false, false] 6 1 S (by kernel_rfl) rfl (by kernel_rfl) (fun _ _ _ _ _ h => h) HSD.out ?_
            simp only [selT, selF]
            try simp only [Act.put]
            refine BigFrame.wpQuiet_want rfl fun K hK => quietLdM _ rfl (g + 1) 0 rfl k (fun w hw => by obtain ⟨W, rfl⟩ := hw; exact HRG.out W) (hK _ ?_)
            clear hK K
            simp only [Act.put, List.setIfInBounds_toArray, List.set_cons_succ, List.set_cons_zero]
            repeat (go_big_quiet_step (fail))
            refine wpQuiet_nil ?_
            refine tail_step ?_
            rw [hwd]
            clear hwd ne1 s5 HRG
            refine bsP rfl _ rfl k rfl ?_
            refine wpList_nil ?_
            obtain ⟨X, hX⟩ : ∃ X, wd.heap.size = X := ⟨_, rfl⟩
            obtain ⟨we, hwe⟩ : ∃ W, wd.alloc (.cells (pkA k) 40) = W := ⟨_, rfl⟩
            have al : Below wd.heap.size wd we := by rw [← hwe]; exact (Below.refl _ _).alloc (Nat.le_refl _) _
            have HPe : Hid (Blk we g (plA p (.slice (some ⟨b, 0, none⟩) ls.length cap')) 42) := HPy.out.below al HPy.out.lt
            have HYe : Hid (Blk we (g + 1) (pkA k) 40) := HYy.out.below al HYy.out.lt
            have HZe : Hid (Blk we (g + 2) (plA ⟨0, 0, 0, 0, 0⟩ (.slice none 0 0)) 42) := HZy.out.below al HZy.out.lt
            have HBe : Hid (Below w.heap.size w we) := belowCall HBy.out al HBy.out.size
            have HOe : Hid (Og 18 pkC 40 W2.heap.size we (.slice (some ⟨b, 0, none⟩) ls.length cap') ls) := HOy.out.below al
            have HXe : Hid (Og 18 pkC 40 X we (.slice (some ⟨X, 0, none⟩) 1 1) [k]) := by rw [← hwe, ← hX]; exact og_one wd k (Nat.le_refl _)
            have HXS : Hid (W2.heap.size ≤ X ∧ X < we.heap.size) := ⟨by rw [← hX]; exact HWS.out, by rw [← hwe, ← hX]; simp⟩
            have HXN : Hid ((Value.slice (some ⟨b, 0, none⟩) ls.length cap').ownBlock ≠ some X) := fun e => by have := (HOy.out.lt X e).2; omega
            rw [hwe, hX]
            clear hwe al HPy HYy HZy HBy HOy hX hbs
            refine ⟨HSI.out _ HPe.out HYe.out, tail_end ?_⟩
            refine appPk Tryd.underlying36 rfl _ _ rfl X _ [k] rfl HXe.out _ (ls.drop j) rfl (HVD.out we (HOe.out.rd pkC_len)) (by have := HN.out; simp; omega) (by have := HXS.out.2; omega) ?_
            intro v1 wf of gf
            have gf' : we.grownBy wf (some X) := gf
            have HPf : Hid (Blk wf g (plA p (.slice (some ⟨b, 0, none⟩) ls.length cap')) 42) := HPe.out.grown gf' (fun e => by have := Option.some.inj e; have h1 := HXS.out; have h2 := HS2.out; omega)
            have HZf : Hid (Blk wf (g + 2) (plA ⟨0, 0, 0, 0, 0⟩ (.slice none 0 0)) 42) := HZe.out.grown gf' (fun e => by have := Option.some.inj e; have h1 := HXS.out; have h2 := HS2.out; omega)
            have HBf : Hid (Below w.heap.size w wf) := HBe.out.trans (grown_below gf' HBe.out.size (fun m e => by have := Option.some.inj e; have h1 := HXS.out; have h2 := HS2.out; omega))
            have HOf : Hid (Og 18 pkC 40 W2.heap.size wf (.slice (some ⟨b, 0, none⟩) ls.length cap') ls) := World.ownsRow.kept HOe.out gf' (.inr HXN.out)
            have HVf : Hid (Og 18 pkC 40 W2.heap.size wf v1 (k :: ls.drop j)) := Og.mono of HXS.out.1
            have HWf : Hid (W2.heap.size ≤ wf.heap.size) := Nat.le_trans (Nat.le_trans HXS.out.1 (Nat.le_of_lt HXS.out.2)) gf'.size
            clear of gf gf' HPe HYe HZe HBe HOe HXe
            have x5 := HPf.out.cell 5
            have f5 := HPf.out.frozen 5
            have l5 := HPf.out.lt
            simp at x5
            obtain ⟨Y, hY⟩ : ∃ Y, wf.heap.size = Y := ⟨_, rfl⟩
            obtain ⟨wg, hwg⟩ : ∃ W, wf.alloc (.cells #[] 40) = W := ⟨_, rfl⟩
            have al : Below wf.heap.size wf wg := by rw [← hwg]; exact (Below.refl _ _).alloc (Nat.le_refl _) _
            have HPg : Hid (Blk wg g (plA p (.slice (some ⟨b, 0, none⟩) ls.length cap')) 42) := HPf.out.below al HPf.out.lt
            have HZg : Hid (Blk wg (g + 2) (plA ⟨0, 0, 0, 0, 0⟩ (.slice none 0 0)) 42) := HZf.out.below al HZf.out.lt
            have HBg : Hid (Below w.heap.size w wg) := belowCall HBf.out al HBf.out.size
            have HOg : Hid (Og 18 pkC 40 W2.heap.size wg (.slice (some ⟨b, 0, none⟩) ls.length cap') ls) := HOf.out.below al
            have HVg : Hid (Og 18 pkC 40 W2.heap.size wg v1 (k :: ls.drop j)) := HVf.out.below al
            have HVN : Hid (v1.ownBlock = none ∨ v1.ownBlock ≠ some Y) := by
              cases hv : v1.ownBlock with
              | none => exact .inl rfl
              | some m => exact .inr (fun e => by have := (HVf.out.lt m hv).2; have := Option.some.inj e; omega)
            have HYg : Hid (Og 18 pkC 40 Y wg (.slice (some ⟨Y, 0, none⟩) 0 0) []) := by rw [← hwg, ← hY]; exact World.ownsRow_lit (e := 40) (size := 18) (base := wf.heap.size) wf #[] 0 (Nat.le_refl _) (by simp) (by simp)
            have HYS : Hid (W2.heap.size ≤ Y ∧ Y < wg.heap.size) := ⟨by rw [← hY]; exact HWf.out, by rw [← hwg, ← hY]; simp⟩
            have HWG : Hid (wf.alloc (.cells #[] 40) = wg ∧ wf.heap.size = Y) := ⟨hwg, hY⟩
            clear hwg hY al HPf HZf HBf HOf HVf
            go_wp2_with (at_builtin; rw [HWG.out.1]; refine appPk Tryd.underlying36 rfl _ _ rfl Y (.slice (some ⟨Y, 0, none⟩) 0 0) [] (by rw [← HWG.out.2]; rfl) HYg.out _ (ls.take j) rfl (HVT.out wg (HOg.out.rd pkC_len)) (by have := HN.out; simp; omega) (by have := HYS.out.2; omega) ?_)
            intro v2 wh oh gh
            have gh' : wg.grownBy wh (some Y) := gh
            have HPh : Hid (Blk wh g (plA p (.slice (some ⟨b, 0, none⟩) ls.length cap')) 42) := HPg.out.grown gh' (fun e => by have := Option.some.inj e; have h1 := HYS.out; have h2 := HS2.out; omega)
            have HZh : Hid (Blk wh (g + 2) (plA ⟨0, 0, 0, 0, 0⟩ (.slice none 0 0)) 42) := HZg.out.grown gh' (fun e => by have := Option.some.inj e; have h1 := HYS.out; have h2 := HS2.out; omega)
            have HBh : Hid (Below w.heap.size w wh) := HBg.out.trans (grown_below gh' HBg.out.size (fun m e => by have := Option.some.inj e; have h1 := HYS.out; have h2 := HS2.out; omega))
            have HVh : Hid (Og 18 pkC 40 W2.heap.size wh v1 (k :: ls.drop j)) := World.ownsRow.kept HVg.out gh' HVN.out
            have HTh : Hid (Og 18 pkC 40 W2.heap.size wh v2 (ls.take j)) := Og.mono oh HYS.out.1
            have HWh : Hid (W2.heap.size ≤ wh.heap.size) := Nat.le_trans (Nat.le_trans HYS.out.1 (Nat.le_of_lt HYS.out.2)) gh'.size
            clear oh gh gh' HPg HZg HBg HVg HOg HYg HWG x5 f5 l5
            go_wp2_with (at_builtin; refine appPk Tryd.underlying36 rfl _ _ rfl W2.heap.size v2 (ls.take j) rfl HTh.out v1 (k :: ls.drop j) rfl (HVh.out.rd pkC_len) (by have := HN.out; simp only [List.length_take, List.length_cons, List.length_drop]; omega) HWh.out ?_)
            intro v3 wi oi gi
            have hrow : ∀ m, v2.ownBlock = some m → W2.heap.size ≤ m := fun m e => (HTh.out.lt m e).1
            have HPi : Hid (Blk wi g (plA p (.slice (some ⟨b, 0, none⟩) ls.length cap')) 42) := HPh.out.grown gi (fun e => by have h1 := hrow _ e.symm; have h2 := HS2.out; omega)
            have HZi : Hid (Blk wi (g + 2) (plA ⟨0, 0, 0, 0, 0⟩ (.slice none 0 0)) 42) := HZh.out.grown gi (fun e => by have h1 := hrow _ e.symm; have h2 := HS2.out; omega)
            have HBi : Hid (Below w.heap.size w wi) := HBh.out.trans (grown_below gi HBh.out.size (fun m e => by have h1 := hrow _ e; have h2 := HS2.out; omega))
            obtain ⟨N3, hN3⟩ : ∃ N, (ls.take j ++ k :: ls.drop j).length = N := ⟨_, rfl⟩
            obtain ⟨a3, c3, hv3⟩ := oi.form
            rw [hN3] at hv3
            subst hv3
            have HOi : Hid (Og 18 pkC 40 W2.heap.size wi (.slice a3 N3 c3) (ls.take j ++ k :: ls.drop j)) := oi
            clear oi gi hrow hN3 HPh HZh HBh HVh HTh
            have x5 := HPi.out.cell 5
            have f5 := HPi.out.frozen 5
            have l5 := HPi.out.lt
            simp at x5
            obtain ⟨wj, hwj⟩ : ∃ W, wi.setCell ⟨g, 5, none⟩ (.slice a3 N3 c3) = W := ⟨_, rfl⟩
            have HPj : Hid (Blk wj g (plA p (.slice a3 N3 c3)) 42) := by rw [← hwj]; exact HPi.out.set 5 (.slice a3 N3 c3)
            have hgz : wi.grownBy wj (some g) := by rw [← hwj]; exact dgrown_set _ _ _ _
            have HZj : Hid (Blk wj (g + 2) (plA ⟨0, 0, 0, 0, 0⟩ (.slice none 0 0)) 42) := HZi.out.grown hgz (fun e => by have := Option.some.inj e; omega)
            have HOj : Hid (Og 18 pkC 40 W2.heap.size wj (.slice a3 N3 c3) (ls.take j ++ k :: ls.drop j)) := World.ownsRow.kept HOi.out hgz (by cases hv : (Value.slice a3 N3 c3).ownBlock with | none => exact .inl rfl | some m => exact .inr (fun e => by have := (HOi.out.lt m hv).1; have := Option.some.inj e; have := HS2.out.2; omega))
            have HBj : Hid (Below w.heap.size w wj) := by rw [← hwj]; exact HBi.out.setCell (by dsimp only; have := HGG.out; omega) _
            have HWJ : Hid (wi.setCell ⟨g, 5, none⟩ (.slice a3 N3 c3) = wj) := hwj
            clear hgz hwj HPi HZi HOi HBi
            go_upto_region 12 with fail
            rw [HWJ.out]
            clear HWJ x5 f5 l5
            have x0 := HPj.out.cell 0
            have x1 := HPj.out.cell 1
            have x2 := HPj.out.cell 2
            have x3 := HPj.out.cell 3
            have x4 := HPj.out.cell 4
            have x5 := HPj.out.cell 5
            simp at x0 x1 x2 x3 x4 x5
            go_wp2_with (refine wpList_store_row rfl 42 _ _ rfl (g + 2) (plA p (.slice a3 N3 c3)) rfl rfl 42 (plA ⟨0, 0, 0, 0, 0⟩ (.slice none 0 0)) HZj.out (by kernel_rfl) rfl (by simp [Value.oneCell']) ?_)
            have hs2 := HS2.out
            have hgw := HGG.out
            have hpf := HPF.out
            exact bodyPost_ret (results_P2 rfl _ _ (g + 2) p (.slice a3 N3 c3) _ rfl rfl (HZj.out.row _)) rfl ⟨fun _ => by rw [hpf]; exact ⟨_, rfl, Og.mono (ogRow' HOj.out hs2.2) hs2.1, belowRow HBj.out _ (by omega) _⟩, fun h => absurd HPU.out h⟩

end Go.Proofs.YtkjfcebdjnclaaaDoor
