/- The program: frames told as levels; the table is as it was laid. -/
import Derived.Test.YtkjfcebdjnclaaaDoorExi
namespace Go.Proofs.YtkjfcebdjnclaaaDoor
open Go.RowKit Go.ChangeShapes Go.WideShapes Go.ChangeAt
set_option linter.unusedVariables false
set_option linter.unusedSimpArgs false
set_option maxRecDepth 8000

theorem app2 {ops : Array Oper} {rest : List Oper} {o : Oper} {a : Act} {w : World} {Q : Exit → Act → World → Prop} (hgd : o.guard = none) (s x : Operand)
    (ho : o.op = .call { callee := .builtin .append, args := #[s, x], argTypes := #[26, 26] }) (base : Nat) (v : Value) (zs : List Int) (hs : a.eval s = v) (hown : Ow .i64 3 base w v zs)
    (g : Nat) (y z : Int) (hx : a.eval x = .slice (some ⟨g, 0, none⟩) 2 2) (hc : w.cell? ⟨g, 0, none⟩ = some (.int .i64 y)) (hc' : w.cell? ⟨g, 1, none⟩ = some (.int .i64 z)) (hl : zs.length ≤ 1099511627776) (hbase : base ≤ w.heap.size)
    (h : ∀ v' w', Ow .i64 3 base w' v' (zs ++ [y, z]) → Below base w w' → wpList Tryd.prog ops Q rest (a.put o.dst v') w') : wpList Tryd.prog ops Q (o :: rest) a w := by
  obtain ⟨i0, hi, hz0, hz1, hz2⟩ := info_parts toIInfo
  refine wpList_append_own w hgd s x 26 ho base 3 i0 (.int .i64 0) 1 8 Tryd.underlying26 hi hz0 hz1 hz2 rfl (by decide) v zs.length (zs.map (Value.int .i64)) hs hown ⟨g, 0, none⟩ 2 2 [.int .i64 y, .int .i64 z] hx rfl ?_ ?_ ?_ ?_ hbase ?_
  · intro j u hj
    match j, hj with
    | 0, hj => simp at hj; subst hj; simpa [Addr.add] using hc
    | 1, hj => simp at hj; subst hj; simpa [Addr.add] using hc'
  · intro u hu; simp at hu; rcases hu with rfl | rfl <;> rfl
  · unfold maxLen; omega
  · omega
  · intro v' w' h1 h2 h3
    refine h v' w' ?_ (hown.belowOf h2 hbase)
    simpa [Ow] using h1
/-- the numbers of a frame's first bytes -/
def frNs (f : Nat → Int) : Nat → List Int
  | 0 => []
  | j + 1 => frNs f j ++ [f (j + 1) / 16, f (j + 1) % 16]
theorem frNs_len (f : Nat → Int) : ∀ j, (frNs f j).length = 2 * j
  | 0 => rfl
  | j + 1 => by rw [frNs, List.length_append, frNs_len f j]; simp; omega
theorem frNs_bd {f : Nat → Int} (h : ∀ i, i < 16 → 0 ≤ f i ∧ f i ≤ 255) : ∀ j, j ≤ 15 → ∀ n ∈ frNs f j, 0 ≤ n ∧ n ≤ 15
  | 0, _, n, hn => by simp [frNs] at hn
  | j + 1, hj, n, hn => by
    rw [frNs, List.mem_append] at hn
    rcases hn with hn | hn
    · exact frNs_bd h j (by omega) n hn
    · have := h (j + 1) (by omega)
      simp at hn
      rcases hn with rfl | rfl <;> omega
theorem frNs_ok {f : Nat → Int} (h : ∀ i, i < 16 → 0 ≤ f i ∧ f i ≤ 255) : FrP (frNs f 15) := ⟨by rw [frNs_len]; omega, frNs_bd h 15 (by omega)⟩
/-- the boxes of a frame and of an answer -/
structure Bf (w : World) (f : Nat → Int) (W : World) : Prop where
  f : Blk W w.heap.size (A16 f) 32
  z : Blk W (w.heap.size + 1) (cdA (0, 0)) 25
  b : Below w.heap.size w W
theorem Bf.new (w : World) (f : Nat → Int) : Bf w f ((w.alloc (Obj.cells (A16 f) 32)).alloc (Obj.cells (cdA (0, 0)) 25)) :=
  ⟨(Blk.new _ _ _).alloc _, Blk.newAt _ _ _ _ (by simp), ((Below.refl _ _).alloc (Nat.le_refl _) _).alloc (by simp) _⟩
theorem Bf.call {w : World} {f : Nat → Int} {W W' : World} (h : Bf w f W) {B : Nat} (hb : Below B W W') (hB : w.heap.size + 2 ≤ B) : Bf w f W' := ⟨h.f.below hb (by omega), h.z.below hb (by omega), h.b.trans (hb.mono (by omega))⟩
theorem Bf.ge {w : World} {f : Nat → Int} {W : World} (h : Bf w f W) : w.heap.size + 2 ≤ W.heap.size := h.z.lt
theorem Bf.fin {w : World} {f : Nat → Int} {W : World} (h : Bf w f W) (d : Int × Int) : Blk (W.setRow (w.heap.size + 1) (cdA d)) (w.heap.size + 1) (cdA d) 25 ∧ Below w.heap.size w (W.setRow (w.heap.size + 1) (cdA d)) := ⟨h.z.row _, belowRow h.b _ (by omega) _⟩
/-- what OfFrame answers -/
def OfR (l : Int) (f : Nat → Int) (w : World) (e : Ending) (w' : World) : Prop := (COk (l, f 0) → CdR (exL (l, f 0) (frNs f 15)) (cdE (l, f 0) (frNs f 15)) true w e w') ∧ (¬ COk (l, f 0) → CdR [] (0, 0) false w e w')
set_option maxHeartbeats 6400000 in
theorem ofI_c (l : Int) (f : Nat → Int) (hf : ∀ i, i < 16 → 0 ≤ f i ∧ f i ≤ 255) (w : World) (hG : ChG w) : Calls Tryd.prog 23 #[.int .i64 l, .agg (A16 f)] w (OfR l f w) := by
  have HG : Hid (ChG w) := hG
  have HF : Hid (∀ i, i < 16 → 0 ≤ f i ∧ f i ≤ 255) := hf
  obtain ⟨i0, hi, hz0, hz1, hz2⟩ := info_parts toIInfo
  obtain ⟨W1, hW1⟩ : ∃ W, (w.alloc (Obj.cells (A16 f) 32)).alloc (Obj.cells (cdA (0, 0)) 25) = W := ⟨_, rfl⟩
  have HX1 : Hid (Bf w f W1) := by rw [← hW1]; exact Bf.new w f
  have HG2 : Hid (W1.heap.size = w.heap.size + 2) := by rw [← hW1]; show _ = _; simp
  clear hG hf
  go_enter Tryd.func23, Tryd.ntmps23
  go_wp2_with (at_make; refine wpList_make_own _ rfl _ _ 26 rfl W1.heap.size 3 i0 (.int .i64 0) 1 Tryd.underlying26 hi hz0 hz1 .i64 .i64 _ 30 rfl rfl rfl (by rw [hz2]; omega) (by unfold maxLen; omega) (Nat.le_refl _) ?_)
  intro w2 ho hg
  have b2 : Below W1.heap.size W1 w2 := grown_below hg (Nat.le_refl _) (by simp)
  have HX2 : Hid (Bf w f w2) := HX1.out.call b2 (by have := HG2.out; omega)
  have HO2 : Hid (Ow .i64 3 W1.heap.size w2 (.slice (some ⟨W1.heap.size, 0, none⟩) 0 30) (frNs f 0)) := ho
  obtain ⟨g2, hg2⟩ : ∃ g, W1.heap.size = g := ⟨_, rfl⟩
  rw [hg2] at HO2 HG2 ⊢
  clear ho hg b2 hg2 hW1 HX1
  go_wp2
  go_loopw [7, 13] (fun vo i wr => ∃ j : Nat, ∃ v' : Value, j ≤ 15 ∧ i = .int .i64 j ∧ v' = vo ∧ Hid (Bf w f wr ∧ Ow .i64 3 g2 wr v' (frNs f j))) (fun _ i _ => 15 - (intOf i).toNat)
  case atStart => exact ⟨0, _, Nat.zero_le _, rfl, rfl, HX2.out, HO2.out⟩
  case round =>
    obtain ⟨j, vo, hj, rfl, hvo, hw⟩ := hrel
    subst hvo
    clear HX2 HO2
    by_cases hlt : j < 15
    case neg =>
      obtain rfl : j = 15 := by omega
      have HXW : Hid (Bf w f wr) := hw.out.1
      have HOW : Hid (Ow .i64 3 g2 wr vo (frNs f 15)) := hw.out.2
      have hc : wr.cell? ⟨w.heap.size, 0, none⟩ = some (.int .u8 (f 0)) := by rw [HXW.out.f.cell 0]; exact A16_at f 0 (by decide)
      have hb0 := (HF.out 0 (by decide)).1
      have hb1 := (HF.out 0 (by decide)).2
      have HNS : Hid (FrP (frNs f 15)) := frNs_ok HF.out
      clear hw
      go_wp2_with (fail)
      refine (exI_c (l, f 0) vo (frNs f 15) wr HOW.out.rd (HG.out.below HXW.out.b HG.out.lt)).mono ?_
      rintro e w3 ⟨hy, hn⟩
      by_cases hP : COk (l, f 0)
      · obtain ⟨v3, rfl, o3, b3⟩ := hy ⟨hP, HNS.out⟩
        have HP : Hid (COk (l, f 0)) := hP
        have X3 := HXW.out.call b3 HXW.out.ge
        have HX3 : Hid (Bf w f w3) := X3
        have HO3 : Hid (Ow .i64 3 w.heap.size (w3.setRow (w.heap.size + 1) (cdA (cdE (l, f 0) (frNs f 15)))) v3 (exL (l, f 0) (frNs f 15))) := (Ow.putRow (base := wr.heap.size) o3 (by have := HXW.out.ge; omega)).mono (by have := HXW.out.ge; omega)
        clear hy hn hP o3 b3 X3 hc
        go_wp2_with (refine wpList_store_row rfl 25 _ _ rfl (w.heap.size + 1) _ rfl rfl 25 (cdA (0, 0)) HX3.out.z sizeCd rfl (by simp [Value.oneCell']) ?_)
        have hf := HX3.out.fin (cdE (l, f 0) (frNs f 15))
        exact bodyPost_ret (results_E rfl _ _ (w.heap.size + 1) (cdE (l, f 0) (frNs f 15)) _ _ rfl rfl rfl hf.1) rfl ⟨fun _ => ⟨_, rfl, HO3.out, hf.2⟩, fun h => absurd HP.out h⟩
      · obtain ⟨v3, rfl, o3, b3⟩ := hn (fun h => hP h.1)
        have HP : Hid (¬ COk (l, f 0)) := hP
        have X3 := HXW.out.call b3 HXW.out.ge
        have HX3 : Hid (Bf w f w3) := X3
        have HO3 : Hid (Ow .i64 3 w.heap.size (w3.setRow (w.heap.size + 1) (cdA (0, 0))) v3 []) := (Ow.putRow (base := wr.heap.size) o3 (by have := HXW.out.ge; omega)).mono (by have := HXW.out.ge; omega)
        clear hy hn hP o3 b3 X3 hc
        go_wp2_with (refine wpList_store_row rfl 25 _ _ rfl (w.heap.size + 1) _ rfl rfl 25 (cdA (0, 0)) HX3.out.z sizeCd rfl (by simp [Value.oneCell']) ?_)
        have hf := HX3.out.fin (0, 0)
        exact bodyPost_ret (results_E rfl _ _ (w.heap.size + 1) (0, 0) _ _ rfl rfl rfl hf.1) rfl ⟨fun h => absurd h HP.out, fun _ => ⟨_, rfl, HO3.out, hf.2⟩⟩
    case pos =>
    have HXW : Hid (Bf w f wr) := hw.out.1
    have HOW : Hid (Ow .i64 3 g2 wr vo (frNs f j)) := hw.out.2
    have HNS : Hid (frNs f (j + 1) = frNs f j ++ [f (j + 1) / 16, f (j + 1) % 16]) := rfl
    obtain ⟨x, hx⟩ : ∃ x, f (j + 1) = x := ⟨_, rfl⟩
    have hb0 := (HF.out (j + 1) (by omega)).1
    have hb1 := (HF.out (j + 1) (by omega)).2
    have hc : wr.cell? ⟨w.heap.size, 1 + j, none⟩ = some (.int .u8 x) := by rw [HXW.out.f.cell (1 + j), ← hx, Nat.add_comm j 1]; exact A16_at f (1 + j) (by omega)
    rw [hx] at HNS hb0 hb1
    have HEL : Hid ((frNs f j).length = 2 * j) := frNs_len f j
    have HGW : Hid (g2 ≤ wr.heap.size) := by have := HXW.out.ge; have := HG2.out; show _ ≤ _; omega
    have hi1 : (0 : Int) ≤ (j : Int) := by omega
    have hi2 : (j : Int) < 15 := by omega
    clear hw hx
    go_wp2_with (at_builtin; refine app2 rfl (.tmp 17) (.tmp 24) rfl g2 _ (frNs f j) rfl (HOW.out.alloc _) wr.heap.size (x / 16) (x % 16) rfl (by simp) (by simp) (by have := HEL.out; omega) (by have := HGW.out; simp; omega) ?_)
    intro v6 w6 ho hb
    have hg2 := HG2.out
    have X5 : Bf w f (wr.alloc (Obj.cells #[.int .i64 (x / 16), .int .i64 (x % 16)] 3)) := HXW.out.call (B := wr.heap.size) ((Below.refl _ _).alloc (Nat.le_refl _) _) HXW.out.ge
    have HFIN : Hid (Bf w f w6 ∧ Ow .i64 3 g2 w6 v6 (frNs f (j + 1))) := ⟨X5.call hb (by omega), by rw [HNS.out]; exact ho⟩
    clear ho hb X5 hg2 hc
    go_wp2
    go_roundw
    case rel => exact ⟨j + 1, _, by omega, by go_num, rfl, HFIN.out⟩
    case measure => simp [intOf]; omega

end Go.Proofs.YtkjfcebdjnclaaaDoor
