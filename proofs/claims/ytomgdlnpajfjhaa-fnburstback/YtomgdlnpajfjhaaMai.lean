/- Match14 of the program; no condition. -/
import Derived.Test.YtomgdlnpajfjhaaSui
import Derived.Test.YtomgdlnpajfjhaaQu2
import Derived.Test.YtomgdlnpajfjhaaDet
namespace Go.Proofs.Ytomgdlnpajfjhaa
open Go.RowKit Go.ChangeShapes Go.WideShapes Go.ChangeAt
set_option linter.unusedVariables false
set_option linter.unusedSimpArgs false
set_option maxRecDepth 8000
theorem negU (k : FloatKind) (b : Nat) (w : World) : (Op.unary .neg (.float k b)).run Try.prog w = .ok (.float k (Op.negFloat k b)) w := rfl
theorem turned_c (a b : Nat) (w : World) : Calls Try.prog 52 #[.complex .f32 a b] w fun e w' => e = .returned (.complex .f32 a (Op.negFloat .f32 b)) ∧ w' = w := by
  have hng := negU
  go_enter Try.func52, Try.ntmps52
  go_wp2
  go_ret
  exact ⟨rfl, rfl⟩
theorem within_c (n l m : Int) (w : World) : Calls Try.prog 38 #[.int .i64 n, .int .i64 l, .int .i64 m] w fun e w' => e = .returned (.bool (decide (l ≤ n) && decide (n ≤ m))) ∧ w' = w := by
  by_cases h1 : l ≤ n
  · by_cases h2 : n ≤ m
    · go_enter Try.func38, Try.ntmps38
      go_wp2
      go_ret
      exact ⟨by simp [h1, h2], rfl⟩
    · go_enter Try.func38, Try.ntmps38
      go_wp2
      go_ret
      exact ⟨by simp [h1, h2], rfl⟩
  · go_enter Try.func38, Try.ntmps38
    go_wp2
    go_ret
    exact ⟨by simp; omega, rfl⟩
theorem in_c (n l m : Int) (w : World) : Calls Try.prog 54 #[.int .i64 n, .int .i64 l, .int .i64 m] w fun e w' => e = .returned (.bool (decide (l ≤ n) && decide (n ≤ m))) ∧ w' = w := by
  by_cases h1 : l ≤ n
  · by_cases h2 : n ≤ m
    · go_enter Try.func54, Try.ntmps54
      go_wp2
      go_ret
      exact ⟨by simp [h1, h2], rfl⟩
    · go_enter Try.func54, Try.ntmps54
      go_wp2
      go_ret
      exact ⟨by simp [h1, h2], rfl⟩
  · go_enter Try.func54, Try.ntmps54
    go_wp2
    go_ret
    exact ⟨by simp; omega, rfl⟩
/-- one part of a product of two widened samples, the second one turned -/
def pXR (p r c d : Nat) : Option Nat := fo .sub .f64 (fo .mul .f64 ((fc .f32 p).map wid) ((fc .f32 c).map wid)) (fo .mul .f64 ((fc .f32 r).map wid) ((fc .f32 (Op.negFloat .f32 d)).map wid))
def pXI (p r c d : Nat) : Option Nat := fo .add .f64 (fo .mul .f64 ((fc .f32 p).map wid) ((fc .f32 (Op.negFloat .f32 d)).map wid)) (fo .mul .f64 ((fc .f32 r).map wid) ((fc .f32 c).map wid))
def mtF (f : Nat → Nat → Nat → Nat → Option Nat) (ls ks : List (Nat × Nat)) : Nat → Option Nat
  | 0 => some 0
  | j + 1 => fo .add .f64 (mtF f ls ks j) (f (ls.getD j (0, 0)).1 (ls.getD j (0, 0)).2 (ks.getD j (0, 0)).1 (ks.getD j (0, 0)).2)
def mtB (ls ks : List (Nat × Nat)) : Bool := decide (ls.length = ks.length) && decide (1 ≤ ls.length) && decide (ls.length ≤ 200)
def mtN (ls ks : List (Nat × Nat)) : Nat := if mtB ls ks then ls.length else 0
def MtR (ls ks : List (Nat × Nat)) (w : World) (e : Ending) (w' : World) : Prop := ∃ u q, e = .returned (.tuple #[.agg #[.float .f64 u, .float .f64 q], .bool (mtB ls ks)]) ∧ fc .f64 u = mtF pXR ls ks (mtN ls ks) ∧ fc .f64 q = mtF pXI ls ks (mtN ls ks) ∧ Below w.heap.size w w'
theorem wp_conv {P : Program} {o : Oper} {a : Act} {w w' : World} {K : Act → World → Prop} {Q : Exit → Act → World → Prop} (s t : TypeId) (x : Operand) (ho : o.op = .convert s t x) {v u : Value} (hx : a.eval x = v) (hr : (convert s t v).run P w = .ok u w') (h : K (a.put o.dst u) w') : o.wp P a w K Q :=
  wp_val u (by simp only [execOp, ho, hx, Sem.run_bind, hr, Result.andThen_ok, Sem.run_pure]) h
theorem wp_bin {P : Program} {o : Oper} {a : Act} {w w' : World} {K : Act → World → Prop} {Q : Exit → Act → World → Prop} (op : BinOp) (t t' : TypeId) (x y : Operand) (ho : o.op = .binOp op t x y t') (hop : op = .add ∨ op = .sub ∨ op = .mul) {v v' u : Value} (hx : a.eval x = v) (hy : a.eval y = v') (hr : (binOp op t v v').run P w = .ok u w') (h : K (a.put o.dst u) w') : o.wp P a w K Q :=
  wp_val u (by rcases hop with rfl | rfl | rfl <;> simp [execOp, eqGuard, ho, hx, hy, Sem.run_bind, hr, Result.andThen_ok, Sem.run_pure]) h
theorem rangeAt2 {W : World} {b off p r : Nat} (h0 : W.cell? ⟨b, off, none⟩ = some (.float .f32 p)) (h1 : W.cell? ⟨b, off + 1, none⟩ = some (.float .f32 r)) : W.rangeAt b off (smC (p, r)) := by
  intro j v hv
  match j, hv with
  | 0, hv => simp [smC] at hv; subst hv; exact h0
  | 1, hv => simp [smC] at hv; subst hv; exact h1
def JMi (sa jv : Value) (pt : Addr) (u y p r c z : Nat) (U : Value → Value → Value → Value → Value → Value → Value → Value → Value → Value → Value → Value → Value → Value → Act) (S : World → Prop) (d : Nat → Bool) (A : Act) (W : World) : Prop :=
  ∃ x0 x1 x2 x3 x4 x5 x6 x7 x8 x9 x10 x11 x12 x13 : Value, A = U x0 x1 x2 x3 x4 x5 x6 x7 x8 x9 x10 x11 x12 x13 ∧ S W ∧ (d 13 = false → x13 = .complex .f64 u y) ∧ (d 13 = true → d 0 = true) ∧ (d 0 = true → x0 = .complex .f64 u y) ∧ (d 1 = true → x1 = .agg #[.float .f32 p, .float .f32 r]) ∧ (d 2 = true → x2 = .complex .f32 p r) ∧ (d 3 = true → ∃ A B, x3 = .complex .f64 A B ∧ fc .f64 A = (fc .f32 p).map wid ∧ fc .f64 B = (fc .f32 r).map wid) ∧ (d 4 = true → x4 = sa) ∧ (d 5 = true → x5 = jv) ∧ (d 6 = true → x6 = .pointer (some pt)) ∧ (d 7 = true → x7 = .agg #[.float .f32 c, .float .f32 z]) ∧ (d 8 = true → x8 = .complex .f32 c z) ∧ (d 9 = true → x9 = .complex .f32 c (Op.negFloat .f32 z)) ∧ (d 10 = true → ∃ A B, x10 = .complex .f64 A B ∧ fc .f64 A = (fc .f32 c).map wid ∧ fc .f64 B = (fc .f32 (Op.negFloat .f32 z)).map wid) ∧ (d 11 = true → ∃ A B, x11 = .complex .f64 A B ∧ fc .f64 A = pXR p r c z ∧ fc .f64 B = pXI p r c z) ∧ (d 12 = true → ∃ A B, x12 = .complex .f64 A B ∧ fc .f64 A = fo .add .f64 (fc .f64 u) (pXR p r c z) ∧ fc .f64 B = fo .add .f64 (fc .f64 y) (pXI p r c z)) ∧ (d 13 = true → ∃ A B, x13 = .complex .f64 A B ∧ fc .f64 A = fo .add .f64 (fc .f64 u) (pXR p r c z) ∧ fc .f64 B = fo .add .f64 (fc .f64 y) (pXI p r c z))
set_option maxHeartbeats 6400000 in
theorem matchI_c (v k : Value) (ls ks : List (Nat × Nat)) (w : World) (h : Rg 2 smC w v ls) (h' : Rg 2 smC w k ks) : Calls Try.prog 39 #[v, k] w (MtR ls ks w) := by
  obtain ⟨a, cap, rfl, h1, h2, h3⟩ := h
  obtain ⟨a', cap', rfl, h1', h2', h3'⟩ := h'
  unfold maxLen at h2 h2'
  have hsf := storeF
  have hcv := fun s d a b w hs hd => run_conv_cwid (P := Try.prog) s d a b w hs hd
  obtain ⟨W0, hW0⟩ : ∃ W, w.alloc (Obj.cells #[.float .f64 0, .float .f64 0] 38) = W := ⟨_, rfl⟩
  have HW0 : Hid (w.alloc (Obj.cells #[.float .f64 0, .float .f64 0] 38) = W0) := hW0
  have HB0 : Hid (Below w.heap.size w W0) := by rw [← hW0]; exact (Below.refl _ _).alloc (Nat.le_refl _) _
  have HK0 : Hid (Blk W0 w.heap.size #[.float .f64 0, .float .f64 0] 38) := by rw [← hW0]; exact Blk.new _ _ _
  clear hW0
  by_cases hle : ls.length = ks.length
  case neg =>
    have HM : Hid (mtB ls ks = false) := by show _ = _; unfold mtB; rw [decide_eq_false hle]; rfl
    have HN : Hid (mtN ls ks = 0) := by show _ = _; unfold mtN; rw [HM.out]; rfl
    have hne : ((ls.length : Int) != (ks.length : Int)) = true := by rw [bne_iff_ne]; omega
    clear hle h3 h3'
    go_enter Try.func39, Try.ntmps39
    go_wp2
    rw [HW0.out]
    refine bodyPost_ret (results_W2 rfl _ _ _ _ _ _ rfl rfl HK0.out) rfl ⟨0, 0, by rw [HM.out]; rfl, ?_, ?_, HB0.out⟩
    · rw [HN.out]; exact fcd0
    · rw [HN.out]; exact fcd0
  have hne : ((ls.length : Int) != (ks.length : Int)) = false := by rw [hle]; simp
  have HLE : Hid (ls.length = ks.length) := hle
  by_cases hin : 1 ≤ ls.length ∧ ls.length ≤ 200
  case neg =>
    have HM : Hid (mtB ls ks = false) := by
      show _ = _
      unfold mtB
      by_cases h1 : 1 ≤ ls.length
      · rw [decide_eq_false (show ¬ ls.length ≤ 200 from fun h => hin ⟨h1, h⟩)]; simp
      · rw [decide_eq_false h1]; simp
    have HN : Hid (mtN ls ks = 0) := by show _ = _; unfold mtN; rw [HM.out]; rfl
    have HW : Hid ((decide ((1 : Int) ≤ (ls.length : Int)) && decide ((ls.length : Int) ≤ 200)) = false) := by
      show _ = _
      by_cases h1 : 1 ≤ ls.length
      · rw [decide_eq_false (show ¬ (ls.length : Int) ≤ 200 from fun h => hin ⟨h1, by omega⟩)]; simp
      · rw [decide_eq_false (show ¬ (1 : Int) ≤ (ls.length : Int) by omega)]; simp
    clear hle hin h3 h3'
    go_enter Try.func39, Try.ntmps39
    go_wp2_with (fail)
    refine (within_c _ _ _ _).mono ?_
    rintro e w' ⟨rfl, hw⟩
    rw [hw, HW.out]
    clear hw
    go_wp2
    rw [HW0.out]
    refine bodyPost_ret (results_W2 rfl _ _ _ _ _ _ rfl rfl HK0.out) rfl ⟨0, 0, by rw [HM.out]; rfl, ?_, ?_, HB0.out⟩
    · rw [HN.out]; exact fcd0
    · rw [HN.out]; exact fcd0
  have HM : Hid (mtB ls ks = true) := by show _ = _; unfold mtB; rw [decide_eq_true hle, decide_eq_true hin.1, decide_eq_true hin.2]; rfl
  have HN : Hid (mtN ls ks = ls.length) := by show _ = _; unfold mtN; rw [HM.out]; rfl
  have HW : Hid ((decide ((1 : Int) ≤ (ls.length : Int)) && decide ((ls.length : Int) ≤ 200)) = true) := by
    show _ = _
    rw [decide_eq_true (show (1 : Int) ≤ (ls.length : Int) by omega), decide_eq_true (show (ls.length : Int) ≤ 200 by omega)]; rfl
  have hin1 := hin.2
  clear hle hin
  go_enter Try.func39, Try.ntmps39
  go_wp2_with (fail)
  refine (within_c _ _ _ _).mono ?_
  rintro e w' ⟨rfl, hw⟩
  rw [hw, HW.out]
  clear hw
  go_wp2
  rw [HW0.out]
  go_loopw [6, 23] (fun s i wr => ∃ (j u y : Nat), j ≤ ls.length ∧ i = .int .i64 j ∧ s = .complex .f64 u y ∧ Hid (fc .f64 u = mtF pXR ls ks j ∧ fc .f64 y = mtF pXI ls ks j) ∧ Hid (Below W0.heap.size W0 wr)) (fun _ i _ => ls.length - (intOf i).toNat)
  case atStart => exact ⟨0, 0, 0, Nat.zero_le _, rfl, rfl, ⟨fcd0, fcd0⟩, Below.refl _ _⟩
  case round =>
    obtain ⟨j, u, y, hj, rfl, rfl, HF, HB⟩ := hrel
    by_cases hlt : j < ls.length
    case neg =>
      obtain rfl : j = ls.length := by omega
      clear h3 h3'
      go_wp2_with (fail)
      refine (wideOf_c u y _).mono ?_
      rintro e w1 ⟨rfl, b1⟩
      have HB1 : Hid (Below W0.heap.size W0 w1) := HB.out.trans (b1.mono HB.out.size)
      have K0 := HK0.out.below HB1.out HK0.out.lt
      have HKa : Hid (Blk w1 w.heap.size #[.float .f64 0, .float .f64 0] 38) := K0
      have z0 := K0.cell 0
      have z1 := K0.cell 1
      have f0 := K0.frozen 0
      have f1 := K0.frozen 1
      simp at z0 z1
      clear K0 b1
      go_wp2
      refine bodyPost_ret (results_W2 rfl _ _ _ _ _ _ rfl rfl (Blk.set2 HKa.out _ _)) rfl ⟨u, y, by rw [HM.out]; rfl, ?_, ?_, below_set2 (belowCall HB0.out HB1.out HB0.out.size) _ (by omega) _ _⟩
      · rw [HN.out]; exact HF.out.1
      · rw [HN.out]; exact HF.out.2
    rcases h3 with h3 | ⟨b, off, rfl, h4⟩
    · subst h3; simp at hlt
    have hlk : j < ks.length := by have := HLE.out; omega
    rcases h3' with h3' | ⟨b', off', rfl, h4'⟩
    · subst h3'; simp at hlk
    have hcb : b < w.heap.size := block_lt_of_cell (h4 j hlt 0 _ rfl)
    have hcb' : b' < w.heap.size := block_lt_of_cell (h4' j hlk 0 _ rfl)
    have hc := rangeAt_below (h4 j hlt) (belowCall HB0.out HB.out HB0.out.size) hcb
    obtain ⟨⟨p, r⟩, hpr⟩ : ∃ k, ls[j] = k := ⟨_, rfl⟩
    obtain ⟨⟨c, z⟩, hcd⟩ : ∃ k, ks[j] = k := ⟨_, rfl⟩
    have HG : Hid (ls.getD j (0, 0) = (p, r)) := by show _ = _; rw [List.getD_eq_getElem?_getD, List.getElem?_eq_getElem hlt, hpr]; rfl
    have HG' : Hid (ks.getD j (0, 0) = (c, z)) := by show _ = _; rw [List.getD_eq_getElem?_getD, List.getElem?_eq_getElem hlk, hcd]; rfl
    have HR' : Hid (w.rangeAt b' (off' + j * 2) (smC (c, z))) := by have := h4' j hlk; rw [hcd] at this; exact this
    rw [hpr] at hc
    have hc0 : wr.cell? ⟨b, off + j * 2, none⟩ = some (.float .f32 p) := hc 0 _ rfl
    have hc1 : wr.cell? ⟨b, off + j * 2 + 1, none⟩ = some (.float .f32 r) := hc 1 _ rfl
    have hlkI : (j : Int) < (ks.length : Int) := by omega
    clear h4 h4' hc hpr hcd
    obtain ⟨W1, hW1⟩ : ∃ W, wr.alloc (Obj.cells #[.float .f32 p, .float .f32 r] 27) = W := ⟨_, rfl⟩
    have HW1 : Hid (wr.alloc (Obj.cells #[.float .f32 p, .float .f32 r] 27) = W1) := hW1
    have HB1 : Hid (Below W0.heap.size W0 W1) := by rw [← hW1]; exact HB.out.alloc HB.out.size _
    have HK : Hid (Blk W1 wr.heap.size #[.float .f32 p, .float .f32 r] 27) := by rw [← hW1]; exact Blk.new _ _ _
    clear hW1
    go_wp2
    rw [HW1.out]
    obtain ⟨gb, hgb⟩ : ∃ g, wr.heap.size = g := ⟨_, rfl⟩
    have HGB : Hid (wr.heap.size = gb) := hgb
    rw [hgb] at HK ⊢
    have CE : Hid (∀ U, Below W1.drew.heap.size W1.drew U → U.cell? ⟨gb, 0, none⟩ = some (.float .f32 p) ∧ U.cell? ⟨gb, 1, none⟩ = some (.float .f32 r) ∧ U.cell? ⟨b', off' + j * 2, none⟩ = some (.float .f32 c) ∧ U.cell? ⟨b', off' + j * 2 + 1, none⟩ = some (.float .f32 z)) := fun U hU => by
      have hB : Below W1.heap.size W1 U := (Below.refl _ _).drew.trans hU
      have hK := HK.out.below hB HK.out.lt
      have hR := rangeAt_below HR'.out (belowCall HB0.out (HB1.out.trans (hB.mono HB1.out.size)) HB0.out.size) hcb'
      exact ⟨by rw [hK.cell]; rfl, by rw [hK.cell]; rfl, hR 0 _ rfl, hR 1 _ rfl⟩
    clear hgb hc0 hc1
    refine region_inv (by kernel_rfl) (by kernel_rfl) (JMi (.slice (some ⟨b', off', none⟩) ks.length cap') (.int .i64 j) ⟨b', off' + j * 2, none⟩ u y p r c z (fun x0 x1 x2 x3 x4 x5 x6 x7 x8 x9 x10 x11 x12 x13 => ⟨#[(.slice (some ⟨b, off, none⟩) ls.length cap), (.slice (some ⟨b', off', none⟩) ks.length cap'), undef, undef, .pointer (some ⟨w.heap.size, 0, none⟩), .bool false, x13, .int .i64 j, .pointer (some ⟨gb, 0, none⟩), (.slice (some ⟨b, off, none⟩) ls.length cap), .int .i64 ls.length, (.slice (some ⟨b', off', none⟩) ks.length cap'), .int .i64 ks.length, .bool false, .bool false, (.slice (some ⟨b, off, none⟩) ls.length cap), .int .i64 ls.length, .bool true, .bool false, .bool false, undef, (.slice (some ⟨b, off, none⟩) ls.length cap), .int .i64 ls.length, .int .i64 j, .bool true, .int .i64 j, .pointer (some ⟨b, off + j * 2, none⟩), .agg #[.float .f32 p, .float .f32 r], x0, x1, x2, x3, x4, x5, x6, x7, x8, x9, x10, x11, x12, u41, undef, undef], []⟩) (Below W1.drew.heap.size W1.drew)) ⟨_, _, _, _, _, _, _, _, _, _, _, _, _, _, rfl, Below.refl _ _, fun _ => rfl, (fun h => Bool.noConfusion h), (fun h => Bool.noConfusion h), (fun h => Bool.noConfusion h), (fun h => Bool.noConfusion h), (fun h => Bool.noConfusion h), (fun h => Bool.noConfusion h), (fun h => Bool.noConfusion h), (fun h => Bool.noConfusion h), (fun h => Bool.noConfusion h), (fun h => Bool.noConfusion h), (fun h => Bool.noConfusion h), (fun h => Bool.noConfusion h), (fun h => Bool.noConfusion h), (fun h => Bool.noConfusion h), (fun h => Bool.noConfusion h)⟩ ⟨?_, ?_, ?_, ?_, ?_, ?_, ?_, ?_, ?_, ?_, ?_, ?_, ?_, ?_, trivial⟩ ?_
    · rintro d A W ⟨x0, x1, x2, x3, x4, x5, x6, x7, x8, x9, x10, x11, x12, x13, rfl, I, es, ec, e0, e1, e2, e3, e4, e5, e6, e7, e8, e9, e10, e11, e12, e13⟩ hn hd
      have h13 : d 13 = false := by cases h : d 13 with | false => rfl | true => rw [ec h] at hn; cases hn
      obtain rfl := es h13
      exact wp_val _ rfl ⟨_, x1, x2, x3, x4, x5, x6, x7, x8, x9, x10, x11, x12, _, rfl, I, fun _ => rfl, fun _ => rfl, fun _ => rfl, e1, e2, e3, e4, e5, e6, e7, e8, e9, e10, e11, e12, e13⟩
    · rintro d A W ⟨x0, x1, x2, x3, x4, x5, x6, x7, x8, x9, x10, x11, x12, x13, rfl, I, es, ec, e0, e1, e2, e3, e4, e5, e6, e7, e8, e9, e10, e11, e12, e13⟩ hn hd
      obtain ⟨g0, g1, g2, g3⟩ := CE.out W I
      exact wp_load_mid 27 _ rfl gb 0 rfl (smC (p, r)) _ (rangeAt2 g0 g1) Try.underlying27 rfl sizeSm ⟨x0, _, x2, x3, x4, x5, x6, x7, x8, x9, x10, x11, x12, x13, rfl, I, es, ec, e0, fun _ => rfl, e2, e3, e4, e5, e6, e7, e8, e9, e10, e11, e12, e13⟩
    · rintro d A W ⟨x0, x1, x2, x3, x4, x5, x6, x7, x8, x9, x10, x11, x12, x13, rfl, I, es, ec, e0, e1, e2, e3, e4, e5, e6, e7, e8, e9, e10, e11, e12, e13⟩ hn hd
      obtain rfl := e1 (hd ⟨1, .data⟩ (by simp))
      refine wp_call 32 #[.agg #[.float .f32 p, .float .f32 r]] (by kernel_rfl) _ (inSingle_c p r W) ?_
      rintro e' W' ⟨rfl, hb1⟩
      exact ⟨_, rfl, x0, _, _, x3, x4, x5, x6, x7, x8, x9, x10, x11, x12, x13, rfl, belowCall I hb1 I.size, es, ec, e0, e1, fun _ => rfl, e3, e4, e5, e6, e7, e8, e9, e10, e11, e12, e13⟩
    · rintro d A W ⟨x0, x1, x2, x3, x4, x5, x6, x7, x8, x9, x10, x11, x12, x13, rfl, I, es, ec, e0, e1, e2, e3, e4, e5, e6, e7, e8, e9, e10, e11, e12, e13⟩ hn hd
      obtain rfl := e2 (hd ⟨2, .data⟩ (by simp))
      exact wp_conv 55 65 _ rfl rfl (run_conv_cwid (P := Try.prog) 55 65 p r W (by kernel_rfl) Try.underlying65) ⟨x0, x1, _, _, x4, x5, x6, x7, x8, x9, x10, x11, x12, x13, rfl, below_drewN I _, es, ec, e0, e1, e2, fun _ => ⟨_, _, rfl, fc_wv _ _, fc_wv _ _⟩, e4, e5, e6, e7, e8, e9, e10, e11, e12, e13⟩
    · rintro d A W ⟨x0, x1, x2, x3, x4, x5, x6, x7, x8, x9, x10, x11, x12, x13, rfl, I, es, ec, e0, e1, e2, e3, e4, e5, e6, e7, e8, e9, e10, e11, e12, e13⟩ hn hd
      exact wp_val _ rfl ⟨x0, x1, x2, x3, _, x5, x6, x7, x8, x9, x10, x11, x12, x13, rfl, I, es, ec, e0, e1, e2, e3, fun _ => rfl, e5, e6, e7, e8, e9, e10, e11, e12, e13⟩
    · rintro d A W ⟨x0, x1, x2, x3, x4, x5, x6, x7, x8, x9, x10, x11, x12, x13, rfl, I, es, ec, e0, e1, e2, e3, e4, e5, e6, e7, e8, e9, e10, e11, e12, e13⟩ hn hd
      exact wp_val _ rfl ⟨x0, x1, x2, x3, x4, _, x6, x7, x8, x9, x10, x11, x12, x13, rfl, I, es, ec, e0, e1, e2, e3, e4, fun _ => rfl, e6, e7, e8, e9, e10, e11, e12, e13⟩
    · rintro d A W ⟨x0, x1, x2, x3, x4, x5, x6, x7, x8, x9, x10, x11, x12, x13, rfl, I, es, ec, e0, e1, e2, e3, e4, e5, e6, e7, e8, e9, e10, e11, e12, e13⟩ hn hd
      obtain rfl := e4 (hd ⟨4, .data⟩ (by simp))
      obtain rfl := e5 (hd ⟨5, .data⟩ (by simp))
      exact ixwSm _ _ rfl b' off' ks.length cap' j rfl rfl hlk ⟨x0, x1, x2, x3, _, _, _, x7, x8, x9, x10, x11, x12, x13, rfl, I, es, ec, e0, e1, e2, e3, e4, e5, fun _ => rfl, e7, e8, e9, e10, e11, e12, e13⟩
    · rintro d A W ⟨x0, x1, x2, x3, x4, x5, x6, x7, x8, x9, x10, x11, x12, x13, rfl, I, es, ec, e0, e1, e2, e3, e4, e5, e6, e7, e8, e9, e10, e11, e12, e13⟩ hn hd
      obtain ⟨g0, g1, g2, g3⟩ := CE.out W I
      obtain rfl := e6 (hd ⟨6, .data⟩ (by simp))
      exact wp_load_mid 27 _ rfl b' (off' + j * 2) rfl (smC (c, z)) _ (rangeAt2 g2 g3) Try.underlying27 rfl sizeSm ⟨x0, x1, x2, x3, x4, x5, _, _, x8, x9, x10, x11, x12, x13, rfl, I, es, ec, e0, e1, e2, e3, e4, e5, e6, fun _ => rfl, e8, e9, e10, e11, e12, e13⟩
    · rintro d A W ⟨x0, x1, x2, x3, x4, x5, x6, x7, x8, x9, x10, x11, x12, x13, rfl, I, es, ec, e0, e1, e2, e3, e4, e5, e6, e7, e8, e9, e10, e11, e12, e13⟩ hn hd
      obtain rfl := e7 (hd ⟨7, .data⟩ (by simp))
      refine wp_call 32 #[.agg #[.float .f32 c, .float .f32 z]] (by kernel_rfl) _ (inSingle_c c z W) ?_
      rintro e' W' ⟨rfl, hb1⟩
      exact ⟨_, rfl, x0, x1, x2, x3, x4, x5, x6, _, _, x9, x10, x11, x12, x13, rfl, belowCall I hb1 I.size, es, ec, e0, e1, e2, e3, e4, e5, e6, e7, fun _ => rfl, e9, e10, e11, e12, e13⟩
    · rintro d A W ⟨x0, x1, x2, x3, x4, x5, x6, x7, x8, x9, x10, x11, x12, x13, rfl, I, es, ec, e0, e1, e2, e3, e4, e5, e6, e7, e8, e9, e10, e11, e12, e13⟩ hn hd
      obtain rfl := e8 (hd ⟨8, .data⟩ (by simp))
      refine wp_call 52 #[.complex .f32 c z] (by kernel_rfl) _ (turned_c c z W) ?_
      rintro e' W' ⟨rfl, hb1⟩
      exact ⟨_, rfl, x0, x1, x2, x3, x4, x5, x6, x7, _, _, x10, x11, x12, x13, rfl, by rw [hb1]; exact I, es, ec, e0, e1, e2, e3, e4, e5, e6, e7, e8, fun _ => rfl, e10, e11, e12, e13⟩
    · rintro d A W ⟨x0, x1, x2, x3, x4, x5, x6, x7, x8, x9, x10, x11, x12, x13, rfl, I, es, ec, e0, e1, e2, e3, e4, e5, e6, e7, e8, e9, e10, e11, e12, e13⟩ hn hd
      obtain rfl := e9 (hd ⟨9, .data⟩ (by simp))
      exact wp_conv 55 65 _ rfl rfl (run_conv_cwid (P := Try.prog) 55 65 c (Op.negFloat .f32 z) W (by kernel_rfl) Try.underlying65) ⟨x0, x1, x2, x3, x4, x5, x6, x7, x8, _, _, x11, x12, x13, rfl, below_drewN I _, es, ec, e0, e1, e2, e3, e4, e5, e6, e7, e8, e9, fun _ => ⟨_, _, rfl, fc_wv _ _, fc_wv _ _⟩, e11, e12, e13⟩
    · rintro d A W ⟨x0, x1, x2, x3, x4, x5, x6, x7, x8, x9, x10, x11, x12, x13, rfl, I, es, ec, e0, e1, e2, e3, e4, e5, e6, e7, e8, e9, e10, e11, e12, e13⟩ hn hd
      obtain ⟨A3, B3, rfl, ha3, hb3⟩ := e3 (hd ⟨3, .data⟩ (by simp))
      obtain ⟨A10, B10, rfl, ha10, hb10⟩ := e10 (hd ⟨10, .data⟩ (by simp))
      obtain ⟨m4, n4, k4, hrm, hm4, hn4⟩ := run_cmul (P := Try.prog) 65 A3 B3 A10 B10 W
      exact wp_bin .mul 65 65 _ _ rfl (by simp) rfl rfl hrm ⟨x0, x1, x2, _, x4, x5, x6, x7, x8, x9, _, _, x12, x13, rfl, below_drewN I _, es, ec, e0, e1, e2, (fun _ => ⟨_, _, rfl, ha3, hb3⟩), e4, e5, e6, e7, e8, e9, (fun _ => ⟨_, _, rfl, ha10, hb10⟩), fun _ => ⟨_, _, rfl, by rw [hm4, ha3, hb3, ha10, hb10]; rfl, by rw [hn4, ha3, hb3, ha10, hb10]; rfl⟩, e12, e13⟩
    · rintro d A W ⟨x0, x1, x2, x3, x4, x5, x6, x7, x8, x9, x10, x11, x12, x13, rfl, I, es, ec, e0, e1, e2, e3, e4, e5, e6, e7, e8, e9, e10, e11, e12, e13⟩ hn hd
      obtain rfl := e0 (hd ⟨0, .data⟩ (by simp))
      obtain ⟨A11, B11, rfl, ha11, hb11⟩ := e11 (hd ⟨11, .data⟩ (by simp))
      exact wp_bin .add 65 65 _ _ rfl (by simp) rfl rfl (run_cop (P := Try.prog) .add (by simp) 65 .f64 u y A11 B11 W) ⟨_, x1, x2, x3, x4, x5, x6, x7, x8, x9, x10, _, _, x13, rfl, below_drewN I _, es, ec, e0, e1, e2, e3, e4, e5, e6, e7, e8, e9, e10, (fun _ => ⟨_, _, rfl, ha11, hb11⟩), fun _ => ⟨_, _, rfl, by rw [fc_fv, ha11], by rw [fc_fv, hb11]⟩, e13⟩
    · rintro d A W ⟨x0, x1, x2, x3, x4, x5, x6, x7, x8, x9, x10, x11, x12, x13, rfl, I, es, ec, e0, e1, e2, e3, e4, e5, e6, e7, e8, e9, e10, e11, e12, e13⟩ hn hd
      obtain ⟨A12, B12, rfl, ha12, hb12⟩ := e12 (hd ⟨12, .data⟩ (by simp))
      exact wp_val _ rfl ⟨x0, x1, x2, x3, x4, x5, x6, x7, x8, x9, x10, x11, _, _, rfl, I, (fun h => Bool.noConfusion h), fun _ => hd ⟨0, .phase⟩ (by simp), e0, e1, e2, e3, e4, e5, e6, e7, e8, e9, e10, e11, (fun _ => ⟨_, _, rfl, ha12, hb12⟩), fun _ => ⟨_, _, rfl, ha12, hb12⟩⟩
    rintro d' A' W ⟨x0, x1, x2, x3, x4, x5, x6, x7, x8, x9, x10, x11, x12, x13, rfl, I, es, ec, e0, e1, e2, e3, e4, e5, e6, e7, e8, e9, e10, e11, e12, e13⟩ hd
    obtain rfl := e0 (hd 0 (by decide))
    obtain rfl := e1 (hd 1 (by decide))
    obtain rfl := e2 (hd 2 (by decide))
    obtain rfl := e4 (hd 4 (by decide))
    obtain rfl := e5 (hd 5 (by decide))
    obtain rfl := e6 (hd 6 (by decide))
    obtain rfl := e7 (hd 7 (by decide))
    obtain rfl := e8 (hd 8 (by decide))
    obtain rfl := e9 (hd 9 (by decide))
    obtain ⟨O, R, rfl, hO, hR⟩ := e13 (hd 13 (by decide))
    have HO : Hid (fc .f64 O = fo .add .f64 (fc .f64 u) (pXR p r c z) ∧ fc .f64 R = fo .add .f64 (fc .f64 y) (pXI p r c z)) := ⟨hO, hR⟩
    have HU : Hid (Below W0.heap.size W0 W) := HB1.out.trans (((Below.refl _ _).drew.trans I).mono HB1.out.size)
    clear e0 e1 e2 e3 e4 e5 e6 e7 e8 e9 e10 e11 e12 e13 es ec hd CE hO hR I
    go_wp2
    go_roundw
    case rel =>
      refine ⟨j + 1, O, R, by omega, by go_num, rfl, ⟨?_, ?_⟩, HU.out⟩
      · rw [HO.out.1, HF.out.1]; show _ = fo _ _ _ _; rw [HG.out, HG'.out]
      · rw [HO.out.2, HF.out.2]; show _ = fo _ _ _ _; rw [HG.out, HG'.out]
    case measure => simp [intOf]; omega

end Go.Proofs.Ytomgdlnpajfjhaa
