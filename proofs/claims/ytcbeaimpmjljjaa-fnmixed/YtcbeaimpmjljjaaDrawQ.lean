/- The contract of the model's function that draws a panel; no condition; no condition. -/
import Derived.Test.YtcbeaimpmjljjaaRunP
import Derived.Test.YtcbeaimpmjljjaaDrawO
namespace Go.Proofs.Ytcbeaimpmjljjaa
open Go.RowKit Go.ChangeShapes Go.WideShapes Go.ChangeAt
set_option linter.unusedVariables false
set_option linter.unusedSimpArgs false
set_option maxRecDepth 8000
theorem runA_lim (n : Int) (os : List (Int × Int × Int)) (hn : 2 ≤ n ∧ n ≤ 13) : Lim 41 9 (runA n [] os).2.1 ∧ -1 ≤ (runA n [] os).1 ∧ (runA n [] os).1 ≤ 13 := by
  rw [runA]
  split
  · exact ⟨⟨by simp, fun c hc => by simp at hc⟩, by simp, by simp⟩
  · exact ⟨runP_lim (by decide) (by decide) n os [] ⟨by simp, fun c hc => by simp at hc⟩, by dsimp only; omega, by dsimp only; omega⟩
theorem wp_load1 {o : Oper} {a : Act} {w : World} {K : Act → World → Prop} {Q : Exit → Act → World → Prop} (x : Operand) (ho : o.op = .load 3 x) (b off : Nat) (hx : a.eval x = .pointer (some ⟨b, off, none⟩)) (z : Int) (hc : w.cell? ⟨b, off, none⟩ = some (.int .i64 z))
    (h : K (a.put o.dst (.int .i64 z)) w) : o.wp Try.prog a w K Q := by
  have hr : (Instr.loadAt 3 (.pointer (some ⟨b, off, none⟩))).run Try.prog w = .ok (.int .i64 z) w := by
    simp [Instr.loadAt, Instr.sureAddr, loadVar, run_underlying Try.underlying3, run_load, hc]
  exact wp_val _ (by simp only [execOp, ho, hx, Sem.run_bind, hr, Result.andThen_ok, Sem.run_pure]) h
/-- the ops are drawn and run, in whatever order -/
def JD (N : Int) (g b5 : Nat) (cv : Value) (zs : List Int) (w0 : World) (U : Value → Value → Value → Value → Value → Value → Value → Value → Value → Value → Value → Value → Value → Act) (d : Nat → Bool) (A : Act) (W : World) : Prop :=
  ∃ (u11 u12 u13 u14 u15 u16 u17 u18 u19 u20 u10 u21 u22 : Value) (W1 : World) (n' : Int) (V' kv : Value) (cs' : Calls2) (base : Nat) (l : List (Int × Int × Int)), A = U u11 u12 u13 u14 u15 u16 u17 u18 u19 u20 u10 u21 u22 ∧
    w0.grownBy W1 (some g) ∧ Dr W1 g cv zs ∧ Blk W1 b5 #[.int .i64 N, .slice none 0 0] 26 ∧ (d 13 = false → W = W1) ∧ (d 13 = true → W = W1.setRow b5 #[.int .i64 n', V']) ∧
    (d 0 = true → u11 = .agg #[.int .i64 N, .slice none 0 0]) ∧ (d 1 = true → u12 = .pointer (some ⟨g, 0, none⟩)) ∧ (d 2 = true → u13 = .pointer (some ⟨b5, 0, none⟩)) ∧ (d 3 = true → u14 = .int .i64 N) ∧ (d 4 = true → u15 = .pointer (some ⟨g, 0, none⟩)) ∧ (d 5 = true → u16 = cv) ∧
    (d 6 = true → ∃ q : Int, u17 = .int .i64 q ∧ 2 ≤ q ∧ q ≤ 30) ∧ (d 7 = true → ∃ q : Int, u18 = .int .i64 q ∧ 0 ≤ q ∧ q ≤ 30) ∧ (d 8 = true → d 7 = true ∧ Ro W1 u19 l ∧ l.length ≤ 30) ∧
    (d 9 = true → d 8 = true ∧ u20 = .tuple #[.agg #[.int .i64 n', V'], kv] ∧ w0.heap.size ≤ base ∧ OwC base W1 V' cs' ∧ Lim 41 9 cs' ∧ -1 ≤ n' ∧ n' ≤ 13) ∧ (d 10 = true → d 9 = true ∧ u10 = .tuple #[.agg #[.int .i64 n', V'], kv]) ∧ (d 11 = true → d 10 = true ∧ u21 = .agg #[.int .i64 n', V']) ∧ (d 13 = true → ∀ i, i < 12 → d i = true)
set_option maxHeartbeats 6400000 in
theorem draw_c (g : Nat) (cv : Value) (zs : List Int) (w : World) (h : Dr w g cv zs) :
   Calls Try.prog 78 #[.pointer (some ⟨g, 0, none⟩), cv] w fun e w' => ∃ (n : Int) (V : Value) (cs : Calls2), e = .returned (.agg #[.int .i64 n, V]) ∧ OwC w.heap.size w' V cs ∧ Lim 41 9 cs ∧ -1 ≤ n ∧ n ≤ 13 ∧ Dr w' g cv zs ∧ w.grownBy w' (some g) := by
  have hgl := h.lt
  obtain ⟨ac, cc, hcv, -⟩ := h.rd
  subst hcv
  have kb : Below w.heap.size w (w.alloc (Obj.cells #[.int .i64 0, .slice none 0 0] 26)) := (Below.refl _ _).alloc (Nat.le_refl _) _
  have HD : Hid (Dr (w.alloc (Obj.cells #[.int .i64 0, .slice none 0 0] 26)) g (.slice ac zs.length cc) zs) := h.below kb
  have H0 : Hid (Dr w g (.slice ac zs.length cc) zs) := h
  have HK : Hid (Blk (w.alloc (Obj.cells #[.int .i64 0, .slice none 0 0] 26)) w.heap.size #[.int .i64 0, .slice none 0 0] 26 ∧ Below w.heap.size w (w.alloc (Obj.cells #[.int .i64 0, .slice none 0 0] 26))) := ⟨Blk.new _ _ _, kb⟩
  clear h kb
  go_enter Try.func78, Try.ntmps78
  go_wp2_with (fail)
  refine (below_c g _ zs 12 _ HD.out (by decide)).mono ?_
  rintro e w2 ⟨x, rfl, x1, x2, x3, d2, g2⟩
  have hx := x2 (by decide)
  obtain ⟨N, hN⟩ : ∃ N, 2 + x = N := ⟨_, rfl⟩
  have hN2 : 2 ≤ N ∧ N ≤ 13 := by omega
  have k2 : Blk w2 w.heap.size #[.int .i64 0, .slice none 0 0] 26 := HK.out.1.grownE g2 (by omega)
  have hs2 : w.heap.size < w2.heap.size := k2.lt
  have gg : w.grownBy w2 (some g) := grown_trans ⟨HK.out.2.os, HK.out.2.tape, HK.out.2.output, HK.out.2.size, fun j hj _ => HK.out.2.block j hj⟩ g2
  have HG2 : Hid (Blk w2 w.heap.size #[.int .i64 0, .slice none 0 0] 26 ∧ Dr w2 g (.slice ac zs.length cc) zs ∧ w.grownBy w2 (some g)) := ⟨k2, d2, gg⟩
  clear HD HK d2 g2 k2 gg x2 x3
  go_wp2
  obtain ⟨W3, hW3⟩ : ∃ W3, w2.alloc (Obj.cells #[.int .i64 N, .slice none 0 0] 26) = W3 := ⟨_, rfl⟩
  obtain ⟨b5, hb5'⟩ : ∃ b5, b5 = w2.heap.size := ⟨_, rfl⟩
  have ba : Below w2.heap.size w2 W3 := hW3 ▸ (Below.refl _ _).alloc (Nat.le_refl _) _
  have B3 : Blk W3 b5 #[.int .i64 N, .slice none 0 0] 26 := hb5' ▸ hW3 ▸ Blk.new _ _ _
  have D3 : Dr W3 g (.slice ac zs.length cc) zs := HG2.out.2.1.below ba
  have K3 : Blk W3 w.heap.size #[.int .i64 0, .slice none 0 0] 26 := HG2.out.1.below ba hs2
  have G3 : w.grownBy W3 (some g) := grown_then_below HG2.out.2.2 (ba.mono (by omega))
  have hb5 : b5 ≠ g := by have := HG2.out.2.1.lt; omega
  have hb5w : w.heap.size < b5 := by omega
  have hb5s : b5 < W3.heap.size := B3.lt
  have hN1 := hN2.1
  have hN3 := hN2.2
  try rw [hN]
  rw [hW3, ← hb5']
  clear hW3 ba HG2 hN hb5'
  refine region_invB (by kernel_rfl) (by kernel_rfl) (JD N g b5 (.slice ac zs.length cc) zs W3.drew (fun x11 x12 x13 x14 x15 x16 x17 x18 x19 x20 x10 x21 x22 => ⟨#[.pointer (some ⟨g, 0, none⟩), .slice ac zs.length cc, undef, undef, .pointer (some ⟨w.heap.size, 0, none⟩), .pointer (some ⟨b5, 0, none⟩), .pointer (some ⟨g, 0, none⟩), .int .i64 x, .int .i64 N, .agg #[.int .i64 N, .slice none 0 0], x10, x11, x12, x13, x14, x15, x16, x17, x18, x19, x20, x21, x22, undef], []⟩)) ⟨_, _, _, _, _, _, _, _, _, _, _, _, _, W3.drew, 0, undef, undef, [], 0, [], rfl, grown_refl _ _, ⟨D3.cur, D3.rd, D3.ap, D3.ok, D3.len⟩, B3.drew, fun _ => rfl, by simp, by simp, by simp, by simp, by simp, by simp, by simp, by simp, by simp, by simp, by simp, by simp, by simp, by simp⟩ ⟨?_, ?_, ?_, ?_, ?_, ?_, ?_, ?_, ?_, ?_, ?_, ?_, ?_, ?_, trivial⟩ ?_
  · rintro d A W ⟨x11, x12, x13, x14, x15, x16, x17, x18, x19, x20, x10, x21, x22, W1, n', V', kv, cs', base, l, rfl, G, D, B, hW, hW2, e0, e1, e2, e3, e4, e5, e6, e7, e8, e9, e10, e11, h13⟩ hn hd
    have k13 : d 13 = false := by cases h : d 13 with | false => rfl | true => exact absurd (h13 h 0 (by decide)) (by rw [hn]; simp)
    obtain rfl := hW k13
    exact wp_load_mid 26 _ rfl b5 0 rfl [.int .i64 N, .slice none 0 0] _ (range2 (by have := B.cell 0; simpa using this) (by have := B.cell 1; simpa using this)) Try.underlying26 rfl size26' ⟨_, x12, x13, x14, x15, x16, x17, x18, x19, x20, x10, x21, x22, W, n', V', kv, cs', base, l, rfl, G, D, B, fun _ => rfl, fun h => absurd h (by show ¬ d 13 = true; rw [k13]; simp), fun _ => rfl, e1, e2, e3, e4, e5, e6, e7, e8, e9, e10, e11, fun h => absurd h (by show ¬ d 13 = true; rw [k13]; simp)⟩
  · rintro d A W ⟨x11, x12, x13, x14, x15, x16, x17, x18, x19, x20, x10, x21, x22, W1, n', V', kv, cs', base, l, rfl, G, D, B, hW, hW2, e0, e1, e2, e3, e4, e5, e6, e7, e8, e9, e10, e11, h13⟩ hn hd
    have k13 : d 13 = false := by cases h : d 13 with | false => rfl | true => exact absurd (h13 h 1 (by decide)) (by rw [hn]; simp)
    obtain rfl := hW k13
    exact wp_val _ rfl ⟨x11, _, x13, x14, x15, x16, x17, x18, x19, x20, x10, x21, x22, W, n', V', kv, cs', base, l, rfl, G, D, B, fun _ => rfl, fun h => absurd h (by show ¬ d 13 = true; rw [k13]; simp), e0, fun _ => rfl, e2, e3, e4, e5, e6, e7, e8, e9, e10, e11, fun h => absurd h (by show ¬ d 13 = true; rw [k13]; simp)⟩
  · rintro d A W ⟨x11, x12, x13, x14, x15, x16, x17, x18, x19, x20, x10, x21, x22, W1, n', V', kv, cs', base, l, rfl, G, D, B, hW, hW2, e0, e1, e2, e3, e4, e5, e6, e7, e8, e9, e10, e11, h13⟩ hn hd
    have k13 : d 13 = false := by cases h : d 13 with | false => rfl | true => exact absurd (h13 h 2 (by decide)) (by rw [hn]; simp)
    obtain rfl := hW k13
    exact wp_val _ (by kernel_rfl) ⟨x11, x12, _, x14, x15, x16, x17, x18, x19, x20, x10, x21, x22, W, n', V', kv, cs', base, l, rfl, G, D, B, fun _ => rfl, fun h => absurd h (by show ¬ d 13 = true; rw [k13]; simp), e0, e1, fun _ => rfl, e3, e4, e5, e6, e7, e8, e9, e10, e11, fun h => absurd h (by show ¬ d 13 = true; rw [k13]; simp)⟩
  · rintro d A W ⟨x11, x12, x13, x14, x15, x16, x17, x18, x19, x20, x10, x21, x22, W1, n', V', kv, cs', base, l, rfl, G, D, B, hW, hW2, e0, e1, e2, e3, e4, e5, e6, e7, e8, e9, e10, e11, h13⟩ hn hd
    have k13 : d 13 = false := by cases h : d 13 with | false => rfl | true => exact absurd (h13 h 3 (by decide)) (by rw [hn]; simp)
    obtain rfl := hW k13
    obtain rfl := e2 (hd ⟨2, .data⟩ (by simp) rfl)
    exact wp_load1 _ rfl b5 0 rfl _ (by have := B.cell 0; simpa using this) ⟨x11, x12, _, _, x15, x16, x17, x18, x19, x20, x10, x21, x22, W, n', V', kv, cs', base, l, rfl, G, D, B, fun _ => rfl, fun h => absurd h (by show ¬ d 13 = true; rw [k13]; simp), e0, e1, e2, fun _ => rfl, e4, e5, e6, e7, e8, e9, e10, e11, fun h => absurd h (by show ¬ d 13 = true; rw [k13]; simp)⟩
  · rintro d A W ⟨x11, x12, x13, x14, x15, x16, x17, x18, x19, x20, x10, x21, x22, W1, n', V', kv, cs', base, l, rfl, G, D, B, hW, hW2, e0, e1, e2, e3, e4, e5, e6, e7, e8, e9, e10, e11, h13⟩ hn hd
    have k13 : d 13 = false := by cases h : d 13 with | false => rfl | true => exact absurd (h13 h 4 (by decide)) (by rw [hn]; simp)
    obtain rfl := hW k13
    exact wp_val _ rfl ⟨x11, x12, x13, x14, _, x16, x17, x18, x19, x20, x10, x21, x22, W, n', V', kv, cs', base, l, rfl, G, D, B, fun _ => rfl, fun h => absurd h (by show ¬ d 13 = true; rw [k13]; simp), e0, e1, e2, e3, fun _ => rfl, e5, e6, e7, e8, e9, e10, e11, fun h => absurd h (by show ¬ d 13 = true; rw [k13]; simp)⟩
  · rintro d A W ⟨x11, x12, x13, x14, x15, x16, x17, x18, x19, x20, x10, x21, x22, W1, n', V', kv, cs', base, l, rfl, G, D, B, hW, hW2, e0, e1, e2, e3, e4, e5, e6, e7, e8, e9, e10, e11, h13⟩ hn hd
    have k13 : d 13 = false := by cases h : d 13 with | false => rfl | true => exact absurd (h13 h 5 (by decide)) (by rw [hn]; simp)
    obtain rfl := hW k13
    exact wp_val _ rfl ⟨x11, x12, x13, x14, x15, _, x17, x18, x19, x20, x10, x21, x22, W, n', V', kv, cs', base, l, rfl, G, D, B, fun _ => rfl, fun h => absurd h (by show ¬ d 13 = true; rw [k13]; simp), e0, e1, e2, e3, e4, fun _ => rfl, e6, e7, e8, e9, e10, e11, fun h => absurd h (by show ¬ d 13 = true; rw [k13]; simp)⟩
  · rintro d A W ⟨x11, x12, x13, x14, x15, x16, x17, x18, x19, x20, x10, x21, x22, W1, n', V', kv, cs', base, l, rfl, G, D, B, hW, hW2, e0, e1, e2, e3, e4, e5, e6, e7, e8, e9, e10, e11, h13⟩ hn hd
    have k13 : d 13 = false := by cases h : d 13 with | false => rfl | true => exact absurd (h13 h 6 (by decide)) (by rw [hn]; simp)
    obtain rfl := hW k13
    obtain rfl := e5 (hd ⟨5, .data⟩ (by simp) rfl)
    refine wp_call 50 #[.slice ac zs.length cc, .int .i64 30] (by kernel_rfl) _ (size_c _ zs 30 W D.rd (by decide) (by decide)) ?_
    rintro e w' ⟨q, rfl, q1, q2, rfl⟩
    exact ⟨_, rfl, x11, x12, x13, x14, x15, _, _, x18, x19, x20, x10, x21, x22, w', n', V', kv, cs', base, l, rfl, G, D, B, fun _ => rfl, fun h => absurd h (by show ¬ d 13 = true; rw [k13]; simp), e0, e1, e2, e3, e4, e5, fun _ => ⟨q, rfl, q1, q2⟩, e7, e8, e9, e10, e11, fun h => absurd h (by show ¬ d 13 = true; rw [k13]; simp)⟩
  · rintro d A W ⟨x11, x12, x13, x14, x15, x16, x17, x18, x19, x20, x10, x21, x22, W1, n', V', kv, cs', base, l, rfl, G, D, B, hW, hW2, e0, e1, e2, e3, e4, e5, e6, e7, e8, e9, e10, e11, h13⟩ hn hd
    have k13 : d 13 = false := by cases h : d 13 with | false => rfl | true => exact absurd (h13 h 7 (by decide)) (by rw [hn]; simp)
    obtain rfl := hW k13
    obtain rfl := e4 (hd ⟨4, .data⟩ (by simp) rfl)
    obtain ⟨q, rfl, q1, q2⟩ := e6 (hd ⟨6, .data⟩ (by simp) rfl)
    have k8 : d 8 = false := by cases h : d 8 with | false => rfl | true => exact absurd (e8 h).1 (by rw [hn]; simp)
    have k9 : d 9 = false := by cases h : d 9 with | false => rfl | true => exact absurd (e9 h).1 (by rw [k8]; simp)
    have k10 : d 10 = false := by cases h : d 10 with | false => rfl | true => exact absurd (e10 h).1 (by rw [k9]; simp)
    have k11 : d 11 = false := by cases h : d 11 with | false => rfl | true => exact absurd (e11 h).1 (by rw [k10]; simp)
    refine wp_call 49 #[.pointer (some ⟨g, 0, none⟩), .int .i64 q] (by kernel_rfl) _ (below_c g _ zs q W D (by omega)) ?_
    rintro e w' ⟨y, rfl, y1, y2, y3, d2, g2⟩
    exact ⟨_, rfl, x11, x12, x13, x14, _, x16, _, _, x19, x20, x10, x21, x22, w', n', V', kv, cs', base, l, rfl, grown_trans G g2, d2, B.grownE g2 hb5, fun _ => rfl, fun h => absurd h (by show ¬ d 13 = true; rw [k13]; simp), e0, e1, e2, e3, e4, e5, fun _ => ⟨q, rfl, q1, q2⟩, fun _ => ⟨y, rfl, y1, by have := y2 (by omega); omega⟩, fun h => absurd h (by show ¬ d 8 = true; rw [k8]; simp), fun h => absurd h (by show ¬ d 9 = true; rw [k9]; simp), fun h => absurd h (by show ¬ d 10 = true; rw [k10]; simp), fun h => absurd h (by show ¬ d 11 = true; rw [k11]; simp), fun h => absurd h (by show ¬ d 13 = true; rw [k13]; simp)⟩
  · rintro d A W ⟨x11, x12, x13, x14, x15, x16, x17, x18, x19, x20, x10, x21, x22, W1, n', V', kv, cs', base, l, rfl, G, D, B, hW, hW2, e0, e1, e2, e3, e4, e5, e6, e7, e8, e9, e10, e11, h13⟩ hn hd
    have k13 : d 13 = false := by cases h : d 13 with | false => rfl | true => exact absurd (h13 h 8 (by decide)) (by rw [hn]; simp)
    obtain rfl := hW k13
    obtain rfl := e1 (hd ⟨1, .data⟩ (by simp) rfl)
    obtain rfl := e3 (hd ⟨3, .data⟩ (by simp) rfl)
    obtain ⟨y, rfl, y1, y2⟩ := e7 (hd ⟨7, .data⟩ (by simp) rfl)
    have k9 : d 9 = false := by cases h : d 9 with | false => rfl | true => exact absurd (e9 h).1 (by rw [hn]; simp)
    have k10 : d 10 = false := by cases h : d 10 with | false => rfl | true => exact absurd (e10 h).1 (by rw [k9]; simp)
    have k11 : d 11 = false := by cases h : d 11 with | false => rfl | true => exact absurd (e11 h).1 (by rw [k10]; simp)
    refine wp_call 52 #[.pointer (some ⟨g, 0, none⟩), .int .i64 N, .int .i64 y] (by kernel_rfl) _ (drawOps_c g _ zs N y W D (by omega) (by omega) (by omega)) ?_
    rintro e w' ⟨ov, l2, rfl, o2, ll, d2, g2⟩
    exact ⟨_, rfl, x11, _, x13, _, x15, x16, x17, _, _, x20, x10, x21, x22, w', n', V', kv, cs', base, l2, rfl, grown_trans G g2, d2, B.grownE g2 hb5, fun _ => rfl, fun h => absurd h (by show ¬ d 13 = true; rw [k13]; simp), e0, e1, e2, e3, e4, e5, e6, fun _ => ⟨y, rfl, y1, y2⟩, fun _ => ⟨hd ⟨7, .data⟩ (by simp) rfl, o2.rd, by omega⟩, fun h => absurd h (by show ¬ d 9 = true; rw [k9]; simp), fun h => absurd h (by show ¬ d 10 = true; rw [k10]; simp), fun h => absurd h (by show ¬ d 11 = true; rw [k11]; simp), fun h => absurd h (by show ¬ d 13 = true; rw [k13]; simp)⟩
  · rintro d A W ⟨x11, x12, x13, x14, x15, x16, x17, x18, x19, x20, x10, x21, x22, W1, n', V', kv, cs', base, l, rfl, G, D, B, hW, hW2, e0, e1, e2, e3, e4, e5, e6, e7, e8, e9, e10, e11, h13⟩ hn hd
    have k13 : d 13 = false := by cases h : d 13 with | false => rfl | true => exact absurd (h13 h 9 (by decide)) (by rw [hn]; simp)
    obtain rfl := hW k13
    obtain rfl := e0 (hd ⟨0, .data⟩ (by simp) rfl)
    obtain ⟨k7, r8, l8⟩ := e8 (hd ⟨8, .data⟩ (by simp) rfl)
    have k10 : d 10 = false := by cases h : d 10 with | false => rfl | true => exact absurd (e10 h).1 (by rw [hn]; simp)
    have k11 : d 11 = false := by cases h : d 11 with | false => rfl | true => exact absurd (e11 h).1 (by rw [k10]; simp)
    refine wp_call 38 #[.agg #[.int .i64 N, .slice none 0 0], x19] (by kernel_rfl) _ (runM_c N (.slice none 0 0) [] x19 l W (OwC.nil 0 W).rd r8 ⟨by simp, fun c hc => by simp at hc⟩) ?_
    rintro e w' ⟨v2, k2, rfl, o2, c2, b2⟩
    have hrl := runA_lim N l (by omega)
    exact ⟨_, rfl, _, x12, x13, x14, x15, x16, x17, x18, x19, _, x10, x21, x22, w', (runA N [] l).1, v2, k2, (runA N [] l).2.1, W.heap.size, l, rfl, grown_then_below G (b2.mono G.size), D.below b2, B.below b2 B.lt, fun _ => rfl, fun h => absurd h (by show ¬ d 13 = true; rw [k13]; simp), e0, e1, e2, e3, e4, e5, e6, e7, fun h => ⟨(e8 h).1, (e8 h).2.1.below b2, (e8 h).2.2⟩, fun _ => ⟨hd ⟨8, .data⟩ (by simp) rfl, rfl, G.size, o2, hrl.1, hrl.2.1, hrl.2.2⟩, fun h => absurd h (by show ¬ d 10 = true; rw [k10]; simp), fun h => absurd h (by show ¬ d 11 = true; rw [k11]; simp), fun h => absurd h (by show ¬ d 13 = true; rw [k13]; simp)⟩
  · rintro d A W ⟨x11, x12, x13, x14, x15, x16, x17, x18, x19, x20, x10, x21, x22, W1, n', V', kv, cs', base, l, rfl, G, D, B, hW, hW2, e0, e1, e2, e3, e4, e5, e6, e7, e8, e9, e10, e11, h13⟩ hn hd
    have k13 : d 13 = false := by cases h : d 13 with | false => rfl | true => exact absurd (h13 h 10 (by decide)) (by rw [hn]; simp)
    obtain rfl := hW k13
    obtain ⟨k8, rfl, q⟩ := e9 (hd ⟨9, .data⟩ (by simp) rfl)
    exact wp_val _ rfl ⟨x11, x12, x13, x14, x15, x16, x17, x18, x19, _, _, x21, x22, W, n', V', kv, cs', base, l, rfl, G, D, B, fun _ => rfl, fun h => absurd h (by show ¬ d 13 = true; rw [k13]; simp), e0, e1, e2, e3, e4, e5, e6, e7, e8, fun _ => ⟨k8, rfl, q⟩, fun _ => ⟨hd ⟨9, .data⟩ (by simp) rfl, rfl⟩, fun h => ⟨rfl, (e11 h).2⟩, fun h => absurd h (by show ¬ d 13 = true; rw [k13]; simp)⟩
  · rintro d A W ⟨x11, x12, x13, x14, x15, x16, x17, x18, x19, x20, x10, x21, x22, W1, n', V', kv, cs', base, l, rfl, G, D, B, hW, hW2, e0, e1, e2, e3, e4, e5, e6, e7, e8, e9, e10, e11, h13⟩ hn hd
    have k13 : d 13 = false := by cases h : d 13 with | false => rfl | true => exact absurd (h13 h 11 (by decide)) (by rw [hn]; simp)
    obtain rfl := hW k13
    obtain ⟨k9, rfl⟩ := e10 (hd ⟨10, .data⟩ (by simp) rfl)
    exact wp_val _ rfl ⟨x11, x12, x13, x14, x15, x16, x17, x18, x19, x20, _, _, x22, W, n', V', kv, cs', base, l, rfl, G, D, B, fun _ => rfl, fun h => absurd h (by show ¬ d 13 = true; rw [k13]; simp), e0, e1, e2, e3, e4, e5, e6, e7, e8, e9, e10, fun _ => ⟨hd ⟨10, .data⟩ (by simp) rfl, rfl⟩, fun h => absurd h (by show ¬ d 13 = true; rw [k13]; simp)⟩
  · rintro d A W ⟨x11, x12, x13, x14, x15, x16, x17, x18, x19, x20, x10, x21, x22, W1, n', V', kv, cs', base, l, rfl, G, D, B, hW, hW2, e0, e1, e2, e3, e4, e5, e6, e7, e8, e9, e10, e11, h13⟩ hn hd
    obtain ⟨k9, rfl⟩ := e10 (hd ⟨10, .data⟩ (by simp) rfl)
    exact wp_val _ rfl ⟨x11, x12, x13, x14, x15, x16, x17, x18, x19, x20, _, x21, _, W1, n', V', kv, cs', base, l, rfl, G, D, B, hW, hW2, e0, e1, e2, e3, e4, e5, e6, e7, e8, e9, e10, e11, fun h i hi => by rw [doneSet, if_neg (by omega)]; exact h13 h i hi⟩
  · rintro d A W ⟨x11, x12, x13, x14, x15, x16, x17, x18, x19, x20, x10, x21, x22, W1, n', V', kv, cs', base, l, rfl, G, D, B, hW, hW2, e0, e1, e2, e3, e4, e5, e6, e7, e8, e9, e10, e11, h13⟩ hn hd
    obtain rfl := hW hn
    have k11 := hd ⟨11, .data⟩ (by simp) rfl
    obtain ⟨k10, rfl⟩ := e11 k11
    obtain ⟨k9, -⟩ := e10 k10
    obtain ⟨k8, -, t2, t3, -⟩ := e9 k9
    have h1c := t3.hi.slice.1
    refine wp_store_row 26 _ _ rfl b5 #[.int .i64 n', V'] rfl rfl 26 _ B size26' rfl (by simp [Value.oneCell', h1c]; exact h1c) ⟨x11, x12, x13, x14, x15, x16, x17, x18, x19, x20, x10, _, x22, W, n', V', kv, cs', base, l, rfl, G, D, B, fun h => absurd h (by show ¬ true = false; simp), fun _ => rfl, e0, e1, e2, e3, e4, e5, e6, e7, e8, e9, e10, fun _ => ⟨k10, rfl⟩, fun _ i hi => ?_⟩
    rcases i with _ | _ | _ | _ | _ | _ | _ | _ | _ | _ | _ | _ | i
    · exact hd ⟨0, .phase⟩ (by simp) rfl
    · exact hd ⟨1, .phase⟩ (by simp) rfl
    · exact hd ⟨2, .phase⟩ (by simp) rfl
    · exact hd ⟨3, .phase⟩ (by simp) rfl
    · exact hd ⟨4, .phase⟩ (by simp) rfl
    · exact hd ⟨5, .phase⟩ (by simp) rfl
    · exact hd ⟨6, .phase⟩ (by simp) rfl
    · exact hd ⟨7, .phase⟩ (by simp) rfl
    · exact hd ⟨8, .phase⟩ (by simp) rfl
    · exact hd ⟨9, .phase⟩ (by simp) rfl
    · exact hd ⟨10, .phase⟩ (by simp) rfl
    · exact hd ⟨11, .phase⟩ (by simp) rfl
    · omega
  · rintro d A W ⟨x11, x12, x13, x14, x15, x16, x17, x18, x19, x20, x10, x21, x22, W1, n', V', kv, cs', base, l, rfl, G, D, B, hW, hW2, e0, e1, e2, e3, e4, e5, e6, e7, e8, e9, e10, e11, h13⟩ hd
    obtain rfl := hW2 (hd 13 (by decide))
    obtain rfl := e0 (hd 0 (by decide))
    obtain rfl := e1 (hd 1 (by decide))
    obtain rfl := e2 (hd 2 (by decide))
    obtain rfl := e3 (hd 3 (by decide))
    obtain rfl := e4 (hd 4 (by decide))
    obtain rfl := e5 (hd 5 (by decide))
    obtain ⟨-, rfl, t2, t3, t4, t5, t6⟩ := e9 (hd 9 (by decide))
    obtain ⟨-, rfl⟩ := e10 (hd 10 (by decide))
    obtain ⟨-, rfl⟩ := e11 (hd 11 (by decide))
    obtain ⟨-, a2, n2, c2, hV⟩ := t3.hi.slice
    subst hV
    clear e0 e1 e2 e3 e4 e5 e6 e7 e8 e9 e10 e11 h13 hd hW hW2
    have G1 : w.grownBy W1 (some g) := grown_trans (show w.grownBy W3.drew (some g) from ⟨G3.os, G3.tape, G3.output, G3.size, G3.block⟩) G
    have t2' : W3.heap.size ≤ base := t2
    obtain ⟨W4, hW4⟩ : ∃ W4, W1.setRow b5 #[.int .i64 n', .slice a2 n2 c2] = W4 := ⟨_, rfl⟩
    have hg4 : W1.grownBy W4 (some b5) := hW4 ▸ ⟨rfl, rfl, rfl, by simp, fun k _ hk => setRow_other W1 b5 k _ (fun e => hk (by simp [e]))⟩
    have P4 : Blk W4 b5 #[.int .i64 n', .slice a2 n2 c2] 26 := hW4 ▸ B.row _
    have K1 : Blk W1 w.heap.size #[.int .i64 0, .slice none 0 0] 26 := (K3.drew).grownE G (by omega)
    have K4 : Blk W4 w.heap.size #[.int .i64 0, .slice none 0 0] 26 := (hg4.block _ K1.lt (by simp; omega)).trans K1
    have O4 : OwC base W4 (.slice a2 n2 c2) cs' := t3.far hg4 (by omega)
    have B4 : Below w.heap.size W1 W4 := grown_below hg4 (by have := K1.lt; omega) (fun k e => by cases e; omega)
    have FIN : Hid (∀ W5, (W4.setCell ⟨w.heap.size, 0, none⟩ (.int .i64 n')).setCell ⟨w.heap.size, 1, none⟩ (.slice a2 n2 c2) = W5 → Blk W5 w.heap.size #[.int .i64 n', .slice a2 n2 c2] 26 ∧ OwC w.heap.size W5 (.slice a2 n2 c2) cs' ∧ Dr W5 g (.slice ac zs.length cc) zs ∧ w.grownBy W5 (some g)) := by
      rintro _ rfl
      refine ⟨?_, ((O4.far (grown_set _ _ _ _) (by omega)).far (grown_set _ _ _ _) (by omega)).mono (by omega), H0.out.onto D G1 ((B4.setCell (Nat.le_refl _) _).setCell (Nat.le_refl _) _)⟩
      have := (K4.set 0 (.int .i64 n')).set 1 (.slice a2 n2 c2)
      simpa using this
    have c0 := P4.cell 0
    have c1 := P4.cell 1
    have d0 := K4.cell 0
    have d1 := K4.cell 1
    have f0 := K4.frozen 0
    have f1 := K4.frozen 1
    simp at c0 c1 d0 d1
    have HT : Hid (Lim 41 9 cs') := t4
    rw [hW4]
    clear hW4 hg4 P4 K1 K4 O4 B4 G1 t2 t2' t3 t4 D B G B3 D3 K3 G3
    dsimp only
    go_wp2
    exact bodyPost_ret (v := .agg #[.int .i64 n', .slice a2 n2 c2]) (results_cell_row rfl _ _ _ 26 _ (0, 0) _ rfl (FIN.out _ rfl).1 Try.underlying26 rfl size26') rfl ⟨n', _, cs', rfl, (FIN.out _ rfl).2.1, HT.out, t5, t6, (FIN.out _ rfl).2.2.1, (FIN.out _ rfl).2.2.2⟩
end Go.Proofs.Ytcbeaimpmjljjaa
