/- All clashes, in their order; no condition. -/
import Derived.Test.YtfaflnhembceoaaClC
import Derived.Test.YtfaflnhembceoaaClF
namespace Go.Proofs.Ytfaflnhembceoaa
open Go.RowKit Go.ChangeShapes Go.WideShapes Go.ChangeAt
set_option linter.unusedVariables false
set_option linter.unusedSimpArgs false
set_option maxRecDepth 8000

theorem nd_len : ∀ (n : Nat) (l : List Nat), l.Nodup → (∀ x ∈ l, x < n) → l.length ≤ n
  | 0, [], _, _ => Nat.le_refl _
  | 0, x :: r, _, h => absurd (h x (by simp)) (by omega)
  | n + 1, l, hn, h => by
    have h1 := nd_len n (l.erase n) (hn.erase n) (fun x hx => by
      rw [hn.mem_erase_iff] at hx
      have := h x hx.2
      have := hx.1
      omega)
    have h2 := List.length_erase (a := n) (l := l)
    split at h2 <;> omega
theorem FsOk.len {n : Int} {ls : Fts} (h : FsOk n ls) (hn : n ≤ 16) : ls.length ≤ 128 := by
  rw [FsOk_iff] at h
  have hf : ∀ x ∈ ls, 1 ≤ x.1 ∧ x.1 ≤ 7 ∧ 0 ≤ x.2 ∧ x.2 < 16 := fun x hx => by
    have h1 := h.1 x hx
    unfold ftB at h1
    split at h1
    · rename_i hp
      have := of_decide_eq_true h1
      unfold ptB at hp
      simp at hp
      omega
    · split at h1
      · have := of_decide_eq_true h1
        omega
      · cases h1
  have := nd_len 128 (ls.map fun x => (x.1 * 16 + x.2).toNat) (by
    rw [List.Nodup, List.pairwise_map]
    refine List.Pairwise.imp_of_mem ?_ h.2
    intro g f hg hf' ht e
    have a := hf g hg
    have b := hf f hf'
    have e1 : g.1 = f.1 := by omega
    have e2 : g.2 = f.2 := by omega
    have e3 : g = f := Prod.ext e1 e2
    unfold twB at ht
    split at ht <;> simp [e3] at ht) (fun x hx => by
    obtain ⟨y, hy, rfl⟩ := List.mem_map.1 hx
    have := hf y hy
    omega)
  simpa using this
def clAt (cs : Sbs) (t i k : Nat) : List Ch := match clF cs t i k with
  | none => []
  | some p => [((t : Int), (i : Int), (k : Int), ((p / cs.length : Nat) : Int), ((p % cs.length : Nat) : Int))]
def fLen (cs : Sbs) (t : Nat) : Nat := (cs.getD t sb0).2.2.length
def clK (cs : Sbs) (t i j : Nat) : List Ch := (List.range j).flatMap fun k => if i < k then clAt cs t i k else []
def clI (cs : Sbs) (t j : Nat) : List Ch := (List.range j).flatMap fun i => clK cs t i (fLen cs t)
def clT (cs : Sbs) (j : Nat) : List Ch := (List.range j).flatMap fun t => clI cs t (fLen cs t)
/-- all clashes, in their order -/
def clA (cs : Sbs) : List Ch := clT cs cs.length
theorem clAt_len (cs : Sbs) (t i k : Nat) : (clAt cs t i k).length ≤ 1 := by unfold clAt; split <;> simp
theorem fm_le {α : Type} (f : Nat → List α) (c : Nat) : ∀ j, (∀ i, i < j → (f i).length ≤ c) → ((List.range j).flatMap f).length ≤ j * c
  | 0, _ => by simp
  | j + 1, h => by
    have h1 := fm_le f c j (fun i hi => h i (by omega))
    have h2 := h j (by omega)
    rw [List.range_succ, List.flatMap_append, List.length_append, Nat.add_mul, Nat.one_mul, List.flatMap_singleton]
    omega
theorem clK_len (cs : Sbs) (t i j : Nat) : (clK cs t i j).length ≤ j * 1 := fm_le _ 1 j (fun k hk => by split; exact clAt_len _ _ _ _; simp)
theorem clI_len (cs : Sbs) (t j : Nat) (h : fLen cs t ≤ 128) : (clI cs t j).length ≤ j * 128 := fm_le _ 128 j (fun k hk => by have := clK_len cs t k (fLen cs t); omega)
theorem clT_len (cs : Sbs) (j : Nat) (h : ∀ t, t < j → fLen cs t ≤ 128) : (clT cs j).length ≤ j * 16384 := fm_le _ 16384 j (fun k hk => by have h1 := clI_len cs k (fLen cs k) (h k hk); have := h k hk; omega)
theorem clK_succ (cs : Sbs) (t i k : Nat) (h : i < k) : clK cs t i (k + 1) = clK cs t i k ++ clAt cs t i k := by rw [clK, List.range_succ, List.flatMap_append]; simp [h, clK]
theorem clK_start (cs : Sbs) (t i : Nat) : clK cs t i (i + 1) = [] := by
  rw [clK, List.flatMap_eq_nil_iff]
  intro k hk
  rw [List.mem_range] at hk
  rw [if_neg (by omega)]
theorem clI_succ (cs : Sbs) (t i : Nat) : clI cs t (i + 1) = clI cs t i ++ clK cs t i (fLen cs t) := by rw [clI, List.range_succ, List.flatMap_append]; simp [clI]
theorem clT_succ (cs : Sbs) (t : Nat) : clT cs (t + 1) = clT cs t ++ clI cs t (fLen cs t) := by rw [clT, List.range_succ, List.flatMap_append]; simp [clT]
/-- one clash more -/
theorem appCh {ops : Array Oper} {rest : List Oper} {o : Oper} {a : Act} {w : World} {Q : Exit → Act → World → Prop} (hgd : o.guard = none) (s x : Operand)
    (ho : o.op = .call { callee := .builtin .append, args := #[s, x], argTypes := #[42, 42] }) (base : Nat) (v : Value) (l0 : List Ch) (hs : a.eval s = v) (hown : Og 5 chC 82 base w v l0)
    (g : Nat) (y0 y1 y2 y3 y4 : Int) (hx : a.eval x = .slice (some ⟨g, 0, none⟩) 1 1) (hk : Blk w g (C5 y0 y1 y2 y3 y4) 82) (hl : l0.length ≤ 1000000) (hbase : base ≤ w.heap.size)
    (h : ∀ v' w', Og 5 chC 82 base w' v' (l0 ++ [(y0, y1, y2, y3, y4)]) → w.grownBy w' v.ownBlock → wpList Try.prog ops Q rest (a.put o.dst v') w') : wpList Try.prog ops Q (o :: rest) a w := by
  obtain ⟨i0, hi, hz0, hz1, hz2⟩ := info_parts infoCh
  refine wpList_append_own_at w hgd s x 42 ho base 82 i0 (.agg #[.int .i64 0, .int .i64 0, .int .i64 0, .int .i64 0, .int .i64 0]) 5 40 Try.underlying42 hi hz0 hz1 hz2 rfl (by decide) v l0.length (l0.flatMap chC) hs hown ⟨g, 0, none⟩ 1 1 ([(y0, y1, y2, y3, y4)].flatMap chC) hx rfl ?_ chC_one ?_ ?_ hbase ?_
  · intro j u hj
    rw [addAt, hk.cell]
    simpa [chC] using hj
  · unfold maxLen; omega
  · omega
  · intro v' w' g1 g2 g3 g4
    refine h v' w' ?_ g2
    rw [Og, List.flatMap_append, List.length_append]; exact g1
theorem Og.lit0 (w : World) (base : Nat) (hb : base ≤ w.heap.size) : Og 5 chC 82 base (w.alloc (.cells #[] 82)) (.slice (some ⟨w.heap.size, 0, none⟩) 0 0) ([] : List Ch) := World.ownsRow_lit w #[] 0 hb (by simp) (by simp)
def CsR (cs : Sbs) (w : World) (e : Ending) (w' : World) : Prop := ∃ v', e = .returned v' ∧ Og 5 chC 82 w.heap.size w' v' (if SbOk cs then clA cs else []) ∧ Below w.heap.size w w'
set_option maxHeartbeats 6400000 in
theorem clashesM_c (v : Value) (cs : Sbs) (w : World) (h : RdS w v cs) (hn : cs.length ≤ 1048576) : Calls Try.prog 21 #[v] w (CsR cs w) := by
  have HRD : Hid (RdS w v cs) := h
  obtain ⟨a, cap, hv, g1, g2⟩ := h.len
  subst hv
  unfold maxLen at g2
  obtain ⟨n, hnn⟩ : ∃ n, cs.length = n := ⟨_, rfl⟩
  have HN : Hid (cs.length = n) := hnn
  rw [hnn] at g1 hn HRD ⊢
  obtain ⟨W0, hW0⟩ : ∃ W0, w.alloc (Obj.cells #[] 82) = W0 := ⟨_, rfl⟩
  have B0 : Hid (Below w.heap.size w W0) := by show Below _ _ _; rw [← hW0]; exact (Below.refl _ _).alloc (Nat.le_refl _) _
  have O0 : Hid (Og 5 chC 82 w.heap.size W0 (.slice (some ⟨w.heap.size, 0, none⟩) 0 0) ([] : List Ch)) := by show Og _ _ _ _ _ _ _; rw [← hW0]; exact Og.lit0 w _ (Nat.le_refl _)
  clear h hnn
  go_enter Try.func21, Try.ntmps21
  go_wp2_with (fail)
  clear hW0
  refine (subsM_c _ cs W0 (HRD.out.below B0.out) (by rw [HN.out]; exact hn)).mono ?_
  rintro e w1 ⟨r, rfl, hr, b1⟩
  have B1 : Hid (Below w.heap.size w w1) := belowCall B0.out b1 B0.out.size
  have O1 : Hid (Og 5 chC 82 w.heap.size w1 (.slice (some ⟨w.heap.size, 0, none⟩) 0 0) ([] : List Ch)) := O0.out.below b1
  have HQ : Hid (r = true ↔ SbOk cs) := hr
  clear hr b1 B0 O0
  cases r with
  | false =>
    have HY : Hid (¬ SbOk cs) := fun h => by have := HQ.out.2 h; cases this
    go_wp2
    go_ret
    exact ⟨_, rfl, by rw [if_neg HY.out]; exact O1.out, B1.out⟩
  | true =>
    have HOK : Hid (SbOk cs) := HQ.out.1 rfl
    have HFL : Hid (∀ t, t < n → fLen cs t ≤ 128) := fun t ht => by
      have h1 := HOK.out.at t (by rw [HN.out]; exact ht)
      exact h1.len (by have := HOK.out.2.1; omega)
    have n16 : n ≤ 16 := by rw [← HN.out]; exact HOK.out.2.1
    have HRD1 : Hid (RdS w1 (.slice a n cap) cs) := HRD.out.below B1.out
    clear HQ
    go_wp2
    go_loopw [3, 4] (fun lf q wr => ∃ t : Nat, ∃ al ll cl, t ≤ n ∧ q = .int .i64 t ∧ lf = .slice al ll cl ∧ Hid (Below w.heap.size w wr) ∧ Hid (Og 5 chC 82 w.heap.size wr (.slice al ll cl) (clT cs t))) (fun _ q _ => n - (intOf q).toNat)
    case atStart => exact ⟨0, _, _, _, Nat.zero_le _, rfl, rfl, B1.out, O1.out⟩
    case round =>
      obtain ⟨t, al, ll, cl, ht, rfl, rfl, BT, OT⟩ := hrel
      clear B1 O1
      by_cases hlt : t < n
      case neg =>
        obtain rfl : n = t := by omega
        have HE : Hid ((if SbOk cs then clA cs else []) = clT cs n) := by show _ = _; rw [if_pos HOK.out, clA, HN.out]
        go_wp2
        go_ret
        exact ⟨_, rfl, by rw [HE.out]; exact OT.out, BT.out⟩
      case pos =>
      have htl : t < cs.length := by rw [HN.out]; exact hlt
      obtain ⟨b, off, v2, rfl, hcb, hR, -, -, d2⟩ := HRD.out.at t htl
      obtain ⟨a2, cap2, rfl, q1, q2, -⟩ := id hR
      have hfl : fLen cs t = cs[t].2.2.length := by rw [fLen, List.getD_eq_getElem?_getD, List.getElem?_eq_getElem htl]; rfl
      obtain ⟨L, hL⟩ : ∃ L, cs[t].2.2.length = L := ⟨_, rfl⟩
      rw [hL] at d2 q1 hfl
      have HLL : Hid (fLen cs t = L) := hfl
      have L128 : L ≤ 128 := by rw [← hfl]; exact HFL.out t hlt
      have HCL : Hid (∀ j, t ≤ j → j ≤ n → (clT cs j).length ≤ 1000000 - 20000) := fun j _ hj => by have := clT_len cs j (fun t ht => HFL.out t (by omega)); omega
      clear hR hL hfl
      go_wp2
      go_loopw [3, 5] (fun lf q wr => ∃ i : Nat, ∃ al ll cl, i ≤ L ∧ q = .int .i64 i ∧ lf = .slice al ll cl ∧ Hid (Below w.heap.size w wr) ∧ Hid (Og 5 chC 82 w.heap.size wr (.slice al ll cl) (clT cs t ++ clI cs t i))) (fun _ q _ => L - (intOf q).toNat)
      case atStart => exact ⟨0, _, _, _, Nat.zero_le _, rfl, rfl, BT.out, by show Og _ _ _ _ _ _ _; simpa [clI] using OT.out⟩
      case round =>
        obtain ⟨i, al, ll, cl, hi, rfl, rfl, BI, OI⟩ := hrel
        clear BT OT
        have e2 := (BI.out.cell (p := ⟨b, off + t * 3 + 2, none⟩) hcb).trans d2
        by_cases hli : i < L
        case neg =>
          obtain rfl : L = i := by omega
          have HE : Hid (clT cs (t + 1) = clT cs t ++ clI cs t L) := by show _ = _; rw [clT_succ, HLL.out]
          go_wp2
          go_roundw
          case rel => exact ⟨t + 1, _, _, _, by omega, by go_num, rfl, BI.out, by show Og _ _ _ _ _ _ _; rw [HE.out]; exact OI.out⟩
          case measure => simp [intOf]; omega
        case pos =>
        go_wp2
        clear e2
        go_loopw [3, 6] (fun lf q wr => ∃ k : Nat, ∃ al ll cl, k ≤ L ∧ i < k ∧ q = .int .i64 k ∧ lf = .slice al ll cl ∧ Hid (Below w.heap.size w wr) ∧ Hid (Og 5 chC 82 w.heap.size wr (.slice al ll cl) (clT cs t ++ clI cs t i ++ clK cs t i k))) (fun _ q _ => L - (intOf q).toNat)
        case atStart => exact ⟨i + 1, _, _, _, by omega, by omega, by go_num, rfl, BI.out, by show Og _ _ _ _ _ _ _; rw [clK_start, List.append_nil]; exact OI.out⟩
        case round =>
          obtain ⟨k, al, ll, cl, hk, hik, rfl, rfl, BK, OK⟩ := hrel
          clear BI OI
          have e2 := (BK.out.cell (p := ⟨b, off + t * 3 + 2, none⟩) hcb).trans d2
          by_cases hlk : k < L
          case neg =>
            obtain rfl : L = k := by omega
            have HE : Hid (clT cs t ++ clI cs t (i + 1) = clT cs t ++ clI cs t i ++ clK cs t i L) := by show _ = _; rw [clI_succ, HLL.out, List.append_assoc]
            go_wp2
            go_roundw
            case rel => exact ⟨i + 1, _, _, _, by omega, by go_num, rfl, BK.out, by show Og _ _ _ _ _ _ _; rw [HE.out]; exact OK.out⟩
            case measure => simp [intOf]; omega
          case pos =>
          have HRK : Hid (RdS wr (.slice (some ⟨b, off, none⟩) n cap) cs) := HRD.out.below BK.out
          go_wp2_with (fail)
          refine (clashM_c _ cs t i k wr HRK.out HOK.out (by rw [HN.out]; exact hlt) (by have := HLL.out; unfold fLen at this; omega) (by omega) (by omega)).mono ?_
          rintro e w5 ⟨rfl, b5⟩
          have B5 : Hid (Below w.heap.size w w5) := belowCall BK.out b5 BK.out.size
          have O5 : Hid (Og 5 chC 82 w.heap.size w5 (.slice al ll cl) (clT cs t ++ clI cs t i ++ clK cs t i k)) := OK.out.below b5
          have HS : Hid (clK cs t i (k + 1) = clK cs t i k ++ clAt cs t i k) := clK_succ cs t i k hik
          clear b5 BK OK HRK e2
          obtain ⟨z, hz⟩ : ∃ z, clF cs t i k = z := ⟨_, rfl⟩
          have HZ : Hid (clF cs t i k = z) := hz
          rw [hz]
          clear hz
          cases z with
          | none =>
            have HE : Hid (clK cs t i (k + 1) = clK cs t i k) := by show _ = _; rw [HS.out, clAt, HZ.out, List.append_nil]
            have bA : Below w5.heap.size w5 (w5.alloc (Obj.cells (C5 0 0 0 0 0) 82)) := (Below.refl _ _).alloc (Nat.le_refl _) _
            have B6 : Hid (Below w.heap.size w (w5.alloc (Obj.cells (C5 0 0 0 0 0) 82))) := belowCall B5.out bA B5.out.size
            have O6 : Hid (Og 5 chC 82 w.heap.size (w5.alloc (Obj.cells (C5 0 0 0 0 0) 82)) (.slice al ll cl) (clT cs t ++ clI cs t i ++ clK cs t i k)) := O5.out.below bA
            clear bA B5 O5
            simp only [clV, Option.isSome]
            go_wp2
            go_roundw
            case rel => exact ⟨k + 1, _, _, _, by omega, by omega, by go_num, rfl, B6.out, by show Og _ _ _ _ _ _ _; rw [HE.out]; exact O6.out⟩
            case measure => simp [intOf]; omega
          | some p =>
            obtain ⟨y3, hy3⟩ : ∃ y : Int, ((p / cs.length : Nat) : Int) = y := ⟨_, rfl⟩
            obtain ⟨y4, hy4⟩ : ∃ y : Int, ((p % cs.length : Nat) : Int) = y := ⟨_, rfl⟩
            have HE : Hid (clT cs t ++ clI cs t i ++ clK cs t i (k + 1) = clT cs t ++ clI cs t i ++ clK cs t i k ++ [((t : Int), (i : Int), (k : Int), y3, y4)]) := by show _ = _; rw [HS.out, clAt, HZ.out]; simp only [hy3, hy4, List.append_assoc]
            have HCK : Hid ((clT cs t ++ clI cs t i ++ clK cs t i k).length ≤ 1000000) := by
              show _ ≤ _
              have h1 := HCL.out t (Nat.le_refl _) ht
              have h2 := clI_len cs t i (HFL.out t hlt)
              have h3 := clK_len cs t i k
              rw [List.length_append, List.length_append]; omega
            simp only [clV, Option.isSome]
            rw [HN.out] at hy3 hy4 ⊢
            rw [hy3, hy4]
            clear hy3 hy4
            obtain ⟨W6, hW6⟩ : ∃ W6, (w5.alloc (Obj.cells (C5 t i k y3 y4) 82)).alloc (Obj.cells (C5 t i k y3 y4) 82) = W6 := ⟨_, rfl⟩
            have HW6 : Hid ((w5.alloc (Obj.cells (C5 t i k y3 y4) 82)).alloc (Obj.cells (C5 t i k y3 y4) 82) = W6) := hW6
            have bA : Below w5.heap.size w5 W6 := by rw [← hW6]; exact ((Below.refl _ _).alloc (Nat.le_refl _) _).alloc (by simp) _
            have B6 : Hid (Below w.heap.size w W6) := belowCall B5.out bA B5.out.size
            have O6 : Hid (Og 5 chC 82 w.heap.size W6 (.slice al ll cl) (clT cs t ++ clI cs t i ++ clK cs t i k)) := O5.out.below bA
            have K6 : Hid (Blk W6 (w5.heap.size + 1) (C5 t i k y3 y4) 82) := by show Blk _ _ _ _; rw [← hW6]; exact Blk.newAt _ _ _ _ (by simp)
            clear bA B5 O5 hW6
            go_wp2_with (at_builtin; rw [HW6.out]; refine appCh rfl (.tmp 51) (.tmp 53) rfl w.heap.size _ (clT cs t ++ clI cs t i ++ clK cs t i k) rfl O6.out (w5.heap.size + 1) t i k y3 y4 rfl K6.out HCK.out B6.out.size ?_)
            intro v7 w7 o7 g7
            have B7 : Hid (Below w.heap.size w w7) := B6.out.trans (grown_lt O6.out g7 (Nat.le_refl _) B6.out.size)
            have O7 : Hid (Og 5 chC 82 w.heap.size w7 v7 (clT cs t ++ clI cs t i ++ clK cs t i (k + 1))) := by show Og _ _ _ _ _ _ _; rw [HE.out]; simpa only [List.append_assoc] using o7
            obtain ⟨a7, c7, rfl⟩ := O7.out.form
            clear o7 g7 B6 O6 K6 HW6
            go_wp2
            go_roundw
            case rel => exact ⟨k + 1, _, _, _, by omega, by omega, by go_num, rfl, B7.out, O7.out⟩
            case measure => simp [intOf]; omega
end Go.Proofs.Ytfaflnhembceoaa
