/- sameInts, within, and the panel of the right panel's draw; no condition. -/
import Derived.Test.YtcbeaimpmjljjaaDrawN
namespace Go.Proofs.Ytcbeaimpmjljjaa
open Go.RowKit Go.ChangeShapes Go.WideShapes Go.ChangeAt
set_option linter.unusedVariables false
set_option linter.unusedSimpArgs false
set_option maxRecDepth 8000
set_option maxHeartbeats 800000 in
theorem sameI_c (v v' : Value) (xs ys : List Int) (w : World) (h : Rd .i64 w v xs) (h' : Rd .i64 w v' ys) :
   Calls Try.prog 17 #[v, v'] w fun e w' => e = .returned (.bool (decide (xs = ys))) ∧ Below w.heap.size w w' := by
  obtain ⟨a, cap, rfl, h1, h2, h3⟩ := h
  obtain ⟨a', cap', rfl, h1', h2', h3'⟩ := h'
  unfold maxLen at h2 h2'
  by_cases hne : xs.length = ys.length
  · have hneb : ((xs.length : Int) != (ys.length : Int)) = false := by simp [hne]
    go_enter Try.func17, Try.ntmps17
    go_wp2
    go_loopw [5] (fun i wr => ∃ j : Nat, j ≤ xs.length ∧ i = .int .i64 j ∧ Hid (∀ t, t < j → xs.getD t 0 = ys.getD t 0) ∧ Below w.heap.size w wr) (fun i _ => xs.length - (intOf i).toNat)
    case atStart => exact ⟨0, Nat.zero_le _, rfl, fun t ht => by omega, Below.refl _ _⟩
    case round =>
      obtain ⟨j, hj, rfl, hall, hbr⟩ := hrel
      by_cases hlt : j < xs.length
      · rcases h3 with h3 | ⟨b, off, rfl, h4⟩
        · subst h3; simp at hlt
        rcases h3' with h3' | ⟨b', off', rfl, h4'⟩
        · subst h3'; simp at hne; subst hne; simp at hlt
        have hc : wr.cell? ⟨b, off + j, none⟩ = some (.int .i64 (xs.getD j 0)) := by
          have := h4 j hlt
          rw [hbr.cell (block_lt_of_cell this)]; exact this
        have hc' : wr.cell? ⟨b', off' + j, none⟩ = some (.int .i64 (ys.getD j 0)) := by
          have := h4' j (by omega)
          rw [hbr.cell (block_lt_of_cell this)]; exact this
        have hi : (0 : Int) ≤ (j : Int) := by omega
        have hi2 : (j : Int) < (xs.length : Int) := by omega
        have hi3 : (j : Int) < (ys.length : Int) := by omega
        have hjy : j < ys.length := by omega
        have HN : Hid (xs.length = ys.length) := hne
        clear h4 h4' hne
        go_wp2
        go_quiet (fail)
        go_wp2
        · have hn : (xs[j] != ys[j]) = true := by assumption
          have hab : decide (xs = ys) = false := by
            simp only [decide_eq_false_iff_not]
            intro h; subst h; simp at hn
          go_ret
          exact ⟨by rw [hab]; rfl, below_drewN hbr _⟩
        · have he : (xs[j] != ys[j]) = false := by assumption
          go_roundw
          case rel =>
            refine ⟨j + 1, by omega, by go_num, fun t ht => ?_, below_drewN hbr _⟩
            by_cases hjk : t < j
            · exact hall.out t hjk
            · obtain rfl : t = j := by omega
              simpa [List.getElem?_eq_getElem hlt, List.getElem?_eq_getElem hjy] using he
          case measure => simp [intOf]; omega
      · obtain rfl : j = xs.length := by omega
        have hab : decide (xs = ys) = true := by simp only [decide_eq_true_eq]; exact ext_getD hne hall.out
        have HN : Hid (xs.length = ys.length) := hne
        clear h3 h3' hne
        go_wp2
        go_ret
        exact ⟨by rw [hab]; rfl, hbr⟩
  · have hneb : ((xs.length : Int) != (ys.length : Int)) = true := by rw [bne_iff_ne]; omega
    have hab : decide (xs = ys) = false := by
      simp only [decide_eq_false_iff_not]
      intro h; subst h; exact hne rfl
    have HN : Hid (¬ xs.length = ys.length) := hne
    clear hne h3 h3'
    go_enter Try.func17, Try.ntmps17
    go_wp2
    go_ret
    exact ⟨by rw [hab]; rfl, Below.refl _ _⟩
set_option maxHeartbeats 800000 in
theorem within_c (v : Value) (xs : List Int) (x : Int) (w : World) (h : Rd .i64 w v xs) :
   Calls Try.prog 26 #[v, .int .i64 x] w fun e w' => e = .returned (.bool (decide (x ∈ xs))) ∧ Below w.heap.size w w' := by
  obtain ⟨a, cap, rfl, h1, h2, h3⟩ := h
  unfold maxLen at h2
  go_enter Try.func26, Try.ntmps26
  go_wp2
  go_loopw [5] (fun i wr => ∃ j : Nat, j ≤ xs.length ∧ i = .int .i64 j ∧ Hid (x ∉ xs.take j) ∧ Below w.heap.size w wr) (fun i _ => xs.length - (intOf i).toNat)
  case atStart => exact ⟨0, Nat.zero_le _, rfl, (by simp : x ∉ xs.take 0), Below.refl _ _⟩
  case round =>
    obtain ⟨j, hj, rfl, hall, hbr⟩ := hrel
    by_cases hlt : j < xs.length
    · rcases h3 with h3 | ⟨b, off, rfl, h4⟩
      · subst h3; simp at hlt
      obtain ⟨z, hz⟩ : ∃ z, xs[j] = z := ⟨_, rfl⟩
      have hc : wr.cell? ⟨b, off + j, none⟩ = some (.int .i64 z) := by
        have := h4 j hlt
        rw [hbr.cell (block_lt_of_cell this), this, ← hz]; simp [List.getElem?_eq_getElem hlt]
      have hi : (0 : Int) ≤ (j : Int) := by omega
      have hi2 : (j : Int) < (xs.length : Int) := by omega
      have HZ : Hid (xs[j] = z) := hz
      clear h4 hz
      by_cases hzx : z = x
      · have hab : decide (x ∈ xs) = true := by
          simp only [decide_eq_true_eq]
          rw [← hzx, ← HZ.out]; exact List.getElem_mem hlt
        have hzb : (z == x) = true := by simp [hzx]
        clear hzx
        go_wp2
        go_ret
        exact ⟨by rw [hab]; rfl, hbr⟩
      · have hzb : (z == x) = false := by simp [hzx]
        have HZX : Hid (¬ z = x) := hzx
        clear hzx
        go_wp2
        go_roundw
        case rel =>
          refine ⟨j + 1, by omega, by go_num, ?_, hbr⟩
          show x ∉ xs.take (j + 1)
          rw [List.take_succ_eq_append_getElem hlt, List.mem_append, HZ.out]
          rintro (h | h)
          · exact hall.out h
          · exact HZX.out (List.mem_singleton.1 h).symm
        case measure => simp [intOf]; omega
    · obtain rfl : j = xs.length := by omega
      have hab : decide (x ∈ xs) = false := by
        simp only [decide_eq_false_iff_not]
        have := hall.out
        rwa [List.take_length] at this
      clear h3
      go_wp2
      go_ret
      exact ⟨by rw [hab]; rfl, hbr⟩

def DrK (w : World) (e : Ending) (w' : World) : Prop := ∃ (n : Int) (V : Value) (cs : Calls2), e = .returned (.agg #[.int .i64 n, V]) ∧ RdC w' V cs ∧ Lim 50 20 cs ∧ Below w.heap.size w w'
set_option maxHeartbeats 1600000 in
theorem drawOk_c (v : Value) (zs : List Int) (w : World) (h : Rd .u8 w v zs) (hok : ∀ z ∈ zs, 0 ≤ z ∧ z ≤ 255) (hlen : zs.length ≤ 1048576) :
   Calls Try.prog 21 #[v] w (DrK w) := by
  have kb : Below w.heap.size w (w.alloc (Obj.cells #[.int .i64 0, .slice none 0 0] 26)) := (Below.refl _ _).alloc (Nat.le_refl _) _
  have KB : Hid (Below w.heap.size w (w.alloc (Obj.cells #[.int .i64 0, .slice none 0 0] 26))) := kb
  have HK : Hid (Blk (w.alloc (Obj.cells #[.int .i64 0, .slice none 0 0] 26)) w.heap.size #[.int .i64 0, .slice none 0 0] 26) := Blk.new _ _ _
  have HR : Hid (Rd .u8 (w.alloc (Obj.cells #[.int .i64 0, .slice none 0 0] 26)) v zs) := h.below kb
  have HZ : Hid (∀ z ∈ zs, 0 ≤ z ∧ z ≤ 255) := hok
  clear h hok kb
  go_enter Try.func21, Try.ntmps21
  go_wp2_with (fail)
  refine (new_c _ zs _ HR.out HZ.out hlen).mono ?_
  rintro e w2 ⟨g, rfl, d2, hg, b2⟩
  have k2 : Blk w2 w.heap.size #[.int .i64 0, .slice none 0 0] 26 := HK.out.below b2 HK.out.lt
  have B2 : Hid (Below w.heap.size w w2) := belowCall KB.out b2 KB.out.size
  have D2 : Hid (Dr w2 g v zs) := d2
  have hgl : w.heap.size < g := by have : (w.alloc (Obj.cells #[.int .i64 0, .slice none 0 0] 26)).heap.size = w.heap.size + 1 := by simp
                                   omega
  have K2 : Hid (Blk w2 w.heap.size #[.int .i64 0, .slice none 0 0] 26) := k2
  clear KB HK HR d2 hg b2 k2
  go_wp2_with (fail)
  refine (drawAny_c g _ zs _ D2.out).mono ?_
  rintro e w3 ⟨n, V, cs, rfl, o3, l3, -, g3⟩
  obtain ⟨a2, c2, ln2, hV⟩ : ∃ a2 c2 ln2, V = .slice a2 ln2 c2 := by
    obtain ⟨lv, -, hrow, -⟩ := o3
    obtain ⟨a2, c2, hV, -⟩ := own_form hrow
    exact ⟨a2, c2, _, hV⟩
  subst hV
  have k3 : Blk w3 w.heap.size #[.int .i64 0, .slice none 0 0] 26 := K2.out.grownE g3 (by omega)
  have hs2 : w.heap.size < w2.heap.size := K2.out.lt
  have B3 : Below w.heap.size w w3 := B2.out.trans (grown_below g3 (by omega) (fun k e => by cases e; omega))
  have FIN : Hid (∀ W4, (w3.setCell ⟨w.heap.size, 0, none⟩ (.int .i64 n)).setCell ⟨w.heap.size, 1, none⟩ (.slice a2 ln2 c2) = W4 → Blk W4 w.heap.size #[.int .i64 n, (.slice a2 ln2 c2)] 26 ∧ DrK w (.returned (.agg #[.int .i64 n, (.slice a2 ln2 c2)])) W4) := by
    rintro _ rfl
    refine ⟨?_, n, _, cs, rfl, ?_, l3, (B3.setCell (p := ⟨w.heap.size, 0, none⟩) (Nat.le_refl _) _).setCell (p := ⟨w.heap.size, 1, none⟩) (Nat.le_refl _) _⟩
    · have := (k3.set 0 (.int .i64 n)).set 1 (.slice a2 ln2 c2)
      simpa using this
    · exact ((o3.far (grown_set _ _ _ _) hs2).far (grown_set _ _ _ _) hs2).rd
  have r0 := k3.cell 0
  have r1 := k3.cell 1
  have f0 := k3.frozen 0
  have f1 := k3.frozen 1
  simp at r0 r1
  clear o3 g3 k3 B3 D2 B2 K2
  go_wp2
  exact bodyPost_ret (v := .agg #[.int .i64 n, (.slice a2 ln2 c2)]) (results_cell_row rfl _ _ _ 26 _ (0, 0) _ rfl (FIN.out _ rfl).1 Try.underlying26 rfl size26') rfl (FIN.out _ rfl).2
end Go.Proofs.Ytcbeaimpmjljjaa
