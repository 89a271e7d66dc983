/- holderAt; no condition. -/
import Derived.Test.YtdnophdldpophaaTMa
import Derived.Test.YtdnophdldpophaaSu
namespace Go.Proofs.Ytdnophdldpophaa
open Go.RowKit Go.ChangeShapes Go.WideShapes Go.ChangeAt
set_option linter.unusedVariables false
set_option linter.unusedSimpArgs false
set_option maxRecDepth 8000
set_option maxHeartbeats 3200000 in
theorem holder_c (v : Value) (ls : List Tf) (z t : Int) (w : World) (h : Rg 5 tfC w v ls) (ht : 0 ≤ t ∧ t ≤ 1000000000) (hf : ∀ i (h : i < ls.length), 0 ≤ ls[i].2.1 ∧ ls[i].2.1 ≤ 86399) (hn : ls.length ≤ 1048576) :
   Calls Try.prog 46 #[v, .int .i64 z, .int .i64 t] w fun e w' => ∃ p, e = .returned (.int .i64 p) ∧ HoS ls z t p ∧ Below w.heap.size w w' := by
  obtain ⟨a, cap, rfl, h1, h2, h3⟩ := h
  unfold maxLen at h2
  have HF : Hid (∀ i (h : i < ls.length), 0 ≤ ls[i].2.1 ∧ ls[i].2.1 ≤ 86399) := hf
  clear hf
  go_enter Try.func46, Try.ntmps46
  go_wp2
  go_loopw [7, 8, 14] (fun p m i wr => ∃ j : Nat, ∃ pp mm : Int, j ≤ ls.length ∧ p = .int .i64 pp ∧ m = .int .i64 mm ∧ i = .int .i64 j ∧ Hid (HoP ls z t j pp mm) ∧ Hid (Below w.heap.size w wr)) (fun _ _ i _ => ls.length - (intOf i).toNat)
  case atStart => exact ⟨0, -1, 86400, Nat.zero_le _, rfl, rfl, rfl, HoP.zero _ _ _, Below.refl _ _⟩
  case round =>
    obtain ⟨j, pp, mm, hj, rfl, rfl, rfl, hA, hbr⟩ := hrel
    by_cases hlt : j < ls.length
    case neg =>
      obtain rfl : j = ls.length := by omega
      clear h3
      go_wp2
      go_ret
      exact ⟨_, rfl, hA.out.done, hbr.out⟩
    case pos =>
    rcases h3 with h3 | ⟨b, off, rfl, h4⟩
    · subst h3; simp at hlt
    have hcb : b < w.heap.size := block_lt_of_cell (h4 j hlt 0 _ rfl)
    obtain ⟨r, hr⟩ : ∃ r, ls[j] = r := ⟨_, rfl⟩
    have HR : Hid (ls[j] = r) := hr
    have hc := rangeAt_below (h4 j hlt) hbr.out hcb
    rw [hr] at hc
    have e0 : wr.cell? ⟨b, off + j * 5, none⟩ = some (.int .i64 r.1) := hc 0 _ rfl
    have e1 : wr.cell? ⟨b, off + j * 5 + 1, none⟩ = some (.int .i64 r.2.1) := hc 1 _ rfl
    have e2 : wr.cell? ⟨b, off + j * 5 + 2, none⟩ = some (.int .i64 r.2.2.1) := hc 2 _ rfl
    have e3 : wr.cell? ⟨b, off + j * 5 + 3, none⟩ = some (.int .i64 r.2.2.2.1) := hc 3 _ rfl
    have e4 : wr.cell? ⟨b, off + j * 5 + 4, none⟩ = some (.int .i64 r.2.2.2.2) := hc 4 _ rfl
    have HB2 : Hid (Below w.heap.size w (wr.alloc (Obj.cells #[.int .i64 r.1, .int .i64 r.2.1, .int .i64 r.2.2.1, .int .i64 r.2.2.2.1, .int .i64 r.2.2.2.2] 32))) := hbr.out.alloc hbr.out.size _
    have hrf := HF.out j hlt
    rw [hr] at hrf
    clear h4 hc hr
    by_cases hz : (r.1 == z) = true
    · have hz' : (r.1 != z) = false := by simpa using hz
      have HZ : Hid (ls[j].1 = z) := by show ls[j].1 = z; rw [HR.out]; simpa using hz
      have HAG : Hid (ago ls[j].2.1 t = Int.tmod (t - r.2.1 + 86400) 86400) := by
        show ago ls[j].2.1 t = _
        rw [HR.out, ago, Int.tmod_eq_emod_of_nonneg (by omega)]
      obtain ⟨g, hg⟩ : ∃ g, Int.tmod (t - r.2.1 + 86400) 86400 = g := ⟨_, rfl⟩
      have HG : Hid (ago ls[j].2.1 t = g) := by show ago ls[j].2.1 t = g; rw [HAG.out, hg]
      clear hz HAG
      by_cases hm : g < mm
      · have HN : Hid (HoP ls z t (j + 1) j g) := by
          have := hA.out.take hlt HZ.out (by rw [HG.out]; exact hm)
          rw [HG.out] at this; exact this
        go_wp2
        go_roundw
        case rel => exact ⟨j + 1, j, g, by omega, rfl, rfl, by go_num, HN.out, HB2.out⟩
        case measure => simp [intOf]; omega
      · have HN : Hid (HoP ls z t (j + 1) pp mm) := hA.out.keep hlt HZ.out (by rw [HG.out]; exact hm)
        have hm' : (g < mm) = False := eq_false hm
        clear hm
        go_wp2
        go_roundw
        case rel => exact ⟨j + 1, pp, mm, by omega, rfl, rfl, by go_num, HN.out, HB2.out⟩
        case measure => simp [intOf]; omega
    · have hz' : (r.1 != z) = true := by simpa using hz
      have HN : Hid (HoP ls z t (j + 1) pp mm) := hA.out.skip hlt (by rw [HR.out]; simpa using hz)
      clear hz
      go_wp2
      go_roundw
      case rel => exact ⟨j + 1, pp, mm, by omega, rfl, rfl, by go_num, HN.out, HB2.out⟩
      case measure => simp [intOf]; omega
end Go.Proofs.Ytdnophdldpophaa
