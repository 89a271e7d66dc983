/- A register turns; no condition. -/
import Derived.Test.YtkgpnpgbadipjaaBts
import Derived.Test.YtkgpnpgbadipjaaMixT
import Derived.Test.YtkgpnpgbadipjaaDraw
namespace Go.Proofs.Ytkgpnpgbadipjaa
open Go.RowKit Go.ChangeShapes Go.WideShapes Go.ChangeAt
set_option linter.unusedVariables false
set_option linter.unusedSimpArgs false
set_option maxRecDepth 8000
/-- the next state of a register -/
def nxt (s t : Int) : Int := if s % 2 = 1 then bits .xor .i64 (s / 2) t else s / 2
theorem grown_drewN' {w w' : World} {row : Option Nat} (h : w.grownBy w' row) : w.grownBy w'.drew row := ⟨h.os, h.tape, h.output, h.size, h.block⟩
theorem grown_set' (w : World) (g k : Nat) (x : Value) : w.grownBy (w.setCell ⟨g, k, none⟩ x) (some g) := dgrown_set w g k x
set_option maxHeartbeats 3200000 in
theorem turn_c (g : Nat) (s t : Int) (w : World) (h : Blk w g #[.int .i64 s, .int .i64 t] 42) (s0 : 0 ≤ s) (s1 : s ≤ 65535) :
   Calls Try.prog 27 #[.pointer (some ⟨g, 0, none⟩)] w fun e w' => e = .returned (.int .i64 (s % 2)) ∧ Blk w' g #[.int .i64 (nxt s t), .int .i64 t] 42 ∧ w.grownBy w' (some g) := by
  have HK : Hid (Blk w g #[.int .i64 s, .int .i64 t] 42) := h
  have c0 := h.cell 0
  have c1 := h.cell 1
  have f0 := h.frozen 0
  simp at c0 c1
  have hm : s.tmod 2 = s % 2 := Int.tmod_eq_emod_of_nonneg s0
  have hq : s.tdiv 2 = s / 2 := Int.tdiv_eq_ediv_of_nonneg s0
  clear h
  by_cases hb : s % 2 = 1
  · have HN : Hid (nxt s t = bits .xor .i64 (s / 2) t) := by show _ = _; unfold nxt; rw [if_pos hb]
    have HBB : Hid (s % 2 = 1) := hb
    have hbb : (s % 2 == 1) = true := by simp [hb]
    obtain ⟨W1, hW1⟩ : ∃ W, w.setCell ⟨g, 0, none⟩ (.int .i64 (s / 2)) = W := ⟨_, rfl⟩
    have HK1 : Hid (Blk W1 g #[.int .i64 (s / 2), .int .i64 t] 42) := by rw [← hW1]; exact HK.out.set 0 _
    have HG1 : Hid (w.grownBy W1 (some g)) := by rw [← hW1]; exact grown_set' _ _ _ _
    have HW1 : Hid (w.setCell ⟨g, 0, none⟩ (.int .i64 (s / 2)) = W1) := hW1
    clear hb hW1
    obtain ⟨S, hS⟩ : ∃ S : World → Prop, ∀ W, S W ↔ Blk W g #[.int .i64 (s / 2), .int .i64 t] 42 := ⟨_, fun _ => Iff.rfl⟩
    have y0 : ∀ W : At S, W.wd.cell? ⟨g, 0, none⟩ = some (.int .i64 (s / 2)) := fun W => by have := ((hS _).1 W.ok).cell 0; simpa using this
    have y1 : ∀ W : At S, W.wd.cell? ⟨g, 1, none⟩ = some (.int .i64 t) := fun W => by have := ((hS _).1 W.ok).cell 1; simpa using this
    have HSD : Hid (S W1.drew) := (hS _).2 HK1.out.drew
    have ne : Nonempty (At S) := ⟨⟨_, HSD.out⟩⟩
    clear hS
    go_enter Try.func27, Try.ntmps27
    go_wp2
    rw [HW1.out]
    refine region_mixT [true, true, true, true, true, true, true, true, true, true, true, false] 11 0 S (by kernel_rfl) rfl (by kernel_rfl) (fun _ _ _ _ _ h => h) HSD.out ?_
    simp only [selT, selF]
    try simp only [Act.put]
    repeat (go_big_quiet_step (fail))
    refine wpQuiet_nil ?_
    clear y0 y1 ne HSD
    have k0 := HK1.out.drew.cell 0
    have k1 := HK1.out.drew.frozen 0
    simp at k0
    refine tail_end ?_
    go_wp2
    go_ret
    refine ⟨by rw [HBB.out]; first | rfl | simp_all, ?_, ?_⟩
    · rw [HN.out]
      exact HK1.out.drew.set 0 _
    · exact grown_trans (grown_drewN' HG1.out) (grown_set' _ _ _ _)
  · have h0 : s % 2 = 0 := by omega
    have HN : Hid (nxt s t = s / 2) := by show _ = _; unfold nxt; rw [if_neg hb]
    have HBB : Hid (s % 2 = 0) := h0
    have hbb : (s % 2 == 1) = false := by simp [h0]
    clear hb h0
    go_enter Try.func27, Try.ntmps27
    go_wp2
    go_ret
    exact ⟨by first | rfl | simp_all, by rw [HN.out]; exact HK.out.set 0 _, grown_set' _ _ _ _⟩

end Go.Proofs.Ytkgpnpgbadipjaa
