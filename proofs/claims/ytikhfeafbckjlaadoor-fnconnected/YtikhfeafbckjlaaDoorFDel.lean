/- A path is looked for and taken out: slices.Index, slices.Delete; no condition. -/
import Derived.Test.YtikhfeafbckjlaaDoorFPath
import Derived.Test.YtikhfeafbckjlaaDoorTLaw
import Derived.Test.YtikhfeafbckjlaaDoorFEq
namespace Go.Proofs.YtikhfeafbckjlaaDoor
open Go.RowKit Go.ChangeShapes Go.WideShapes Go.ChangeAt
set_option linter.unusedVariables false
set_option linter.unusedSimpArgs false
set_option maxRecDepth 8000
set_option maxHeartbeats 1600000 in
theorem index_c (v : Value) (ps : Tri) (x y z : Int) (w : World) (h : Rt w v ps) :
   Calls Tryd.prog 51 #[v, .agg (P3 x y z)] w (IxE (fun q => decide ((x, y, z) = q)) ps w) := by
  have hb : Below w.heap.size w (w.alloc (Obj.cells (P3 x y z) 35)) := (Below.refl _ _).alloc (Nat.le_refl _) _
  have HK : Hid (Blk (w.alloc (Obj.cells (P3 x y z) 35)) w.heap.size (P3 x y z) 35) := Blk.new _ _ _
  have HB : Hid (Below w.heap.size w (w.alloc (Obj.cells (P3 x y z) 35))) := hb
  obtain ⟨a, cap, rfl, h1, h2, h3⟩ := h
  unfold maxLen at h2
  clear hb
  go_enter Tryd.func51, Tryd.ntmps51
  go_wp2
  obtain ⟨W0, hW0⟩ : ∃ W0, w.alloc (Obj.cells (P3 x y z) 35) = W0 := ⟨_, rfl⟩
  rw [hW0] at HB HK ⊢
  clear hW0
  go_loopw [8] (fun i wr => ∃ j : Nat, j ≤ ps.length ∧ i = .int .i64 j ∧ Hid (∀ t (ht : t < j) (h : t < ps.length), decide ((x, y, z) = ps[t]) = false) ∧ Hid (Below w.heap.size w wr ∧ Blk wr w.heap.size (P3 x y z) 35)) (fun i _ => ps.length - (intOf i).toNat)
  case atStart => exact ⟨0, Nat.zero_le _, rfl, fun t ht => by omega, HB.out, HK.out⟩
  case round =>
    obtain ⟨j, hj, rfl, hA, hbr⟩ := hrel
    by_cases hlt : j < ps.length
    case neg =>
      obtain rfl : j = ps.length := by omega
      have HN : Hid (None3 (fun q => decide ((x, y, z) = q)) ps) := fun i h => hA.out i h h
      clear h3
      go_wp2
      go_ret
      exact IxE.none HN.out hbr.out.1
    case pos =>
    rcases h3 with h3 | ⟨b, off, rfl, h4⟩
    · subst h3; simp at hlt
    have hc := h4 j hlt
    have hcb : b < w.heap.size := block_lt_of_cell hc.1
    obtain ⟨x', ex⟩ : ∃ x, ps[j].1 = x := ⟨_, rfl⟩
    obtain ⟨y', ey⟩ : ∃ y, ps[j].2.1 = y := ⟨_, rfl⟩
    obtain ⟨z', ez⟩ : ∃ z, ps[j].2.2 = z := ⟨_, rfl⟩
    have HX : Hid (ps[j] = (x', y', z')) := by rw [← ex, ← ey, ← ez]; rfl
    rw [ex, ey, ez] at hc
    have c0 := (hbr.out.1.cell (p := ⟨b, off + j * 3, none⟩) hcb).trans hc.1
    have c1 := (hbr.out.1.cell (p := ⟨b, off + j * 3 + 1, none⟩) hcb).trans hc.2.1
    have c2 := (hbr.out.1.cell (p := ⟨b, off + j * 3 + 2, none⟩) hcb).trans hc.2.2
    have k0 := hbr.out.2.cell 0
    have k1 := hbr.out.2.cell 1
    have k2 := hbr.out.2.cell 2
    simp at k0 k1 k2
    clear h4 hc ex ey ez
    go_wp2
    refine wp_region_quiet_lit (by kernel_rfl) (by kernel_rfl) ?_
    repeat (go_big_quiet_step (fail))
    refine BigFrame.wpQuiet_want rfl fun K hK => quietEql _ _ rfl x y z x' y' z' rfl rfl (hK _ ?_)
    refine wpQuiet_nil ?_
    rintro _ ⟨nq, rfl⟩
    have HB2 : Hid (Below w.heap.size w (wr.drewN nq) ∧ Blk (wr.drewN nq) w.heap.size (P3 x y z) 35) := ⟨below_drewN hbr.out.1 _, hbr.out.2.drewN _⟩
    obtain ⟨t, ht⟩ : ∃ t, decide ((x, y, z) = (x', y', z')) = t := ⟨_, rfl⟩
    rw [ht]
    have HT : Hid (decide ((x, y, z) = (x', y', z')) = t) := ht
    clear ht hK
    cases t with
    | true =>
      have HF : Hid (Fst (fun q => decide ((x, y, z) = q)) ps j) := ⟨hlt, by rw [HX.out]; exact HT.out, fun i hi => hA.out i hi (by omega)⟩
      go_wp2
      go_ret
      exact IxE.found HF.out HB2.out.1
    | false =>
      have HF : Hid (∀ t (ht : t < j + 1) (h : t < ps.length), decide ((x, y, z) = ps[t]) = false) := fun t ht h => by
        by_cases htj : t < j
        · exact hA.out t htj h
        · obtain rfl : t = j := by omega
          rw [HX.out]; exact HT.out
      go_wp2
      go_roundw
      case rel => exact ⟨j + 1, by omega, by go_num, HF.out, HB2.out⟩
      case measure => simp [intOf]; omega
set_option maxHeartbeats 1600000 in
theorem delete_c (base b cap k m : Nat) (ls : Tri) (w : World) (hown : w.ownsRow base 35 3 (.slice (some ⟨b, 0, none⟩) (m + 1) cap) (m + 1) (tr ls)) (hn : ls.length = m + 1) (hk : k ≤ m) (hm : m ≤ 4194304) :
   Calls Tryd.prog 52 #[.slice (some ⟨b, 0, none⟩) (m + 1) cap, .int .i64 k, .int .i64 (k + 1)] w fun e w' => e = .returned (.slice (some ⟨b, 0, none⟩) m cap) ∧ w'.ownsRow base 35 3 (.slice (some ⟨b, 0, none⟩) m cap) m (tr (ls.eraseIdx k)) ∧ w.grownBy w' (some b) := by
  have hc : m + 1 ≤ cap ∧ cap ≤ 2 ^ 63 - 1 := by
    obtain ⟨a', c', e', m1, m2, -⟩ := own_form hown
    cases e'; exact ⟨m1, m2⟩
  obtain ⟨hc1, hc2⟩ := hc
  have HO : Hid (w.ownsRow base 35 3 (.slice (some ⟨b, 0, none⟩) (m + 1) cap) (m + 1) (tr ls)) := hown
  have HN : Hid (ls.length = m + 1) := hn
  have hne : ((k : Int) == (k : Int) + 1) = false := by simp; omega
  have hcast : ((m + 1 : Nat) : Int) = (m : Int) + 1 := by omega
  clear hown hn
  go_enter Tryd.func52, Tryd.ntmps52
  go_wp2
  have ne2 : Nonempty (At fun _ => True) := ⟨⟨w, trivial⟩⟩
  refine region_mixA [true, true, true, true, true, true, false, false] 7 1 (fun _ => True) (by kernel_rfl) rfl (by kernel_rfl) (fun _ _ _ _ _ h => h) trivial ?_
  simp only [selT, selF]
  repeat (go_big_quiet_step (fail))
  refine wpQuiet_nil ?_
  clear ne2
  obtain ⟨ad, had⟩ : ∃ ad, (if cap = k + 1 then some (⟨b, 0, none⟩ : Addr) else some ⟨b, (k + 1) * 3, none⟩) = ad := ⟨_, rfl⟩
  rw [had]
  have HAD : Hid ((if cap = k + 1 then some (⟨b, 0, none⟩ : Addr) else some ⟨b, (k + 1) * 3, none⟩) = ad) := had
  clear had
  have hsub : m + 1 - (k + 1) = m - k := by omega
  refine tail_step ?_
  go_wp2_with (at_builtin; refine cutTri rfl _ _ rfl base b m cap k ls (World.ownsRow.drew HO.out) HN.out hk rfl ad (cap - (k + 1)) HAD.out (by rw [hsub]; rfl) ?_)
  intro w1 ho1 hg1
  have HO1 : Hid (w1.ownsRow base 35 3 (.slice (some ⟨b, 0, none⟩) m cap) m (tr (ls.eraseIdx k)) ∧ w.grownBy w1 (some b)) := ⟨ho1, ⟨hg1.os, hg1.tape, hg1.output, hg1.size, hg1.block⟩⟩
  clear ho1 hg1 HO
  go_wp2
  refine tail_end ?_
  obtain ⟨w2, hrun, ho2, hg2⟩ := clearRun (w := w1) 0 base b m cap (cap - m) (ls.eraseIdx k) HO1.out.1 hc1
  have HRUN : Hid ((Builtin.clear_ #[24] 0 #[.slice (some ⟨b, m * 3, none⟩) 1 (cap - m)]).run Tryd.prog w1 = .ok (.tuple #[]) w2) := hrun
  have HO2 : Hid (w2.ownsRow base 35 3 (.slice (some ⟨b, 0, none⟩) m cap) m (tr (ls.eraseIdx k)) ∧ w.grownBy w2 (some b)) := ⟨ho2, grown_trans HO1.out.2 hg2⟩
  clear hrun ho2 hg2 HO1 hsub
  go_wp2
  rw [HRUN.out]
  go_wp2
  go_ret
  exact ⟨rfl, HO2.out.1, HO2.out.2⟩
end Go.Proofs.YtikhfeafbckjlaaDoor
