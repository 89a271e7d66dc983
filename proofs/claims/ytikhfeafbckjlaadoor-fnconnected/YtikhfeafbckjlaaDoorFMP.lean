/- The moves' own search, and how they are made; no condition. -/
import Derived.Test.YtikhfeafbckjlaaDoorFShr
namespace Go.Proofs.YtikhfeafbckjlaaDoor
open Go.RowKit Go.ChangeShapes Go.WideShapes Go.ChangeAt
set_option linter.unusedVariables false
set_option linter.unusedSimpArgs false
set_option maxRecDepth 8000
theorem Move1_c (x y z f mm : Int) (B : Nat) (w : World) (hB : Blk w B #[.int .i64 f, .int .i64 mm] 74) : Calls Tryd.prog 68 #[.agg (P3 x y z), .pointer (some ⟨B, 0, none⟩)] w fun e w' => e = .returned (.bool (x == f)) ∧ Below w.heap.size w w' := by
  have HB : Hid (Below w.heap.size w (w.alloc (Obj.cells (P3 x y z) 35))) := (Below.refl _ _).alloc (Nat.le_refl _) _
  have hl := hB.lt
  have c0 := hB.cell 0
  simp at c0
  go_enter Tryd.func68, Tryd.ntmps68
  go_wp2
  go_ret
  exact ⟨rfl, HB.out⟩
set_option maxHeartbeats 1600000 in
theorem indexMove_c (v : Value) (ps : Tri) (f mm : Int) (B : Nat) (w : World) (h : Rt w v ps) (hB : Blk w B #[.int .i64 f, .int .i64 mm] 74) :
   Calls Tryd.prog 67 #[v, .func (.func 68) #[] #[.pointer (some ⟨B, 0, none⟩)]] w (IxE (fun x => x.1 == f) ps w) := by
  obtain ⟨a, cap, rfl, h1, h2, h3⟩ := h
  unfold maxLen at h2
  have HK : Hid (Blk w B #[.int .i64 f, .int .i64 mm] 74) := hB
  clear hB
  go_enter Tryd.func67, Tryd.ntmps67
  go_wp2
  go_loopw [8] (fun i wr => ∃ j : Nat, j ≤ ps.length ∧ i = .int .i64 j ∧ Hid (∀ t (ht : t < j) (h : t < ps.length), (ps[t].1 == f) = false) ∧ Hid (Below w.heap.size w wr)) (fun i _ => ps.length - (intOf i).toNat)
  case atStart => exact ⟨0, Nat.zero_le _, rfl, fun t ht => by omega, Below.refl _ _⟩
  case round =>
    obtain ⟨j, hj, rfl, hA, hbr⟩ := hrel
    by_cases hlt : j < ps.length
    case neg =>
      obtain rfl : j = ps.length := by omega
      have HN : Hid (None3 (fun x => x.1 == f) ps) := fun i h => hA.out i h h
      clear h3
      go_wp2
      go_ret
      exact IxE.none HN.out hbr.out
    case pos =>
    rcases h3 with h3 | ⟨b, off, rfl, h4⟩
    · subst h3; simp at hlt
    have hc := h4 j hlt
    have hcb : b < w.heap.size := block_lt_of_cell hc.1
    obtain ⟨x, ex⟩ : ∃ x, ps[j].1 = x := ⟨_, rfl⟩
    obtain ⟨y, ey⟩ : ∃ y, ps[j].2.1 = y := ⟨_, rfl⟩
    obtain ⟨z, ez⟩ : ∃ z, ps[j].2.2 = z := ⟨_, rfl⟩
    have HX : Hid (ps[j] = (x, y, z)) := by rw [← ex, ← ey, ← ez]; rfl
    rw [ex, ey, ez] at hc
    have c0 := (hbr.out.cell (p := ⟨b, off + j * 3, none⟩) hcb).trans hc.1
    have c1 := (hbr.out.cell (p := ⟨b, off + j * 3 + 1, none⟩) hcb).trans hc.2.1
    have c2 := (hbr.out.cell (p := ⟨b, off + j * 3 + 2, none⟩) hcb).trans hc.2.2
    clear h4 hc ex ey ez
    go_wp2_with (fail)
    refine (Move1_c x y z f mm B wr (HK.out.below hbr.out HK.out.lt)).mono ?_
    rintro e w2 ⟨rfl, b2⟩
    have HB2 : Hid (Below w.heap.size w w2) := belowCall hbr.out b2 hbr.out.size
    clear b2
    obtain ⟨t, ht⟩ : ∃ t, (x == f) = t := ⟨_, rfl⟩
    rw [ht]
    have HT : Hid ((x == f) = t) := ht
    clear ht
    cases t with
    | true =>
      have HF : Hid (Fst (fun x => x.1 == f) ps j) := ⟨hlt, by rw [HX.out]; exact HT.out, fun i hi => hA.out i hi (by omega)⟩
      go_wp2
      go_ret
      exact IxE.found HF.out HB2.out
    | false =>
      have HF : Hid (∀ t (ht : t < j + 1) (h : t < ps.length), (ps[t].1 == f) = false) := fun t ht h => by
        by_cases htj : t < j
        · exact hA.out t htj h
        · obtain rfl : t = j := by omega
          rw [HX.out]; exact HT.out
      go_wp2
      go_roundw
      case rel => exact ⟨j + 1, by omega, by go_num, HF.out, HB2.out⟩
      case measure => simp [intOf]; omega
/-- a move: its path gets another Mid -/
def mv1 (ps : Tri) (q : Int × Int) : Tri := ps.map fun x => if x.1 == q.1 then (x.1, x.2.1, q.2) else x
def movL (ms : Mvs) (ps : Tri) : Tri := ms.foldl mv1 ps
theorem mv1_len (ps : Tri) (q : Int × Int) : (mv1 ps q).length = ps.length := by simp [mv1]
theorem mv1_from (ps : Tri) (q : Int × Int) : (mv1 ps q).map (·.1) = ps.map (·.1) := by
  rw [mv1, List.map_map]
  apply List.map_congr_left
  intro x _
  simp only [Function.comp]
  split <;> rfl
theorem movL_from : ∀ (ms : Mvs) (ps : Tri), (movL ms ps).map (·.1) = ps.map (·.1)
  | [], ps => rfl
  | q :: r, ps => by rw [movL, List.foldl_cons]; exact (movL_from r (mv1 ps q)).trans (mv1_from ps q)
theorem movL_len (ms : Mvs) (ps : Tri) : (movL ms ps).length = ps.length := by
  have := congrArg List.length (movL_from ms ps)
  simpa using this
theorem movL_snoc (ms : Mvs) (q : Int × Int) (ps : Tri) : movL (ms ++ [q]) ps = mv1 (movL ms ps) q := by simp [movL]
theorem mv1_set {ps : Tri} {f z : Int} {k : Nat} (hn : (ps.map (·.1)).Nodup) (hk : Fst (fun x => x.1 == f) ps k) : mv1 ps (f, z) = ps.set k ((ps[k]'hk.1).1, (ps[k]'hk.1).2.1, z) := by
  obtain ⟨h1, h2, -⟩ := hk
  apply List.ext_getElem
  · simp [mv1]
  · intro i hi hi'
    have hi1 : i < ps.length := by simpa [mv1] using hi
    simp only [mv1, List.getElem_map, List.getElem_set]
    by_cases hik : k = i
    · subst hik
      rw [if_pos rfl, if_pos h2]
    · rw [if_neg hik]
      have : ¬ (ps[i].1 == f) = true := fun e => hik (by
        have e1 : (ps.map (·.1))[k]'(by simpa using h1) = (ps.map (·.1))[i]'(by simpa using hi1) := by
          simp only [List.getElem_map]
          simp at e h2
          rw [e, h2]
        refine Classical.byContradiction fun hne => ?_
        rcases Nat.lt_or_gt_of_ne hne with h | h
        · exact (List.pairwise_iff_getElem.1 hn) k i (by simpa using h1) (by simpa using hi1) h e1
        · exact (List.pairwise_iff_getElem.1 hn) i k (by simpa using hi1) (by simpa using h1) h e1.symm)
      rw [if_neg this]
theorem tr_set2 : ∀ (l : Tri) (i : Nat) (h : i < l.length) (z : Int), (tr l).set (i * 3 + 2) (.int .i64 z) = tr (l.set i (l[i].1, l[i].2.1, z))
  | y :: r, 0, _, z => by simp [tr]
  | y :: r, i + 1, h, z => by
    have := tr_set2 r i (by simpa using h) z
    rw [show (i + 1) * 3 + 2 = i * 3 + 2 + 3 by omega]
    simpa [tr] using this
set_option maxHeartbeats 3200000 in
theorem movePaths_c (v mv : Value) (ps : Tri) (ms : Mvs) (base : Nat) (w : World) (ho : Ot 35 base w v ps) (hm : Rp mf mg w mv ms) (hne : mv.ownBlock = none ∨ mv.ownBlock ≠ v.ownBlock) (hb : base ≤ w.heap.size) (hn : (ps.map (·.1)).Nodup) (hall : ∀ q ∈ ms, q.1 ∈ ps.map (·.1)) :
   Calls Tryd.prog 43 #[v, mv] w fun e w' => e = .returned (.tuple #[]) ∧ Ot 35 base w' v (movL ms ps) ∧ w.grownBy w' v.ownBlock := by
  obtain ⟨a1, c1, rfl, m1, m2, m3⟩ := id hm
  unfold maxLen at m2
  have HM : Hid (Rp mf mg w (.slice a1 ms.length c1) ms) := hm
  have HO : Hid (Ot 35 base w v ps) := ho
  have HNE : Hid ((Value.slice a1 ms.length c1).ownBlock = none ∨ (Value.slice a1 ms.length c1).ownBlock ≠ v.ownBlock) := hne
  have HND : Hid ((ps.map (·.1)).Nodup) := hn
  have HAL : Hid (∀ q ∈ ms, q.1 ∈ ps.map (·.1)) := hall
  clear hm ho hne hn hall m3
  go_enter Tryd.func43, Tryd.ntmps43
  go_wp2
  go_loopw [9] (fun i wr => ∃ j : Nat, j ≤ ms.length ∧ i = .int .i64 j ∧ Hid (Ot 35 base wr v (movL (ms.take j) ps)) ∧ Hid (w.grownBy wr v.ownBlock)) (fun i _ => ms.length - (intOf i).toNat)
  case atStart => exact ⟨0, Nat.zero_le _, rfl, HO.out, grown_refl _ _⟩
  case round =>
    obtain ⟨j, hj, rfl, Oj, Gj⟩ := hrel
    by_cases hlt : j < ms.length
    case neg =>
      obtain rfl : j = ms.length := by omega
      have oj := Oj.out
      rw [List.take_length] at oj
      have HF : Hid (Ot 35 base wr v (movL ms ps) ∧ w.grownBy wr v.ownBlock) := ⟨oj, Gj.out⟩
      clear oj
      go_wp2
      exact bodyPost_end (results_none rfl _ _ _) rfl ⟨rfl, HF.out⟩
    case pos =>
    obtain ⟨⟨f, z⟩, hq⟩ : ∃ q, ms[j] = q := ⟨_, rfl⟩
    obtain ⟨L, hL⟩ : ∃ L, movL (ms.take j) ps = L := ⟨_, rfl⟩
    have hLf : L.map (·.1) = ps.map (·.1) := by rw [← hL]; exact movL_from _ _
    have hmem : f ∈ L.map (·.1) := by rw [hLf]; have := HAL.out _ (List.getElem_mem hlt); rw [hq] at this; exact this
    have hnL : (L.map (·.1)).Nodup := by rw [hLf]; exact HND.out
    have oj := Oj.out
    rw [hL] at oj
    obtain ⟨x1, x2, x3, -, -, x4⟩ := HM.out.grown Gj.out (.inr HNE.out)
    cases x3
    obtain ⟨bm, om, rfl, x5⟩ : ∃ b off, a1 = some ⟨b, off, none⟩ ∧ ∀ i (h : i < ms.length), wr.cell? ⟨b, off + i * 2, none⟩ = some (mf ms[i]) ∧ wr.cell? ⟨b, off + i * 2 + 1, none⟩ = some (mg ms[i]) := by
      rcases x4 with x4 | x4
      · rw [x4] at hlt; simp at hlt
      · exact x4
    have d0 := (x5 j hlt).1
    have d1 := (x5 j hlt).2
    rw [hq] at d0 d1
    have hbm : bm < wr.heap.size := block_lt_of_cell d0
    obtain ⟨W1, hW1⟩ : ∃ W1, wr.alloc (Obj.cells #[.int .i64 f, .int .i64 z] 74) = W1 := ⟨_, rfl⟩
    have b1 : Below wr.heap.size wr W1 := hW1 ▸ (Below.refl _ _).alloc (Nat.le_refl _) _
    have KB : Hid (Blk W1 wr.heap.size #[.int .i64 f, .int .i64 z] 74) := hW1 ▸ Blk.new _ _ _
    have O1 : Hid (Ot 35 base W1 v L) := oj.below b1
    have B1 : Hid (Below wr.heap.size wr W1) := b1
    have HW1 : Hid (wr.alloc (Obj.cells #[.int .i64 f, .int .i64 z] 74) = W1) := hW1
    have HQ : Hid (ms[j] = (f, z) ∧ movL (ms.take j) ps = L) := ⟨hq, hL⟩
    have HMEM : Hid (f ∈ L.map (·.1)) := hmem
    have HNL : Hid ((L.map (·.1)).Nodup) := hnL
    clear x4 x5 oj hq hL hLf hmem hnL hW1 b1
    go_wp2_with (fail)
    rw [HW1.out]
    refine (indexMove_c v L f z wr.heap.size W1 O1.out.rd KB.out).mono ?_
    rintro e w2 ⟨r, rfl, hr, b2⟩
    obtain ⟨k, rfl, hk⟩ : ∃ k : Nat, r = k ∧ Fst (fun x => x.1 == f) L k := by
      rcases hr with ⟨k, h1, h2⟩ | ⟨-, h2⟩
      · exact ⟨k, h1, h2⟩
      · exfalso
        obtain ⟨x, hx, hxf⟩ := List.mem_map.1 HMEM.out
        obtain ⟨i, hi, rfl⟩ := List.getElem_of_mem hx
        have := h2 i hi
        simp at this
        exact this hxf
    have hkl := hk.1
    have o2 : Ot 35 base w2 v L := O1.out.below b2
    obtain ⟨av, cv, hv, l1, l2, hav⟩ : ∃ av cv, v = .slice av L.length cv ∧ L.length ≤ cv ∧ cv ≤ maxLen ∧ (L.length = 0 ∨ ∃ g, av = some ⟨g, 0, none⟩) := own_form o2
    subst hv
    obtain ⟨bv, rfl⟩ : ∃ g, av = some ⟨g, 0, none⟩ := by
      rcases hav with h | h
      · omega
      · exact h
    unfold maxLen at l2
    have ht := tr_at L k hkl
    have cz : w2.cell? ⟨bv, k * 3 + 2, none⟩ = some (.int .i64 L[k].2.2) := (World.ownsRow.cellAt o2 (k * 3 + 2) (by omega)).trans ht.2.2
    have fz : w2.frozen? ⟨bv, k * 3 + 2, none⟩ = false := World.ownsRow.frozenAt o2 _
    have kb2 : Blk w2 wr.heap.size #[.int .i64 f, .int .i64 z] 74 := KB.out.below b2 KB.out.lt
    have c1' := kb2.cell 1
    simp at c1'
    have b12 : Below wr.heap.size wr w2 := belowCall B1.out b2 B1.out.size
    have HFIN : Hid (Ot 35 base (w2.setCell ⟨bv, k * 3 + 2, none⟩ (.int .i64 z)) (.slice (some ⟨bv, 0, none⟩) L.length cv) (movL (ms.take (j + 1)) ps) ∧ w.grownBy (w2.setCell ⟨bv, k * 3 + 2, none⟩ (.int .i64 z)) (some bv)) := by
      constructor
      · have s1 := (World.ownsRow.stored o2 (k * 3 + 2) (.int .i64 z)).1
        rw [tr_set2 L k hkl z] at s1
        have e : movL (ms.take (j + 1)) ps = L.set k (L[k].1, L[k].2.1, z) := by
          rw [List.take_succ_eq_append_getElem hlt, movL_snoc, HQ.out.1, HQ.out.2, mv1_set HNL.out hk]
        rw [e, Ot, List.length_set]; exact s1
      · have g2 : w.grownBy w2 (some bv) := ⟨b12.os.trans Gj.out.os, b12.tape.trans Gj.out.tape, b12.output.trans Gj.out.output, Nat.le_trans Gj.out.size b12.size, fun i hi hne => (b12.block i (Nat.lt_of_lt_of_le hi Gj.out.size)).trans (Gj.out.block i hi hne)⟩
        exact grown_trans g2 (grown_set _ _ _ _)
    have hkI : (k : Int) < (L.length : Int) := by omega
    clear o2 kb2 b12 hr hk ht b2 O1 KB B1 HW1 hav
    go_wp2
    go_roundw
    case rel => exact ⟨j + 1, by omega, by go_num, HFIN.out.1, HFIN.out.2⟩
    case measure => simp [intOf]; omega
end Go.Proofs.YtikhfeafbckjlaaDoor
