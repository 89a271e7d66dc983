/- The contract of the program's function that makes its own panel out of one that is told; no condition. -/
import Derived.Test.YtcbeaimpmjljjaaWire
namespace Go.Proofs.Ytcbeaimpmjljjaa
open Go.RowKit Go.ChangeShapes Go.WideShapes Go.ChangeAt
set_option linter.unusedVariables false
set_option linter.unusedSimpArgs false
set_option maxRecDepth 8000
/-- the panel is right as far as call j -/
def PTo (n : Int) (cs : Calls2) (j : Nat) : Prop := (∀ a (h : a < cs.length), a < j → CallOk cs[a]) ∧ SeenOk n (linesTo cs j)
theorem linesTo_take (cs : Calls2) (j : Nat) (h : j ≤ cs.length) : linesTo (cs.take j) (cs.take j).length = linesTo cs j := by
  rw [linesTo_all, linesTo]
theorem ok_pre {n : Int} {cs : Calls2} (h : POk n cs) (j : Nat) (hj : j ≤ cs.length) : PTo n cs j := by
  obtain ⟨h1, h2, h3, h4, h5⟩ := h
  have e : linesTo cs cs.length = linesTo cs j ++ (cs.drop j).flatMap fun c => c.2.map (·.1) := by
    rw [linesTo_all, linesTo]
    conv => lhs; rw [← List.take_append_drop j cs]
    rw [List.flatMap_append]
  rw [e] at h4 h5
  exact ⟨fun a h _ => h3 a h, fun l hl => h4 l (List.mem_append_left _ hl), (List.nodup_append.1 h5).1⟩
theorem pto_succ {n : Nat} {cs : Calls2} {j : Nat} (hj : j < cs.length) (h : PTo n cs j) : PTo n cs (j + 1) ↔ AddOk n (cs.take j) cs[j] := by
  have e : linesTo (cs.take j) (cs.take j).length = linesTo cs j := linesTo_take cs j (by omega)
  have e2 := linesTo_succ cs j hj
  constructor
  · rintro ⟨h1, h2, h3⟩
    rw [e2] at h2 h3
    exact ⟨h1 j hj (by omega), fun x hx => h2 x.1 (List.mem_append_right _ (List.mem_map.2 ⟨x, hx, rfl⟩)), by rw [e]; exact h3⟩
  · rintro ⟨h1, h2, h3⟩
    rw [e] at h3
    refine ⟨fun a ha haj => ?_, ?_⟩
    · by_cases hlt : a < j
      · exact h.1 a ha hlt
      · obtain rfl : a = j := by omega
        exact h1
    · rw [e2]
      refine ⟨fun l hl => ?_, h3⟩
      rcases List.mem_append.1 hl with hl | hl
      · exact h.2.1 l hl
      · obtain ⟨x, hx, rfl⟩ := List.mem_map.1 hl
        exact h2 x hx
/-- each call has a leg, so there are no more calls than lines -/
theorem calls_len {n : Nat} {cs : Calls2} {j : Nat} (hj : j ≤ cs.length) (h : PTo n cs j) : j ≤ n := by
  have h1 := lines_len n (linesTo cs j) h.2.2 h.2.1
  have h2 : ∀ k, k ≤ j → k ≤ (linesTo cs k).length := by
    intro k
    induction k with
    | zero => simp
    | succ k ih =>
      intro hk
      have := ih (by omega)
      rw [linesTo_succ cs k (by omega), List.length_append, List.length_map]
      have := (h.1 k (by omega) (by omega)).1
      omega
  have := h2 j (Nat.le_refl _)
  omega
/-- the panel as it is begun -/
theorem wr_start (w : World) (o : Obj) : ∃ ρ, ρ w.heap.size = Tag.other ∧ Wr w.heap.size ρ [] (((w.alloc o).alloc (.map #[] 0)).alloc (.cells #[.slice none 0 0, .map (some (w.heap.size + 1)), .slice none 0 0] 103)) (w.heap.size + 2) [] [] := by
  refine ⟨fun k => if k = w.heap.size + 2 then .root else if k = w.heap.size + 1 then .lines else .other, by simp, ⟨⟨.slice none 0 0, w.heap.size + 1, .slice none 0 0, Blk.newAt _ (w.heap.size + 2) _ 103 (by simp), by omega, by simp, World.ownsRow_nil _ _ _ _, by intro k e; simp [Value.ownBlock] at e, ?_, by omega, by simp, World.ownsRow_nil _ _ _ _, by intro k e; simp [Value.ownBlock] at e⟩, rfl, by simp, fun i hi => by simp at hi, by simp, by simp, by simp⟩⟩
  refine ⟨#[], 0, ?_, by simp⟩
  rw [Below.heap_alloc _ _ _ (by simp)]
  have := heap_alloc_new (w.alloc o) (.map #[] 0)
  simpa using this
theorem infoW1 : (Try.prog.info? 98).map (fun i => (i.zero, i.size, i.bytes)) = some (some (.chan none), 1, 8) := by kernel_rfl
def WireR (n : Int) (cs : Calls2) (w : World) (e : Ending) (w' : World) : Prop :=
  ∃ x r, e = .returned (.tuple #[.pointer x, .bool r]) ∧ (r = true ↔ POk n cs) ∧ Below w.heap.size w w' ∧ (r = true → ∃ g ρ chs ps, x = some ⟨g, 0, none⟩ ∧ Wr w.heap.size ρ chs w' g ps cs ∧ (chs.length : Int) = n)
set_option maxHeartbeats 1600000 in
theorem wireP_c (n : Int) (v : Value) (cs : Calls2) (w : World) (h : RdC w v cs) :
   Calls Try.prog 54 #[.agg #[.int .i64 n, v]] w (WireR n cs w) := by
  have hb1 : ∀ o, Below w.heap.size w (w.alloc o) := fun o => (Below.refl _ _).alloc (Nat.le_refl _) o
  obtain ⟨rv, hrl, ⟨a, cap, rfl, h1, h2, h3⟩, hrc⟩ := h
  unfold maxLen at h2
  have HRC : Hid (∀ i (h : i < cs.length) (h' : i < rv.length), rv[i].1 = .bool cs[i].1 ∧ Rp lf lg w rv[i].2 cs[i].2) := hrc
  have HRL : Hid (rv.length = cs.length) := hrl
  clear hrc hrl
  by_cases hn : 1 ≤ n ∧ n ≤ 40
  · obtain ⟨m, rfl⟩ := Int.eq_ofNat_of_zero_le (show 0 ≤ n by omega)
    have hn1 : ((m : Int) < 1) = False := by simp; omega
    have hn2 : ((m : Int) > 40) = False := by simp; omega
    have hn3 : (40 < (m : Int)) = False := hn2
    have hmc := @makeWire
    have hmm := @run_makeMap Try.prog
    go_enter Try.func54, Try.ntmps54
    go_wp2
    have k0 : Blk (((w.alloc (.cells #[.int .i64 (m : Int), .slice a rv.length cap] 26)).alloc (.map #[] 0)).alloc (.cells #[.slice none 0 0, .map (some (w.heap.size + 1)), .slice none 0 0] 103)) w.heap.size #[.int .i64 (m : Int), .slice a rv.length cap] 26 := ((Blk.new _ _ _).alloc _).alloc _
    obtain ⟨ρ0, hρ0, hW0⟩ := wr_start w (.cells #[.int .i64 (m : Int), .slice a rv.length cap] 26)
    have HK0 : Hid _ := k0
    have HB0 : Hid (Below w.heap.size w (((w.alloc (.cells #[.int .i64 (m : Int), .slice a rv.length cap] 26)).alloc (.map #[] 0)).alloc (.cells #[.slice none 0 0, .map (some (w.heap.size + 1)), .slice none 0 0] 103))) := (((Below.refl _ _).alloc (Nat.le_refl _) _).alloc (by simp) _).alloc (by simp; omega) _
    have HW0 : Hid (∃ ρ, ρ w.heap.size = Tag.other ∧ Wr w.heap.size ρ [] (((w.alloc (.cells #[.int .i64 (m : Int), .slice a rv.length cap] 26)).alloc (.map #[] 0)).alloc (.cells #[.slice none 0 0, .map (some (w.heap.size + 1)), .slice none 0 0] 103)) (w.heap.size + 2) [] []) := ⟨ρ0, hρ0, hW0⟩
    clear k0 hW0 hρ0 hmm
    go_loopw [22] (fun i wr => ∃ chs : List Nat, chs.length ≤ m ∧ i = .int .i64 chs.length ∧ Hid (∃ ρ, ρ w.heap.size = Tag.other ∧ Wr w.heap.size ρ chs wr (w.heap.size + 2) [] []) ∧ Hid (Blk wr w.heap.size #[.int .i64 (m : Int), .slice a rv.length cap] 26) ∧ Hid (Below w.heap.size w wr)) (fun i _ => m - (intOf i).toNat)
    case atStart => exact ⟨[], Nat.zero_le _, rfl, HW0.out, HK0.out, HB0.out⟩
    case round =>
      obtain ⟨chs, hj, rfl, hW, hK, hB⟩ := hrel
      clear HW0 HK0 HB0
      by_cases hlt : chs.length < m
      · obtain ⟨ρ, hρ, hWr⟩ := hW.out
        obtain ⟨wv, gm, cv, b0, b1, b2, r1, o1, m1, m2, m3, r2, o2⟩ := hWr.ex
        obtain ⟨aw, cw, rfl, x1, x2, x3⟩ := own_form r1
        obtain ⟨i1, hi1, hy0, hy1, hy2⟩ := info_parts infoW1
        have hg : w.heap.size + 2 < wr.heap.size := b0.lt
        have cg : wr.cell? ⟨w.heap.size + 2, 0, none⟩ = some (.slice aw chs.length cw) := by have := b0.cell 0; simpa using this
        have HR1 : Hid (wr.ownsRow w.heap.size 98 1 (.slice aw chs.length cw) chs.length (chs.map fun c => .chan (some c))) := r1
        have HWr : Hid (Wr w.heap.size ρ chs wr (w.heap.size + 2) [] []) := hWr
        have HB0 : Hid (Blk wr (w.heap.size + 2) #[.slice aw chs.length cw, .map (some gm), cv] 103) := b0
        have HO1 : Hid (∀ k, (Value.slice aw chs.length cw).ownBlock = some k → k < wr.heap.size ∧ ρ k = .wires) := fun k e => ⟨(World.ownsRow.lt r1 k e).2, o1 k e⟩
        have HM1 : Hid (ChMap wr gm chs) := m1
        have HRR : Hid (ρ (w.heap.size + 2) = .root ∧ ρ gm = .lines ∧ ρ w.heap.size = .other) := ⟨b2, m3, hρ⟩
        have HNC : Hid (wr.heap.size ∉ chs) := fun h => by have := hWr.old _ h; omega
        have hbs := hB.out.size
        clear hWr b0 r1 o1 m1 r2 o2 b2 m3 hρ hW h3
        go_wp2_with (at_builtin; refine wpList_append_lies _ rfl _ _ 99 rfl w.heap.size 98 i1 (.chan none) 1 8 Try.underlying99 hi1 hy0 hy1 hy2 rfl (by decide) _ _ _ rfl ((HR1.out.alloc _).alloc _) ⟨wr.heap.size + 1, 0, none⟩ 1 1 [.chan (some wr.heap.size)] rfl rfl (World.news_of_block (Blk.newAt _ (wr.heap.size + 1) _ 98 (by simp))) (by intro u hu; simp at hu; subst hu; rfl) (by decide) (by unfold maxLen; omega) (by omega) (by simp; omega) (wr.heap.size + 2) (by simp) ?_)
        intro g1 cap1 w4 ho hgr hloc hlt1
        have s2 : ((wr.alloc (Obj.chan 0 #[] false 0 0 false)).alloc (Obj.cells #[.chan (some wr.heap.size)] 98)).heap.size = wr.heap.size + 2 := by simp
        have hk : Keeps ρ (fun t => t = .wires) wr w4 :=
          Keeps.trans (ρ' := fun k => if k < wr.heap.size then ρ k else .wires) (Keeps.ofBelow (((Below.refl _ _).alloc (Nat.le_refl _) _).alloc (by simp) _)) (Keeps.ofGrown hgr (fun k e => by have := HO1.out k e; simp [this.1, this.2])) (fun k hk => by simp [hk])
        have hB4 := blk_keeps hk HB0.out (by rw [HRR.out.1]; simp)
        have c0 := hB4.cell 0
        have c1 := hB4.cell 1
        have f0 := hB4.frozen 0
        simp at c0 c1
        have hm4 : ChMap w4 gm chs := HM1.out.keeps hk (by rw [HRR.out.2.1]; simp)
        have hm5 : ChMap (w4.setCell ⟨w.heap.size + 2, 0, none⟩ (.slice (some ⟨g1, 0, none⟩) (chs.length + 1) cap1)) gm chs :=
          hm4.keeps (ρ := ρ) (T := fun t => t = .root) (Keeps.set _ _ HRR.out.1) (by rw [HRR.out.2.1]; simp)
        have hbx4 : Blk w4 w.heap.size #[.int .i64 (m : Int), .slice a rv.length cap] 26 := blk_keeps hk hK.out (by rw [HRR.out.2.2]; simp)
        have hsz4 : wr.heap.size + 2 ≤ w4.heap.size := by have := hgr.size; rw [s2] at this; exact this
        have e2 : Below w.heap.size w w4 := by
          have e1 : Below w.heap.size wr ((wr.alloc (Obj.chan 0 #[] false 0 0 false)).alloc (Obj.cells #[.chan (some wr.heap.size)] 98)) := ((Below.refl _ _).alloc hbs _).alloc (by simp; omega) _
          exact hB.out.trans (e1.trans (grown_below hgr (by rw [s2]; omega) (fun k e => (World.ownsRow.lt HR1.out k e).1)))
        have HFIN : Hid (∀ w6, ChMap w6 gm (chs ++ [wr.heap.size]) → (w4.setCell ⟨w.heap.size + 2, 0, none⟩ (.slice (some ⟨g1, 0, none⟩) (chs.length + 1) cap1)).grownBy w6 (some gm) →
            (∃ ρ, ρ w.heap.size = Tag.other ∧ Wr w.heap.size ρ (chs ++ [wr.heap.size]) w6 (w.heap.size + 2) [] []) ∧ Blk w6 w.heap.size #[.int .i64 (m : Int), .slice a rv.length cap] 26 ∧ Below w.heap.size w w6) := by
          intro w6 hm6 hg6
          refine ⟨?_, ?_, ?_⟩
          · obtain ⟨ρ', hag, hW6⟩ := HWr.out.wire HB0.out hk wr.heap.size (Nat.le_refl _) (by omega) _ ho (by
              intro k e
              have : k = g1 := by simpa [Value.ownBlock] using e.symm
              subst this
              rcases hloc with h | h
              · exact .inl h
              · exact .inr (by omega)) hg6 hm6
            exact ⟨ρ', by rw [hag _ (by omega)]; exact HRR.out.2.2, hW6⟩
          · have hne : some w.heap.size ≠ some gm := fun e => by cases e; have h1 := HRR.out.2.1; rw [HRR.out.2.2] at h1; simp at h1
            have hb5 := hbx4.other ⟨w.heap.size + 2, 0, none⟩ (.slice (some ⟨g1, 0, none⟩) (chs.length + 1) cap1) (by simp)
            rw [Blk, hg6.block _ hb5.lt hne]; exact hb5
          · exact (e2.setCell (by show w.heap.size ≤ w.heap.size + 2; omega) _).trans (grown_below hg6 (by simp; omega) (fun k e => by cases e; exact m2))
        have HM5 : Hid (ChMap (w4.setCell ⟨w.heap.size + 2, 0, none⟩ (.slice (some ⟨g1, 0, none⟩) (chs.length + 1) cap1)) gm chs) := hm5
        clear ho hgr hloc hlt1 hk hB4 hm4 hm5 hbx4 e2 HWr HB0 HO1 HM1 HRR HR1 hB hK s2
        go_wp2_with (at_mapUpdate; refine wpList_lineUpdate rfl _ _ _ rfl gm chs rfl HM5.out wr.heap.size rfl rfl HNC.out ?_)
        intro w6 hm6 hg6
        have HF := HFIN.out w6 hm6 hg6
        have HF2 : Hid _ := HF
        clear HF hm6 hg6 HFIN HM5
        go_wp2
        go_roundw
        case rel => exact ⟨chs ++ [wr.heap.size], by simp; omega, by simp, HF2.out.1, HF2.out.2.1, HF2.out.2.2⟩
        case measure => simp [intOf]; omega
      · have hle : chs.length = m := by omega
        have c1 := hK.out.cell 1
        simp at c1
        have HLE : Hid (chs.length = m) := hle
        have HW1 : Hid (∃ ρ ps, Wr w.heap.size ρ chs wr (w.heap.size + 2) ps (cs.take 0)) := by
          obtain ⟨ρ, -, h⟩ := hW.out
          exact ⟨ρ, [], by simpa using h⟩
        have HB1 : Hid (Below w.heap.size w wr) := hB.out
        clear hB hK hW
        subst hle
        go_wp2
        go_loopw [46] (fun i wr => ∃ j : Nat, j ≤ rv.length ∧ i = .int .i64 j ∧ Hid (∃ ρ ps, Wr w.heap.size ρ chs wr (w.heap.size + 2) ps (cs.take j)) ∧ Hid (Below w.heap.size w wr) ∧ Hid (PTo chs.length cs j)) (fun i _ => rv.length - (intOf i).toNat)
        case atStart => exact ⟨0, Nat.zero_le _, rfl, HW1.out, HB1.out, ⟨fun a _ h => by omega, by simp [SeenOk, linesTo]⟩⟩
        case round =>
          clear HW1 HB1 c1
          obtain ⟨j, hj, rfl, hW, hB, hP⟩ := hrel
          by_cases hlt : j < rv.length
          · have hjc : j < cs.length := by have h := HRL.out; omega
            rcases h3 with h3 | ⟨b, off, rfl, h4⟩
            · subst h3; simp at hlt
            have hc := h4 j hlt
            have hE := HRC.out j hjc hlt
            obtain ⟨pk, hpk⟩ : ∃ pk, cs[j].1 = pk := ⟨_, rfl⟩
            obtain ⟨lv, hlv⟩ : ∃ lv, rv[j].2 = lv := ⟨_, rfl⟩
            obtain ⟨ls, hls⟩ : ∃ ls, cs[j].2 = ls := ⟨_, rfl⟩
            rw [hpk, hlv, hls] at hE
            have d0 : wr.cell? ⟨b, off + j * 2, none⟩ = some (.bool pk) := by rw [hB.out.cell (block_lt_of_cell hc.1), ← hE.1]; exact hc.1
            have d1 : wr.cell? ⟨b, off + j * 2 + 1, none⟩ = some lv := by rw [hB.out.cell (block_lt_of_cell hc.2), ← hlv]; exact hc.2
            have HE2 : Hid (Rp lf lg w lv ls) := hE.2
            obtain ⟨a2, cap2, e2, -⟩ := hE.2
            subst e2
            obtain ⟨ρ, ps, hWr⟩ := hW.out
            have hcj : cs[j] = (pk, ls) := Prod.ext hpk hls
            have HCJ : Hid (cs[j] = (pk, ls)) := hcj
            have bel : Below wr.heap.size wr (wr.alloc (.cells #[.bool pk, .slice a2 ls.length cap2] 45)) := (Below.refl _ _).alloc (Nat.le_refl _) _
            have hps : ps.length ≤ 40 := by
              have h1 := hWr.len
              have h2 := calls_len (n := chs.length) (by omega) hP.out
              simp at h1; omega
            have HADD : Hid (Calls Try.prog 81 #[ptr (w.heap.size + 2), .agg #[.bool pk, .slice a2 ls.length cap2]] (wr.alloc (.cells #[.bool pk, .slice a2 ls.length cap2] 45)) (AddR w chs (w.heap.size + 2) ps (cs.take j) (pk, ls))) := addCall_c (hB.out.trans (bel.mono hB.out.size)) (hWr.below bel) hps pk (.slice a2 ls.length cap2) ls HE2.out (by rw [linesTo_take cs j (by omega)]; exact hP.out.2.2)
            clear h4 hc hE hWr bel hps hcj hpk hls HRC hW
            go_wp2_with (fail)
            refine HADD.out.mono ?_
            rintro e w3 ⟨r, rfl, hr, hb3, hw3⟩
            have HR : Hid (r = true ↔ AddOk chs.length (cs.take j) (pk, ls)) := hr
            have HB3 : Hid (Below w.heap.size w w3) := hb3
            have HW3 : Hid (r = true → ∃ ρ' p, Wr w.heap.size ρ' chs w3 (w.heap.size + 2) (ps ++ [p]) (cs.take j ++ [(pk, ls)])) := hw3
            clear hr hb3 hw3 HADD
            cases r with
            | true =>
              have HN : Hid (PTo chs.length cs (j + 1)) := (pto_succ hjc hP.out).2 (by rw [HCJ.out]; exact HR.out.1 rfl)
              have HW4 : Hid (∃ ρ ps, Wr w.heap.size ρ chs w3 (w.heap.size + 2) ps (cs.take (j + 1))) := by
                obtain ⟨ρ', p, h⟩ := HW3.out rfl
                refine ⟨ρ', ps ++ [p], ?_⟩
                rw [List.take_succ_eq_append_getElem hjc, HCJ.out]
                exact h
              go_wp2
              go_roundw
              case rel => exact ⟨j + 1, by omega, by go_num, HW4.out, HB3.out, HN.out⟩
              case measure => simp [intOf]; omega
            | false =>
              go_wp2
              go_ret2
              refine ⟨_, _, rfl, ⟨fun h => by simp at h, fun h => ?_⟩, HB3.out, fun h => by simp at h⟩
              have h1 := (pto_succ hjc hP.out).1 (ok_pre h (j + 1) (by omega))
              rw [HCJ.out] at h1
              exact HR.out.2 h1
          · have hje : j = rv.length := by omega
            have HPK : Hid (POk chs.length cs) := by
              have h := hP.out
              rw [hje, HRL.out] at h
              exact ⟨hn.1, hn.2, fun a ha => h.1 a ha ha, h.2⟩
            have HWF : Hid (∃ ρ ps, Wr w.heap.size ρ chs wr (w.heap.size + 2) ps cs) := by
              obtain ⟨ρ, ps, h⟩ := hW.out
              rw [hje, HRL.out, List.take_length] at h
              exact ⟨ρ, ps, h⟩
            clear h3 HRC hW
            subst hje
            go_wp2
            go_ret2
            refine ⟨_, _, rfl, ⟨fun _ => HPK.out, fun _ => rfl⟩, hB.out, fun _ => ?_⟩
            obtain ⟨ρ, ps, h⟩ := HWF.out
            exact ⟨_, ρ, chs, ps, rfl, h, rfl⟩
  · have HN : Hid (¬ POk n cs) := fun h => hn ⟨h.1, h.2.1⟩
    have HB : Hid (∀ o, Below w.heap.size w (w.alloc o)) := hb1
    clear hb1 h3
    by_cases h4 : n < 1
    · go_enter Try.func54, Try.ntmps54
      go_wp2
      go_ret2
      exact ⟨_, _, rfl, ⟨fun h => by simp at h, fun h => absurd h HN.out⟩, HB.out _, fun h => by simp at h⟩
    · have h5 : 40 < n := by omega
      go_enter Try.func54, Try.ntmps54
      go_wp2
      go_ret2
      exact ⟨_, _, rfl, ⟨fun h => by simp at h, fun h => absurd h HN.out⟩, HB.out _, fun h => by simp at h⟩
end Go.Proofs.Ytcbeaimpmjljjaa
