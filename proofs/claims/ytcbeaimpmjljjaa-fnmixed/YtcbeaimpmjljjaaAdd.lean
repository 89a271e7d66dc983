/- The contract of the program's function that adds a call to its own panel; no condition. -/
import Derived.Test.YtcbeaimpmjljjaaWirP
namespace Go.Proofs.Ytcbeaimpmjljjaa
open Go.RowKit Go.ChangeShapes Go.WideShapes Go.ChangeAt
set_option linter.unusedVariables false
set_option linter.unusedSimpArgs false
set_option maxRecDepth 8000
/-- a call that may stand behind others -/
def AddOk (n : Nat) (cs : Calls2) (c : Bool × Legs2) : Prop := CallOk c ∧ (∀ x ∈ c.2, 0 ≤ x.1 ∧ x.1 < n) ∧ (linesTo cs cs.length ++ c.2.map (·.1)).Nodup
theorem linesTo_all (cs : Calls2) : linesTo cs cs.length = cs.flatMap fun c => c.2.map (·.1) := by simp [linesTo]
theorem linesTo_snoc (cs : Calls2) (c : Bool × Legs2) : linesTo (cs ++ [c]) (cs ++ [c]).length = linesTo cs cs.length ++ c.2.map (·.1) := by
  rw [linesTo_all, linesTo_all, List.flatMap_append]; simp
theorem callAt_mem {cs : Calls2} {l : Int} {i : Nat} (h : callAt cs l = some i) : l ∈ linesTo cs cs.length := by
  rw [callAt, List.findIdx?_eq_some_iff_getElem] at h
  obtain ⟨hi, h1, -⟩ := h
  rw [legAt_isSome] at h1
  obtain ⟨x, hx, rfl⟩ := h1
  rw [linesTo_all, List.mem_flatMap]
  exact ⟨_, List.getElem_mem hi, List.mem_map.2 ⟨x, hx, rfl⟩⟩
theorem callAt_not {cs : Calls2} {l : Int} (h : callAt cs l = none) : l ∉ linesTo cs cs.length := by
  rw [callAt, List.findIdx?_eq_none_iff] at h
  rw [linesTo_all, List.mem_flatMap]
  rintro ⟨c, hc, hl⟩
  obtain ⟨x, hx, rfl⟩ := List.mem_map.1 hl
  have := h c hc
  rw [legAt_isSome.2 ⟨x, hx, rfl⟩] at this
  cases this
theorem lines_split (ls : Legs2) (j : Nat) (h : j < ls.length) : ls.map (·.1) = (ls.take j).map (·.1) ++ ls[j].1 :: (ls.drop (j + 1)).map (·.1) := by
  have e := List.take_append_drop j ls
  rw [List.drop_eq_getElem_cons h] at e
  have := congrArg (List.map (·.1)) e
  rw [List.map_append, List.map_cons] at this
  exact this.symm
def AddR (w0 : World) (chs : List Nat) (g : Nat) (ps : List Nat) (cs : Calls2) (c : Bool × Legs2) (e : Ending) (w' : World) : Prop :=
  ∃ r, e = .returned (.bool r) ∧ (r = true ↔ AddOk chs.length cs c) ∧ Below w0.heap.size w0 w' ∧ (r = true → ∃ ρ' p, Wr w0.heap.size ρ' chs w' g (ps ++ [p]) (cs ++ [c]))
set_option maxHeartbeats 1600000 in
theorem addCall_c {w0 : World} {ρ : Nat → Tag} {chs : List Nat} {w : World} {g : Nat} {ps : List Nat} {cs : Calls2} (hb0 : Below w0.heap.size w0 w) (h : Wr w0.heap.size ρ chs w g ps cs) (hps : ps.length ≤ 40) (pk : Bool) (v : Value) (ls : Legs2) (hR : Rp lf lg w0 v ls) (hS : (linesTo cs cs.length).Nodup) :
    Calls Try.prog 81 #[ptr g, .agg #[.bool pk, v]] w (AddR w0 chs g ps cs (pk, ls)) := by
  obtain ⟨wv, gm, cv, b0, b1, b2, r1, o1, m1, m2, m3, r2, o2⟩ := h.ex
  obtain ⟨a, cap, rfl, l1, l2, l3⟩ := hR
  obtain ⟨ac, cc, rfl, c1, c2, c3⟩ := own_form r2
  obtain ⟨i0, hi, hz0, hz1, hz2⟩ := info_parts infoPC
  unfold maxLen at l2
  by_cases hok : CallOk (pk, ls)
  · have hfew : (if pk then decide ((ls.length : Int) < 1) else decide ((ls.length : Int) < 2)) = false := by
      obtain ⟨q1, q2, q3⟩ := hok
      cases pk <;> simp at q1 q2 q3 ⊢ <;> omega
    have hmany : ((ls.length : Int) > 8) = False := by have := hok.2.1; simp at this ⊢; omega
    have hmany' : (8 < (ls.length : Int)) = False := hmany
    have k0 := (Blk.new w #[.bool pk, .slice a ls.length cap] 45)
    have HW : Hid (Wr w0.heap.size ρ chs w g ps cs) := h
    have HB0 : Hid (Blk w g #[wv, .map (some gm), .slice ac ps.length cc] 103) := b0
    have HR2 : Hid (w.ownsRow w0.heap.size 95 1 (.slice ac ps.length cc) ps.length (ps.map ptr)) := r2
    have HBL : Hid (Below w0.heap.size w0 w) := hb0
    have hg : g < w.heap.size := b0.lt
    have cg : w.cell? ⟨g, 2, none⟩ = some (.slice ac ps.length cc) := by have := b0.cell 2; simpa using this
    have fg := b0.frozen 2
    have hsz := hb0.size
    have O2 : Hid (On ρ (.slice ac ps.length cc) .calls) := o2
    clear r1 o1 m1 r2 o2 b0 h hb0
    go_enter Try.func81, Try.ntmps81
    have hcv : ∀ k, (Value.slice ac ps.length cc).ownBlock = some k → k < w.heap.size ∧ ρ k = .calls := fun k e => ⟨(World.ownsRow.lt HR2.out k e).2, O2.out k e⟩
    have HCV : Hid (∀ k, (Value.slice ac ps.length cc).ownBlock = some k → k < w.heap.size ∧ ρ k = .calls) := hcv
    clear hcv
    go_wp2_with (first | (go_at_call 95; refine (few_c _ _ _).mono ?_; rintro e w2 ⟨rfl, rfl⟩; rw [hfew]) | (at_builtin; refine wpList_append_lies _ rfl _ _ 101 rfl w0.heap.size 95 i0 (.pointer none) 1 8 Try.underlying101 hi hz0 hz1 hz2 rfl (by decide) _ _ _ rfl (((HR2.out.alloc _).alloc _).alloc _) ⟨w.heap.size + 2, 0, none⟩ 1 1 [ptr (w.heap.size + 1)] rfl rfl (World.news_of_block (Blk.newAt _ (w.heap.size + 2) _ 95 (by simp))) (by intro u hu; simp at hu; subst hu; rfl) (by decide) (by unfold maxLen; omega) (by omega) (by simp; omega) (w.heap.size + 3) (by simp) ?_))
    intro g1 cap1 w4 ho hgr hloc hlt1
    have far : ∀ k, w.heap.size ≤ k → some k ≠ (Value.slice ac ps.length cc).ownBlock := fun k hk e => by have := (HCV.out k e.symm).1; omega
    have s3 : (((w.alloc (Obj.cells #[.bool pk, .slice a ls.length cap] 45)).alloc (Obj.cells #[.bool pk, .slice none 0 0] 125)).alloc (Obj.cells #[.pointer (some ⟨w.heap.size + 1, 0, none⟩)] 95)).heap.size = w.heap.size + 3 := by simp
    have q0 : w4.cell? ⟨w.heap.size, 1, none⟩ = some (.slice a ls.length cap) := by
      rw [hgr.cell_far ⟨w.heap.size, 1, none⟩ (by rw [s3]; show w.heap.size < _; omega) (far _ (Nat.le_refl _))]
      have := ((k0.alloc (Obj.cells #[.bool pk, .slice none 0 0] 125)).alloc (Obj.cells #[.pointer (some ⟨w.heap.size + 1, 0, none⟩)] 95)).cell 1
      simpa using this
    have kp : Blk w4 (w.heap.size + 1) #[.bool pk, .slice none 0 0] 125 := by
      have hb : Blk (((w.alloc (Obj.cells #[.bool pk, .slice a ls.length cap] 45)).alloc (Obj.cells #[.bool pk, .slice none 0 0] 125)).alloc (Obj.cells #[.pointer (some ⟨w.heap.size + 1, 0, none⟩)] 95)) (w.heap.size + 1) #[.bool pk, .slice none 0 0] 125 := (Blk.newAt _ (w.heap.size + 1) _ 125 (by simp)).alloc _
      rw [Blk, hgr.block (w.heap.size + 1) (by rw [s3]; omega) (far _ (by omega))]; exact hb
    have hk : Keeps ρ (fun t => t = .calls) w w4 :=
      Keeps.trans (ρ' := fun k => if k < w.heap.size then ρ k else .calls) (Keeps.ofBelow ((((Below.refl _ _).alloc (Nat.le_refl _) _).alloc (by simp) _).alloc (by simp; omega) _)) (Keeps.ofGrown hgr (fun k e => by have := HCV.out k e; simp [this.1, this.2])) (fun k hk => by simp [hk])
    have hB4 : Blk w4 g #[wv, .map (some gm), .slice ac ps.length cc] 103 := blk_keeps hk HB0.out (by rw [b2]; simp)
    have q2 := hB4.cell 2
    have f2 := hB4.frozen 2
    simp at q2
    obtain ⟨ρ1, hag1, hW5⟩ := HW.out.push hsz HB0.out hk (w.heap.size + 1) (by omega) pk (.slice none 0 0) [] kp (.slice (some ⟨g1, 0, none⟩) (ps.length + 1) cap1) ho (by
      intro k e
      have : k = g1 := by simpa [Value.ownBlock] using e.symm
      subst this
      rcases hloc with h | h
      · exact .inl h
      · exact .inr ⟨by omega, by omega⟩) (World.ownsRow_nil _ _ _ _) (by intro k e; simp [Value.ownBlock] at e) (by simp)
    have hB5 : Below w0.heap.size w0 (w4.setCell ⟨g, 2, none⟩ (.slice (some ⟨g1, 0, none⟩) (ps.length + 1) cap1)) := by
      have e1 : Below w0.heap.size w (((w.alloc (Obj.cells #[.bool pk, .slice a ls.length cap] 45)).alloc (Obj.cells #[.bool pk, .slice none 0 0] 125)).alloc (Obj.cells #[.pointer (some ⟨w.heap.size + 1, 0, none⟩)] 95)) := (((Below.refl _ _).alloc hsz _).alloc (by simp; omega) _).alloc (by simp; omega) _
      have e2 : Below w0.heap.size (((w.alloc (Obj.cells #[.bool pk, .slice a ls.length cap] 45)).alloc (Obj.cells #[.bool pk, .slice none 0 0] 125)).alloc (Obj.cells #[.pointer (some ⟨w.heap.size + 1, 0, none⟩)] 95)) w4 := grown_below hgr (by rw [s3]; omega) (fun k e => (World.ownsRow.lt HR2.out k e).1)
      exact ((HBL.out.trans (e1.trans e2)).setCell (by exact b1) _)
    have H5 : Hid (Wr w0.heap.size ρ1 chs (w4.setCell ⟨g, 2, none⟩ (.slice (some ⟨g1, 0, none⟩) (ps.length + 1) cap1)) g (ps ++ [w.heap.size + 1]) (cs ++ [(pk, [])])) := hW5
    have HB5 : Hid (Below w0.heap.size w0 (w4.setCell ⟨g, 2, none⟩ (.slice (some ⟨g1, 0, none⟩) (ps.length + 1) cap1))) := hB5
    have hgne : w.heap.size ≠ g := by omega
    clear ho hgr hloc hlt1 far s3 kp hk hB4 hag1 hW5 hB5 k0 HW HB0 HR2 O2 HCV
    go_wp2
    go_loopw [37] (fun i wr => ∃ j : Nat, j ≤ ls.length ∧ i = .int .i64 j ∧ Hid (∃ ρ', Wr w0.heap.size ρ' chs wr g (ps ++ [w.heap.size + 1]) (cs ++ [(pk, ls.take j)])) ∧ Hid (Below w0.heap.size w0 wr) ∧ Hid ((linesTo cs cs.length ++ (ls.take j).map (·.1)).Nodup)) (fun i _ => ls.length - (intOf i).toNat)
    case atStart => exact ⟨0, Nat.zero_le _, rfl, ⟨ρ1, H5.out⟩, HB5.out, (show (linesTo cs cs.length ++ (ls.take 0).map (·.1)).Nodup by simpa using hS)⟩
    case round =>
      obtain ⟨j, hj, rfl, hWr, hBr, hNd⟩ := hrel
      clear H5 HB5 q0 q2 f2 cg fg
      by_cases hlt : j < ls.length
      · rcases l3 with l3 | ⟨b, off, rfl, l4⟩
        · subst l3; simp at hlt
        obtain ⟨l, hl⟩ : ∃ l, ls[j].1 = l := ⟨_, rfl⟩
        obtain ⟨hd, hhd⟩ : ∃ h, ls[j].2 = h := ⟨_, rfl⟩
        have d0 : wr.cell? ⟨b, off + j * 2, none⟩ = some (.int .i64 l) := by
          rw [hBr.out.cell (block_lt_of_cell (l4 j hlt).1), (l4 j hlt).1, ← hl]
        have d1 : wr.cell? ⟨b, off + j * 2 + 1, none⟩ = some (.bool hd) := by
          rw [hBr.out.cell (block_lt_of_cell (l4 j hlt).2), (l4 j hlt).2, ← hhd]
        clear l4
        have HLJ : Hid (ls[j].1 = l ∧ ls[j].2 = hd) := ⟨hl, hhd⟩
        clear hl hhd
        obtain ⟨ρ', hWr⟩ := hWr.out
        have bel1 : Below wr.heap.size wr (wr.alloc (Obj.cells #[.int .i64 l, .bool hd] 42)) := (Below.refl _ _).alloc (Nat.le_refl _) _
        have W1 := hWr.below bel1
        have kk := Blk.new wr #[.int .i64 l, .bool hd] 42
        have e0 : ∀ W : Ov (wr.alloc (Obj.cells #[.int .i64 l, .bool hd] 42)), W.wd.cell? ⟨wr.heap.size, 0, none⟩ = some (.int .i64 l) := ov_cell (by have := kk.cell 0; simp)
        have ne1 : Nonempty (Ov (wr.alloc (Obj.cells #[.int .i64 l, .bool hd] 42))) := ⟨⟨_, Below.refl _ _⟩⟩
        by_cases hin : 0 ≤ l ∧ l < (chs.length : Int)
        · obtain ⟨L, rfl⟩ := Int.eq_ofNat_of_zero_le hin.1
          have hL : L < chs.length := by have := hin.2; omega
          have hLi : (L : Int) < (chs.length : Int) := hin.2
          obtain ⟨wv1, gm1, cv1, B0, -, T0, R1, O1, -⟩ := W1.ex
          obtain ⟨aw, cw, rfl, w1, w2, w3⟩ := own_form R1
          rcases w3 with w3 | ⟨bw, rfl⟩
          · omega
          obtain ⟨q, hq⟩ : ∃ q, chs.getD ((L : Int)).toNat 0 = q := ⟨_, rfl⟩
          have row : (wr.alloc (Obj.cells #[.int .i64 (L : Int), .bool hd] 42)).cell? ⟨bw, L, none⟩ = some (.chan (some q)) := by
            rw [World.ownsRow.cellAt R1 L (by omega), ← hq]
            simp [List.getElem?_eq_getElem hL]
          have e1 : ∀ W : Ov (wr.alloc (Obj.cells #[.int .i64 (L : Int), .bool hd] 42)), W.wd.cell? ⟨g, 0, none⟩ = some (.slice (some ⟨bw, 0, none⟩) chs.length cw) := ov_cell (by have := B0.cell 0; simpa using this)
          have e2 : ∀ W : Ov (wr.alloc (Obj.cells #[.int .i64 (L : Int), .bool hd] 42)), W.wd.cell? ⟨bw, L, none⟩ = some (.chan (some q)) := ov_cell row
          have HH : Hid (∀ W : Ov (wr.alloc (Obj.cells #[.int .i64 (L : Int), .bool hd] 42)), Calls Try.prog 63 #[ptr g, .int .i64 (L : Int)] W.wd fun e w'' => e = .returned (.bool true) ∧ ∃ W' : Ov (wr.alloc (Obj.cells #[.int .i64 (L : Int), .bool hd] 42)), w'' = W'.wd) := fun W => by
            refine ov_call ((has_c (W1.below (W.ok)) L).mono ?_)
            rintro e w2 ⟨rfl, rfl⟩
            exact ⟨by rw [decide_eq_true hin], Below.refl _ _⟩
          obtain ⟨ca, hca⟩ : ∃ ca, callAt (cs ++ [(pk, ls.take j)]) (L : Int) = ca := ⟨_, rfl⟩
          obtain ⟨cp, hcp⟩ : ∃ cp, cptr (ps ++ [w.heap.size + 1]) ca = cp := ⟨_, rfl⟩
          have HH2 : Hid (∀ W : Ov (wr.alloc (Obj.cells #[.int .i64 (L : Int), .bool hd] 42)), Calls Try.prog 64 #[ptr g, .chan (some q)] W.wd fun e w'' => e = .returned cp ∧ ∃ W' : Ov (wr.alloc (Obj.cells #[.int .i64 (L : Int), .bool hd] 42)), w'' = W'.wd) := fun W => by
            rw [← hcp, ← hca, ← hq]
            exact ov_call (callOf_c (W1.below (W.ok)) L hin)
          have HBW : Hid (∀ W : Ov (wr.alloc (Obj.cells #[.int .i64 (L : Int), .bool hd] 42)), Below w0.heap.size w0 W.wd) := fun W => (hBr.out.trans (bel1.mono hBr.out.size)).trans ((W.ok).mono (by have := hBr.out.size; simp; omega))
          have HCA : Hid (callAt (cs ++ [(pk, ls.take j)]) (L : Int) = ca) := hca
          cases ca with
          | some i =>
            obtain ⟨x, hx⟩ : ∃ x, (ps ++ [w.heap.size + 1]).getD i 0 = x := ⟨_, rfl⟩
            have hcp2 : cp = .pointer (some ⟨x, 0, none⟩) := by rw [← hcp, ← hx]; rfl
            rw [hcp2] at HH2
            clear W1 hWr bel1 kk hin B0 R1 O1 row hq hca hcp hcp2 hx
            go_wp2
            refine region_over (by kernel_rfl) (by kernel_rfl) ?_
            repeat (go_big_quiet_step (first | (go_at_call 63; exact HH.out _) | (go_at_call 64; exact HH2.out _)))
            refine wpQuiet_nil ?_
            rintro _ ⟨W, rfl⟩
            go_wp2
            go_ret
            refine ⟨_, rfl, ⟨fun h => by simp at h, fun h => ?_⟩, HBW.out W, fun h => by simp at h⟩
            have hm := callAt_mem HCA.out
            rw [linesTo_snoc] at hm
            have hnd := h.2.2
            have e := lines_split ls j hlt
            rw [HLJ.out.1] at e
            simp only [e, ← List.append_assoc] at hnd
            rw [List.nodup_append] at hnd
            exact absurd rfl (hnd.2.2 _ hm _ (by simp))
          | none =>
            have hcp2 : cp = .pointer none := by rw [← hcp]; rfl
            rw [hcp2] at HH2
            have HWr : Hid (Wr w0.heap.size ρ' chs (wr.alloc (Obj.cells #[.int .i64 (L : Int), .bool hd] 42)) g (ps ++ [w.heap.size + 1]) (cs ++ [(pk, ls.take j)])) := W1
            have HQ : Hid (chs.getD ((L : Int)).toNat 0 = q) := hq
            have e3 : ∀ W : Ov (wr.alloc (Obj.cells #[.int .i64 (L : Int), .bool hd] 42)), W.wd.cell? ⟨wr.heap.size, 1, none⟩ = some (.bool hd) := ov_cell (by have := kk.cell 1; simp)
            have HOW : Hid (∀ k, (Value.slice (some ⟨bw, 0, none⟩) chs.length cw).ownBlock = some k → ρ' k = .wires) := O1
            have hlenp := hWr.len
            have hpi : ps.length < (ps ++ [w.heap.size + 1]).length := by simp
            have hpe : (ps ++ [w.heap.size + 1])[ps.length] = w.heap.size + 1 := by simp
            obtain ⟨lv, LB, LG, LT, LO, LOn⟩ := hWr.call ps.length hpi (by simp at hlenp ⊢; omega)
            have hce : (cs ++ [(pk, ls.take j)])[ps.length]'(by simp at hlenp ⊢; omega) = (pk, ls.take j) := by
              have : ps.length = cs.length := by simpa using hlenp
              simp [this]
            rw [hce] at LB LO
            rw [hpe] at LB LG LT LOn
            have hLk : (ls.take j).length = j := by simp; omega
            obtain ⟨al, cl, hlv, v1, v2, v3⟩ := own_form LO
            rw [hLk] at hlv v1
            subst hlv
            have n0 : some wr.heap.size ≠ (Value.slice al j cl).ownBlock := fun e => by have := (World.ownsRow.lt LO _ e.symm).2; omega
            have HLO : Hid (Op (wl chs) lg 128 w0.heap.size (wr.alloc (Obj.cells #[.int .i64 (L : Int), .bool hd] 42)) (.slice al j cl) (ls.take j)) := LO.below bel1
            have HLB : Hid (Blk (wr.alloc (Obj.cells #[.int .i64 (L : Int), .bool hd] 42)) (w.heap.size + 1) #[.bool pk, .slice al j cl] 125) := LB.below bel1 LB.lt
            have hPx : w.heap.size + 1 < wr.heap.size := LB.lt
            have hsing : (ls.take (j + 1)) = ls.take j ++ [((L : Int), hd)] := by
              rw [List.take_succ_eq_append_getElem hlt]
              have := HLJ.out
              rw [show ls[j] = ((L : Int), hd) from Prod.ext this.1 this.2]
            have HSING : Hid ((ls.take (j + 1)) = ls.take j ++ [((L : Int), hd)]) := hsing
            have HIN : Hid (0 ≤ (L : Int) ∧ (L : Int) < chs.length) := hin
            have HLN : Hid (ps.length = cs.length) := (by simpa using hlenp : ps.length = cs.length)
            have LON : Hid (On ρ' (.slice al j cl) (.legs (w.heap.size + 1))) := LOn
            clear LB LO LOn LG LT hlenp hce hsing hin
            clear W1 hWr bel1 kk B0 R1 O1 row hq hca hcp hcp2
            go_wp2
            refine region_over (by kernel_rfl) (by kernel_rfl) ?_
            repeat (go_big_quiet_step (first | (go_at_call 63; exact HH.out _) | (go_at_call 64; exact HH2.out _)))
            refine wpQuiet_nil ?_
            rintro _ ⟨W, rfl⟩
            have E0 := e0 W
            have E1 := e1 W
            have E2 := e2 W
            have E3 := e3 W
            have HB2 := HBW.out W
            have W2r := HWr.out.below (W.ok)
            have hsz2 : wr.heap.size + 1 ≤ W.wd.heap.size := by
              have := W.ok.size
              simpa using this
            have hwo := HWr.out
            have hPt : ρ' (w.heap.size + 1) = .call (w.heap.size + 1) := hwo.tag _ (by simp)
            obtain ⟨W2, hW2⟩ : ∃ W2, W.wd = W2 := ⟨_, rfl⟩
            rw [hW2] at E0 E1 E2 E3 HB2 W2r hsz2 ⊢
            have LO := HLO.out.below (hW2 ▸ W.ok)
            have LB := HLB.out.below (hW2 ▸ W.ok) (by simp; omega)
            have hP1 : W2.cell? ⟨w.heap.size + 1, 1, none⟩ = some (.slice al j cl) := by have := LB.cell 1; simpa using this
            obtain ⟨i1, hi1, hy0, hy1, hy2⟩ := info_parts infoWL
            have nb : ∀ k t, ρ' k = t → t ≠ .legs (w.heap.size + 1) → some k ≠ (Value.slice al j cl).ownBlock := fun k t h1 h2 e => h2 (by rw [← h1]; exact LON.out k e.symm)
            have n1 := nb g _ T0 (by simp)
            have n2 := nb bw _ (HOW.out bw rfl) (by simp)
            have n4 := nb (w.heap.size + 1) _ hPt (by simp)
            have hgP : ¬ g = w.heap.size + 1 := fun e => by rw [e, hPt] at T0; cases T0
            have hbP : ¬ bw = w.heap.size + 1 := fun e => by have := HOW.out bw rfl; rw [e, hPt] at this; cases this
            have hgP' : ¬ w.heap.size + 1 = g := fun e => hgP e.symm
            have hbP' : ¬ w.heap.size + 1 = bw := fun e => hbP e.symm
            have hxP' : ¬ w.heap.size + 1 = wr.heap.size := by omega
            have h8 : ls.length ≤ 8 := hok.2.1
            have hP2 : (W2.alloc (Obj.cells #[.chan (some q), .bool hd] 128)).cell? ⟨w.heap.size + 1, 1, none⟩ = some (.slice al j cl) := (World.cell?_alloc_some W2 _ _ (by rw [hP1]; rfl)).trans hP1
            have hP3 : (W2.drew.alloc (Obj.cells #[.chan (some q), .bool hd] 128)).cell? ⟨w.heap.size + 1, 1, none⟩ = some (.slice al j cl) := hP2
            have FAR : Hid (∀ w4, (W2.drew.alloc (Obj.cells #[.chan (some q), .bool hd] 128)).grownBy w4 (Value.slice al j cl).ownBlock → (∀ a x, W2.cell? a = some x → some a.block ≠ (Value.slice al j cl).ownBlock → w4.cell? a = some x) ∧ w4.frozen? ⟨w.heap.size + 1, 1, none⟩ = false) := by
              intro w4 hgr
              refine ⟨fun a x ha hne => ?_, ?_⟩
              · rw [hgr.cell_far a (by have := block_lt_of_cell ha; simp; omega) hne]
                exact (World.cell?_alloc_some W2.drew a _ (by show (W2.cell? a).isSome = true; rw [ha]; rfl)).trans ha
              · rw [hgr.frozen_far ⟨w.heap.size + 1, 1, none⟩ (by simp; omega) n4]
                exact ((LB.drew).alloc _).frozen 1
            have FIN : Hid (∀ g2 cap2 w4, w4.ownsRow w0.heap.size 128 2 (.slice (some ⟨g2, 0, none⟩) (j + 1) cap2) (j + 1) (pr (wl chs) lg (ls.take j) ++ [.chan (some q), .bool hd]) → (W2.drew.alloc (Obj.cells #[.chan (some q), .bool hd] 128)).grownBy w4 (Value.slice al j cl).ownBlock →
                ((Value.slice al j cl).ownBlock = some g2 ∨ g2 = W2.heap.size + 1) → (∃ ρ', Wr w0.heap.size ρ' chs (w4.setCell ⟨w.heap.size + 1, 1, none⟩ (.slice (some ⟨g2, 0, none⟩) (j + 1) cap2)) g (ps ++ [w.heap.size + 1]) (cs ++ [(pk, ls.take (j + 1))])) ∧ Below w0.heap.size w0 (w4.setCell ⟨w.heap.size + 1, 1, none⟩ (.slice (some ⟨g2, 0, none⟩) (j + 1) cap2))) := by
              intro g2 cap2 w4 ho hgr hloc
              have hk : Keeps ρ' (fun t => t = .legs (w.heap.size + 1)) W2 w4 := by
                refine Keeps.trans (b := W2.drew.alloc (Obj.cells #[.chan (some q), .bool hd] 128)) (ρ' := ρ') (Keeps.ofBelow ((Below.refl _ _).drew.alloc (Nat.le_refl _) _)) (Keeps.ofGrown hgr (fun k e => LON.out k e)) (fun _ _ => rfl)
              have hl2 := W2r.legs ps.length hpi (pk := pk) (lv := .slice al j cl) (by rw [hpe]; exact LB) (by rw [hpe]; exact hk) (.slice (some ⟨g2, 0, none⟩) (j + 1) cap2) (ls.take (j + 1)) (by
                  have hl1 : (ls.take (j + 1)).length = j + 1 := by simp; omega
                  have hq2 : wl chs ((L : Int), hd) = .chan (some q) := by show Value.chan (some (chs.getD ((L : Int)).toNat 0)) = _; rw [HQ.out]
                  rw [Op, hl1, HSING.out, pr_append]
                  show w4.ownsRow w0.heap.size 128 2 (.slice (some ⟨g2, 0, none⟩) (j + 1) cap2) (j + 1) (pr (wl chs) lg (ls.take j) ++ [wl chs ((L : Int), hd), .bool hd])
                  rw [hq2]; exact ho) (by
                  intro k e
                  have : k = g2 := by simpa [Value.ownBlock] using e.symm
                  subst this
                  rcases hloc with h | h
                  · exact .inl h
                  · exact .inr (by omega)) (by
                  intro x hx
                  rw [HSING.out] at hx
                  rcases List.mem_append.1 hx with hx | hx
                  · exact W2r.lines (pk, ls.take j) (by simp) x hx
                  · simp at hx; subst hx; exact HIN.out)
              obtain ⟨ρ2, -, h2⟩ := hl2
              refine ⟨⟨ρ2, ?_⟩, ?_⟩
              · rw [hpe] at h2
                rw [HLN.out] at h2
                simpa using h2
              · have x1 : Below w0.heap.size W2 (W2.drew.alloc (Obj.cells #[.chan (some q), .bool hd] 128)) := (Below.refl _ _).drew.alloc HB2.size _
                have x2 : Below w0.heap.size (W2.drew.alloc (Obj.cells #[.chan (some q), .bool hd] 128)) w4 := grown_below hgr (by have := HB2.size; simp; omega) (fun k e => (World.ownsRow.lt LO k e).1)
                exact (HB2.trans (x1.trans x2)).setCell (by have := hsz; dsimp only; omega) _
            have HLO2 : Hid (W2.ownsRow w0.heap.size 128 2 (.slice al j cl) j (pr (wl chs) lg (ls.take j))) := (by have := LO; rw [Op, hLk] at this; exact this)
            have hB2s := HB2.size
            have HNB : Hid ((L : Int) ∉ linesTo (cs ++ [(pk, ls.take j)]) (cs ++ [(pk, ls.take j)]).length) := callAt_not HCA.out
            clear LO LB W2r nb HWr HOW HLO HLB LON HB2 HBW HH HH2 e0 e1 e2 e3
            go_wp2
            obtain ⟨S, hS⟩ : ∃ S : World → Prop, ∀ W, S W ↔ W.cell? ⟨g, 0, none⟩ = some (.slice (some ⟨bw, 0, none⟩) chs.length cw) ∧ W.cell? ⟨bw, L, none⟩ = some (.chan (some q)) ∧ W.cell? ⟨wr.heap.size, 0, none⟩ = some (.int .i64 (L : Int)) ∧ W.cell? ⟨wr.heap.size, 1, none⟩ = some (.bool hd) ∧ W.cell? ⟨w.heap.size + 1, 1, none⟩ = some (.slice al j cl) := ⟨_, fun _ => Iff.rfl⟩
            have z0 : ∀ W : At S, W.wd.cell? ⟨g, 0, none⟩ = some (.slice (some ⟨bw, 0, none⟩) chs.length cw) := fun W => ((hS _).1 W.ok).1
            have z1 : ∀ W : At S, W.wd.cell? ⟨bw, L, none⟩ = some (.chan (some q)) := fun W => ((hS _).1 W.ok).2.1
            have z2 : ∀ W : At S, W.wd.cell? ⟨wr.heap.size, 0, none⟩ = some (.int .i64 (L : Int)) := fun W => ((hS _).1 W.ok).2.2.1
            have z3 : ∀ W : At S, W.wd.cell? ⟨wr.heap.size, 1, none⟩ = some (.bool hd) := fun W => ((hS _).1 W.ok).2.2.2.1
            have z4 : ∀ W : At S, W.wd.cell? ⟨w.heap.size + 1, 1, none⟩ = some (.slice al j cl) := fun W => ((hS _).1 W.ok).2.2.2.2
            have HS1 : Hid (S (W2.drew.alloc (Obj.cells #[.chan (some q), .bool hd] 128))) := by
              have f : ∀ a x, W2.cell? a = some x → (W2.drew.alloc (Obj.cells #[.chan (some q), .bool hd] 128)).cell? a = some x := fun a x ha => (World.cell?_alloc_some W2.drew a _ (by show (W2.cell? a).isSome = true; rw [ha]; rfl)).trans ha
              refine (hS _).2 ?_
              exact ⟨f _ _ E1, f _ _ E2, f _ _ E0, f _ _ E3, f _ _ hP1⟩
            have HS2 : Hid (∀ w4, (W2.drew.alloc (Obj.cells #[.chan (some q), .bool hd] 128)).grownBy w4 (Value.slice al j cl).ownBlock → S w4) := fun w4 hgr => by
              have f := (FAR.out w4 hgr).1
              refine (hS _).2 ?_
              exact ⟨f _ _ E1 n1, f _ _ E2 n2, f _ _ E0 n0, f _ _ E3 n0, f _ _ hP1 n4⟩
            have HS0 : Hid (S W2.drew) := (hS _).2 ⟨E1, E2, E0, E3, hP1⟩
            have ne2 : Nonempty (At S) := ⟨⟨_, HS1.out⟩⟩
            clear hS
            refine region_mixA [true, true, true, true, true, true, true, true, true, true, true, true, true, true, true, true, false, false, false, false, false] 18 2 S (by kernel_rfl) rfl (by kernel_rfl) (fun _ _ _ _ _ h => h) HS0.out ?_
            simp only [selT, selF]
            repeat (go_big_quiet_step (fail))
            refine wpQuiet_nil ?_
            refine tail_step ?_
            go_wp2
            refine ⟨HS1.out, tail_step ?_⟩
            go_wp2_with (at_builtin; refine wpList_append_lies _ rfl _ _ 123 rfl w0.heap.size 128 i1 (.agg #[.chan none, .bool false]) 2 16 Try.underlying123 hi1 hy0 hy1 hy2 rfl (by decide) _ _ _ rfl (World.ownsRow.alloc (World.ownsRow.drew HLO2.out) _) ⟨W2.heap.size, 0, none⟩ 1 1 [.chan (some q), .bool hd] rfl rfl (World.news_of_block (Blk.newAt W2.drew W2.heap.size _ 128 (by simp))) (by intro u hu; simp at hu; rcases hu with rfl | rfl <;> rfl) (by decide) (by unfold maxLen; omega) (by omega) (by simp; omega) (W2.heap.size + 1) (by simp) ?_)
            intro g2 cap2 w4 ho hgr hloc hlt2
            have t4 := (FAR.out w4 hgr).1 _ _ hP1 n4
            have t5 := (FAR.out w4 hgr).2
            have HFF : Hid _ := FIN.out g2 cap2 w4 ho hgr hloc
            have HS3 : Hid (S w4) := HS2.out w4 hgr
            clear ho hgr hloc hlt2
            go_wp2
            refine ⟨HS3.out, tail_end ?_⟩
            have HNB' : Hid ((linesTo cs cs.length ++ (ls.take (j + 1)).map (·.1)).Nodup) := by
              have hn := HNB.out
              rw [linesTo_snoc] at hn
              show (linesTo cs cs.length ++ (ls.take (j + 1)).map (·.1)).Nodup
              rw [HSING.out, List.map_append, ← List.append_assoc, List.nodup_append]
              refine ⟨hNd.out, by simp, fun x hx y hy => ?_⟩
              simp at hy; subst hy
              exact fun e => hn (e ▸ hx)
            go_wp2
            go_roundw
            case rel => exact ⟨j + 1, by omega, by go_num, HFF.out.1, HFF.out.2, HNB'.out⟩
            case measure => simp [intOf]; omega
        · have HH : Hid (∀ W : Ov (wr.alloc (Obj.cells #[.int .i64 l, .bool hd] 42)), Calls Try.prog 63 #[ptr g, .int .i64 l] W.wd fun e w'' => e = .returned (.bool false) ∧ ∃ W' : Ov (wr.alloc (Obj.cells #[.int .i64 l, .bool hd] 42)), w'' = W'.wd) := fun W => by
            refine ov_call ((has_c (W1.below (W.ok)) l).mono ?_)
            rintro e w2 ⟨rfl, rfl⟩
            exact ⟨by rw [decide_eq_false hin], Below.refl _ _⟩
          have HN : Hid (¬ (0 ≤ l ∧ l < (chs.length : Int))) := hin
          have HBW : Hid (∀ W : Ov (wr.alloc (Obj.cells #[.int .i64 l, .bool hd] 42)), Below w0.heap.size w0 W.wd) := fun W => (hBr.out.trans (bel1.mono hBr.out.size)).trans ((W.ok).mono (by have := hBr.out.size; simp; omega))
          clear W1 hWr bel1 kk hin
          go_wp2
          refine region_over (by kernel_rfl) (by kernel_rfl) ?_
          repeat (go_big_quiet_step (first | (go_at_call 63; exact HH.out _)))
          refine wpQuiet_nil ?_
          rintro _ ⟨W, rfl⟩
          go_wp2
          go_ret
          refine ⟨_, rfl, ⟨fun h => by simp at h, fun h => ?_⟩, HBW.out W, fun h => by simp at h⟩
          have := h.2.1 ls[j] (List.getElem_mem hlt)
          rw [HLJ.out.1] at this
          exact absurd this HN.out
      · obtain rfl : j = ls.length := by omega
        clear l3
        go_wp2
        go_ret
        refine ⟨_, rfl, ⟨fun _ => ⟨hok, ?_, by simpa using hNd.out⟩, fun _ => rfl⟩, hBr.out, fun _ => ?_⟩
        · obtain ⟨ρ', h⟩ := hWr.out
          exact h.lines (pk, ls) (by simp)
        · obtain ⟨ρ', h⟩ := hWr.out
          exact ⟨ρ', _, by simpa using h⟩
  · have HN : Hid (¬ CallOk (pk, ls)) := hok
    have HBL : Hid (∀ o, Below w0.heap.size w0 (w.alloc o)) := fun o => hb0.alloc hb0.size o
    clear r1 o1 m1 r2 o2 b0 h hb0 l3
    by_cases hmany : 8 < (ls.length : Int)
    · clear hok
      go_enter Try.func81, Try.ntmps81
      go_wp2
      go_ret
      exact ⟨_, rfl, ⟨fun h => by simp at h, fun h => absurd h.1 HN.out⟩, HBL.out _, fun h => by simp at h⟩
    · have hfew : (if pk then decide ((ls.length : Int) < 1) else decide ((ls.length : Int) < 2)) = true := by
        rw [CallOk] at hok
        cases pk <;> simp at hok ⊢ <;> omega
      clear hok
      go_enter Try.func81, Try.ntmps81
      go_wp2_with (go_at_call 95; refine (few_c _ _ _).mono ?_; rintro e w2 ⟨rfl, rfl⟩; rw [hfew])
      go_ret
      exact ⟨_, rfl, ⟨fun h => by simp at h, fun h => absurd h.1 HN.out⟩, HBL.out _, fun h => by simp at h⟩
end Go.Proofs.Ytcbeaimpmjljjaa
