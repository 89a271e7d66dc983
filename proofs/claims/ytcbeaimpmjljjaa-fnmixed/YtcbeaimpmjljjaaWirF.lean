/- The contracts of the program's functions that find a line in its own panel; no condition. -/
import Derived.Test.YtcbeaimpmjljjaaWir
namespace Go.Proofs.Ytcbeaimpmjljjaa
open Go.RowKit Go.ChangeShapes Go.WideShapes Go.ChangeAt
set_option linter.unusedVariables false
set_option linter.unusedSimpArgs false
set_option maxRecDepth 8000
/-- the place of a line's leg -/
def legAt (ls : Legs2) (l : Int) : Option Nat := ls.findIdx? fun x => x.1 == l
def plc (ls : Legs2) (l : Int) : Int := match legAt ls l with | some i => i | none => -1
/-- the place of a line's call -/
def callAt (cs : Calls2) (l : Int) : Option Nat := cs.findIdx? fun c => (legAt c.2 l).isSome
theorem legAt_some {ls : Legs2} {l : Int} {i : Nat} (h : legAt ls l = some i) : ∃ h : i < ls.length, ls[i].1 = l := by
  rw [legAt, List.findIdx?_eq_some_iff_getElem] at h
  obtain ⟨h1, h2, -⟩ := h
  exact ⟨h1, by simpa using h2⟩
theorem legAt_none {ls : Legs2} {l : Int} (h : legAt ls l = none) : ∀ x ∈ ls, x.1 ≠ l := by
  rw [legAt, List.findIdx?_eq_none_iff] at h
  intro x hx; simpa using h x hx
theorem legAt_isSome {ls : Legs2} {l : Int} : (legAt ls l).isSome = true ↔ ∃ x ∈ ls, x.1 = l := by
  rw [legAt, List.findIdx?_isSome, List.any_eq_true]
  simp
theorem legAt_take {ls : Legs2} {l : Int} {i : Nat} (h : i < ls.length) (he : ls[i].1 = l) (hn : ∀ t (h : t < ls.length), t < i → ls[t].1 ≠ l) : legAt ls l = some i := by
  rw [legAt, List.findIdx?_eq_some_iff_getElem]
  exact ⟨h, by simpa using he, fun j hj => by simpa using hn j (by omega) hj⟩
theorem legAt_all {ls : Legs2} {l : Int} (hn : ∀ t (h : t < ls.length), ls[t].1 ≠ l) : legAt ls l = none := by
  rw [legAt, List.findIdx?_eq_none_iff]
  intro x hx
  obtain ⟨i, hi, rfl⟩ := List.getElem_of_mem hx
  simpa using hn i hi
theorem eqW (a b : Option Nat) (w : World) : (Op.equal 98 (.chan a) (.chan b)).run Try.prog w = .ok (a == b) w := equal_chan Try.underlying98 a b w
theorem eqWop (a b : Option Nat) (w : World) : (binOp .eql 98 (.chan a) (.chan b)).run Try.prog w = .ok (.bool (a == b)) w := by simp [binOp, eqW]
theorem neWop (a b : Option Nat) (w : World) : (binOp .neq 98 (.chan a) (.chan b)).run Try.prog w = .ok (.bool (!(a == b))) w := by simp [binOp, eqW]
theorem few_c (n : Int) (p : Bool) (w : World) : Calls Try.prog 95 #[.int .i64 n, .bool p] w fun e w' => e = .returned (.bool (if p then decide (n < 1) else decide (n < 2))) ∧ w' = w := by
  go_enter Try.func95, Try.ntmps95
  cases p
  all_goals
    go_wp2
    go_ret
    exact ⟨rfl, rfl⟩
theorem has_c {base : Nat} {ρ : Nat → Tag} {chs : List Nat} {w : World} {g : Nat} {ps : List Nat} {cs : Calls2} (h : Wr base ρ chs w g ps cs) (l : Int) :
    Calls Try.prog 63 #[ptr g, .int .i64 l] w fun e w' => e = .returned (.bool (decide (0 ≤ l ∧ l < chs.length))) ∧ w' = w := by
  obtain ⟨wv, gm, cv, b0, -, -, r1, -⟩ := h.ex
  have hc := b0.cell 0
  simp at hc
  have hv : ∃ a cap, wv = .slice a chs.length cap := by
    rcases r1.2 with ⟨rfl, hn⟩ | ⟨b, cap, cur, rfl, -⟩
    · exact ⟨none, 0, by rw [hn]⟩
    · exact ⟨_, _, rfl⟩
  obtain ⟨a, cap, rfl⟩ := hv
  clear r1 b0
  go_enter Try.func63, Try.ntmps63
  by_cases h1 : 0 ≤ l <;> by_cases h2 : l < (chs.length : Int)
  all_goals
    go_wp2
    go_ret
    exact ⟨by simp [h1, h2], rfl⟩
set_option maxHeartbeats 800000 in
theorem place_c {base : Nat} {ρ : Nat → Tag} {chs : List Nat} {w : World} {p : Nat} {c : Bool × Legs2} (h : WCall base ρ chs w p c) (hn : chs.Nodup) (hl : ∀ x ∈ c.2, 0 ≤ x.1 ∧ x.1 < chs.length) (l : Int) (h0 : 0 ≤ l ∧ l < chs.length) :
    Calls Try.prog 87 #[ptr p, .chan (some (chs.getD l.toNat 0))] w fun e w' => e = .returned (.int .i64 (plc c.2 l)) ∧ Below w.heap.size w w' := by
  obtain ⟨lv, hb, -, -, ho, -⟩ := h
  have hc := hb.cell 1
  simp at hc
  have hpl : p < w.heap.size := hb.lt
  obtain ⟨a, cap, rfl, h1, h2, h3⟩ := ho.rd
  unfold maxLen at h2
  clear ho hb
  obtain ⟨q, hq⟩ : ∃ q, chs.getD l.toNat 0 = q := ⟨_, rfl⟩
  have HE : Hid (∀ t (h : t < c.2.length), chs.getD c.2[t].1.toNat 0 = q ↔ c.2[t].1 = l) := by
    intro t ht
    rw [← hq]
    exact chan_iff hn (hl _ (List.getElem_mem ht)) h0
  rw [hq]
  clear hq hl hn h0
  have hq := @eqWop
  go_enter Try.func87, Try.ntmps87
  go_wp2
  go_loopw [12] (fun i wr => ∃ j : Nat, j ≤ c.2.length ∧ i = .int .i64 j ∧ Hid (∀ t (h : t < c.2.length), t < j → c.2[t].1 ≠ l) ∧ Below w.heap.size w wr) (fun i _ => c.2.length - (intOf i).toNat)
  case atStart => exact ⟨0, Nat.zero_le _, rfl, fun t _ ht => by omega, Below.refl _ _⟩
  case round =>
    obtain ⟨j, hj, rfl, hall, hbr⟩ := hrel
    by_cases hlt : j < c.2.length
    · rcases h3 with h3 | ⟨b, off, rfl, h4⟩
      · rw [h3] at hlt; simp at hlt
      have hd := h4 j hlt
      have hbl : b < w.heap.size := block_lt_of_cell hd.1
      obtain ⟨x, hx⟩ : ∃ x, chs.getD c.2[j].1.toNat 0 = x := ⟨_, rfl⟩
      have hd0 : wr.cell? ⟨b, off + j * 2, none⟩ = some (.chan (some x)) := by rw [hbr.cell hbl, ← hx]; exact hd.1
      have hd1 : wr.cell? ⟨b, off + j * 2 + 1, none⟩ = some (.bool c.2[j].2) := by rw [hbr.cell hbl]; exact hd.2
      have HJ := HE.out j hlt
      rw [hx] at HJ
      have HB : Hid (Below w.heap.size w wr) := hbr
      clear h4 hd hx HE hbr hc
      have HB2 : Hid (Below w.heap.size w (wr.alloc (Obj.cells #[.chan (some x), .bool c.2[j].2] 128))) := HB.out.alloc HB.out.size _
      by_cases hxq : x = q
      · subst hxq
        have HL : Hid (c.2[j].1 = l) := HJ.1 rfl
        clear HJ
        go_wp2
        go_ret
        refine ⟨?_, HB2.out⟩
        rw [plc, legAt_take hlt HL.out hall.out]
        rfl
      · have HL : Hid (¬ c.2[j].1 = l) := fun h => hxq (HJ.2 h)
        clear HJ
        go_wp2
        go_roundw
        case rel =>
          refine ⟨j + 1, by omega, by go_num, fun t ht htj => ?_, HB2.out⟩
          by_cases hjk : t < j
          · exact hall.out t ht hjk
          · obtain rfl : t = j := by omega
            exact HL.out
        case measure => simp [intOf]; omega
    · obtain rfl : j = c.2.length := by omega
      clear h3
      go_wp2
      go_ret
      refine ⟨?_, hbr⟩
      rw [plc, legAt_all (fun t ht => hall.out t ht ht)]
      rfl
theorem callAt_take {cs : Calls2} {l : Int} {i : Nat} (h : i < cs.length) (he : plc cs[i].2 l ≥ 0) (hn : ∀ t (h : t < cs.length), t < i → plc cs[t].2 l < 0) : callAt cs l = some i := by
  rw [callAt, List.findIdx?_eq_some_iff_getElem]
  refine ⟨h, ?_, fun j hj => ?_⟩
  · cases hq : legAt cs[i].2 l with
    | some k => rfl
    | none => rw [plc, hq] at he; simp at he
  · have := hn j (by omega) hj
    cases hq : legAt cs[j].2 l with
    | some k => rw [plc, hq] at this; simp at this; omega
    | none => simp
theorem callAt_all {cs : Calls2} {l : Int} (hn : ∀ t (h : t < cs.length), plc cs[t].2 l < 0) : callAt cs l = none := by
  rw [callAt, List.findIdx?_eq_none_iff]
  intro x hx
  obtain ⟨i, hi, rfl⟩ := List.getElem_of_mem hx
  have := hn i hi
  cases hq : legAt cs[i].2 l with
  | some k => rw [plc, hq] at this; simp at this; omega
  | none => rfl
/-- what a call of the program's is, told by its place -/
def cptr (ps : List Nat) (o : Option Nat) : Value := match o with | some i => ptr (ps.getD i 0) | none => .pointer none
set_option maxHeartbeats 800000 in
theorem callOf_c {base : Nat} {ρ : Nat → Tag} {chs : List Nat} {w : World} {g : Nat} {ps : List Nat} {cs : Calls2} (h : Wr base ρ chs w g ps cs) (l : Int) (h0 : 0 ≤ l ∧ l < chs.length) :
    Calls Try.prog 64 #[ptr g, .chan (some (chs.getD l.toNat 0))] w fun e w' => e = .returned (cptr ps (callAt cs l)) ∧ Below w.heap.size w w' := by
  have HW : Hid (Wr base ρ chs w g ps cs) := h
  obtain ⟨wv, gm, cv, b0, -, -, r1, -, -, -, -, r2, -⟩ := h.ex
  have hc := b0.cell 2
  simp at hc
  have hlen := h.len
  have hv : ∃ a cap, cv = .slice a ps.length cap ∧ ps.length ≤ cap ∧ cap ≤ 2 ^ 63 - 1 ∧ (ps.length = 0 ∨ ∃ b, a = some ⟨b, 0, none⟩ ∧ ∀ i (h : i < ps.length), w.cell? ⟨b, i, none⟩ = some (ptr ps[i])) := by
    rcases r2.2 with ⟨rfl, hn⟩ | ⟨b, cap, cur, rfl, hb, hg, hnc, hcm, -⟩
    · exact ⟨none, 0, by rw [hn], by omega, by omega, .inl hn⟩
    · refine ⟨_, cap, rfl, hnc, hcm, .inr ⟨b, rfl, fun i hi => ?_⟩⟩
      rw [World.ownsRow.cellAt r2 i (by omega)]
      simp [List.getElem?_eq_getElem hi]
  obtain ⟨a, cap, rfl, hnc, hcm, h3⟩ := hv
  have HLN : Hid (ps.length = cs.length) := hlen
  clear r1 r2 b0 h hlen
  obtain ⟨q, hq⟩ : ∃ q, chs.getD l.toNat 0 = q := ⟨_, rfl⟩
  have HQ : Hid (chs.getD l.toNat 0 = q) := hq
  rw [hq]
  clear hq
  go_enter Try.func64, Try.ntmps64
  go_wp2
  go_loopw [12] (fun i wr => ∃ j : Nat, j ≤ ps.length ∧ i = .int .i64 j ∧ Hid (∀ t (h : t < cs.length), t < j → plc cs[t].2 l < 0) ∧ Below w.heap.size w wr) (fun i _ => ps.length - (intOf i).toNat)
  case atStart => exact ⟨0, Nat.zero_le _, rfl, fun t _ ht => by omega, Below.refl _ _⟩
  case round =>
    obtain ⟨j, hj, rfl, hall, hbr⟩ := hrel
    by_cases hlt : j < ps.length
    · rcases h3 with h3 | ⟨b, rfl, h4⟩
      · omega
      have hd := h4 j hlt
      have hjc : j < cs.length := by have h := HLN.out; omega
      have hbl : b < w.heap.size := block_lt_of_cell hd
      have hd0 : wr.cell? ⟨b, j, none⟩ = some (ptr ps[j]) := by rw [hbr.cell hbl]; exact hd
      have W2 := HW.out.below hbr
      have hcall := W2.call j hlt hjc
      obtain ⟨z, hz⟩ : ∃ z, plc cs[j].2 l = z := ⟨_, rfl⟩
      obtain ⟨p, hp⟩ : ∃ p, ps[j] = p := ⟨_, rfl⟩
      have HP : Hid (Calls Try.prog 87 #[ptr p, .chan (some q)] wr fun e w' => e = .returned (.int .i64 z) ∧ Below wr.heap.size wr w') := by
        rw [← HQ.out, ← hz, ← hp]
        exact place_c hcall W2.nod (W2.lines _ (List.getElem_mem hjc)) l h0
      have HB : Hid (Below w.heap.size w wr) := hbr
      have HZ : Hid (plc cs[j].2 l = z) := hz
      have HPP : Hid (ps.getD j 0 = p) := by show ps.getD j 0 = p; simp [List.getElem?_eq_getElem hlt, hp]
      rw [hp] at hd0
      clear h4 hd hbr hc W2 hcall HW hz hp h0
      by_cases hpos : 0 ≤ z
      · go_wp2_with (go_at_call 87; refine HP.out.mono ?_; rintro e w2 ⟨rfl, b2⟩)
        go_ret
        refine ⟨?_, HB.out.trans (b2.mono HB.out.size)⟩
        rw [callAt_take hjc (by rw [HZ.out]; exact hpos) hall.out]
        simp only [cptr, HPP.out]
        rfl
      · go_wp2_with (go_at_call 87; refine HP.out.mono ?_; rintro e w2 ⟨rfl, b2⟩)
        go_roundw
        case rel =>
          refine ⟨j + 1, by omega, by go_num, fun t ht htj => ?_, HB.out.trans (b2.mono HB.out.size)⟩
          by_cases hjk : t < j
          · exact hall.out t ht hjk
          · obtain rfl : t = j := by omega
            rw [HZ.out]; omega
        case measure => simp [intOf]; omega
    · obtain rfl : j = ps.length := by omega
      clear h3
      go_wp2
      go_ret
      refine ⟨?_, hbr⟩
      rw [callAt_all (fun t ht => hall.out t ht (by have h := HLN.out; omega))]
      rfl
end Go.Proofs.Ytcbeaimpmjljjaa
