/- Voice that is drawn; no condition. -/
import Derived.Test.YtomgdlnpajfjhaaDraw
import Derived.Test.YtomgdlnpajfjhaaApp
namespace Go.Proofs.Ytomgdlnpajfjhaa
open Go.RowKit Go.ChangeShapes Go.WideShapes Go.ChangeAt
set_option linter.unusedVariables false
set_option linter.unusedSimpArgs false
set_option maxRecDepth 8000
theorem Dc.belowB {w W W' : World} {g : Nat} {cv : Value} {zs : List Int} (h : Dc w W g cv zs) (hb : Below w.heap.size W W') : Dc w W' g cv zs := by
  have hg := h.gr
  obtain ⟨i, hh, k, h1, h2⟩ := h.dr.cur
  have hrd : Rd .u8 W' cv zs := by
    obtain ⟨a, cap, hv, e1, e2, e3⟩ := h.dr.rd
    refine ⟨a, cap, hv, e1, e2, ?_⟩
    rcases e3 with e3 | ⟨bb, off, rfl, e4⟩
    · exact .inl e3
    · rcases h.cl with h0 | h0
      · exact .inl h0
      · refine .inr ⟨bb, off, rfl, fun i hi => ?_⟩
        have hlt := h0 bb (by rw [hv]; rfl)
        rw [← e4 i hi]
        simp only [World.cell?, hb.block bb hlt]
  exact ⟨⟨⟨i, hh, k.below hb h.lt, h1, h2⟩, hrd, h.dr.ap, h.dr.ok, h.dr.len⟩, ⟨hb.os.trans hg.os, hb.tape.trans hg.tape, hb.output.trans hg.output, Nat.le_trans hg.size hb.size, fun j hj hn => (hb.block j hj).trans (hg.block j hj hn)⟩, h.lt, h.cl⟩
theorem Ow.drawn {base : Nat} {W W' : World} {v : Value} {ys : List Int} {g : Nat} (h : Ow .i64 3 base W v ys) (hg : W.grownBy W' (some g)) (hl : g < base) : Ow .i64 3 base W' v ys := World.ownsRow.kept (row := some g) h hg (h.low g hl)
theorem getD_bd (ys : List Int) (k : Nat) (lo hi : Int) (h : ∀ y ∈ ys, lo ≤ y ∧ y ≤ hi) (hk : k < ys.length) : lo ≤ ys.getD k 0 ∧ ys.getD k 0 ≤ hi := by
  rw [List.getD_eq_getElem?_getD, List.getElem?_eq_getElem hk, Option.getD_some]; exact h _ (List.getElem_mem hk)
end Go.Proofs.Ytomgdlnpajfjhaa
namespace Go.Proofs.Ytomgdlnpajfjhaa
open Go.RowKit Go.ChangeShapes Go.WideShapes Go.ChangeAt
set_option linter.unusedVariables false
set_option linter.unusedSimpArgs false
set_option maxRecDepth 8000

set_option maxHeartbeats 6400000 in
theorem drawBits_c (g : Nat) (cv : Value) (zs : List Int) (n : Nat) (w : World) (h : Dr w g cv zs) (hn : n ≤ 1000) :
   Calls Try.prog 22 #[.pointer (some ⟨g, 0, none⟩), .int .i64 n] w fun e w' => ∃ v ys, e = .returned v ∧ Ow .i64 3 w.heap.size w' v ys ∧ ys.length = n ∧ (∀ y ∈ ys, 0 ≤ y ∧ y ≤ 1) ∧ Dc w w' g cv zs := by
  have HD0 : Hid (Dc w w g cv zs) := Dc.start h
  obtain ⟨W0, hW0⟩ : ∃ W, w.alloc (Obj.cells #[] 3) = W := ⟨_, rfl⟩
  have HDA : Hid (Dc w W0 g cv zs) := by rw [← hW0]; exact HD0.out.below ((Below.refl _ _).alloc (Nat.le_refl _) _)
  obtain ⟨v0, hv0⟩ : ∃ v, Value.slice (some ⟨w.heap.size, 0, none⟩) 0 0 = v := ⟨_, rfl⟩
  have HOA : Hid (Ow .i64 3 w.heap.size W0 v0 []) := by rw [← hW0, ← hv0]; exact Ow.empty .i64 3 _ w (Nat.le_refl _)
  have HW0 : Hid (w.alloc (Obj.cells #[] 3) = W0 ∧ Value.slice (some ⟨w.heap.size, 0, none⟩) 0 0 = v0) := ⟨hW0, hv0⟩
  clear HD0 h hW0 hv0
  go_enter Try.func22, Try.ntmps22
  go_wp2
  rw [HW0.out.1, HW0.out.2]
  clear HW0
  go_loopw [5, 6] (fun o i wr => ∃ (j : Nat) (ys : List Int) (o' : Value), i = .int .i64 j ∧ o' = o ∧ j ≤ n ∧ Hid (ys.length = j ∧ ∀ y ∈ ys, 0 ≤ y ∧ y ≤ 1) ∧ Hid (Ow .i64 3 w.heap.size wr o' ys) ∧ Hid (Dc w wr g cv zs)) (fun _ i _ => n - (intOf i).toNat)
  case atStart => exact ⟨0, [], _, rfl, rfl, Nat.zero_le _, ⟨rfl, fun y hy => by cases hy⟩, HOA.out, HDA.out⟩
  case round =>
    obtain ⟨j, ys, o', rfl, ho', hj, hY, hO, hD⟩ := hrel
    subst ho'
    clear HOA HDA
    by_cases hlt : j < n
    case pos =>
      have hltI : (j : Int) < (n : Int) := by omega
      go_wp2_with (fail)
      refine (below_c _ _ _ _ _ hD.out.dr (by omega)).mono ?_
      rintro e wa ⟨x, rfl, x0, x1, -, d1, g1⟩
      have x2 := x1 (by omega)
      have HDa : Hid (Dc w wa g cv zs) := hD.out.draw d1 g1
      have HOa : Hid (Ow .i64 3 w.heap.size wa o' ys) := hO.out.drawn g1 hD.out.lt
      have HSZ : Hid (w.heap.size ≤ wa.heap.size) := HDa.out.gr.size
      have HLN : Hid (ys.length ≤ 1000) := by show _ ≤ _; have := hY.out.1; omega
      clear d1 g1 x1 hD hO
      go_wp2_with (at_builtin; refine appI rfl (.tmp 13) (.tmp 16) rfl w.heap.size _ ys rfl (HOa.out.alloc _) wa.heap.size x rfl (by simp) (by have := HLN.out; omega) (by have := HSZ.out; simp; omega) ?_)
      intro v6 w6 ho hb
      have HO6 : Hid (Ow .i64 3 w.heap.size w6 v6 (ys ++ [x])) := ho
      have HD6 : Hid (Dc w w6 g cv zs) := (HDa.out.below ((Below.refl _ _).alloc (Nat.le_refl _) _)).belowB hb
      clear ho hb HOa HDa HSZ
      have HYN : Hid ((ys ++ [x]).length = j + 1 ∧ ∀ y ∈ ys ++ [x], 0 ≤ y ∧ y ≤ 1) := ⟨by have := hY.out.1; simp; omega, fun y hy => by
        rcases List.mem_append.1 hy with h1 | h1
        · exact hY.out.2 y h1
        · simp at h1; subst h1; omega⟩
      clear hY
      go_wp2
      go_roundw
      case rel => exact ⟨j + 1, _, _, by go_num, rfl, by omega, HYN.out, HO6.out, HD6.out⟩
      case measure => simp [intOf]; omega
    case neg =>
    obtain rfl : j = n := by omega
    clear hj hlt
    go_wp2
    go_ret
    exact ⟨_, _, rfl, hO.out, hY.out.1, hY.out.2, hD.out⟩

end Go.Proofs.Ytomgdlnpajfjhaa
namespace Go.Proofs.Ytomgdlnpajfjhaa
open Go.RowKit Go.ChangeShapes Go.WideShapes Go.ChangeAt
set_option linter.unusedVariables false
set_option linter.unusedSimpArgs false
set_option maxRecDepth 8000
set_option maxHeartbeats 1600000 in
theorem once_c (g : Nat) (cv : Value) (zs : List Int) (n : Int) (w : World) (h : Dr w g cv zs) (hn : n ≤ 1099511627776) :
   Calls Try.prog 24 #[.pointer (some ⟨g, 0, none⟩), .int .i64 n] w fun e w' => ∃ r : Bool, e = .returned (.bool r) ∧ Dr w' g cv zs ∧ w.grownBy w' (some g) := by
  go_enter Try.func24, Try.ntmps24
  go_wp2_with (fail)
  refine (below_c g cv zs n w h hn).mono ?_
  rintro e w1 ⟨x, rfl, x0, x1, x2, d1, g1⟩
  have HF : Hid (Dr w1 g cv zs ∧ w.grownBy w1 (some g)) := ⟨d1, g1⟩
  clear d1 g1 x1 x2
  go_wp2
  go_ret
  exact ⟨_, rfl, HF.out⟩


theorem ow_ne_blk {base X : Nat} {w : World} {v : Value} {zs : List Int} {cs : Array Value} {t : TypeId} (h : Ow .i64 3 base w v zs) (hk : Blk w X cs t) (ht : t ≠ 3) : v.ownBlock = none ∨ v.ownBlock ≠ some X := by
  rcases h.2 with ⟨rfl, -⟩ | ⟨g, cap, cur, rfl, -, hg, -⟩
  · exact .inl rfl
  · refine .inr fun e => ?_
    simp [Value.ownBlock] at e
    subst e
    rw [Blk] at hk
    rw [hk] at hg
    simp at hg
    exact ht hg.2

end Go.Proofs.Ytomgdlnpajfjhaa
