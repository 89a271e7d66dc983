/- the mathematics of who hears whom; no condition. -/
import Derived.Test.YtcbeaimpmjljjaaDrawK
import Derived.Test.YtcbeaimpmjljjaaHearS
import Derived.Test.YtcbeaimpmjljjaaHearI
import Derived.Test.YtcbeaimpmjljjaaMixS
namespace Go.Proofs.Ytcbeaimpmjljjaa
open Go.RowKit Go.ChangeShapes Go.WideShapes Go.ChangeAt
set_option linter.unusedVariables false
set_option linter.unusedSimpArgs false
set_option maxRecDepth 8000
theorem erase_len {l : List Int} (hn : l.Nodup) {a : Int} (ha : a ∈ l) : (l.filter fun x => !(x == a)).length + 1 = l.length := by
  have e : l.filter (fun x => !(x == a)) = l.erase a := by rw [hn.erase_eq_filter]; rfl
  rw [e, List.length_erase_of_mem ha]
  have := List.length_pos_of_mem ha
  omega
theorem others_eq (l : Int) (ls : Legs2) : others l ls = ((ls.filter fun x => !x.2).map (·.1)).filter fun x => !(x == l) := by
  rw [others, List.filter_map, List.filter_filter]
  rfl
/-- who hears is heard, is in one call with it, and hears as many -/
theorem hears_back {n : Int} {cs : Calls2} (h : POk n cs) {a b : Int} (hb : b ∈ hears cs a) : a ∈ hears cs b ∧ (callAt cs a).isSome = true ∧ callAt cs a = callAt cs b ∧ (hears cs b).length = (hears cs a).length := by
  cases hc : callAt cs a with
  | none => simp [hears, hc] at hb
  | some i =>
    have hi : i < cs.length := callAt_lt hc
    have hg : cs.getD i (false, []) = cs[i] := by simp [List.getElem?_eq_getElem hi]
    have hsa : (legAt cs[i].2 a).isSome = true := by
      rw [callAt, List.findIdx?_eq_some_iff_getElem] at hc
      exact hc.2.1
    cases hla : legAt cs[i].2 a with
    | none => simp [hla] at hsa
    | some k =>
      obtain ⟨hk, hka⟩ := legAt_some hla
      have hgk : cs[i].2.getD k (0, false) = cs[i].2[k] := by simp [List.getElem?_eq_getElem hk]
      have ha1 : hears cs a = if cs[i].1 || cs[i].2[k].2 then [] else others a cs[i].2 := by
        simp only [hears, hc, hg, heldAt, hla, hgk]
      have hno : (cs[i].1 || cs[i].2[k].2) = false := by
        cases hh : (cs[i].1 || cs[i].2[k].2) with
        | false => rfl
        | true => rw [ha1, hh] at hb; simp at hb
      rw [ha1, hno] at hb ⊢
      have hpk : cs[i].1 = false ∧ cs[i].2[k].2 = false := by simpa using hno
      have hb' : b ∈ others a cs[i].2 := by simpa using hb
      rw [others, List.mem_map] at hb'
      obtain ⟨x, hx, hxb⟩ := hb'
      rw [List.mem_filter] at hx
      obtain ⟨hxm, hx2⟩ := hx
      obtain ⟨m, hm, hme⟩ := List.getElem_of_mem hxm
      have hx3 : ¬ b = a ∧ cs[i].2[m].2 = false := by rw [hme, ← hxb]; simpa using hx2
      have hmb : cs[i].2[m].1 = b := by rw [hme]; exact hxb
      obtain ⟨q1, q2⟩ := leg_of h hi hm
      rw [hmb] at q1 q2
      have hgm : cs[i].2.getD m (0, false) = cs[i].2[m] := by simp [List.getElem?_eq_getElem hm]
      have hb1 : hears cs b = others b cs[i].2 := by
        simp only [hears, q2, hg, heldAt, q1, hgm, hpk.1, hx3.2, Bool.or_false, Bool.false_eq_true, if_false]
      have hnd : ((cs[i].2.filter fun x => !x.2).map (·.1)).Nodup := (List.Sublist.map _ List.filter_sublist).nodup (legs_nodup h hi)
      have hma : a ∈ (cs[i].2.filter fun x => !x.2).map (·.1) := List.mem_map.2 ⟨cs[i].2[k], List.mem_filter.2 ⟨List.getElem_mem hk, by simp [hpk.2]⟩, hka⟩
      have hmb' : b ∈ (cs[i].2.filter fun x => !x.2).map (·.1) := List.mem_map.2 ⟨cs[i].2[m], List.mem_filter.2 ⟨List.getElem_mem hm, by simp [hx3.2]⟩, hmb⟩
      refine ⟨?_, rfl, q2.symm, ?_⟩
      · rw [hb1, others_eq, List.mem_filter]
        exact ⟨hma, by simp; exact fun e => hx3.1 e.symm⟩
      · rw [hb1]
        have e1 := erase_len hnd hma
        have e2 := erase_len hnd hmb'
        rw [← others_eq] at e1 e2
        simp
        omega
theorem asc_lt {n : Nat} {l : List Int} {i j : Nat} (hij : i < j) (hj : j < (asc n l).length) : (asc n l)[i]'(by omega) < (asc n l)[j] := by
  have hp : (asc n l).Pairwise (· < ·) := by
    rw [asc]
    refine List.Pairwise.filter _ ?_
    rw [List.pairwise_map]
    exact List.Pairwise.imp (fun h => by omega) (List.pairwise_lt_range)
  exact (List.pairwise_iff_getElem.1 hp) i j (by omega) hj hij
def smallC : Calls2 := [(false, [(1, false), (0, false)])]
theorem small_ok : POk 2 smallC := by decide
theorem small_hears : asc (2 : Int).toNat (hears smallC 0) = [1] := by decide
/-- all that the law asks of one that is heard -/
theorem hears_law {n : Int} {cs : Calls2} (h : POk n cs) {a : Int} {i : Nat} (hi : i < (asc n.toNat (hears cs a)).length) :
    a ∈ asc n.toNat (hears cs (asc n.toNat (hears cs a))[i]) ∧ OneP n cs a (asc n.toNat (hears cs a))[i] ∧ (asc n.toNat (hears cs (asc n.toNat (hears cs a))[i])).length = (asc n.toNat (hears cs a)).length := by
  have hn : ((n.toNat : Nat) : Int) = n := by have := h.1; omega
  have hr : ∀ l, ∀ x ∈ hears cs l, 0 ≤ x ∧ x < (n.toNat : Int) := fun l => by rw [hn]; exact hears_range h l
  have hm : (asc n.toNat (hears cs a))[i] ∈ hears cs a := (mem_asc (hr a) _).1 (List.getElem_mem hi)
  obtain ⟨q1, q2, q3, q4⟩ := hears_back h hm
  refine ⟨(mem_asc (hr _) _).2 q1, ⟨h, q2, q3⟩, ?_⟩
  rw [(asc_perm (hears_nodup h _) (hr _)).length_eq, (asc_perm (hears_nodup h _) (hr _)).length_eq, q4]
end Go.Proofs.Ytcbeaimpmjljjaa
namespace Go.Proofs.Ytcbeaimpmjljjaa
open Go.RowKit Go.ChangeShapes Go.WideShapes Go.ChangeAt
set_option linter.unusedVariables false
set_option linter.unusedSimpArgs false
set_option maxRecDepth 8000
/-- those of a call who may be heard: who hears one of them hears all others -/
theorem hears_form {n : Int} {cs : Calls2} (h : POk n cs) {a b : Int} (hb : b ∈ hears cs a) : ∃ F : List Int, F.Nodup ∧ a ∈ F ∧ b ∈ F ∧ hears cs a = F.filter (fun x => !(x == a)) ∧ hears cs b = F.filter (fun x => !(x == b)) := by
  cases hc : callAt cs a with
  | none => simp [hears, hc] at hb
  | some i =>
    have hi : i < cs.length := callAt_lt hc
    have hg : cs.getD i (false, []) = cs[i] := by simp [List.getElem?_eq_getElem hi]
    have hsa : (legAt cs[i].2 a).isSome = true := by
      rw [callAt, List.findIdx?_eq_some_iff_getElem] at hc
      exact hc.2.1
    cases hla : legAt cs[i].2 a with
    | none => simp [hla] at hsa
    | some k =>
      obtain ⟨hk, hka⟩ := legAt_some hla
      have hgk : cs[i].2.getD k (0, false) = cs[i].2[k] := by simp [List.getElem?_eq_getElem hk]
      have ha1 : hears cs a = if cs[i].1 || cs[i].2[k].2 then [] else others a cs[i].2 := by
        simp only [hears, hc, hg, heldAt, hla, hgk]
      have hno : (cs[i].1 || cs[i].2[k].2) = false := by
        cases hh : (cs[i].1 || cs[i].2[k].2) with
        | false => rfl
        | true => rw [ha1, hh] at hb; simp at hb
      rw [hno] at ha1
      have ha2 : hears cs a = others a cs[i].2 := by simpa using ha1
      have hpk : cs[i].1 = false ∧ cs[i].2[k].2 = false := by simpa using hno
      have hb' : b ∈ others a cs[i].2 := ha2 ▸ hb
      rw [others, List.mem_map] at hb'
      obtain ⟨x, hx, hxb⟩ := hb'
      rw [List.mem_filter] at hx
      obtain ⟨hxm, hx2⟩ := hx
      obtain ⟨m, hm, hme⟩ := List.getElem_of_mem hxm
      have hx3 : ¬ b = a ∧ cs[i].2[m].2 = false := by rw [hme, ← hxb]; simpa using hx2
      have hmb : cs[i].2[m].1 = b := by rw [hme]; exact hxb
      obtain ⟨q1, q2⟩ := leg_of h hi hm
      rw [hmb] at q1 q2
      have hgm : cs[i].2.getD m (0, false) = cs[i].2[m] := by simp [List.getElem?_eq_getElem hm]
      have hb1 : hears cs b = others b cs[i].2 := by
        simp only [hears, q2, hg, heldAt, q1, hgm, hpk.1, hx3.2, Bool.or_false, Bool.false_eq_true, if_false]
      refine ⟨(cs[i].2.filter fun x => !x.2).map (·.1), (List.Sublist.map _ List.filter_sublist).nodup (legs_nodup h hi), List.mem_map.2 ⟨cs[i].2[k], List.mem_filter.2 ⟨List.getElem_mem hk, by simp [hpk.2]⟩, hka⟩, List.mem_map.2 ⟨cs[i].2[m], List.mem_filter.2 ⟨List.getElem_mem hm, by simp [hx3.2]⟩, hmb⟩, ?_, ?_⟩
      · rw [ha2, others_eq]
      · rw [hb1, others_eq]
theorem sum_erase {l : List Int} (hn : l.Nodup) {a : Int} (ha : a ∈ l) (f : Int → Int) : sumI ((l.filter fun x => !(x == a)).map f) + f a = sumI (l.map f) := by
  have e : l.filter (fun x => !(x == a)) = l.erase a := by rw [hn.erase_eq_filter]; rfl
  rw [e, sumI_perm ((List.perm_cons_erase ha).map f), List.map_cons, sumI]
  omega
/-- what a line hears -/
def heardSum (cs : Calls2) (lev : List Int) (a : Int) : Int := sumI ((hears cs a).map (lv lev))
theorem sum_diff {n : Int} {cs : Calls2} (h : POk n cs) {a b : Int} (hb : b ∈ hears cs a) (lev : List Int) : heardSum cs lev a - heardSum cs lev b = lv lev b - lv lev a := by
  obtain ⟨F, h1, h2, h3, h4, h5⟩ := hears_form h hb
  have e1 := sum_erase h1 h2 (lv lev)
  have e2 := sum_erase h1 h3 (lv lev)
  rw [heardSum, heardSum, h4, h5]
  omega
theorem clip_bd (x : Int) : -32767 ≤ clip x ∧ clip x ≤ 32767 := by unfold clip; split <;> (try split) <;> omega
theorem clip_in {x : Int} (h1 : -32767 < clip x) (h2 : clip x < 32767) : clip x = x := by
  unfold clip at *; split at h1 <;> (try split at h1) <;> (try split) <;> (try split) <;> omega
theorem mixed_at (cs : Calls2) (lev : List Int) (j : Nat) (i : Nat) (h : i < j) : (mixedTo cs lev j)[i]? = some (clip (heardSum cs lev i)) := by
  simp [mixedTo, heardSum, List.getElem?_range h]
theorem mixed_diff {n : Int} {cs : Calls2} (h : POk n cs) {a b : Int} (hb : b ∈ hears cs a) (lev : List Int) (ha1 : -32767 < clip (heardSum cs lev a) ∧ clip (heardSum cs lev a) < 32767) (hb1 : -32767 < clip (heardSum cs lev b) ∧ clip (heardSum cs lev b) < 32767) :
    clip (heardSum cs lev a) - clip (heardSum cs lev b) = lv lev b - lv lev a := by
  rw [clip_in ha1.1 ha1.2, clip_in hb1.1 hb1.2]; exact sum_diff h hb lev
theorem small_mix : mixedTo smallC [5, -7] 2 = [-7, 5] := by decide
theorem abs_c (x : Int) (hx : -1000000 ≤ x ∧ x ≤ 1000000) (w : World) : Calls Try.prog 30 #[.int .i64 x] w fun e w' => e = .returned (.int .i64 (if x < 0 then -x else x)) ∧ w' = w := by
  by_cases h : x < 0
  · go_enter Try.func30, Try.ntmps30
    go_wp2
    go_ret
    exact ⟨by simp [h], rfl⟩
  · go_enter Try.func30, Try.ntmps30
    go_wp2
    go_ret
    exact ⟨by simp [h], rfl⟩
end Go.Proofs.Ytcbeaimpmjljjaa
