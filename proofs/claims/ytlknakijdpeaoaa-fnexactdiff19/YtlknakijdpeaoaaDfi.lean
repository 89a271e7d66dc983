/- Diff19, the program's, by its contract; no condition. -/
import Derived.Test.YtlknakijdpeaoaaBld
namespace Go.Proofs.Ytlknakijdpeaoaa
open Go.RowKit Go.ChangeShapes Go.WideShapes Go.ChangeAt
set_option linter.unusedVariables false
set_option linter.unusedSimpArgs false
set_option maxRecDepth 8000

theorem Bd.below {B b : Nat} {bs : List UInt8} {W W' : World} (h : Bd B b bs W) (hb : Below W.heap.size W W') : Bd B b bs W' := by
  obtain ⟨p, v, hk, hp, ho, hn⟩ := h.blk
  exact ⟨p, v, hk.below hb hk.lt, hp, World.ownsRow.kept (row := none) ho ⟨hb.os, hb.tape, hb.output, hb.size, fun j hj _ => hb.block j hj⟩ (by cases v.ownBlock <;> simp), hn⟩
theorem len_sB {ls : Ses} (h : sB ls = true) : ls.length ≤ 40 := by
  unfold sB at h
  simp at h
  exact h.1

theorem fd_none {ls : Ses} {x : ByteArray} : fd ls x = none ↔ ∀ r ∈ ls, r.nm ≠ x := by
  unfold fd
  rw [Option.map_eq_none_iff, List.find?_eq_none]
  constructor
  · intro h r hr; simpa using h r hr
  · intro h r hr; simpa using h r hr
theorem fd_some {ls : Ses} {x : ByteArray} (ha : Srt ls) {i : Nat} (hi : i < ls.length) (hx : ls[i].nm = x) : fd ls x = some ls[i].vl := by
  induction ls generalizing i with
  | nil => simp at hi
  | cons r l ih =>
    cases i with
    | zero => exact fd_hd hx
    | succ i =>
      have hp := List.pairwise_cons.1 ha
      have hil : i < l.length := by simpa using hi
      have hne : r.nm ≠ x := by
        intro e
        have h1 := hp.1 (l[i]'hil) (List.getElem_mem hil)
        have h2 : (l[i]'hil).nm = x := hx
        rw [e, h2] at h1
        exact absurd h1 (by simp [bl, bL_irr])
      rw [fd_tl hne]
      exact ih hp.2 hil hx
/-- what valueOf answers, by fd -/
theorem vo_fd {ls : Ses} {x v : ByteArray} {q : Bool} (ha : Srt ls) (h : (q = true ∧ ∃ i, ∃ h : i < ls.length, ls[i].nm = x ∧ v = ls[i].vl) ∨ (q = false ∧ v = ⟨#[]⟩ ∧ ∀ r ∈ ls, r.nm ≠ x)) : (q = true ∧ fd ls x = some v) ∨ (q = false ∧ fd ls x = none) := by
  rcases h with ⟨hq, i, hi, hx, rfl⟩ | ⟨hq, -, hn⟩
  · exact .inl ⟨hq, fd_some ha hi hx⟩
  · exact .inr ⟨hq, fd_none.2 hn⟩
theorem row_strs {B : Nat} {W : World} {v : Value} {l : List ByteArray} (h : W.ownsRow B 9 1 v l.length (l.map Value.string)) : ∃ a cap, v = .slice a l.length cap ∧ (l = [] ∨ ∃ g, a = some ⟨g, 0, none⟩ ∧ B ≤ g ∧ ∃ cur, W.heap[g]? = some (.cells cur 9 (0, 0)) ∧ ∀ i (h : i < l.length), W.cell? ⟨g, i, none⟩ = some (.string l[i])) := by
  rcases h.2 with ⟨rfl, hz⟩ | ⟨g, cap, cur, rfl, hg, hb, _⟩
  · exact ⟨none, 0, by rw [hz], .inl (List.eq_nil_of_length_eq_zero hz)⟩
  · refine ⟨_, cap, rfl, .inr ⟨g, rfl, hg, cur, hb, fun i hi => ?_⟩⟩
    have h0 := World.ownsRow.cellAt h i (by simpa using hi)
    rw [h0]
    simp [hi]
theorem ba_sz (b : ByteArray) : b.data.toList.length = b.size := by simp
set_option maxHeartbeats 12800000 in
theorem diffI_c (v v' : Value) (xs ys : Ses) (w : World) (h : Rs w v xs) (h' : Rs w v' ys) (hsz : ∀ r ∈ xs, r.nm.size ≤ 1048576 ∧ r.vl.size ≤ 1048576) (hln : xs.length ≤ 1048576) (hsz' : ∀ r ∈ ys, r.nm.size ≤ 1048576 ∧ r.vl.size ≤ 1048576) (hln' : ys.length ≤ 1048576) :
    Calls Try.prog 21 #[v, v'] w fun e w' => e = .returned (.string (dfS xs ys)) ∧ Below w.heap.size w w' := by
  have hm := setI_c v xs w h hsz hln
  have HR : Hid (Rs w v xs) := h
  have HR' : Hid (Rs w v' ys) := h'
  have HM' : Hid (∀ W, Below w.heap.size w W → Calls Try.prog 18 #[v'] W fun e w' => e = .returned (.bool (sB ys)) ∧ Below W.heap.size W w') := fun W hb => setI_c v' ys W (h'.below hb) hsz' hln'
  have HM : Hid (Calls Try.prog 18 #[v] w fun e w' => e = .returned (.bool (sB xs)) ∧ Below w.heap.size w w') := hm
  have HSZ : Hid ((∀ r ∈ xs, r.nm.size ≤ 1048576 ∧ r.vl.size ≤ 1048576) ∧ ∀ r ∈ ys, r.nm.size ≤ 1048576 ∧ r.vl.size ≤ 1048576) := ⟨hsz, hsz'⟩
  clear hm
  obtain ⟨a1, p1, rfl, -⟩ := h
  obtain ⟨a2, p2, rfl, -⟩ := h'
  cases hS : sB xs with
  | false =>
    have HS : Hid (sB xs = false) := hS
    clear hS hsz hsz' hln hln'
    go_enter Try.func21, Try.ntmps21
    go_wp2_with (fail)
    refine HM.out.mono ?_
    rintro e w1 ⟨rfl, b1⟩
    rw [HS.out]
    have HB : Hid (Below w.heap.size w w1) := b1
    clear b1
    go_wp2
    go_ret
    exact ⟨by unfold dfS; rw [HS.out]; rfl, HB.out⟩
  | true =>
  cases hS' : sB ys with
  | false =>
    have HS : Hid (sB xs = true) := hS
    have HS' : Hid (sB ys = false) := hS'
    clear hS hS' hsz hsz' hln hln'
    go_enter Try.func21, Try.ntmps21
    go_wp2_with (fail)
    refine HM.out.mono ?_
    rintro e w1 ⟨rfl, b1⟩
    rw [HS.out]
    have HB : Hid (Below w.heap.size w w1) := b1
    clear b1
    go_wp2_with (fail)
    refine (HM'.out w1 HB.out).mono ?_
    rintro e w2 ⟨rfl, b2⟩
    rw [HS'.out]
    have HB2 : Hid (Below w.heap.size w w2) := belowCall HB.out b2 HB.out.size
    clear b2
    go_wp2
    go_ret
    exact ⟨by unfold dfS; rw [HS.out, HS'.out]; rfl, HB2.out⟩
  | true =>
  have HS : Hid (sB xs = true) := hS
  have HS' : Hid (sB ys = true) := hS'
  have HSR : Hid (Srt xs ∧ Srt ys) := ⟨srt_of (asc_sB hS), srt_of (asc_sB hS')⟩
  have HA : Hid (Asc xs ∧ Asc ys) := ⟨asc_sB hS, asc_sB hS'⟩
  have HL : Hid (xs.length ≤ 40 ∧ ys.length ≤ 40) := ⟨len_sB hS, len_sB hS'⟩
  obtain ⟨N, hN⟩ : ∃ N, nmB ((xs ++ ys).map (·.nm)) = N := ⟨_, rfl⟩
  have HD : Hid (dm xs ys = N.flatMap (pc xs ys)) := by
    rw [← hN]
    refine dm_names HSR.out.1 HSR.out.2 (nmB_pair _) fun x => ?_
    rw [nmB_mem, List.map_append, List.mem_append, List.mem_map, List.mem_map]
  have HNL : Hid (N.length ≤ 80 ∧ ∀ x ∈ N, x.size ≤ 1048576) := by
    rw [← hN]
    refine ⟨Nat.le_trans (nmB_len _) (by have := HL.out; simp; omega), fun x hx => ?_⟩
    rw [nmB_mem, List.mem_map] at hx
    obtain ⟨r, hr, rfl⟩ := hx
    rcases List.mem_append.1 hr with hr | hr
    · exact (HSZ.out.1 r hr).1
    · exact (HSZ.out.2 r hr).1
  have HNM : Hid (∀ W, Below w.heap.size w W → Calls Try.prog 37 #[.slice a1 xs.length p1, .slice a2 ys.length p2] W fun e w' => ∃ v, e = .returned v ∧ w'.ownsRow W.heap.size 9 1 v N.length (N.map Value.string) ∧ Below W.heap.size W w') := by
    rw [← hN]
    exact fun W hb => names_c _ _ xs ys W (HR.out.below hb) (HR'.out.below hb) HL.out.1 HL.out.2
  clear hS hS' hsz hsz' hln hln' hN
  go_enter Try.func21, Try.ntmps21
  go_wp2_with (fail)
  refine HM.out.mono ?_
  rintro e w1 ⟨rfl, b1⟩
  rw [HS.out]
  have HB : Hid (Below w.heap.size w w1) := b1
  clear b1
  go_wp2_with (fail)
  refine (HM'.out w1 HB.out).mono ?_
  rintro e w2 ⟨rfl, b2⟩
  rw [HS'.out]
  have HB2 : Hid (Below w.heap.size w w2) := belowCall HB.out b2 HB.out.size
  clear b2 HB
  obtain ⟨b, hb⟩ : ∃ b, w2.heap.size = b := ⟨_, rfl⟩
  obtain ⟨w3, hw3⟩ : ∃ W, w2.alloc (Obj.cells #[.pointer none, .slice none 0 0] 61) = W := ⟨_, rfl⟩
  have HB3 : Hid (Below w.heap.size w w3) := by rw [← hw3]; exact HB2.out.alloc HB2.out.size _
  have HK3 : Hid (Blk w3 b #[.pointer none, .slice none 0 0] 61) := by rw [← hw3, ← hb]; exact Blk.new _ _ _
  have HW3 : Hid (w2.alloc (Obj.cells #[.pointer none, .slice none 0 0] 61) = w3 ∧ w2.heap.size = b) := ⟨hw3, hb⟩
  have HBB : Hid (w.heap.size ≤ b) := by rw [← hb]; exact HB2.out.size
  clear hw3 hb HB2
  go_wp2_with (fail)
  rw [HW3.out.1, HW3.out.2]
  clear HW3
  refine (HNM.out w3 HB3.out).mono ?_
  rintro e w4 ⟨vn, rfl, o4, b4⟩
  have HB4 : Hid (Below w.heap.size w w4) := HB3.out.trans (b4.mono HB3.out.size)
  have HK4 : Hid (Blk w4 b #[.pointer none, .slice none 0 0] 61) := HK3.out.below b4 HK3.out.lt
  obtain ⟨an, cn, rfl, h3⟩ := row_strs o4
  have HLT : Hid (b < w4.heap.size) := HK4.out.lt
  clear o4 b4 HNM HM HM' HB3 HK3
  go_wp2
  go_loopw [24] (fun i wr => ∃ j : Nat, j ≤ N.length ∧ i = .int .i64 j ∧ Hid (Bd w4.heap.size b ((N.take j).flatMap (pc xs ys)) wr) ∧ Hid (Bx w4.heap.size b w4 wr) ∧ Hid (w4.heap.size ≤ wr.heap.size) ∧ Hid (((N.take j).flatMap (pc xs ys)).length ≤ j * 3145740)) (fun i _ => N.length - (intOf i).toNat)
  case atStart =>
    refine ⟨0, Nat.zero_le _, rfl, ⟨_, _, HK4.out, .inl rfl, World.ownsRow_nil _ _ _ _, fun _ => rfl⟩, Bx.refl _ _ _, Nat.le_refl _, ?_⟩
    show _ ≤ _
    simp
  case round =>
    obtain ⟨j, hj, rfl, HBD, HBX, HSZW, HLN⟩ := hrel
    by_cases hlt : j < N.length
    case neg =>
      obtain rfl : j = N.length := by omega
      have hbd := HBD.out
      rw [List.take_length, ← HD.out] at hbd
      have HBD2 : Hid (Bd w4.heap.size b (dm xs ys) wr) := hbd
      have HBW : Hid (Below w.heap.size w wr) := HB4.out.trans (HBX.out.below HB4.out.size HBB.out)
      clear hbd h3
      go_wp2_with (fail)
      refine (str_c _ b _ w wr w.heap.size HBD2.out HB4.out.size HBB.out HBW.out).mono ?_
      rintro e w5 ⟨rfl, b5⟩
      have HF : Hid (Below w.heap.size w w5) := b5
      clear b5
      go_wp2
      go_ret
      exact ⟨by unfold dfS; rw [HS.out, HS'.out]; rfl, HF.out⟩
    case pos =>
    rcases h3 with h3 | ⟨g, rfl, hg, cur, hcu, hc⟩
    · subst h3; simp at hlt
    have hgb : g ≠ b := by
      rintro rfl
      have h1 : w4.heap[g]? = some (.cells #[.pointer none, .slice none 0 0] 61 (0, 0)) := HK4.out
      rw [hcu] at h1
      cases h1
    have hgl : g < w4.heap.size := by
      rcases Nat.lt_or_ge g w4.heap.size with h' | h'
      · exact h'
      · simp [Array.getElem?_eq_none h'] at hcu
    obtain ⟨x, hx⟩ : ∃ x, N[j] = x := ⟨_, rfl⟩
    have hcx := hc j hlt
    rw [hx] at hcx
    have c0 : wr.cell? ⟨g, j, none⟩ = some (.string x) := (HBX.out.cell hgl hgb).trans hcx
    have HXS : Hid (x.size ≤ 1048576) := HNL.out.2 x (by rw [← hx]; exact List.getElem_mem hlt)
    have hjI : (j : Int) < (N.length : Int) := by omega
    have HTK : Hid ((N.take (j + 1)).flatMap (pc xs ys) = (N.take j).flatMap (pc xs ys) ++ pc xs ys x) := by
      show _ = _
      rw [List.take_succ_eq_append_getElem hlt, List.flatMap_append, hx]
      simp
    have HJ : Hid (j < 80) := by have := HNL.out.1; show j < 80; omega
    have HR1 : Hid (Rs wr (.slice a1 xs.length p1) xs) := HR.out.below (HB4.out.trans (HBX.out.below HB4.out.size HBB.out))
    have HR2 : Hid (Rs wr (.slice a2 ys.length p2) ys) := HR'.out.below (HB4.out.trans (HBX.out.below HB4.out.size HBB.out))
    clear hc hcu hcx hx
    go_wp2_with (fail)
    refine (valueOf_c _ xs x wr HR1.out HA.out.1 (by have := HL.out; omega)).mono ?_
    rintro e w5 ⟨o, q, rfl, hq, b5⟩
    have HQ : Hid ((q = true ∧ fd xs x = some o) ∨ (q = false ∧ fd xs x = none)) := vo_fd HSR.out.1 hq
    have HX5 : Hid (Bx w4.heap.size b w4 w5 ∧ w4.heap.size ≤ w5.heap.size) := ⟨HBX.out.trans (.of (b5.mono HSZW.out)), Nat.le_trans HSZW.out b5.size⟩
    have HD5 : Hid (Bd w4.heap.size b ((N.take j).flatMap (pc xs ys)) w5) := HBD.out.below b5
    have HR5 : Hid (Rs w5 (.slice a2 ys.length p2) ys) := HR2.out.below b5
    clear b5 hq HBD HBX HR1 HR2 c0
    go_wp2_with (fail)
    refine (valueOf_c _ ys x w5 HR5.out HA.out.2 (by have := HL.out; omega)).mono ?_
    rintro e w6 ⟨nv, q', rfl, hq', b6⟩
    have HQ' : Hid ((q' = true ∧ fd ys x = some nv) ∨ (q' = false ∧ fd ys x = none)) := vo_fd HSR.out.2 hq'
    have HVL : Hid (nv.size ≤ 1048576) := by
      rcases hq' with ⟨-, i, hi, -, rfl⟩ | ⟨-, rfl, -⟩
      · exact (HSZ.out.2 _ (List.getElem_mem hi)).2
      · show _ ≤ _; decide
    have HX6 : Hid (Bx w4.heap.size b w4 w6 ∧ w4.heap.size ≤ w6.heap.size) := ⟨HX5.out.1.trans (.of (b6.mono HX5.out.2)), Nat.le_trans HX5.out.2 b6.size⟩
    have HD6 : Hid (Bd w4.heap.size b ((N.take j).flatMap (pc xs ys)) w6) := HD5.out.below b6
    clear b6 hq' HX5 HD5 HR5 HSZW
    have hx1 : x.size ≤ 1048576 := HXS.out
    have hv1 : nv.size ≤ 1048576 := HVL.out
    rcases HQ'.out with ⟨rfl, hy⟩ | ⟨rfl, hy⟩
    case inr =>
      have HP : Hid (pc xs ys x = [117, 110, 115, 101, 116, 32] ++ x.data.toList ++ [10]) := by
        show _ = _
        unfold pc; rw [hy]; rfl
      clear hy HQ' HQ
      obtain ⟨S, hS⟩ : ∃ S, ({ data := #[117, 110, 115, 101, 116, 32] } ++ x ++ { data := #[10] } : ByteArray) = S := ⟨_, rfl⟩
      have HE : Hid (({ data := #[117, 110, 115, 101, 116, 32] } ++ x ++ { data := #[10] } : ByteArray) = S) := hS
      have HSS : Hid (S.data.toList = [117, 110, 115, 101, 116, 32] ++ x.data.toList ++ [10] ∧ S.size ≤ 2097200 ∧ 0 < S.size) := by
        rw [← hS]
        have e : ({ data := #[117, 110, 115, 101, 116, 32] } ++ x ++ { data := #[10] } : ByteArray).data.toList = [117, 110, 115, 101, 116, 32] ++ x.data.toList ++ [10] := by simp
        have l := congrArg List.length e
        rw [ba_sz] at l
        simp only [List.length_append, List.length_cons, List.length_nil, ba_sz] at l
        exact ⟨e, by omega, by omega⟩
      clear hS
      go_wp2_with (fail)
      rw [HE.out]
      refine (wrt_c _ b _ S w4 w6 HD6.out HX6.out.1 HLT.out HX6.out.2 (by have h1 := HLN.out; have h2 := HJ.out; have h3 := HSS.out; omega) HSS.out.2.2).mono ?_
      rintro e w7 ⟨rfl, hd, hx7, hs7⟩
      have HF : Hid (Bd w4.heap.size b ((N.take (j + 1)).flatMap (pc xs ys)) w7 ∧ Bx w4.heap.size b w4 w7 ∧ w4.heap.size ≤ w7.heap.size ∧ ((N.take (j + 1)).flatMap (pc xs ys)).length ≤ (j + 1) * 3145740) := by
        have e : (N.take (j + 1)).flatMap (pc xs ys) = (N.take j).flatMap (pc xs ys) ++ S.data.toList := by rw [HTK.out, HP.out, HSS.out.1]
        rw [e]
        refine ⟨hd, hx7, hs7, ?_⟩
        have h1 := HLN.out
        have h2 := HSS.out.2.1
        rw [List.length_append, ba_sz]; omega
      clear hd hx7 hs7 HE HSS
      have hj80 : j < 80 := HJ.out
      go_wp2
      go_roundw
      case rel => exact ⟨j + 1, by omega, by go_num, HF.out.1, HF.out.2.1, HF.out.2.2.1, HF.out.2.2.2⟩
      case measure => simp [intOf]; omega
    case inl =>
    rcases HQ.out with ⟨rfl, ho⟩ | ⟨rfl, ho⟩
    case inr =>
      have HP : Hid (pc xs ys x = [115, 101, 116, 32] ++ x.data.toList ++ [32] ++ nv.data.toList ++ [10]) := by
        show _ = _
        unfold pc; rw [hy, ho]; rfl
      clear hy ho HQ' HQ
      obtain ⟨S, hS⟩ : ∃ S, ({ data := #[115, 101, 116, 32] } ++ x ++ { data := #[32] } ++ nv ++ { data := #[10] } : ByteArray) = S := ⟨_, rfl⟩
      have HE : Hid (({ data := #[115, 101, 116, 32] } ++ x ++ { data := #[32] } ++ nv ++ { data := #[10] } : ByteArray) = S) := hS
      have HSS : Hid (S.data.toList = [115, 101, 116, 32] ++ x.data.toList ++ [32] ++ nv.data.toList ++ [10] ∧ S.size ≤ 2097200 ∧ 0 < S.size) := by
        rw [← hS]
        have e : ({ data := #[115, 101, 116, 32] } ++ x ++ { data := #[32] } ++ nv ++ { data := #[10] } : ByteArray).data.toList = [115, 101, 116, 32] ++ x.data.toList ++ [32] ++ nv.data.toList ++ [10] := by simp
        have l := congrArg List.length e
        rw [ba_sz] at l
        simp only [List.length_append, List.length_cons, List.length_nil, ba_sz] at l
        exact ⟨e, by omega, by omega⟩
      clear hS
      go_wp2_with (fail)
      rw [HE.out]
      refine (wrt_c _ b _ S w4 w6 HD6.out HX6.out.1 HLT.out HX6.out.2 (by have h1 := HLN.out; have h2 := HJ.out; have h3 := HSS.out; omega) HSS.out.2.2).mono ?_
      rintro e w7 ⟨rfl, hd, hx7, hs7⟩
      have HF : Hid (Bd w4.heap.size b ((N.take (j + 1)).flatMap (pc xs ys)) w7 ∧ Bx w4.heap.size b w4 w7 ∧ w4.heap.size ≤ w7.heap.size ∧ ((N.take (j + 1)).flatMap (pc xs ys)).length ≤ (j + 1) * 3145740) := by
        have e : (N.take (j + 1)).flatMap (pc xs ys) = (N.take j).flatMap (pc xs ys) ++ S.data.toList := by rw [HTK.out, HP.out, HSS.out.1]
        rw [e]
        refine ⟨hd, hx7, hs7, ?_⟩
        have h1 := HLN.out
        have h2 := HSS.out.2.1
        rw [List.length_append, ba_sz]; omega
      clear hd hx7 hs7 HE HSS
      have hj80 : j < 80 := HJ.out
      go_wp2
      go_roundw
      case rel => exact ⟨j + 1, by omega, by go_num, HF.out.1, HF.out.2.1, HF.out.2.2.1, HF.out.2.2.2⟩
      case measure => simp [intOf]; omega
    case inl =>
    by_cases hov : o = nv
    case neg =>
      have HP : Hid (pc xs ys x = [115, 101, 116, 32] ++ x.data.toList ++ [32] ++ nv.data.toList ++ [10]) := by
        show _ = _
        unfold pc; rw [hy, ho]
        simp only [Option.some.injEq, if_neg hov]
        rfl
      have hne : (o.toList != nv.toList) = true := by
        rw [bne_iff_ne]
        intro e
        exact hov (toL_inj e)
      have hne2 : (o.toList == nv.toList) = false := by simpa using hne
      have hne3 : ¬ o.toList = nv.toList := by simpa using hne
      have hne4 : ¬ o = nv := hov
      clear hy ho HQ' HQ hov
      obtain ⟨S, hS⟩ : ∃ S, ({ data := #[115, 101, 116, 32] } ++ x ++ { data := #[32] } ++ nv ++ { data := #[10] } : ByteArray) = S := ⟨_, rfl⟩
      have HE : Hid (({ data := #[115, 101, 116, 32] } ++ x ++ { data := #[32] } ++ nv ++ { data := #[10] } : ByteArray) = S) := hS
      have HSS : Hid (S.data.toList = [115, 101, 116, 32] ++ x.data.toList ++ [32] ++ nv.data.toList ++ [10] ∧ S.size ≤ 2097200 ∧ 0 < S.size) := by
        rw [← hS]
        have e : ({ data := #[115, 101, 116, 32] } ++ x ++ { data := #[32] } ++ nv ++ { data := #[10] } : ByteArray).data.toList = [115, 101, 116, 32] ++ x.data.toList ++ [32] ++ nv.data.toList ++ [10] := by simp
        have l := congrArg List.length e
        rw [ba_sz] at l
        simp only [List.length_append, List.length_cons, List.length_nil, ba_sz] at l
        exact ⟨e, by omega, by omega⟩
      clear hS
      go_wp2_with (fail)
      rw [HE.out]
      refine (wrt_c _ b _ S w4 w6 HD6.out HX6.out.1 HLT.out HX6.out.2 (by have h1 := HLN.out; have h2 := HJ.out; have h3 := HSS.out; omega) HSS.out.2.2).mono ?_
      rintro e w7 ⟨rfl, hd, hx7, hs7⟩
      have HF : Hid (Bd w4.heap.size b ((N.take (j + 1)).flatMap (pc xs ys)) w7 ∧ Bx w4.heap.size b w4 w7 ∧ w4.heap.size ≤ w7.heap.size ∧ ((N.take (j + 1)).flatMap (pc xs ys)).length ≤ (j + 1) * 3145740) := by
        have e : (N.take (j + 1)).flatMap (pc xs ys) = (N.take j).flatMap (pc xs ys) ++ S.data.toList := by rw [HTK.out, HP.out, HSS.out.1]
        rw [e]
        refine ⟨hd, hx7, hs7, ?_⟩
        have h1 := HLN.out
        have h2 := HSS.out.2.1
        rw [List.length_append, ba_sz]; omega
      clear hd hx7 hs7 HE HSS
      have hj80 : j < 80 := HJ.out
      go_wp2
      go_roundw
      case rel => exact ⟨j + 1, by omega, by go_num, HF.out.1, HF.out.2.1, HF.out.2.2.1, HF.out.2.2.2⟩
      case measure => simp [intOf]; omega
    case pos =>
      subst hov
      have HF : Hid (Bd w4.heap.size b ((N.take (j + 1)).flatMap (pc xs ys)) w6 ∧ ((N.take (j + 1)).flatMap (pc xs ys)).length ≤ (j + 1) * 3145740) := by
        have e : (N.take (j + 1)).flatMap (pc xs ys) = (N.take j).flatMap (pc xs ys) := by
          rw [HTK.out]
          unfold pc; rw [hy, ho]
          show _ ++ (if some o = some o then [] else _) = _
          rw [if_pos rfl, List.append_nil]
        rw [e]
        exact ⟨HD6.out, Nat.le_trans HLN.out (Nat.mul_le_mul_right _ (Nat.le_succ j))⟩
      have hne : (o.toList != o.toList) = false := by
        generalize o.toList = l
        exact bne_self_eq_false l
      clear hy ho HQ' HQ
      have hj80 : j < 80 := HJ.out
      go_wp2
      go_roundw
      case rel => exact ⟨j + 1, by omega, by go_num, HF.out.1, HX6.out.1, HX6.out.2, HF.out.2⟩
      case measure => simp [intOf]; omega

end Go.Proofs.Ytlknakijdpeaoaa
