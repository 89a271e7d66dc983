/- FnOneCall; no condition. -/
import Derived.Test.YtcbeaimpmjljjaaOMath
import Derived.Test.YtcbeaimpmjljjaaHeardL
import Derived.Test.YtcbeaimpmjljjaaOpenP
import Derived.Test.YtcbeaimpmjljjaaOpen
namespace Go.Proofs.Ytcbeaimpmjljjaa
open Go.RowKit Go.ChangeShapes Go.WideShapes Go.ChangeAt
set_option linter.unusedVariables false
set_option linter.unusedSimpArgs false
set_option maxRecDepth 8000
structure Hsu (w w1 : World) (n : Int) (V : Value) (cs : Calls2) (P : Nat) (W : World) : Prop where
  st : Hst w n V cs P W
  b1 : Below w1.heap.size w1 W
theorem Hsu.below {w w1 W W' : World} {n : Int} {V : Value} {cs : Calls2} {P : Nat} (h : Hsu w w1 n V cs P W) (b : Below W.heap.size W W') : Hsu w w1 n V cs P W' := ⟨h.st.below b, belowCall h.b1 b h.b1.size⟩
theorem at0_c (v : Value) (zs : List Int) (w : World) (h : Rd .u8 w v zs) (hok : ∀ z ∈ zs, 0 ≤ z ∧ z ≤ 255) (hlen : zs.length ≤ 1048576) :
   Calls Try.prog 23 #[v, .int .i64 0] w fun e w' => e = .returned (.int .i64 (zs.getD 0 0)) ∧ Below w.heap.size w w' := by
  obtain ⟨a, cap, rfl, h1, h2, h3⟩ := h
  unfold maxLen at h2
  by_cases hlt : 0 < zs.length
  · rcases h3 with h3 | ⟨b, off, rfl, h4⟩
    · subst h3; simp at hlt
    have hc : w.cell? ⟨b, off, none⟩ = some (.int .u8 (zs.getD 0 0)) := h4 0 hlt
    have hb : 0 ≤ zs.getD 0 0 ∧ zs.getD 0 0 ≤ 255 := by
      have := hok _ (List.getElem_mem hlt)
      simpa [List.getElem?_eq_getElem hlt] using this
    have hltI : (0 : Int) < (zs.length : Int) := by omega
    generalize zs.getD 0 0 = z at hc hb
    clear h4 hok
    go_enter Try.func23, Try.ntmps23
    go_wp2
    go_ret
    exact ⟨rfl, Below.refl _ _⟩
  · obtain rfl : zs = [] := by cases zs <;> simp_all
    clear h3 hok
    go_enter Try.func23, Try.ntmps23
    go_wp2
    go_ret
    exact ⟨rfl, Below.refl _ _⟩
set_option maxHeartbeats 3200000 in
theorem law4 (v : Value) (zs : List Int) (w : World) (h : Rd .u8 w v zs) (hwz : ∀ z ∈ zs, (Lit.int .u8 z).wf = true) :
   Calls Try.prog 4 #[v] w fun e w' => e = .returned (.bool true) ∧ Below w.heap.size w w' := by
  have hz : ∀ z ∈ zs, 0 ≤ z ∧ z ≤ 255 := fun z hm => bounds_u8 (hwz z hm)
  clear hwz
  obtain ⟨a, cap, hv, h1, h2, h3⟩ := id h
  subst hv
  clear h3
  unfold maxLen at h2
  by_cases hbig : 1048576 < zs.length
  · have hb : decide ((1048576 : Int) < (zs.length : Int)) = true := by simp; omega
    clear hz h
    go_enter Try.func4, Try.ntmps4
    go_wp2
    go_ret
    exact ⟨rfl, Below.refl _ _⟩
  · have hb : decide ((1048576 : Int) < (zs.length : Int)) = false := by simp; omega
    have hlen : zs.length ≤ 1048576 := by omega
    have HZ : Hid (∀ z ∈ zs, 0 ≤ z ∧ z ≤ 255) := hz
    have HR : Hid (Rd .u8 w (.slice a zs.length cap) zs) := h
    clear hz
    go_enter Try.func4, Try.ntmps4
    go_wp2_with (go_at_call 13; go_in)
    refine (drawOk_c _ zs _ h HZ.out hlen).mono ?_
    rintro e w1 ⟨n, V, cs, rfl, r1, l1, b1⟩
    obtain ⟨lv, hlv, hrp, hca⟩ := id r1
    obtain ⟨a2, c2, hV, v1, v2, v3⟩ := hrp
    rw [hlv] at hV
    subst hV
    have HLV : Hid (lv.length = cs.length) := hlv
    have HC : Hid (∀ i (h : i < cs.length), ∃ b off ai ci, a2 = some ⟨b, off, none⟩ ∧ w1.cell? ⟨b, off + i * 2 + 1, none⟩ = some (.slice ai cs[i].2.length ci) ∧ cs[i].2.length ≤ ci ∧ ci ≤ maxLen ∧ (cs[i].2 = [] ∨ ∃ b' off', ai = some ⟨b', off', none⟩ ∧ ∀ k (h' : k < cs[i].2.length), w1.cell? ⟨b', off' + k * 2, none⟩ = some (.int .i64 cs[i].2[k].1))) := fun i h => by
      rcases v3 with v3 | ⟨b, off, rfl, v4⟩
      · subst v3; simp at hlv; omega
      · obtain ⟨q1, ai, ci, q2, q3, q4, q5⟩ := hca i h (by omega)
        refine ⟨b, off, ai, ci, rfl, by rw [(v4 i (by omega)).2, q2], q3, q4, ?_⟩
        rcases q5 with q5 | ⟨b', off', rfl, q6⟩
        · exact .inl q5
        · exact .inr ⟨b', off', rfl, fun k hk => (q6 k hk).1⟩
    clear hca v3 hlv
    have bW : Below w1.heap.size w1 (w1.alloc (Obj.cells #[Value.int IntKind.i64 n, Value.slice a2 cs.length c2] 26)) := (Below.refl _ _).alloc (Nat.le_refl _) _
    have kp : Blk (w1.alloc (Obj.cells #[Value.int IntKind.i64 n, Value.slice a2 cs.length c2] 26)) w1.heap.size #[.int .i64 n, .slice a2 cs.length c2] 26 := Blk.new _ _ _
    obtain ⟨P, hP⟩ : ∃ P, P = w1.heap.size := ⟨_, rfl⟩
    have HPP : Hid (P = w1.heap.size) := hP
    obtain ⟨W1, hW1⟩ : ∃ W1, w1.alloc (Obj.cells #[Value.int IntKind.i64 n, Value.slice a2 cs.length c2] 26) = W1 := ⟨_, rfl⟩
    have HW1 : Hid (w1.alloc (Obj.cells #[Value.int IntKind.i64 n, Value.slice a2 cs.length c2] 26) = W1) := hW1
    have BW : Hid (Below w1.heap.size w1 W1) := hW1 ▸ bW
    have S1 : Hid (Hst w n (.slice a2 cs.length c2) cs P W1) := ⟨hW1 ▸ belowCall b1 bW b1.size, hW1 ▸ hP ▸ kp, hW1 ▸ r1.below bW⟩
    have HL : Hid (Lim 50 20 cs) := l1
    clear h bW kp r1 l1 b1 hP hW1
    go_wp2_with fail
    rw [HW1.out, ← HPP.out]
    refine (ok_c n _ cs _ S1.out.rd).mono ?_
    rintro e w6 ⟨r, rfl, hr, b6⟩
    have S6 : Hid (Hst w n (.slice a2 cs.length c2) cs P w6) := S1.out.below b6
    have B6 : Hid (Below w1.heap.size w1 w6) := belowCall BW.out b6 BW.out.size
    clear S1 b6 HPP HW1
    have c0 := S6.out.box.cell 0
    have c1 := S6.out.box.cell 1
    simp at c0 c1
    cases r with
    | false =>
      have HN : Hid (¬ POk n cs) := fun h => by simpa using hr.2 h
      clear hr
      go_wp2_with fail
      refine (one_c n _ cs 0 0 _ S6.out.rd).mono ?_
      rintro e w7 ⟨r, rfl, hr, b7⟩
      obtain rfl : r = false := by
        cases r with
        | false => rfl
        | true => exact absurd (hr.1 rfl).1 HN.out
      have S7 : Hid (Hst w n (.slice a2 cs.length c2) cs P w7) := S6.out.below b7
      obtain ⟨W8, hW8⟩ : ∃ W8, (w7.alloc (Obj.cells #[Value.int IntKind.i64 0, Value.bool false, Value.int IntKind.i64 1, Value.bool false] 42)).alloc (Obj.cells #[Value.bool false, Value.slice (some { block := w7.heap.size, off := 0 }) 2 2] 45) = W8 := ⟨_, rfl⟩
      have bW : Below w7.heap.size w7 W8 := hW8 ▸ ((Below.refl _ _).alloc (Nat.le_refl _) _).alloc (by simp) _
      have kl : Blk W8 w7.heap.size #[.int .i64 0, .bool false, .int .i64 1, .bool false] 42 := hW8 ▸ (Blk.new _ _ _).below ((Below.refl _ _).alloc (Nat.le_refl _) _) (by simp)
      have kc : Blk W8 (w7.heap.size + 1) #[.bool false, .slice (some ⟨w7.heap.size, 0, none⟩) 2 2] 45 := hW8 ▸ Blk.newAt _ (w7.heap.size + 1) _ 45 (by simp)
      have RS : Hid (RdC W8 (.slice (some ⟨w7.heap.size + 1, 0, none⟩) 1 1) smallD) := by
        refine ⟨[(.bool false, .slice (some ⟨w7.heap.size, 0, none⟩) 2 2)], rfl, ⟨_, 1, rfl, by simp, by simp [maxLen], .inr ⟨_, 0, rfl, fun i hi => ?_⟩⟩, fun i hi hi' => ?_⟩
        · obtain rfl : i = 0 := Nat.lt_one_iff.1 hi
          exact ⟨kc.cell 0, kc.cell 1⟩
        · obtain rfl : i = 0 := Nat.lt_one_iff.1 hi'
          refine ⟨rfl, _, 2, rfl, Nat.le_refl _, by simp [maxLen], .inr ⟨_, 0, rfl, fun j hj => ?_⟩⟩
          have hj2 : j < 2 := hj
          rcases j with _ | _ | j
          · exact ⟨kl.cell 0, kl.cell 1⟩
          · exact ⟨kl.cell 2, kl.cell 3⟩
          · omega
      have S8 : Hid (Hst w n (.slice a2 cs.length c2) cs P W8) := S7.out.below bW
      have HW8 : Hid ((w7.alloc (Obj.cells #[Value.int IntKind.i64 0, Value.bool false, Value.int IntKind.i64 1, Value.bool false] 42)).alloc (Obj.cells #[Value.bool false, Value.slice (some { block := w7.heap.size, off := 0 }) 2 2] 45) = W8) := hW8
      clear hW8 bW kl kc S6 S7 b7 c0 c1 hr B6
      go_wp2_with fail
      rw [HW8.out]
      refine (one_c 2 _ smallD 0 1 _ RS.out).mono ?_
      rintro e w9 ⟨r, rfl, hr, b9⟩
      obtain rfl : r = true := hr.2 small_one
      have S9 : Hid (Hst w n (.slice a2 cs.length c2) cs P w9) := S8.out.below b9
      clear S8 RS HW8 hr b9
      go_wp2
      go_ret
      exact ⟨rfl, S9.out.bel⟩
    | true =>
      have hok := hr.1 rfl
      clear hr
      have hn1 := hok.1
      have hn2 := hok.2.1
      have HOK : Hid (POk n cs) := hok
      have hcl : cs.length ≤ 40 := hok.len.1
      clear hok
      go_wp2
      go_loop [4, 5] (fun l i => ∃ j : Nat, j ≤ cs.length ∧ i = .int .i64 j ∧ l = .int .i64 (linesTo cs j).length) (fun _ i => cs.length - (intOf i).toNat)
      case atStart => exact ⟨0, Nat.zero_le _, rfl, rfl⟩
      case round =>
        obtain ⟨j, hj, rfl, rfl⟩ := hrel
        have hLj := linesLen_le HL.out j hj
        have hLj2 : (linesTo cs j).length ≤ 1000 := by
          have : j * 20 ≤ 1000 := by omega
          omega
        by_cases hlt : j < cs.length
        · obtain ⟨b, off, ai, ci, rfl, hc1, hc2, hc3, -⟩ := HC.out j hlt
          have hcj : w6.cell? ⟨b, off + j * 2 + 1, none⟩ = some (.slice ai cs[j].2.length ci) := (B6.out.cell (block_lt_of_cell hc1)).trans hc1
          have hi2 : (j : Int) < (cs.length : Int) := by omega
          have hlj : cs[j].2.length ≤ 20 := HL.out.2 _ (List.getElem_mem hlt)
          have HSU : Hid ((linesTo cs (j + 1)).length = (linesTo cs j).length + cs[j].2.length) := linesLen_succ cs j hlt
          clear hc1
          generalize cs[j].2.length = m at hcj hlj HSU hc2
          generalize (linesTo cs j).length = L at hLj2 HSU
          clear hLj
          go_wp2
          go_round
          case rel => exact ⟨j + 1, by omega, by go_num, by rw [HSU.out]; go_num⟩
          case measure => simp [intOf]; omega
        · obtain rfl : j = cs.length := by omega
          obtain ⟨L, hL⟩ : ∃ L, (linesTo cs cs.length).length = L := ⟨_, rfl⟩
          have HLL : Hid ((linesTo cs cs.length).length = L) := hL
          rw [hL] at hLj2 ⊢
          clear hL hLj
          have hz0 : 0 ≤ zs.getD 0 0 ∧ zs.getD 0 0 ≤ 255 := by
            by_cases hzl : 0 < zs.length
            · have := HZ.out _ (List.getElem_mem hzl)
              simpa [List.getElem?_eq_getElem hzl] using this
            · obtain rfl : zs = [] := by cases zs <;> simp_all
              simp
          obtain ⟨x, hx0⟩ : ∃ x, zs.getD 0 0 = x := ⟨_, rfl⟩
          rw [hx0] at hz0
          have HXX : Hid (zs.getD 0 0 = x ∧ True) := ⟨hx0, trivial⟩
          clear hx0
          have S6' : Hid (Hsu w w1 n (.slice a2 cs.length c2) cs P w6) := ⟨S6.out, B6.out⟩
          go_wp2
          go_loopw [6, 7] (fun s i wr => ∃ j : Nat, (j : Int) ≤ n ∧ i = .int .i64 j ∧ s = .int .i64 (inTo cs j) ∧ Hid (Hsu w w1 n (.slice a2 cs.length c2) cs P wr)) (fun _ i _ => n.toNat - (intOf i).toNat)
          case atStart => exact ⟨0, by omega, rfl, rfl, S6'.out⟩
          case round =>
            obtain ⟨j, hj, rfl, rfl, Sr⟩ := hrel
            clear c0 c1 S6 S6' B6
            have c0 := Sr.out.st.box.cell 0
            have c1 := Sr.out.st.box.cell 1
            simp at c0 c1
            have hin := inTo_le cs j
            by_cases hlt : (j : Int) < n
            · have HSU : Hid (inTo cs (j + 1) = inTo cs j + (if on cs (j : Int) (j : Int) then 1 else 0)) := inTo_succ HOK.out j
              go_wp2_with fail
              refine (one_v HOK.out _ j j _ Sr.out.st.rd).mono ?_
              rintro e w7 ⟨rfl, b7⟩
              have S7 : Hid (Hsu w w1 n (.slice a2 cs.length c2) cs P w7) := Sr.out.below b7
              clear Sr b7 c0 c1
              cases hon : on cs (j : Int) (j : Int) with
              | false =>
                have HSV : Hid (inTo cs (j + 1) = inTo cs j) := (by have := HSU.out; rw [hon] at this; simpa using this : inTo cs (j + 1) = _)
                clear HSU
                go_wp2
                go_loopw [8] (fun i wr => ∃ k : Nat, (k : Int) ≤ n ∧ i = .int .i64 k ∧ Hid (Hsu w w1 n (.slice a2 cs.length c2) cs P wr)) (fun i _ => n.toNat - (intOf i).toNat)
                case atStart => exact ⟨0, by omega, rfl, S7.out⟩
                case round =>
                  obtain ⟨k, hk, rfl, Sk⟩ := hrel
                  clear S7
                  have c0 := Sk.out.st.box.cell 0
                  have c1 := Sk.out.st.box.cell 1
                  simp at c0 c1
                  by_cases hkl : (k : Int) < n
                  · go_wp2_with fail
                    refine (one_v HOK.out _ j k _ Sk.out.st.rd).mono ?_
                    rintro e w8 ⟨rfl, b8⟩
                    have S8 : Hid (Hsu w w1 n (.slice a2 cs.length c2) cs P w8) := Sk.out.below b8
                    clear Sk b8 c0 c1
                    have c0 := S8.out.st.box.cell 0
                    have c1 := S8.out.st.box.cell 1
                    simp at c0 c1
                    go_wp2_with fail
                    refine (one_v HOK.out _ k j _ S8.out.st.rd).mono ?_
                    rintro e w9 ⟨rfl, b9⟩
                    rw [on_sym]
                    have S9 : Hid (Hsu w w1 n (.slice a2 cs.length c2) cs P w9) := S8.out.below b9
                    clear S8 b9 c0 c1
                    have c0 := S9.out.st.box.cell 0
                    have c1 := S9.out.st.box.cell 1
                    simp at c0 c1
                    have HA : Hid (∀ w', Below w.heap.size w w' → ∀ W : Ov w', Calls Try.prog 23 #[.slice a zs.length cap, .int .i64 0] W.wd fun e w'' => e = .returned (.int .i64 x) ∧ ∃ W' : Ov w', w'' = W'.wd) := fun w' hw W => ov_call ((at0_c _ zs _ ((HR.out.below hw).below W.ok) HZ.out hlen).mono fun e w'' ⟨h1, h2⟩ => ⟨by rw [h1, HXX.out.1], h2⟩)
                    cases hx : on cs (j : Int) (k : Int) with
                    | false =>
                      clear hx
                      have HA9 : Hid (∀ W : Ov w9, Calls Try.prog 23 #[.slice a zs.length cap, .int .i64 0] W.wd fun e w'' => e = .returned (.int .i64 x) ∧ ∃ W' : Ov w9, w'' = W'.wd) := HA.out w9 S9.out.st.bel
                      have z0 : ∀ W : Ov w9, W.wd.cell? ⟨P, 0, none⟩ = some (.int .i64 n) := ov_cell c0
                      have ne1 : Nonempty (Ov w9) := ⟨⟨_, Below.refl _ _⟩⟩
                      go_wp2
                      refine region_over (by kernel_rfl) (by kernel_rfl) ?_
                      repeat (go_big_quiet_step (first | (go_at_call 23; exact HA9.out _)))
                      refine wpQuiet_nil ?_
                      rintro _ ⟨W, rfl⟩
                      go_wp2
                      go_roundw
                      case rel => exact ⟨k + 1, by omega, by go_num, S9.out.below W.ok⟩
                      case measure => simp [intOf]; omega
                    | true =>
                      exact absurd (hon.symm.trans (on_self hx)) (by simp)
                  · go_wp2
                    go_roundw
                    case rel => exact ⟨j + 1, by omega, by go_num, by rw [HSV.out], Sk.out⟩
                    case measure => simp [intOf]; omega
              | true =>
                have HSV : Hid (inTo cs (j + 1) = inTo cs j + 1) := (by have := HSU.out; rw [hon] at this; simpa using this : inTo cs (j + 1) = _)
                clear HSU
                go_wp2
                go_loopw [8] (fun i wr => ∃ k : Nat, (k : Int) ≤ n ∧ i = .int .i64 k ∧ Hid (Hsu w w1 n (.slice a2 cs.length c2) cs P wr)) (fun i _ => n.toNat - (intOf i).toNat)
                case atStart => exact ⟨0, by omega, rfl, S7.out⟩
                case round =>
                  obtain ⟨k, hk, rfl, Sk⟩ := hrel
                  clear S7
                  have c0 := Sk.out.st.box.cell 0
                  have c1 := Sk.out.st.box.cell 1
                  simp at c0 c1
                  by_cases hkl : (k : Int) < n
                  · go_wp2_with fail
                    refine (one_v HOK.out _ j k _ Sk.out.st.rd).mono ?_
                    rintro e w8 ⟨rfl, b8⟩
                    have S8 : Hid (Hsu w w1 n (.slice a2 cs.length c2) cs P w8) := Sk.out.below b8
                    clear Sk b8 c0 c1
                    have c0 := S8.out.st.box.cell 0
                    have c1 := S8.out.st.box.cell 1
                    simp at c0 c1
                    go_wp2_with fail
                    refine (one_v HOK.out _ k j _ S8.out.st.rd).mono ?_
                    rintro e w9 ⟨rfl, b9⟩
                    rw [on_sym]
                    have S9 : Hid (Hsu w w1 n (.slice a2 cs.length c2) cs P w9) := S8.out.below b9
                    clear S8 b9 c0 c1
                    have c0 := S9.out.st.box.cell 0
                    have c1 := S9.out.st.box.cell 1
                    simp at c0 c1
                    have HA : Hid (∀ w', Below w.heap.size w w' → ∀ W : Ov w', Calls Try.prog 23 #[.slice a zs.length cap, .int .i64 0] W.wd fun e w'' => e = .returned (.int .i64 x) ∧ ∃ W' : Ov w', w'' = W'.wd) := fun w' hw W => ov_call ((at0_c _ zs _ ((HR.out.below hw).below W.ok) HZ.out hlen).mono fun e w'' ⟨h1, h2⟩ => ⟨by rw [h1, HXX.out.1], h2⟩)
                    cases hx : on cs (j : Int) (k : Int) with
                    | false =>
                      clear hx
                      have HA9 : Hid (∀ W : Ov w9, Calls Try.prog 23 #[.slice a zs.length cap, .int .i64 0] W.wd fun e w'' => e = .returned (.int .i64 x) ∧ ∃ W' : Ov w9, w'' = W'.wd) := HA.out w9 S9.out.st.bel
                      have z0 : ∀ W : Ov w9, W.wd.cell? ⟨P, 0, none⟩ = some (.int .i64 n) := ov_cell c0
                      have ne1 : Nonempty (Ov w9) := ⟨⟨_, Below.refl _ _⟩⟩
                      go_wp2
                      refine region_over (by kernel_rfl) (by kernel_rfl) ?_
                      repeat (go_big_quiet_step (first | (go_at_call 23; exact HA9.out _)))
                      refine wpQuiet_nil ?_
                      rintro _ ⟨W, rfl⟩
                      go_wp2
                      go_roundw
                      case rel => exact ⟨k + 1, by omega, by go_num, S9.out.below W.ok⟩
                      case measure => simp [intOf]; omega
                    | true =>
                      have haa : on cs (j : Int) (j : Int) = true := on_self hx
                      have HX : Hid (on cs (j : Int) (k : Int) = true) := hx
                      clear hx
                      go_wp2_with fail
                      refine (one_v HOK.out _ j j _ S9.out.st.rd).mono ?_
                      rintro e w10 ⟨rfl, b10⟩
                      have S10 : Hid (Hsu w w1 n (.slice a2 cs.length c2) cs P w10) := S9.out.below b10
                      clear S9 b10 c0 c1
                      have c0 := S10.out.st.box.cell 0
                      have c1 := S10.out.st.box.cell 1
                      simp at c0 c1
                      have HA9 : Hid (∀ W : Ov w10, Calls Try.prog 23 #[.slice a zs.length cap, .int .i64 0] W.wd fun e w'' => e = .returned (.int .i64 x) ∧ ∃ W' : Ov w10, w'' = W'.wd) := HA.out w10 S10.out.st.bel
                      have z0 : ∀ W : Ov w10, W.wd.cell? ⟨P, 0, none⟩ = some (.int .i64 n) := ov_cell c0
                      have ne1 : Nonempty (Ov w10) := ⟨⟨_, Below.refl _ _⟩⟩
                      go_wp2
                      refine region_over (by kernel_rfl) (by kernel_rfl) ?_
                      repeat (go_big_quiet_step (first | (go_at_call 23; exact HA9.out _)))
                      refine wpQuiet_nil ?_
                      rintro _ ⟨W, rfl⟩
                      obtain ⟨W2, hW2⟩ : ∃ W2, W.wd = W2 := ⟨_, rfl⟩
                      have SW : Hid (Hsu w w1 n (.slice a2 cs.length c2) cs P W2) := hW2 ▸ S10.out.below W.ok
                      rw [hW2]
                      clear S10 z0 HA9 ne1 c0 c1 hW2
                      generalize ((j : Int) + k + x) % n = c
                      have c0 := SW.out.st.box.cell 0
                      have c1 := SW.out.st.box.cell 1
                      simp at c0 c1
                      go_wp2_with fail
                      refine (one_v HOK.out _ k c _ SW.out.st.rd).mono ?_
                      rintro e w11 ⟨rfl, b11⟩
                      have S11 : Hid (Hsu w w1 n (.slice a2 cs.length c2) cs P w11) := SW.out.below b11
                      clear SW b11 c0 c1
                      cases hbc : on cs (k : Int) c with
                      | false =>
                        go_wp2
                        go_roundw
                        case rel => exact ⟨k + 1, by omega, by go_num, S11.out⟩
                        case measure => simp [intOf]; omega
                      | true =>
                        have hac : on cs (j : Int) c = true := on_trans HX.out hbc
                        have c0 := S11.out.st.box.cell 0
                        have c1 := S11.out.st.box.cell 1
                        simp at c0 c1
                        go_wp2_with fail
                        refine (one_v HOK.out _ j c _ S11.out.st.rd).mono ?_
                        rintro e w12 ⟨rfl, b12⟩
                        rw [hac]
                        have S12 : Hid (Hsu w w1 n (.slice a2 cs.length c2) cs P w12) := S11.out.below b12
                        clear S11 b12 c0 c1
                        go_wp2
                        go_roundw
                        case rel => exact ⟨k + 1, by omega, by go_num, S12.out⟩
                        case measure => simp [intOf]; omega
                  · go_wp2
                    go_roundw
                    case rel => exact ⟨j + 1, by omega, by go_num, by rw [HSV.out]; go_num, Sk.out⟩
                    case measure => simp [intOf]; omega
            · have hI : inTo cs j = L := by
                have := inTo_all HOK.out
                rw [HLL.out] at this
                rw [show j = n.toNat by omega]; exact this
              have hLL : ((L : Int) == (L : Int)) = true := by simp
              rw [hI]
              go_wp2
              go_loopw [11] (fun i wr => ∃ i0 : Nat, i0 ≤ cs.length ∧ i = .int .i64 i0 ∧ Hid (Hsu w w1 n (.slice a2 cs.length c2) cs P wr)) (fun i _ => cs.length - (intOf i).toNat)
              case atStart => exact ⟨0, by omega, rfl, Sr.out⟩
              case round =>
                obtain ⟨i0, hi0, rfl, Si⟩ := hrel
                clear Sr c0 c1
                have c0 := Si.out.st.box.cell 0
                have c1 := Si.out.st.box.cell 1
                simp at c0 c1
                by_cases hil : i0 < cs.length
                · obtain ⟨b, off, ai, ci, rfl, hc1, hc2, hc3, hc4⟩ := HC.out i0 hil
                  have hi2 : (i0 : Int) < (cs.length : Int) := by omega
                  obtain ⟨m, hm⟩ : ∃ m, cs[i0].2.length = m := ⟨_, rfl⟩
                  have hm20 : m ≤ 20 := hm ▸ HL.out.2 _ (List.getElem_mem hil)
                  have HM : Hid (cs[i0].2.length = m) := hm
                  have HC1 : Hid (w1.cell? ⟨b, off + i0 * 2 + 1, none⟩ = some (.slice ai m ci)) := hm ▸ hc1
                  have HC4 : Hid (cs[i0].2 = [] ∨ ∃ b' off', ai = some ⟨b', off', none⟩ ∧ ∀ k (h' : k < cs[i0].2.length), w1.cell? ⟨b', off' + k * 2, none⟩ = some (.int .i64 cs[i0].2[k].1)) := hc4
                  clear hc1 hc2 hc3 hc4 hm
                  go_wp2
                  go_loopw [12] (fun i wr => ∃ k : Nat, k ≤ m ∧ i = .int .i64 k ∧ Hid (Hsu w w1 n (.slice (some ⟨b, off, none⟩) cs.length c2) cs P wr)) (fun i _ => m - (intOf i).toNat)
                  case atStart => exact ⟨0, by omega, rfl, Si.out⟩
                  case round =>
                    obtain ⟨k, hk, rfl, Sk⟩ := hrel
                    clear Si c0 c1
                    have c0 := Sk.out.st.box.cell 0
                    have c1 := Sk.out.st.box.cell 1
                    simp at c0 c1
                    have cj : wr.cell? ⟨b, off + i0 * 2 + 1, none⟩ = some (.slice ai m ci) := (Sk.out.b1.cell (block_lt_of_cell HC1.out)).trans HC1.out
                    by_cases hkm : k < m
                    · have hkc : k < cs[i0].2.length := by rw [HM.out]; exact hkm
                      obtain ⟨b', off', rfl, h4⟩ : ∃ b' off', ai = some ⟨b', off', none⟩ ∧ ∀ k (h' : k < cs[i0].2.length), w1.cell? ⟨b', off' + k * 2, none⟩ = some (.int .i64 cs[i0].2[k].1) := by
                        rcases HC4.out with h | h
                        · rw [h] at hkc; simp at hkc
                        · exact h
                      have hk2 : (k : Int) < (m : Int) := by omega
                      have hm2 : (0 : Int) < (m : Int) := by omega
                      have hon := legs_on HOK.out hil hkc
                      have ck : wr.cell? ⟨b', off' + k * 2, none⟩ = some (.int .i64 cs[i0].2[k].1) := (Sk.out.b1.cell (block_lt_of_cell (h4 k hkc))).trans (h4 k hkc)
                      have ch : wr.cell? ⟨b', off', none⟩ = some (.int .i64 (cs[i0].2[0]'(by omega)).1) := by
                        have := h4 0 (by omega)
                        simp only [Nat.zero_mul, Nat.add_zero] at this
                        exact (Sk.out.b1.cell (block_lt_of_cell this)).trans this
                      obtain ⟨lk, hlk⟩ : ∃ lk, cs[i0].2[k].1 = lk := ⟨_, rfl⟩
                      obtain ⟨l0, hl0⟩ : ∃ l0, (cs[i0].2[0]'(by omega)).1 = l0 := ⟨_, rfl⟩
                      rw [hlk] at ck hon
                      rw [hl0] at ch hon
                      have HO : Hid (∀ W : Ov wr, Calls Try.prog 22 #[.agg #[.int .i64 n, .slice (some ⟨b, off, none⟩) cs.length c2], .int .i64 l0, .int .i64 lk] W.wd fun e w'' => e = .returned (.bool true) ∧ ∃ W' : Ov wr, w'' = W'.wd) := fun W => ov_call ((one_v HOK.out _ l0 lk _ (Sk.out.below W.ok).st.rd).mono fun e w' ⟨h1, h2⟩ => ⟨by rw [h1, hon], h2⟩)
                      have z0 : ∀ W : Ov wr, W.wd.cell? ⟨P, 0, none⟩ = some (.int .i64 n) := ov_cell c0
                      have z1 : ∀ W : Ov wr, W.wd.cell? ⟨P, 1, none⟩ = some (.slice (some ⟨b, off, none⟩) cs.length c2) := ov_cell c1
                      have z2 : ∀ W : Ov wr, W.wd.cell? ⟨b, off + i0 * 2 + 1, none⟩ = some (.slice (some ⟨b', off', none⟩) m ci) := ov_cell cj
                      have z3 : ∀ W : Ov wr, W.wd.cell? ⟨b', off' + k * 2, none⟩ = some (.int .i64 lk) := ov_cell ck
                      have z4 : ∀ W : Ov wr, W.wd.cell? ⟨b', off', none⟩ = some (.int .i64 l0) := ov_cell ch
                      have ne1 : Nonempty (Ov wr) := ⟨⟨_, Below.refl _ _⟩⟩
                      clear hon h4 hlk hl0 ck ch hkc
                      go_wp2
                      refine region_over (by kernel_rfl) (by kernel_rfl) ?_
                      repeat (go_big_quiet_step (first | (go_at_call 22; exact HO.out _)))
                      refine wpQuiet_nil ?_
                      rintro _ ⟨W, rfl⟩
                      go_wp2
                      go_roundw
                      case rel => exact ⟨k + 1, by omega, by go_num, Sk.out.below W.ok⟩
                      case measure => simp [intOf]; omega
                    · have hk2 : ¬ (k : Int) < (m : Int) := by omega
                      go_wp2
                      go_roundw
                      case rel => exact ⟨i0 + 1, by omega, by go_num, Sk.out⟩
                      case measure => simp [intOf]; omega
                · have hi2 : ¬ (i0 : Int) < (cs.length : Int) := by omega
                  go_wp2
                  go_ret
                  exact ⟨rfl, Si.out.st.bel⟩
end Go.Proofs.Ytcbeaimpmjljjaa
