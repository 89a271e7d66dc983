/- FnMixed returns true at every code, and leaves it as it was; no condition. -/
import Derived.Test.YtcbeaimpmjljjaaDrawX
import Derived.Test.YtcbeaimpmjljjaaHMath
import Derived.Test.YtcbeaimpmjljjaaHeardL
import Derived.Test.YtcbeaimpmjljjaaMixI
import Derived.Test.YtcbeaimpmjljjaaOpenP
namespace Go.Proofs.Ytcbeaimpmjljjaa
open Go.RowKit Go.ChangeShapes Go.WideShapes Go.ChangeAt
set_option linter.unusedVariables false
set_option linter.unusedSimpArgs false
set_option maxRecDepth 8000
theorem rd_at {W : World} {xs : List Int} {a : Option Addr} {c : Nat} (h : Rd .i64 W (.slice a xs.length c) xs) (b off : Nat) (ha : a = some ⟨b, off, none⟩) (i : Nat) (hi : i < xs.length) : W.cell? ⟨b, off + i, none⟩ = (xs[i]?).map (Value.int .i64) := by
  obtain ⟨a', c', e, -, -, h3⟩ := h
  cases e
  rcases h3 with h3 | ⟨b', off', e, h4⟩
  · simp [h3] at hi
  · rw [ha] at e; cases e
    rw [h4 i hi]; simp [List.getElem?_eq_getElem hi]
theorem rd_cells {W : World} {xs : List Int} {a : Option Addr} {c k : Nat} (h : Rd .i64 W (.slice a xs.length c) xs) (hk : k < xs.length) : ∃ b off, a = some ⟨b, off, none⟩ ∧ ∀ i, i < xs.length → W.cell? ⟨b, off + i, none⟩ = (xs[i]?).map (Value.int .i64) := by
  obtain ⟨a', c', e, -, -, h3⟩ := id h
  cases e
  rcases h3 with h3 | ⟨b', off', e, h4⟩
  · simp [h3] at hk
  · exact ⟨b', off', e, fun i hi => rd_at h b' off' e i hi⟩
/-- what FnMixed keeps: the panel in its box, the levels -/
structure Hmx (w : World) (n : Int) (V : Value) (cs : Calls2) (U : Value) (lev : List Int) (P : Nat) (W : World) : Prop where
  bel : Below w.heap.size w W
  box : Blk W P #[.int .i64 n, V] 26
  rd : RdC W V cs
  lv : Rd .i64 W U lev
theorem Hmx.below {w W W' : World} {n : Int} {V U : Value} {cs : Calls2} {lev : List Int} {P : Nat} (h : Hmx w n V cs U lev P W) (b : Below W.heap.size W W') : Hmx w n V cs U lev P W' := ⟨belowCall h.bel b h.bel.size, h.box.below b h.box.lt, h.rd.below b, h.lv.below b⟩
set_option maxHeartbeats 3200000 in
theorem law6 (v : Value) (zs : List Int) (w : World) (h : Rd .u8 w v zs) (hwz : ∀ z ∈ zs, (Lit.int .u8 z).wf = true) :
   Calls Try.prog 6 #[v] w fun e w' => e = .returned (.bool true) ∧ Below w.heap.size w w' := by
  have hz : ∀ z ∈ zs, 0 ≤ z ∧ z ≤ 255 := fun z hm => bounds_u8 (hwz z hm)
  clear hwz
  obtain ⟨a, cap, hv, h1, h2, h3⟩ := id h
  subst hv
  clear h3
  unfold maxLen at h2
  by_cases hbig : 1048576 < zs.length
  · have hb : decide ((1048576 : Int) < (zs.length : Int)) = true := by simp; omega
    clear hz h
    go_enter Try.func6, Try.ntmps6
    go_wp2
    go_ret
    exact ⟨rfl, Below.refl _ _⟩
  · have hb : decide ((1048576 : Int) < (zs.length : Int)) = false := by simp; omega
    have hlen : zs.length ≤ 1048576 := by omega
    have HZ : Hid (∀ z ∈ zs, 0 ≤ z ∧ z ≤ 255) := hz
    clear hz
    go_enter Try.func6, Try.ntmps6
    go_wp2_with (go_at_call 13; go_in)
    refine (drawMix_c _ zs _ h HZ.out hlen).mono ?_
    rintro e w1 ⟨n, V, cs, U, lev, rfl, r1, l1, m1, b1⟩
    obtain ⟨a2, ln2, c2, hV⟩ : ∃ a2 ln2 c2, V = .slice a2 ln2 c2 := by
      obtain ⟨lv, -, ⟨a2, c2, hV, -⟩, -⟩ := r1
      exact ⟨a2, _, c2, hV⟩
    subst hV
    obtain ⟨au, cu, hU, u1, u2, u3⟩ := id l1
    subst hU
    unfold maxLen at u2
    obtain ⟨P, hP⟩ : ∃ P, P = w1.heap.size := ⟨_, rfl⟩
    obtain ⟨W1, hW1⟩ : ∃ W1, w1.alloc (Obj.cells #[Value.int IntKind.i64 n, Value.slice a2 ln2 c2] 26) = W1 := ⟨_, rfl⟩
    have bW : Below w1.heap.size w1 W1 := hW1 ▸ (Below.refl _ _).alloc (Nat.le_refl _) _
    have kp : Blk W1 P #[.int .i64 n, .slice a2 ln2 c2] 26 := hP ▸ hW1 ▸ Blk.new _ _ _
    have HPP : Hid (P = w1.heap.size) := hP
    have HW1 : Hid (w1.alloc (Obj.cells #[Value.int IntKind.i64 n, Value.slice a2 ln2 c2] 26) = W1) := hW1
    have S1 : Hid (Hmx w n (.slice a2 ln2 c2) cs (.slice au lev.length cu) lev P W1) := ⟨belowCall b1 bW b1.size, kp, r1.below bW, l1.below bW⟩
    clear h HZ hW1 bW kp r1 l1 b1 hP u3
    go_wp2_with fail
    rw [HW1.out, ← HPP.out]
    refine (mix_c n _ cs _ lev _ S1.out.rd S1.out.lv).mono ?_
    rintro e w3 ⟨v3, r, xs, rfl, o3, hs3, b3⟩
    obtain ⟨a3, c3, hv3, x1, x2, -⟩ := own_form o3
    subst hv3
    have S3 : Hid (Hmx w n (.slice a2 ln2 c2) cs (.slice au lev.length cu) lev P w3) := S1.out.below b3
    have X3 : Hid (Rd .i64 w3 (.slice a3 xs.length c3) xs) := o3.rd
    have HS3 : Hid (MS n cs lev r xs) := hs3
    clear S1 HPP HW1 b3 o3 hs3
    have c0 := S3.out.box.cell 0
    have c1 := S3.out.box.cell 1
    simp at c0 c1
    go_wp2_with fail
    refine (specMix_c n _ cs _ lev _ S3.out.rd S3.out.lv).mono ?_
    rintro e w4 ⟨v4, r4, xs4, rfl, o4, hs4, b4⟩
    obtain ⟨rfl, rfl⟩ := hs4.same HS3.out
    obtain ⟨a4, c4, hv4, -, -, -⟩ := own_form o4
    subst hv4
    have S4 : Hid (Hmx w n (.slice a2 ln2 c2) cs (.slice au lev.length cu) lev P w4) := S3.out.below b4
    have X4 : Hid (Rd .i64 w4 (.slice a3 xs4.length c3) xs4) := X3.out.below b4
    have hrr : (r4 != r4) = false := by simp
    clear S3 X3 b4 o4 hs4 c0 c1
    obtain ⟨W5, hW5⟩ : ∃ W5, ((w4.alloc (Obj.cells #[Value.int IntKind.i64 1, Value.bool false, Value.int IntKind.i64 0, Value.bool false] 42)).alloc
          (Obj.cells #[Value.bool false, Value.slice (some { block := w4.heap.size, off := 0 }) 2 2] 45)).alloc
      (Obj.cells #[Value.int IntKind.i64 5, Value.int IntKind.i64 (-7)] 3) = W5 := ⟨_, rfl⟩
    have bW : Below w4.heap.size w4 W5 := hW5 ▸ (((Below.refl _ _).alloc (Nat.le_refl _) _).alloc (by simp) _).alloc (by simp; omega) _
    have kl : Blk W5 w4.heap.size #[.int .i64 1, .bool false, .int .i64 0, .bool false] 42 := hW5 ▸ ((Blk.new w4 _ _).below ((Below.refl _ _).alloc (Nat.le_refl _) _) (by simp)).below ((Below.refl _ _).alloc (Nat.le_refl _) _) (by simp; omega)
    have kc : Blk W5 (w4.heap.size + 1) #[.bool false, .slice (some ⟨w4.heap.size, 0, none⟩) 2 2] 45 := hW5 ▸ (Blk.newAt _ (w4.heap.size + 1) _ 45 (by simp)).below ((Below.refl _ _).alloc (Nat.le_refl _) _) (by simp)
    have ki : Blk W5 (w4.heap.size + 2) #[.int .i64 5, .int .i64 (-7)] 3 := hW5 ▸ Blk.newAt _ (w4.heap.size + 2) _ 3 (by simp)
    have RS : Hid (RdC W5 (.slice (some ⟨w4.heap.size + 1, 0, none⟩) 1 1) smallC) := by
      refine ⟨[(.bool false, .slice (some ⟨w4.heap.size, 0, none⟩) 2 2)], rfl, ⟨_, 1, rfl, by simp, by simp [maxLen], .inr ⟨_, 0, rfl, fun i hi => ?_⟩⟩, fun i hi hi' => ?_⟩
      · obtain rfl : i = 0 := Nat.lt_one_iff.1 hi
        exact ⟨kc.cell 0, kc.cell 1⟩
      · obtain rfl : i = 0 := Nat.lt_one_iff.1 hi'
        refine ⟨rfl, _, 2, rfl, Nat.le_refl _, by simp [maxLen], .inr ⟨_, 0, rfl, fun j hj => ?_⟩⟩
        have hj2 : j < 2 := hj
        rcases j with _ | _ | j
        · exact ⟨kl.cell 0, kl.cell 1⟩
        · exact ⟨kl.cell 2, kl.cell 3⟩
        · omega
    have RI : Hid (Rd .i64 W5 (.slice (some ⟨w4.heap.size + 2, 0, none⟩) 2 2) [5, -7]) := by
      refine ⟨_, 2, rfl, by simp, by simp [maxLen], .inr ⟨_, 0, rfl, fun i hi => ?_⟩⟩
      have hi2 : i < 2 := hi
      rcases i with _ | _ | i
      · exact ki.cell 0
      · exact ki.cell 1
      · omega
    have HW5 : Hid (((w4.alloc (Obj.cells #[Value.int IntKind.i64 1, Value.bool false, Value.int IntKind.i64 0, Value.bool false] 42)).alloc
          (Obj.cells #[Value.bool false, Value.slice (some { block := w4.heap.size, off := 0 }) 2 2] 45)).alloc
      (Obj.cells #[Value.int IntKind.i64 5, Value.int IntKind.i64 (-7)] 3) = W5) := hW5
    have S5 : Hid (Hmx w n (.slice a2 ln2 c2) cs (.slice au lev.length cu) lev P W5) := S4.out.below bW
    have X5 : Hid (Rd .i64 W5 (.slice a3 xs4.length c3) xs4) := X4.out.below bW
    clear S4 X4 hW5 bW kl kc ki
    go_wp2_with fail
    rw [HW5.out]
    refine (mix_c 2 _ smallC _ [5, -7] _ RS.out RI.out).mono ?_
    rintro e w6 ⟨v6, r6, x6, rfl, o6, hs6, b6⟩
    obtain ⟨rfl, hx6⟩ := hs6.1 ⟨small_ok, rfl, by intro x hx; simp at hx; omega⟩
    obtain rfl : x6 = [-7, 5] := hx6.trans small_mix
    obtain ⟨a6, c6, hv6, -, -, -⟩ := own_form o6
    rw [show ([-7, 5] : List Int).length = 2 from rfl] at hv6
    subst hv6
    have bl : Below w6.heap.size w6 (w6.alloc (Obj.cells #[.int .i64 (-7), .int .i64 5] 3)) := (Below.refl _ _).alloc (Nat.le_refl _) _
    have S6 : Hid (Hmx w n (.slice a2 ln2 c2) cs (.slice au lev.length cu) lev P (w6.alloc (Obj.cells #[.int .i64 (-7), .int .i64 5] 3))) := (S5.out.below b6).below bl
    have X6 : Hid (Rd .i64 (w6.alloc (Obj.cells #[.int .i64 (-7), .int .i64 5] 3)) (.slice a3 xs4.length c3) xs4) := (X5.out.below b6).below bl
    have RL : Hid (Rd .i64 (w6.alloc (Obj.cells #[.int .i64 (-7), .int .i64 5] 3)) (.slice (some ⟨w6.heap.size, 0, none⟩) 2 2) [-7, 5]) := by
      have kk : Blk (w6.alloc (Obj.cells #[.int .i64 (-7), .int .i64 5] 3)) w6.heap.size #[.int .i64 (-7), .int .i64 5] 3 := Blk.new _ _ _
      refine ⟨_, 2, rfl, by simp, by simp [maxLen], .inr ⟨w6.heap.size, 0, rfl, fun i hi => ?_⟩⟩
      have hi2 : i < 2 := hi
      rcases i with _ | _ | i
      · exact kk.cell 0
      · exact kk.cell 1
      · omega
    have R6 : Hid (Rd .i64 (w6.alloc (Obj.cells #[.int .i64 (-7), .int .i64 5] 3)) (.slice a6 2 c6) [-7, 5]) := (o6.below bl).rd
    clear S5 X5 RS RI HW5 hs6 hx6 b6 o6 bl
    go_wp2_with fail
    refine (sameI_c _ _ [-7, 5] [-7, 5] _ R6.out RL.out).mono ?_
    rintro e w7 ⟨rfl, b7⟩
    rw [show decide (([-7, 5] : List Int) = [-7, 5]) = true from rfl]
    have S7 : Hid (Hmx w n (.slice a2 ln2 c2) cs (.slice au lev.length cu) lev P w7) := S6.out.below b7
    have X7 : Hid (Rd .i64 w7 (.slice a3 xs4.length c3) xs4) := X6.out.below b7
    clear S6 X6 RL R6 b7
    cases r4 with
    | false =>
      obtain rfl : xs4 = [] := (HS3.out.2 (fun h => by simpa using (HS3.out.1 h).1)).2
      go_wp2
      go_ret
      exact ⟨rfl, S7.out.bel⟩
    | true =>
      have hmo : MixOk n cs lev := Classical.byContradiction fun h => by simpa using (HS3.out.2 h).1
      have hxs := (HS3.out.1 hmo).2
      have hn1 := hmo.1.1
      have hn2 := hmo.1.2.1
      have hln := hmo.2.1
      have HOK : Hid (POk n cs) := hmo.1
      have HLV : Hid (LevOk lev) := hmo.2.2
      have HXS : Hid (xs4 = mixedTo cs lev lev.length) := hxs
      have hxl : xs4.length = lev.length := by rw [hxs, mixedTo_len]
      have HLN : Hid ((lev.length : Int) = n) := hln
      have HXL : Hid (xs4.length = lev.length) := hxl
      have hxn : (xs4.length : Int) = n := by omega
      have hxg : n ≤ (xs4.length : Int) := by omega
      have hlg : n ≤ (lev.length : Int) := by omega
      clear hmo hxs hln hxl HS3 hrr hxn
      go_wp2
      go_loopw [11] (fun i wr => ∃ j : Nat, (j : Int) ≤ n ∧ i = .int .i64 j ∧ Hid (Hmx w n (.slice a2 ln2 c2) cs (.slice au lev.length cu) lev P wr) ∧ Hid (Rd .i64 wr (.slice a3 xs4.length c3) xs4)) (fun i _ => n.toNat - (intOf i).toNat)
      case atStart => exact ⟨0, by omega, rfl, S7.out, X7.out⟩
      case round =>
        obtain ⟨j, hj, rfl, Sr, Xr⟩ := hrel
        clear S7 X7
        have c0 := Sr.out.box.cell 0
        have c1 := Sr.out.box.cell 1
        simp at c0 c1
        by_cases hlt : (j : Int) < n
        · go_wp2_with fail
          refine (specHeard_c n _ cs j _ Sr.out.rd).mono ?_
          rintro e w8 ⟨v8, H', rfl, o8, hs8, b8⟩
          have hH := hs8.1 HOK.out
          obtain ⟨a8, c8, hv8, m1', m2', -⟩ := own_form o8
          subst hv8
          have S8 : Hid (Hmx w n (.slice a2 ln2 c2) cs (.slice au lev.length cu) lev P w8) := Sr.out.below b8
          have X8 : Hid (Rd .i64 w8 (.slice a3 xs4.length c3) xs4) := Xr.out.below b8
          have R8 : Hid (Rd .i64 w8 (.slice a8 H'.length c8) H') := o8.rd
          have hH40 : H'.length ≤ 40 := hs8.len
          have hjx : j < xs4.length := by omega
          have hjn : n = (n.toNat : Int) := by omega
          obtain ⟨bx, ox, ha3, hcx⟩ := rd_cells X8.out hjx
          subst ha3
          have hln := HLN.out
          have hxl := HXL.out
          have HVX : Hid (∀ t : Nat, t < lev.length → xs4[t]? = some (clip (heardSum cs lev t)) ∧ lev[t]? = some (lv lev t) ∧ t < xs4.length) := fun t ht => ⟨by rw [HXS.out]; exact mixed_at cs lev _ t ht, by simp [lv, List.getElem?_eq_getElem ht], by omega⟩
          obtain ⟨xj, hxj⟩ : ∃ xj, clip (heardSum cs lev j) = xj := ⟨_, rfl⟩
          have HXC : Hid (clip (heardSum cs lev j) = xj) := hxj
          have hxb := clip_bd (heardSum cs lev j)
          rw [hxj] at hxb
          have HXJ : Hid (xs4[j]? = some xj) := by show xs4[j]? = some xj; rw [(HVX.out j (by omega)).1, hxj]
          have HMB : Hid (∀ k (h : k < H'.length), ∃ bn : Nat, H'[k]? = some (bn : Int) ∧ (bn : Int) ∈ hears cs j ∧ bn < lev.length) := fun k hk => by
            have hm : H'[k] ∈ hears cs (j : Int) := by
              have h1 : ∀ x ∈ hears cs (j : Int), 0 ≤ x ∧ x < (n.toNat : Int) := by rw [← hjn]; exact hears_range HOK.out _
              rw [← mem_asc h1, ← hH]; exact List.getElem_mem hk
            have hr := hears_range HOK.out _ _ hm
            refine ⟨H'[k].toNat, ?_, ?_, by omega⟩
            · rw [List.getElem?_eq_getElem hk]; congr 1; omega
            · rw [Int.toNat_of_nonneg hr.1]; exact hm
          have hzero : H'.length = 0 → xj = 0 := fun h0 => by
            have hp := (asc_perm (hears_nodup HOK.out (j : Int)) (n := n.toNat) (by rw [← hjn]; exact hears_range HOK.out _)).length_eq
            rw [← hH, h0] at hp
            have hnil : hears cs (j : Int) = [] := List.eq_nil_of_length_eq_zero hp.symm
            rw [← hxj, heardSum, hnil]; rfl
          have cj : w8.cell? ⟨bx, ox + j, none⟩ = some (.int .i64 xj) := by rw [hcx j hjx, HXJ.out]; rfl
          have HABS : Hid (∀ W, Calls Try.prog 30 #[.int .i64 xj] W fun e w' => e = .returned (.int .i64 (if xj < 0 then -xj else xj)) ∧ w' = W) := fun W => abs_c xj (by omega) W
          obtain ⟨y, hy⟩ : ∃ y, (if xj < 0 then -xj else xj) = y := ⟨_, rfl⟩
          rw [hy] at HABS
          have hy2 : ¬ (32767 < y) := by split at hy <;> omega
          have k0 : (j : Int) < (xs4.length : Int) := by omega
          have HLN2 : Hid ((lev.length : Int) = n ∧ xs4.length = lev.length) := ⟨hln, hxl⟩
          have hjl : j < lev.length := by omega
          have hxlg : lev.length ≤ xs4.length := by omega
          clear hs8 b8 o8 Sr Xr c0 c1 hcx hxj hy hln hxl hjn
          by_cases hz : H'.length = 0
          · have hxz : xj = 0 := hzero hz
            have hz2 : ((H'.length : Int) == 0) = true := by simp [hz]
            have hxz2 : (xj != 0) = false := by simp [hxz]
            have HZ0 : Hid (xj = 0) := hxz
            clear hz hxz hzero hH
            go_wp2_with (go_at_call 30; refine (HABS.out _).mono ?_; rintro e w9 ⟨rfl, rfl⟩)
            go_loopw [13] (fun i wr => ∃ k : Nat, k ≤ H'.length ∧ i = .int .i64 k ∧ Hid (Hmx w n (.slice a2 ln2 c2) cs (.slice au lev.length cu) lev P wr) ∧ Hid (Rd .i64 wr (.slice (some ⟨bx, ox, none⟩) xs4.length c3) xs4) ∧ Hid (Rd .i64 wr (.slice a8 H'.length c8) H')) (fun i _ => H'.length - (intOf i).toNat)
            case atStart => exact ⟨0, by omega, rfl, S8.out, X8.out, R8.out⟩
            case round =>
              obtain ⟨k, hk, rfl, Sk, Xk, Rk⟩ := hrel
              clear S8 X8 R8
              by_cases hkl : k < H'.length
              · obtain ⟨bn, hbn, hbm, hbl⟩ := HMB.out k hkl
                obtain ⟨bh, oh, ha8, hch⟩ := rd_cells Rk.out hkl
                obtain ⟨bl, ol, hau, hcl⟩ := rd_cells Sk.out.lv (show j < lev.length by omega)
                subst ha8
                subst hau
                have ck : wr.cell? ⟨bh, oh + k, none⟩ = some (.int .i64 bn) := by rw [hch k hkl, hbn]; rfl
                obtain ⟨q1, q2, q3⟩ := HVX.out bn hbl
                have cb : wr.cell? ⟨bx, ox + bn, none⟩ = some (.int .i64 (clip (heardSum cs lev bn))) := by rw [(rd_at Xk.out bx ox rfl bn q3), q1]; rfl
                have cj : wr.cell? ⟨bx, ox + j, none⟩ = some (.int .i64 xj) := by rw [(rd_at Xk.out bx ox rfl j hjx), HXJ.out]; rfl
                have lb : wr.cell? ⟨bl, ol + bn, none⟩ = some (.int .i64 (lv lev bn)) := by rw [hcl bn (by omega), q2]; rfl
                have lj : wr.cell? ⟨bl, ol + j, none⟩ = some (.int .i64 (lv lev j)) := by rw [hcl j (by omega), (HVX.out j (by omega)).2.1]; rfl
                have hdiff : ((-32767 < xj ∧ xj < 32767) ∧ (-32767 < clip (heardSum cs lev bn) ∧ clip (heardSum cs lev bn) < 32767)) → xj - clip (heardSum cs lev bn) = lv lev bn - lv lev j := fun h => by
                  rw [← HXC.out] at h ⊢
                  exact mixed_diff HOK.out hbm lev h.1 h.2
                have bb1 := clip_bd (heardSum cs lev bn)
                have bb2 := lv_bd HLV.out (bn : Int)
                have bb3 := lv_bd HLV.out (j : Int)
                generalize clip (heardSum cs lev bn) = xb at cb hdiff bb1
                generalize lv lev bn = vb at lb hdiff bb2
                generalize lv lev j = vj at lj hdiff bb3
                obtain ⟨ya, hya⟩ : ∃ ya, (if xj < 0 then -xj else xj) = ya := ⟨_, rfl⟩
                obtain ⟨yb, hyb⟩ : ∃ yb, (if xb < 0 then -xb else xb) = yb := ⟨_, rfl⟩
                have HA : Hid (∀ W : Ov wr, Calls Try.prog 30 #[.int .i64 xj] W.wd fun e w'' => e = .returned (.int .i64 ya) ∧ ∃ W' : Ov wr, w'' = W'.wd) := fun W => ov_call ((abs_c xj (by omega) W.wd).mono fun e w' ⟨h1, h2⟩ => ⟨by rw [h1, hya], by rw [h2]; exact Below.refl _ _⟩)
                have HB : Hid (∀ W : Ov wr, Calls Try.prog 30 #[.int .i64 xb] W.wd fun e w'' => e = .returned (.int .i64 yb) ∧ ∃ W' : Ov wr, w'' = W'.wd) := fun W => ov_call ((abs_c xb (by omega) W.wd).mono fun e w' ⟨h1, h2⟩ => ⟨by rw [h1, hyb], by rw [h2]; exact Below.refl _ _⟩)
                have hq : ya < 32767 → yb < 32767 → ((xj - xb) != (vb - vj)) = false := fun h1 h2 => by
                  have := hdiff ⟨by split at hya <;> omega, by split at hyb <;> omega⟩
                  simp [this]
                have HQ : Hid (ya < 32767 → yb < 32767 → ((xj - xb) != (vb - vj)) = false) := hq
                have z2 : ∀ W : Ov wr, W.wd.cell? ⟨bx, ox + bn, none⟩ = some (.int .i64 xb) := ov_cell cb
                have z3 : ∀ W : Ov wr, W.wd.cell? ⟨bx, ox + j, none⟩ = some (.int .i64 xj) := ov_cell cj
                have z4 : ∀ W : Ov wr, W.wd.cell? ⟨bl, ol + bn, none⟩ = some (.int .i64 vb) := ov_cell lb
                have z5 : ∀ W : Ov wr, W.wd.cell? ⟨bl, ol + j, none⟩ = some (.int .i64 vj) := ov_cell lj
                have ne1 : Nonempty (Ov wr) := ⟨⟨_, Below.refl _ _⟩⟩
                have k1 : (k : Int) < (H'.length : Int) := by omega
                have k2 : (bn : Int) < (xs4.length : Int) := by omega
                have k3 : (j : Int) < (xs4.length : Int) := by omega
                have k4 : (bn : Int) < (lev.length : Int) := by omega
                have k5 : (j : Int) < (lev.length : Int) := by omega
                clear hbn hbm hch hcl q1 q2 cb cj lb lj hdiff hya hyb hq
                by_cases hA : ya < 32767
                · by_cases hB : yb < 32767
                  · have hC := HQ.out hA hB
                    go_wp2
                    refine region_over (by kernel_rfl) (by kernel_rfl) ?_
                    repeat (go_big_quiet_step (first | (go_at_call 30; exact HA.out _) | (go_at_call 30; exact HB.out _)))
                    refine wpQuiet_nil ?_
                    rintro _ ⟨W, rfl⟩
                    go_wp2
                    go_roundw
                    case rel => exact ⟨k + 1, by omega, by go_num, Sk.out.below W.ok, Xk.out.below W.ok, Rk.out.below W.ok⟩
                    case measure => simp [intOf]; omega
                  · have hB2 : decide (yb < 32767) = false := by simp; omega
                    go_wp2
                    refine region_over (by kernel_rfl) (by kernel_rfl) ?_
                    repeat (go_big_quiet_step (first | (go_at_call 30; exact HA.out _) | (go_at_call 30; exact HB.out _)))
                    refine wpQuiet_nil ?_
                    rintro _ ⟨W, rfl⟩
                    go_wp2
                    go_roundw
                    case rel => exact ⟨k + 1, by omega, by go_num, Sk.out.below W.ok, Xk.out.below W.ok, Rk.out.below W.ok⟩
                    case measure => simp [intOf]; omega
                · have hA2 : decide (ya < 32767) = false := by simp; omega
                  go_wp2
                  refine region_over (by kernel_rfl) (by kernel_rfl) ?_
                  repeat (go_big_quiet_step (first | (go_at_call 30; exact HA.out _) | (go_at_call 30; exact HB.out _)))
                  refine wpQuiet_nil ?_
                  rintro _ ⟨W, rfl⟩
                  go_wp2
                  go_roundw
                  case rel => exact ⟨k + 1, by omega, by go_num, Sk.out.below W.ok, Xk.out.below W.ok, Rk.out.below W.ok⟩
                  case measure => simp [intOf]; omega
              · have hi2 : ¬ (k : Int) < (H'.length : Int) := by omega
                go_wp2
                go_roundw
                case rel => exact ⟨j + 1, by omega, by go_num, Sk.out, Xk.out⟩
                case measure => simp [intOf]; omega
          · have hz2 : ((H'.length : Int) == 0) = false := by rw [beq_eq_false_iff_ne]; omega
            clear hz hzero hH
            go_wp2_with (go_at_call 30; refine (HABS.out _).mono ?_; rintro e w9 ⟨rfl, rfl⟩)
            go_loopw [13] (fun i wr => ∃ k : Nat, k ≤ H'.length ∧ i = .int .i64 k ∧ Hid (Hmx w n (.slice a2 ln2 c2) cs (.slice au lev.length cu) lev P wr) ∧ Hid (Rd .i64 wr (.slice (some ⟨bx, ox, none⟩) xs4.length c3) xs4) ∧ Hid (Rd .i64 wr (.slice a8 H'.length c8) H')) (fun i _ => H'.length - (intOf i).toNat)
            case atStart => exact ⟨0, by omega, rfl, S8.out, X8.out, R8.out⟩
            case round =>
              obtain ⟨k, hk, rfl, Sk, Xk, Rk⟩ := hrel
              clear S8 X8 R8
              by_cases hkl : k < H'.length
              · obtain ⟨bn, hbn, hbm, hbl⟩ := HMB.out k hkl
                obtain ⟨bh, oh, ha8, hch⟩ := rd_cells Rk.out hkl
                obtain ⟨bl, ol, hau, hcl⟩ := rd_cells Sk.out.lv (show j < lev.length by omega)
                subst ha8
                subst hau
                have ck : wr.cell? ⟨bh, oh + k, none⟩ = some (.int .i64 bn) := by rw [hch k hkl, hbn]; rfl
                obtain ⟨q1, q2, q3⟩ := HVX.out bn hbl
                have cb : wr.cell? ⟨bx, ox + bn, none⟩ = some (.int .i64 (clip (heardSum cs lev bn))) := by rw [(rd_at Xk.out bx ox rfl bn q3), q1]; rfl
                have cj : wr.cell? ⟨bx, ox + j, none⟩ = some (.int .i64 xj) := by rw [(rd_at Xk.out bx ox rfl j hjx), HXJ.out]; rfl
                have lb : wr.cell? ⟨bl, ol + bn, none⟩ = some (.int .i64 (lv lev bn)) := by rw [hcl bn (by omega), q2]; rfl
                have lj : wr.cell? ⟨bl, ol + j, none⟩ = some (.int .i64 (lv lev j)) := by rw [hcl j (by omega), (HVX.out j (by omega)).2.1]; rfl
                have hdiff : ((-32767 < xj ∧ xj < 32767) ∧ (-32767 < clip (heardSum cs lev bn) ∧ clip (heardSum cs lev bn) < 32767)) → xj - clip (heardSum cs lev bn) = lv lev bn - lv lev j := fun h => by
                  rw [← HXC.out] at h ⊢
                  exact mixed_diff HOK.out hbm lev h.1 h.2
                have bb1 := clip_bd (heardSum cs lev bn)
                have bb2 := lv_bd HLV.out (bn : Int)
                have bb3 := lv_bd HLV.out (j : Int)
                generalize clip (heardSum cs lev bn) = xb at cb hdiff bb1
                generalize lv lev bn = vb at lb hdiff bb2
                generalize lv lev j = vj at lj hdiff bb3
                obtain ⟨ya, hya⟩ : ∃ ya, (if xj < 0 then -xj else xj) = ya := ⟨_, rfl⟩
                obtain ⟨yb, hyb⟩ : ∃ yb, (if xb < 0 then -xb else xb) = yb := ⟨_, rfl⟩
                have HA : Hid (∀ W : Ov wr, Calls Try.prog 30 #[.int .i64 xj] W.wd fun e w'' => e = .returned (.int .i64 ya) ∧ ∃ W' : Ov wr, w'' = W'.wd) := fun W => ov_call ((abs_c xj (by omega) W.wd).mono fun e w' ⟨h1, h2⟩ => ⟨by rw [h1, hya], by rw [h2]; exact Below.refl _ _⟩)
                have HB : Hid (∀ W : Ov wr, Calls Try.prog 30 #[.int .i64 xb] W.wd fun e w'' => e = .returned (.int .i64 yb) ∧ ∃ W' : Ov wr, w'' = W'.wd) := fun W => ov_call ((abs_c xb (by omega) W.wd).mono fun e w' ⟨h1, h2⟩ => ⟨by rw [h1, hyb], by rw [h2]; exact Below.refl _ _⟩)
                have hq : ya < 32767 → yb < 32767 → ((xj - xb) != (vb - vj)) = false := fun h1 h2 => by
                  have := hdiff ⟨by split at hya <;> omega, by split at hyb <;> omega⟩
                  simp [this]
                have HQ : Hid (ya < 32767 → yb < 32767 → ((xj - xb) != (vb - vj)) = false) := hq
                have z2 : ∀ W : Ov wr, W.wd.cell? ⟨bx, ox + bn, none⟩ = some (.int .i64 xb) := ov_cell cb
                have z3 : ∀ W : Ov wr, W.wd.cell? ⟨bx, ox + j, none⟩ = some (.int .i64 xj) := ov_cell cj
                have z4 : ∀ W : Ov wr, W.wd.cell? ⟨bl, ol + bn, none⟩ = some (.int .i64 vb) := ov_cell lb
                have z5 : ∀ W : Ov wr, W.wd.cell? ⟨bl, ol + j, none⟩ = some (.int .i64 vj) := ov_cell lj
                have ne1 : Nonempty (Ov wr) := ⟨⟨_, Below.refl _ _⟩⟩
                have k1 : (k : Int) < (H'.length : Int) := by omega
                have k2 : (bn : Int) < (xs4.length : Int) := by omega
                have k3 : (j : Int) < (xs4.length : Int) := by omega
                have k4 : (bn : Int) < (lev.length : Int) := by omega
                have k5 : (j : Int) < (lev.length : Int) := by omega
                clear hbn hbm hch hcl q1 q2 cb cj lb lj hdiff hya hyb hq
                by_cases hA : ya < 32767
                · by_cases hB : yb < 32767
                  · have hC := HQ.out hA hB
                    go_wp2
                    refine region_over (by kernel_rfl) (by kernel_rfl) ?_
                    repeat (go_big_quiet_step (first | (go_at_call 30; exact HA.out _) | (go_at_call 30; exact HB.out _)))
                    refine wpQuiet_nil ?_
                    rintro _ ⟨W, rfl⟩
                    go_wp2
                    go_roundw
                    case rel => exact ⟨k + 1, by omega, by go_num, Sk.out.below W.ok, Xk.out.below W.ok, Rk.out.below W.ok⟩
                    case measure => simp [intOf]; omega
                  · have hB2 : decide (yb < 32767) = false := by simp; omega
                    go_wp2
                    refine region_over (by kernel_rfl) (by kernel_rfl) ?_
                    repeat (go_big_quiet_step (first | (go_at_call 30; exact HA.out _) | (go_at_call 30; exact HB.out _)))
                    refine wpQuiet_nil ?_
                    rintro _ ⟨W, rfl⟩
                    go_wp2
                    go_roundw
                    case rel => exact ⟨k + 1, by omega, by go_num, Sk.out.below W.ok, Xk.out.below W.ok, Rk.out.below W.ok⟩
                    case measure => simp [intOf]; omega
                · have hA2 : decide (ya < 32767) = false := by simp; omega
                  go_wp2
                  refine region_over (by kernel_rfl) (by kernel_rfl) ?_
                  repeat (go_big_quiet_step (first | (go_at_call 30; exact HA.out _) | (go_at_call 30; exact HB.out _)))
                  refine wpQuiet_nil ?_
                  rintro _ ⟨W, rfl⟩
                  go_wp2
                  go_roundw
                  case rel => exact ⟨k + 1, by omega, by go_num, Sk.out.below W.ok, Xk.out.below W.ok, Rk.out.below W.ok⟩
                  case measure => simp [intOf]; omega
              · have hi2 : ¬ (k : Int) < (H'.length : Int) := by omega
                go_wp2
                go_roundw
                case rel => exact ⟨j + 1, by omega, by go_num, Sk.out, Xk.out⟩
                case measure => simp [intOf]; omega
        · go_wp2
          go_ret
          exact ⟨rfl, Sr.out.bel⟩
end Go.Proofs.Ytcbeaimpmjljjaa
namespace Go.Proofs.Ytcbeaimpmjljjaa
open Go.RowKit Go.ChangeShapes Go.WideShapes Go.ChangeAt
set_option linter.unusedVariables false
set_option linter.unusedSimpArgs false
set_option maxRecDepth 8000

set_option maxRecDepth 100000 in
theorem lifted6 (os : Os) (started : os.Started) (H : Type) (enc : TypeId × Value → H) :
    ReturnsInHanded {} Try.checked os 6 .any (Rows.fnMixedSpec.pre6 enc Try.prog Try.f6 Rows.fnMixedRow.domain false) (Rows.fnMixedSpec.post enc Try.prog Try.f6 false true false false) := by
  refine returnsInHanded_of_change (C := Try.checked) own started (by kernel_rfl) Try.func6
    (ChangeSpec.witness6 (enc := enc) (C := Try.checked) false ⟨#[], #[.slice none 0 0], []⟩ 8 (by kernel_rfl) (by kernel_rfl) (by kernel_rfl) (by kernel_rfl)) ?_
  intro W base args ds gs before hval0 hW hcnd _
  have hval : ∀ (j : Nat) t v, Try.f6.params[j]? = some t → args[j]? = some v → Value.okWide Try.prog W .any base t v := hval0
  have hW' := hW
  obtain ⟨p, q, hA0, hV, rfl, hfz, hnd⟩ := hW
  have hA : DataW.TrodAll enc Try.prog W 0 (fun _ => true) true Try.f6.params.toList args.toList ds p := hA0
  rw [Try.params6] at hA hval
  obtain ⟨v0, vs0, d0, ds0, p0, q0, hargs, rfl, rfl, h0, rr0⟩ := trodAll_cons hA
  obtain ⟨rfl, rfl, rfl⟩ := trodAll_nil rr0
  obtain rfl : args = #[v0] := by cases args; simp_all
  obtain ⟨rfl, rfl⟩ := trodVars_none hV
  have lt0 : ∀ x ∈ p0, x.block < W.heap.size := by obtain ⟨m, hm⟩ := h0; exact DataW.trod_lt m _ _ _ hm
  obtain ⟨a0, len0, cap0, rfl⟩ := okWide_slice Try.underlying22 (hval 0 22 v0 rfl rfl)
  obtain ⟨z0, r0, wz0⟩ := openRow Try.underlying22 Try.underlying5 (by kernel_rfl) h0
  clear hA0 hval0
  refine (law6 _ z0 W r0 wz0).mono fun e W' ⟨he, bel⟩ => ?_
  subst he
  exact ⟨_, rfl, _, _, _, [], _, [], hW', trodAll_mk1 (shut_bool Try.underlying4 _), (trodAll_cons_mk (Below.trod laidOut (by kernel_rfl) (of_decide_eq_true (by kernel_rfl)) h0 bel lt0) trodAll_mk0), rfl, bel.frame _, fun h => by cases h⟩

theorem mixedsProved : Rows.FnMixedSaid :=
  OpenClaim.holds_of_wide 6 Try.f6 rfl rfl rfl rfl rfl rfl rfl ⟨rfl, rfl, rfl, rfl, rfl⟩ rfl rfl rfl rfl rfl (by kernel_rfl) Try.func6 (by kernel_rfl)
    (of_decide_eq_true (by kernel_rfl)) (by unfold Func.isWrapper; first | (rw [if_pos (by decide +kernel)]; kernel_rfl) | (rw [if_neg (by decide +kernel)]; exact ⟨rfl, rfl⟩))
    (fun os started H enc _ => lifted6 os started H enc)
#print axioms mixedsProved

end Go.Proofs.Ytcbeaimpmjljjaa
