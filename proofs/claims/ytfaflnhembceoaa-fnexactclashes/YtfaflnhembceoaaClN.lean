/- The clashes of one subscriber; no condition. -/
import Derived.Test.YtfaflnhembceoaaClM
import Derived.Test.YtfaflnhembceoaaClJ
import Derived.Test.YtfaflnhembceoaaDet
namespace Go.Proofs.Ytfaflnhembceoaa
open Go.RowKit Go.ChangeShapes Go.WideShapes Go.ChangeAt
set_option linter.unusedVariables false
set_option linter.unusedSimpArgs false
set_option maxRecDepth 8000

theorem info115 : (Try.prog.info? 115).map (fun i => (i.zero, i.size, i.bytes)) = some (some (.slice none 0 0), 1, 24) := by kernel_rfl
/-- what is at work: the calls, and the ends of each without one feature, j of these done -/
structure Cw (cs : Sbs) (t : Nat) (w : World) (vc : Value) (g L j : Nat) (ve : List Value) (W : World) : Prop where
  bel : Below w.heap.size w W
  cal : Op mf mg 68 w.heap.size W vc (clsF cs t (cs.length * cs.length))
  len : ve.length = L
  row : W.ownsRow w.heap.size 115 1 (.slice (some ⟨g, 0, none⟩) L L) L ve
  ens : ∀ i, i < j → Op mf mg 146 w.heap.size W (ve.getD i undef) (ensF (woS cs t i (-1)) (clsF cs t (cs.length * cs.length)))
theorem Cw.below {cs : Sbs} {t : Nat} {w : World} {vc : Value} {g L j : Nat} {ve : List Value} {W W' : World} (h : Cw cs t w vc g L j ve W) (hb : Below W.heap.size W W') : Cw cs t w vc g L j ve W' :=
  ⟨belowCall h.bel hb h.bel.size, h.cal.below hb, h.len, World.ownsRow.kept h.row (below_grown hb) (by cases Value.ownBlock _ <;> simp), fun i hi => (h.ens i hi).below hb⟩
theorem Cw.app {cs : Sbs} {t : Nat} {w : World} {vc : Value} {g L j : Nat} {ve : List Value} {W W' : World} {v : Value} {n : Nat} {xs : List Value} (h : Cw cs t w vc g L j ve W) (ho : W.ownsRow w.heap.size 82 5 v n xs) (hg : W.grownBy W' v.ownBlock) : Cw cs t w vc g L j ve W' :=
  ⟨h.bel.trans (grown_lt ho hg (Nat.le_refl _) h.bel.size), World.ownsRow.kept h.cal hg (own_tag h.cal ho (by decide)), h.len, World.ownsRow.kept h.row hg (own_tag h.row ho (by decide)), fun i hi => World.ownsRow.kept (h.ens i hi) hg (own_tag (h.ens i hi) ho (by decide))⟩
theorem Cw.put {cs : Sbs} {t : Nat} {w : World} {vc : Value} {g L j : Nat} {ve : List Value} {W : World} {v : Value} (h : Cw cs t w vc g L j ve W) (hj : j < L) (ho : Op mf mg 146 w.heap.size W v (ensF (woS cs t j (-1)) (clsF cs t (cs.length * cs.length)))) : Cw cs t w vc g L (j + 1) (ve.set j v) (W.setCell ⟨g, j, none⟩ v) := by
  have hg := (World.ownsRow.stored h.row j v).2
  have hgb : w.heap.size ≤ g := (World.ownsRow.lt h.row g rfl).1
  refine ⟨h.bel.setCell hgb _, World.ownsRow.kept h.cal hg (own_tag h.cal h.row (by decide)), by simp [h.len], (World.ownsRow.stored h.row j v).1, fun i hi => ?_⟩
  by_cases e : i = j
  · subst e
    rw [show (ve.set i v).getD i undef = v by simp [List.getD_eq_getElem?_getD, h.len, hj]]
    exact World.ownsRow.kept ho hg (own_tag ho h.row (by decide))
  · rw [show (ve.set j v).getD i undef = ve.getD i undef by simp [List.getD_eq_getElem?_getD, List.getElem?_set_ne (show j ≠ i by omega)]]
    have h1 := h.ens i (by omega)
    exact World.ownsRow.kept h1 hg (own_tag h1 h.row (by decide))
theorem Rd.two (w : World) (x y : Int) : Rd .i64 (w.alloc (.cells #[.int .i64 x, .int .i64 y] 3)) (.slice (some ⟨w.heap.size, 0, none⟩) 2 2) [x, y] := by
  refine ⟨_, 2, rfl, by simp, by unfold maxLen; omega, .inr ⟨w.heap.size, 0, rfl, fun i hi => ?_⟩⟩
  have hc := (Blk.new w #[.int .i64 x, .int .i64 y] 3).cell i
  rw [Nat.zero_add, hc]
  match i, hi with
  | 0, _ => rfl
  | 1, _ => rfl
structure Ra (Wd : World) (cs : Sbs) (t : Nat) (i : Nat) (k : Nat) (b : Nat) (off : Nat) (n : Nat) (cap : Nat) (ac : Option Addr) (lc : Nat) (cc : Nat) (g : Nat) (L : Nat) (a1 : Option Addr) (l1 : Nat) (c1 : Nat) (a3 : Option Addr) (l3 : Nat) (c3 : Nat) (d : Nat → Bool) (W : World) (v0 v1 v2 v3 v4 v5 v6 v7 v8 v9 v10 v11 v12 v13 v14 v15 v16 : Value) (X : Nat) (a6 : Option Addr) (c6 : Nat) (r : Int) : Prop where
  bel : Below Wd.heap.size Wd W
  f0 : d 0 = true → v0 = .slice (some ⟨b, off, none⟩) n cap
  f1 : d 1 = true → v1 = .int .i64 (t : Int)
  f2 : d 2 = true → v2 = .int .i64 (i : Int)
  f3 : d 3 = true → v3 = .int .i64 (k : Int)
  f4 : d 4 = true → v4 = .slice (some ⟨X, 0, none⟩) 2 2
  f5 : d 5 = true → v5 = .slice a6 n c6
  f6 : d 6 = true → v6 = .slice ac lc cc
  f7 : d 7 = true → v7 = .slice (some ⟨g, 0, none⟩) L L
  f8 : d 8 = true → v8 = .int .i64 (i : Int)
  f9 : d 9 = true → v9 = .pointer (some ⟨g, i, none⟩)
  f10 : d 10 = true → v10 = .slice a1 l1 c1
  f11 : d 11 = true → v11 = .slice (some ⟨g, 0, none⟩) L L
  f12 : d 12 = true → v12 = .int .i64 (k : Int)
  f13 : d 13 = true → v13 = .pointer (some ⟨g, k, none⟩)
  f14 : d 14 = true → v14 = .slice a3 l3 c3
  f15 : d 15 = true → v15 = .int .i64 r
  f16 : d 16 = true → v16 = .int .i64 r
  z4 : d 4 = true → Rd .i64 W (.slice (some ⟨X, 0, none⟩) 2 2) [(i : Int), (k : Int)]
  r5 : d 5 = true → RdL W (.slice a6 n c6) (woS cs t i k)
  u15 : d 15 = true → UtS (ensF (woS cs t i (-1)) (clsF cs t (cs.length * cs.length))) (ensF (woS cs t k (-1)) (clsF cs t (cs.length * cs.length))) (ensF (woS cs t i k) (clsF cs t (cs.length * cs.length))) (clsF cs t (cs.length * cs.length)).length r
  g16_15 : d 16 = true → d 15 = true
def RaS (Wd : World) (cs : Sbs) (t : Nat) (i : Nat) (k : Nat) (b : Nat) (off : Nat) (n : Nat) (cap : Nat) (ac : Option Addr) (lc : Nat) (cc : Nat) (g : Nat) (L : Nat) (a1 : Option Addr) (l1 : Nat) (c1 : Nat) (a3 : Option Addr) (l3 : Nat) (c3 : Nat) (d : Nat → Bool) (q : List Value) (W : World) : Prop := ∃ v0 v1 v2 v3 v4 v5 v6 v7 v8 v9 v10 v11 v12 v13 v14 v15 v16 X a6 c6 r, q = [v0, v1, v2, v3, v4, v5, v6, v7, v8, v9, v10, v11, v12, v13, v14, v15, v16] ∧ Ra Wd cs t i k b off n cap ac lc cc g L a1 l1 c1 a3 l3 c3 d W v0 v1 v2 v3 v4 v5 v6 v7 v8 v9 v10 v11 v12 v13 v14 v15 v16 X a6 c6 r
theorem Ra.below {Wd : World} {cs : Sbs} {t : Nat} {i : Nat} {k : Nat} {b : Nat} {off : Nat} {n : Nat} {cap : Nat} {ac : Option Addr} {lc : Nat} {cc : Nat} {g : Nat} {L : Nat} {a1 : Option Addr} {l1 : Nat} {c1 : Nat} {a3 : Option Addr} {l3 : Nat} {c3 : Nat} {d : Nat → Bool} {W W' : World} {v0 v1 v2 v3 v4 v5 v6 v7 v8 v9 v10 v11 v12 v13 v14 v15 v16 : Value} {X : Nat} {a6 : Option Addr} {c6 : Nat} {r : Int} (h : Ra Wd cs t i k b off n cap ac lc cc g L a1 l1 c1 a3 l3 c3 d W v0 v1 v2 v3 v4 v5 v6 v7 v8 v9 v10 v11 v12 v13 v14 v15 v16 X a6 c6 r) (hb : Below W.heap.size W W') : Ra Wd cs t i k b off n cap ac lc cc g L a1 l1 c1 a3 l3 c3 d W' v0 v1 v2 v3 v4 v5 v6 v7 v8 v9 v10 v11 v12 v13 v14 v15 v16 X a6 c6 r :=
  { h with
    bel := belowCall h.bel hb h.bel.size
    z4 := fun e0 => (h.z4 e0).below hb
    r5 := fun e0 => (h.r5 e0).below hb
  }
def CkR (cs : Sbs) (t : Nat) (w : World) (e : Ending) (w' : World) : Prop := ∃ v', e = .returned v' ∧ Og 5 chC 82 w.heap.size w' v' (clI cs t (fLen cs t)) ∧ Below w.heap.size w w'
set_option maxHeartbeats 6400000 in
theorem clashesOf_c (v : Value) (cs : Sbs) (t : Nat) (w : World) (h : RdL w v cs) (hok : SbOk cs) (ht : t < cs.length) : Calls Try.prog 54 #[v, .int .i64 (t : Int)] w (CkR cs t w) := by
  have HRD : Hid (RdL w v cs) := h
  have HOK : Hid (SbOk cs) := hok
  have HFL : Hid (fLen cs t ≤ 128) := (hok.at t ht).len (by have := hok.2.1; omega)
  obtain ⟨a, cap, hv, g1, g2⟩ := h.len
  subst hv
  unfold maxLen at g2
  have HT : Hid (t < cs.length) := ht
  have HCL : Hid ((clsF cs t (cs.length * cs.length)).length ≤ 256) := by
    have h1 := clsF_len cs t (cs.length * cs.length)
    have h2 : cs.length * cs.length ≤ 16 * 16 := Nat.mul_le_mul hok.2.1 hok.2.1
    show _ ≤ _
    omega
  obtain ⟨n, hnn⟩ : ∃ n, cs.length = n := ⟨_, rfl⟩
  have HN : Hid (cs.length = n) := hnn
  have n16 : n ≤ 16 := by rw [← hnn]; exact hok.2.1
  obtain ⟨b, off, v3, hab, hcb, hR, -, -, d2⟩ := h.at t ht
  subst hab
  obtain ⟨a2, cap2, hv3⟩ := hR.slice
  subst hv3
  have hfl : fLen cs t = cs[t].2.2.length := by rw [fLen, List.getD_eq_getElem?_getD, List.getElem?_eq_getElem ht]; rfl
  obtain ⟨L, hL⟩ : ∃ L, fLen cs t = L := ⟨_, rfl⟩
  replace d2 : w.cell? ⟨b, off + t * 3 + 2, none⟩ = some (.slice a2 L cap2) := by rw [← hL, hfl]; exact d2
  have HLL : Hid (fLen cs t = L) := hL
  have L128 : L ≤ 128 := by rw [← hL]; exact HFL.out
  rw [hnn] at g1 ht HRD ⊢
  obtain ⟨i0, hi, hz0, hz1, hz2⟩ := info_parts info115
  clear h hok hnn hR hL hfl
  go_enter Try.func54, Try.ntmps54
  go_wp2_with (fail)
  refine (callsAt_c _ cs t w HRD.out HOK.out (by omega)).mono ?_
  rintro e w1 ⟨vc, rfl, oc, b1⟩
  obtain ⟨ac, cc, hvc⟩ := own_form2 oc
  obtain ⟨lc, hlc⟩ : ∃ lc, (clsF cs t (cs.length * cs.length)).length = lc := ⟨_, rfl⟩
  have HLC : Hid ((clsF cs t (cs.length * cs.length)).length = lc) := hlc
  rw [hlc] at hvc
  subst hvc
  have lc256 : lc ≤ 256 := by rw [← hlc]; exact HCL.out
  have O1 : Hid (Op mf mg 68 w.heap.size w1 (.slice ac lc cc) (clsF cs t (cs.length * cs.length))) := oc
  have B1 : Hid (Below w.heap.size w w1) := b1
  have c2 := (b1.cell (p := ⟨b, off + t * 3 + 2, none⟩) hcb).trans d2
  clear oc b1 hlc
  go_wp2_with (at_make; refine wpList_make_full _ rfl _ _ 114 rfl w1.heap.size 115 i0 (.slice none 0 0) 1 Try.underlying114 hi hz0 hz1 .i64 .i64 _ _ L rfl rfl rfl rfl (by rw [hz2]; omega) (by unfold maxLen; omega) (Nat.le_refl _) ?_)
  intro w2 ho hg
  have S1 : w.heap.size ≤ w1.heap.size := B1.out.size
  have bM : Below w1.heap.size w1 w2 := grown_below hg (Nat.le_refl _) (by simp)
  obtain ⟨ve0, hve0⟩ : ∃ ve, (madeCells (Value.slice none 0 0).cells (L * 1)).toList = ve := ⟨_, rfl⟩
  have C2 : Hid (Cw cs t w (.slice ac lc cc) w1.heap.size L 0 ve0 w2) := by
    refine ⟨belowCall B1.out bM S1, O1.out.below bM, by rw [← hve0]; simp [madeCells], ?_, fun i hi => by omega⟩
    rw [← hve0]
    have h0 : w2.ownsRow w1.heap.size 115 1 (.slice (some ⟨w1.heap.size, 0, none⟩) L L) L (madeCells (Value.slice none 0 0).cells (L * 1)).toList := by simpa [Value.cells] using ho
    exact ⟨h0.1, by rcases h0.2 with q | ⟨x1, x2, x3, q1, q2, q3⟩; exact .inl q; exact .inr ⟨x1, x2, x3, q1, Nat.le_trans S1 q2, q3⟩⟩
  obtain ⟨g, hg0⟩ : ∃ g, w1.heap.size = g := ⟨_, rfl⟩
  rw [hg0] at C2 ⊢
  clear ho hg bM c2 O1 B1 hve0 S1 hg0
  go_wp2
  go_loopw [24] (fun i wr => ∃ j : Nat, ∃ ve, j ≤ L ∧ i = .int .i64 j ∧ Hid (Cw cs t w (.slice ac lc cc) g L j ve wr)) (fun i _ => L - (intOf i).toNat)
  case atStart => exact ⟨0, _, Nat.zero_le _, rfl, C2.out⟩
  case round =>
    obtain ⟨j, ve, hj, rfl, CJ⟩ := hrel
    clear C2
    by_cases hlt : j < L
    case pos =>
      obtain ⟨W3, hW3⟩ : ∃ W3, wr.alloc (Obj.cells #[.int .i64 (j : Int)] 3) = W3 := ⟨_, rfl⟩
      have bA : Below wr.heap.size wr W3 := by rw [← hW3]; exact (Below.refl _ _).alloc (Nat.le_refl _) _
      have C3 : Hid (Cw cs t w (.slice ac lc cc) g L j ve W3) := CJ.out.below bA
      have Z3 : Hid (Rd .i64 W3 (.slice (some ⟨wr.heap.size, 0, none⟩) 1 1) [(j : Int)]) := by
        show Rd _ _ _ _
        refine ⟨_, 1, rfl, by simp, by unfold maxLen; omega, .inr ⟨wr.heap.size, 0, rfl, fun i hi => ?_⟩⟩
        have hi' : i = 0 := by simp at hi; omega
        subst hi'
        rw [← hW3]
        exact (Blk.new wr #[.int .i64 (j : Int)] 3).cell 0
      clear bA CJ
      go_wp2_with (fail)
      clear hW3
      refine (withoutI_c _ _ cs t [(j : Int)] j (-1) W3 (HRD.out.below C3.out.bel) HT.out (by rw [HN.out]; omega) (by have := HLL.out; unfold fLen at this; omega) Z3.out (fun q => by simp)).mono ?_
      rintro e w4 ⟨v4, rfl, r4, b4⟩
      have C4 : Hid (Cw cs t w (.slice ac lc cc) g L j ve w4) := C3.out.below b4
      have R4 : Hid (RdL w4 v4 (woS cs t j (-1))) := r4
      obtain ⟨a4, c4, e4⟩ : ∃ a c, v4 = .slice a n c := by obtain ⟨a, c, e, -⟩ := r4.len; rw [woS_len, HN.out] at e; exact ⟨a, c, e⟩
      subst e4
      clear r4 b4 C3 Z3
      go_wp2_with (fail)
      refine (endsOf_c _ _ (woS cs t j (-1)) (clsF cs t (cs.length * cs.length)) w4 R4.out (woS_ok HOK.out HT.out) C4.out.cal.rd ((clsF_ok cs t).wo t j (-1)) (by have := HCL.out; omega)).mono ?_
      rintro e w5 ⟨v5, rfl, o5, b5⟩
      have c5 : Cw cs t w (.slice ac lc cc) g L j ve w5 := C4.out.below b5
      have o5' : Op mf mg 146 w.heap.size w5 v5 (ensF (woS cs t j (-1)) (clsF cs t (cs.length * cs.length))) := o5.mono C4.out.bel.size
      obtain ⟨a5, c5', e5⟩ := own_form2 o5
      obtain ⟨l5, hl5⟩ : ∃ l, (ensF (woS cs t j (-1)) (clsF cs t (cs.length * cs.length))).length = l := ⟨_, rfl⟩
      rw [hl5] at e5
      subst e5
      have C6 : Hid (Cw cs t w (.slice ac lc cc) g L (j + 1) (ve.set j (.slice a5 l5 c5')) (w5.setCell ⟨g, j, none⟩ (.slice a5 l5 c5'))) := c5.put hlt o5'
      have fr := World.ownsRow.frozenAt c5.row j
      obtain ⟨u0, hu0⟩ : ∃ u, w5.cell? ⟨g, j, none⟩ = some u := ⟨_, (World.ownsRow.cellAt c5.row j (by omega)).trans (List.getElem?_eq_getElem (by rw [c5.len]; exact hlt))⟩
      clear o5 b5 c5 o5' hl5 C4 R4
      go_wp2
      go_roundw
      case rel => exact ⟨j + 1, _, by omega, by go_num, C6.out⟩
      case measure => simp [intOf]; omega
    case neg =>
    obtain rfl : L = j := by omega
    have OG : Hid (Og 5 chC 82 w.heap.size wr (.slice none 0 0) ([] : List Ch)) := Og.nil _ _ _ _ _
    go_wp2
    go_loopw [8, 40] (fun lf i wr => ∃ j : Nat, ∃ al ll cl, j ≤ L ∧ i = .int .i64 j ∧ lf = .slice al ll cl ∧ Hid (Cw cs t w (.slice ac lc cc) g L L ve wr) ∧ Hid (Og 5 chC 82 w.heap.size wr (.slice al ll cl) (clI cs t j))) (fun _ i _ => L - (intOf i).toNat)
    case atStart => exact ⟨0, _, _, _, Nat.zero_le _, rfl, rfl, CJ.out, OG.out⟩
    case round =>
      obtain ⟨i, al, ll, cl, hi', rfl, rfl, CI, OI⟩ := hrel
      clear OG CJ
      by_cases hli : i < L
      case neg =>
        obtain rfl : L = i := by omega
        go_wp2
        go_ret
        exact ⟨_, rfl, by rw [HLL.out]; exact OI.out, CI.out.bel⟩
      case pos =>
      go_wp2
      go_loopw [8, 10] (fun lf q wr => ∃ k : Nat, ∃ al ll cl, k ≤ L ∧ i < k ∧ q = .int .i64 k ∧ lf = .slice al ll cl ∧ Hid (Cw cs t w (.slice ac lc cc) g L L ve wr) ∧ Hid (Og 5 chC 82 w.heap.size wr (.slice al ll cl) (clI cs t i ++ clK cs t i k))) (fun _ q _ => L - (intOf q).toNat)
      case atStart => exact ⟨i + 1, _, _, _, by omega, by omega, by go_num, rfl, CI.out, by show Og _ _ _ _ _ _ _; rw [clK_start, List.append_nil]; exact OI.out⟩
      case round =>
        obtain ⟨k, al, ll, cl, hk, hik, rfl, rfl, CK, OK⟩ := hrel
        clear CI OI
        by_cases hlk : k < L
        case neg =>
          obtain rfl : L = k := by omega
          have HE : Hid (clI cs t (i + 1) = clI cs t i ++ clK cs t i L) := by show _ = _; rw [clI_succ, HLL.out]
          go_wp2
          go_roundw
          case rel => exact ⟨i + 1, _, _, _, by omega, by go_num, rfl, CK.out, by show Og _ _ _ _ _ _ _; rw [HE.out]; exact OK.out⟩
          case measure => simp [intOf]; omega
        case pos =>
        obtain ⟨a1, l1, c1, hei⟩ : ∃ a l c, ve.getD i undef = .slice a l c := by obtain ⟨a, c, e⟩ := own_form2 (CK.out.ens i hli); exact ⟨a, _, c, e⟩
        obtain ⟨a3, l3, c3, hek⟩ : ∃ a l c, ve.getD k undef = .slice a l c := by obtain ⟨a, c, e⟩ := own_form2 (CK.out.ens k hlk); exact ⟨a, _, c, e⟩
        have HEI : Hid (ve.getD i undef = .slice a1 l1 c1) := hei
        have HEK : Hid (ve.getD k undef = .slice a3 l3 c3) := hek
        have CWF : Hid (∀ W, Below wr.drew.heap.size wr.drew W → Cw cs t w (.slice ac lc cc) g L L ve W) := fun W hW => CK.out.below ⟨hW.os, hW.tape, hW.output, hW.size, hW.block⟩
        have CE : Hid (∀ W, Below wr.drew.heap.size wr.drew W → W.cell? ⟨g, i, none⟩ = some (.slice a1 l1 c1) ∧ W.cell? ⟨g, k, none⟩ = some (.slice a3 l3 c3)) := fun W hW => by
          have hc := CWF.out W hW
          have e1 := World.ownsRow.cellAt hc.row i (by omega)
          have e3 := World.ownsRow.cellAt hc.row k (by omega)
          have g1 : ve[i]? = some (ve.getD i undef) := by rw [List.getD_eq_getElem?_getD, List.getElem?_eq_getElem (by rw [hc.len]; exact hli)]; rfl
          have g3 : ve[k]? = some (ve.getD k undef) := by rw [List.getD_eq_getElem?_getD, List.getElem?_eq_getElem (by rw [hc.len]; exact hlk)]; rfl
          exact ⟨by rw [e1, g1, HEI.out], by rw [e3, g3, HEK.out]⟩
        have i0' : (0 : Int) ≤ (i : Int) := by omega
        have i1' : (i : Int) < (L : Int) := by omega
        have k0' : (0 : Int) ≤ (k : Int) := by omega
        have k1' : (k : Int) < (L : Int) := by omega
        have OKF : Hid (∀ W, Below wr.drew.heap.size wr.drew W → Og 5 chC 82 w.heap.size W (.slice al ll cl) (clI cs t i ++ clK cs t i k)) := fun W hW => OK.out.below ⟨hW.os, hW.tape, hW.output, hW.size, hW.block⟩
        clear hei hek CK OK
        go_wp2
        refine region_vals [undef, undef, undef, undef, undef, undef, undef, undef, undef, undef, undef, undef, undef, undef, undef, undef, undef] (RaS (wr.drew) (cs) (t) (i) (k) (b) (off) (n) (cap) (ac) (lc) (cc) (g) (L) (a1) (l1) (c1) (a3) (l3) (c3)) (by kernel_rfl) (by kernel_rfl) ?_ ⟨?_, ?_, ?_, ?_, ?_, ?_, ?_, ?_, ?_, ?_, ?_, ?_, ?_, ?_, ?_, ?_, ?_, trivial⟩ ?_
        · refine ⟨_, _, _, _, _, _, _, _, _, _, _, _, _, _, _, _, _, 0, none, 0, 0, rfl, ⟨(Below.refl _ _), ?_, ?_, ?_, ?_, ?_, ?_, ?_, ?_, ?_, ?_, ?_, ?_, ?_, ?_, ?_, ?_, ?_, ?_, ?_, ?_, ?_⟩⟩ <;> simp
        · rintro d vs W ⟨v0, v1, v2, v3, v4, v5, v6, v7, v8, v9, v10, v11, v12, v13, v14, v15, v16, X, a6, c6, r, rfl, H⟩ hn hd
          simp only [putAll, Act.put, List.setIfInBounds_toArray, List.set_cons_succ, List.set_cons_zero]
          have HH1 : Hid (Ra (wr.drew) (cs) (t) (i) (k) (b) (off) (n) (cap) (ac) (lc) (cc) (g) (L) (a1) (l1) (c1) (a3) (l3) (c3) d W v0 v1 v2 v3 v4 v5 v6 v7 v8 v9 v10 v11 v12 v13 v14 v15 v16 X a6 c6 r) := H
          clear H
          have HHN : Hid (d 0 = false) := hn
          clear hd hn
          go_wp2
          have H0 := HH1.out
          have H := HH1.out
          have hn := HHN.out
          refine ⟨rfl, [.slice (some ⟨b, off, none⟩) n cap, v1, v2, v3, v4, v5, v6, v7, v8, v9, v10, v11, v12, v13, v14, v15, v16], ?_, .slice (some ⟨b, off, none⟩) n cap, v1, v2, v3, v4, v5, v6, v7, v8, v9, v10, v11, v12, v13, v14, v15, v16, X, a6, c6, r, rfl, ⟨H.bel, (fun _ => rfl), (by have h := H.f1; simpa [doneSet] using h), (by have h := H.f2; simpa [doneSet] using h), (by have h := H.f3; simpa [doneSet] using h), (by have h := H.f4; simpa [doneSet] using h), (by have h := H.f5; simpa [doneSet] using h), (by have h := H.f6; simpa [doneSet] using h), (by have h := H.f7; simpa [doneSet] using h), (by have h := H.f8; simpa [doneSet] using h), (by have h := H.f9; simpa [doneSet] using h), (by have h := H.f10; simpa [doneSet] using h), (by have h := H.f11; simpa [doneSet] using h), (by have h := H.f12; simpa [doneSet] using h), (by have h := H.f13; simpa [doneSet] using h), (by have h := H.f14; simpa [doneSet] using h), (by have h := H.f15; simpa [doneSet] using h), (by have h := H.f16; simpa [doneSet] using h), (by have h := H.z4; simpa [doneSet] using h), (by have h := H.r5; simpa [doneSet] using h), (by have h := H.u15; simpa [doneSet] using h), (by have h := H.g16_15; simpa [doneSet] using h)⟩⟩
          simp only [putAll, Act.put, List.setIfInBounds_toArray, List.set_cons_succ, List.set_cons_zero]
        · rintro d vs W ⟨v0, v1, v2, v3, v4, v5, v6, v7, v8, v9, v10, v11, v12, v13, v14, v15, v16, X, a6, c6, r, rfl, H⟩ hn hd
          simp only [putAll, Act.put, List.setIfInBounds_toArray, List.set_cons_succ, List.set_cons_zero]
          have HH1 : Hid (Ra (wr.drew) (cs) (t) (i) (k) (b) (off) (n) (cap) (ac) (lc) (cc) (g) (L) (a1) (l1) (c1) (a3) (l3) (c3) d W v0 v1 v2 v3 v4 v5 v6 v7 v8 v9 v10 v11 v12 v13 v14 v15 v16 X a6 c6 r) := H
          clear H
          have HHN : Hid (d 1 = false) := hn
          clear hd hn
          go_wp2
          have H0 := HH1.out
          have H := HH1.out
          have hn := HHN.out
          refine ⟨rfl, [v0, .int .i64 (t : Int), v2, v3, v4, v5, v6, v7, v8, v9, v10, v11, v12, v13, v14, v15, v16], ?_, v0, .int .i64 (t : Int), v2, v3, v4, v5, v6, v7, v8, v9, v10, v11, v12, v13, v14, v15, v16, X, a6, c6, r, rfl, ⟨H.bel, (by have h := H.f0; simpa [doneSet] using h), (fun _ => rfl), (by have h := H.f2; simpa [doneSet] using h), (by have h := H.f3; simpa [doneSet] using h), (by have h := H.f4; simpa [doneSet] using h), (by have h := H.f5; simpa [doneSet] using h), (by have h := H.f6; simpa [doneSet] using h), (by have h := H.f7; simpa [doneSet] using h), (by have h := H.f8; simpa [doneSet] using h), (by have h := H.f9; simpa [doneSet] using h), (by have h := H.f10; simpa [doneSet] using h), (by have h := H.f11; simpa [doneSet] using h), (by have h := H.f12; simpa [doneSet] using h), (by have h := H.f13; simpa [doneSet] using h), (by have h := H.f14; simpa [doneSet] using h), (by have h := H.f15; simpa [doneSet] using h), (by have h := H.f16; simpa [doneSet] using h), (by have h := H.z4; simpa [doneSet] using h), (by have h := H.r5; simpa [doneSet] using h), (by have h := H.u15; simpa [doneSet] using h), (by have h := H.g16_15; simpa [doneSet] using h)⟩⟩
          simp only [putAll, Act.put, List.setIfInBounds_toArray, List.set_cons_succ, List.set_cons_zero]
        · rintro d vs W ⟨v0, v1, v2, v3, v4, v5, v6, v7, v8, v9, v10, v11, v12, v13, v14, v15, v16, X, a6, c6, r, rfl, H⟩ hn hd
          simp only [putAll, Act.put, List.setIfInBounds_toArray, List.set_cons_succ, List.set_cons_zero]
          have HH1 : Hid (Ra (wr.drew) (cs) (t) (i) (k) (b) (off) (n) (cap) (ac) (lc) (cc) (g) (L) (a1) (l1) (c1) (a3) (l3) (c3) d W v0 v1 v2 v3 v4 v5 v6 v7 v8 v9 v10 v11 v12 v13 v14 v15 v16 X a6 c6 r) := H
          clear H
          have HHN : Hid (d 2 = false) := hn
          clear hd hn
          go_wp2
          have H0 := HH1.out
          have H := HH1.out
          have hn := HHN.out
          refine ⟨rfl, [v0, v1, .int .i64 (i : Int), v3, v4, v5, v6, v7, v8, v9, v10, v11, v12, v13, v14, v15, v16], ?_, v0, v1, .int .i64 (i : Int), v3, v4, v5, v6, v7, v8, v9, v10, v11, v12, v13, v14, v15, v16, X, a6, c6, r, rfl, ⟨H.bel, (by have h := H.f0; simpa [doneSet] using h), (by have h := H.f1; simpa [doneSet] using h), (fun _ => rfl), (by have h := H.f3; simpa [doneSet] using h), (by have h := H.f4; simpa [doneSet] using h), (by have h := H.f5; simpa [doneSet] using h), (by have h := H.f6; simpa [doneSet] using h), (by have h := H.f7; simpa [doneSet] using h), (by have h := H.f8; simpa [doneSet] using h), (by have h := H.f9; simpa [doneSet] using h), (by have h := H.f10; simpa [doneSet] using h), (by have h := H.f11; simpa [doneSet] using h), (by have h := H.f12; simpa [doneSet] using h), (by have h := H.f13; simpa [doneSet] using h), (by have h := H.f14; simpa [doneSet] using h), (by have h := H.f15; simpa [doneSet] using h), (by have h := H.f16; simpa [doneSet] using h), (by have h := H.z4; simpa [doneSet] using h), (by have h := H.r5; simpa [doneSet] using h), (by have h := H.u15; simpa [doneSet] using h), (by have h := H.g16_15; simpa [doneSet] using h)⟩⟩
          simp only [putAll, Act.put, List.setIfInBounds_toArray, List.set_cons_succ, List.set_cons_zero]
        · rintro d vs W ⟨v0, v1, v2, v3, v4, v5, v6, v7, v8, v9, v10, v11, v12, v13, v14, v15, v16, X, a6, c6, r, rfl, H⟩ hn hd
          simp only [putAll, Act.put, List.setIfInBounds_toArray, List.set_cons_succ, List.set_cons_zero]
          have HH1 : Hid (Ra (wr.drew) (cs) (t) (i) (k) (b) (off) (n) (cap) (ac) (lc) (cc) (g) (L) (a1) (l1) (c1) (a3) (l3) (c3) d W v0 v1 v2 v3 v4 v5 v6 v7 v8 v9 v10 v11 v12 v13 v14 v15 v16 X a6 c6 r) := H
          clear H
          have HHN : Hid (d 3 = false) := hn
          clear hd hn
          go_wp2
          have H0 := HH1.out
          have H := HH1.out
          have hn := HHN.out
          refine ⟨rfl, [v0, v1, v2, .int .i64 (k : Int), v4, v5, v6, v7, v8, v9, v10, v11, v12, v13, v14, v15, v16], ?_, v0, v1, v2, .int .i64 (k : Int), v4, v5, v6, v7, v8, v9, v10, v11, v12, v13, v14, v15, v16, X, a6, c6, r, rfl, ⟨H.bel, (by have h := H.f0; simpa [doneSet] using h), (by have h := H.f1; simpa [doneSet] using h), (by have h := H.f2; simpa [doneSet] using h), (fun _ => rfl), (by have h := H.f4; simpa [doneSet] using h), (by have h := H.f5; simpa [doneSet] using h), (by have h := H.f6; simpa [doneSet] using h), (by have h := H.f7; simpa [doneSet] using h), (by have h := H.f8; simpa [doneSet] using h), (by have h := H.f9; simpa [doneSet] using h), (by have h := H.f10; simpa [doneSet] using h), (by have h := H.f11; simpa [doneSet] using h), (by have h := H.f12; simpa [doneSet] using h), (by have h := H.f13; simpa [doneSet] using h), (by have h := H.f14; simpa [doneSet] using h), (by have h := H.f15; simpa [doneSet] using h), (by have h := H.f16; simpa [doneSet] using h), (by have h := H.z4; simpa [doneSet] using h), (by have h := H.r5; simpa [doneSet] using h), (by have h := H.u15; simpa [doneSet] using h), (by have h := H.g16_15; simpa [doneSet] using h)⟩⟩
          simp only [putAll, Act.put, List.setIfInBounds_toArray, List.set_cons_succ, List.set_cons_zero]
        · rintro d vs W ⟨v0, v1, v2, v3, v4, v5, v6, v7, v8, v9, v10, v11, v12, v13, v14, v15, v16, X, a6, c6, r, rfl, H⟩ hn hd
          simp only [putAll, Act.put, List.setIfInBounds_toArray, List.set_cons_succ, List.set_cons_zero]
          have h2 : d 2 = true := hd { on := 2, ground := .data } (by simp) rfl
          have h3 : d 3 = true := hd { on := 3, ground := .data } (by simp) rfl
          obtain rfl := H.f2 h2
          obtain rfl := H.f3 h3
          have HH1 : Hid (Ra (wr.drew) (cs) (t) (i) (k) (b) (off) (n) (cap) (ac) (lc) (cc) (g) (L) (a1) (l1) (c1) (a3) (l3) (c3) d W v0 v1 (.int .i64 (i : Int)) (.int .i64 (k : Int)) v4 v5 v6 v7 v8 v9 v10 v11 v12 v13 v14 v15 v16 X a6 c6 r) := H
          clear H
          have HHN : Hid (d 4 = false) := hn
          have HHD : Hid (d 2 = true ∧ d 3 = true) := ⟨h2, h3⟩
          clear hd hn h2 h3
          go_wp2
          have H0 := HH1.out
          have H := HH1.out.below ((Below.refl _ W).alloc (Nat.le_refl _) (.cells #[.int .i64 (i : Int), .int .i64 (k : Int)] 3))
          have hn := HHN.out
          have h2 := HHD.out.1
          have h3 := HHD.out.2
          refine ⟨rfl, [v0, v1, .int .i64 (i : Int), .int .i64 (k : Int), .slice (some ⟨W.heap.size, 0, none⟩) 2 2, v5, v6, v7, v8, v9, v10, v11, v12, v13, v14, v15, v16], ?_, v0, v1, .int .i64 (i : Int), .int .i64 (k : Int), .slice (some ⟨W.heap.size, 0, none⟩) 2 2, v5, v6, v7, v8, v9, v10, v11, v12, v13, v14, v15, v16, W.heap.size, a6, c6, r, rfl, ⟨H.bel, (by have h := H.f0; simpa [doneSet] using h), (by have h := H.f1; simpa [doneSet] using h), (fun _ => rfl), (fun _ => rfl), (fun _ => rfl), (by have h := H.f5; simpa [doneSet] using h), (by have h := H.f6; simpa [doneSet] using h), (by have h := H.f7; simpa [doneSet] using h), (by have h := H.f8; simpa [doneSet] using h), (by have h := H.f9; simpa [doneSet] using h), (by have h := H.f10; simpa [doneSet] using h), (by have h := H.f11; simpa [doneSet] using h), (by have h := H.f12; simpa [doneSet] using h), (by have h := H.f13; simpa [doneSet] using h), (by have h := H.f14; simpa [doneSet] using h), (by have h := H.f15; simpa [doneSet] using h), (by have h := H.f16; simpa [doneSet] using h), (fun _ => Rd.two W _ _), (by have h := H.r5; simpa [doneSet] using h), (by have h := H.u15; simpa [doneSet] using h), (by have h := H.g16_15; simpa [doneSet] using h)⟩⟩
          simp only [putAll, Act.put, List.setIfInBounds_toArray, List.set_cons_succ, List.set_cons_zero]
        · rintro d vs W ⟨v0, v1, v2, v3, v4, v5, v6, v7, v8, v9, v10, v11, v12, v13, v14, v15, v16, X, a6, c6, r, rfl, H⟩ hn hd
          simp only [putAll, Act.put, List.setIfInBounds_toArray, List.set_cons_succ, List.set_cons_zero]
          have h0 : d 0 = true := hd { on := 0, ground := .data } (by simp) rfl
          have h1 : d 1 = true := hd { on := 1, ground := .data } (by simp) rfl
          have h4 : d 4 = true := hd { on := 4, ground := .data } (by simp) rfl
          have HZ4 : Hid (Rd .i64 W (.slice (some ⟨X, 0, none⟩) 2 2) [(i : Int), (k : Int)]) := H.z4 h4
          have HCW := CWF.out W H.bel
          have HBW : Hid (Below w.heap.size w W) := HCW.bel
          clear HCW
          obtain rfl := H.f0 h0
          obtain rfl := H.f1 h1
          obtain rfl := H.f4 h4
          have HH1 : Hid (Ra (wr.drew) (cs) (t) (i) (k) (b) (off) (n) (cap) (ac) (lc) (cc) (g) (L) (a1) (l1) (c1) (a3) (l3) (c3) d W (.slice (some ⟨b, off, none⟩) n cap) (.int .i64 (t : Int)) v2 v3 (.slice (some ⟨X, 0, none⟩) 2 2) v5 v6 v7 v8 v9 v10 v11 v12 v13 v14 v15 v16 X a6 c6 r) := H
          clear H
          have HHN : Hid (d 5 = false) := hn
          have HHD : Hid (d 0 = true ∧ d 1 = true ∧ d 4 = true) := ⟨h0, h1, h4⟩
          clear hd hn h0 h1 h4
          go_wp2_with (fail)
          refine (withoutI_c _ _ cs t [(i : Int), (k : Int)] i k W (HRD.out.below HBW.out) HT.out (by rw [HN.out]; omega) (by have := HLL.out; unfold fLen at this; omega) HZ4.out (fun q => by simp)).mono ?_
          rintro e W3 ⟨v7, rfl, r7, b7⟩
          have HB7 : Hid (Below W.heap.size W W3) := b7
          have HR7 : Hid (RdL W3 v7 (woS cs t i k)) := r7
          obtain ⟨a7, c7, e7⟩ : ∃ a c, v7 = .slice a n c := by obtain ⟨a, c, e, -⟩ := r7.len; rw [woS_len, HN.out] at e; exact ⟨a, c, e⟩
          subst e7
          clear b7 r7
          go_wp2
          have H0 := HH1.out
          have H := HH1.out.below HB7.out
          have hn := HHN.out
          have h0 := HHD.out.1
          have h1 := HHD.out.2.1
          have h4 := HHD.out.2.2
          refine ⟨rfl, [.slice (some ⟨b, off, none⟩) n cap, .int .i64 (t : Int), v2, v3, .slice (some ⟨X, 0, none⟩) 2 2, .slice a7 n c7, v6, v7, v8, v9, v10, v11, v12, v13, v14, v15, v16], ?_, .slice (some ⟨b, off, none⟩) n cap, .int .i64 (t : Int), v2, v3, .slice (some ⟨X, 0, none⟩) 2 2, .slice a7 n c7, v6, v7, v8, v9, v10, v11, v12, v13, v14, v15, v16, X, a7, c7, r, rfl, ⟨H.bel, (fun _ => rfl), (fun _ => rfl), (by have h := H.f2; simpa [doneSet] using h), (by have h := H.f3; simpa [doneSet] using h), (fun _ => rfl), (fun _ => rfl), (by have h := H.f6; simpa [doneSet] using h), (by have h := H.f7; simpa [doneSet] using h), (by have h := H.f8; simpa [doneSet] using h), (by have h := H.f9; simpa [doneSet] using h), (by have h := H.f10; simpa [doneSet] using h), (by have h := H.f11; simpa [doneSet] using h), (by have h := H.f12; simpa [doneSet] using h), (by have h := H.f13; simpa [doneSet] using h), (by have h := H.f14; simpa [doneSet] using h), (by have h := H.f15; simpa [doneSet] using h), (by have h := H.f16; simpa [doneSet] using h), (by have h := H.z4; simpa [doneSet] using h), (fun _ => HR7.out), (by have h := H.u15; simpa [doneSet] using h), (by have h := H.g16_15; simpa [doneSet] using h)⟩⟩
          simp only [putAll, Act.put, List.setIfInBounds_toArray, List.set_cons_succ, List.set_cons_zero]
        · rintro d vs W ⟨v0, v1, v2, v3, v4, v5, v6, v7, v8, v9, v10, v11, v12, v13, v14, v15, v16, X, a6, c6, r, rfl, H⟩ hn hd
          simp only [putAll, Act.put, List.setIfInBounds_toArray, List.set_cons_succ, List.set_cons_zero]
          have HH1 : Hid (Ra (wr.drew) (cs) (t) (i) (k) (b) (off) (n) (cap) (ac) (lc) (cc) (g) (L) (a1) (l1) (c1) (a3) (l3) (c3) d W v0 v1 v2 v3 v4 v5 v6 v7 v8 v9 v10 v11 v12 v13 v14 v15 v16 X a6 c6 r) := H
          clear H
          have HHN : Hid (d 6 = false) := hn
          clear hd hn
          go_wp2
          have H0 := HH1.out
          have H := HH1.out
          have hn := HHN.out
          refine ⟨rfl, [v0, v1, v2, v3, v4, v5, .slice ac lc cc, v7, v8, v9, v10, v11, v12, v13, v14, v15, v16], ?_, v0, v1, v2, v3, v4, v5, .slice ac lc cc, v7, v8, v9, v10, v11, v12, v13, v14, v15, v16, X, a6, c6, r, rfl, ⟨H.bel, (by have h := H.f0; simpa [doneSet] using h), (by have h := H.f1; simpa [doneSet] using h), (by have h := H.f2; simpa [doneSet] using h), (by have h := H.f3; simpa [doneSet] using h), (by have h := H.f4; simpa [doneSet] using h), (by have h := H.f5; simpa [doneSet] using h), (fun _ => rfl), (by have h := H.f7; simpa [doneSet] using h), (by have h := H.f8; simpa [doneSet] using h), (by have h := H.f9; simpa [doneSet] using h), (by have h := H.f10; simpa [doneSet] using h), (by have h := H.f11; simpa [doneSet] using h), (by have h := H.f12; simpa [doneSet] using h), (by have h := H.f13; simpa [doneSet] using h), (by have h := H.f14; simpa [doneSet] using h), (by have h := H.f15; simpa [doneSet] using h), (by have h := H.f16; simpa [doneSet] using h), (by have h := H.z4; simpa [doneSet] using h), (by have h := H.r5; simpa [doneSet] using h), (by have h := H.u15; simpa [doneSet] using h), (by have h := H.g16_15; simpa [doneSet] using h)⟩⟩
          simp only [putAll, Act.put, List.setIfInBounds_toArray, List.set_cons_succ, List.set_cons_zero]
        · rintro d vs W ⟨v0, v1, v2, v3, v4, v5, v6, v7, v8, v9, v10, v11, v12, v13, v14, v15, v16, X, a6, c6, r, rfl, H⟩ hn hd
          simp only [putAll, Act.put, List.setIfInBounds_toArray, List.set_cons_succ, List.set_cons_zero]
          have HH1 : Hid (Ra (wr.drew) (cs) (t) (i) (k) (b) (off) (n) (cap) (ac) (lc) (cc) (g) (L) (a1) (l1) (c1) (a3) (l3) (c3) d W v0 v1 v2 v3 v4 v5 v6 v7 v8 v9 v10 v11 v12 v13 v14 v15 v16 X a6 c6 r) := H
          clear H
          have HHN : Hid (d 7 = false) := hn
          clear hd hn
          go_wp2
          have H0 := HH1.out
          have H := HH1.out
          have hn := HHN.out
          refine ⟨rfl, [v0, v1, v2, v3, v4, v5, v6, .slice (some ⟨g, 0, none⟩) L L, v8, v9, v10, v11, v12, v13, v14, v15, v16], ?_, v0, v1, v2, v3, v4, v5, v6, .slice (some ⟨g, 0, none⟩) L L, v8, v9, v10, v11, v12, v13, v14, v15, v16, X, a6, c6, r, rfl, ⟨H.bel, (by have h := H.f0; simpa [doneSet] using h), (by have h := H.f1; simpa [doneSet] using h), (by have h := H.f2; simpa [doneSet] using h), (by have h := H.f3; simpa [doneSet] using h), (by have h := H.f4; simpa [doneSet] using h), (by have h := H.f5; simpa [doneSet] using h), (by have h := H.f6; simpa [doneSet] using h), (fun _ => rfl), (by have h := H.f8; simpa [doneSet] using h), (by have h := H.f9; simpa [doneSet] using h), (by have h := H.f10; simpa [doneSet] using h), (by have h := H.f11; simpa [doneSet] using h), (by have h := H.f12; simpa [doneSet] using h), (by have h := H.f13; simpa [doneSet] using h), (by have h := H.f14; simpa [doneSet] using h), (by have h := H.f15; simpa [doneSet] using h), (by have h := H.f16; simpa [doneSet] using h), (by have h := H.z4; simpa [doneSet] using h), (by have h := H.r5; simpa [doneSet] using h), (by have h := H.u15; simpa [doneSet] using h), (by have h := H.g16_15; simpa [doneSet] using h)⟩⟩
          simp only [putAll, Act.put, List.setIfInBounds_toArray, List.set_cons_succ, List.set_cons_zero]
        · rintro d vs W ⟨v0, v1, v2, v3, v4, v5, v6, v7, v8, v9, v10, v11, v12, v13, v14, v15, v16, X, a6, c6, r, rfl, H⟩ hn hd
          simp only [putAll, Act.put, List.setIfInBounds_toArray, List.set_cons_succ, List.set_cons_zero]
          have HH1 : Hid (Ra (wr.drew) (cs) (t) (i) (k) (b) (off) (n) (cap) (ac) (lc) (cc) (g) (L) (a1) (l1) (c1) (a3) (l3) (c3) d W v0 v1 v2 v3 v4 v5 v6 v7 v8 v9 v10 v11 v12 v13 v14 v15 v16 X a6 c6 r) := H
          clear H
          have HHN : Hid (d 8 = false) := hn
          clear hd hn
          go_wp2
          have H0 := HH1.out
          have H := HH1.out
          have hn := HHN.out
          refine ⟨rfl, [v0, v1, v2, v3, v4, v5, v6, v7, .int .i64 (i : Int), v9, v10, v11, v12, v13, v14, v15, v16], ?_, v0, v1, v2, v3, v4, v5, v6, v7, .int .i64 (i : Int), v9, v10, v11, v12, v13, v14, v15, v16, X, a6, c6, r, rfl, ⟨H.bel, (by have h := H.f0; simpa [doneSet] using h), (by have h := H.f1; simpa [doneSet] using h), (by have h := H.f2; simpa [doneSet] using h), (by have h := H.f3; simpa [doneSet] using h), (by have h := H.f4; simpa [doneSet] using h), (by have h := H.f5; simpa [doneSet] using h), (by have h := H.f6; simpa [doneSet] using h), (by have h := H.f7; simpa [doneSet] using h), (fun _ => rfl), (by have h := H.f9; simpa [doneSet] using h), (by have h := H.f10; simpa [doneSet] using h), (by have h := H.f11; simpa [doneSet] using h), (by have h := H.f12; simpa [doneSet] using h), (by have h := H.f13; simpa [doneSet] using h), (by have h := H.f14; simpa [doneSet] using h), (by have h := H.f15; simpa [doneSet] using h), (by have h := H.f16; simpa [doneSet] using h), (by have h := H.z4; simpa [doneSet] using h), (by have h := H.r5; simpa [doneSet] using h), (by have h := H.u15; simpa [doneSet] using h), (by have h := H.g16_15; simpa [doneSet] using h)⟩⟩
          simp only [putAll, Act.put, List.setIfInBounds_toArray, List.set_cons_succ, List.set_cons_zero]
        · rintro d vs W ⟨v0, v1, v2, v3, v4, v5, v6, v7, v8, v9, v10, v11, v12, v13, v14, v15, v16, X, a6, c6, r, rfl, H⟩ hn hd
          simp only [putAll, Act.put, List.setIfInBounds_toArray, List.set_cons_succ, List.set_cons_zero]
          have h7 : d 7 = true := hd { on := 7, ground := .data } (by simp) rfl
          have h8 : d 8 = true := hd { on := 8, ground := .data } (by simp) rfl
          obtain rfl := H.f7 h7
          obtain rfl := H.f8 h8
          have HH1 : Hid (Ra (wr.drew) (cs) (t) (i) (k) (b) (off) (n) (cap) (ac) (lc) (cc) (g) (L) (a1) (l1) (c1) (a3) (l3) (c3) d W v0 v1 v2 v3 v4 v5 v6 (.slice (some ⟨g, 0, none⟩) L L) (.int .i64 (i : Int)) v9 v10 v11 v12 v13 v14 v15 v16 X a6 c6 r) := H
          clear H
          have HHN : Hid (d 9 = false) := hn
          have HHD : Hid (d 7 = true ∧ d 8 = true) := ⟨h7, h8⟩
          clear hd hn h7 h8
          go_wp2
          have H0 := HH1.out
          have H := HH1.out
          have hn := HHN.out
          have h7 := HHD.out.1
          have h8 := HHD.out.2
          refine ⟨rfl, [v0, v1, v2, v3, v4, v5, v6, .slice (some ⟨g, 0, none⟩) L L, .int .i64 (i : Int), .pointer (some ⟨g, i, none⟩), v10, v11, v12, v13, v14, v15, v16], ?_, v0, v1, v2, v3, v4, v5, v6, .slice (some ⟨g, 0, none⟩) L L, .int .i64 (i : Int), .pointer (some ⟨g, i, none⟩), v10, v11, v12, v13, v14, v15, v16, X, a6, c6, r, rfl, ⟨H.bel, (by have h := H.f0; simpa [doneSet] using h), (by have h := H.f1; simpa [doneSet] using h), (by have h := H.f2; simpa [doneSet] using h), (by have h := H.f3; simpa [doneSet] using h), (by have h := H.f4; simpa [doneSet] using h), (by have h := H.f5; simpa [doneSet] using h), (by have h := H.f6; simpa [doneSet] using h), (fun _ => rfl), (fun _ => rfl), (fun _ => rfl), (by have h := H.f10; simpa [doneSet] using h), (by have h := H.f11; simpa [doneSet] using h), (by have h := H.f12; simpa [doneSet] using h), (by have h := H.f13; simpa [doneSet] using h), (by have h := H.f14; simpa [doneSet] using h), (by have h := H.f15; simpa [doneSet] using h), (by have h := H.f16; simpa [doneSet] using h), (by have h := H.z4; simpa [doneSet] using h), (by have h := H.r5; simpa [doneSet] using h), (by have h := H.u15; simpa [doneSet] using h), (by have h := H.g16_15; simpa [doneSet] using h)⟩⟩
          simp only [putAll, Act.put, List.setIfInBounds_toArray, List.set_cons_succ, List.set_cons_zero]
        · rintro d vs W ⟨v0, v1, v2, v3, v4, v5, v6, v7, v8, v9, v10, v11, v12, v13, v14, v15, v16, X, a6, c6, r, rfl, H⟩ hn hd
          simp only [putAll, Act.put, List.setIfInBounds_toArray, List.set_cons_succ, List.set_cons_zero]
          have h9 : d 9 = true := hd { on := 9, ground := .data } (by simp) rfl
          obtain ⟨q0, q1⟩ := CE.out W H.bel
          obtain rfl := H.f9 h9
          have HH1 : Hid (Ra (wr.drew) (cs) (t) (i) (k) (b) (off) (n) (cap) (ac) (lc) (cc) (g) (L) (a1) (l1) (c1) (a3) (l3) (c3) d W v0 v1 v2 v3 v4 v5 v6 v7 v8 (.pointer (some ⟨g, i, none⟩)) v10 v11 v12 v13 v14 v15 v16 X a6 c6 r) := H
          clear H
          have HHN : Hid (d 10 = false) := hn
          have HHD : Hid (d 9 = true) := h9
          clear hd hn h9
          go_wp2
          have H0 := HH1.out
          have H := HH1.out
          have hn := HHN.out
          have h9 := HHD.out
          refine ⟨rfl, [v0, v1, v2, v3, v4, v5, v6, v7, v8, .pointer (some ⟨g, i, none⟩), .slice a1 l1 c1, v11, v12, v13, v14, v15, v16], ?_, v0, v1, v2, v3, v4, v5, v6, v7, v8, .pointer (some ⟨g, i, none⟩), .slice a1 l1 c1, v11, v12, v13, v14, v15, v16, X, a6, c6, r, rfl, ⟨H.bel, (by have h := H.f0; simpa [doneSet] using h), (by have h := H.f1; simpa [doneSet] using h), (by have h := H.f2; simpa [doneSet] using h), (by have h := H.f3; simpa [doneSet] using h), (by have h := H.f4; simpa [doneSet] using h), (by have h := H.f5; simpa [doneSet] using h), (by have h := H.f6; simpa [doneSet] using h), (by have h := H.f7; simpa [doneSet] using h), (by have h := H.f8; simpa [doneSet] using h), (fun _ => rfl), (fun _ => rfl), (by have h := H.f11; simpa [doneSet] using h), (by have h := H.f12; simpa [doneSet] using h), (by have h := H.f13; simpa [doneSet] using h), (by have h := H.f14; simpa [doneSet] using h), (by have h := H.f15; simpa [doneSet] using h), (by have h := H.f16; simpa [doneSet] using h), (by have h := H.z4; simpa [doneSet] using h), (by have h := H.r5; simpa [doneSet] using h), (by have h := H.u15; simpa [doneSet] using h), (by have h := H.g16_15; simpa [doneSet] using h)⟩⟩
          simp only [putAll, Act.put, List.setIfInBounds_toArray, List.set_cons_succ, List.set_cons_zero]
        · rintro d vs W ⟨v0, v1, v2, v3, v4, v5, v6, v7, v8, v9, v10, v11, v12, v13, v14, v15, v16, X, a6, c6, r, rfl, H⟩ hn hd
          simp only [putAll, Act.put, List.setIfInBounds_toArray, List.set_cons_succ, List.set_cons_zero]
          have HH1 : Hid (Ra (wr.drew) (cs) (t) (i) (k) (b) (off) (n) (cap) (ac) (lc) (cc) (g) (L) (a1) (l1) (c1) (a3) (l3) (c3) d W v0 v1 v2 v3 v4 v5 v6 v7 v8 v9 v10 v11 v12 v13 v14 v15 v16 X a6 c6 r) := H
          clear H
          have HHN : Hid (d 11 = false) := hn
          clear hd hn
          go_wp2
          have H0 := HH1.out
          have H := HH1.out
          have hn := HHN.out
          refine ⟨rfl, [v0, v1, v2, v3, v4, v5, v6, v7, v8, v9, v10, .slice (some ⟨g, 0, none⟩) L L, v12, v13, v14, v15, v16], ?_, v0, v1, v2, v3, v4, v5, v6, v7, v8, v9, v10, .slice (some ⟨g, 0, none⟩) L L, v12, v13, v14, v15, v16, X, a6, c6, r, rfl, ⟨H.bel, (by have h := H.f0; simpa [doneSet] using h), (by have h := H.f1; simpa [doneSet] using h), (by have h := H.f2; simpa [doneSet] using h), (by have h := H.f3; simpa [doneSet] using h), (by have h := H.f4; simpa [doneSet] using h), (by have h := H.f5; simpa [doneSet] using h), (by have h := H.f6; simpa [doneSet] using h), (by have h := H.f7; simpa [doneSet] using h), (by have h := H.f8; simpa [doneSet] using h), (by have h := H.f9; simpa [doneSet] using h), (by have h := H.f10; simpa [doneSet] using h), (fun _ => rfl), (by have h := H.f12; simpa [doneSet] using h), (by have h := H.f13; simpa [doneSet] using h), (by have h := H.f14; simpa [doneSet] using h), (by have h := H.f15; simpa [doneSet] using h), (by have h := H.f16; simpa [doneSet] using h), (by have h := H.z4; simpa [doneSet] using h), (by have h := H.r5; simpa [doneSet] using h), (by have h := H.u15; simpa [doneSet] using h), (by have h := H.g16_15; simpa [doneSet] using h)⟩⟩
          simp only [putAll, Act.put, List.setIfInBounds_toArray, List.set_cons_succ, List.set_cons_zero]
        · rintro d vs W ⟨v0, v1, v2, v3, v4, v5, v6, v7, v8, v9, v10, v11, v12, v13, v14, v15, v16, X, a6, c6, r, rfl, H⟩ hn hd
          simp only [putAll, Act.put, List.setIfInBounds_toArray, List.set_cons_succ, List.set_cons_zero]
          have HH1 : Hid (Ra (wr.drew) (cs) (t) (i) (k) (b) (off) (n) (cap) (ac) (lc) (cc) (g) (L) (a1) (l1) (c1) (a3) (l3) (c3) d W v0 v1 v2 v3 v4 v5 v6 v7 v8 v9 v10 v11 v12 v13 v14 v15 v16 X a6 c6 r) := H
          clear H
          have HHN : Hid (d 12 = false) := hn
          clear hd hn
          go_wp2
          have H0 := HH1.out
          have H := HH1.out
          have hn := HHN.out
          refine ⟨rfl, [v0, v1, v2, v3, v4, v5, v6, v7, v8, v9, v10, v11, .int .i64 (k : Int), v13, v14, v15, v16], ?_, v0, v1, v2, v3, v4, v5, v6, v7, v8, v9, v10, v11, .int .i64 (k : Int), v13, v14, v15, v16, X, a6, c6, r, rfl, ⟨H.bel, (by have h := H.f0; simpa [doneSet] using h), (by have h := H.f1; simpa [doneSet] using h), (by have h := H.f2; simpa [doneSet] using h), (by have h := H.f3; simpa [doneSet] using h), (by have h := H.f4; simpa [doneSet] using h), (by have h := H.f5; simpa [doneSet] using h), (by have h := H.f6; simpa [doneSet] using h), (by have h := H.f7; simpa [doneSet] using h), (by have h := H.f8; simpa [doneSet] using h), (by have h := H.f9; simpa [doneSet] using h), (by have h := H.f10; simpa [doneSet] using h), (by have h := H.f11; simpa [doneSet] using h), (fun _ => rfl), (by have h := H.f13; simpa [doneSet] using h), (by have h := H.f14; simpa [doneSet] using h), (by have h := H.f15; simpa [doneSet] using h), (by have h := H.f16; simpa [doneSet] using h), (by have h := H.z4; simpa [doneSet] using h), (by have h := H.r5; simpa [doneSet] using h), (by have h := H.u15; simpa [doneSet] using h), (by have h := H.g16_15; simpa [doneSet] using h)⟩⟩
          simp only [putAll, Act.put, List.setIfInBounds_toArray, List.set_cons_succ, List.set_cons_zero]
        · rintro d vs W ⟨v0, v1, v2, v3, v4, v5, v6, v7, v8, v9, v10, v11, v12, v13, v14, v15, v16, X, a6, c6, r, rfl, H⟩ hn hd
          simp only [putAll, Act.put, List.setIfInBounds_toArray, List.set_cons_succ, List.set_cons_zero]
          have h11 : d 11 = true := hd { on := 11, ground := .data } (by simp) rfl
          have h12 : d 12 = true := hd { on := 12, ground := .data } (by simp) rfl
          obtain rfl := H.f11 h11
          obtain rfl := H.f12 h12
          have HH1 : Hid (Ra (wr.drew) (cs) (t) (i) (k) (b) (off) (n) (cap) (ac) (lc) (cc) (g) (L) (a1) (l1) (c1) (a3) (l3) (c3) d W v0 v1 v2 v3 v4 v5 v6 v7 v8 v9 v10 (.slice (some ⟨g, 0, none⟩) L L) (.int .i64 (k : Int)) v13 v14 v15 v16 X a6 c6 r) := H
          clear H
          have HHN : Hid (d 13 = false) := hn
          have HHD : Hid (d 11 = true ∧ d 12 = true) := ⟨h11, h12⟩
          clear hd hn h11 h12
          go_wp2
          have H0 := HH1.out
          have H := HH1.out
          have hn := HHN.out
          have h11 := HHD.out.1
          have h12 := HHD.out.2
          refine ⟨rfl, [v0, v1, v2, v3, v4, v5, v6, v7, v8, v9, v10, .slice (some ⟨g, 0, none⟩) L L, .int .i64 (k : Int), .pointer (some ⟨g, k, none⟩), v14, v15, v16], ?_, v0, v1, v2, v3, v4, v5, v6, v7, v8, v9, v10, .slice (some ⟨g, 0, none⟩) L L, .int .i64 (k : Int), .pointer (some ⟨g, k, none⟩), v14, v15, v16, X, a6, c6, r, rfl, ⟨H.bel, (by have h := H.f0; simpa [doneSet] using h), (by have h := H.f1; simpa [doneSet] using h), (by have h := H.f2; simpa [doneSet] using h), (by have h := H.f3; simpa [doneSet] using h), (by have h := H.f4; simpa [doneSet] using h), (by have h := H.f5; simpa [doneSet] using h), (by have h := H.f6; simpa [doneSet] using h), (by have h := H.f7; simpa [doneSet] using h), (by have h := H.f8; simpa [doneSet] using h), (by have h := H.f9; simpa [doneSet] using h), (by have h := H.f10; simpa [doneSet] using h), (fun _ => rfl), (fun _ => rfl), (fun _ => rfl), (by have h := H.f14; simpa [doneSet] using h), (by have h := H.f15; simpa [doneSet] using h), (by have h := H.f16; simpa [doneSet] using h), (by have h := H.z4; simpa [doneSet] using h), (by have h := H.r5; simpa [doneSet] using h), (by have h := H.u15; simpa [doneSet] using h), (by have h := H.g16_15; simpa [doneSet] using h)⟩⟩
          simp only [putAll, Act.put, List.setIfInBounds_toArray, List.set_cons_succ, List.set_cons_zero]
        · rintro d vs W ⟨v0, v1, v2, v3, v4, v5, v6, v7, v8, v9, v10, v11, v12, v13, v14, v15, v16, X, a6, c6, r, rfl, H⟩ hn hd
          simp only [putAll, Act.put, List.setIfInBounds_toArray, List.set_cons_succ, List.set_cons_zero]
          have h13 : d 13 = true := hd { on := 13, ground := .data } (by simp) rfl
          obtain ⟨q0, q1⟩ := CE.out W H.bel
          obtain rfl := H.f13 h13
          have HH1 : Hid (Ra (wr.drew) (cs) (t) (i) (k) (b) (off) (n) (cap) (ac) (lc) (cc) (g) (L) (a1) (l1) (c1) (a3) (l3) (c3) d W v0 v1 v2 v3 v4 v5 v6 v7 v8 v9 v10 v11 v12 (.pointer (some ⟨g, k, none⟩)) v14 v15 v16 X a6 c6 r) := H
          clear H
          have HHN : Hid (d 14 = false) := hn
          have HHD : Hid (d 13 = true) := h13
          clear hd hn h13
          go_wp2
          have H0 := HH1.out
          have H := HH1.out
          have hn := HHN.out
          have h13 := HHD.out
          refine ⟨rfl, [v0, v1, v2, v3, v4, v5, v6, v7, v8, v9, v10, v11, v12, .pointer (some ⟨g, k, none⟩), .slice a3 l3 c3, v15, v16], ?_, v0, v1, v2, v3, v4, v5, v6, v7, v8, v9, v10, v11, v12, .pointer (some ⟨g, k, none⟩), .slice a3 l3 c3, v15, v16, X, a6, c6, r, rfl, ⟨H.bel, (by have h := H.f0; simpa [doneSet] using h), (by have h := H.f1; simpa [doneSet] using h), (by have h := H.f2; simpa [doneSet] using h), (by have h := H.f3; simpa [doneSet] using h), (by have h := H.f4; simpa [doneSet] using h), (by have h := H.f5; simpa [doneSet] using h), (by have h := H.f6; simpa [doneSet] using h), (by have h := H.f7; simpa [doneSet] using h), (by have h := H.f8; simpa [doneSet] using h), (by have h := H.f9; simpa [doneSet] using h), (by have h := H.f10; simpa [doneSet] using h), (by have h := H.f11; simpa [doneSet] using h), (by have h := H.f12; simpa [doneSet] using h), (fun _ => rfl), (fun _ => rfl), (by have h := H.f15; simpa [doneSet] using h), (by have h := H.f16; simpa [doneSet] using h), (by have h := H.z4; simpa [doneSet] using h), (by have h := H.r5; simpa [doneSet] using h), (by have h := H.u15; simpa [doneSet] using h), (by have h := H.g16_15; simpa [doneSet] using h)⟩⟩
          simp only [putAll, Act.put, List.setIfInBounds_toArray, List.set_cons_succ, List.set_cons_zero]
        · rintro d vs W ⟨v0, v1, v2, v3, v4, v5, v6, v7, v8, v9, v10, v11, v12, v13, v14, v15, v16, X, a6, c6, r, rfl, H⟩ hn hd
          simp only [putAll, Act.put, List.setIfInBounds_toArray, List.set_cons_succ, List.set_cons_zero]
          have h5 : d 5 = true := hd { on := 5, ground := .data } (by simp) rfl
          have h6 : d 6 = true := hd { on := 6, ground := .data } (by simp) rfl
          have h10 : d 10 = true := hd { on := 10, ground := .data } (by simp) rfl
          have h14 : d 14 = true := hd { on := 14, ground := .data } (by simp) rfl
          have HR5 : Hid (RdL W (.slice a6 n c6) (woS cs t i k)) := H.r5 h5
          have HCW : Hid (Cw cs t w (.slice ac lc cc) g L L ve W) := CWF.out W H.bel
          obtain rfl := H.f5 h5
          obtain rfl := H.f6 h6
          obtain rfl := H.f10 h10
          obtain rfl := H.f14 h14
          have HH1 : Hid (Ra (wr.drew) (cs) (t) (i) (k) (b) (off) (n) (cap) (ac) (lc) (cc) (g) (L) (a1) (l1) (c1) (a3) (l3) (c3) d W v0 v1 v2 v3 v4 (.slice a6 n c6) (.slice ac lc cc) v7 v8 v9 (.slice a1 l1 c1) v11 v12 v13 (.slice a3 l3 c3) v15 v16 X a6 c6 r) := H
          clear H
          have HHN : Hid (d 15 = false) := hn
          have HHD : Hid (d 5 = true ∧ d 6 = true ∧ d 10 = true ∧ d 14 = true) := ⟨h5, h6, h10, h14⟩
          clear hd hn h5 h6 h10 h14
          go_wp2_with (fail)
          refine (unlikeThird_c _ _ _ _ (woS cs t i k) (clsF cs t (cs.length * cs.length)) (ensF (woS cs t i (-1)) (clsF cs t (cs.length * cs.length))) (ensF (woS cs t k (-1)) (clsF cs t (cs.length * cs.length))) W HR5.out (woS_ok HOK.out HT.out) HCW.out.cal.rd ((clsF_ok cs t).wo t i k) (by have := HCL.out; omega) (by rw [← HEI.out]; exact (HCW.out.ens i hli).rd) (by rw [← HEK.out]; exact (HCW.out.ens k hlk).rd) (ensF_len _ _) (ensF_len _ _)).mono ?_
          rintro e W3 ⟨r9, rfl, u9, b9⟩
          have HB9 : Hid (Below W.heap.size W W3) := b9
          have HU9 : Hid (UtS (ensF (woS cs t i (-1)) (clsF cs t (cs.length * cs.length))) (ensF (woS cs t k (-1)) (clsF cs t (cs.length * cs.length))) (ensF (woS cs t i k) (clsF cs t (cs.length * cs.length))) (clsF cs t (cs.length * cs.length)).length r9) := u9
          clear b9 u9
          go_wp2
          have H0 := HH1.out
          have H := HH1.out.below HB9.out
          have hn := HHN.out
          have h5 := HHD.out.1
          have h6 := HHD.out.2.1
          have h10 := HHD.out.2.2.1
          have h14 := HHD.out.2.2.2
          refine ⟨rfl, [v0, v1, v2, v3, v4, .slice a6 n c6, .slice ac lc cc, v7, v8, v9, .slice a1 l1 c1, v11, v12, v13, .slice a3 l3 c3, .int .i64 r9, v16], ?_, v0, v1, v2, v3, v4, .slice a6 n c6, .slice ac lc cc, v7, v8, v9, .slice a1 l1 c1, v11, v12, v13, .slice a3 l3 c3, .int .i64 r9, v16, X, a6, c6, r9, rfl, ⟨H.bel, (by have h := H.f0; simpa [doneSet] using h), (by have h := H.f1; simpa [doneSet] using h), (by have h := H.f2; simpa [doneSet] using h), (by have h := H.f3; simpa [doneSet] using h), (by have h := H.f4; simpa [doneSet] using h), (fun _ => rfl), (fun _ => rfl), (by have h := H.f7; simpa [doneSet] using h), (by have h := H.f8; simpa [doneSet] using h), (by have h := H.f9; simpa [doneSet] using h), (fun _ => rfl), (by have h := H.f11; simpa [doneSet] using h), (by have h := H.f12; simpa [doneSet] using h), (by have h := H.f13; simpa [doneSet] using h), (fun _ => rfl), (fun _ => rfl), (fun e => absurd (H0.g16_15 (by simpa [doneSet] using e)) (by rw [hn]; simp)), (by have h := H.z4; simpa [doneSet] using h), (by have h := H.r5; simpa [doneSet] using h), (fun _ => HU9.out), (fun _ => by simp [doneSet])⟩⟩
          simp only [putAll, Act.put, List.setIfInBounds_toArray, List.set_cons_succ, List.set_cons_zero]
        · rintro d vs W ⟨v0, v1, v2, v3, v4, v5, v6, v7, v8, v9, v10, v11, v12, v13, v14, v15, v16, X, a6, c6, r, rfl, H⟩ hn hd
          simp only [putAll, Act.put, List.setIfInBounds_toArray, List.set_cons_succ, List.set_cons_zero]
          have h15 : d 15 = true := hd { on := 15, ground := .data } (by simp) rfl
          obtain rfl := H.f15 h15
          have HH1 : Hid (Ra (wr.drew) (cs) (t) (i) (k) (b) (off) (n) (cap) (ac) (lc) (cc) (g) (L) (a1) (l1) (c1) (a3) (l3) (c3) d W v0 v1 v2 v3 v4 v5 v6 v7 v8 v9 v10 v11 v12 v13 v14 (.int .i64 r) v16 X a6 c6 r) := H
          clear H
          have HHN : Hid (d 16 = false) := hn
          have HHD : Hid (d 15 = true) := h15
          clear hd hn h15
          go_wp2
          have H0 := HH1.out
          have H := HH1.out
          have hn := HHN.out
          have h15 := HHD.out
          refine ⟨rfl, [v0, v1, v2, v3, v4, v5, v6, v7, v8, v9, v10, v11, v12, v13, v14, .int .i64 r, .int .i64 r], ?_, v0, v1, v2, v3, v4, v5, v6, v7, v8, v9, v10, v11, v12, v13, v14, .int .i64 r, .int .i64 r, X, a6, c6, r, rfl, ⟨H.bel, (by have h := H.f0; simpa [doneSet] using h), (by have h := H.f1; simpa [doneSet] using h), (by have h := H.f2; simpa [doneSet] using h), (by have h := H.f3; simpa [doneSet] using h), (by have h := H.f4; simpa [doneSet] using h), (by have h := H.f5; simpa [doneSet] using h), (by have h := H.f6; simpa [doneSet] using h), (by have h := H.f7; simpa [doneSet] using h), (by have h := H.f8; simpa [doneSet] using h), (by have h := H.f9; simpa [doneSet] using h), (by have h := H.f10; simpa [doneSet] using h), (by have h := H.f11; simpa [doneSet] using h), (by have h := H.f12; simpa [doneSet] using h), (by have h := H.f13; simpa [doneSet] using h), (by have h := H.f14; simpa [doneSet] using h), (fun _ => rfl), (fun _ => rfl), (by have h := H.z4; simpa [doneSet] using h), (by have h := H.r5; simpa [doneSet] using h), (by have h := H.u15; simpa [doneSet] using h), (fun _ => by simpa [doneSet] using h15)⟩⟩
          simp only [putAll, Act.put, List.setIfInBounds_toArray, List.set_cons_succ, List.set_cons_zero]
        rintro d vs W ⟨v0, v1, v2, v3, v4, v5, v6, v7, v8, v9, v10, v11, v12, v13, v14, v15, v16, X, a6, c6, r, rfl, H⟩ hn
        obtain rfl := H.f0 (hn 0 (by decide))
        obtain rfl := H.f1 (hn 1 (by decide))
        obtain rfl := H.f2 (hn 2 (by decide))
        obtain rfl := H.f3 (hn 3 (by decide))
        obtain rfl := H.f4 (hn 4 (by decide))
        obtain rfl := H.f5 (hn 5 (by decide))
        obtain rfl := H.f6 (hn 6 (by decide))
        obtain rfl := H.f7 (hn 7 (by decide))
        obtain rfl := H.f8 (hn 8 (by decide))
        obtain rfl := H.f9 (hn 9 (by decide))
        obtain rfl := H.f10 (hn 10 (by decide))
        obtain rfl := H.f11 (hn 11 (by decide))
        obtain rfl := H.f12 (hn 12 (by decide))
        obtain rfl := H.f13 (hn 13 (by decide))
        obtain rfl := H.f14 (hn 14 (by decide))
        obtain rfl := H.f15 (hn 15 (by decide))
        obtain rfl := H.f16 (hn 16 (by decide))
        have BW : Hid (Below wr.drew.heap.size wr.drew W) := H.bel
        have HUT := H.u15 (hn 15 (by decide))
        have CW : Hid (Cw cs t w (.slice ac lc cc) g L L ve W) := CWF.out W H.bel
        have OW : Hid (Og 5 chC 82 w.heap.size W (.slice al ll cl) (clI cs t i ++ clK cs t i k)) := OKF.out W H.bel
        clear H hn CE CWF OKF
        simp only [putAll, Act.put, List.setIfInBounds_toArray, List.set_cons_succ, List.set_cons_zero]
        rcases ut_cl HOK.out HT.out HUT with ⟨rfl, he⟩ | ⟨j, rfl, hj, he⟩
        · have HE : Hid (clI cs t i ++ clK cs t i (k + 1) = clI cs t i ++ clK cs t i k) := by show _ = _; rw [clK_succ cs t i k hik, he, List.append_nil]
          clear he HUT
          go_wp2
          go_roundw
          case rel => exact ⟨k + 1, _, _, _, by omega, by omega, by go_num, rfl, CW.out, by show Og _ _ _ _ _ _ _; rw [HE.out]; exact OW.out⟩
          case measure => simp [intOf]; omega
        obtain ⟨bc, hbc⟩ : ∃ bc, ac = some ⟨bc, 0, none⟩ := by
          have hlc := HLC.out
          rcases CW.out.cal.2 with ⟨h, h0⟩ | ⟨kk, cap', cur, h, -⟩
          · exfalso; omega
          · injection h with h1; exact ⟨kk, h1⟩
        subst hbc
        obtain ⟨x, y, hxy⟩ : ∃ x y, (clsF cs t (cs.length * cs.length))[j] = (x, y) := ⟨_, _, rfl⟩
        rw [hxy] at he
        have HE : Hid (clI cs t i ++ clK cs t i (k + 1) = clI cs t i ++ clK cs t i k ++ [((t : Int), (i : Int), (k : Int), x, y)]) := by show _ = _; rw [clK_succ cs t i k hik, he, List.append_assoc]
        have CE2 : Hid (∀ W, Cw cs t w (.slice (some ⟨bc, 0, none⟩) lc cc) g L L ve W → W.cell? ⟨bc, j * 2, none⟩ = some (.int .i64 x) ∧ W.cell? ⟨bc, j * 2 + 1, none⟩ = some (.int .i64 y)) := fun W hW => by
          have ho := hW.cal
          rw [Op, HLC.out] at ho
          have p1 := pr_at mf mg (clsF cs t (cs.length * cs.length)) j hj
          rw [hxy] at p1
          have hjl : j < lc := by rw [← HLC.out]; exact hj
          exact ⟨(World.ownsRow.cellAt ho (j * 2) (by omega)).trans p1.1, (World.ownsRow.cellAt ho (j * 2 + 1) (by omega)).trans p1.2⟩
        have HLN : Hid ((clI cs t i ++ clK cs t i k).length ≤ 1000000) := by
          show _ ≤ _
          have h2 := clI_len cs t i HFL.out
          have h3 := clK_len cs t i k
          rw [List.length_append]; omega
        have j0' : (0 : Int) ≤ (j : Int) := by omega
        have j1' : (j : Int) < (lc : Int) := by have := HLC.out; omega
        have hjg : decide ((j : Int) ≥ 0) = true := by simp
        clear hxy he HUT BW
        obtain ⟨S, hS⟩ : ∃ S : World → Prop, ∀ W, S W ↔ Cw cs t w (.slice (some ⟨bc, 0, none⟩) lc cc) g L L ve W := ⟨_, fun _ => Iff.rfl⟩
        have HSI : Hid (∀ W, S W ↔ Cw cs t w (.slice (some ⟨bc, 0, none⟩) lc cc) g L L ve W) := hS
        have y3 : ∀ W : At S, W.wd.cell? ⟨bc, j * 2, none⟩ = some (.int .i64 x) := fun W => (CE2.out _ ((hS _).1 W.ok)).1
        have y4 : ∀ W : At S, W.wd.cell? ⟨bc, j * 2 + 1, none⟩ = some (.int .i64 y) := fun W => (CE2.out _ ((hS _).1 W.ok)).2
        have HSD : Hid (S W.drew) := (hS _).2 (CW.out.below (Below.refl _ _).drew)
        have ne1 : Nonempty (At S) := ⟨⟨_, HSD.out⟩⟩
        have OD : Hid (Og 5 chC 82 w.heap.size W.drew (.slice al ll cl) (clI cs t i ++ clK cs t i k)) := OW.out.below (Below.refl _ _).drew
        have CD : Hid (Cw cs t w (.slice (some ⟨bc, 0, none⟩) lc cc) g L L ve W.drew) := CW.out.below (Below.refl _ _).drew
        clear hS OW CW CE2
        go_wp2
        refine region_mixA [true, true, true, true, true, true, true, true, true, true, true, true, true, true, true, false, false, false] 17 2 S (by kernel_rfl) rfl (by kernel_rfl) (fun _ _ _ _ _ h => h) HSD.out ?_
        simp only [selT, selF]
        repeat (go_big_quiet_step (fail))
        refine wpQuiet_nil ?_
        clear y3 y4 ne1 HSD
        refine tail_step ?_
        obtain ⟨WD, hWD⟩ : ∃ q, W.drew = q := ⟨_, rfl⟩
        rw [hWD] at OD CD ⊢
        clear hWD
        obtain ⟨W6, hW6⟩ : ∃ q, WD.alloc (Obj.cells (C5 t i k x y) 82) = q := ⟨_, rfl⟩
        have bA : Below WD.heap.size WD W6 := by rw [← hW6]; exact (Below.refl _ _).alloc (Nat.le_refl _) _
        have C6 : Hid (Cw cs t w (.slice (some ⟨bc, 0, none⟩) lc cc) g L L ve W6) := CD.out.below bA
        have O6 : Hid (Og 5 chC 82 w.heap.size W6 (.slice al ll cl) (clI cs t i ++ clK cs t i k)) := OD.out.below bA
        have K6 : Hid (Blk W6 WD.heap.size (C5 t i k x y) 82) := by show Blk _ _ _ _; rw [← hW6]; exact Blk.new _ _ _
        clear bA CD OD
        go_wp2
        clear hW6
        refine ⟨(HSI.out _).2 C6.out, ?_⟩
        refine tail_step ?_
        refine appCh rfl (.tmp 69) (.tmp 84) rfl w.heap.size _ (clI cs t i ++ clK cs t i k) rfl O6.out _ t i k x y rfl K6.out HLN.out C6.out.bel.size ?_
        intro v9 W9 o9 g9
        have C9 : Hid (Cw cs t w (.slice (some ⟨bc, 0, none⟩) lc cc) g L L ve W9) := C6.out.app O6.out g9
        have O9 : Hid (Og 5 chC 82 w.heap.size W9 v9 (clI cs t i ++ clK cs t i (k + 1))) := by show Og _ _ _ _ _ _ _; rw [HE.out]; simpa only [List.append_assoc] using o9
        obtain ⟨a9, c9, e9⟩ := O9.out.form
        obtain ⟨l9, hl9⟩ : ∃ l, (clI cs t i ++ clK cs t i (k + 1)).length = l := ⟨_, rfl⟩
        rw [hl9] at e9
        subst e9
        clear o9 g9 hl9 C6 O6 K6
        go_wp2
        refine ⟨(HSI.out _).2 C9.out, ?_⟩
        refine tail_end ?_
        go_wp2
        go_roundw
        case rel => exact ⟨k + 1, _, _, _, by omega, by omega, by go_num, rfl, C9.out, O9.out⟩
        case measure => simp [intOf]; omega
end Go.Proofs.Ytfaflnhembceoaa
