/- FnNeeded3's body answers true at every code; no condition. -/
import Derived.Test.YtikhfeafbckjlaaDoorNMath
import Derived.Test.YtikhfeafbckjlaaDoorMixC
import Derived.Test.YtikhfeafbckjlaaDoorFNeedM
import Derived.Test.YtikhfeafbckjlaaDoorSl
namespace Go.Proofs.YtikhfeafbckjlaaDoor
open Go.RowKit Go.ChangeShapes Go.WideShapes Go.ChangeAt
set_option linter.unusedVariables false
set_option linter.unusedSimpArgs false
set_option maxRecDepth 8000
/-- what DrawNeeds answers -/
def DnR (w : World) (e : Ending) (w' : World) : Prop := ∃ (s p m : Int) (V : Value) (ls : Tri), e = .returned (.agg (F4 s p m V)) ∧ (0 ≤ s ∧ s ≤ 7) ∧ (1 ≤ p ∧ p ≤ 4) ∧ (0 ≤ m ∧ m ≤ 13) ∧ ls.length ≤ 28 ∧ Ot 35 w.heap.size w' V ls ∧ Below w.heap.size w w'
set_option maxHeartbeats 3200000 in
theorem drawNeeds_c (v : Value) (zs : List Int) (w : World) (h : Rd .u8 w v zs) (hok : ∀ z ∈ zs, 0 ≤ z ∧ z ≤ 255) (hlen : zs.length ≤ 1048576) : Calls Tryd.prog 17 #[v] w (DnR w) := by
  obtain ⟨W1, hW1⟩ : ∃ W1, w.alloc (Obj.cells (F4 0 0 0 (.slice none 0 0)) 26) = W1 := ⟨_, rfl⟩
  have b1 : Below w.heap.size w W1 := hW1 ▸ (Below.refl _ _).alloc (Nat.le_refl _) _
  have HR1 : Hid (Blk W1 w.heap.size (F4 0 0 0 (.slice none 0 0)) 26) := hW1 ▸ Blk.new _ _ _
  have HB1 : Hid (Below w.heap.size w W1) := b1
  have HRD : Hid (Rd .u8 W1 v zs) := h.below b1
  have HOK : Hid (∀ z ∈ zs, 0 ≤ z ∧ z ≤ 255) := hok
  have HW1 : Hid (w.alloc (Obj.cells (F4 0 0 0 (.slice none 0 0)) 26) = W1) := hW1
  obtain ⟨ac, cc, rfl, -⟩ := id h
  obtain ⟨cv, hcv⟩ : ∃ cv, Value.slice ac zs.length cc = cv := ⟨_, rfl⟩
  rw [hcv] at HRD ⊢
  clear b1 hW1 h hok hcv
  go_enter Tryd.func17, Tryd.ntmps17
  go_wp2_with (fail)
  rw [HW1.out]
  refine (new_c cv zs W1 HRD.out HOK.out hlen).mono ?_
  rintro e w2 ⟨g, rfl, d2, hg2, b2⟩
  have HD2 : Hid (Dr w2 g cv zs) := d2
  have HB2 : Hid (Below w.heap.size w w2) := belowCall HB1.out b2 HB1.out.size
  have HR2 : Hid (Blk w2 w.heap.size (F4 0 0 0 (.slice none 0 0)) 26) := HR1.out.below b2 HR1.out.lt
  have hgw : w.heap.size < g := Nat.lt_of_lt_of_le HR1.out.lt hg2
  clear d2 b2 HB1 HR1 HRD HW1 hg2
  go_wp2_with (fail)
  refine (l3DrawAny_c g cv zs w2 HD2.out).mono ?_
  rintro e w3 ⟨s, p, m, V, ls, rfl, hs, hp, hm, hl, o3, d3, g3⟩
  have hsz := HB2.out.size
  have r3 : Blk w3 w.heap.size (F4 0 0 0 (.slice none 0 0)) 26 := (g3.block _ HR2.out.lt (fun e => by cases e; omega)).trans HR2.out
  have b3 : Below w.heap.size w w3 := HB2.out.trans (grown_below g3 hsz (fun k e => by cases e; omega))
  have o3' : Ot 35 (w.heap.size + 1) w3 V ls := o3.mono (by have := HR2.out.lt; omega)
  obtain ⟨av, cpv, hV, -⟩ := own_form o3
  obtain ⟨ln, hln⟩ : ∃ ln, ls.length = ln := ⟨_, rfl⟩
  rw [hln] at hV
  subst hV
  have HF : Hid (∀ W4, (((w3.setCell ⟨w.heap.size, 0, none⟩ (.int .i64 s)).setCell ⟨w.heap.size, 1, none⟩ (.int .i64 p)).setCell ⟨w.heap.size, 2, none⟩ (.int .i64 m)).setCell ⟨w.heap.size, 3, none⟩ (.slice av ln cpv) = W4 → Blk W4 w.heap.size (F4 s p m (.slice av ln cpv)) 26 ∧ Ot 35 (w.heap.size + 1) W4 (.slice av ln cpv) ls ∧ Below w.heap.size w W4 ∧ W4.heap.size = w3.heap.size) := fun W4 e => finF r3 o3' b3 (Nat.le_refl _) W4 e
  have d0 := r3.cell 0
  have d1 := r3.cell 1
  have d2 := r3.cell 2
  have d3' := r3.cell 3
  have e0 := r3.frozen 0
  have e1 := r3.frozen 1
  have e2 := r3.frozen 2
  have e3 := r3.frozen 3
  simp at d0 d1 d2 d3'
  have hlb : ls.length ≤ 28 := hl
  clear r3 b3 o3 o3' d3 g3 HD2 HB2 HR2
  go_wp2
  exact bodyPost_ret (v := .agg (F4 s p m (.slice av ln cpv))) (results_cell_row rfl _ _ _ 26 _ (0, 0) _ rfl (HF.out _ rfl).1 Tryd.underlying26 rfl size29) rfl ⟨s, p, m, _, ls, rfl, hs, hp, hm, hlb, (HF.out _ rfl).2.1.mono (by omega), (HF.out _ rfl).2.2.1⟩
/-- the law at work: the fabric's box, its paths, the list -/
structure Ns (w : World) (b3 : Nat) (s p m : Int) (V : Value) (ls : Tri) (L : Value) (zs : Tri) (W : World) : Prop where
  bel : Below w.heap.size w W
  box : Blk W b3 (F4 s p m V) 26
  own : Rt W V ls
  lst : Rt W L zs
theorem Ns.below {w : World} {b3 : Nat} {s p m : Int} {V : Value} {ls : Tri} {L : Value} {zs : Tri} {W W' : World} (h : Ns w b3 s p m V ls L zs W) (hb : Below W.heap.size W W') : Ns w b3 s p m V ls L zs W' :=
  ⟨belowCall h.bel hb h.bel.size, h.box.below hb h.box.lt, h.own.below hb, h.lst.below hb⟩
set_option maxHeartbeats 12800000 in
theorem needed3Law (v : Value) (cs : List Int) (w : World) (h : Rd .u8 w v cs) (hwz : ∀ z ∈ cs, (Lit.int .u8 z).wf = true) (hN : NoP w ∧ Tab w) :
   Calls Tryd.prog 4 #[v] w fun e w' => e = .returned (.bool true) ∧ Below w.heap.size w w' := by
  have hz : ∀ z ∈ cs, 0 ≤ z ∧ z ≤ 255 := fun z hm => bounds_u8 (hwz z hm)
  clear hwz
  have HNP : Hid (∀ W, Below w.heap.size w W → NoP W ∧ Tab W) := fun W hb => ⟨hN.1.below hb hN.1.lt, hN.2.below hb hN.2.lt⟩
  clear hN
  obtain ⟨a, cap, hv, h1, h2, h3⟩ := id h
  subst hv
  clear h3
  unfold maxLen at h2
  by_cases hbig : 1048576 < cs.length
  · have hb : decide ((1048576 : Int) < (cs.length : Int)) = true := by simp; omega
    clear hz h
    go_enter Tryd.func4, Tryd.ntmps4
    go_wp2
    go_ret
    exact ⟨rfl, Below.refl _ _⟩
  have hb : decide ((1048576 : Int) < (cs.length : Int)) = false := by simp; omega
  have hlen : cs.length ≤ 1048576 := by omega
  have HZ : Hid (∀ z ∈ cs, 0 ≤ z ∧ z ≤ 255) := hz
  have HRD : Hid (Rd .u8 w (.slice a cs.length cap) cs) := h
  clear hz h hbig
  go_enter Tryd.func4, Tryd.ntmps4
  go_wp2_with (go_at_call 8; go_in)
  refine (drawNeeds_c _ cs w HRD.out HZ.out hlen).mono ?_
  rintro e w1 ⟨s, p, m, V, ls, rfl, hs, hp, hm, hll, o1, bb1⟩
  obtain ⟨av, cpv, hV, -⟩ := own_form o1
  obtain ⟨ln, hln⟩ : ∃ ln, ls.length = ln := ⟨_, rfl⟩
  rw [hln] at hV
  subst hV
  obtain ⟨W2, hW2⟩ : ∃ W2, w1.alloc (Obj.cells (F4 s p m (.slice av ln cpv)) 26) = W2 := ⟨_, rfl⟩
  obtain ⟨b3, hb3⟩ : ∃ b3, w1.heap.size = b3 := ⟨_, rfl⟩
  have b12 : Below w1.heap.size w1 W2 := hW2 ▸ (Below.refl _ _).alloc (Nat.le_refl _) _
  have N2 : Hid (Ns w b3 s p m (.slice av ln cpv) ls (.slice none 0 0) [] W2) := ⟨belowCall bb1 b12 bb1.size, by rw [← hb3]; exact hW2 ▸ Blk.new _ _ _, o1.rd.below b12, ⟨none, 0, rfl, by simp, by simp, .inl rfl⟩⟩
  have HW2 : Hid (w1.alloc (Obj.cells (F4 s p m (.slice av ln cpv)) 26) = W2) := hW2
  clear hW2 b12 o1 bb1
  go_wp2_with (fail)
  rw [HW2.out]
  clear HW2 hb3
  refine (needsI_c s p m _ ls W2 N2.out.own (HNP.out _ N2.out.bel) (by omega)).mono ?_
  rintro e w3 ⟨L, zs, rfl, hzs, o3, b3'⟩
  obtain ⟨al, cpl, hL, -⟩ := own_form o3
  obtain ⟨zl, hzl⟩ : ∃ zl, zs.length = zl := ⟨_, rfl⟩
  rw [hzl] at hL
  subst hL
  have N3 : Hid (Ns w b3 s p m (.slice av ln cpv) ls (.slice al zl cpl) zs w3) := ⟨(N2.out.below b3').bel, (N2.out.below b3').box, (N2.out.below b3').own, o3.rd⟩
  have HZS : Hid (NeedsS s p m ls zs) := hzs
  have HZL : Hid (zs.length = zl) := hzl
  have hz5 : zl ≤ 576 := by rw [← hzl]; exact hzs.len
  clear N2 o3 b3' hzs hzl
  have c0 := N3.out.box.cell 0
  have c1 := N3.out.box.cell 1
  have c2 := N3.out.box.cell 2
  have c3 := N3.out.box.cell 3
  simp at c0 c1 c2 c3
  have hb3 : b3 < w3.heap.size := N3.out.box.lt
  go_wp2_with (fail)
  refine (needsM_c s p m _ ls w3 N3.out.own (by omega)).mono ?_
  rintro e w4 ⟨L', zs', rfl, hzs', o4, b4⟩
  obtain rfl := NeedsS.same hzs' HZS.out
  obtain ⟨al', cpl', hL', -⟩ := own_form o4
  rw [HZL.out] at hL'
  subst hL'
  have N4 : Hid (Ns w b3 s p m (.slice av ln cpv) ls (.slice al zl cpl) zs' w4) := N3.out.below b4
  clear N3 o4 b4 hzs' c0 c1 c2 c3 hb3
  have hnq : (((zl : Nat) : Int) != ((zl : Nat) : Int)) = false := by simp
  have c0 := N4.out.box.cell 0
  have c1 := N4.out.box.cell 1
  have c2 := N4.out.box.cell 2
  have c3 := N4.out.box.cell 3
  simp at c0 c1 c2 c3
  have hb3 : b3 < w4.heap.size := N4.out.box.lt
  go_wp2_with (fail)
  refine (conI_c 1 1 1 0 0 (.slice none 0 0) [] w4 ⟨none, 0, rfl, by simp, by simp, .inl rfl⟩ (HNP.out _ N4.out.bel).1 (HNP.out _ N4.out.bel).2 (by simp)).mono ?_
  rintro e w5 ⟨v5, ps5, mv5, ms5, c5, rfl, hs5, o5, om5, -, b5⟩
  obtain ⟨hc5, hl5⟩ := con_one hs5
  subst hc5
  obtain ⟨a5, cp5, hv5, -⟩ := own_form o5
  rw [hl5] at hv5
  subst hv5
  have N5 : Hid (Ns w b3 s p m (.slice av ln cpv) ls (.slice al zl cpl) zs' w5) := N4.out.below b5
  clear N4 hs5 o5 om5 b5 hl5 c0 c1 c2 c3 hb3
  obtain ⟨W6, hW6⟩ : ∃ W6, w5.alloc (Obj.cells (F4 1 1 1 (.slice a5 1 cp5)) 26) = W6 := ⟨_, rfl⟩
  have N6 : Hid (Ns w b3 s p m (.slice av ln cpv) ls (.slice al zl cpl) zs' W6) := N5.out.below (hW6 ▸ (Below.refl _ _).alloc (Nat.le_refl _) _)
  have HW6 : Hid (w5.alloc (Obj.cells (F4 1 1 1 (.slice a5 1 cp5)) 26) = W6) := hW6
  clear hW6
  have c0 := N5.out.box.cell 0
  have c1 := N5.out.box.cell 1
  have c2 := N5.out.box.cell 2
  have c3 := N5.out.box.cell 3
  simp at c0 c1 c2 c3
  have hb3 : b3 < w5.heap.size := N5.out.box.lt
  go_wp2_with (fail)
  rw [HW6.out]
  clear HW6 N5 c0 c1 c2 c3 hb3
  refine (ok_c s p m _ ls W6 N6.out.own).mono ?_
  rintro e w7 ⟨r, rfl, hr, b7⟩
  have N7 : Hid (Ns w b3 s p m (.slice av ln cpv) ls (.slice al zl cpl) zs' w7) := N6.out.below b7
  clear N6 b7
  cases r with
  | false =>
    have hz0 : zl = 0 := by
      rcases HZS.out with ⟨-, h⟩ | ⟨h, -⟩
      · rw [← HZL.out, h]; rfl
      · have := hr.2 h; cases this
    subst hz0
    have HB : Hid (Below w.heap.size w w7) := N7.out.bel
    clear hr N7
    go_wp2
    go_ret
    exact ⟨rfl, HB.out⟩
  | true =>
  have hok := hr.1 rfl
  have HOK : Hid (FOk s p m ls) := hok
  obtain ⟨hn1, hn2⟩ := sides hok.1 hok.2.1
  obtain ⟨M, rfl⟩ : ∃ M : Nat, m = M := ⟨m.toNat, by omega⟩
  obtain ⟨N, hN⟩ : ∃ N : Nat, s * p = N := ⟨(s * p).toNat, by omega⟩
  have hzs : zs' = needL p M ls N N := by
    rcases HZS.out with ⟨h, -⟩ | ⟨-, h⟩
    · exact absurd hok h
    · rw [h, hN]; rfl
  have HEN : Hid (∀ x : Nat, x < N → FEnd (s * p) x) := fun x hx => ⟨by omega, by omega⟩
  have HND : Hid (∀ j (h : j < zs'.length), ∃ x y : Nat, zs'[j] = ((x : Int), (y : Int), -1) ∧ x < N ∧ y < N ∧ needB p M ls x y = true) := fun j h => by
    have hm : zs'[j] ∈ needL p M ls N N := Eq.mp (congrArg (fun l => zs'[j] ∈ l) hzs) (List.getElem_mem h)
    obtain ⟨x, y, hx, hy, e, hn⟩ := need_mem.1 hm
    exact ⟨x, y, e, hx, hy, hn⟩
  have HIN : Hid (∀ x y : Nat, x < N → y < N → ((zs'.any fun q => q.1 == (x : Int) && q.2.1 == (y : Int)) = true ↔ (¬ Busy x y ls ∧ cV p M ls x y < 0))) := fun x y hx hy => by
    rw [← needB_iff, List.any_eq_true]
    constructor
    · rintro ⟨q, hq, e⟩
      rw [hzs] at hq
      obtain ⟨x', y', -, -, rfl, hn⟩ := need_mem.1 hq
      simp at e
      rw [show x = x' by omega, show y = y' by omega]; exact hn
    · intro hn
      exact ⟨((x : Int), (y : Int), -1), by rw [hzs]; exact need_mem.2 ⟨x, y, hx, hy, rfl, hn⟩, by simp⟩
  have hN1 : 1 ≤ N := by omega
  have hN2 : N ≤ 24 := by omega
  clear hr hok hzs hn1 hn2
  have c0 := N7.out.box.cell 0
  have c1 := N7.out.box.cell 1
  have c2 := N7.out.box.cell 2
  have c3 := N7.out.box.cell 3
  simp at c0 c1 c2 c3
  have hb3 : b3 < w7.heap.size := N7.out.box.lt
  go_wp2
  clear c0 c1 c2 c3 hb3
  go_loopw [9] (fun i wr => ∃ j : Nat, j ≤ zl ∧ i = .int .i64 j ∧ Hid (Ns w b3 s p M (.slice av ln cpv) ls (.slice al zl cpl) zs' wr)) (fun i _ => zl - (intOf i).toNat)
  case atStart => exact ⟨0, Nat.zero_le _, rfl, N7.out⟩
  case round =>
    obtain ⟨j, hj, rfl, NJ⟩ := hrel
    clear N7
    by_cases hlt : j < zl
    case pos =>
      have hjz : j < zs'.length := by rw [HZL.out]; exact hlt
      obtain ⟨x, y, ex, hxN, hyN, hnb⟩ := HND.out j hjz
      obtain ⟨x1, x2, x3, x4, x5, x6⟩ := NJ.out.lst
      injection x3 with i1 i2 i3
      subst i1 i3
      clear i2
      obtain ⟨bl, ol, rfl, x7⟩ : ∃ b off, al = some ⟨b, off, none⟩ ∧ ∀ i (h : i < zs'.length), wr.cell? ⟨b, off + i * 3, none⟩ = some (.int .i64 zs'[i].1) ∧ wr.cell? ⟨b, off + i * 3 + 1, none⟩ = some (.int .i64 zs'[i].2.1) ∧ wr.cell? ⟨b, off + i * 3 + 2, none⟩ = some (.int .i64 zs'[i].2.2) := by
        rcases x6 with h | h
        · rw [h] at hjz; simp at hjz
        · exact h
      have q01 := x7 j hjz
      rw [ex] at q01
      obtain ⟨q0, q1, -⟩ := q01
      have hbl : bl < wr.heap.size := block_lt_of_cell q0
      obtain ⟨S, hS⟩ : ∃ S : World → Prop, ∀ W, S W ↔ Below wr.heap.size wr W := ⟨_, fun _ => Iff.rfl⟩
      have t0 : ∀ W : At S, W.wd.cell? ⟨b3, 0, none⟩ = some (.int .i64 s) := fun W => (((hS _).1 W.ok).cell NJ.out.box.lt).trans (NJ.out.box.cell 0)
      have t1 : ∀ W : At S, W.wd.cell? ⟨b3, 1, none⟩ = some (.int .i64 p) := fun W => (((hS _).1 W.ok).cell NJ.out.box.lt).trans (NJ.out.box.cell 1)
      have t2 : ∀ W : At S, W.wd.cell? ⟨b3, 2, none⟩ = some (.int .i64 M) := fun W => (((hS _).1 W.ok).cell NJ.out.box.lt).trans (NJ.out.box.cell 2)
      have t3 : ∀ W : At S, W.wd.cell? ⟨b3, 3, none⟩ = some (.slice av ln cpv) := fun W => (((hS _).1 W.ok).cell NJ.out.box.lt).trans (NJ.out.box.cell 3)
      have t4 : ∀ W : At S, W.wd.cell? ⟨bl, ol + j * 3, none⟩ = some (.int .i64 x) := fun W => (((hS _).1 W.ok).cell hbl).trans q0
      have t5 : ∀ W : At S, W.wd.cell? ⟨bl, ol + j * 3 + 1, none⟩ = some (.int .i64 y) := fun W => (((hS _).1 W.ok).cell hbl).trans q1
      have HSI : Hid (∀ W, Below wr.heap.size wr W → S W) := fun W h => (hS W).2 h
      have HSD : Hid (S wr.drew) := HSI.out _ (Below.refl _ _).drew
      have ne1 : Nonempty (At S) := ⟨⟨_, HSD.out⟩⟩
      have HNB : Hid (ConOk s p M x y ls ∧ (¬ Busy x y ls ∧ cV p M ls x y < 0)) := ⟨⟨HOK.out, HEN.out x hxN, HEN.out y hyN⟩, needB_iff.1 hnb⟩
      clear hS x6 x7 ex hnb q0 q1
      have hjI : (j : Int) < (zl : Int) := by omega
      go_wp2
      refine region_anyS S (by kernel_rfl) ?_
      refine anyS_quiet [true, true, true, true, true, true, true, true, true, true, true, false, false, false, false, false, false, false, false, false] 9 rfl (by kernel_rfl) (fun _ _ _ _ _ h => h) HSD.out ?_
      simp only [selT]
      repeat (go_big_quiet_step (fail))
      refine wpQuiet_nil ?_
      clear t0 t1 t2 t3 t4 t5 HSD
      have ND : Hid (Ns w b3 s p M (.slice av ln cpv) ls (.slice (some ⟨bl, ol, none⟩) zl cpl) zs' wr.drew) := NJ.out.below (Below.refl _ _).drew
      have BD : Hid (Below wr.heap.size wr wr.drew) := (Below.refl _ _).drew
      obtain ⟨u0, hu0⟩ : ∃ x, wr.drew = x := ⟨_, rfl⟩
      rw [hu0] at ND BD ⊢
      have NR : Hid (Ns w b3 s p M (.slice av ln cpv) ls (.slice (some ⟨bl, ol, none⟩) zl cpl) zs' wr) := NJ.out
      clear hu0 NJ
      refine anyS_two 11 16 (by kernel_rfl) rfl rfl ?_ ?_
      · go_wp2_with (fail)
        refine (conI_c s p M x y _ ls u0 ND.out.own (HNP.out _ ND.out.bel).1 (HNP.out _ ND.out.bel).2 (by omega)).mono ?_
        rintro e u1 ⟨vc, pc, mvc, mc, cc, rfl, hsc, oc, omc, -, bc⟩
        obtain ⟨ac, cpc, hvc, -⟩ := own_form oc
        subst hvc
        obtain ⟨amc, cmc, hmvc, -, -⟩ := own_form2 omc
        obtain ⟨K, hK⟩ : ∃ K, mc.length = K := ⟨_, rfl⟩
        rw [hK] at hmvc
        subst hmvc
        have HCC : Hid (cc = 3 ∨ (cc = 0 ∧ 0 < K)) := by
          have := ((con_need hsc HNB.out.1).2.1).1 HNB.out.2
          rw [hK] at this
          exact this
        have NE : Hid (Ns w b3 s p M (.slice av ln cpv) ls (.slice (some ⟨bl, ol, none⟩) zl cpl) zs' u1) := ND.out.below bc
        have BE : Hid (Below wr.heap.size wr u1) := belowCall BD.out bc BD.out.size
        have hszu1 : u0.heap.size ≤ u1.heap.size := bc.size
        have HSu1 : Hid (S u1) := HSI.out _ BE.out
        clear hsc oc omc bc hK
        go_wp2
        refine ⟨HSu1.out, ?_⟩
        refine anyS_quiet [false, false, false, false, false, false, false, false, false, false, false, false, true, true, true, true, false, false, false, false] 4 rfl (by kernel_rfl) (fun _ _ _ _ _ h => h) HSu1.out ?_
        simp only [selT]
        repeat (go_big_quiet_step (fail))
        refine wpQuiet_nil ?_
        clear HSu1
        refine anyS_one 16 (by kernel_rfl) rfl ?_
        obtain ⟨u2, hu2⟩ : ∃ W, u1.alloc (Obj.cells (F4 0 0 0 (.slice none 0 0)) 26) = W := ⟨_, rfl⟩
        have bA : Below u1.heap.size u1 u2 := hu2 ▸ (Below.refl _ _).alloc (Nat.le_refl _) _
        have NF : Hid (Ns w b3 s p M (.slice av ln cpv) ls (.slice (some ⟨bl, ol, none⟩) zl cpl) zs' u2) := NE.out.below bA
        have BF : Hid (Below wr.heap.size wr u2) := belowCall BE.out bA BE.out.size
        have KB : Hid (Blk u2 u1.heap.size (F4 0 0 0 (.slice none 0 0)) 26) := hu2 ▸ Blk.new _ _ _
        have HSu2 : Hid (S u2) := HSI.out _ BF.out
        have HWu2 : Hid (u1.alloc (Obj.cells (F4 0 0 0 (.slice none 0 0)) 26) = u2) := hu2
        obtain ⟨bq, hbq⟩ : ∃ bq, u1.heap.size = bq := ⟨_, rfl⟩
        have hbw : wr.heap.size ≤ bq := by rw [← hbq]; exact BE.out.size
        rw [hbq] at KB
        clear bA hu2
        go_wp2
        rw [HWu2.out]
        refine ⟨HSu2.out, ?_⟩
        clear HSu2 HWu2 hbq
        refine anyS_one 17 (by kernel_rfl) rfl ?_
        have r0 := KB.out.cell 0
        have r1 := KB.out.cell 1
        have r2 := KB.out.cell 2
        have r3 := KB.out.cell 3
        have f0 := KB.out.frozen 0
        have f1 := KB.out.frozen 1
        have f2 := KB.out.frozen 2
        have f3 := KB.out.frozen 3
        simp at r0 r1 r2 r3
        obtain ⟨u9, hu9⟩ : ∃ x, (((u2.setCell ⟨bq, 0, none⟩ (.int .i64 s)).setCell ⟨bq, 1, none⟩ (.int .i64 p)).setCell ⟨bq, 2, none⟩ (.int .i64 M)).setCell ⟨bq, 3, none⟩ (.slice ac pc.length cpc) = x := ⟨_, rfl⟩
        have gb : Below wr.heap.size u2 u9 := hu9 ▸ grown_below (grown_put4 u2 bq (.int .i64 s) (.int .i64 p) (.int .i64 M) (.slice ac pc.length cpc)) BF.out.size (fun k e => by cases e; exact hbw)
        have B9 : Hid (Below wr.heap.size wr u9) := BF.out.trans gb
        have N9 : Hid (Ns w b3 s p M (.slice av ln cpv) ls (.slice (some ⟨bl, ol, none⟩) zl cpl) zs' u9) := NR.out.below B9.out
        have HS9 : Hid (S u9) := HSI.out _ B9.out
        have HU9 : Hid ((((u2.setCell ⟨bq, 0, none⟩ (.int .i64 s)).setCell ⟨bq, 1, none⟩ (.int .i64 p)).setCell ⟨bq, 2, none⟩ (.int .i64 M)).setCell ⟨bq, 3, none⟩ (.slice ac pc.length cpc) = u9) := hu9
        clear hu9 gb
        go_wp2
        rw [HU9.out]
        refine ⟨HS9.out, ?_⟩
        refine anyS_quiet [false, false, false, false, false, false, false, false, false, false, false, false, false, false, false, false, false, false, true, true] 0 rfl (by kernel_rfl) (fun _ _ _ _ _ h => h) HS9.out ?_
        simp only [selT]
        repeat (go_big_quiet_step (fail))
        refine wpQuiet_nil ?_
        refine anyS_end (by kernel_rfl) ?_
        clear HS9 HU9 r0 r1 r2 r3 f0 f1 f2 f3 KB NF BF B9 HSI S ne1
        rcases HCC.out with hc3 | ⟨hc0, hkp⟩
        · subst hc3
          go_wp2
          go_roundw
          case rel => exact ⟨j + 1, by omega, by go_num, N9.out⟩
          case measure => simp [intOf]; omega
        · subst hc0
          have hk0 : (((K : Nat) : Int) == 0) = false := by simp; omega
          go_wp2
          go_roundw
          case rel => exact ⟨j + 1, by omega, by go_num, N9.out⟩
          case measure => simp [intOf]; omega
      · obtain ⟨u1, hu1⟩ : ∃ W, u0.alloc (Obj.cells (F4 0 0 0 (.slice none 0 0)) 26) = W := ⟨_, rfl⟩
        have bA : Below u0.heap.size u0 u1 := hu1 ▸ (Below.refl _ _).alloc (Nat.le_refl _) _
        have NE : Hid (Ns w b3 s p M (.slice av ln cpv) ls (.slice (some ⟨bl, ol, none⟩) zl cpl) zs' u1) := ND.out.below bA
        have BE : Hid (Below wr.heap.size wr u1) := belowCall BD.out bA BD.out.size
        have KB : Hid (Blk u1 u0.heap.size (F4 0 0 0 (.slice none 0 0)) 26) := hu1 ▸ Blk.new _ _ _
        have HSu1 : Hid (S u1) := HSI.out _ BE.out
        have HWu1 : Hid (u0.alloc (Obj.cells (F4 0 0 0 (.slice none 0 0)) 26) = u1) := hu1
        obtain ⟨bq, hbq⟩ : ∃ bq, u0.heap.size = bq := ⟨_, rfl⟩
        have hbw : wr.heap.size ≤ bq := by rw [← hbq]; exact BD.out.size
        rw [hbq] at KB
        clear bA hu1
        go_wp2
        rw [HWu1.out]
        refine ⟨HSu1.out, ?_⟩
        clear HSu1 HWu1 hbq
        refine anyS_one 11 (by kernel_rfl) rfl ?_
        go_wp2_with (fail)
        refine (conI_c s p M x y _ ls u1 NE.out.own (HNP.out _ NE.out.bel).1 (HNP.out _ NE.out.bel).2 (by omega)).mono ?_
        rintro e u2 ⟨vc, pc, mvc, mc, cc, rfl, hsc, oc, omc, -, bc⟩
        obtain ⟨ac, cpc, hvc, -⟩ := own_form oc
        subst hvc
        obtain ⟨amc, cmc, hmvc, -, -⟩ := own_form2 omc
        obtain ⟨K, hK⟩ : ∃ K, mc.length = K := ⟨_, rfl⟩
        rw [hK] at hmvc
        subst hmvc
        have HCC : Hid (cc = 3 ∨ (cc = 0 ∧ 0 < K)) := by
          have := ((con_need hsc HNB.out.1).2.1).1 HNB.out.2
          rw [hK] at this
          exact this
        have NF : Hid (Ns w b3 s p M (.slice av ln cpv) ls (.slice (some ⟨bl, ol, none⟩) zl cpl) zs' u2) := NE.out.below bc
        have BF : Hid (Below wr.heap.size wr u2) := belowCall BE.out bc BE.out.size
        have hszu2 : u1.heap.size ≤ u2.heap.size := bc.size
        have HSu2 : Hid (S u2) := HSI.out _ BF.out
        have KB2 : Hid (Blk u2 bq (F4 0 0 0 (.slice none 0 0)) 26) := KB.out.below bc KB.out.lt
        clear KB
        have KB := KB2
        clear KB2
        clear hsc oc omc bc hK
        go_wp2
        refine ⟨HSu2.out, ?_⟩
        refine anyS_quiet [false, false, false, false, false, false, false, false, false, false, false, false, true, true, true, true, false, false, false, false] 3 rfl (by kernel_rfl) (fun _ _ _ _ _ h => h) HSu2.out ?_
        simp only [selT]
        repeat (go_big_quiet_step (fail))
        refine wpQuiet_nil ?_
        clear HSu2
        refine anyS_one 17 (by kernel_rfl) rfl ?_
        have r0 := KB.out.cell 0
        have r1 := KB.out.cell 1
        have r2 := KB.out.cell 2
        have r3 := KB.out.cell 3
        have f0 := KB.out.frozen 0
        have f1 := KB.out.frozen 1
        have f2 := KB.out.frozen 2
        have f3 := KB.out.frozen 3
        simp at r0 r1 r2 r3
        obtain ⟨u9, hu9⟩ : ∃ x, (((u2.setCell ⟨bq, 0, none⟩ (.int .i64 s)).setCell ⟨bq, 1, none⟩ (.int .i64 p)).setCell ⟨bq, 2, none⟩ (.int .i64 M)).setCell ⟨bq, 3, none⟩ (.slice ac pc.length cpc) = x := ⟨_, rfl⟩
        have gb : Below wr.heap.size u2 u9 := hu9 ▸ grown_below (grown_put4 u2 bq (.int .i64 s) (.int .i64 p) (.int .i64 M) (.slice ac pc.length cpc)) BF.out.size (fun k e => by cases e; exact hbw)
        have B9 : Hid (Below wr.heap.size wr u9) := BF.out.trans gb
        have N9 : Hid (Ns w b3 s p M (.slice av ln cpv) ls (.slice (some ⟨bl, ol, none⟩) zl cpl) zs' u9) := NR.out.below B9.out
        have HS9 : Hid (S u9) := HSI.out _ B9.out
        have HU9 : Hid ((((u2.setCell ⟨bq, 0, none⟩ (.int .i64 s)).setCell ⟨bq, 1, none⟩ (.int .i64 p)).setCell ⟨bq, 2, none⟩ (.int .i64 M)).setCell ⟨bq, 3, none⟩ (.slice ac pc.length cpc) = u9) := hu9
        clear hu9 gb
        go_wp2
        rw [HU9.out]
        refine ⟨HS9.out, ?_⟩
        refine anyS_quiet [false, false, false, false, false, false, false, false, false, false, false, false, false, false, false, false, false, false, true, true] 0 rfl (by kernel_rfl) (fun _ _ _ _ _ h => h) HS9.out ?_
        simp only [selT]
        repeat (go_big_quiet_step (fail))
        refine wpQuiet_nil ?_
        refine anyS_end (by kernel_rfl) ?_
        clear HS9 HU9 r0 r1 r2 r3 f0 f1 f2 f3 KB NF BF B9 HSI S ne1
        rcases HCC.out with hc3 | ⟨hc0, hkp⟩
        · subst hc3
          go_wp2
          go_roundw
          case rel => exact ⟨j + 1, by omega, by go_num, N9.out⟩
          case measure => simp [intOf]; omega
        · subst hc0
          have hk0 : (((K : Nat) : Int) == 0) = false := by simp; omega
          go_wp2
          go_roundw
          case rel => exact ⟨j + 1, by omega, by go_num, N9.out⟩
          case measure => simp [intOf]; omega
    case neg =>
    obtain rfl : zl = j := by omega
    clear hlt hj
    have hNp : s * p ≠ 0 := by omega
    have hsp : 0 < s * p := by omega
    go_wp2
    refine region_any0 (by kernel_rfl) ?_
    have NR : Hid (Ns w b3 s p M (.slice av ln cpv) ls (.slice al zl cpl) zs' wr.drew) := NJ.out.below (Below.refl _ _).drew
    have HRW : Hid (Rd .u8 wr.drew (.slice a cs.length cap) cs) := HRD.out.below NR.out.bel
    obtain ⟨u0, hu0⟩ : ∃ x, wr.drew = x := ⟨_, rfl⟩
    rw [hu0] at NR HRW ⊢
    clear hu0 NJ
    have neT : Nonempty (At (fun _ => True)) := ⟨⟨u0, trivial⟩⟩
    refine any_pure [true, false, true, false, true, false, true, false, false, false] 6 rfl (by kernel_rfl) (fun _ _ _ _ _ h => h) ?_
    simp only [selT]
    repeat (go_big_quiet_step (fail))
    refine wpQuiet_nil ?_
    refine any_one 1 (by kernel_rfl) rfl ?_
    go_wp2_with (fail)
    refine (at_c _ cs 0 u0 HRW.out HZ.out (by decide) hlen).mono ?_
    rintro e u1 ⟨x1, rfl, x1a, x1b, hu1⟩
    obtain rfl : u0 = u1 := hu1.symm
    go_wp2
    refine any_pure [false, false, false, true, false, false, false, false, false, false] 4 rfl (by kernel_rfl) (fun _ _ _ _ _ h => h) ?_
    simp only [selT]
    repeat (go_big_quiet_step (fail))
    refine wpQuiet_nil ?_
    refine any_one 5 (by kernel_rfl) rfl ?_
    go_wp2_with (fail)
    refine (at_c _ cs 1 u0 HRW.out HZ.out (by decide) hlen).mono ?_
    rintro e u1 ⟨x2, rfl, x2a, x2b, hu1⟩
    obtain rfl : u0 = u1 := hu1.symm
    go_wp2
    refine any_pure [false, false, false, false, false, false, false, true, true, true] 0 rfl (by kernel_rfl) (fun _ _ _ _ _ h => h) ?_
    simp only [selT]
    repeat (go_big_quiet_step (fail))
    refine wpQuiet_nil ?_
    refine any_end (by kernel_rfl) ?_
    obtain ⟨X, hX, hXN⟩ : ∃ X : Nat, x1 % (N : Int) = X ∧ X < N := ⟨(x1 % (N : Int)).toNat, by have := Int.emod_nonneg x1 (show (N : Int) ≠ 0 by omega); omega, by have := Int.emod_lt_of_pos x1 (show (0 : Int) < N by omega); have := Int.emod_nonneg x1 (show (N : Int) ≠ 0 by omega); omega⟩
    obtain ⟨Y, hY, hYN⟩ : ∃ Y : Nat, x2 % (N : Int) = Y ∧ Y < N := ⟨(x2 % (N : Int)).toNat, by have := Int.emod_nonneg x2 (show (N : Int) ≠ 0 by omega); omega, by have := Int.emod_lt_of_pos x2 (show (0 : Int) < N by omega); have := Int.emod_nonneg x2 (show (N : Int) ≠ 0 by omega); omega⟩
    rw [hX, hY]
    clear hX hY x1a x1b x2a x2b HRW neT
    have c0 := NR.out.box.cell 0
    have c1 := NR.out.box.cell 1
    have c2 := NR.out.box.cell 2
    have c3 := NR.out.box.cell 3
    simp at c0 c1 c2 c3
    go_wp2_with (fail)
    refine (conI_c s p M X Y _ ls u0 NR.out.own (HNP.out _ NR.out.bel).1 (HNP.out _ NR.out.bel).2 (by omega)).mono ?_
    rintro e v1 ⟨vc, pc, mvc, mc, cc, rfl, hsc, oc, omc, -, bc⟩
    obtain ⟨ac, cpc, hvc, -⟩ := own_form oc
    subst hvc
    obtain ⟨amc, cmc, hmvc, -, -⟩ := own_form2 omc
    obtain ⟨K, hK⟩ : ∃ K, mc.length = K := ⟨_, rfl⟩
    rw [hK] at hmvc
    subst hmvc
    have hcn := con_need hsc ⟨HOK.out, HEN.out X hXN, HEN.out Y hYN⟩
    rw [hK, ← HIN.out X Y hXN hYN] at hcn
    have HCN : Hid ((cc = 0 ∨ cc = 2 ∨ cc = 3) ∧ ((zs'.any fun q => q.1 == (X : Int) && q.2.1 == (Y : Int)) = true ↔ (cc = 3 ∨ (cc = 0 ∧ 0 < K)))) := ⟨hcn.1, hcn.2.1⟩
    have NS1 : Hid (Ns w b3 s p M (.slice av ln cpv) ls (.slice al zl cpl) zs' v1) := NR.out.below bc
    obtain ⟨v2, hv2⟩ : ∃ x, v1.alloc (Obj.cells (F4 s p M (.slice ac pc.length cpc)) 26) = x := ⟨_, rfl⟩
    have NS2 : Hid (Ns w b3 s p M (.slice av ln cpv) ls (.slice al zl cpl) zs' v2) := NS1.out.below (hv2 ▸ (Below.refl _ _).alloc (Nat.le_refl _) _)
    have HV2 : Hid (v1.alloc (Obj.cells (F4 s p M (.slice ac pc.length cpc)) 26) = v2) := hv2
    clear hsc oc omc bc hK hcn NR NS1 hv2 c0 c1 c2 c3
    go_wp2
    rw [HV2.out]
    clear HV2
    go_loopw [18, 19] (fun th i wr => ∃ j : Nat, j ≤ zl ∧ i = .int .i64 j ∧ th = .bool ((zs'.take j).any fun q => q.1 == (X : Int) && q.2.1 == (Y : Int)) ∧ Hid (Ns w b3 s p M (.slice av ln cpv) ls (.slice al zl cpl) zs' wr)) (fun _ i _ => zl - (intOf i).toNat)
    case atStart => exact ⟨0, Nat.zero_le _, rfl, rfl, NS2.out⟩
    case round =>
      obtain ⟨j, hj, rfl, rfl, NJ⟩ := hrel
      clear NS2
      obtain ⟨th, hth⟩ : ∃ th, ((zs'.take j).any fun q => q.1 == (X : Int) && q.2.1 == (Y : Int)) = th := ⟨_, rfl⟩
      rw [hth]
      have HTH : Hid (((zs'.take j).any fun q => q.1 == (X : Int) && q.2.1 == (Y : Int)) = th) := hth
      clear hth
      by_cases hlt : j < zl
      case pos =>
        have hjz : j < zs'.length := by rw [HZL.out]; exact hlt
        have htk : zs'.take (j + 1) = zs'.take j ++ [zs'[j]] := List.take_succ_eq_append_getElem hjz
        obtain ⟨x, ex⟩ : ∃ x, zs'[j].1 = x := ⟨_, rfl⟩
        obtain ⟨y, ey⟩ : ∃ y, zs'[j].2.1 = y := ⟨_, rfl⟩
        have HNX : Hid (((zs'.take (j + 1)).any fun q => q.1 == (X : Int) && q.2.1 == (Y : Int)) = (th || (x == (X : Int) && y == (Y : Int)))) := by
          show ((zs'.take (j + 1)).any fun q => q.1 == (X : Int) && q.2.1 == (Y : Int)) = _
          rw [htk, List.any_append, HTH.out]
          simp [ex, ey]
        obtain ⟨y1, y2, y3, y4, y5, y6⟩ := NJ.out.lst
        injection y3 with i1 i2 i3
        subst i1 i3
        clear i2
        obtain ⟨bl, ol, rfl, y7⟩ : ∃ b off, al = some ⟨b, off, none⟩ ∧ ∀ i (h : i < zs'.length), wr.cell? ⟨b, off + i * 3, none⟩ = some (.int .i64 zs'[i].1) ∧ wr.cell? ⟨b, off + i * 3 + 1, none⟩ = some (.int .i64 zs'[i].2.1) ∧ wr.cell? ⟨b, off + i * 3 + 2, none⟩ = some (.int .i64 zs'[i].2.2) := by
          rcases y6 with h | h
          · rw [h] at hjz; simp at hjz
          · exact h
        have q01 := y7 j hjz
        rw [ex, ey] at q01
        obtain ⟨q0, q1, -⟩ := q01
        have hjI : (j : Int) < (zl : Int) := by omega
        clear y6 y7 ex ey htk
        cases th with
        | true =>
          have HNT : Hid (((zs'.take (j + 1)).any fun q => q.1 == (X : Int) && q.2.1 == (Y : Int)) = true) := HNX.out
          go_wp2
          go_roundw
          case rel => exact ⟨j + 1, by omega, by go_num, by rw [HNT.out], NJ.out⟩
          case measure => simp [intOf]; omega
        | false =>
          by_cases hxX : x = (X : Int)
          · by_cases hyY : y = (Y : Int)
            · have hbx : (x == (X : Int)) = true := by simp [hxX]
              have hby : (y == (Y : Int)) = true := by simp [hyY]
              have HNT : Hid (((zs'.take (j + 1)).any fun q => q.1 == (X : Int) && q.2.1 == (Y : Int)) = true) := by have := HNX.out; rw [hbx, hby] at this; exact this
              clear hxX hyY
              go_wp2
              go_roundw
              case rel => exact ⟨j + 1, by omega, by go_num, by rw [HNT.out], NJ.out⟩
              case measure => simp [intOf]; omega
            · have hbx : (x == (X : Int)) = true := by simp [hxX]
              have hby : (y == (Y : Int)) = false := by simpa using hyY
              have HNT : Hid (((zs'.take (j + 1)).any fun q => q.1 == (X : Int) && q.2.1 == (Y : Int)) = false) := by have := HNX.out; rw [hbx, hby] at this; exact this
              clear hxX hyY
              go_wp2
              go_roundw
              case rel => exact ⟨j + 1, by omega, by go_num, by rw [HNT.out], NJ.out⟩
              case measure => simp [intOf]; omega
          · have hbx : (x == (X : Int)) = false := by simpa using hxX
            have HNT : Hid (((zs'.take (j + 1)).any fun q => q.1 == (X : Int) && q.2.1 == (Y : Int)) = false) := by have := HNX.out; rw [hbx] at this; exact this
            clear hxX
            go_wp2
            go_roundw
            case rel => exact ⟨j + 1, by omega, by go_num, by rw [HNT.out], NJ.out⟩
            case measure => simp [intOf]; omega
      case neg =>
        obtain rfl : zl = j := by omega
        have hth := HTH.out
        rw [List.take_of_length_le (by rw [HZL.out]; exact Nat.le_refl _)] at hth
        have hcn := HCN.out
        rw [hth] at hcn
        obtain ⟨hc, hiff⟩ := hcn
        have HB : Hid (Below w.heap.size w wr) := NJ.out.bel
        clear hth HTH NJ hlt hj HCN
        rcases hc with hc | hc | hc
        · subst hc
          by_cases hk : 0 < K
          · have ht : th = true := hiff.2 (.inr ⟨rfl, hk⟩)
            subst ht
            have hk0 : (0 : Int) < ((K : Nat) : Int) := by omega
            clear hiff
            go_wp2
            go_ret
            exact ⟨rfl, HB.out⟩
          · have ht : th = false := by
              cases th with
              | false => rfl
              | true => have := hiff.1 rfl; omega
            subst ht
            obtain rfl : K = 0 := by omega
            clear hiff
            go_wp2
            go_ret
            exact ⟨rfl, HB.out⟩
        · subst hc
          have ht : th = false := by
            cases th with
            | false => rfl
            | true => have := hiff.1 rfl; omega
          subst ht
          clear hiff
          go_wp2
          go_ret
          exact ⟨rfl, HB.out⟩
        · subst hc
          have ht : th = true := hiff.2 (.inl rfl)
          subst ht
          clear hiff
          go_wp2
          go_ret
          exact ⟨rfl, HB.out⟩
end Go.Proofs.YtikhfeafbckjlaaDoor
