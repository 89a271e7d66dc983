/- The contract of the program's Needs; no condition. -/
import Derived.Test.YtikhfeafbckjlaaDoorFVal
import Derived.Test.YtikhfeafbckjlaaDoorFOkI
import Derived.Test.YtikhfeafbckjlaaDoorFCp
namespace Go.Proofs.YtikhfeafbckjlaaDoor
open Go.RowKit Go.ChangeShapes Go.WideShapes Go.ChangeAt
set_option linter.unusedVariables false
set_option linter.unusedSimpArgs false
set_option maxRecDepth 8000
theorem oneTri {W : World} {base : Nat} {V : Value} {zs : Tri} (hO : Ot 35 base W V zs) (x y z : Int) : Ot 35 base (W.alloc (Obj.cells (P3 x y z) 35)) V zs ∧ Rt (W.alloc (Obj.cells (P3 x y z) 35)) (.slice (some ⟨W.heap.size, 0, none⟩) 1 1) [(x, y, z)] := by
  refine ⟨hO.below ((Below.refl _ _).alloc (Nat.le_refl _) _), _, 1, rfl, Nat.le_refl _, by decide, .inr ⟨_, 0, rfl, fun i hi => ?_⟩⟩
  obtain rfl : i = 0 := by simp at hi; exact hi
  exact ⟨by simp, by simp, by simp⟩
/-- Needs at work: the fabric's box, what is in use at the switches, the list -/
structure Ni (s p m : Int) (V : Value) (B : Nat) (u u' : Nat → Nat) (w W : World) (L : Value) (zs : Tri) : Prop where
  box : Blk W w.heap.size (F4 s p m V) 26
  b1 : Blk W B (U6 u) 64
  b2 : Blk W (B + 1) (U6 u') 64
  own : Ot 35 (B + 2) W L zs
  ge : w.heap.size < B
  bel : Below w.heap.size w W
theorem Ni.below {s p m : Int} {V : Value} {B : Nat} {u u' : Nat → Nat} {w W W' : World} {L : Value} {zs : Tri} (h : Ni s p m V B u u' w W L zs) (hb : Below W.heap.size W W') : Ni s p m V B u u' w W' L zs :=
  ⟨h.box.below hb h.box.lt, h.b1.below hb h.b1.lt, h.b2.below hb h.b2.lt, h.own.below hb, h.ge, h.bel.trans (hb.mono h.bel.size)⟩
theorem Ni.put {s p m : Int} {V : Value} {B : Nat} {u u' : Nat → Nat} {w W W' : World} {L L' : Value} {zs zs' : Tri} (h : Ni s p m V B u u' w W L zs) (hg : W.grownBy W' L.ownBlock) (hO : Ot 35 (B + 2) W' L' zs') : Ni s p m V B u u' w W' L' zs' := by
  have hb : ∀ k, L.ownBlock = some k → B + 2 ≤ k := fun k e => (World.ownsRow.lt h.own k e).1
  have hge := h.ge
  refine ⟨(hg.block _ h.box.lt (fun e => ?_)).trans h.box, (hg.block _ h.b1.lt (fun e => ?_)).trans h.b1, (hg.block _ h.b2.lt (fun e => ?_)).trans h.b2, hO, h.ge, h.bel.trans (grown_below hg h.bel.size (fun k e => by have := hb k e; omega))⟩
  · have := hb _ e.symm; omega
  · have := hb _ e.symm; omega
  · have := hb _ e.symm; omega
def NeedR (s p m : Int) (ls : Tri) (w : World) (e : Ending) (w' : World) : Prop := ∃ v' zs, e = .returned v' ∧ NeedsS s p m ls zs ∧ Ot 35 w.heap.size w' v' zs ∧ Below w.heap.size w w'
set_option maxHeartbeats 6400000 in
theorem needsI_c (s p m : Int) (v : Value) (ls : Tri) (w : World) (h : Rt w v ls) (hN : NoP w ∧ Tab w) (hn : ls.length ≤ 4194304) :
   Calls Tryd.prog 18 #[.agg (F4 s p m v)] w (NeedR s p m ls w) := by
  have k0 : Blk (w.alloc (Obj.cells (F4 s p m v) 26)) w.heap.size (F4 s p m v) 26 := Blk.new _ _ _
  have b0 : Below w.heap.size w (w.alloc (Obj.cells (F4 s p m v) 26)) := (Below.refl _ _).alloc (Nat.le_refl _) _
  have HC : Hid (Calls Tryd.prog 15 #[.agg (F4 s p m v)] (w.alloc (Obj.cells (F4 s p m v) 26)) fun e w' => ∃ r, e = .returned (.bool r) ∧ (r = true ↔ FOk s p m ls) ∧ Below (w.alloc (Obj.cells (F4 s p m v) 26)).heap.size (w.alloc (Obj.cells (F4 s p m v) 26)) w') := okI_c s p m v ls _ (h.below b0)
  have HK : Hid (Blk (w.alloc (Obj.cells (F4 s p m v) 26)) w.heap.size (F4 s p m v) 26 ∧ Below w.heap.size w (w.alloc (Obj.cells (F4 s p m v) 26))) := ⟨k0, b0⟩
  have HRT : Hid (Rt w v ls) := h
  have HNP : Hid (∀ W, Below w.heap.size w W → NoP W ∧ Tab W) := fun W hb => ⟨hN.1.below hb hN.1.lt, hN.2.below hb hN.2.lt⟩
  obtain ⟨a, cap, rfl, -⟩ := h
  obtain ⟨n, hn'⟩ : ∃ n, ls.length = n := ⟨_, rfl⟩
  rw [hn'] at HC HK HRT ⊢
  clear hn' k0 b0 hN hn
  go_enter Tryd.func18, Tryd.ntmps18
  go_wp2_with (fail)
  refine HC.out.mono ?_
  rintro e w2 ⟨r, rfl, hr, b2⟩
  have k2 := HK.out.1.below b2 (by simp)
  have HB2 : Hid (Blk w2 w.heap.size (F4 s p m (.slice a n cap)) 26 ∧ Below w.heap.size w w2) := ⟨k2, HK.out.2.trans (b2.mono (by simp))⟩
  clear HC HK b2
  cases r with
  | false =>
    have HS : Hid (NeedsS s p m ls []) := .inl ⟨fun h => (by have := hr.2 h; cases this), rfl⟩
    clear k2 hr
    go_wp2
    go_ret
    exact ⟨_, _, rfl, HS.out, World.ownsRow_nil _ _ _ _, HB2.out.2⟩
  | true =>
  have hok := hr.1 rfl
  have HOK : Hid (FOk s p m ls) := hok
  obtain ⟨hs, hp, hm, -⟩ := hok
  have hsd := sides hs hp
  obtain ⟨N, hN⟩ : ∃ N : Nat, s * p = (N : Int) := ⟨(s * p).toNat, by omega⟩
  obtain ⟨M, hM⟩ : ∃ M : Nat, m = (M : Int) := ⟨m.toNat, by omega⟩
  subst hM
  have HFIN : Hid (∀ zs, zs = needL p M ls N N → NeedsS s p M ls zs) := fun zs e => .inr ⟨HOK.out, by rw [e, hN]; rfl⟩
  have hN24 : N ≤ 24 := by omega
  have hM12 : M ≤ 12 := by omega
  obtain ⟨hp1, hp4⟩ := hp
  have hp0 : p ≠ 0 := by omega
  have HSW : Hid (∀ x : Nat, x < N → ∃ k : Nat, (x : Int) / p = (k : Int) ∧ k < 6) := fun x hx => swof hs ⟨hp1, hp4⟩ ⟨by omega, by omega⟩
  have HIR : Hid (InR ls) := HOK.out.inr
  obtain ⟨u, hu⟩ : ∃ u, usedOf (fun x => x.1 / p) ls = u := ⟨_, rfl⟩
  obtain ⟨u', hu'⟩ : ∃ u, usedOf (fun x => x.2.1 / p) ls = u := ⟨_, rfl⟩
  have HM : Hid (Calls Tryd.prog 40 #[.agg (F4 s p M (.slice a n cap))] w2 fun e w' => e = .returned (.tuple #[.agg (U6 u), .agg (U6 u')]) ∧ Below w2.heap.size w2 w') := by
    have := mids_c s p M _ ls w2 (HRT.out.below HB2.out.2) HOK.out
    rw [hu, hu'] at this; exact this
  have HUL : Hid (∀ k, u k < 65536 ∧ u' k < 65536) := fun k => ⟨hu ▸ usedOf_lt _ _ _ (fun x hx => (HOK.out.mid0 x hx).2), hu' ▸ usedOf_lt _ _ _ (fun x hx => (HOK.out.mid0 x hx).2)⟩
  have HUM : Hid (∀ (x y kx ky : Nat), (x : Int) / p = kx → (y : Int) / p = ky → (lfV (u kx ||| u' ky) M == -1) = (List.range M).all (midB p ls x y)) := fun x y kx ky h1 h2 => by
    rw [lfV_none]
    congr 1
    funext k
    rw [← hu, ← hu']
    exact used_mid (fun x hx => (HOK.out.mid0 x hx).1) h1 h2 k
  have c0 := k2.cell 0
  have c1 := k2.cell 1
  have c2 := k2.cell 2
  have c3 := k2.cell 3
  simp at c0 c1 c2 c3
  clear hr k2 hu hu' hs hm hsd HOK
  go_wp2_with (fail)
  refine HM.out.mono ?_
  rintro e w3 ⟨rfl, b3⟩
  obtain ⟨W5, hW5⟩ : ∃ W5, (w3.alloc (Obj.cells (U6 u) 64)).alloc (Obj.cells (U6 u') 64) = W5 := ⟨_, rfl⟩
  have q0 := HB2.out.1.below b3 HB2.out.1.lt
  have q1 := HB2.out.2.trans (b3.mono HB2.out.2.size)
  have hge : w.heap.size < w3.heap.size := q0.lt
  have s5 : W5.heap.size = w3.heap.size + 2 := by rw [← hW5]; simp
  have D5 : Hid (Ni s p M (.slice a n cap) w3.heap.size u u' w W5 (.slice none 0 0) []) := hW5 ▸ ⟨(q0.alloc _).alloc _, (Blk.new _ _ _).alloc _, Blk.newAt _ _ _ _ (by simp), World.ownsRow_nil _ _ _ _, hge, (q1.alloc (by omega) _).alloc (by simp; omega) _⟩
  have HW5 : Hid ((w3.alloc (Obj.cells (U6 u) 64)).alloc (Obj.cells (U6 u') 64) = W5) := hW5
  clear c0 c1 c2 c3
  have c0 := q0.cell 0
  have c1 := q0.cell 1
  simp at c0 c1
  clear HM HB2 q0 q1 b3 s5 hW5
  go_wp2
  rw [HW5.out]
  clear HW5 c0 c1
  go_loopw [3, 22] (fun L i wr => ∃ j : Nat, j ≤ N ∧ i = .int .i64 j ∧ Hid (Ni s p M (.slice a n cap) w3.heap.size u u' w wr L (needL p M ls N j))) (fun _ i _ => N - (intOf i).toNat)
  case atStart => exact ⟨0, Nat.zero_le _, rfl, D5.out⟩
  case round =>
    obtain ⟨j, hj, rfl, hD⟩ := hrel
    clear D5
    obtain ⟨L, rfl⟩ : ∃ L, L = u3 := ⟨_, rfl⟩
    by_cases hlt : j < N
    case neg =>
      obtain rfl : j = N := by omega
      go_wp2
      go_ret
      exact ⟨_, _, rfl, HFIN.out _ rfl, hD.out.own.mono (by omega), hD.out.bel⟩
    case pos =>
    obtain ⟨kx, hkx, hkx6⟩ := HSW.out j hlt
    have hcall : ∀ W : Ov wr, Calls Tryd.prog 38 #[.agg (F4 s p M (.slice a n cap)), .int .i64 j] W.wd fun e w'' => e = .returned (.agg (P3 (fstP (fun x => x.1 == (j : Int)) ls).1 (fstP (fun x => x.1 == (j : Int)) ls).2.1 (fstP (fun x => x.1 == (j : Int)) ls).2.2)) ∧ ∃ W' : Ov wr, w'' = W'.wd := fun W =>
      ov_call (pathFrom_v s p M _ ls j W.wd (HRT.out.below (hD.out.bel.trans (W.ok.mono hD.out.bel.size))) (HNP.out _ (hD.out.bel.trans (W.ok.mono hD.out.bel.size))).1)
    have hnone := fstP_none (q := fun x => x.1 == (j : Int)) HIR.out
    obtain ⟨r, hr⟩ : ∃ r, fstP (fun x => x.1 == (j : Int)) ls = r := ⟨_, rfl⟩
    obtain ⟨r1, r2, r3⟩ := r
    rw [hr] at hcall hnone
    have HC38 : Hid (∀ W : Ov wr, Calls Tryd.prog 38 #[.agg (F4 s p M (.slice a n cap)), .int .i64 j] W.wd fun e w'' => e = .returned (.agg (P3 r1 r2 r3)) ∧ ∃ W' : Ov wr, w'' = W'.wd) := hcall
    obtain ⟨t, ht⟩ : ∃ t, (ls.any fun x => x.1 == (j : Int)) = t := ⟨_, rfl⟩
    rw [ht] at hnone
    have HT : Hid ((ls.any fun x => x.1 == (j : Int)) = t ∧ decide ((r1, r2, r3) = ((-1 : Int), (-1 : Int), (-1 : Int))) = !t) := ⟨ht, hnone⟩
    have d0 := hD.out.box.cell 0
    have d1 := hD.out.box.cell 1
    have d2 := hD.out.box.cell 2
    have d3 := hD.out.box.cell 3
    simp at d0 d1 d2 d3
    have e0 : ∀ W : Ov wr, W.wd.cell? ⟨w.heap.size, 0, none⟩ = some (.int .i64 s) := ov_cell d0
    have e1 : ∀ W : Ov wr, W.wd.cell? ⟨w.heap.size, 1, none⟩ = some (.int .i64 p) := ov_cell d1
    have e2 : ∀ W : Ov wr, W.wd.cell? ⟨w.heap.size, 2, none⟩ = some (.int .i64 M) := ov_cell d2
    have e3 : ∀ W : Ov wr, W.wd.cell? ⟨w.heap.size, 3, none⟩ = some (.slice a n cap) := ov_cell d3
    obtain ⟨hno, -⟩ := HNP.out _ hD.out.bel
    have g0 : ∀ W : Ov wr, W.wd.cell? ⟨0, 0, none⟩ = some (.int .i64 (-1)) := ov_cell hno.1
    have g1 : ∀ W : Ov wr, W.wd.cell? ⟨0, 1, none⟩ = some (.int .i64 (-1)) := ov_cell hno.2.1
    have g2 : ∀ W : Ov wr, W.wd.cell? ⟨0, 2, none⟩ = some (.int .i64 (-1)) := ov_cell hno.2.2
    have ne : Nonempty (Ov wr) := ⟨⟨_, Below.refl _ _⟩⟩
    clear hcall hnone hr ht hno d0 d1 d2 d3
    go_wp2
    refine region_over (by kernel_rfl) (by kernel_rfl) ?_
    repeat (go_big_quiet_step (first | (go_at_call 38; exact HC38.out _)))
    refine BigFrame.wpQuiet_want rfl fun K hK => quietNeq _ _ rfl r1 r2 r3 (-1) (-1) (-1) rfl rfl (hK _ ?_)
    refine wpQuiet_nil ?_
    rintro _ ⟨W, rfl⟩
    rw [HT.out.2]
    have D6 : Hid (Ni s p M (.slice a n cap) w3.heap.size u u' w W.wd L (needL p M ls N j)) := hD.out.below W.ok
    obtain ⟨W6, hW6⟩ : ∃ W6, W.wd = W6 := ⟨_, rfl⟩
    rw [hW6] at D6 ⊢
    clear hK HC38 e0 e1 e2 e3 g0 g1 g2 ne hD hW6 W
    cases t with
    | true =>
      have HR : Hid (needL p M ls N (j + 1) = needL p M ls N j) := by
        show needL p M ls N (j + 1) = needL p M ls N j
        rw [needL_succ]
        have : needRow p M ls j N = [] := by
          rw [needRow, List.map_eq_nil_iff, List.filter_eq_nil_iff]
          intro y _
          simp [needB, HT.out.1]
        rw [this, List.append_nil]
      go_wp2
      go_roundw
      case rel => exact ⟨j + 1, by omega, by go_num, (by rw [HR.out]; exact D6.out)⟩
      case measure => simp [intOf]; omega
    | false =>
    have c0 := D6.out.box.cell 0
    have c1 := D6.out.box.cell 1
    simp at c0 c1
    go_wp2
    clear c0 c1
    go_loopw [3, 35] (fun L i wr => ∃ y : Nat, y ≤ N ∧ i = .int .i64 y ∧ Hid (Ni s p M (.slice a n cap) w3.heap.size u u' w wr L (needL p M ls N j ++ needRow p M ls j y))) (fun _ i _ => N - (intOf i).toNat)
    case atStart => exact ⟨0, Nat.zero_le _, rfl, (by have := D6.out; simpa [needRow] using this : Ni s p M (.slice a n cap) w3.heap.size u u' w W6 L (needL p M ls N j ++ needRow p M ls j 0))⟩
    case round =>
      obtain ⟨y, hy, rfl, hE⟩ := hrel
      clear D6
      by_cases hly : y < N
      case neg =>
        obtain rfl : y = N := by omega
        go_wp2
        go_roundw
        case rel => exact ⟨j + 1, by omega, by go_num, (by rw [needL_succ]; exact hE.out)⟩
        case measure => simp [intOf]; omega
      case pos =>
      obtain ⟨ky, hky, hky6⟩ := HSW.out y hly
      obtain ⟨o, ho⟩ : ∃ o, u kx ||| u' ky = o := ⟨_, rfl⟩
      have hor := bits_or_u16_nat (u kx) (u' ky) (HUL.out kx).1 (HUL.out ky).2
      rw [ho] at hor
      have HOR : Hid (bits .or .u16 (u kx : Int) (u' ky : Int) = (o : Int)) := hor
      have HOL : Hid (o < 65536) := by
        show o < 65536
        rw [← ho]
        have : u kx ||| u' ky < 2 ^ 16 := Nat.or_lt_two_pow (HUL.out kx).1 (HUL.out ky).2
        exact this
      have HLF : Hid ((lfV o M == -1) = (List.range M).all (midB p ls j y)) := by
        show (lfV o M == -1) = _
        rw [← ho]; exact HUM.out j y kx ky hkx hky
      have f1 := hE.out.box.cell 1
      have f4 := (hE.out.b1.cell kx).trans (U6_at u kx hkx6)
      have f5 := (hE.out.b2.cell ky).trans (U6_at u' ky hky6)
      simp at f1
      clear hor ho
      go_wp2
      go_quiet (fail)
      rw [HOR.out]
      obtain ⟨W7, hW7⟩ : ∃ W7, wr.drewN nq = W7 := ⟨_, rfl⟩
      have D7 : Hid (Ni s p M (.slice a n cap) w3.heap.size u u' w W7 u3 (needL p M ls N j ++ needRow p M ls j y)) := hW7 ▸ hE.out.below (below_drewN (Below.refl _ _) _)
      rw [hW7]
      obtain ⟨L, rfl⟩ : ∃ L, L = u3 := ⟨_, rfl⟩
      clear f1 f4 f5 hW7 hE HOR
      have hcall : ∀ W : Ov W7, Calls Tryd.prog 39 #[.agg (F4 s p M (.slice a n cap)), .int .i64 y] W.wd fun e w'' => e = .returned (.agg (P3 (fstP (fun x => x.2.1 == (y : Int)) ls).1 (fstP (fun x => x.2.1 == (y : Int)) ls).2.1 (fstP (fun x => x.2.1 == (y : Int)) ls).2.2)) ∧ ∃ W' : Ov W7, w'' = W'.wd := fun W =>
        ov_call (pathTo_v s p M _ ls y W.wd (HRT.out.below (D7.out.bel.trans (W.ok.mono D7.out.bel.size))) (HNP.out _ (D7.out.bel.trans (W.ok.mono D7.out.bel.size))).1)
      have hnone := fstP_none (q := fun x => x.2.1 == (y : Int)) HIR.out
      obtain ⟨r, hr⟩ : ∃ r, fstP (fun x => x.2.1 == (y : Int)) ls = r := ⟨_, rfl⟩
      obtain ⟨r1, r2, r3⟩ := r
      rw [hr] at hcall hnone
      have HC39 : Hid (∀ W : Ov W7, Calls Tryd.prog 39 #[.agg (F4 s p M (.slice a n cap)), .int .i64 y] W.wd fun e w'' => e = .returned (.agg (P3 r1 r2 r3)) ∧ ∃ W' : Ov W7, w'' = W'.wd) := hcall
      have HC41 : Hid (∀ W : Ov W7, Calls Tryd.prog 41 #[.int .u16 o, .agg (F4 s p M (.slice a n cap))] W.wd fun e w'' => e = .returned (.int .i64 (lfV o M)) ∧ ∃ W' : Ov W7, w'' = W'.wd) := fun W =>
        ov_call (leastFree_v o HOL.out s p M _ (by omega) W.wd (HNP.out _ (D7.out.bel.trans (W.ok.mono D7.out.bel.size))).2)
      obtain ⟨t2, ht2⟩ : ∃ t, (ls.any fun x => x.2.1 == (y : Int)) = t := ⟨_, rfl⟩
      rw [ht2] at hnone
      have HT2 : Hid ((ls.any fun x => x.2.1 == (y : Int)) = t2 ∧ decide ((r1, r2, r3) = ((-1 : Int), (-1 : Int), (-1 : Int))) = !t2) := ⟨ht2, hnone⟩
      obtain ⟨lf, hlf⟩ : ∃ lf, lfV o M = lf := ⟨_, rfl⟩
      rw [hlf] at HC41 HLF
      obtain ⟨t3, ht3⟩ : ∃ t, (lf == -1) = t := ⟨_, rfl⟩
      rw [ht3] at HLF
      have HNB : Hid (needB p M ls j y = (!t2 && t3)) := by
        show needB p M ls j y = (!t2 && t3)
        rw [needB, HT.out.1, HT2.out.1, HLF.out]; rfl
      have d0 := D7.out.box.cell 0
      have d1 := D7.out.box.cell 1
      have d2 := D7.out.box.cell 2
      have d3 := D7.out.box.cell 3
      simp at d0 d1 d2 d3
      have e0 : ∀ W : Ov W7, W.wd.cell? ⟨w.heap.size, 0, none⟩ = some (.int .i64 s) := ov_cell d0
      have e1 : ∀ W : Ov W7, W.wd.cell? ⟨w.heap.size, 1, none⟩ = some (.int .i64 p) := ov_cell d1
      have e2 : ∀ W : Ov W7, W.wd.cell? ⟨w.heap.size, 2, none⟩ = some (.int .i64 M) := ov_cell d2
      have e3 : ∀ W : Ov W7, W.wd.cell? ⟨w.heap.size, 3, none⟩ = some (.slice a n cap) := ov_cell d3
      obtain ⟨hno, -⟩ := HNP.out _ D7.out.bel
      have g0 : ∀ W : Ov W7, W.wd.cell? ⟨0, 0, none⟩ = some (.int .i64 (-1)) := ov_cell hno.1
      have g1 : ∀ W : Ov W7, W.wd.cell? ⟨0, 1, none⟩ = some (.int .i64 (-1)) := ov_cell hno.2.1
      have g2 : ∀ W : Ov W7, W.wd.cell? ⟨0, 2, none⟩ = some (.int .i64 (-1)) := ov_cell hno.2.2
      have ne : Nonempty (Ov W7) := ⟨⟨_, Below.refl _ _⟩⟩
      have HNO : Hid ((!t2 && t3) = false → needRow p M ls j (y + 1) = needRow p M ls j y) := fun h => by rw [needRow_succ, HNB.out, h]; rfl
      have HYES : Hid ((!t2 && t3) = true → needRow p M ls j (y + 1) = needRow p M ls j y ++ [((j : Int), (y : Int), -1)]) := fun h => by rw [needRow_succ, HNB.out, h]; rfl
      have hde := HT2.out.2
      clear hcall hnone hr ht2 hno d0 d1 d2 d3 hlf HLF HNB
      go_wp2
      refine region_over (by kernel_rfl) (by kernel_rfl) ?_
      repeat (go_big_quiet_step (first | (go_at_call 39; exact HC39.out _)))
      refine BigFrame.wpQuiet_want rfl fun K hK => quietEql _ _ rfl r1 r2 r3 (-1) (-1) (-1) rfl rfl (hK _ ?_)
      rw [hde]
      clear hde hK
      have hy1 : (y : Int) + 1 = ((y + 1 : Nat) : Int) := by omega
      cases t2 with
      | true =>
        simp only [Bool.not_true, Act.put, List.setIfInBounds_toArray, List.set_cons_succ, List.set_cons_zero]
        repeat (go_big_quiet_step (first | (go_at_call 41; exact HC41.out _)))
        refine wpQuiet_nil ?_
        rintro _ ⟨W, rfl⟩
        have D8 : Hid (Ni s p M (.slice a n cap) w3.heap.size u u' w W.wd L (needL p M ls N j ++ needRow p M ls j (y + 1))) := by
          show Ni _ _ _ _ _ _ _ _ _ _ _
          rw [HNO.out rfl]; exact D7.out.below W.ok
        clear HC39 HC41 e0 e1 e2 e3 g0 g1 g2 ne D7 HNO HYES hy1
        go_wp2
        go_roundw
        case rel => exact ⟨y + 1, by omega, by go_num, D8.out⟩
        case measure => simp [intOf]; omega
      | false =>
        simp only [Bool.not_false, Act.put, List.setIfInBounds_toArray, List.set_cons_succ, List.set_cons_zero]
        repeat (go_big_quiet_step (first | (go_at_call 41; exact HC41.out _)))
        refine wpQuiet_nil ?_
        rintro _ ⟨W, rfl⟩
        cases t3 with
        | false =>
          have D8 : Hid (Ni s p M (.slice a n cap) w3.heap.size u u' w W.wd L (needL p M ls N j ++ needRow p M ls j (y + 1))) := by
            show Ni _ _ _ _ _ _ _ _ _ _ _
            rw [HNO.out rfl]; exact D7.out.below W.ok
          clear HC39 HC41 e0 e1 e2 e3 g0 g1 g2 ne D7 HNO HYES hy1
          go_wp2
          go_roundw
          case rel => exact ⟨y + 1, by omega, by go_num, D8.out⟩
          case measure => simp [intOf]; omega
        | true =>
          have D8 : Ni s p M (.slice a n cap) w3.heap.size u u' w W.wd L (needL p M ls N j ++ needRow p M ls j y) := D7.out.below W.ok
          obtain ⟨W8, hW8⟩ : ∃ W8, W.wd = W8 := ⟨_, rfl⟩
          rw [hW8] at D8 ⊢
          have hlen : (needL p M ls N j ++ needRow p M ls j y).length ≤ 1000 := by
            have h1 := needL_len p M ls N j
            have h2 := needRow_len p M ls j y
            have h3 : j * N ≤ 24 * 24 := Nat.mul_le_mul (by omega) (by omega)
            rw [List.length_append]; omega
          have D9 : Hid (Ni s p M (.slice a n cap) w3.heap.size u u' w (W8.alloc (Obj.cells (P3 j y (-1)) 35)) L (needL p M ls N j ++ needRow p M ls j y)) := D8.below ((Below.refl _ _).alloc (Nat.le_refl _) _)
          have HO9 := oneTri D8.own j y (-1)
          have HO : Hid (Ot 35 (w3.heap.size + 2) (W8.alloc (Obj.cells (P3 j y (-1)) 35)) L (needL p M ls N j ++ needRow p M ls j y)) := HO9.1
          have HR : Hid (Rt (W8.alloc (Obj.cells (P3 j y (-1)) 35)) (.slice (some ⟨W8.heap.size, 0, none⟩) 1 1) [((j : Int), (y : Int), -1)]) := HO9.2
          have HBS : Hid (w3.heap.size + 2 ≤ (W8.alloc (Obj.cells (P3 j y (-1)) 35)).heap.size) := by
            show _ ≤ _
            have := D8.b2.lt; simp; omega
          have HLL : Hid ((needL p M ls N j ++ needRow p M ls j y).length ≤ 1000) := hlen
          clear HC39 HC41 e0 e1 e2 e3 g0 g1 g2 ne D7 HNO hy1 D8 HO9 hW8 hlen
          go_wp2_with (at_builtin; refine appTri rfl _ _ rfl (w3.heap.size + 2) _ _ rfl HO.out _ _ rfl HR.out (by have := HLL.out; simp only [List.length_cons, List.length_nil]; omega) HBS.out ?_)
          intro v' w9 ho9 hg9 hb9
          have D10 : Hid (Ni s p M (.slice a n cap) w3.heap.size u u' w w9 v' (needL p M ls N j ++ needRow p M ls j (y + 1))) := by
            show Ni _ _ _ _ _ _ _ _ _ _ _
            rw [HYES.out rfl]; exact D9.out.put hg9 ho9
          clear ho9 hg9 hb9 D9 HO HR HBS HLL HYES
          go_wp2
          go_roundw
          case rel => exact ⟨y + 1, by omega, by go_num, D10.out⟩
          case measure => simp [intOf]; omega
end Go.Proofs.YtikhfeafbckjlaaDoor
