/- Subs are drawn; no condition. -/
import Derived.Test.YtfaflnhembceoaaDsA
import Derived.Test.YtfaflnhembceoaaSbM
import Derived.Deep.DeepCutAuto
namespace Go.Proofs.Ytfaflnhembceoaa
open Go.RowKit Go.ChangeShapes Go.WideShapes Go.ChangeAt
set_option linter.unusedVariables false
set_option linter.unusedSimpArgs false
set_option maxRecDepth 8000

theorem Rp.one7 {W : World} {X : Nat} {x y : Int} (h : Blk W X (H2 x y) 37) : Rp mf mg W (.slice (some ⟨X, 0, none⟩) 1 1) [(x, y)] := by
  refine ⟨_, _, rfl, Nat.le_refl _, by simp [maxLen], .inr ⟨X, 0, rfl, fun i hi => ?_⟩⟩
  have h0 : i = 0 := by simpa using hi
  subst h0
  exact ⟨h.cell 0, h.cell 1⟩
theorem Op.lit0 (w : World) (base : Nat) (hb : base ≤ w.heap.size) : Op mf mg 37 base (w.alloc (.cells #[] 37)) (.slice (some ⟨w.heap.size, 0, none⟩) 0 0) [] := World.ownsRow_lit w #[] 0 hb (by simp) (by simp)
/-- what stands while a sub's features are put together -/
structure Dn (W1 : World) (gs gf : Nat) (p q : Bool) (fv : Value) (kd ot : Int) (fs : Fts) (g : Nat) (cv : Value) (zs : List Int) (K0 : Nat) (W : World) : Prop where
  ks : Blk W gs (S3 p q fv) 35
  kf : Blk W gf (H2 kd ot) 37
  of : Op mf mg 37 (gs + 1) W fv fs
  dc : Dc W1 W g cv zs
  k0 : gs < K0 ∧ gf < K0 ∧ K0 ≤ W.heap.size ∧ W1.heap.size ≤ gs
  kv : ∀ k, fv.ownBlock = some k → k < K0
  ap : fv.ownBlock = none ∨ fv.ownBlock ≠ some gf
theorem Dn.grown {W1 : World} {gs gf : Nat} {p q : Bool} {fv : Value} {kd ot : Int} {fs : Fts} {g : Nat} {cv : Value} {zs : List Int} {K0 : Nat} {W W' : World} {row : Option Nat} (h : Dn W1 gs gf p q fv kd ot fs g cv zs K0 W) (hg : W.grownBy W' row) (hr : ∀ k, row = some k → K0 ≤ k) : Dn W1 gs gf p q fv kd ot fs g cv zs K0 W' := by
  have k0 := h.k0
  refine ⟨h.ks.grown hg (fun e => by have := hr gs e; omega), h.kf.grown hg (fun e => by have := hr gf e; omega), World.ownsRow.kept h.of hg ?_, h.dc.app (fun k e => by have := hr k e; omega) hg, ⟨k0.1, k0.2.1, Nat.le_trans k0.2.2.1 hg.size, k0.2.2.2⟩, h.kv, h.ap⟩
  cases hv : fv.ownBlock with
  | none => exact .inl rfl
  | some k => exact .inr (fun e => by have h1 := h.kv k hv; have h2 := hr k e.symm; omega)
theorem Dn.alloc {W1 : World} {gs gf : Nat} {p q : Bool} {fv : Value} {kd ot : Int} {fs : Fts} {g : Nat} {cv : Value} {zs : List Int} {K0 : Nat} {W : World} (h : Dn W1 gs gf p q fv kd ot fs g cv zs K0 W) (o : Obj) : Dn W1 gs gf p q fv kd ot fs g cv zs K0 (W.alloc o) := h.grown (row := none) (World.grownBy_alloc W o none) (fun k e => by cases e)
theorem Dn.re {W1 : World} {gs gf : Nat} {p q : Bool} {fv : Value} {kd ot : Int} {fs : Fts} {g : Nat} {cv : Value} {zs : List Int} {K0 : Nat} {W : World} (h : Dn W1 gs gf p q fv kd ot fs g cv zs K0 W) : Dn W1 gs gf p q fv kd ot fs g cv zs W.heap.size W :=
  ⟨h.ks, h.kf, h.of, h.dc, ⟨h.ks.lt, h.kf.lt, Nat.le_refl _, h.k0.2.2.2⟩, fun k e => (World.ownsRow.lt h.of k e).2, h.ap⟩
theorem Dn.draw {W1 : World} {gs gf : Nat} {p q : Bool} {fv : Value} {kd ot : Int} {fs : Fts} {g : Nat} {cv : Value} {zs : List Int} {K0 : Nat} {W W' : World} (h : Dn W1 gs gf p q fv kd ot fs g cv zs K0 W) (hd : Dr W' g cv zs) (hg : W.grownBy W' (some g)) (hgf : gs < gf) : Dn W1 gs gf p q fv kd ot fs g cv zs K0 W' := by
  have k0 := h.k0
  have hlt := h.dc.lt
  exact ⟨h.ks.grown hg (fun e => by have := Option.some.inj e; omega), h.kf.grown hg (fun e => by have := Option.some.inj e; omega), h.of.draw hg (by omega), h.dc.draw hd hg, ⟨k0.1, k0.2.1, Nat.le_trans k0.2.2.1 hg.size, k0.2.2.2⟩, h.kv, h.ap⟩
theorem Dn.store {W1 : World} {gs gf : Nat} {p q : Bool} {fv : Value} {kd ot : Int} {fs : Fts} {g : Nat} {cv : Value} {zs : List Int} {K0 : Nat} {W : World} (h : Dn W1 gs gf p q fv kd ot fs g cv zs K0 W) (hgf : gs < gf) : (∀ x : Int, Dn W1 gs gf p q fv x ot fs g cv zs K0 (W.setCell ⟨gf, 0, none⟩ (.int .i64 x))) ∧ (∀ x : Int, Dn W1 gs gf p q fv kd x fs g cv zs K0 (W.setCell ⟨gf, 1, none⟩ (.int .i64 x))) := by
  have k0 := h.k0
  have ne := h.ap
  constructor <;> intro x
  · exact ⟨h.ks.grown (grown_set _ _ _ _) (fun e => by have := Option.some.inj e; omega), h.kf.set 0 _, World.ownsRow.kept h.of (grown_set _ _ _ _) ne, h.dc.app (fun k e => by have := Option.some.inj e; omega) (grown_set _ _ _ _), ⟨k0.1, k0.2.1, Nat.le_trans k0.2.2.1 (by simp), k0.2.2.2⟩, h.kv, h.ap⟩
  · exact ⟨h.ks.grown (grown_set _ _ _ _) (fun e => by have := Option.some.inj e; omega), h.kf.set 1 _, World.ownsRow.kept h.of (grown_set _ _ _ _) ne, h.dc.app (fun k e => by have := Option.some.inj e; omega) (grown_set _ _ _ _), ⟨k0.1, k0.2.1, Nat.le_trans k0.2.2.1 (by simp), k0.2.2.2⟩, h.kv, h.ap⟩
/-- what is drawn: subs in memory of their own -/
def DsR (n : Int) (g : Nat) (cv : Value) (zs : List Int) (w : World) (e : Ending) (w' : World) : Prop := ∃ (v : Value) (lv : List V3) (cs : Sbs), e = .returned v ∧ OwT w.heap.size w' v lv cs ∧ (cs.length : Int) = n ∧ (∀ c ∈ cs, c.2.2.length ≤ 3) ∧ Dc w w' g cv zs
set_option maxHeartbeats 25600000 in
theorem l7Draw_c (g : Nat) (cv : Value) (zs : List Int) (n : Int) (w : World) (h : Dr w g cv zs) (hn2 : 2 ≤ n) (hn8 : n ≤ 8) : Calls Try.prog 64 #[.pointer (some ⟨g, 0, none⟩), .int .i64 n] w (DsR n g cv zs w) := by
  have HD0 : Hid (Dc w w g cv zs) := Dc.start h
  obtain ⟨W0, hW0⟩ : ∃ W, w.alloc (Obj.cells #[] 35) = W := ⟨_, rfl⟩
  have HDA : Hid (Dc w W0 g cv zs) := by rw [← hW0]; exact HD0.out.below ((Below.refl _ _).alloc (Nat.le_refl _) _)
  have HOA : Hid (OwT w.heap.size W0 (.slice (some ⟨w.heap.size, 0, none⟩) 0 0) [] []) := ⟨rfl, by rw [← hW0]; exact World.ownsRow_lit w #[] 0 (Nat.le_refl _) (by simp) (by simp), fun i hi => by simp at hi⟩
  obtain ⟨v0, hv0⟩ : ∃ v, Value.slice (some ⟨w.heap.size, 0, none⟩) 0 0 = v := ⟨_, rfl⟩
  rw [hv0] at HOA
  have HW0 : Hid (w.alloc (Obj.cells #[] 35) = W0 ∧ Value.slice (some ⟨w.heap.size, 0, none⟩) 0 0 = v0) := ⟨hW0, hv0⟩
  clear h hW0 hv0
  go_enter Try.func64, Try.ntmps64
  go_wp2
  rw [HW0.out.1, HW0.out.2]
  clear HW0
  go_loopw [5, 6] (fun v i wr => ∃ (j : Nat) (lv : List V3) (cs : Sbs), i = .int .i64 j ∧ Hid ((j : Int) ≤ n ∧ cs.length = j) ∧ Hid (∀ c ∈ cs, c.2.2.length ≤ 3) ∧ Hid (OwT w.heap.size wr v lv cs) ∧ Hid (Dc w wr g cv zs)) (fun _ i _ => n.toNat - (intOf i).toNat)
  case atStart => exact ⟨0, [], [], rfl, ⟨by omega, rfl⟩, fun c hc => by simp at hc, HOA.out, HDA.out⟩
  case round =>
    obtain ⟨j, lv, cs, rfl, hj, hP, hO, hD⟩ := hrel
    clear HOA HDA HD0
    have hjn := hj.out.1
    by_cases hlt : (j : Int) < n
    case neg =>
      have HJ : Hid ((cs.length : Int) = n) := by have := hj.out.2; show _ = _; omega
      go_wp2
      go_ret
      exact ⟨_, lv, cs, rfl, hO.out, HJ.out, hP.out, hD.out⟩
    case pos =>
    go_wp2_with (fail)
    refine (once_c _ _ _ _ _ hD.out.dr (by omega)).mono ?_
    rintro e wa ⟨p, rfl, d1, g1⟩
    have HDa : Hid (Dc w wa g cv zs) := hD.out.draw d1 g1
    have HOa : Hid (OwT w.heap.size wa u5 lv cs) := hO.out.draw g1 hD.out.lt
    clear d1 g1 hD hO
    go_wp2_with (fail)
    refine (once_c _ _ _ _ _ HDa.out.dr (by omega)).mono ?_
    rintro e W1 ⟨q, rfl, d1, g1⟩
    have HDb : Hid (Dc w W1 g cv zs) := HDa.out.draw d1 g1
    have HOb : Hid (OwT w.heap.size W1 u5 lv cs) := HOa.out.draw g1 HDa.out.lt
    clear d1 g1 HDa HOa
    have HLB : Hid (∀ i (h : i < lv.length) k, lv[i].2.2.ownBlock = some k → k < W1.heap.size) := HOb.out.lt
    obtain ⟨gs, hgs⟩ : ∃ k, W1.heap.size = k := ⟨_, rfl⟩
    obtain ⟨W2, hW2⟩ : ∃ W, W1.alloc (Obj.cells (S3 p q (.slice none 0 0)) 35) = W := ⟨_, rfl⟩
    have KS2 : Hid (Blk W2 gs (S3 p q (.slice none 0 0)) 35) := by rw [← hW2, ← hgs]; exact Blk.new _ _ _
    have DC2 : Hid (Dc W1 W2 g cv zs) := by rw [← hW2]; exact (Dc.start HDb.out.dr).below ((Below.refl _ _).alloc (Nat.le_refl _) _)
    have HGS : Hid (W1.heap.size = gs) := hgs
    have HW2 : Hid (W1.alloc (Obj.cells (S3 p q (.slice none 0 0)) 35) = W2 ∧ W1.heap.size = gs) := ⟨hW2, hgs⟩
    clear hW2 hgs
    go_wp2_with (fail)
    rw [HW2.out.1, HW2.out.2]
    clear HW2
    refine (below_c _ _ _ _ _ DC2.out.dr (by omega)).mono ?_
    rintro e W3 ⟨k, rfl, k0, k1, -, d1, g1⟩
    have k1' := k1 (by omega)
    have KS3 : Hid (Blk W3 gs (S3 p q (.slice none 0 0)) 35) := KS2.out.grown g1 (fun e => by have h1 := DC2.out.lt; have h2 := HGS.out; have := Option.some.inj e; omega)
    have DC3 : Hid (Dc W1 W3 g cv zs) := DC2.out.draw d1 g1
    have HF3 : Hid (Op mf mg 37 (gs + 1) W3 (.slice none 0 0) []) := ⟨rfl, .inl ⟨rfl, rfl⟩⟩
    clear d1 g1 KS2 DC2 k1
    obtain ⟨k, rfl⟩ := Int.eq_ofNat_of_zero_le k0
    go_wp2
    go_loopw [8] (fun i wr => ∃ (m : Nat) (fv : Value) (fs : Fts), i = .int .i64 m ∧ Hid (m + fs.length ≤ 3) ∧ Hid (Blk wr gs (S3 p q fv) 35) ∧ Hid (Op mf mg 37 (gs + 1) wr fv fs) ∧ Hid (Dc W1 wr g cv zs)) (fun i _ => (intOf i).toNat)
    case atStart => exact ⟨k, _, [], rfl, by show _ ≤ _; simp; omega, KS3.out, HF3.out, DC3.out⟩
    case round =>
      obtain ⟨m, fv, fs, rfl, hm, KS, HF, DC⟩ := hrel
      clear KS3 HF3 DC3
      have hm3 : m ≤ 3 := by have := hm.out; omega
      by_cases hm0 : m = 0
      case pos =>
        subst hm0
        have e0 : decide ((0 : Int) < ((0 : Nat) : Int)) = false := by decide
        obtain ⟨fa, fc, hfv, -⟩ := HF.out.rd
        obtain ⟨fl, hfl⟩ : ∃ q, fs.length = q := ⟨_, rfl⟩
        rw [hfl] at hfv
        subst hfv
        have HFL : Hid (fs.length ≤ 3) := by have := hm.out; show _ ≤ _; omega
        clear hfl
        obtain ⟨gx, hgx⟩ : ∃ k, wr.heap.size = k := ⟨_, rfl⟩
        obtain ⟨WX, hWX⟩ : ∃ W, wr.alloc (Obj.cells (S3 p q (.slice fa fl fc)) 35) = W := ⟨_, rfl⟩
        have al : Below wr.heap.size wr WX := by rw [← hWX]; exact (Below.refl _ _).alloc (Nat.le_refl _) _
        have KX : Hid (Blk WX gx (S3 p q (.slice fa fl fc)) 35) := by rw [← hWX, ← hgx]; exact Blk.new _ _ _
        have HFX : Hid (Op mf mg 37 (gs + 1) WX (.slice fa fl fc) fs) := HF.out.below al
        have DCX : Hid (Dc W1 WX g cv zs) := DC.out.below al
        have HOX : Hid (OwT w.heap.size WX u5 lv cs) := HOb.out.draw DCX.out.gr (by have := HDb.out.lt; omega)
        have HBX : Hid (w.heap.size ≤ WX.heap.size ∧ w.heap.size ≤ gs + 1 ∧ cs.length ≤ 1000) := by
          have h1 := HDb.out.gr.size; have h2 := DCX.out.gr.size; have h3 := HGS.out; have h4 := hj.out; show _ ∧ _ ∧ _; omega
        have c0 := KS.out.cell 0
        have c1 := KS.out.cell 1
        have c2 := KS.out.cell 2
        have cl := KS.out.lt
        simp at c0 c1 c2
        have HWX : Hid (wr.alloc (Obj.cells (S3 p q (.slice fa fl fc)) 35) = WX) := hWX
        have HGX : Hid (wr.heap.size = gx) := hgx
        clear al hWX hgx
        go_wp2_with (at_builtin; rw [HWX.out]; refine appS rfl _ _ rfl w.heap.size _ cs lv rfl HOX.out gx p q _ fs (gs + 1) (by rw [← HGX.out]; rfl) KX.out HFX.out HBX.out.2.1 (fun i hi k e => by have h1 := HLB.out i hi k e; have h2 := HGS.out; omega) HBX.out.2.2 HBX.out.1 ?_)
        intro v' w' ho hg
        have HON : Hid (OwT w.heap.size w' v' (lv ++ [(.bool p, .bool q, .slice fa fl fc)]) (cs ++ [(p, q, fs)])) := ho
        have HDN : Hid (Dc w w' g cv zs) := (⟨DCX.out.dr, grown_trans HDb.out.gr DCX.out.gr, HDb.out.lt, HDb.out.cl⟩ : Dc w WX g cv zs).app (fun k e => (World.ownsRow.lt HOX.out.own k e).1) hg
        have HPN : Hid (∀ c ∈ cs ++ [(p, q, fs)], c.2.2.length ≤ 3) := by
          intro c hc
          rcases List.mem_append.1 hc with h | h
          · exact hP.out c h
          · rw [List.mem_singleton] at h; subst h; exact HFL.out
        have HJN : Hid (((j + 1 : Nat) : Int) ≤ n ∧ (cs ++ [(p, q, fs)]).length = j + 1) := by have := hj.out; refine ⟨by omega, ?_⟩; rw [List.length_append]; simp only [List.length_singleton]; omega
        clear ho hg c0 c1 c2 cl
        go_wp2
        go_roundw
        case rel => exact ⟨j + 1, _, _, by go_num, HJN.out, HPN.out, HON.out, HDN.out⟩
        case measure => simp [intOf]; omega
      case neg =>
      have hmp : decide ((0 : Int) < (m : Int)) = true := by simp; omega
      obtain ⟨fa, fc, hfv, -⟩ := HF.out.rd
      obtain ⟨fl, hfl⟩ : ∃ q, fs.length = q := ⟨_, rfl⟩
      rw [hfl] at hfv
      subst hfv
      have HFL : Hid (fs.length = fl) := hfl
      clear hfl
      obtain ⟨WL, hWL⟩ : ∃ W, wr.alloc (Obj.cells #[.int .i64 1, .int .i64 1, .int .i64 2, .int .i64 2, .int .i64 3, .int .i64 3, .int .i64 4, .int .i64 5, .int .i64 5, .int .i64 6, .int .i64 7] 3) = W := ⟨_, rfl⟩
      have al : Below wr.heap.size wr WL := by rw [← hWL]; exact (Below.refl _ _).alloc (Nat.le_refl _) _
      have HRL : Hid (Rd .i64 WL (.slice (some ⟨wr.heap.size, 0, none⟩) 11 11) [1, 1, 2, 2, 3, 3, 4, 5, 5, 6, 7]) := by
        have := Rd.lit wr [1, 1, 2, 2, 3, 3, 4, 5, 5, 6, 7] (by simp)
        rw [← hWL]; exact this
      have HAP : Hid ((Value.slice (some ⟨wr.heap.size, 0, none⟩) 11 11).ownBlock = none ∨ (Value.slice (some ⟨wr.heap.size, 0, none⟩) 11 11).ownBlock ≠ some g) := by
        right; have := DC.out.dr.lt; simp [Value.ownBlock]; omega
      have KSL : Hid (Blk WL gs (S3 p q (.slice fa fl fc)) 35) := KS.out.below al KS.out.lt
      have HFL2 : Hid (Op mf mg 37 (gs + 1) WL (.slice fa fl fc) fs) := HF.out.below al
      have DCL : Hid (Dc W1 WL g cv zs) := DC.out.below al
      clear al KS HF DC
      go_wp2_with (fail)
      refine (pickInt_c _ _ _ _ [1, 1, 2, 2, 3, 3, 4, 5, 5, 6, 7] _ DCL.out.dr HRL.out HAP.out (by simp) (by simp)).mono ?_
      rintro e w4 ⟨kd, rfl, -, d1, g1⟩
      have hgg : g < gs := by have h1 := DCL.out.lt; have h2 := HGS.out; omega
      have KS4 : Hid (Blk w4 gs (S3 p q (.slice fa fl fc)) 35) := KSL.out.grown g1 (fun e => by have := Option.some.inj e; omega)
      have HF4 : Hid (Op mf mg 37 (gs + 1) w4 (.slice fa fl fc) fs) := HFL2.out.draw g1 (by omega)
      have DC4 : Hid (Dc W1 w4 g cv zs) := DCL.out.draw d1 g1
      clear d1 g1 hWL HRL HAP KSL HFL2 DCL
      obtain ⟨gf, hgf⟩ : ∃ k, w4.heap.size = k := ⟨_, rfl⟩
      obtain ⟨W5, hW5⟩ : ∃ W, w4.alloc (Obj.cells (H2 kd 0) 37) = W := ⟨_, rfl⟩
      have D5 : Hid (Dn W1 gs gf p q (.slice fa fl fc) kd 0 fs g cv zs W5.heap.size W5) := by
        have al : Below w4.heap.size w4 W5 := by rw [← hW5]; exact (Below.refl _ _).alloc (Nat.le_refl _) _
        have h1 := KS4.out.below al KS4.out.lt
        have h2 := HF4.out.below al
        have h3 : Blk W5 gf (H2 kd 0) 37 := by rw [← hW5, ← hgf]; exact Blk.new _ _ _
        exact ⟨h1, h3, h2, DC4.out.below al, ⟨h1.lt, h3.lt, Nat.le_refl _, by have := HGS.out; omega⟩, fun k e => (World.ownsRow.lt h2 k e).2, by
          cases hv : (Value.slice fa fl fc).ownBlock with
          | none => exact .inl rfl
          | some k => exact .inr (fun e => by have h7 := (World.ownsRow.lt HF4.out k hv).2; have := Option.some.inj e; omega)⟩
      have HW5 : Hid (w4.alloc (Obj.cells (H2 kd 0) 37) = W5 ∧ w4.heap.size = gf) := ⟨hW5, hgf⟩
      have HGF : Hid (gs < gf) := by have := KS4.out.lt; show _ < _; omega
      clear hW5 hgf KS4 HF4 DC4
      go_upto_region 10 with fail
      rw [HW5.out.1, HW5.out.2]
      clear HW5
      go_cut [39] from 24 to 60 (fun t wx => ∃ r : Bool, t = .bool r ∧ Hid (Dn W1 gs gf p q (Value.slice fa fl fc) kd 0 fs g cv zs wx.heap.size wx))
      case first =>
        have c0 := D5.out.kf.cell 0
        have cl := D5.out.kf.lt
        simp at c0
        by_cases hk4 : kd = 4
        · have hkd : (kd == 4) = true := by simp [hk4]
          clear hk4
          go_wp2_with (fail)
          refine (once_c _ _ _ _ _ D5.out.dc.dr (by omega)).mono ?_
          rintro e w6 ⟨r, rfl, d1, g1⟩
          have D6 : Hid (Dn W1 gs gf p q (Value.slice fa fl fc) kd 0 fs g cv zs w6.heap.size w6) := (D5.out.draw d1 g1 HGF.out).re
          clear d1 g1
          go_wp2
          go_meet
          case rel => exact ⟨!r, rfl, D6.out⟩
        · have hkd : (kd == 4) = false := by simp [hk4]
          clear hk4
          go_wp2
          go_meet
          case rel => exact ⟨false, rfl, D5.out⟩
      case rest =>
      obtain ⟨r, rfl, D6⟩ := hcut
      clear D5
      cases r
      · obtain ⟨kx, hkx⟩ : ∃ x : Int, x = kd := ⟨_, rfl⟩
        obtain ⟨w7, hw7⟩ : ∃ W, wc = W := ⟨_, rfl⟩
        have D7 : Hid (Dn W1 gs gf p q (Value.slice fa fl fc) kx 0 fs g cv zs w7.heap.size w7) := by rw [hkx, ← hw7]; exact D6.out
        go_upto_region 12 with fail
        rw [hw7]
        clear hw7 hkx D6
        have f0 := D7.out.kf.cell 0
        have f1 := D7.out.kf.cell 1
        have fz1 := D7.out.kf.frozen 1
        have fl' := D7.out.kf.lt
        simp at f0 f1
        go_wp2_with (fail)
        refine (points_c kx w7).mono ?_
        rintro e wp ⟨rfl, hwp⟩
        rw [hwp]
        clear hwp
        cases hpt : ptB kx with
        | false =>
          obtain ⟨ox, hox⟩ : ∃ x : Int, x = 0 := ⟨_, rfl⟩
          obtain ⟨w8, hw8⟩ : ∃ W, w7 = W := ⟨_, rfl⟩
          have D8 : Hid (Dn W1 gs gf p q (Value.slice fa fl fc) kx ox fs g cv zs w8.heap.size w8) := by rw [hox, ← hw8]; exact D7.out
          rw [hw8]
          clear hpt f0 f1 fz1 fl' hox hw8 D7
          have c0 := D8.out.ks.cell 0
          have c1 := D8.out.ks.cell 1
          have c2 := D8.out.ks.cell 2
          have cl := D8.out.ks.lt
          simp at c0 c1 c2
          obtain ⟨gn, hgn⟩ : ∃ k, w8.heap.size = k := ⟨_, rfl⟩
          obtain ⟨w9, hw9⟩ : ∃ W, w8.alloc (Obj.cells (S3 p q (Value.slice fa fl fc)) 35) = W := ⟨_, rfl⟩
          obtain ⟨K0, hK0⟩ : ∃ k, w9.heap.size = k := ⟨_, rfl⟩
          have D9 : Hid (Dn W1 gs gf p q (Value.slice fa fl fc) kx ox fs g cv zs K0 w9) := by rw [← hK0]; have := D8.out.alloc (Obj.cells (S3 p q (Value.slice fa fl fc)) 35); rw [hw9] at this; exact this.re
          have KN9 : Hid (Blk w9 gn (S3 p q (Value.slice fa fl fc)) 35) := by rw [← hw9, ← hgn]; exact Blk.new _ _ _
          have HGN : Hid (gs < gn ∧ gf < gn ∧ gn < K0) := ⟨by rw [← hgn]; exact D8.out.ks.lt, by rw [← hgn]; exact D8.out.kf.lt, by rw [← hK0]; exact KN9.out.lt⟩
          have HAPN : Hid ((Value.slice fa fl fc).ownBlock = none ∨ (Value.slice fa fl fc).ownBlock ≠ some gn) := by
            cases hv : (Value.slice fa fl fc).ownBlock with
            | none => exact .inl rfl
            | some k => exact .inr (fun e => by have h7 := (World.ownsRow.lt D8.out.of k hv).2; have := Option.some.inj e; omega)
          have HFS : Hid (fs.length ≤ 3) := by have := hm.out; show _ ≤ _; omega
          have HW9 : Hid (w8.alloc (Obj.cells (S3 p q (Value.slice fa fl fc)) 35) = w9 ∧ w8.heap.size = gn) := ⟨hw9, hgn⟩
          clear hw9 hgn hK0
          go_upto_region 15 with fail
          rw [HW9.out.1, HW9.out.2]
          clear HW9 c0 c1 c2 cl
          go_cut [] from 24 to 60 (fun wx => ∃ v2 : Value, Hid (Dn W1 gs gf p q (Value.slice fa fl fc) kx ox fs g cv zs wx.heap.size wx) ∧ Hid (Blk wx gn (S3 p q v2) 35) ∧ Hid (Op mf mg 37 (gs + 1) wx v2 (fs ++ [(kx, ox)])))
          case first =>
            obtain ⟨S, hS⟩ : ∃ S : World → Prop, ∀ W, S W ↔ (Blk W gs (S3 p q (Value.slice fa fl fc)) 35 ∧ Blk W gf (H2 kx ox) 37) := ⟨_, fun _ => Iff.rfl⟩
            have t2 : ∀ W : At S, W.wd.cell? ⟨gs, 2, none⟩ = some (Value.slice fa fl fc) := fun W => by have := ((hS _).1 W.ok).1.cell 2; simpa using this
            have t3 : ∀ W : At S, W.wd.cell? ⟨gf, 0, none⟩ = some (.int .i64 kx) := fun W => by have := ((hS _).1 W.ok).2.cell 0; simpa using this
            have t4 : ∀ W : At S, W.wd.cell? ⟨gf, 1, none⟩ = some (.int .i64 ox) := fun W => by have := ((hS _).1 W.ok).2.cell 1; simpa using this
            have HSI : Hid (∀ W K, Dn W1 gs gf p q (Value.slice fa fl fc) kx ox fs g cv zs K W → S W) := fun W K h => (hS W).2 ⟨h.ks, h.kf⟩
            clear hS
            have DA : Hid (Dn W1 gs gf p q (Value.slice fa fl fc) kx ox fs g cv zs K0 w9.drew) := D9.out.grown (row := none) ⟨rfl, rfl, rfl, Nat.le_refl _, fun _ _ _ => rfl⟩ (fun k e => by cases e)
            have NA : Hid (Blk w9.drew gn (S3 p q (Value.slice fa fl fc)) 35) := KN9.out
            obtain ⟨wa, hwa⟩ : ∃ W, w9.drew = W := ⟨_, rfl⟩
            have ne1 : Nonempty (At S) := ⟨⟨w9.drew, HSI.out _ _ DA.out⟩⟩
            refine region_anyS S (by kernel_rfl) ?_
            refine anyS_quiet [false, true, true, false, true, false, false, false, false] 6 rfl (by kernel_rfl) (fun _ _ _ _ _ h => h) (HSI.out _ _ DA.out) ?_
            simp only [selT]
            repeat (go_big_quiet_step (fail))
            refine wpQuiet_nil ?_
            rw [hwa] at DA NA ⊢
            clear hwa t2 t3 t4 ne1
            have D_wa := DA
            have N_wa := NA
            clear DA NA
            refine anyS_two 0 5 (by kernel_rfl) rfl rfl ?_ ?_
            · obtain ⟨wae, hwae⟩ : ∃ W, wa.alloc (Obj.cells #[] 37) = W := ⟨_, rfl⟩
              obtain ⟨ga, hga⟩ : ∃ k, wa.heap.size = k := ⟨_, rfl⟩
              have D_wae : Hid (Dn W1 gs gf p q (Value.slice fa fl fc) kx ox fs g cv zs K0 wae) := by rw [← hwae]; exact D_wa.out.alloc _
              have N_wae : Hid (Blk wae gn (S3 p q (Value.slice fa fl fc)) 35) := by rw [← hwae]; exact N_wa.out.alloc _
              have E_wae : Hid (Op mf mg 37 K0 wae (.slice (some ⟨ga, 0, none⟩) 0 0) []) := by rw [← hwae, ← hga]; exact Op.lit0 wa K0 D_wa.out.k0.2.2.1
              go_wp2
              clear hwae
              refine ⟨HSI.out _ _ D_wae.out, ?_⟩
              refine anyS_two 3 5 (by kernel_rfl) rfl rfl ?_ ?_
              · refine appNt rfl _ _ rfl K0 _ [] rfl E_wae.out _ fs rfl D_wae.out.of.rd (by have := HFS.out; simp; omega) D_wae.out.k0.2.2.1 ?_
                intro v' waea ho hg hob
                have hrow : ∀ k, (Value.slice (some ⟨ga, 0, none⟩) 0 0).ownBlock = some k → K0 ≤ k := fun k e => (World.ownsRow.lt E_wae.out k e).1
                have D_waea : Hid (Dn W1 gs gf p q (Value.slice fa fl fc) kx ox fs g cv zs K0 waea) := D_wae.out.grown hg hrow
                have N_waea : Hid (Blk waea gn (S3 p q (Value.slice fa fl fc)) 35) := N_wae.out.grown hg (fun e => by have := hrow gn e; have := HGN.out; omega)
                have F_waea : Hid (Op mf mg 37 K0 waea v' fs) := by show Op mf mg 37 K0 waea v' fs; rw [List.nil_append] at ho; exact ho
                clear ho hg hob hrow
                refine wpList_nil ?_
                refine ⟨HSI.out _ _ D_waea.out, ?_⟩
                refine anyS_one 5 (by kernel_rfl) rfl ?_
                obtain ⟨waeaf, hwaeaf⟩ : ∃ W, waea.alloc (Obj.cells (H2 kx ox) 37) = W := ⟨_, rfl⟩
                obtain ⟨gb, hgb⟩ : ∃ k, waea.heap.size = k := ⟨_, rfl⟩
                have D_waeaf : Hid (Dn W1 gs gf p q (Value.slice fa fl fc) kx ox fs g cv zs K0 waeaf) := by rw [← hwaeaf]; exact D_waea.out.alloc _
                have N_waeaf : Hid (Blk waeaf gn (S3 p q (Value.slice fa fl fc)) 35) := by rw [← hwaeaf]; exact N_waea.out.alloc _
                have B_waeaf : Hid (Blk waeaf gb (H2 kx ox) 37 ∧ K0 ≤ gb) := ⟨by rw [← hwaeaf, ← hgb]; exact Blk.new _ _ _, by rw [← hgb]; exact D_waea.out.k0.2.2.1⟩
                have F_waeaf : Hid (Op mf mg 37 K0 waeaf v' fs) := by rw [← hwaeaf]; exact World.ownsRow.alloc F_waea.out _
                go_wp2
                clear hwaeaf
                refine ⟨HSI.out _ _ D_waeaf.out, ?_⟩
                refine anyS_one 6 (by kernel_rfl) rfl ?_
                refine appNt rfl _ _ rfl K0 _ fs rfl F_waeaf.out _ [(kx, ox)] rfl (Rp.one7 B_waeaf.out.1) (by have := HFS.out; simp; omega) D_waeaf.out.k0.2.2.1 ?_
                intro v2 waeafz ho hg hob
                have hrow : ∀ k, v'.ownBlock = some k → K0 ≤ k := fun k e => (World.ownsRow.lt F_waeaf.out k e).1
                have D_waeafz : Hid (Dn W1 gs gf p q (Value.slice fa fl fc) kx ox fs g cv zs K0 waeafz) := D_waeaf.out.grown hg hrow
                have N_waeafz : Hid (Blk waeafz gn (S3 p q (Value.slice fa fl fc)) 35) := N_waeaf.out.grown hg (fun e => by have := hrow gn e; have := HGN.out; omega)
                have F_waeafz : Hid (Op mf mg 37 K0 waeafz v2 (fs ++ [(kx, ox)])) := ho
                clear ho hg hob hrow
                refine wpList_nil ?_
                refine ⟨HSI.out _ _ D_waeafz.out, ?_⟩
                refine anyS_one 7 (by kernel_rfl) rfl ?_
                go_wp2
                refine ⟨HSI.out _ _ D_waeafz.out, ?_⟩
                refine anyS_one 8 (by kernel_rfl) rfl ?_
                obtain ⟨za, zc, hz2, -⟩ := F_waeafz.out.rd
                obtain ⟨zl, hzl⟩ : ∃ k, (fs ++ [(kx, ox)]).length = k := ⟨_, rfl⟩
                rw [hzl] at hz2
                clear hzl
                subst hz2
                obtain ⟨wz, hwz⟩ : ∃ W, waeafz.setCell ⟨gn, 2, none⟩ (.slice za zl zc) = W := ⟨_, rfl⟩
                have hgz : waeafz.grownBy wz (some gn) := by rw [← hwz]; exact grown_set _ _ _ _
                have DZ : Hid (Dn W1 gs gf p q (Value.slice fa fl fc) kx ox fs g cv zs wz.heap.size wz) := by
                  have h := D_waeafz.out
                  have hl := HGN.out
                  have hap : (Value.slice fa fl fc).ownBlock = none ∨ (Value.slice fa fl fc).ownBlock ≠ some gn := HAPN.out
                  have h2 : Dn W1 gs gf p q (Value.slice fa fl fc) kx ox fs g cv zs K0 wz := ⟨h.ks.grown hgz (fun e => by have := Option.some.inj e; omega), h.kf.grown hgz (fun e => by have := Option.some.inj e; omega), World.ownsRow.kept h.of hgz hap, h.dc.app (fun k e => by have := h.k0.2.2.2; have := Option.some.inj e; omega) hgz, ⟨h.k0.1, h.k0.2.1, Nat.le_trans h.k0.2.2.1 hgz.size, h.k0.2.2.2⟩, h.kv, h.ap⟩
                  exact h2.re
                have NZ : Hid (Blk wz gn (S3 p q (.slice za zl zc)) 35) := by rw [← hwz]; exact N_waeafz.out.set 2 _
                have FZ : Hid (Op mf mg 37 (gs + 1) wz (.slice za zl zc) (fs ++ [(kx, ox)])) := by
                  have h2 : Op mf mg 37 K0 wz (.slice za zl zc) (fs ++ [(kx, ox)]) := World.ownsRow.kept F_waeafz.out hgz (by
                    cases hv : (Value.slice za zl zc).ownBlock with
                    | none => exact .inl rfl
                    | some k => exact .inr (fun e => by have h7 := (World.ownsRow.lt F_waeafz.out k hv).1; have h8 := HGN.out; have := Option.some.inj e; omega))
                  exact h2.mono (by have := D9.out.k0.1; omega)
                have SZ : Hid (S wz) := HSI.out _ _ DZ.out
                have y2 := N_waeafz.out.cell 2
                have yf2 := N_waeafz.out.frozen 2
                have yl := N_waeafz.out.lt
                simp at y2
                clear hgz
                go_wp2
                clear hwz
                refine ⟨SZ.out, ?_⟩
                refine anyS_end (by kernel_rfl) ?_
                go_wp2_with fail
                go_meet
                case rel => exact ⟨_, DZ.out, NZ.out, FZ.out⟩
              · obtain ⟨waef, hwaef⟩ : ∃ W, wae.alloc (Obj.cells (H2 kx ox) 37) = W := ⟨_, rfl⟩
                obtain ⟨gb, hgb⟩ : ∃ k, wae.heap.size = k := ⟨_, rfl⟩
                have D_waef : Hid (Dn W1 gs gf p q (Value.slice fa fl fc) kx ox fs g cv zs K0 waef) := by rw [← hwaef]; exact D_wae.out.alloc _
                have N_waef : Hid (Blk waef gn (S3 p q (Value.slice fa fl fc)) 35) := by rw [← hwaef]; exact N_wae.out.alloc _
                have B_waef : Hid (Blk waef gb (H2 kx ox) 37 ∧ K0 ≤ gb) := ⟨by rw [← hwaef, ← hgb]; exact Blk.new _ _ _, by rw [← hgb]; exact D_wae.out.k0.2.2.1⟩
                have E_waef : Hid (Op mf mg 37 K0 waef (.slice (some ⟨ga, 0, none⟩) 0 0) []) := by rw [← hwaef]; exact World.ownsRow.alloc E_wae.out _
                have HNE : Hid (ga ≠ gb) := by have := (World.ownsRow.lt E_wae.out ga rfl).2; show _ ≠ _; omega
                go_wp2
                clear hwaef
                refine ⟨HSI.out _ _ D_waef.out, ?_⟩
                refine anyS_one 3 (by kernel_rfl) rfl ?_
                refine appNt rfl _ _ rfl K0 _ [] rfl E_waef.out _ fs rfl D_waef.out.of.rd (by have := HFS.out; simp; omega) D_waef.out.k0.2.2.1 ?_
                intro v' waefa ho hg hob
                have hrow : ∀ k, (Value.slice (some ⟨ga, 0, none⟩) 0 0).ownBlock = some k → K0 ≤ k := fun k e => (World.ownsRow.lt E_waef.out k e).1
                have D_waefa : Hid (Dn W1 gs gf p q (Value.slice fa fl fc) kx ox fs g cv zs K0 waefa) := D_waef.out.grown hg hrow
                have N_waefa : Hid (Blk waefa gn (S3 p q (Value.slice fa fl fc)) 35) := N_waef.out.grown hg (fun e => by have := hrow gn e; have := HGN.out; omega)
                have F_waefa : Hid (Op mf mg 37 K0 waefa v' fs) := by show Op mf mg 37 K0 waefa v' fs; rw [List.nil_append] at ho; exact ho
                have B_waefa : Hid (Blk waefa gb (H2 kx ox) 37 ∧ K0 ≤ gb) := ⟨B_waef.out.1.grown hg (fun e => by have e2 : (Value.slice (some ⟨ga, 0, none⟩) 0 0).ownBlock = some gb := e; have h1 : ga = gb := (by simpa [Value.ownBlock] using e2); have := HNE.out; omega), B_waef.out.2⟩
                clear ho hg hob hrow
                refine wpList_nil ?_
                refine ⟨HSI.out _ _ D_waefa.out, ?_⟩
                refine anyS_one 6 (by kernel_rfl) rfl ?_
                refine appNt rfl _ _ rfl K0 _ fs rfl F_waefa.out _ [(kx, ox)] rfl (Rp.one7 B_waefa.out.1) (by have := HFS.out; simp; omega) D_waefa.out.k0.2.2.1 ?_
                intro v2 waefaz ho hg hob
                have hrow : ∀ k, v'.ownBlock = some k → K0 ≤ k := fun k e => (World.ownsRow.lt F_waefa.out k e).1
                have D_waefaz : Hid (Dn W1 gs gf p q (Value.slice fa fl fc) kx ox fs g cv zs K0 waefaz) := D_waefa.out.grown hg hrow
                have N_waefaz : Hid (Blk waefaz gn (S3 p q (Value.slice fa fl fc)) 35) := N_waefa.out.grown hg (fun e => by have := hrow gn e; have := HGN.out; omega)
                have F_waefaz : Hid (Op mf mg 37 K0 waefaz v2 (fs ++ [(kx, ox)])) := ho
                clear ho hg hob hrow
                refine wpList_nil ?_
                refine ⟨HSI.out _ _ D_waefaz.out, ?_⟩
                refine anyS_one 7 (by kernel_rfl) rfl ?_
                go_wp2
                refine ⟨HSI.out _ _ D_waefaz.out, ?_⟩
                refine anyS_one 8 (by kernel_rfl) rfl ?_
                obtain ⟨za, zc, hz2, -⟩ := F_waefaz.out.rd
                obtain ⟨zl, hzl⟩ : ∃ k, (fs ++ [(kx, ox)]).length = k := ⟨_, rfl⟩
                rw [hzl] at hz2
                clear hzl
                subst hz2
                obtain ⟨wz, hwz⟩ : ∃ W, waefaz.setCell ⟨gn, 2, none⟩ (.slice za zl zc) = W := ⟨_, rfl⟩
                have hgz : waefaz.grownBy wz (some gn) := by rw [← hwz]; exact grown_set _ _ _ _
                have DZ : Hid (Dn W1 gs gf p q (Value.slice fa fl fc) kx ox fs g cv zs wz.heap.size wz) := by
                  have h := D_waefaz.out
                  have hl := HGN.out
                  have hap : (Value.slice fa fl fc).ownBlock = none ∨ (Value.slice fa fl fc).ownBlock ≠ some gn := HAPN.out
                  have h2 : Dn W1 gs gf p q (Value.slice fa fl fc) kx ox fs g cv zs K0 wz := ⟨h.ks.grown hgz (fun e => by have := Option.some.inj e; omega), h.kf.grown hgz (fun e => by have := Option.some.inj e; omega), World.ownsRow.kept h.of hgz hap, h.dc.app (fun k e => by have := h.k0.2.2.2; have := Option.some.inj e; omega) hgz, ⟨h.k0.1, h.k0.2.1, Nat.le_trans h.k0.2.2.1 hgz.size, h.k0.2.2.2⟩, h.kv, h.ap⟩
                  exact h2.re
                have NZ : Hid (Blk wz gn (S3 p q (.slice za zl zc)) 35) := by rw [← hwz]; exact N_waefaz.out.set 2 _
                have FZ : Hid (Op mf mg 37 (gs + 1) wz (.slice za zl zc) (fs ++ [(kx, ox)])) := by
                  have h2 : Op mf mg 37 K0 wz (.slice za zl zc) (fs ++ [(kx, ox)]) := World.ownsRow.kept F_waefaz.out hgz (by
                    cases hv : (Value.slice za zl zc).ownBlock with
                    | none => exact .inl rfl
                    | some k => exact .inr (fun e => by have h7 := (World.ownsRow.lt F_waefaz.out k hv).1; have h8 := HGN.out; have := Option.some.inj e; omega))
                  exact h2.mono (by have := D9.out.k0.1; omega)
                have SZ : Hid (S wz) := HSI.out _ _ DZ.out
                have y2 := N_waefaz.out.cell 2
                have yf2 := N_waefaz.out.frozen 2
                have yl := N_waefaz.out.lt
                simp at y2
                clear hgz
                go_wp2
                clear hwz
                refine ⟨SZ.out, ?_⟩
                refine anyS_end (by kernel_rfl) ?_
                go_wp2_with fail
                go_meet
                case rel => exact ⟨_, DZ.out, NZ.out, FZ.out⟩
            · obtain ⟨waf, hwaf⟩ : ∃ W, wa.alloc (Obj.cells (H2 kx ox) 37) = W := ⟨_, rfl⟩
              obtain ⟨gb, hgb⟩ : ∃ k, wa.heap.size = k := ⟨_, rfl⟩
              have D_waf : Hid (Dn W1 gs gf p q (Value.slice fa fl fc) kx ox fs g cv zs K0 waf) := by rw [← hwaf]; exact D_wa.out.alloc _
              have N_waf : Hid (Blk waf gn (S3 p q (Value.slice fa fl fc)) 35) := by rw [← hwaf]; exact N_wa.out.alloc _
              have B_waf : Hid (Blk waf gb (H2 kx ox) 37 ∧ K0 ≤ gb) := ⟨by rw [← hwaf, ← hgb]; exact Blk.new _ _ _, by rw [← hgb]; exact D_wa.out.k0.2.2.1⟩
              go_wp2
              clear hwaf
              refine ⟨HSI.out _ _ D_waf.out, ?_⟩
              refine anyS_one 0 (by kernel_rfl) rfl ?_
              obtain ⟨wafe, hwafe⟩ : ∃ W, waf.alloc (Obj.cells #[] 37) = W := ⟨_, rfl⟩
              obtain ⟨ga, hga⟩ : ∃ k, waf.heap.size = k := ⟨_, rfl⟩
              have D_wafe : Hid (Dn W1 gs gf p q (Value.slice fa fl fc) kx ox fs g cv zs K0 wafe) := by rw [← hwafe]; exact D_waf.out.alloc _
              have N_wafe : Hid (Blk wafe gn (S3 p q (Value.slice fa fl fc)) 35) := by rw [← hwafe]; exact N_waf.out.alloc _
              have E_wafe : Hid (Op mf mg 37 K0 wafe (.slice (some ⟨ga, 0, none⟩) 0 0) []) := by rw [← hwafe, ← hga]; exact Op.lit0 waf K0 D_waf.out.k0.2.2.1
              have B_wafe : Hid (Blk wafe gb (H2 kx ox) 37 ∧ K0 ≤ gb) := ⟨by rw [← hwafe]; exact B_waf.out.1.alloc _, B_waf.out.2⟩
              have HNE : Hid (ga ≠ gb) := by have := B_waf.out.1.lt; show _ ≠ _; omega
              go_wp2
              clear hwafe
              refine ⟨HSI.out _ _ D_wafe.out, ?_⟩
              refine anyS_one 3 (by kernel_rfl) rfl ?_
              refine appNt rfl _ _ rfl K0 _ [] rfl E_wafe.out _ fs rfl D_wafe.out.of.rd (by have := HFS.out; simp; omega) D_wafe.out.k0.2.2.1 ?_
              intro v' wafea ho hg hob
              have hrow : ∀ k, (Value.slice (some ⟨ga, 0, none⟩) 0 0).ownBlock = some k → K0 ≤ k := fun k e => (World.ownsRow.lt E_wafe.out k e).1
              have D_wafea : Hid (Dn W1 gs gf p q (Value.slice fa fl fc) kx ox fs g cv zs K0 wafea) := D_wafe.out.grown hg hrow
              have N_wafea : Hid (Blk wafea gn (S3 p q (Value.slice fa fl fc)) 35) := N_wafe.out.grown hg (fun e => by have := hrow gn e; have := HGN.out; omega)
              have F_wafea : Hid (Op mf mg 37 K0 wafea v' fs) := by show Op mf mg 37 K0 wafea v' fs; rw [List.nil_append] at ho; exact ho
              have B_wafea : Hid (Blk wafea gb (H2 kx ox) 37 ∧ K0 ≤ gb) := ⟨B_wafe.out.1.grown hg (fun e => by have e2 : (Value.slice (some ⟨ga, 0, none⟩) 0 0).ownBlock = some gb := e; have h1 : ga = gb := (by simpa [Value.ownBlock] using e2); have := HNE.out; omega), B_wafe.out.2⟩
              clear ho hg hob hrow
              refine wpList_nil ?_
              refine ⟨HSI.out _ _ D_wafea.out, ?_⟩
              refine anyS_one 6 (by kernel_rfl) rfl ?_
              refine appNt rfl _ _ rfl K0 _ fs rfl F_wafea.out _ [(kx, ox)] rfl (Rp.one7 B_wafea.out.1) (by have := HFS.out; simp; omega) D_wafea.out.k0.2.2.1 ?_
              intro v2 wafeaz ho hg hob
              have hrow : ∀ k, v'.ownBlock = some k → K0 ≤ k := fun k e => (World.ownsRow.lt F_wafea.out k e).1
              have D_wafeaz : Hid (Dn W1 gs gf p q (Value.slice fa fl fc) kx ox fs g cv zs K0 wafeaz) := D_wafea.out.grown hg hrow
              have N_wafeaz : Hid (Blk wafeaz gn (S3 p q (Value.slice fa fl fc)) 35) := N_wafea.out.grown hg (fun e => by have := hrow gn e; have := HGN.out; omega)
              have F_wafeaz : Hid (Op mf mg 37 K0 wafeaz v2 (fs ++ [(kx, ox)])) := ho
              clear ho hg hob hrow
              refine wpList_nil ?_
              refine ⟨HSI.out _ _ D_wafeaz.out, ?_⟩
              refine anyS_one 7 (by kernel_rfl) rfl ?_
              go_wp2
              refine ⟨HSI.out _ _ D_wafeaz.out, ?_⟩
              refine anyS_one 8 (by kernel_rfl) rfl ?_
              obtain ⟨za, zc, hz2, -⟩ := F_wafeaz.out.rd
              obtain ⟨zl, hzl⟩ : ∃ k, (fs ++ [(kx, ox)]).length = k := ⟨_, rfl⟩
              rw [hzl] at hz2
              clear hzl
              subst hz2
              obtain ⟨wz, hwz⟩ : ∃ W, wafeaz.setCell ⟨gn, 2, none⟩ (.slice za zl zc) = W := ⟨_, rfl⟩
              have hgz : wafeaz.grownBy wz (some gn) := by rw [← hwz]; exact grown_set _ _ _ _
              have DZ : Hid (Dn W1 gs gf p q (Value.slice fa fl fc) kx ox fs g cv zs wz.heap.size wz) := by
                have h := D_wafeaz.out
                have hl := HGN.out
                have hap : (Value.slice fa fl fc).ownBlock = none ∨ (Value.slice fa fl fc).ownBlock ≠ some gn := HAPN.out
                have h2 : Dn W1 gs gf p q (Value.slice fa fl fc) kx ox fs g cv zs K0 wz := ⟨h.ks.grown hgz (fun e => by have := Option.some.inj e; omega), h.kf.grown hgz (fun e => by have := Option.some.inj e; omega), World.ownsRow.kept h.of hgz hap, h.dc.app (fun k e => by have := h.k0.2.2.2; have := Option.some.inj e; omega) hgz, ⟨h.k0.1, h.k0.2.1, Nat.le_trans h.k0.2.2.1 hgz.size, h.k0.2.2.2⟩, h.kv, h.ap⟩
                exact h2.re
              have NZ : Hid (Blk wz gn (S3 p q (.slice za zl zc)) 35) := by rw [← hwz]; exact N_wafeaz.out.set 2 _
              have FZ : Hid (Op mf mg 37 (gs + 1) wz (.slice za zl zc) (fs ++ [(kx, ox)])) := by
                have h2 : Op mf mg 37 K0 wz (.slice za zl zc) (fs ++ [(kx, ox)]) := World.ownsRow.kept F_wafeaz.out hgz (by
                  cases hv : (Value.slice za zl zc).ownBlock with
                  | none => exact .inl rfl
                  | some k => exact .inr (fun e => by have h7 := (World.ownsRow.lt F_wafeaz.out k hv).1; have h8 := HGN.out; have := Option.some.inj e; omega))
                exact h2.mono (by have := D9.out.k0.1; omega)
              have SZ : Hid (S wz) := HSI.out _ _ DZ.out
              have y2 := N_wafeaz.out.cell 2
              have yf2 := N_wafeaz.out.frozen 2
              have yl := N_wafeaz.out.lt
              simp at y2
              clear hgz
              go_wp2
              clear hwz
              refine ⟨SZ.out, ?_⟩
              refine anyS_end (by kernel_rfl) ?_
              go_wp2_with fail
              go_meet
              case rel => exact ⟨_, DZ.out, NZ.out, FZ.out⟩
          case rest =>
          obtain ⟨v2, DZ, NZ, FZ⟩ := hcut
          clear D9 KN9 D8
          obtain ⟨za, zc, hz2, -⟩ := FZ.out.rd
          obtain ⟨zl, hzl⟩ : ∃ k, (fs ++ [(kx, ox)]).length = k := ⟨_, rfl⟩
          rw [hzl] at hz2
          subst hz2
          have HZL : Hid ((fs ++ [(kx, ox)]).length = zl) := hzl
          clear hzl
          have n0 := NZ.out.cell 0
          have n1 := NZ.out.cell 1
          have n2 := NZ.out.cell 2
          have nl := NZ.out.lt
          simp at n0 n1 n2
          go_wp2_with (fail)
          refine (subM_c p q _ (fs ++ [(kx, ox)]) n wc FZ.out.rd (by omega) (by omega)).mono ?_
          rintro e we ⟨r2, rfl, -, be⟩
          clear n0 n1 n2 nl
          have KSe := DZ.out.ks.below be DZ.out.ks.lt
          have NZe := NZ.out.below be NZ.out.lt
          have OFe : Hid (Op mf mg 37 (gs + 1) we (Value.slice fa fl fc) fs) := DZ.out.of.below be
          have OZe : Hid (Op mf mg 37 (gs + 1) we (.slice za zl zc) (fs ++ [(kx, ox)])) := FZ.out.below be
          have DCe : Hid (Dc W1 we g cv zs) := DZ.out.dc.below be
          have HKS : Hid (Blk we gs (S3 p q (Value.slice fa fl fc)) 35) := KSe
          have hmm : 0 < m := by omega
          obtain ⟨m', hm'⟩ : ∃ m', m = m' + 1 := ⟨m - 1, by omega⟩
          have HM : Hid (m = m' + 1) := hm'
          have hmI : (m : Int) - 1 = (m' : Int) := by omega
          clear hm' be
          cases r2
          · clear NZe KSe
            go_wp2
            go_roundw
            case rel => exact ⟨m', _, fs, by first | rfl | rw [hmI], by have := hm.out; have := HM.out; show _ ≤ _; omega, HKS.out, OFe.out, DCe.out⟩
            case measure => have := HM.out; simp [intOf]; omega
          · have s0 := KSe.cell 0
            have s1 := KSe.cell 1
            have s2 := KSe.cell 2
            have sf0 := KSe.frozen 0
            have sf1 := KSe.frozen 1
            have sf2 := KSe.frozen 2
            have sl := KSe.lt
            have n0 := NZe.cell 0
            have n1 := NZe.cell 1
            have n2 := NZe.cell 2
            have nl := NZe.lt
            simp at s0 s1 s2 n0 n1 n2
            obtain ⟨wf, hwf⟩ : ∃ W, ((we.setCell ⟨gs, 0, none⟩ (.bool p)).setCell ⟨gs, 1, none⟩ (.bool q)).setCell ⟨gs, 2, none⟩ (.slice za zl zc) = W := ⟨_, rfl⟩
            have hgz : we.grownBy wf (some gs) := by rw [← hwf]; exact grown_trans (grown_trans (grown_set _ _ _ _) (grown_set _ _ _ _)) (grown_set _ _ _ _)
            have HKZ : Hid (Blk wf gs (S3 p q (.slice za zl zc)) 35) := by rw [← hwf]; exact ((KSe.set 0 _).set 1 _).set 2 _
            have HOZ : Hid (Op mf mg 37 (gs + 1) wf (.slice za zl zc) (fs ++ [(kx, ox)])) := World.ownsRow.kept OZe.out hgz (by
              cases hv : (Value.slice za zl zc).ownBlock with
              | none => exact .inl rfl
              | some k => exact .inr (fun e => by have h7 := (World.ownsRow.lt OZe.out k hv).1; have := Option.some.inj e; omega))
            have HDZ : Hid (Dc W1 wf g cv zs) := DCe.out.app (fun k e => by have h1 := HGS.out; have := Option.some.inj e; omega) hgz
            clear hgz KSe NZe
            go_wp2
            try rw [hwf]
            clear hwf
            go_roundw
            case rel => exact ⟨m', _, fs ++ [(kx, ox)], by first | rfl | rw [hmI], by have := hm.out; have := HM.out; show _ ≤ _; rw [List.length_append]; simp only [List.length_singleton]; omega, HKZ.out, HOZ.out, HDZ.out⟩
            case measure => have := HM.out; simp [intOf]; omega
        | true =>
          clear hpt
          go_wp2_with (fail)
          refine (below_c _ _ _ _ _ D7.out.dc.dr (by omega)).mono ?_
          rintro e wo ⟨ox, rfl, -, -, -, d1, g1⟩
          have Do : Hid (Dn W1 gs gf p q (Value.slice fa fl fc) kx 0 fs g cv zs wo.heap.size wo) := (D7.out.draw d1 g1 HGF.out).re
          clear d1 g1 f0 f1 fz1 fl' D7
          have f0 := Do.out.kf.cell 0
          have f1 := Do.out.kf.cell 1
          have fz1 := Do.out.kf.frozen 1
          have fl' := Do.out.kf.lt
          simp at f0 f1
          obtain ⟨w8, hw8⟩ : ∃ W, wo.setCell ⟨gf, 1, none⟩ (.int .i64 ox) = W := ⟨_, rfl⟩
          have D8 : Hid (Dn W1 gs gf p q (Value.slice fa fl fc) kx ox fs g cv zs w8.heap.size w8) := by rw [← hw8]; exact ((Do.out.store HGF.out).2 ox).re
          go_upto_region 14 with fail
          try rw [hw8]
          clear hw8 f0 f1 fz1 fl' Do
          have c0 := D8.out.ks.cell 0
          have c1 := D8.out.ks.cell 1
          have c2 := D8.out.ks.cell 2
          have cl := D8.out.ks.lt
          simp at c0 c1 c2
          obtain ⟨gn, hgn⟩ : ∃ k, w8.heap.size = k := ⟨_, rfl⟩
          obtain ⟨w9, hw9⟩ : ∃ W, w8.alloc (Obj.cells (S3 p q (Value.slice fa fl fc)) 35) = W := ⟨_, rfl⟩
          obtain ⟨K0, hK0⟩ : ∃ k, w9.heap.size = k := ⟨_, rfl⟩
          have D9 : Hid (Dn W1 gs gf p q (Value.slice fa fl fc) kx ox fs g cv zs K0 w9) := by rw [← hK0]; have := D8.out.alloc (Obj.cells (S3 p q (Value.slice fa fl fc)) 35); rw [hw9] at this; exact this.re
          have KN9 : Hid (Blk w9 gn (S3 p q (Value.slice fa fl fc)) 35) := by rw [← hw9, ← hgn]; exact Blk.new _ _ _
          have HGN : Hid (gs < gn ∧ gf < gn ∧ gn < K0) := ⟨by rw [← hgn]; exact D8.out.ks.lt, by rw [← hgn]; exact D8.out.kf.lt, by rw [← hK0]; exact KN9.out.lt⟩
          have HAPN : Hid ((Value.slice fa fl fc).ownBlock = none ∨ (Value.slice fa fl fc).ownBlock ≠ some gn) := by
            cases hv : (Value.slice fa fl fc).ownBlock with
            | none => exact .inl rfl
            | some k => exact .inr (fun e => by have h7 := (World.ownsRow.lt D8.out.of k hv).2; have := Option.some.inj e; omega)
          have HFS : Hid (fs.length ≤ 3) := by have := hm.out; show _ ≤ _; omega
          have HW9 : Hid (w8.alloc (Obj.cells (S3 p q (Value.slice fa fl fc)) 35) = w9 ∧ w8.heap.size = gn) := ⟨hw9, hgn⟩
          clear hw9 hgn hK0
          go_upto_region 15 with fail
          rw [HW9.out.1, HW9.out.2]
          clear HW9 c0 c1 c2 cl
          go_cut [] from 24 to 60 (fun wx => ∃ v2 : Value, Hid (Dn W1 gs gf p q (Value.slice fa fl fc) kx ox fs g cv zs wx.heap.size wx) ∧ Hid (Blk wx gn (S3 p q v2) 35) ∧ Hid (Op mf mg 37 (gs + 1) wx v2 (fs ++ [(kx, ox)])))
          case first =>
            obtain ⟨S, hS⟩ : ∃ S : World → Prop, ∀ W, S W ↔ (Blk W gs (S3 p q (Value.slice fa fl fc)) 35 ∧ Blk W gf (H2 kx ox) 37) := ⟨_, fun _ => Iff.rfl⟩
            have t2 : ∀ W : At S, W.wd.cell? ⟨gs, 2, none⟩ = some (Value.slice fa fl fc) := fun W => by have := ((hS _).1 W.ok).1.cell 2; simpa using this
            have t3 : ∀ W : At S, W.wd.cell? ⟨gf, 0, none⟩ = some (.int .i64 kx) := fun W => by have := ((hS _).1 W.ok).2.cell 0; simpa using this
            have t4 : ∀ W : At S, W.wd.cell? ⟨gf, 1, none⟩ = some (.int .i64 ox) := fun W => by have := ((hS _).1 W.ok).2.cell 1; simpa using this
            have HSI : Hid (∀ W K, Dn W1 gs gf p q (Value.slice fa fl fc) kx ox fs g cv zs K W → S W) := fun W K h => (hS W).2 ⟨h.ks, h.kf⟩
            clear hS
            have DA : Hid (Dn W1 gs gf p q (Value.slice fa fl fc) kx ox fs g cv zs K0 w9.drew) := D9.out.grown (row := none) ⟨rfl, rfl, rfl, Nat.le_refl _, fun _ _ _ => rfl⟩ (fun k e => by cases e)
            have NA : Hid (Blk w9.drew gn (S3 p q (Value.slice fa fl fc)) 35) := KN9.out
            obtain ⟨wa, hwa⟩ : ∃ W, w9.drew = W := ⟨_, rfl⟩
            have ne1 : Nonempty (At S) := ⟨⟨w9.drew, HSI.out _ _ DA.out⟩⟩
            refine region_anyS S (by kernel_rfl) ?_
            refine anyS_quiet [false, true, true, false, true, false, false, false, false] 6 rfl (by kernel_rfl) (fun _ _ _ _ _ h => h) (HSI.out _ _ DA.out) ?_
            simp only [selT]
            repeat (go_big_quiet_step (fail))
            refine wpQuiet_nil ?_
            rw [hwa] at DA NA ⊢
            clear hwa t2 t3 t4 ne1
            have D_wa := DA
            have N_wa := NA
            clear DA NA
            refine anyS_two 0 5 (by kernel_rfl) rfl rfl ?_ ?_
            · obtain ⟨wae, hwae⟩ : ∃ W, wa.alloc (Obj.cells #[] 37) = W := ⟨_, rfl⟩
              obtain ⟨ga, hga⟩ : ∃ k, wa.heap.size = k := ⟨_, rfl⟩
              have D_wae : Hid (Dn W1 gs gf p q (Value.slice fa fl fc) kx ox fs g cv zs K0 wae) := by rw [← hwae]; exact D_wa.out.alloc _
              have N_wae : Hid (Blk wae gn (S3 p q (Value.slice fa fl fc)) 35) := by rw [← hwae]; exact N_wa.out.alloc _
              have E_wae : Hid (Op mf mg 37 K0 wae (.slice (some ⟨ga, 0, none⟩) 0 0) []) := by rw [← hwae, ← hga]; exact Op.lit0 wa K0 D_wa.out.k0.2.2.1
              go_wp2
              clear hwae
              refine ⟨HSI.out _ _ D_wae.out, ?_⟩
              refine anyS_two 3 5 (by kernel_rfl) rfl rfl ?_ ?_
              · refine appNt rfl _ _ rfl K0 _ [] rfl E_wae.out _ fs rfl D_wae.out.of.rd (by have := HFS.out; simp; omega) D_wae.out.k0.2.2.1 ?_
                intro v' waea ho hg hob
                have hrow : ∀ k, (Value.slice (some ⟨ga, 0, none⟩) 0 0).ownBlock = some k → K0 ≤ k := fun k e => (World.ownsRow.lt E_wae.out k e).1
                have D_waea : Hid (Dn W1 gs gf p q (Value.slice fa fl fc) kx ox fs g cv zs K0 waea) := D_wae.out.grown hg hrow
                have N_waea : Hid (Blk waea gn (S3 p q (Value.slice fa fl fc)) 35) := N_wae.out.grown hg (fun e => by have := hrow gn e; have := HGN.out; omega)
                have F_waea : Hid (Op mf mg 37 K0 waea v' fs) := by show Op mf mg 37 K0 waea v' fs; rw [List.nil_append] at ho; exact ho
                clear ho hg hob hrow
                refine wpList_nil ?_
                refine ⟨HSI.out _ _ D_waea.out, ?_⟩
                refine anyS_one 5 (by kernel_rfl) rfl ?_
                obtain ⟨waeaf, hwaeaf⟩ : ∃ W, waea.alloc (Obj.cells (H2 kx ox) 37) = W := ⟨_, rfl⟩
                obtain ⟨gb, hgb⟩ : ∃ k, waea.heap.size = k := ⟨_, rfl⟩
                have D_waeaf : Hid (Dn W1 gs gf p q (Value.slice fa fl fc) kx ox fs g cv zs K0 waeaf) := by rw [← hwaeaf]; exact D_waea.out.alloc _
                have N_waeaf : Hid (Blk waeaf gn (S3 p q (Value.slice fa fl fc)) 35) := by rw [← hwaeaf]; exact N_waea.out.alloc _
                have B_waeaf : Hid (Blk waeaf gb (H2 kx ox) 37 ∧ K0 ≤ gb) := ⟨by rw [← hwaeaf, ← hgb]; exact Blk.new _ _ _, by rw [← hgb]; exact D_waea.out.k0.2.2.1⟩
                have F_waeaf : Hid (Op mf mg 37 K0 waeaf v' fs) := by rw [← hwaeaf]; exact World.ownsRow.alloc F_waea.out _
                go_wp2
                clear hwaeaf
                refine ⟨HSI.out _ _ D_waeaf.out, ?_⟩
                refine anyS_one 6 (by kernel_rfl) rfl ?_
                refine appNt rfl _ _ rfl K0 _ fs rfl F_waeaf.out _ [(kx, ox)] rfl (Rp.one7 B_waeaf.out.1) (by have := HFS.out; simp; omega) D_waeaf.out.k0.2.2.1 ?_
                intro v2 waeafz ho hg hob
                have hrow : ∀ k, v'.ownBlock = some k → K0 ≤ k := fun k e => (World.ownsRow.lt F_waeaf.out k e).1
                have D_waeafz : Hid (Dn W1 gs gf p q (Value.slice fa fl fc) kx ox fs g cv zs K0 waeafz) := D_waeaf.out.grown hg hrow
                have N_waeafz : Hid (Blk waeafz gn (S3 p q (Value.slice fa fl fc)) 35) := N_waeaf.out.grown hg (fun e => by have := hrow gn e; have := HGN.out; omega)
                have F_waeafz : Hid (Op mf mg 37 K0 waeafz v2 (fs ++ [(kx, ox)])) := ho
                clear ho hg hob hrow
                refine wpList_nil ?_
                refine ⟨HSI.out _ _ D_waeafz.out, ?_⟩
                refine anyS_one 7 (by kernel_rfl) rfl ?_
                go_wp2
                refine ⟨HSI.out _ _ D_waeafz.out, ?_⟩
                refine anyS_one 8 (by kernel_rfl) rfl ?_
                obtain ⟨za, zc, hz2, -⟩ := F_waeafz.out.rd
                obtain ⟨zl, hzl⟩ : ∃ k, (fs ++ [(kx, ox)]).length = k := ⟨_, rfl⟩
                rw [hzl] at hz2
                clear hzl
                subst hz2
                obtain ⟨wz, hwz⟩ : ∃ W, waeafz.setCell ⟨gn, 2, none⟩ (.slice za zl zc) = W := ⟨_, rfl⟩
                have hgz : waeafz.grownBy wz (some gn) := by rw [← hwz]; exact grown_set _ _ _ _
                have DZ : Hid (Dn W1 gs gf p q (Value.slice fa fl fc) kx ox fs g cv zs wz.heap.size wz) := by
                  have h := D_waeafz.out
                  have hl := HGN.out
                  have hap : (Value.slice fa fl fc).ownBlock = none ∨ (Value.slice fa fl fc).ownBlock ≠ some gn := HAPN.out
                  have h2 : Dn W1 gs gf p q (Value.slice fa fl fc) kx ox fs g cv zs K0 wz := ⟨h.ks.grown hgz (fun e => by have := Option.some.inj e; omega), h.kf.grown hgz (fun e => by have := Option.some.inj e; omega), World.ownsRow.kept h.of hgz hap, h.dc.app (fun k e => by have := h.k0.2.2.2; have := Option.some.inj e; omega) hgz, ⟨h.k0.1, h.k0.2.1, Nat.le_trans h.k0.2.2.1 hgz.size, h.k0.2.2.2⟩, h.kv, h.ap⟩
                  exact h2.re
                have NZ : Hid (Blk wz gn (S3 p q (.slice za zl zc)) 35) := by rw [← hwz]; exact N_waeafz.out.set 2 _
                have FZ : Hid (Op mf mg 37 (gs + 1) wz (.slice za zl zc) (fs ++ [(kx, ox)])) := by
                  have h2 : Op mf mg 37 K0 wz (.slice za zl zc) (fs ++ [(kx, ox)]) := World.ownsRow.kept F_waeafz.out hgz (by
                    cases hv : (Value.slice za zl zc).ownBlock with
                    | none => exact .inl rfl
                    | some k => exact .inr (fun e => by have h7 := (World.ownsRow.lt F_waeafz.out k hv).1; have h8 := HGN.out; have := Option.some.inj e; omega))
                  exact h2.mono (by have := D9.out.k0.1; omega)
                have SZ : Hid (S wz) := HSI.out _ _ DZ.out
                have y2 := N_waeafz.out.cell 2
                have yf2 := N_waeafz.out.frozen 2
                have yl := N_waeafz.out.lt
                simp at y2
                clear hgz
                go_wp2
                clear hwz
                refine ⟨SZ.out, ?_⟩
                refine anyS_end (by kernel_rfl) ?_
                go_wp2_with fail
                go_meet
                case rel => exact ⟨_, DZ.out, NZ.out, FZ.out⟩
              · obtain ⟨waef, hwaef⟩ : ∃ W, wae.alloc (Obj.cells (H2 kx ox) 37) = W := ⟨_, rfl⟩
                obtain ⟨gb, hgb⟩ : ∃ k, wae.heap.size = k := ⟨_, rfl⟩
                have D_waef : Hid (Dn W1 gs gf p q (Value.slice fa fl fc) kx ox fs g cv zs K0 waef) := by rw [← hwaef]; exact D_wae.out.alloc _
                have N_waef : Hid (Blk waef gn (S3 p q (Value.slice fa fl fc)) 35) := by rw [← hwaef]; exact N_wae.out.alloc _
                have B_waef : Hid (Blk waef gb (H2 kx ox) 37 ∧ K0 ≤ gb) := ⟨by rw [← hwaef, ← hgb]; exact Blk.new _ _ _, by rw [← hgb]; exact D_wae.out.k0.2.2.1⟩
                have E_waef : Hid (Op mf mg 37 K0 waef (.slice (some ⟨ga, 0, none⟩) 0 0) []) := by rw [← hwaef]; exact World.ownsRow.alloc E_wae.out _
                have HNE : Hid (ga ≠ gb) := by have := (World.ownsRow.lt E_wae.out ga rfl).2; show _ ≠ _; omega
                go_wp2
                clear hwaef
                refine ⟨HSI.out _ _ D_waef.out, ?_⟩
                refine anyS_one 3 (by kernel_rfl) rfl ?_
                refine appNt rfl _ _ rfl K0 _ [] rfl E_waef.out _ fs rfl D_waef.out.of.rd (by have := HFS.out; simp; omega) D_waef.out.k0.2.2.1 ?_
                intro v' waefa ho hg hob
                have hrow : ∀ k, (Value.slice (some ⟨ga, 0, none⟩) 0 0).ownBlock = some k → K0 ≤ k := fun k e => (World.ownsRow.lt E_waef.out k e).1
                have D_waefa : Hid (Dn W1 gs gf p q (Value.slice fa fl fc) kx ox fs g cv zs K0 waefa) := D_waef.out.grown hg hrow
                have N_waefa : Hid (Blk waefa gn (S3 p q (Value.slice fa fl fc)) 35) := N_waef.out.grown hg (fun e => by have := hrow gn e; have := HGN.out; omega)
                have F_waefa : Hid (Op mf mg 37 K0 waefa v' fs) := by show Op mf mg 37 K0 waefa v' fs; rw [List.nil_append] at ho; exact ho
                have B_waefa : Hid (Blk waefa gb (H2 kx ox) 37 ∧ K0 ≤ gb) := ⟨B_waef.out.1.grown hg (fun e => by have e2 : (Value.slice (some ⟨ga, 0, none⟩) 0 0).ownBlock = some gb := e; have h1 : ga = gb := (by simpa [Value.ownBlock] using e2); have := HNE.out; omega), B_waef.out.2⟩
                clear ho hg hob hrow
                refine wpList_nil ?_
                refine ⟨HSI.out _ _ D_waefa.out, ?_⟩
                refine anyS_one 6 (by kernel_rfl) rfl ?_
                refine appNt rfl _ _ rfl K0 _ fs rfl F_waefa.out _ [(kx, ox)] rfl (Rp.one7 B_waefa.out.1) (by have := HFS.out; simp; omega) D_waefa.out.k0.2.2.1 ?_
                intro v2 waefaz ho hg hob
                have hrow : ∀ k, v'.ownBlock = some k → K0 ≤ k := fun k e => (World.ownsRow.lt F_waefa.out k e).1
                have D_waefaz : Hid (Dn W1 gs gf p q (Value.slice fa fl fc) kx ox fs g cv zs K0 waefaz) := D_waefa.out.grown hg hrow
                have N_waefaz : Hid (Blk waefaz gn (S3 p q (Value.slice fa fl fc)) 35) := N_waefa.out.grown hg (fun e => by have := hrow gn e; have := HGN.out; omega)
                have F_waefaz : Hid (Op mf mg 37 K0 waefaz v2 (fs ++ [(kx, ox)])) := ho
                clear ho hg hob hrow
                refine wpList_nil ?_
                refine ⟨HSI.out _ _ D_waefaz.out, ?_⟩
                refine anyS_one 7 (by kernel_rfl) rfl ?_
                go_wp2
                refine ⟨HSI.out _ _ D_waefaz.out, ?_⟩
                refine anyS_one 8 (by kernel_rfl) rfl ?_
                obtain ⟨za, zc, hz2, -⟩ := F_waefaz.out.rd
                obtain ⟨zl, hzl⟩ : ∃ k, (fs ++ [(kx, ox)]).length = k := ⟨_, rfl⟩
                rw [hzl] at hz2
                clear hzl
                subst hz2
                obtain ⟨wz, hwz⟩ : ∃ W, waefaz.setCell ⟨gn, 2, none⟩ (.slice za zl zc) = W := ⟨_, rfl⟩
                have hgz : waefaz.grownBy wz (some gn) := by rw [← hwz]; exact grown_set _ _ _ _
                have DZ : Hid (Dn W1 gs gf p q (Value.slice fa fl fc) kx ox fs g cv zs wz.heap.size wz) := by
                  have h := D_waefaz.out
                  have hl := HGN.out
                  have hap : (Value.slice fa fl fc).ownBlock = none ∨ (Value.slice fa fl fc).ownBlock ≠ some gn := HAPN.out
                  have h2 : Dn W1 gs gf p q (Value.slice fa fl fc) kx ox fs g cv zs K0 wz := ⟨h.ks.grown hgz (fun e => by have := Option.some.inj e; omega), h.kf.grown hgz (fun e => by have := Option.some.inj e; omega), World.ownsRow.kept h.of hgz hap, h.dc.app (fun k e => by have := h.k0.2.2.2; have := Option.some.inj e; omega) hgz, ⟨h.k0.1, h.k0.2.1, Nat.le_trans h.k0.2.2.1 hgz.size, h.k0.2.2.2⟩, h.kv, h.ap⟩
                  exact h2.re
                have NZ : Hid (Blk wz gn (S3 p q (.slice za zl zc)) 35) := by rw [← hwz]; exact N_waefaz.out.set 2 _
                have FZ : Hid (Op mf mg 37 (gs + 1) wz (.slice za zl zc) (fs ++ [(kx, ox)])) := by
                  have h2 : Op mf mg 37 K0 wz (.slice za zl zc) (fs ++ [(kx, ox)]) := World.ownsRow.kept F_waefaz.out hgz (by
                    cases hv : (Value.slice za zl zc).ownBlock with
                    | none => exact .inl rfl
                    | some k => exact .inr (fun e => by have h7 := (World.ownsRow.lt F_waefaz.out k hv).1; have h8 := HGN.out; have := Option.some.inj e; omega))
                  exact h2.mono (by have := D9.out.k0.1; omega)
                have SZ : Hid (S wz) := HSI.out _ _ DZ.out
                have y2 := N_waefaz.out.cell 2
                have yf2 := N_waefaz.out.frozen 2
                have yl := N_waefaz.out.lt
                simp at y2
                clear hgz
                go_wp2
                clear hwz
                refine ⟨SZ.out, ?_⟩
                refine anyS_end (by kernel_rfl) ?_
                go_wp2_with fail
                go_meet
                case rel => exact ⟨_, DZ.out, NZ.out, FZ.out⟩
            · obtain ⟨waf, hwaf⟩ : ∃ W, wa.alloc (Obj.cells (H2 kx ox) 37) = W := ⟨_, rfl⟩
              obtain ⟨gb, hgb⟩ : ∃ k, wa.heap.size = k := ⟨_, rfl⟩
              have D_waf : Hid (Dn W1 gs gf p q (Value.slice fa fl fc) kx ox fs g cv zs K0 waf) := by rw [← hwaf]; exact D_wa.out.alloc _
              have N_waf : Hid (Blk waf gn (S3 p q (Value.slice fa fl fc)) 35) := by rw [← hwaf]; exact N_wa.out.alloc _
              have B_waf : Hid (Blk waf gb (H2 kx ox) 37 ∧ K0 ≤ gb) := ⟨by rw [← hwaf, ← hgb]; exact Blk.new _ _ _, by rw [← hgb]; exact D_wa.out.k0.2.2.1⟩
              go_wp2
              clear hwaf
              refine ⟨HSI.out _ _ D_waf.out, ?_⟩
              refine anyS_one 0 (by kernel_rfl) rfl ?_
              obtain ⟨wafe, hwafe⟩ : ∃ W, waf.alloc (Obj.cells #[] 37) = W := ⟨_, rfl⟩
              obtain ⟨ga, hga⟩ : ∃ k, waf.heap.size = k := ⟨_, rfl⟩
              have D_wafe : Hid (Dn W1 gs gf p q (Value.slice fa fl fc) kx ox fs g cv zs K0 wafe) := by rw [← hwafe]; exact D_waf.out.alloc _
              have N_wafe : Hid (Blk wafe gn (S3 p q (Value.slice fa fl fc)) 35) := by rw [← hwafe]; exact N_waf.out.alloc _
              have E_wafe : Hid (Op mf mg 37 K0 wafe (.slice (some ⟨ga, 0, none⟩) 0 0) []) := by rw [← hwafe, ← hga]; exact Op.lit0 waf K0 D_waf.out.k0.2.2.1
              have B_wafe : Hid (Blk wafe gb (H2 kx ox) 37 ∧ K0 ≤ gb) := ⟨by rw [← hwafe]; exact B_waf.out.1.alloc _, B_waf.out.2⟩
              have HNE : Hid (ga ≠ gb) := by have := B_waf.out.1.lt; show _ ≠ _; omega
              go_wp2
              clear hwafe
              refine ⟨HSI.out _ _ D_wafe.out, ?_⟩
              refine anyS_one 3 (by kernel_rfl) rfl ?_
              refine appNt rfl _ _ rfl K0 _ [] rfl E_wafe.out _ fs rfl D_wafe.out.of.rd (by have := HFS.out; simp; omega) D_wafe.out.k0.2.2.1 ?_
              intro v' wafea ho hg hob
              have hrow : ∀ k, (Value.slice (some ⟨ga, 0, none⟩) 0 0).ownBlock = some k → K0 ≤ k := fun k e => (World.ownsRow.lt E_wafe.out k e).1
              have D_wafea : Hid (Dn W1 gs gf p q (Value.slice fa fl fc) kx ox fs g cv zs K0 wafea) := D_wafe.out.grown hg hrow
              have N_wafea : Hid (Blk wafea gn (S3 p q (Value.slice fa fl fc)) 35) := N_wafe.out.grown hg (fun e => by have := hrow gn e; have := HGN.out; omega)
              have F_wafea : Hid (Op mf mg 37 K0 wafea v' fs) := by show Op mf mg 37 K0 wafea v' fs; rw [List.nil_append] at ho; exact ho
              have B_wafea : Hid (Blk wafea gb (H2 kx ox) 37 ∧ K0 ≤ gb) := ⟨B_wafe.out.1.grown hg (fun e => by have e2 : (Value.slice (some ⟨ga, 0, none⟩) 0 0).ownBlock = some gb := e; have h1 : ga = gb := (by simpa [Value.ownBlock] using e2); have := HNE.out; omega), B_wafe.out.2⟩
              clear ho hg hob hrow
              refine wpList_nil ?_
              refine ⟨HSI.out _ _ D_wafea.out, ?_⟩
              refine anyS_one 6 (by kernel_rfl) rfl ?_
              refine appNt rfl _ _ rfl K0 _ fs rfl F_wafea.out _ [(kx, ox)] rfl (Rp.one7 B_wafea.out.1) (by have := HFS.out; simp; omega) D_wafea.out.k0.2.2.1 ?_
              intro v2 wafeaz ho hg hob
              have hrow : ∀ k, v'.ownBlock = some k → K0 ≤ k := fun k e => (World.ownsRow.lt F_wafea.out k e).1
              have D_wafeaz : Hid (Dn W1 gs gf p q (Value.slice fa fl fc) kx ox fs g cv zs K0 wafeaz) := D_wafea.out.grown hg hrow
              have N_wafeaz : Hid (Blk wafeaz gn (S3 p q (Value.slice fa fl fc)) 35) := N_wafea.out.grown hg (fun e => by have := hrow gn e; have := HGN.out; omega)
              have F_wafeaz : Hid (Op mf mg 37 K0 wafeaz v2 (fs ++ [(kx, ox)])) := ho
              clear ho hg hob hrow
              refine wpList_nil ?_
              refine ⟨HSI.out _ _ D_wafeaz.out, ?_⟩
              refine anyS_one 7 (by kernel_rfl) rfl ?_
              go_wp2
              refine ⟨HSI.out _ _ D_wafeaz.out, ?_⟩
              refine anyS_one 8 (by kernel_rfl) rfl ?_
              obtain ⟨za, zc, hz2, -⟩ := F_wafeaz.out.rd
              obtain ⟨zl, hzl⟩ : ∃ k, (fs ++ [(kx, ox)]).length = k := ⟨_, rfl⟩
              rw [hzl] at hz2
              clear hzl
              subst hz2
              obtain ⟨wz, hwz⟩ : ∃ W, wafeaz.setCell ⟨gn, 2, none⟩ (.slice za zl zc) = W := ⟨_, rfl⟩
              have hgz : wafeaz.grownBy wz (some gn) := by rw [← hwz]; exact grown_set _ _ _ _
              have DZ : Hid (Dn W1 gs gf p q (Value.slice fa fl fc) kx ox fs g cv zs wz.heap.size wz) := by
                have h := D_wafeaz.out
                have hl := HGN.out
                have hap : (Value.slice fa fl fc).ownBlock = none ∨ (Value.slice fa fl fc).ownBlock ≠ some gn := HAPN.out
                have h2 : Dn W1 gs gf p q (Value.slice fa fl fc) kx ox fs g cv zs K0 wz := ⟨h.ks.grown hgz (fun e => by have := Option.some.inj e; omega), h.kf.grown hgz (fun e => by have := Option.some.inj e; omega), World.ownsRow.kept h.of hgz hap, h.dc.app (fun k e => by have := h.k0.2.2.2; have := Option.some.inj e; omega) hgz, ⟨h.k0.1, h.k0.2.1, Nat.le_trans h.k0.2.2.1 hgz.size, h.k0.2.2.2⟩, h.kv, h.ap⟩
                exact h2.re
              have NZ : Hid (Blk wz gn (S3 p q (.slice za zl zc)) 35) := by rw [← hwz]; exact N_wafeaz.out.set 2 _
              have FZ : Hid (Op mf mg 37 (gs + 1) wz (.slice za zl zc) (fs ++ [(kx, ox)])) := by
                have h2 : Op mf mg 37 K0 wz (.slice za zl zc) (fs ++ [(kx, ox)]) := World.ownsRow.kept F_wafeaz.out hgz (by
                  cases hv : (Value.slice za zl zc).ownBlock with
                  | none => exact .inl rfl
                  | some k => exact .inr (fun e => by have h7 := (World.ownsRow.lt F_wafeaz.out k hv).1; have h8 := HGN.out; have := Option.some.inj e; omega))
                exact h2.mono (by have := D9.out.k0.1; omega)
              have SZ : Hid (S wz) := HSI.out _ _ DZ.out
              have y2 := N_wafeaz.out.cell 2
              have yf2 := N_wafeaz.out.frozen 2
              have yl := N_wafeaz.out.lt
              simp at y2
              clear hgz
              go_wp2
              clear hwz
              refine ⟨SZ.out, ?_⟩
              refine anyS_end (by kernel_rfl) ?_
              go_wp2_with fail
              go_meet
              case rel => exact ⟨_, DZ.out, NZ.out, FZ.out⟩
          case rest =>
          obtain ⟨v2, DZ, NZ, FZ⟩ := hcut
          clear D9 KN9 D8
          obtain ⟨za, zc, hz2, -⟩ := FZ.out.rd
          obtain ⟨zl, hzl⟩ : ∃ k, (fs ++ [(kx, ox)]).length = k := ⟨_, rfl⟩
          rw [hzl] at hz2
          subst hz2
          have HZL : Hid ((fs ++ [(kx, ox)]).length = zl) := hzl
          clear hzl
          have n0 := NZ.out.cell 0
          have n1 := NZ.out.cell 1
          have n2 := NZ.out.cell 2
          have nl := NZ.out.lt
          simp at n0 n1 n2
          go_wp2_with (fail)
          refine (subM_c p q _ (fs ++ [(kx, ox)]) n wc FZ.out.rd (by omega) (by omega)).mono ?_
          rintro e we ⟨r2, rfl, -, be⟩
          clear n0 n1 n2 nl
          have KSe := DZ.out.ks.below be DZ.out.ks.lt
          have NZe := NZ.out.below be NZ.out.lt
          have OFe : Hid (Op mf mg 37 (gs + 1) we (Value.slice fa fl fc) fs) := DZ.out.of.below be
          have OZe : Hid (Op mf mg 37 (gs + 1) we (.slice za zl zc) (fs ++ [(kx, ox)])) := FZ.out.below be
          have DCe : Hid (Dc W1 we g cv zs) := DZ.out.dc.below be
          have HKS : Hid (Blk we gs (S3 p q (Value.slice fa fl fc)) 35) := KSe
          have hmm : 0 < m := by omega
          obtain ⟨m', hm'⟩ : ∃ m', m = m' + 1 := ⟨m - 1, by omega⟩
          have HM : Hid (m = m' + 1) := hm'
          have hmI : (m : Int) - 1 = (m' : Int) := by omega
          clear hm' be
          cases r2
          · clear NZe KSe
            go_wp2
            go_roundw
            case rel => exact ⟨m', _, fs, by first | rfl | rw [hmI], by have := hm.out; have := HM.out; show _ ≤ _; omega, HKS.out, OFe.out, DCe.out⟩
            case measure => have := HM.out; simp [intOf]; omega
          · have s0 := KSe.cell 0
            have s1 := KSe.cell 1
            have s2 := KSe.cell 2
            have sf0 := KSe.frozen 0
            have sf1 := KSe.frozen 1
            have sf2 := KSe.frozen 2
            have sl := KSe.lt
            have n0 := NZe.cell 0
            have n1 := NZe.cell 1
            have n2 := NZe.cell 2
            have nl := NZe.lt
            simp at s0 s1 s2 n0 n1 n2
            obtain ⟨wf, hwf⟩ : ∃ W, ((we.setCell ⟨gs, 0, none⟩ (.bool p)).setCell ⟨gs, 1, none⟩ (.bool q)).setCell ⟨gs, 2, none⟩ (.slice za zl zc) = W := ⟨_, rfl⟩
            have hgz : we.grownBy wf (some gs) := by rw [← hwf]; exact grown_trans (grown_trans (grown_set _ _ _ _) (grown_set _ _ _ _)) (grown_set _ _ _ _)
            have HKZ : Hid (Blk wf gs (S3 p q (.slice za zl zc)) 35) := by rw [← hwf]; exact ((KSe.set 0 _).set 1 _).set 2 _
            have HOZ : Hid (Op mf mg 37 (gs + 1) wf (.slice za zl zc) (fs ++ [(kx, ox)])) := World.ownsRow.kept OZe.out hgz (by
              cases hv : (Value.slice za zl zc).ownBlock with
              | none => exact .inl rfl
              | some k => exact .inr (fun e => by have h7 := (World.ownsRow.lt OZe.out k hv).1; have := Option.some.inj e; omega))
            have HDZ : Hid (Dc W1 wf g cv zs) := DCe.out.app (fun k e => by have h1 := HGS.out; have := Option.some.inj e; omega) hgz
            clear hgz KSe NZe
            go_wp2
            try rw [hwf]
            clear hwf
            go_roundw
            case rel => exact ⟨m', _, fs ++ [(kx, ox)], by first | rfl | rw [hmI], by have := hm.out; have := HM.out; show _ ≤ _; rw [List.length_append]; simp only [List.length_singleton]; omega, HKZ.out, HOZ.out, HDZ.out⟩
            case measure => have := HM.out; simp [intOf]; omega
      · have f0 := D6.out.kf.cell 0
        have fz0 := D6.out.kf.frozen 0
        have fl' := D6.out.kf.lt
        simp at f0
        obtain ⟨w7, hw7⟩ : ∃ W, wc.setCell ⟨gf, 0, none⟩ (.int .i64 6) = W := ⟨_, rfl⟩
        obtain ⟨kx, hkx⟩ : ∃ x : Int, x = 6 := ⟨_, rfl⟩
        have D7 : Hid (Dn W1 gs gf p q (Value.slice fa fl fc) kx 0 fs g cv zs w7.heap.size w7) := by rw [hkx, ← hw7]; exact ((D6.out.store HGF.out).1 6).re
        go_upto_region 12 with fail
        try rw [hw7]
        clear hw7 hkx D6 f0 fz0 fl'
        have f0 := D7.out.kf.cell 0
        have f1 := D7.out.kf.cell 1
        have fz1 := D7.out.kf.frozen 1
        have fl' := D7.out.kf.lt
        simp at f0 f1
        go_wp2_with (fail)
        refine (points_c kx w7).mono ?_
        rintro e wp ⟨rfl, hwp⟩
        rw [hwp]
        clear hwp
        cases hpt : ptB kx with
        | false =>
          obtain ⟨ox, hox⟩ : ∃ x : Int, x = 0 := ⟨_, rfl⟩
          obtain ⟨w8, hw8⟩ : ∃ W, w7 = W := ⟨_, rfl⟩
          have D8 : Hid (Dn W1 gs gf p q (Value.slice fa fl fc) kx ox fs g cv zs w8.heap.size w8) := by rw [hox, ← hw8]; exact D7.out
          rw [hw8]
          clear hpt f0 f1 fz1 fl' hox hw8 D7
          have c0 := D8.out.ks.cell 0
          have c1 := D8.out.ks.cell 1
          have c2 := D8.out.ks.cell 2
          have cl := D8.out.ks.lt
          simp at c0 c1 c2
          obtain ⟨gn, hgn⟩ : ∃ k, w8.heap.size = k := ⟨_, rfl⟩
          obtain ⟨w9, hw9⟩ : ∃ W, w8.alloc (Obj.cells (S3 p q (Value.slice fa fl fc)) 35) = W := ⟨_, rfl⟩
          obtain ⟨K0, hK0⟩ : ∃ k, w9.heap.size = k := ⟨_, rfl⟩
          have D9 : Hid (Dn W1 gs gf p q (Value.slice fa fl fc) kx ox fs g cv zs K0 w9) := by rw [← hK0]; have := D8.out.alloc (Obj.cells (S3 p q (Value.slice fa fl fc)) 35); rw [hw9] at this; exact this.re
          have KN9 : Hid (Blk w9 gn (S3 p q (Value.slice fa fl fc)) 35) := by rw [← hw9, ← hgn]; exact Blk.new _ _ _
          have HGN : Hid (gs < gn ∧ gf < gn ∧ gn < K0) := ⟨by rw [← hgn]; exact D8.out.ks.lt, by rw [← hgn]; exact D8.out.kf.lt, by rw [← hK0]; exact KN9.out.lt⟩
          have HAPN : Hid ((Value.slice fa fl fc).ownBlock = none ∨ (Value.slice fa fl fc).ownBlock ≠ some gn) := by
            cases hv : (Value.slice fa fl fc).ownBlock with
            | none => exact .inl rfl
            | some k => exact .inr (fun e => by have h7 := (World.ownsRow.lt D8.out.of k hv).2; have := Option.some.inj e; omega)
          have HFS : Hid (fs.length ≤ 3) := by have := hm.out; show _ ≤ _; omega
          have HW9 : Hid (w8.alloc (Obj.cells (S3 p q (Value.slice fa fl fc)) 35) = w9 ∧ w8.heap.size = gn) := ⟨hw9, hgn⟩
          clear hw9 hgn hK0
          go_upto_region 15 with fail
          rw [HW9.out.1, HW9.out.2]
          clear HW9 c0 c1 c2 cl
          go_cut [] from 24 to 60 (fun wx => ∃ v2 : Value, Hid (Dn W1 gs gf p q (Value.slice fa fl fc) kx ox fs g cv zs wx.heap.size wx) ∧ Hid (Blk wx gn (S3 p q v2) 35) ∧ Hid (Op mf mg 37 (gs + 1) wx v2 (fs ++ [(kx, ox)])))
          case first =>
            obtain ⟨S, hS⟩ : ∃ S : World → Prop, ∀ W, S W ↔ (Blk W gs (S3 p q (Value.slice fa fl fc)) 35 ∧ Blk W gf (H2 kx ox) 37) := ⟨_, fun _ => Iff.rfl⟩
            have t2 : ∀ W : At S, W.wd.cell? ⟨gs, 2, none⟩ = some (Value.slice fa fl fc) := fun W => by have := ((hS _).1 W.ok).1.cell 2; simpa using this
            have t3 : ∀ W : At S, W.wd.cell? ⟨gf, 0, none⟩ = some (.int .i64 kx) := fun W => by have := ((hS _).1 W.ok).2.cell 0; simpa using this
            have t4 : ∀ W : At S, W.wd.cell? ⟨gf, 1, none⟩ = some (.int .i64 ox) := fun W => by have := ((hS _).1 W.ok).2.cell 1; simpa using this
            have HSI : Hid (∀ W K, Dn W1 gs gf p q (Value.slice fa fl fc) kx ox fs g cv zs K W → S W) := fun W K h => (hS W).2 ⟨h.ks, h.kf⟩
            clear hS
            have DA : Hid (Dn W1 gs gf p q (Value.slice fa fl fc) kx ox fs g cv zs K0 w9.drew) := D9.out.grown (row := none) ⟨rfl, rfl, rfl, Nat.le_refl _, fun _ _ _ => rfl⟩ (fun k e => by cases e)
            have NA : Hid (Blk w9.drew gn (S3 p q (Value.slice fa fl fc)) 35) := KN9.out
            obtain ⟨wa, hwa⟩ : ∃ W, w9.drew = W := ⟨_, rfl⟩
            have ne1 : Nonempty (At S) := ⟨⟨w9.drew, HSI.out _ _ DA.out⟩⟩
            refine region_anyS S (by kernel_rfl) ?_
            refine anyS_quiet [false, true, true, false, true, false, false, false, false] 6 rfl (by kernel_rfl) (fun _ _ _ _ _ h => h) (HSI.out _ _ DA.out) ?_
            simp only [selT]
            repeat (go_big_quiet_step (fail))
            refine wpQuiet_nil ?_
            rw [hwa] at DA NA ⊢
            clear hwa t2 t3 t4 ne1
            have D_wa := DA
            have N_wa := NA
            clear DA NA
            refine anyS_two 0 5 (by kernel_rfl) rfl rfl ?_ ?_
            · obtain ⟨wae, hwae⟩ : ∃ W, wa.alloc (Obj.cells #[] 37) = W := ⟨_, rfl⟩
              obtain ⟨ga, hga⟩ : ∃ k, wa.heap.size = k := ⟨_, rfl⟩
              have D_wae : Hid (Dn W1 gs gf p q (Value.slice fa fl fc) kx ox fs g cv zs K0 wae) := by rw [← hwae]; exact D_wa.out.alloc _
              have N_wae : Hid (Blk wae gn (S3 p q (Value.slice fa fl fc)) 35) := by rw [← hwae]; exact N_wa.out.alloc _
              have E_wae : Hid (Op mf mg 37 K0 wae (.slice (some ⟨ga, 0, none⟩) 0 0) []) := by rw [← hwae, ← hga]; exact Op.lit0 wa K0 D_wa.out.k0.2.2.1
              go_wp2
              clear hwae
              refine ⟨HSI.out _ _ D_wae.out, ?_⟩
              refine anyS_two 3 5 (by kernel_rfl) rfl rfl ?_ ?_
              · refine appNt rfl _ _ rfl K0 _ [] rfl E_wae.out _ fs rfl D_wae.out.of.rd (by have := HFS.out; simp; omega) D_wae.out.k0.2.2.1 ?_
                intro v' waea ho hg hob
                have hrow : ∀ k, (Value.slice (some ⟨ga, 0, none⟩) 0 0).ownBlock = some k → K0 ≤ k := fun k e => (World.ownsRow.lt E_wae.out k e).1
                have D_waea : Hid (Dn W1 gs gf p q (Value.slice fa fl fc) kx ox fs g cv zs K0 waea) := D_wae.out.grown hg hrow
                have N_waea : Hid (Blk waea gn (S3 p q (Value.slice fa fl fc)) 35) := N_wae.out.grown hg (fun e => by have := hrow gn e; have := HGN.out; omega)
                have F_waea : Hid (Op mf mg 37 K0 waea v' fs) := by show Op mf mg 37 K0 waea v' fs; rw [List.nil_append] at ho; exact ho
                clear ho hg hob hrow
                refine wpList_nil ?_
                refine ⟨HSI.out _ _ D_waea.out, ?_⟩
                refine anyS_one 5 (by kernel_rfl) rfl ?_
                obtain ⟨waeaf, hwaeaf⟩ : ∃ W, waea.alloc (Obj.cells (H2 kx ox) 37) = W := ⟨_, rfl⟩
                obtain ⟨gb, hgb⟩ : ∃ k, waea.heap.size = k := ⟨_, rfl⟩
                have D_waeaf : Hid (Dn W1 gs gf p q (Value.slice fa fl fc) kx ox fs g cv zs K0 waeaf) := by rw [← hwaeaf]; exact D_waea.out.alloc _
                have N_waeaf : Hid (Blk waeaf gn (S3 p q (Value.slice fa fl fc)) 35) := by rw [← hwaeaf]; exact N_waea.out.alloc _
                have B_waeaf : Hid (Blk waeaf gb (H2 kx ox) 37 ∧ K0 ≤ gb) := ⟨by rw [← hwaeaf, ← hgb]; exact Blk.new _ _ _, by rw [← hgb]; exact D_waea.out.k0.2.2.1⟩
                have F_waeaf : Hid (Op mf mg 37 K0 waeaf v' fs) := by rw [← hwaeaf]; exact World.ownsRow.alloc F_waea.out _
                go_wp2
                clear hwaeaf
                refine ⟨HSI.out _ _ D_waeaf.out, ?_⟩
                refine anyS_one 6 (by kernel_rfl) rfl ?_
                refine appNt rfl _ _ rfl K0 _ fs rfl F_waeaf.out _ [(kx, ox)] rfl (Rp.one7 B_waeaf.out.1) (by have := HFS.out; simp; omega) D_waeaf.out.k0.2.2.1 ?_
                intro v2 waeafz ho hg hob
                have hrow : ∀ k, v'.ownBlock = some k → K0 ≤ k := fun k e => (World.ownsRow.lt F_waeaf.out k e).1
                have D_waeafz : Hid (Dn W1 gs gf p q (Value.slice fa fl fc) kx ox fs g cv zs K0 waeafz) := D_waeaf.out.grown hg hrow
                have N_waeafz : Hid (Blk waeafz gn (S3 p q (Value.slice fa fl fc)) 35) := N_waeaf.out.grown hg (fun e => by have := hrow gn e; have := HGN.out; omega)
                have F_waeafz : Hid (Op mf mg 37 K0 waeafz v2 (fs ++ [(kx, ox)])) := ho
                clear ho hg hob hrow
                refine wpList_nil ?_
                refine ⟨HSI.out _ _ D_waeafz.out, ?_⟩
                refine anyS_one 7 (by kernel_rfl) rfl ?_
                go_wp2
                refine ⟨HSI.out _ _ D_waeafz.out, ?_⟩
                refine anyS_one 8 (by kernel_rfl) rfl ?_
                obtain ⟨za, zc, hz2, -⟩ := F_waeafz.out.rd
                obtain ⟨zl, hzl⟩ : ∃ k, (fs ++ [(kx, ox)]).length = k := ⟨_, rfl⟩
                rw [hzl] at hz2
                clear hzl
                subst hz2
                obtain ⟨wz, hwz⟩ : ∃ W, waeafz.setCell ⟨gn, 2, none⟩ (.slice za zl zc) = W := ⟨_, rfl⟩
                have hgz : waeafz.grownBy wz (some gn) := by rw [← hwz]; exact grown_set _ _ _ _
                have DZ : Hid (Dn W1 gs gf p q (Value.slice fa fl fc) kx ox fs g cv zs wz.heap.size wz) := by
                  have h := D_waeafz.out
                  have hl := HGN.out
                  have hap : (Value.slice fa fl fc).ownBlock = none ∨ (Value.slice fa fl fc).ownBlock ≠ some gn := HAPN.out
                  have h2 : Dn W1 gs gf p q (Value.slice fa fl fc) kx ox fs g cv zs K0 wz := ⟨h.ks.grown hgz (fun e => by have := Option.some.inj e; omega), h.kf.grown hgz (fun e => by have := Option.some.inj e; omega), World.ownsRow.kept h.of hgz hap, h.dc.app (fun k e => by have := h.k0.2.2.2; have := Option.some.inj e; omega) hgz, ⟨h.k0.1, h.k0.2.1, Nat.le_trans h.k0.2.2.1 hgz.size, h.k0.2.2.2⟩, h.kv, h.ap⟩
                  exact h2.re
                have NZ : Hid (Blk wz gn (S3 p q (.slice za zl zc)) 35) := by rw [← hwz]; exact N_waeafz.out.set 2 _
                have FZ : Hid (Op mf mg 37 (gs + 1) wz (.slice za zl zc) (fs ++ [(kx, ox)])) := by
                  have h2 : Op mf mg 37 K0 wz (.slice za zl zc) (fs ++ [(kx, ox)]) := World.ownsRow.kept F_waeafz.out hgz (by
                    cases hv : (Value.slice za zl zc).ownBlock with
                    | none => exact .inl rfl
                    | some k => exact .inr (fun e => by have h7 := (World.ownsRow.lt F_waeafz.out k hv).1; have h8 := HGN.out; have := Option.some.inj e; omega))
                  exact h2.mono (by have := D9.out.k0.1; omega)
                have SZ : Hid (S wz) := HSI.out _ _ DZ.out
                have y2 := N_waeafz.out.cell 2
                have yf2 := N_waeafz.out.frozen 2
                have yl := N_waeafz.out.lt
                simp at y2
                clear hgz
                go_wp2
                clear hwz
                refine ⟨SZ.out, ?_⟩
                refine anyS_end (by kernel_rfl) ?_
                go_wp2_with fail
                go_meet
                case rel => exact ⟨_, DZ.out, NZ.out, FZ.out⟩
              · obtain ⟨waef, hwaef⟩ : ∃ W, wae.alloc (Obj.cells (H2 kx ox) 37) = W := ⟨_, rfl⟩
                obtain ⟨gb, hgb⟩ : ∃ k, wae.heap.size = k := ⟨_, rfl⟩
                have D_waef : Hid (Dn W1 gs gf p q (Value.slice fa fl fc) kx ox fs g cv zs K0 waef) := by rw [← hwaef]; exact D_wae.out.alloc _
                have N_waef : Hid (Blk waef gn (S3 p q (Value.slice fa fl fc)) 35) := by rw [← hwaef]; exact N_wae.out.alloc _
                have B_waef : Hid (Blk waef gb (H2 kx ox) 37 ∧ K0 ≤ gb) := ⟨by rw [← hwaef, ← hgb]; exact Blk.new _ _ _, by rw [← hgb]; exact D_wae.out.k0.2.2.1⟩
                have E_waef : Hid (Op mf mg 37 K0 waef (.slice (some ⟨ga, 0, none⟩) 0 0) []) := by rw [← hwaef]; exact World.ownsRow.alloc E_wae.out _
                have HNE : Hid (ga ≠ gb) := by have := (World.ownsRow.lt E_wae.out ga rfl).2; show _ ≠ _; omega
                go_wp2
                clear hwaef
                refine ⟨HSI.out _ _ D_waef.out, ?_⟩
                refine anyS_one 3 (by kernel_rfl) rfl ?_
                refine appNt rfl _ _ rfl K0 _ [] rfl E_waef.out _ fs rfl D_waef.out.of.rd (by have := HFS.out; simp; omega) D_waef.out.k0.2.2.1 ?_
                intro v' waefa ho hg hob
                have hrow : ∀ k, (Value.slice (some ⟨ga, 0, none⟩) 0 0).ownBlock = some k → K0 ≤ k := fun k e => (World.ownsRow.lt E_waef.out k e).1
                have D_waefa : Hid (Dn W1 gs gf p q (Value.slice fa fl fc) kx ox fs g cv zs K0 waefa) := D_waef.out.grown hg hrow
                have N_waefa : Hid (Blk waefa gn (S3 p q (Value.slice fa fl fc)) 35) := N_waef.out.grown hg (fun e => by have := hrow gn e; have := HGN.out; omega)
                have F_waefa : Hid (Op mf mg 37 K0 waefa v' fs) := by show Op mf mg 37 K0 waefa v' fs; rw [List.nil_append] at ho; exact ho
                have B_waefa : Hid (Blk waefa gb (H2 kx ox) 37 ∧ K0 ≤ gb) := ⟨B_waef.out.1.grown hg (fun e => by have e2 : (Value.slice (some ⟨ga, 0, none⟩) 0 0).ownBlock = some gb := e; have h1 : ga = gb := (by simpa [Value.ownBlock] using e2); have := HNE.out; omega), B_waef.out.2⟩
                clear ho hg hob hrow
                refine wpList_nil ?_
                refine ⟨HSI.out _ _ D_waefa.out, ?_⟩
                refine anyS_one 6 (by kernel_rfl) rfl ?_
                refine appNt rfl _ _ rfl K0 _ fs rfl F_waefa.out _ [(kx, ox)] rfl (Rp.one7 B_waefa.out.1) (by have := HFS.out; simp; omega) D_waefa.out.k0.2.2.1 ?_
                intro v2 waefaz ho hg hob
                have hrow : ∀ k, v'.ownBlock = some k → K0 ≤ k := fun k e => (World.ownsRow.lt F_waefa.out k e).1
                have D_waefaz : Hid (Dn W1 gs gf p q (Value.slice fa fl fc) kx ox fs g cv zs K0 waefaz) := D_waefa.out.grown hg hrow
                have N_waefaz : Hid (Blk waefaz gn (S3 p q (Value.slice fa fl fc)) 35) := N_waefa.out.grown hg (fun e => by have := hrow gn e; have := HGN.out; omega)
                have F_waefaz : Hid (Op mf mg 37 K0 waefaz v2 (fs ++ [(kx, ox)])) := ho
                clear ho hg hob hrow
                refine wpList_nil ?_
                refine ⟨HSI.out _ _ D_waefaz.out, ?_⟩
                refine anyS_one 7 (by kernel_rfl) rfl ?_
                go_wp2
                refine ⟨HSI.out _ _ D_waefaz.out, ?_⟩
                refine anyS_one 8 (by kernel_rfl) rfl ?_
                obtain ⟨za, zc, hz2, -⟩ := F_waefaz.out.rd
                obtain ⟨zl, hzl⟩ : ∃ k, (fs ++ [(kx, ox)]).length = k := ⟨_, rfl⟩
                rw [hzl] at hz2
                clear hzl
                subst hz2
                obtain ⟨wz, hwz⟩ : ∃ W, waefaz.setCell ⟨gn, 2, none⟩ (.slice za zl zc) = W := ⟨_, rfl⟩
                have hgz : waefaz.grownBy wz (some gn) := by rw [← hwz]; exact grown_set _ _ _ _
                have DZ : Hid (Dn W1 gs gf p q (Value.slice fa fl fc) kx ox fs g cv zs wz.heap.size wz) := by
                  have h := D_waefaz.out
                  have hl := HGN.out
                  have hap : (Value.slice fa fl fc).ownBlock = none ∨ (Value.slice fa fl fc).ownBlock ≠ some gn := HAPN.out
                  have h2 : Dn W1 gs gf p q (Value.slice fa fl fc) kx ox fs g cv zs K0 wz := ⟨h.ks.grown hgz (fun e => by have := Option.some.inj e; omega), h.kf.grown hgz (fun e => by have := Option.some.inj e; omega), World.ownsRow.kept h.of hgz hap, h.dc.app (fun k e => by have := h.k0.2.2.2; have := Option.some.inj e; omega) hgz, ⟨h.k0.1, h.k0.2.1, Nat.le_trans h.k0.2.2.1 hgz.size, h.k0.2.2.2⟩, h.kv, h.ap⟩
                  exact h2.re
                have NZ : Hid (Blk wz gn (S3 p q (.slice za zl zc)) 35) := by rw [← hwz]; exact N_waefaz.out.set 2 _
                have FZ : Hid (Op mf mg 37 (gs + 1) wz (.slice za zl zc) (fs ++ [(kx, ox)])) := by
                  have h2 : Op mf mg 37 K0 wz (.slice za zl zc) (fs ++ [(kx, ox)]) := World.ownsRow.kept F_waefaz.out hgz (by
                    cases hv : (Value.slice za zl zc).ownBlock with
                    | none => exact .inl rfl
                    | some k => exact .inr (fun e => by have h7 := (World.ownsRow.lt F_waefaz.out k hv).1; have h8 := HGN.out; have := Option.some.inj e; omega))
                  exact h2.mono (by have := D9.out.k0.1; omega)
                have SZ : Hid (S wz) := HSI.out _ _ DZ.out
                have y2 := N_waefaz.out.cell 2
                have yf2 := N_waefaz.out.frozen 2
                have yl := N_waefaz.out.lt
                simp at y2
                clear hgz
                go_wp2
                clear hwz
                refine ⟨SZ.out, ?_⟩
                refine anyS_end (by kernel_rfl) ?_
                go_wp2_with fail
                go_meet
                case rel => exact ⟨_, DZ.out, NZ.out, FZ.out⟩
            · obtain ⟨waf, hwaf⟩ : ∃ W, wa.alloc (Obj.cells (H2 kx ox) 37) = W := ⟨_, rfl⟩
              obtain ⟨gb, hgb⟩ : ∃ k, wa.heap.size = k := ⟨_, rfl⟩
              have D_waf : Hid (Dn W1 gs gf p q (Value.slice fa fl fc) kx ox fs g cv zs K0 waf) := by rw [← hwaf]; exact D_wa.out.alloc _
              have N_waf : Hid (Blk waf gn (S3 p q (Value.slice fa fl fc)) 35) := by rw [← hwaf]; exact N_wa.out.alloc _
              have B_waf : Hid (Blk waf gb (H2 kx ox) 37 ∧ K0 ≤ gb) := ⟨by rw [← hwaf, ← hgb]; exact Blk.new _ _ _, by rw [← hgb]; exact D_wa.out.k0.2.2.1⟩
              go_wp2
              clear hwaf
              refine ⟨HSI.out _ _ D_waf.out, ?_⟩
              refine anyS_one 0 (by kernel_rfl) rfl ?_
              obtain ⟨wafe, hwafe⟩ : ∃ W, waf.alloc (Obj.cells #[] 37) = W := ⟨_, rfl⟩
              obtain ⟨ga, hga⟩ : ∃ k, waf.heap.size = k := ⟨_, rfl⟩
              have D_wafe : Hid (Dn W1 gs gf p q (Value.slice fa fl fc) kx ox fs g cv zs K0 wafe) := by rw [← hwafe]; exact D_waf.out.alloc _
              have N_wafe : Hid (Blk wafe gn (S3 p q (Value.slice fa fl fc)) 35) := by rw [← hwafe]; exact N_waf.out.alloc _
              have E_wafe : Hid (Op mf mg 37 K0 wafe (.slice (some ⟨ga, 0, none⟩) 0 0) []) := by rw [← hwafe, ← hga]; exact Op.lit0 waf K0 D_waf.out.k0.2.2.1
              have B_wafe : Hid (Blk wafe gb (H2 kx ox) 37 ∧ K0 ≤ gb) := ⟨by rw [← hwafe]; exact B_waf.out.1.alloc _, B_waf.out.2⟩
              have HNE : Hid (ga ≠ gb) := by have := B_waf.out.1.lt; show _ ≠ _; omega
              go_wp2
              clear hwafe
              refine ⟨HSI.out _ _ D_wafe.out, ?_⟩
              refine anyS_one 3 (by kernel_rfl) rfl ?_
              refine appNt rfl _ _ rfl K0 _ [] rfl E_wafe.out _ fs rfl D_wafe.out.of.rd (by have := HFS.out; simp; omega) D_wafe.out.k0.2.2.1 ?_
              intro v' wafea ho hg hob
              have hrow : ∀ k, (Value.slice (some ⟨ga, 0, none⟩) 0 0).ownBlock = some k → K0 ≤ k := fun k e => (World.ownsRow.lt E_wafe.out k e).1
              have D_wafea : Hid (Dn W1 gs gf p q (Value.slice fa fl fc) kx ox fs g cv zs K0 wafea) := D_wafe.out.grown hg hrow
              have N_wafea : Hid (Blk wafea gn (S3 p q (Value.slice fa fl fc)) 35) := N_wafe.out.grown hg (fun e => by have := hrow gn e; have := HGN.out; omega)
              have F_wafea : Hid (Op mf mg 37 K0 wafea v' fs) := by show Op mf mg 37 K0 wafea v' fs; rw [List.nil_append] at ho; exact ho
              have B_wafea : Hid (Blk wafea gb (H2 kx ox) 37 ∧ K0 ≤ gb) := ⟨B_wafe.out.1.grown hg (fun e => by have e2 : (Value.slice (some ⟨ga, 0, none⟩) 0 0).ownBlock = some gb := e; have h1 : ga = gb := (by simpa [Value.ownBlock] using e2); have := HNE.out; omega), B_wafe.out.2⟩
              clear ho hg hob hrow
              refine wpList_nil ?_
              refine ⟨HSI.out _ _ D_wafea.out, ?_⟩
              refine anyS_one 6 (by kernel_rfl) rfl ?_
              refine appNt rfl _ _ rfl K0 _ fs rfl F_wafea.out _ [(kx, ox)] rfl (Rp.one7 B_wafea.out.1) (by have := HFS.out; simp; omega) D_wafea.out.k0.2.2.1 ?_
              intro v2 wafeaz ho hg hob
              have hrow : ∀ k, v'.ownBlock = some k → K0 ≤ k := fun k e => (World.ownsRow.lt F_wafea.out k e).1
              have D_wafeaz : Hid (Dn W1 gs gf p q (Value.slice fa fl fc) kx ox fs g cv zs K0 wafeaz) := D_wafea.out.grown hg hrow
              have N_wafeaz : Hid (Blk wafeaz gn (S3 p q (Value.slice fa fl fc)) 35) := N_wafea.out.grown hg (fun e => by have := hrow gn e; have := HGN.out; omega)
              have F_wafeaz : Hid (Op mf mg 37 K0 wafeaz v2 (fs ++ [(kx, ox)])) := ho
              clear ho hg hob hrow
              refine wpList_nil ?_
              refine ⟨HSI.out _ _ D_wafeaz.out, ?_⟩
              refine anyS_one 7 (by kernel_rfl) rfl ?_
              go_wp2
              refine ⟨HSI.out _ _ D_wafeaz.out, ?_⟩
              refine anyS_one 8 (by kernel_rfl) rfl ?_
              obtain ⟨za, zc, hz2, -⟩ := F_wafeaz.out.rd
              obtain ⟨zl, hzl⟩ : ∃ k, (fs ++ [(kx, ox)]).length = k := ⟨_, rfl⟩
              rw [hzl] at hz2
              clear hzl
              subst hz2
              obtain ⟨wz, hwz⟩ : ∃ W, wafeaz.setCell ⟨gn, 2, none⟩ (.slice za zl zc) = W := ⟨_, rfl⟩
              have hgz : wafeaz.grownBy wz (some gn) := by rw [← hwz]; exact grown_set _ _ _ _
              have DZ : Hid (Dn W1 gs gf p q (Value.slice fa fl fc) kx ox fs g cv zs wz.heap.size wz) := by
                have h := D_wafeaz.out
                have hl := HGN.out
                have hap : (Value.slice fa fl fc).ownBlock = none ∨ (Value.slice fa fl fc).ownBlock ≠ some gn := HAPN.out
                have h2 : Dn W1 gs gf p q (Value.slice fa fl fc) kx ox fs g cv zs K0 wz := ⟨h.ks.grown hgz (fun e => by have := Option.some.inj e; omega), h.kf.grown hgz (fun e => by have := Option.some.inj e; omega), World.ownsRow.kept h.of hgz hap, h.dc.app (fun k e => by have := h.k0.2.2.2; have := Option.some.inj e; omega) hgz, ⟨h.k0.1, h.k0.2.1, Nat.le_trans h.k0.2.2.1 hgz.size, h.k0.2.2.2⟩, h.kv, h.ap⟩
                exact h2.re
              have NZ : Hid (Blk wz gn (S3 p q (.slice za zl zc)) 35) := by rw [← hwz]; exact N_wafeaz.out.set 2 _
              have FZ : Hid (Op mf mg 37 (gs + 1) wz (.slice za zl zc) (fs ++ [(kx, ox)])) := by
                have h2 : Op mf mg 37 K0 wz (.slice za zl zc) (fs ++ [(kx, ox)]) := World.ownsRow.kept F_wafeaz.out hgz (by
                  cases hv : (Value.slice za zl zc).ownBlock with
                  | none => exact .inl rfl
                  | some k => exact .inr (fun e => by have h7 := (World.ownsRow.lt F_wafeaz.out k hv).1; have h8 := HGN.out; have := Option.some.inj e; omega))
                exact h2.mono (by have := D9.out.k0.1; omega)
              have SZ : Hid (S wz) := HSI.out _ _ DZ.out
              have y2 := N_wafeaz.out.cell 2
              have yf2 := N_wafeaz.out.frozen 2
              have yl := N_wafeaz.out.lt
              simp at y2
              clear hgz
              go_wp2
              clear hwz
              refine ⟨SZ.out, ?_⟩
              refine anyS_end (by kernel_rfl) ?_
              go_wp2_with fail
              go_meet
              case rel => exact ⟨_, DZ.out, NZ.out, FZ.out⟩
          case rest =>
          obtain ⟨v2, DZ, NZ, FZ⟩ := hcut
          clear D9 KN9 D8
          obtain ⟨za, zc, hz2, -⟩ := FZ.out.rd
          obtain ⟨zl, hzl⟩ : ∃ k, (fs ++ [(kx, ox)]).length = k := ⟨_, rfl⟩
          rw [hzl] at hz2
          subst hz2
          have HZL : Hid ((fs ++ [(kx, ox)]).length = zl) := hzl
          clear hzl
          have n0 := NZ.out.cell 0
          have n1 := NZ.out.cell 1
          have n2 := NZ.out.cell 2
          have nl := NZ.out.lt
          simp at n0 n1 n2
          go_wp2_with (fail)
          refine (subM_c p q _ (fs ++ [(kx, ox)]) n wc FZ.out.rd (by omega) (by omega)).mono ?_
          rintro e we ⟨r2, rfl, -, be⟩
          clear n0 n1 n2 nl
          have KSe := DZ.out.ks.below be DZ.out.ks.lt
          have NZe := NZ.out.below be NZ.out.lt
          have OFe : Hid (Op mf mg 37 (gs + 1) we (Value.slice fa fl fc) fs) := DZ.out.of.below be
          have OZe : Hid (Op mf mg 37 (gs + 1) we (.slice za zl zc) (fs ++ [(kx, ox)])) := FZ.out.below be
          have DCe : Hid (Dc W1 we g cv zs) := DZ.out.dc.below be
          have HKS : Hid (Blk we gs (S3 p q (Value.slice fa fl fc)) 35) := KSe
          have hmm : 0 < m := by omega
          obtain ⟨m', hm'⟩ : ∃ m', m = m' + 1 := ⟨m - 1, by omega⟩
          have HM : Hid (m = m' + 1) := hm'
          have hmI : (m : Int) - 1 = (m' : Int) := by omega
          clear hm' be
          cases r2
          · clear NZe KSe
            go_wp2
            go_roundw
            case rel => exact ⟨m', _, fs, by first | rfl | rw [hmI], by have := hm.out; have := HM.out; show _ ≤ _; omega, HKS.out, OFe.out, DCe.out⟩
            case measure => have := HM.out; simp [intOf]; omega
          · have s0 := KSe.cell 0
            have s1 := KSe.cell 1
            have s2 := KSe.cell 2
            have sf0 := KSe.frozen 0
            have sf1 := KSe.frozen 1
            have sf2 := KSe.frozen 2
            have sl := KSe.lt
            have n0 := NZe.cell 0
            have n1 := NZe.cell 1
            have n2 := NZe.cell 2
            have nl := NZe.lt
            simp at s0 s1 s2 n0 n1 n2
            obtain ⟨wf, hwf⟩ : ∃ W, ((we.setCell ⟨gs, 0, none⟩ (.bool p)).setCell ⟨gs, 1, none⟩ (.bool q)).setCell ⟨gs, 2, none⟩ (.slice za zl zc) = W := ⟨_, rfl⟩
            have hgz : we.grownBy wf (some gs) := by rw [← hwf]; exact grown_trans (grown_trans (grown_set _ _ _ _) (grown_set _ _ _ _)) (grown_set _ _ _ _)
            have HKZ : Hid (Blk wf gs (S3 p q (.slice za zl zc)) 35) := by rw [← hwf]; exact ((KSe.set 0 _).set 1 _).set 2 _
            have HOZ : Hid (Op mf mg 37 (gs + 1) wf (.slice za zl zc) (fs ++ [(kx, ox)])) := World.ownsRow.kept OZe.out hgz (by
              cases hv : (Value.slice za zl zc).ownBlock with
              | none => exact .inl rfl
              | some k => exact .inr (fun e => by have h7 := (World.ownsRow.lt OZe.out k hv).1; have := Option.some.inj e; omega))
            have HDZ : Hid (Dc W1 wf g cv zs) := DCe.out.app (fun k e => by have h1 := HGS.out; have := Option.some.inj e; omega) hgz
            clear hgz KSe NZe
            go_wp2
            try rw [hwf]
            clear hwf
            go_roundw
            case rel => exact ⟨m', _, fs ++ [(kx, ox)], by first | rfl | rw [hmI], by have := hm.out; have := HM.out; show _ ≤ _; rw [List.length_append]; simp only [List.length_singleton]; omega, HKZ.out, HOZ.out, HDZ.out⟩
            case measure => have := HM.out; simp [intOf]; omega
        | true =>
          clear hpt
          go_wp2_with (fail)
          refine (below_c _ _ _ _ _ D7.out.dc.dr (by omega)).mono ?_
          rintro e wo ⟨ox, rfl, -, -, -, d1, g1⟩
          have Do : Hid (Dn W1 gs gf p q (Value.slice fa fl fc) kx 0 fs g cv zs wo.heap.size wo) := (D7.out.draw d1 g1 HGF.out).re
          clear d1 g1 f0 f1 fz1 fl' D7
          have f0 := Do.out.kf.cell 0
          have f1 := Do.out.kf.cell 1
          have fz1 := Do.out.kf.frozen 1
          have fl' := Do.out.kf.lt
          simp at f0 f1
          obtain ⟨w8, hw8⟩ : ∃ W, wo.setCell ⟨gf, 1, none⟩ (.int .i64 ox) = W := ⟨_, rfl⟩
          have D8 : Hid (Dn W1 gs gf p q (Value.slice fa fl fc) kx ox fs g cv zs w8.heap.size w8) := by rw [← hw8]; exact ((Do.out.store HGF.out).2 ox).re
          go_upto_region 14 with fail
          try rw [hw8]
          clear hw8 f0 f1 fz1 fl' Do
          have c0 := D8.out.ks.cell 0
          have c1 := D8.out.ks.cell 1
          have c2 := D8.out.ks.cell 2
          have cl := D8.out.ks.lt
          simp at c0 c1 c2
          obtain ⟨gn, hgn⟩ : ∃ k, w8.heap.size = k := ⟨_, rfl⟩
          obtain ⟨w9, hw9⟩ : ∃ W, w8.alloc (Obj.cells (S3 p q (Value.slice fa fl fc)) 35) = W := ⟨_, rfl⟩
          obtain ⟨K0, hK0⟩ : ∃ k, w9.heap.size = k := ⟨_, rfl⟩
          have D9 : Hid (Dn W1 gs gf p q (Value.slice fa fl fc) kx ox fs g cv zs K0 w9) := by rw [← hK0]; have := D8.out.alloc (Obj.cells (S3 p q (Value.slice fa fl fc)) 35); rw [hw9] at this; exact this.re
          have KN9 : Hid (Blk w9 gn (S3 p q (Value.slice fa fl fc)) 35) := by rw [← hw9, ← hgn]; exact Blk.new _ _ _
          have HGN : Hid (gs < gn ∧ gf < gn ∧ gn < K0) := ⟨by rw [← hgn]; exact D8.out.ks.lt, by rw [← hgn]; exact D8.out.kf.lt, by rw [← hK0]; exact KN9.out.lt⟩
          have HAPN : Hid ((Value.slice fa fl fc).ownBlock = none ∨ (Value.slice fa fl fc).ownBlock ≠ some gn) := by
            cases hv : (Value.slice fa fl fc).ownBlock with
            | none => exact .inl rfl
            | some k => exact .inr (fun e => by have h7 := (World.ownsRow.lt D8.out.of k hv).2; have := Option.some.inj e; omega)
          have HFS : Hid (fs.length ≤ 3) := by have := hm.out; show _ ≤ _; omega
          have HW9 : Hid (w8.alloc (Obj.cells (S3 p q (Value.slice fa fl fc)) 35) = w9 ∧ w8.heap.size = gn) := ⟨hw9, hgn⟩
          clear hw9 hgn hK0
          go_upto_region 15 with fail
          rw [HW9.out.1, HW9.out.2]
          clear HW9 c0 c1 c2 cl
          go_cut [] from 24 to 60 (fun wx => ∃ v2 : Value, Hid (Dn W1 gs gf p q (Value.slice fa fl fc) kx ox fs g cv zs wx.heap.size wx) ∧ Hid (Blk wx gn (S3 p q v2) 35) ∧ Hid (Op mf mg 37 (gs + 1) wx v2 (fs ++ [(kx, ox)])))
          case first =>
            obtain ⟨S, hS⟩ : ∃ S : World → Prop, ∀ W, S W ↔ (Blk W gs (S3 p q (Value.slice fa fl fc)) 35 ∧ Blk W gf (H2 kx ox) 37) := ⟨_, fun _ => Iff.rfl⟩
            have t2 : ∀ W : At S, W.wd.cell? ⟨gs, 2, none⟩ = some (Value.slice fa fl fc) := fun W => by have := ((hS _).1 W.ok).1.cell 2; simpa using this
            have t3 : ∀ W : At S, W.wd.cell? ⟨gf, 0, none⟩ = some (.int .i64 kx) := fun W => by have := ((hS _).1 W.ok).2.cell 0; simpa using this
            have t4 : ∀ W : At S, W.wd.cell? ⟨gf, 1, none⟩ = some (.int .i64 ox) := fun W => by have := ((hS _).1 W.ok).2.cell 1; simpa using this
            have HSI : Hid (∀ W K, Dn W1 gs gf p q (Value.slice fa fl fc) kx ox fs g cv zs K W → S W) := fun W K h => (hS W).2 ⟨h.ks, h.kf⟩
            clear hS
            have DA : Hid (Dn W1 gs gf p q (Value.slice fa fl fc) kx ox fs g cv zs K0 w9.drew) := D9.out.grown (row := none) ⟨rfl, rfl, rfl, Nat.le_refl _, fun _ _ _ => rfl⟩ (fun k e => by cases e)
            have NA : Hid (Blk w9.drew gn (S3 p q (Value.slice fa fl fc)) 35) := KN9.out
            obtain ⟨wa, hwa⟩ : ∃ W, w9.drew = W := ⟨_, rfl⟩
            have ne1 : Nonempty (At S) := ⟨⟨w9.drew, HSI.out _ _ DA.out⟩⟩
            refine region_anyS S (by kernel_rfl) ?_
            refine anyS_quiet [false, true, true, false, true, false, false, false, false] 6 rfl (by kernel_rfl) (fun _ _ _ _ _ h => h) (HSI.out _ _ DA.out) ?_
            simp only [selT]
            repeat (go_big_quiet_step (fail))
            refine wpQuiet_nil ?_
            rw [hwa] at DA NA ⊢
            clear hwa t2 t3 t4 ne1
            have D_wa := DA
            have N_wa := NA
            clear DA NA
            refine anyS_two 0 5 (by kernel_rfl) rfl rfl ?_ ?_
            · obtain ⟨wae, hwae⟩ : ∃ W, wa.alloc (Obj.cells #[] 37) = W := ⟨_, rfl⟩
              obtain ⟨ga, hga⟩ : ∃ k, wa.heap.size = k := ⟨_, rfl⟩
              have D_wae : Hid (Dn W1 gs gf p q (Value.slice fa fl fc) kx ox fs g cv zs K0 wae) := by rw [← hwae]; exact D_wa.out.alloc _
              have N_wae : Hid (Blk wae gn (S3 p q (Value.slice fa fl fc)) 35) := by rw [← hwae]; exact N_wa.out.alloc _
              have E_wae : Hid (Op mf mg 37 K0 wae (.slice (some ⟨ga, 0, none⟩) 0 0) []) := by rw [← hwae, ← hga]; exact Op.lit0 wa K0 D_wa.out.k0.2.2.1
              go_wp2
              clear hwae
              refine ⟨HSI.out _ _ D_wae.out, ?_⟩
              refine anyS_two 3 5 (by kernel_rfl) rfl rfl ?_ ?_
              · refine appNt rfl _ _ rfl K0 _ [] rfl E_wae.out _ fs rfl D_wae.out.of.rd (by have := HFS.out; simp; omega) D_wae.out.k0.2.2.1 ?_
                intro v' waea ho hg hob
                have hrow : ∀ k, (Value.slice (some ⟨ga, 0, none⟩) 0 0).ownBlock = some k → K0 ≤ k := fun k e => (World.ownsRow.lt E_wae.out k e).1
                have D_waea : Hid (Dn W1 gs gf p q (Value.slice fa fl fc) kx ox fs g cv zs K0 waea) := D_wae.out.grown hg hrow
                have N_waea : Hid (Blk waea gn (S3 p q (Value.slice fa fl fc)) 35) := N_wae.out.grown hg (fun e => by have := hrow gn e; have := HGN.out; omega)
                have F_waea : Hid (Op mf mg 37 K0 waea v' fs) := by show Op mf mg 37 K0 waea v' fs; rw [List.nil_append] at ho; exact ho
                clear ho hg hob hrow
                refine wpList_nil ?_
                refine ⟨HSI.out _ _ D_waea.out, ?_⟩
                refine anyS_one 5 (by kernel_rfl) rfl ?_
                obtain ⟨waeaf, hwaeaf⟩ : ∃ W, waea.alloc (Obj.cells (H2 kx ox) 37) = W := ⟨_, rfl⟩
                obtain ⟨gb, hgb⟩ : ∃ k, waea.heap.size = k := ⟨_, rfl⟩
                have D_waeaf : Hid (Dn W1 gs gf p q (Value.slice fa fl fc) kx ox fs g cv zs K0 waeaf) := by rw [← hwaeaf]; exact D_waea.out.alloc _
                have N_waeaf : Hid (Blk waeaf gn (S3 p q (Value.slice fa fl fc)) 35) := by rw [← hwaeaf]; exact N_waea.out.alloc _
                have B_waeaf : Hid (Blk waeaf gb (H2 kx ox) 37 ∧ K0 ≤ gb) := ⟨by rw [← hwaeaf, ← hgb]; exact Blk.new _ _ _, by rw [← hgb]; exact D_waea.out.k0.2.2.1⟩
                have F_waeaf : Hid (Op mf mg 37 K0 waeaf v' fs) := by rw [← hwaeaf]; exact World.ownsRow.alloc F_waea.out _
                go_wp2
                clear hwaeaf
                refine ⟨HSI.out _ _ D_waeaf.out, ?_⟩
                refine anyS_one 6 (by kernel_rfl) rfl ?_
                refine appNt rfl _ _ rfl K0 _ fs rfl F_waeaf.out _ [(kx, ox)] rfl (Rp.one7 B_waeaf.out.1) (by have := HFS.out; simp; omega) D_waeaf.out.k0.2.2.1 ?_
                intro v2 waeafz ho hg hob
                have hrow : ∀ k, v'.ownBlock = some k → K0 ≤ k := fun k e => (World.ownsRow.lt F_waeaf.out k e).1
                have D_waeafz : Hid (Dn W1 gs gf p q (Value.slice fa fl fc) kx ox fs g cv zs K0 waeafz) := D_waeaf.out.grown hg hrow
                have N_waeafz : Hid (Blk waeafz gn (S3 p q (Value.slice fa fl fc)) 35) := N_waeaf.out.grown hg (fun e => by have := hrow gn e; have := HGN.out; omega)
                have F_waeafz : Hid (Op mf mg 37 K0 waeafz v2 (fs ++ [(kx, ox)])) := ho
                clear ho hg hob hrow
                refine wpList_nil ?_
                refine ⟨HSI.out _ _ D_waeafz.out, ?_⟩
                refine anyS_one 7 (by kernel_rfl) rfl ?_
                go_wp2
                refine ⟨HSI.out _ _ D_waeafz.out, ?_⟩
                refine anyS_one 8 (by kernel_rfl) rfl ?_
                obtain ⟨za, zc, hz2, -⟩ := F_waeafz.out.rd
                obtain ⟨zl, hzl⟩ : ∃ k, (fs ++ [(kx, ox)]).length = k := ⟨_, rfl⟩
                rw [hzl] at hz2
                clear hzl
                subst hz2
                obtain ⟨wz, hwz⟩ : ∃ W, waeafz.setCell ⟨gn, 2, none⟩ (.slice za zl zc) = W := ⟨_, rfl⟩
                have hgz : waeafz.grownBy wz (some gn) := by rw [← hwz]; exact grown_set _ _ _ _
                have DZ : Hid (Dn W1 gs gf p q (Value.slice fa fl fc) kx ox fs g cv zs wz.heap.size wz) := by
                  have h := D_waeafz.out
                  have hl := HGN.out
                  have hap : (Value.slice fa fl fc).ownBlock = none ∨ (Value.slice fa fl fc).ownBlock ≠ some gn := HAPN.out
                  have h2 : Dn W1 gs gf p q (Value.slice fa fl fc) kx ox fs g cv zs K0 wz := ⟨h.ks.grown hgz (fun e => by have := Option.some.inj e; omega), h.kf.grown hgz (fun e => by have := Option.some.inj e; omega), World.ownsRow.kept h.of hgz hap, h.dc.app (fun k e => by have := h.k0.2.2.2; have := Option.some.inj e; omega) hgz, ⟨h.k0.1, h.k0.2.1, Nat.le_trans h.k0.2.2.1 hgz.size, h.k0.2.2.2⟩, h.kv, h.ap⟩
                  exact h2.re
                have NZ : Hid (Blk wz gn (S3 p q (.slice za zl zc)) 35) := by rw [← hwz]; exact N_waeafz.out.set 2 _
                have FZ : Hid (Op mf mg 37 (gs + 1) wz (.slice za zl zc) (fs ++ [(kx, ox)])) := by
                  have h2 : Op mf mg 37 K0 wz (.slice za zl zc) (fs ++ [(kx, ox)]) := World.ownsRow.kept F_waeafz.out hgz (by
                    cases hv : (Value.slice za zl zc).ownBlock with
                    | none => exact .inl rfl
                    | some k => exact .inr (fun e => by have h7 := (World.ownsRow.lt F_waeafz.out k hv).1; have h8 := HGN.out; have := Option.some.inj e; omega))
                  exact h2.mono (by have := D9.out.k0.1; omega)
                have SZ : Hid (S wz) := HSI.out _ _ DZ.out
                have y2 := N_waeafz.out.cell 2
                have yf2 := N_waeafz.out.frozen 2
                have yl := N_waeafz.out.lt
                simp at y2
                clear hgz
                go_wp2
                clear hwz
                refine ⟨SZ.out, ?_⟩
                refine anyS_end (by kernel_rfl) ?_
                go_wp2_with fail
                go_meet
                case rel => exact ⟨_, DZ.out, NZ.out, FZ.out⟩
              · obtain ⟨waef, hwaef⟩ : ∃ W, wae.alloc (Obj.cells (H2 kx ox) 37) = W := ⟨_, rfl⟩
                obtain ⟨gb, hgb⟩ : ∃ k, wae.heap.size = k := ⟨_, rfl⟩
                have D_waef : Hid (Dn W1 gs gf p q (Value.slice fa fl fc) kx ox fs g cv zs K0 waef) := by rw [← hwaef]; exact D_wae.out.alloc _
                have N_waef : Hid (Blk waef gn (S3 p q (Value.slice fa fl fc)) 35) := by rw [← hwaef]; exact N_wae.out.alloc _
                have B_waef : Hid (Blk waef gb (H2 kx ox) 37 ∧ K0 ≤ gb) := ⟨by rw [← hwaef, ← hgb]; exact Blk.new _ _ _, by rw [← hgb]; exact D_wae.out.k0.2.2.1⟩
                have E_waef : Hid (Op mf mg 37 K0 waef (.slice (some ⟨ga, 0, none⟩) 0 0) []) := by rw [← hwaef]; exact World.ownsRow.alloc E_wae.out _
                have HNE : Hid (ga ≠ gb) := by have := (World.ownsRow.lt E_wae.out ga rfl).2; show _ ≠ _; omega
                go_wp2
                clear hwaef
                refine ⟨HSI.out _ _ D_waef.out, ?_⟩
                refine anyS_one 3 (by kernel_rfl) rfl ?_
                refine appNt rfl _ _ rfl K0 _ [] rfl E_waef.out _ fs rfl D_waef.out.of.rd (by have := HFS.out; simp; omega) D_waef.out.k0.2.2.1 ?_
                intro v' waefa ho hg hob
                have hrow : ∀ k, (Value.slice (some ⟨ga, 0, none⟩) 0 0).ownBlock = some k → K0 ≤ k := fun k e => (World.ownsRow.lt E_waef.out k e).1
                have D_waefa : Hid (Dn W1 gs gf p q (Value.slice fa fl fc) kx ox fs g cv zs K0 waefa) := D_waef.out.grown hg hrow
                have N_waefa : Hid (Blk waefa gn (S3 p q (Value.slice fa fl fc)) 35) := N_waef.out.grown hg (fun e => by have := hrow gn e; have := HGN.out; omega)
                have F_waefa : Hid (Op mf mg 37 K0 waefa v' fs) := by show Op mf mg 37 K0 waefa v' fs; rw [List.nil_append] at ho; exact ho
                have B_waefa : Hid (Blk waefa gb (H2 kx ox) 37 ∧ K0 ≤ gb) := ⟨B_waef.out.1.grown hg (fun e => by have e2 : (Value.slice (some ⟨ga, 0, none⟩) 0 0).ownBlock = some gb := e; have h1 : ga = gb := (by simpa [Value.ownBlock] using e2); have := HNE.out; omega), B_waef.out.2⟩
                clear ho hg hob hrow
                refine wpList_nil ?_
                refine ⟨HSI.out _ _ D_waefa.out, ?_⟩
                refine anyS_one 6 (by kernel_rfl) rfl ?_
                refine appNt rfl _ _ rfl K0 _ fs rfl F_waefa.out _ [(kx, ox)] rfl (Rp.one7 B_waefa.out.1) (by have := HFS.out; simp; omega) D_waefa.out.k0.2.2.1 ?_
                intro v2 waefaz ho hg hob
                have hrow : ∀ k, v'.ownBlock = some k → K0 ≤ k := fun k e => (World.ownsRow.lt F_waefa.out k e).1
                have D_waefaz : Hid (Dn W1 gs gf p q (Value.slice fa fl fc) kx ox fs g cv zs K0 waefaz) := D_waefa.out.grown hg hrow
                have N_waefaz : Hid (Blk waefaz gn (S3 p q (Value.slice fa fl fc)) 35) := N_waefa.out.grown hg (fun e => by have := hrow gn e; have := HGN.out; omega)
                have F_waefaz : Hid (Op mf mg 37 K0 waefaz v2 (fs ++ [(kx, ox)])) := ho
                clear ho hg hob hrow
                refine wpList_nil ?_
                refine ⟨HSI.out _ _ D_waefaz.out, ?_⟩
                refine anyS_one 7 (by kernel_rfl) rfl ?_
                go_wp2
                refine ⟨HSI.out _ _ D_waefaz.out, ?_⟩
                refine anyS_one 8 (by kernel_rfl) rfl ?_
                obtain ⟨za, zc, hz2, -⟩ := F_waefaz.out.rd
                obtain ⟨zl, hzl⟩ : ∃ k, (fs ++ [(kx, ox)]).length = k := ⟨_, rfl⟩
                rw [hzl] at hz2
                clear hzl
                subst hz2
                obtain ⟨wz, hwz⟩ : ∃ W, waefaz.setCell ⟨gn, 2, none⟩ (.slice za zl zc) = W := ⟨_, rfl⟩
                have hgz : waefaz.grownBy wz (some gn) := by rw [← hwz]; exact grown_set _ _ _ _
                have DZ : Hid (Dn W1 gs gf p q (Value.slice fa fl fc) kx ox fs g cv zs wz.heap.size wz) := by
                  have h := D_waefaz.out
                  have hl := HGN.out
                  have hap : (Value.slice fa fl fc).ownBlock = none ∨ (Value.slice fa fl fc).ownBlock ≠ some gn := HAPN.out
                  have h2 : Dn W1 gs gf p q (Value.slice fa fl fc) kx ox fs g cv zs K0 wz := ⟨h.ks.grown hgz (fun e => by have := Option.some.inj e; omega), h.kf.grown hgz (fun e => by have := Option.some.inj e; omega), World.ownsRow.kept h.of hgz hap, h.dc.app (fun k e => by have := h.k0.2.2.2; have := Option.some.inj e; omega) hgz, ⟨h.k0.1, h.k0.2.1, Nat.le_trans h.k0.2.2.1 hgz.size, h.k0.2.2.2⟩, h.kv, h.ap⟩
                  exact h2.re
                have NZ : Hid (Blk wz gn (S3 p q (.slice za zl zc)) 35) := by rw [← hwz]; exact N_waefaz.out.set 2 _
                have FZ : Hid (Op mf mg 37 (gs + 1) wz (.slice za zl zc) (fs ++ [(kx, ox)])) := by
                  have h2 : Op mf mg 37 K0 wz (.slice za zl zc) (fs ++ [(kx, ox)]) := World.ownsRow.kept F_waefaz.out hgz (by
                    cases hv : (Value.slice za zl zc).ownBlock with
                    | none => exact .inl rfl
                    | some k => exact .inr (fun e => by have h7 := (World.ownsRow.lt F_waefaz.out k hv).1; have h8 := HGN.out; have := Option.some.inj e; omega))
                  exact h2.mono (by have := D9.out.k0.1; omega)
                have SZ : Hid (S wz) := HSI.out _ _ DZ.out
                have y2 := N_waefaz.out.cell 2
                have yf2 := N_waefaz.out.frozen 2
                have yl := N_waefaz.out.lt
                simp at y2
                clear hgz
                go_wp2
                clear hwz
                refine ⟨SZ.out, ?_⟩
                refine anyS_end (by kernel_rfl) ?_
                go_wp2_with fail
                go_meet
                case rel => exact ⟨_, DZ.out, NZ.out, FZ.out⟩
            · obtain ⟨waf, hwaf⟩ : ∃ W, wa.alloc (Obj.cells (H2 kx ox) 37) = W := ⟨_, rfl⟩
              obtain ⟨gb, hgb⟩ : ∃ k, wa.heap.size = k := ⟨_, rfl⟩
              have D_waf : Hid (Dn W1 gs gf p q (Value.slice fa fl fc) kx ox fs g cv zs K0 waf) := by rw [← hwaf]; exact D_wa.out.alloc _
              have N_waf : Hid (Blk waf gn (S3 p q (Value.slice fa fl fc)) 35) := by rw [← hwaf]; exact N_wa.out.alloc _
              have B_waf : Hid (Blk waf gb (H2 kx ox) 37 ∧ K0 ≤ gb) := ⟨by rw [← hwaf, ← hgb]; exact Blk.new _ _ _, by rw [← hgb]; exact D_wa.out.k0.2.2.1⟩
              go_wp2
              clear hwaf
              refine ⟨HSI.out _ _ D_waf.out, ?_⟩
              refine anyS_one 0 (by kernel_rfl) rfl ?_
              obtain ⟨wafe, hwafe⟩ : ∃ W, waf.alloc (Obj.cells #[] 37) = W := ⟨_, rfl⟩
              obtain ⟨ga, hga⟩ : ∃ k, waf.heap.size = k := ⟨_, rfl⟩
              have D_wafe : Hid (Dn W1 gs gf p q (Value.slice fa fl fc) kx ox fs g cv zs K0 wafe) := by rw [← hwafe]; exact D_waf.out.alloc _
              have N_wafe : Hid (Blk wafe gn (S3 p q (Value.slice fa fl fc)) 35) := by rw [← hwafe]; exact N_waf.out.alloc _
              have E_wafe : Hid (Op mf mg 37 K0 wafe (.slice (some ⟨ga, 0, none⟩) 0 0) []) := by rw [← hwafe, ← hga]; exact Op.lit0 waf K0 D_waf.out.k0.2.2.1
              have B_wafe : Hid (Blk wafe gb (H2 kx ox) 37 ∧ K0 ≤ gb) := ⟨by rw [← hwafe]; exact B_waf.out.1.alloc _, B_waf.out.2⟩
              have HNE : Hid (ga ≠ gb) := by have := B_waf.out.1.lt; show _ ≠ _; omega
              go_wp2
              clear hwafe
              refine ⟨HSI.out _ _ D_wafe.out, ?_⟩
              refine anyS_one 3 (by kernel_rfl) rfl ?_
              refine appNt rfl _ _ rfl K0 _ [] rfl E_wafe.out _ fs rfl D_wafe.out.of.rd (by have := HFS.out; simp; omega) D_wafe.out.k0.2.2.1 ?_
              intro v' wafea ho hg hob
              have hrow : ∀ k, (Value.slice (some ⟨ga, 0, none⟩) 0 0).ownBlock = some k → K0 ≤ k := fun k e => (World.ownsRow.lt E_wafe.out k e).1
              have D_wafea : Hid (Dn W1 gs gf p q (Value.slice fa fl fc) kx ox fs g cv zs K0 wafea) := D_wafe.out.grown hg hrow
              have N_wafea : Hid (Blk wafea gn (S3 p q (Value.slice fa fl fc)) 35) := N_wafe.out.grown hg (fun e => by have := hrow gn e; have := HGN.out; omega)
              have F_wafea : Hid (Op mf mg 37 K0 wafea v' fs) := by show Op mf mg 37 K0 wafea v' fs; rw [List.nil_append] at ho; exact ho
              have B_wafea : Hid (Blk wafea gb (H2 kx ox) 37 ∧ K0 ≤ gb) := ⟨B_wafe.out.1.grown hg (fun e => by have e2 : (Value.slice (some ⟨ga, 0, none⟩) 0 0).ownBlock = some gb := e; have h1 : ga = gb := (by simpa [Value.ownBlock] using e2); have := HNE.out; omega), B_wafe.out.2⟩
              clear ho hg hob hrow
              refine wpList_nil ?_
              refine ⟨HSI.out _ _ D_wafea.out, ?_⟩
              refine anyS_one 6 (by kernel_rfl) rfl ?_
              refine appNt rfl _ _ rfl K0 _ fs rfl F_wafea.out _ [(kx, ox)] rfl (Rp.one7 B_wafea.out.1) (by have := HFS.out; simp; omega) D_wafea.out.k0.2.2.1 ?_
              intro v2 wafeaz ho hg hob
              have hrow : ∀ k, v'.ownBlock = some k → K0 ≤ k := fun k e => (World.ownsRow.lt F_wafea.out k e).1
              have D_wafeaz : Hid (Dn W1 gs gf p q (Value.slice fa fl fc) kx ox fs g cv zs K0 wafeaz) := D_wafea.out.grown hg hrow
              have N_wafeaz : Hid (Blk wafeaz gn (S3 p q (Value.slice fa fl fc)) 35) := N_wafea.out.grown hg (fun e => by have := hrow gn e; have := HGN.out; omega)
              have F_wafeaz : Hid (Op mf mg 37 K0 wafeaz v2 (fs ++ [(kx, ox)])) := ho
              clear ho hg hob hrow
              refine wpList_nil ?_
              refine ⟨HSI.out _ _ D_wafeaz.out, ?_⟩
              refine anyS_one 7 (by kernel_rfl) rfl ?_
              go_wp2
              refine ⟨HSI.out _ _ D_wafeaz.out, ?_⟩
              refine anyS_one 8 (by kernel_rfl) rfl ?_
              obtain ⟨za, zc, hz2, -⟩ := F_wafeaz.out.rd
              obtain ⟨zl, hzl⟩ : ∃ k, (fs ++ [(kx, ox)]).length = k := ⟨_, rfl⟩
              rw [hzl] at hz2
              clear hzl
              subst hz2
              obtain ⟨wz, hwz⟩ : ∃ W, wafeaz.setCell ⟨gn, 2, none⟩ (.slice za zl zc) = W := ⟨_, rfl⟩
              have hgz : wafeaz.grownBy wz (some gn) := by rw [← hwz]; exact grown_set _ _ _ _
              have DZ : Hid (Dn W1 gs gf p q (Value.slice fa fl fc) kx ox fs g cv zs wz.heap.size wz) := by
                have h := D_wafeaz.out
                have hl := HGN.out
                have hap : (Value.slice fa fl fc).ownBlock = none ∨ (Value.slice fa fl fc).ownBlock ≠ some gn := HAPN.out
                have h2 : Dn W1 gs gf p q (Value.slice fa fl fc) kx ox fs g cv zs K0 wz := ⟨h.ks.grown hgz (fun e => by have := Option.some.inj e; omega), h.kf.grown hgz (fun e => by have := Option.some.inj e; omega), World.ownsRow.kept h.of hgz hap, h.dc.app (fun k e => by have := h.k0.2.2.2; have := Option.some.inj e; omega) hgz, ⟨h.k0.1, h.k0.2.1, Nat.le_trans h.k0.2.2.1 hgz.size, h.k0.2.2.2⟩, h.kv, h.ap⟩
                exact h2.re
              have NZ : Hid (Blk wz gn (S3 p q (.slice za zl zc)) 35) := by rw [← hwz]; exact N_wafeaz.out.set 2 _
              have FZ : Hid (Op mf mg 37 (gs + 1) wz (.slice za zl zc) (fs ++ [(kx, ox)])) := by
                have h2 : Op mf mg 37 K0 wz (.slice za zl zc) (fs ++ [(kx, ox)]) := World.ownsRow.kept F_wafeaz.out hgz (by
                  cases hv : (Value.slice za zl zc).ownBlock with
                  | none => exact .inl rfl
                  | some k => exact .inr (fun e => by have h7 := (World.ownsRow.lt F_wafeaz.out k hv).1; have h8 := HGN.out; have := Option.some.inj e; omega))
                exact h2.mono (by have := D9.out.k0.1; omega)
              have SZ : Hid (S wz) := HSI.out _ _ DZ.out
              have y2 := N_wafeaz.out.cell 2
              have yf2 := N_wafeaz.out.frozen 2
              have yl := N_wafeaz.out.lt
              simp at y2
              clear hgz
              go_wp2
              clear hwz
              refine ⟨SZ.out, ?_⟩
              refine anyS_end (by kernel_rfl) ?_
              go_wp2_with fail
              go_meet
              case rel => exact ⟨_, DZ.out, NZ.out, FZ.out⟩
          case rest =>
          obtain ⟨v2, DZ, NZ, FZ⟩ := hcut
          clear D9 KN9 D8
          obtain ⟨za, zc, hz2, -⟩ := FZ.out.rd
          obtain ⟨zl, hzl⟩ : ∃ k, (fs ++ [(kx, ox)]).length = k := ⟨_, rfl⟩
          rw [hzl] at hz2
          subst hz2
          have HZL : Hid ((fs ++ [(kx, ox)]).length = zl) := hzl
          clear hzl
          have n0 := NZ.out.cell 0
          have n1 := NZ.out.cell 1
          have n2 := NZ.out.cell 2
          have nl := NZ.out.lt
          simp at n0 n1 n2
          go_wp2_with (fail)
          refine (subM_c p q _ (fs ++ [(kx, ox)]) n wc FZ.out.rd (by omega) (by omega)).mono ?_
          rintro e we ⟨r2, rfl, -, be⟩
          clear n0 n1 n2 nl
          have KSe := DZ.out.ks.below be DZ.out.ks.lt
          have NZe := NZ.out.below be NZ.out.lt
          have OFe : Hid (Op mf mg 37 (gs + 1) we (Value.slice fa fl fc) fs) := DZ.out.of.below be
          have OZe : Hid (Op mf mg 37 (gs + 1) we (.slice za zl zc) (fs ++ [(kx, ox)])) := FZ.out.below be
          have DCe : Hid (Dc W1 we g cv zs) := DZ.out.dc.below be
          have HKS : Hid (Blk we gs (S3 p q (Value.slice fa fl fc)) 35) := KSe
          have hmm : 0 < m := by omega
          obtain ⟨m', hm'⟩ : ∃ m', m = m' + 1 := ⟨m - 1, by omega⟩
          have HM : Hid (m = m' + 1) := hm'
          have hmI : (m : Int) - 1 = (m' : Int) := by omega
          clear hm' be
          cases r2
          · clear NZe KSe
            go_wp2
            go_roundw
            case rel => exact ⟨m', _, fs, by first | rfl | rw [hmI], by have := hm.out; have := HM.out; show _ ≤ _; omega, HKS.out, OFe.out, DCe.out⟩
            case measure => have := HM.out; simp [intOf]; omega
          · have s0 := KSe.cell 0
            have s1 := KSe.cell 1
            have s2 := KSe.cell 2
            have sf0 := KSe.frozen 0
            have sf1 := KSe.frozen 1
            have sf2 := KSe.frozen 2
            have sl := KSe.lt
            have n0 := NZe.cell 0
            have n1 := NZe.cell 1
            have n2 := NZe.cell 2
            have nl := NZe.lt
            simp at s0 s1 s2 n0 n1 n2
            obtain ⟨wf, hwf⟩ : ∃ W, ((we.setCell ⟨gs, 0, none⟩ (.bool p)).setCell ⟨gs, 1, none⟩ (.bool q)).setCell ⟨gs, 2, none⟩ (.slice za zl zc) = W := ⟨_, rfl⟩
            have hgz : we.grownBy wf (some gs) := by rw [← hwf]; exact grown_trans (grown_trans (grown_set _ _ _ _) (grown_set _ _ _ _)) (grown_set _ _ _ _)
            have HKZ : Hid (Blk wf gs (S3 p q (.slice za zl zc)) 35) := by rw [← hwf]; exact ((KSe.set 0 _).set 1 _).set 2 _
            have HOZ : Hid (Op mf mg 37 (gs + 1) wf (.slice za zl zc) (fs ++ [(kx, ox)])) := World.ownsRow.kept OZe.out hgz (by
              cases hv : (Value.slice za zl zc).ownBlock with
              | none => exact .inl rfl
              | some k => exact .inr (fun e => by have h7 := (World.ownsRow.lt OZe.out k hv).1; have := Option.some.inj e; omega))
            have HDZ : Hid (Dc W1 wf g cv zs) := DCe.out.app (fun k e => by have h1 := HGS.out; have := Option.some.inj e; omega) hgz
            clear hgz KSe NZe
            go_wp2
            try rw [hwf]
            clear hwf
            go_roundw
            case rel => exact ⟨m', _, fs ++ [(kx, ox)], by first | rfl | rw [hmI], by have := hm.out; have := HM.out; show _ ≤ _; rw [List.length_append]; simp only [List.length_singleton]; omega, HKZ.out, HOZ.out, HDZ.out⟩
            case measure => have := HM.out; simp [intOf]; omega
end Go.Proofs.Ytfaflnhembceoaa
