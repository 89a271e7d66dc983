/- The calls at a subscriber; no condition. -/
import Derived.Test.YtfaflnhembceoaaClB
import Derived.Test.YtfaflnhembceoaaRjB
namespace Go.Proofs.Ytfaflnhembceoaa
open Go.RowKit Go.ChangeShapes Go.WideShapes Go.ChangeAt
set_option linter.unusedVariables false
set_option linter.unusedSimpArgs false
set_option maxRecDepth 8000

theorem info68 : (Try.prog.info? 68).map (fun i => (i.zero, i.size, i.bytes)) = some (some (.agg #[.int .i64 0, .int .i64 0]), 2, 16) := by kernel_rfl
/-- moves behind a row of the call's own -/
theorem appPr {ops : Array Oper} {rest : List Oper} {o : Oper} {a : Act} {w : World} {Q : Exit → Act → World → Prop} (hgd : o.guard = none) (s x : Operand)
    (ho : o.op = .call { callee := .builtin .append, args := #[s, x], argTypes := #[112, 112] }) (base : Nat) (v : Value) (l0 : Mvs) (hs : a.eval s = v) (hown : Op mf mg 68 base w v l0)
    (v2 : Value) (ls : Mvs) (hx : a.eval x = v2) (hr : Rp mf mg w v2 ls) (hl : l0.length + ls.length ≤ 1099511627776) (hbase : base ≤ w.heap.size)
    (h : ∀ v' w', Op mf mg 68 base w' v' (l0 ++ ls) → w.grownBy w' v.ownBlock → (v'.ownBlock = v.ownBlock ∨ v'.ownBlock = some w.heap.size) → wpList Try.prog ops Q rest (a.put o.dst v') w') : wpList Try.prog ops Q (o :: rest) a w := by
  obtain ⟨i0, hi, hz0, hz1, hz2⟩ := info_parts info68
  obtain ⟨av, cap, rfl, h1, h2, h3⟩ := hr
  by_cases hav : av = none
  · subst hav
    have hl0 : ls = [] := by
      rcases h3 with h3 | ⟨b, off, e, -⟩
      · exact h3
      · cases e
    subst hl0
    refine wpList_plain hgd fun K hK => ?_
    have hx' : a.eval x = .slice none 0 cap := hx
    obtain ⟨v', w', hr, q1, q2, q3⟩ : ∃ v' w', (Builtin.append_ #[112, 112] o.type #[v, .slice none 0 cap]).run Try.prog w = .ok v' w' ∧ Op mf mg 68 base w' v' (l0 ++ []) ∧ w.grownBy w' v.ownBlock ∧ (v'.ownBlock = v.ownBlock ∨ v'.ownBlock = some w.heap.size) := by
      refine ⟨v, w, ?_, by simpa using hown, grown_refl _ _, .inl rfl⟩
      rcases hown.2 with ⟨rfl, h0⟩ | ⟨g, cp, cur, rfl, _, _, hnc, _⟩
      · simp [Builtin.append_, run_underlying Try.underlying112, sizeOf, typeInfo, hi, Builtin.lenOf, Builtin.firstCells]
      · simp [Builtin.append_, run_underlying Try.underlying112, sizeOf, typeInfo, hi, Builtin.lenOf, Builtin.firstCells, hnc, storeCells]
    unfold Oper.wp execOp
    simp only [ho, resolve, invoke, builtin, Sem.run_bind, Sem.run_pure, Result.andThen_ok, List.map_toArray, List.map_cons, List.map_nil, hs, hx', hr]
    exact hK _ _ (h v' w' q1 q2 q3)
  · obtain ⟨ad, rfl⟩ : ∃ ad, av = some ad := by cases av with | none => exact absurd rfl hav | some ad => exact ⟨ad, rfl⟩
    refine wpList_append_own_at w hgd s x 112 ho base 68 i0 (.agg #[.int .i64 0, .int .i64 0]) 2 16 Try.underlying112 hi hz0 hz1 hz2 rfl (by decide) v l0.length (pr mf mg l0) hs hown ad ls.length cap (pr mf mg ls) hx (pr_len _ _ _) ?_ pr_one ?_ ?_ hbase ?_
    · rcases h3 with rfl | ⟨b, off, e, h4⟩
      · intro j u hu; simp [pr] at hu
      · cases e
        exact pr_news h4
    · unfold maxLen; omega
    · omega
    · intro v' w' g1 g2 g3 g4
      refine h v' w' ?_ g2 g4
      rw [Op, pr_append, List.length_append]; exact g1

theorem rt_rg {cs : Sbs} {f u : Nat} (h : SbOk cs) (hf : f < cs.length) (hu : u < cs.length) (hne : ¬ f = u) : rtF cs f u = rgF cs f u := by
  have hg : goodB cs f u := ⟨h, ⟨by omega, by omega⟩, ⟨by omega, by omega⟩, by omega⟩
  rw [rtF, if_pos hg]
  simp [rgF]
/-- the calls that go over t or end there, of the first m pairs -/
def clsF (cs : Sbs) (t m : Nat) : Mvs := ((List.range m).filter fun p => atB cs t (p / cs.length) (p % cs.length)).map fun p => (((p / cs.length : Nat) : Int), ((p % cs.length : Nat) : Int))
theorem dm {n f u : Nat} (hu : u < n) : (f * n + u) / n = f ∧ (f * n + u) % n = u := by
  have h0 : 0 < n := by omega
  exact ⟨by rw [Nat.mul_comm, Nat.mul_add_div h0, Nat.div_eq_of_lt hu]; omega, by rw [Nat.mul_comm, Nat.mul_add_mod, Nat.mod_eq_of_lt hu]⟩
theorem clsF_no {cs : Sbs} {t f u : Nat} (hu : u < cs.length) (h : atB cs t f u = false) : clsF cs t (f * cs.length + (u + 1)) = clsF cs t (f * cs.length + u) := by
  have h1 := dm (f := f) hu
  rw [clsF, ← Nat.add_assoc, List.range_succ, List.filter_append, List.map_append]
  simp [h1.1, h1.2, h, clsF]
theorem clsF_yes {cs : Sbs} {t f u : Nat} (hu : u < cs.length) (h : atB cs t f u = true) : clsF cs t (f * cs.length + (u + 1)) = clsF cs t (f * cs.length + u) ++ [((f : Int), (u : Int))] := by
  have h1 := dm (f := f) hu
  have e : (List.filter (fun p => atB cs t (p / cs.length) (p % cs.length)) [f * cs.length + u]) = [f * cs.length + u] := by rw [List.filter_cons, if_pos (by simp only [h1.1, h1.2]; exact h)]; rfl
  rw [clsF, ← Nat.add_assoc, List.range_succ, List.filter_append, List.map_append, e, List.map_singleton]
  simp only [h1.1, h1.2]
  rfl
theorem clsF_len (cs : Sbs) (t m : Nat) : (clsF cs t m).length ≤ m := by
  rw [clsF, List.length_map]
  exact Nat.le_trans (List.length_filter_le _ _) (by simp)
theorem Rp.one8 {W : World} {X : Nat} {x y : Int} (h : Blk W X (H2 x y) 68) : Rp mf mg W (.slice (some ⟨X, 0, none⟩) 1 1) [(x, y)] := by
  refine ⟨_, 1, rfl, by simp, by unfold maxLen; omega, .inr ⟨X, 0, rfl, fun i hi => ?_⟩⟩
  have hi' : i = 0 := by simp at hi; omega
  subst hi'
  exact ⟨by simpa using h.cell 0, by simpa using h.cell 1⟩
def CaR (cs : Sbs) (t : Nat) (w : World) (e : Ending) (w' : World) : Prop := ∃ v', e = .returned v' ∧ Op mf mg 68 w.heap.size w' v' (clsF cs t (cs.length * cs.length)) ∧ Below w.heap.size w w'
set_option maxHeartbeats 6400000 in
theorem callsAt_c (v : Value) (cs : Sbs) (t : Nat) (w : World) (h : RdL w v cs) (hok : SbOk cs) (ht : t ≤ 1000) : Calls Try.prog 75 #[v, .int .i64 (t : Int)] w (CaR cs t w) := by
  have HRD : Hid (RdL w v cs) := h
  have HOK : Hid (SbOk cs) := hok
  obtain ⟨a, cap, hv, g1, g2⟩ := h.len
  subst hv
  unfold maxLen at g2
  obtain ⟨n, hnn⟩ : ∃ n, cs.length = n := ⟨_, rfl⟩
  have HN : Hid (cs.length = n) := hnn
  have n16 : n ≤ 16 := by rw [← hnn]; exact hok.2.1
  rw [hnn] at g1 HRD ⊢
  have O0 : Hid (Op mf mg 68 w.heap.size w (.slice none 0 0) (clsF cs t 0)) := by show Op _ _ _ _ _ _ _; exact World.ownsRow_nil w _ _ _
  clear h hnn hok
  go_enter Try.func75, Try.ntmps75
  go_wp2
  go_loopw [5, 12] (fun lf q wr => ∃ f : Nat, ∃ al ll cl, f ≤ n ∧ q = .int .i64 f ∧ lf = .slice al ll cl ∧ Hid (Below w.heap.size w wr) ∧ Hid (Op mf mg 68 w.heap.size wr (.slice al ll cl) (clsF cs t (f * cs.length)))) (fun _ q _ => n - (intOf q).toNat)
  case atStart => exact ⟨0, _, _, _, Nat.zero_le _, rfl, rfl, Below.refl _ _, by show Op _ _ _ _ _ _ _; rw [Nat.zero_mul]; exact O0.out⟩
  case round =>
    obtain ⟨f, al, ll, cl, hf, rfl, rfl, BF, OF⟩ := hrel
    clear O0
    by_cases hlf : f < n
    case neg =>
      obtain rfl : n = f := by omega
      have HE : Hid (cs.length * cs.length = n * cs.length) := by show _ = _; rw [HN.out]
      go_wp2
      go_ret
      exact ⟨_, rfl, by rw [HE.out]; exact OF.out, BF.out⟩
    case pos =>
    go_wp2
    go_loopw [5, 17] (fun lf q wr => ∃ u : Nat, ∃ al ll cl, u ≤ n ∧ q = .int .i64 u ∧ lf = .slice al ll cl ∧ Hid (Below w.heap.size w wr) ∧ Hid (Op mf mg 68 w.heap.size wr (.slice al ll cl) (clsF cs t (f * cs.length + u)))) (fun _ q _ => n - (intOf q).toNat)
    case atStart => exact ⟨0, _, _, _, Nat.zero_le _, rfl, rfl, BF.out, OF.out⟩
    case round =>
      obtain ⟨u, al, ll, cl, hu, rfl, rfl, BU, OU⟩ := hrel
      clear BF OF
      by_cases hlu : u < n
      case neg =>
        obtain rfl : n = u := by omega
        have HE : Hid ((f + 1) * cs.length = f * cs.length + n) := by show _ = _; rw [Nat.add_mul, Nat.one_mul, HN.out]
        go_wp2
        go_roundw
        case rel => exact ⟨f + 1, _, _, _, by omega, by go_num, rfl, BU.out, by show Op _ _ _ _ _ _ _; rw [HE.out]; exact OU.out⟩
        case measure => simp [intOf]; omega
      case pos =>
      have hul : u < cs.length := by rw [HN.out]; exact hlu
      by_cases cf : f = u
      · have HC : Hid (clsF cs t (f * cs.length + (f + 1)) = clsF cs t (f * cs.length + f)) := by subst cf; exact clsF_no hul (by simp [atB])
        subst cf
        have cfd : ((f : Int) == (f : Int)) = true := by simp
        clear hul
        go_wp2
        go_roundw
        case rel => exact ⟨f + 1, _, _, _, by omega, by go_num, rfl, BU.out, by show Op _ _ _ _ _ _ _; rw [HC.out]; exact OU.out⟩
        case measure => simp [intOf]; omega
      have cfd : ((f : Int) == (u : Int)) = false := by simp; omega
      have HRT : Hid (rtF cs f u = rgF cs f u) := rt_rg HOK.out (by rw [HN.out]; exact hlf) hul cf
      have HCF : Hid (¬ f = u) := cf
      obtain ⟨W1, hW1⟩ : ∃ W, wr.alloc (Obj.cells (H2 (f : Int) (u : Int)) 68) = W := ⟨_, rfl⟩
      have bA : Below wr.heap.size wr W1 := by rw [← hW1]; exact (Below.refl _ _).alloc (Nat.le_refl _) _
      have B1 : Hid (Below w.heap.size w W1) := belowCall BU.out bA BU.out.size
      have O1 : Hid (Op mf mg 68 w.heap.size W1 (.slice al ll cl) (clsF cs t (f * cs.length + u))) := OU.out.below bA
      have K1 : Hid (Blk W1 wr.heap.size (H2 (f : Int) (u : Int)) 68) := by show Blk _ _ _ _; rw [← hW1]; exact Blk.new _ _ _
      have RD1 : Hid (RdL W1 (.slice a n cap) cs) := HRD.out.below B1.out
      have k0 := K1.out.cell 0
      have k1 := K1.out.cell 1
      simp at k0 k1
      have HUL : Hid (u < cs.length) := hul
      clear bA BU OU cf hul
      go_wp2_with (fail)
      clear hW1
      refine (route_c _ cs f u W1 RD1.out HOK.out (by rw [HN.out]; exact hlf) HUL.out).mono ?_
      rintro e w2 ⟨vo, rfl, ho, b2⟩
      have B2 : Hid (Below w.heap.size w w2) := belowCall B1.out b2 B1.out.size
      have O2 : Hid (Op mf mg 68 w.heap.size w2 (.slice al ll cl) (clsF cs t (f * cs.length + u))) := O1.out.below b2
      have K2 : Hid (Blk w2 wr.heap.size (H2 (f : Int) (u : Int)) 68) := K1.out.below b2 K1.out.lt
      obtain ⟨oa, ol, oc, hov⟩ : ∃ oa ol oc, vo = .slice oa ol oc := by obtain ⟨a, c, e, -⟩ := own_form ho; exact ⟨_, _, _, e⟩
      subst hov
      obtain ⟨r1, r2, rh, hr⟩ : ∃ r1 r2 rh, rgF cs f u = (r1, r2, rh) := ⟨_, _, _, rfl⟩
      have HR : Hid (rtF cs f u = (r1, r2, rh)) := HRT.out.trans hr
      rw [hr] at ho ⊢
      dsimp only at ho ⊢
      have bA : Below w2.heap.size w2 (w2.alloc (Obj.cells (O3 r1 r2 (.slice oa ol oc)) 29)) := (Below.refl _ _).alloc (Nat.le_refl _) _
      obtain ⟨W3, hW3⟩ : ∃ W3, w2.alloc (Obj.cells (O3 r1 r2 (.slice oa ol oc)) 29) = W3 := ⟨_, rfl⟩
      rw [hW3] at bA
      have B3 : Hid (Below w.heap.size w W3) := belowCall B2.out bA B2.out.size
      have O3' : Hid (Op mf mg 68 w.heap.size W3 (.slice al ll cl) (clsF cs t (f * cs.length + u))) := O2.out.below bA
      have K3 : Hid (Blk W3 wr.heap.size (H2 (f : Int) (u : Int)) 68) := K2.out.below bA K2.out.lt
      have H3 : Hid (Rd .i64 W3 (.slice oa ol oc) rh) := (ho.below bA).rd
      have X3 : Hid (Blk W3 w2.heap.size (O3 r1 r2 (.slice oa ol oc)) 29) := by show Blk _ _ _ _; rw [← hW3]; exact Blk.new _ _ _
      have q0 := X3.out.cell 0
      have q1 := X3.out.cell 1
      have q2 := X3.out.cell 2
      have p0 := K3.out.cell 0
      have p1 := K3.out.cell 1
      simp at q0 q1 q2 p0 p1
      clear ho b2 hr bA k0 k1 B1 O1 K1 RD1 B2 O2 K2 HRT X3
      by_cases cr : r2 = (t : Int)
      · have crd : (r2 == (t : Int)) = true := by simp [cr]
        have HAT : Hid (atB cs t f u = true) := by show _ = _; rw [atB, HR.out]; simp [HCF.out, cr]
        clear cr
        have HC : Hid (clsF cs t (f * cs.length + (u + 1)) = clsF cs t (f * cs.length + u) ++ [((f : Int), (u : Int))]) := clsF_yes HUL.out (HAT.out)
        obtain ⟨W4, hW4⟩ : ∃ W4, W3.alloc (Obj.cells (H2 (f : Int) (u : Int)) 68) = W4 := ⟨_, rfl⟩
        have bA : Below W3.heap.size W3 W4 := by rw [← hW4]; exact (Below.refl _ _).alloc (Nat.le_refl _) _
        have B4 : Hid (Below w.heap.size w W4) := belowCall B3.out bA B3.out.size
        have O4 : Hid (Op mf mg 68 w.heap.size W4 (.slice al ll cl) (clsF cs t (f * cs.length + u))) := O3'.out.below bA
        have X4 : Hid (Blk W4 W3.heap.size (H2 (f : Int) (u : Int)) 68) := by show Blk _ _ _ _; rw [← hW4]; exact Blk.new _ _ _
        have HLN : Hid ((clsF cs t (f * cs.length + u)).length ≤ 1000) := by show _ ≤ _; have h1 := clsF_len cs t (f * cs.length + u); have h2 : f * cs.length ≤ 16 * 16 := Nat.mul_le_mul (by omega) (by rw [HN.out]; exact n16); omega
        clear bA B3 O3' H3
        go_wp2_with (at_builtin; refine appPr rfl (.tmp 39) (.tmp 41) rfl w.heap.size _ (clsF cs t (f * cs.length + u)) rfl O4.out _ [((f : Int), (u : Int))] rfl (Rp.one8 X4.out) (by have := HLN.out; simp; omega) B4.out.size ?_)
        intro v5 w5 o5 g5 _
        have B5 : Hid (Below w.heap.size w w5) := B4.out.trans (grown_lt O4.out g5 (Nat.le_refl _) B4.out.size)
        have L5 : Hid (Op mf mg 68 w.heap.size w5 v5 (clsF cs t (f * cs.length + (u + 1)))) := by show Op _ _ _ _ _ _ _; rw [HC.out]; exact o5
        obtain ⟨a5, c5, rfl⟩ := own_form2 L5.out
        clear o5 g5 B4 O4 X4
        go_wp2
        go_roundw
        case rel => exact ⟨u + 1, _, _, _, by omega, by go_num, rfl, B5.out, L5.out⟩
        case measure => simp [intOf]; omega
      have crd : (r2 == (t : Int)) = false := by simp [cr]
      have HCR : Hid (¬ r2 = (t : Int)) := cr
      clear cr
      go_wp2_with (fail)
      clear hW3
      refine (containsI_c _ rh t W3 H3.out).mono ?_
      rintro e wz ⟨rfl, hwz⟩
      rw [hwz]
      clear hwz wz
      by_cases ci : (t : Int) ∈ rh
      · rw [decide_eq_true ci]
        have HAT : Hid (atB cs t f u = true) := by show _ = _; rw [atB, HR.out]; simp [HCF.out, ci]
        clear ci
        have HC : Hid (clsF cs t (f * cs.length + (u + 1)) = clsF cs t (f * cs.length + u) ++ [((f : Int), (u : Int))]) := clsF_yes HUL.out (HAT.out)
        obtain ⟨W4, hW4⟩ : ∃ W4, W3.alloc (Obj.cells (H2 (f : Int) (u : Int)) 68) = W4 := ⟨_, rfl⟩
        have bA : Below W3.heap.size W3 W4 := by rw [← hW4]; exact (Below.refl _ _).alloc (Nat.le_refl _) _
        have B4 : Hid (Below w.heap.size w W4) := belowCall B3.out bA B3.out.size
        have O4 : Hid (Op mf mg 68 w.heap.size W4 (.slice al ll cl) (clsF cs t (f * cs.length + u))) := O3'.out.below bA
        have X4 : Hid (Blk W4 W3.heap.size (H2 (f : Int) (u : Int)) 68) := by show Blk _ _ _ _; rw [← hW4]; exact Blk.new _ _ _
        have HLN : Hid ((clsF cs t (f * cs.length + u)).length ≤ 1000) := by show _ ≤ _; have h1 := clsF_len cs t (f * cs.length + u); have h2 : f * cs.length ≤ 16 * 16 := Nat.mul_le_mul (by omega) (by rw [HN.out]; exact n16); omega
        clear bA B3 O3' H3
        go_wp2_with (at_builtin; refine appPr rfl (.tmp 39) (.tmp 41) rfl w.heap.size _ (clsF cs t (f * cs.length + u)) rfl O4.out _ [((f : Int), (u : Int))] rfl (Rp.one8 X4.out) (by have := HLN.out; simp; omega) B4.out.size ?_)
        intro v5 w5 o5 g5 _
        have B5 : Hid (Below w.heap.size w w5) := B4.out.trans (grown_lt O4.out g5 (Nat.le_refl _) B4.out.size)
        have L5 : Hid (Op mf mg 68 w.heap.size w5 v5 (clsF cs t (f * cs.length + (u + 1)))) := by show Op _ _ _ _ _ _ _; rw [HC.out]; exact o5
        obtain ⟨a5, c5, rfl⟩ := own_form2 L5.out
        clear o5 g5 B4 O4 X4
        go_wp2
        go_roundw
        case rel => exact ⟨u + 1, _, _, _, by omega, by go_num, rfl, B5.out, L5.out⟩
        case measure => simp [intOf]; omega
      rw [decide_eq_false ci]
      have HC : Hid (clsF cs t (f * cs.length + (u + 1)) = clsF cs t (f * cs.length + u)) := clsF_no HUL.out (by rw [atB, HR.out]; simp [HCR.out, ci])
      clear ci
      go_wp2
      go_roundw
      case rel => exact ⟨u + 1, _, _, _, by omega, by go_num, rfl, B3.out, by show Op _ _ _ _ _ _ _; rw [HC.out]; exact O3'.out⟩
      case measure => simp [intOf]; omega
end Go.Proofs.Ytfaflnhembceoaa
