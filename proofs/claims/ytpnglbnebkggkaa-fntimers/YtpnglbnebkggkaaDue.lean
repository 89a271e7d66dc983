/- A dialling is drawn; no condition. -/
import Derived.Test.YtpnglbnebkggkaaDud
import Derived.Test.YtpnglbnebkggkaaPrH
import Derived.Laws.Strings2
namespace Go.Proofs.Ytpnglbnebkggkaa
open Go.RowKit Go.ChangeShapes Go.WideShapes Go.ChangeAt
set_option linter.unusedVariables false
set_option linter.unusedSimpArgs false
set_option maxRecDepth 8000
theorem pq_app : ∀ (a b : Prs), pq (a ++ b) = pq a ++ pq b
  | [], b => rfl
  | o :: r, b => by simp [pq, pq_app r b]
theorem pq_one : ∀ (ls : Prs), ∀ u ∈ pq ls, u.oneCell' = true
  | [], u, h => by simp [pq] at h
  | o :: r, u, h => by
    simp only [pq, List.mem_cons] at h
    rcases h with rfl | rfl | h
    all_goals first | rfl | exact pq_one r u h
/-- one press more behind a row of one's own -/
theorem appQ {ops : Array Oper} {rest : List Oper} {o : Oper} {a : Act} {w : World} {Q : Exit → Act → World → Prop} (hgd : o.guard = none) (s x : Operand)
    (ho : o.op = .call { callee := .builtin .append, args := #[s, x], argTypes := #[33, 33] }) (base : Nat) (v : Value) (l0 : Prs) (hs : a.eval s = v) (hown : Opq 39 base w v l0)
    (g : Nat) (p : Pr) (hx : a.eval x = .slice (some ⟨g, 0, none⟩) 1 1) (hc : Blk w g (P2 p) 39) (hl : l0.length ≤ 1048576) (hbase : base ≤ w.heap.size)
    (h : ∀ v' w', Opq 39 base w' v' (l0 ++ [p]) → w.grownBy w' v.ownBlock → wpList Try.prog ops Q rest (a.put o.dst v') w') : wpList Try.prog ops Q (o :: rest) a w := by
  obtain ⟨i0, hi, hz0, hz1, hz2⟩ := info_parts infoPress
  refine wpList_append_own w hgd s x 33 ho base 39 i0 (.agg (P2 p0)) 2 24 Try.underlying33 hi hz0 hz1 hz2 rfl (by decide) v l0.length (pq l0) hs hown ⟨g, 0, none⟩ 1 1 (pq [p]) hx rfl ?_ (pq_one _) ?_ ?_ hbase ?_
  · intro j u hj
    have c0 := hc.cell 0
    have c1 := hc.cell 1
    simp at c0 c1
    match j, hj with
    | 0, hj => simp [pq] at hj; subst hj; simpa [Addr.add] using c0
    | 1, hj => simp [pq] at hj; subst hj; simpa [Addr.add] using c1
  · unfold maxLen; omega
  · omega
  · intro v' w' g1 g2 g3
    refine h v' w' ?_ g2
    rw [Opq, pq_app, List.length_append]; exact g1
theorem own_tag {w : World} {b1 b2 e1 e2 s1 s2 n1 n2 : Nat} {v1 v2 : Value} {x1 x2 : List Value} (h1 : w.ownsRow b1 e1 s1 v1 n1 x1) (h2 : w.ownsRow b2 e2 s2 v2 n2 x2) (he : e1 ≠ e2) : v1.ownBlock = none ∨ v1.ownBlock ≠ v2.ownBlock := by
  rcases h1.2 with ⟨rfl, -⟩ | ⟨k, cap, cur, rfl, -, hk, -⟩
  · exact .inl rfl
  · refine .inr fun e => ?_
    rcases h2.2 with ⟨rfl, -⟩ | ⟨k', cap', cur', rfl, -, hk', -⟩
    · simp [Value.ownBlock] at e
    · have e' : k = k' := by simpa [Value.ownBlock] using e
      subst e'
      rw [hk] at hk'
      have := Option.some.inj hk'
      injection this with _ h2
      exact he h2
theorem Opq.draw {base g : Nat} {w w' : World} {v : Value} {ls : Prs} (h : Opq 39 base w v ls) (hg : w.grownBy w' (some g)) (hlt : g < base) : Opq 39 base w' v ls := World.ownsRow.kept h hg (by
    cases hv : v.ownBlock with
    | none => exact .inl rfl
    | some k => exact .inr (fun e => by have := (World.ownsRow.lt h k hv).1; have := Option.some.inj e; omega))
theorem Opq.mono {base base' : Nat} {w : World} {v : Value} {ls : Prs} (h : Opq 39 base w v ls) (hb : base' ≤ base) : Opq 39 base' w v ls := by
  refine ⟨h.1, ?_⟩
  rcases h.2 with h2 | ⟨g, cap, cur, hv, hg, r⟩
  · exact .inl h2
  · exact .inr ⟨g, cap, cur, hv, by omega, r⟩
/-- what is drawn for a dialling -/
def DoD (w : World) (e : Ending) (w' : World) : Prop := ∃ (v : Value) (ls : Rls) (u : Value) (ps : Prs) (wt : Int), e = .returned (.tuple #[v, u, .int .i64 wt]) ∧ Orr 31 w.heap.size w' v ls ∧ Opq 39 w.heap.size w' u ps ∧ Szs ls ∧ Szp ps ∧ ps.length ≤ 300 ∧ Below w.heap.size w w'
set_option maxHeartbeats 25600000 in
theorem drawOv_c (v : Value) (zs : List Int) (w : World) (h : Rd .u8 w v zs) (hok : ∀ z ∈ zs, 0 ≤ z ∧ z ≤ 255) (hlen : zs.length ≤ 2097152) : Calls Try.prog 13 #[v] w (DoD w) := by
  go_enter Try.func13, Try.ntmps13
  go_wp2_with (fail)
  refine (new_c v zs w h hok hlen).mono ?_
  rintro e w1 ⟨g, rfl, d1, hg1, b1⟩
  have HB1 : Hid (Below w.heap.size w w1) := b1
  have HG : Hid (w.heap.size ≤ g) := hg1
  have HD1 : Hid (Dc w1 w1 g v zs) := Dc.start d1
  clear d1 b1 hg1 h hok
  go_wp2_with (fail)
  refine (any_c g v zs w1 HD1.out.dr).mono ?_
  rintro e w2 ⟨u, ls, rfl, o2, l2, p2, d2⟩
  have HD2 : Hid (Dc w1 w2 g v zs) := d2
  have HO2 : Hid (Orr 31 w1.heap.size w2 u ls) := o2
  have HL : Hid (ls.length ≤ 7 ∧ ∀ r ∈ ls, r.pre.size ≤ 100 ∧ r.ad.size ≤ 100) := ⟨l2, p2⟩
  have HSZ : Hid (Szs ls) := fun r hr => ⟨by have := (p2 r hr).1; omega, by have := (p2 r hr).2; omega⟩
  clear d2 o2 l2 p2
  go_wp2_with (fail)
  refine (dialled27_c g v zs w1.heap.size u ls w2 HD2.out.dr HO2.out HD1.out.lt HL.out.1 HL.out.2).mono ?_
  rintro e w3 ⟨s, rfl, hs, d3⟩
  have HD3 : Hid (Dc w1 w3 g v zs) := HD2.out.draw d3.dr d3.gr
  have HO3 : Hid (Orr 31 w1.heap.size w3 u ls) := HO2.out.draw d3.gr HD2.out.lt
  clear d3 HD2 HO2
  obtain ⟨W4, hW4⟩ : ∃ W, w3.alloc (Obj.cells #[] 39) = W := ⟨_, rfl⟩
  have al : Below w3.heap.size w3 W4 := by rw [← hW4]; exact (Below.refl _ _).alloc (Nat.le_refl _) _
  have HD4 : Hid (Dc w1 W4 g v zs) := HD3.out.below al
  have HO4 : Hid (Orr 31 w1.heap.size W4 u ls) := HO3.out.below al
  have HQ4 : Hid (Opq 39 w1.heap.size W4 (.slice (some ⟨w3.heap.size, 0, none⟩) 0 0) []) := by rw [← hW4]; exact World.ownsRow_lit w3 #[] 0 HD3.out.gr.size (by simp) (by simp)
  obtain ⟨q0, hq0⟩ : ∃ v, Value.slice (some ⟨w3.heap.size, 0, none⟩) 0 0 = v := ⟨_, rfl⟩
  rw [hq0] at HQ4
  have HW4 : Hid (w3.alloc (Obj.cells #[] 39) = W4 ∧ Value.slice (some ⟨w3.heap.size, 0, none⟩) 0 0 = q0) := ⟨hW4, hq0⟩
  clear hW4 hq0 al HD3 HO3
  go_wp2_with (fail)
  rw [HW4.out.1, HW4.out.2]
  clear HW4
  refine (below_c g v zs _ _ HD4.out.dr (by omega)).mono ?_
  rintro e w5 ⟨t, rfl, t0, t1, -, d1, g1⟩
  have t2 := t1 (by omega)
  have HD5 : Hid (Dc w1 w5 g v zs) := HD4.out.draw d1 g1
  have HO5 : Hid (Orr 31 w1.heap.size w5 u ls) := HO4.out.draw g1 HD4.out.lt
  have HQ5 : Hid (Opq 39 w1.heap.size w5 q0 []) := HQ4.out.draw g1 HD4.out.lt
  clear d1 g1 t1 HD4 HO4 HQ4
  go_wp2
  go_loopw [8, 9, 10] (fun q ti i wr => ∃ (j : Nat) (ps : Prs) (tk : Int), ti = .int .i64 tk ∧ i = .int .i64 j ∧ Hid (j ≤ s.size ∧ ps.length = j ∧ 0 ≤ tk ∧ tk ≤ 50 + 12 * j) ∧ Hid (Szp ps) ∧ Hid (Orr 31 w1.heap.size wr u ls) ∧ Hid (Opq 39 w1.heap.size wr q ps) ∧ Hid (Dc w1 wr g v zs)) (fun _ _ i _ => s.size - (intOf i).toNat)
  case atStart => exact ⟨0, [], t, rfl, rfl, ⟨Nat.zero_le _, rfl, t0, by omega⟩, fun r hr => by simp at hr, HO5.out, HQ5.out, HD5.out⟩
  case round =>
    obtain ⟨j, ps, tk, rfl, rfl, hj, hP, hO, hQ, hD⟩ := hrel
    clear HO5 HQ5 HD5
    have hj1 := hj.out.1
    have hj3 := hj.out.2.2
    by_cases hlt : j < s.size
    case pos =>
      have hltI : (j : Int) < (s.size : Int) := by omega
      have hl1 : (j : Int) + 1 ≤ (s.size : Int) := by omega
      have hl0 : (0 : Int) ≤ (j : Int) := by omega
      obtain ⟨sub, hsub⟩ : ∃ x, s.extract j (j + 1) = x := ⟨_, rfl⟩
      have HSU : Hid (sub.size = 1) := by show _ = _; rw [← hsub, ByteArray.size_extract]; omega
      obtain ⟨gx, hgx⟩ : ∃ k, wr.heap.size = k := ⟨_, rfl⟩
      obtain ⟨WX, hWX⟩ : ∃ W, wr.alloc (Obj.cells (P2 ⟨tk, sub⟩) 39) = W := ⟨_, rfl⟩
      have al : Below wr.heap.size wr WX := by rw [← hWX]; exact (Below.refl _ _).alloc (Nat.le_refl _) _
      have KX : Hid (Blk WX gx (P2 ⟨tk, sub⟩) 39) := by rw [← hWX, ← hgx]; exact Blk.new _ _ _
      have HOX : Hid (Orr 31 w1.heap.size WX u ls) := hO.out.below al
      have HQX : Hid (Opq 39 w1.heap.size WX u8 ps) := hQ.out.below al
      have HDX : Hid (Dc w1 WX g v zs) := hD.out.below al
      have HWX : Hid (wr.alloc (Obj.cells (P2 ⟨tk, sub⟩) 39) = WX) := hWX
      have HGX : Hid (wr.heap.size = gx) := hgx
      have hsl : ∀ W : World, (Instr.slice 9 (.string s) (some (.int .i64 (j : Int))) (some (.int .i64 ((j : Int) + 1))) none).run Try.prog W = .ok (.string sub) W := fun W => by
        rw [run_slice_string (P := Try.prog) W 9 s .i64 .i64 (j : Int) ((j : Int) + 1) Try.underlying9 hl0 (by omega) hl1, ← hsub]
        congr 2
      clear al hWX hgx hsub hO hQ hD
      go_wp2_with (at_builtin; rw [HWX.out]; refine appQ rfl _ _ rfl w1.heap.size _ ps rfl HQX.out gx ⟨tk, sub⟩ (by rw [← HGX.out]; rfl) KX.out (by have := hj.out; omega) HDX.out.gr.size ?_)
      intro q' w6 ho hg
      have HQ6 : Hid (Opq 39 w1.heap.size w6 q' (ps ++ [⟨tk, sub⟩])) := ho
      have HO6 : Hid (Orr 31 w1.heap.size w6 u ls) := World.ownsRow.kept HOX.out hg (own_tag HOX.out HQX.out (by decide))
      have HD6 : Hid (Dc w1 w6 g v zs) := HDX.out.app (fun k e => (World.ownsRow.lt HQX.out k e).1) hg
      have HP6 : Hid (Szp (ps ++ [⟨tk, sub⟩])) := fun r hr => by
        rcases List.mem_append.1 hr with h | h
        · exact hP.out r h
        · rw [List.mem_singleton] at h; subst h; show sub.size ≤ _; have := HSU.out; omega
      clear ho hg HQX HOX HDX
      go_wp2_with (fail)
      refine (below_c g v zs _ _ HD6.out.dr (by omega)).mono ?_
      rintro e w7 ⟨y, rfl, y0, y1, -, d1, g1⟩
      have y2 := y1 (by omega)
      have HD7 : Hid (Dc w1 w7 g v zs) := HD6.out.draw d1 g1
      have HO7 : Hid (Orr 31 w1.heap.size w7 u ls) := HO6.out.draw g1 HD6.out.lt
      have HQ7 : Hid (Opq 39 w1.heap.size w7 q' (ps ++ [⟨tk, sub⟩])) := HQ6.out.draw g1 HD6.out.lt
      have HJ7 : Hid (j + 1 ≤ s.size ∧ (ps ++ [(⟨tk, sub⟩ : Pr)]).length = j + 1 ∧ 0 ≤ tk + y ∧ tk + y ≤ 50 + 12 * ((j + 1 : Nat) : Int)) := by
        have := hj.out; refine ⟨hlt, ?_, by omega, by omega⟩; rw [List.length_append]; simp only [List.length_singleton]; omega
      clear d1 g1 y1 HD6 HO6 HQ6
      go_wp2
      go_roundw
      case rel => exact ⟨j + 1, _, tk + y, rfl, by go_num, HJ7.out, HP6.out, HO7.out, HQ7.out, HD7.out⟩
      case measure => simp [intOf]; omega
    case neg =>
    have hltI : ((j : Int) < (s.size : Int)) = False := eq_false (by omega)
    have hltd : decide ((j : Int) < (s.size : Int)) = false := decide_eq_false (by omega)
    have HPL : Hid (ps.length ≤ 300) := by have := hj.out; show _ ≤ _; omega
    go_wp2_with (fail)
    refine (once_c g v zs _ _ hD.out.dr (by omega)).mono ?_
    rintro e w6 ⟨q, rfl, d1, g1⟩
    have HD6 : Hid (Dc w1 w6 g v zs) := hD.out.draw d1 g1
    have HO6 : Hid (Orr 31 w1.heap.size w6 u ls) := hO.out.draw g1 hD.out.lt
    have HQ6 : Hid (Opq 39 w1.heap.size w6 u8 ps) := hQ.out.draw g1 hD.out.lt
    clear d1 g1 hD hO hQ hltI hltd
    obtain ⟨a, cap, rfl, h1, h2, h3⟩ := own_form HQ6.out
    cases q
    case false =>
      obtain ⟨X, hX⟩ : ∃ X, w6.heap.size = X := ⟨_, rfl⟩
      obtain ⟨WL, hWL⟩ : ∃ W, w6.alloc (Obj.cells #[.int .i64 5, .int .i64 9, .int .i64 10, .int .i64 20, .int .i64 1000, .int .i64 0, .int .i64 1001, .int .i64 11] 3) = W := ⟨_, rfl⟩
      have HR : Hid (Rd .i64 WL (.slice (some ⟨X, 0, none⟩) 8 8) [5, 9, 10, 20, 1000, 0, 1001, 11]) := by rw [← hWL, ← hX]; exact Rd.lit w6 [5, 9, 10, 20, 1000, 0, 1001, 11] (by decide)
      have al : Below w6.heap.size w6 WL := by rw [← hWL]; exact (Below.refl _ _).alloc (Nat.le_refl _) _
      have HDL : Hid (Dc w1 WL g v zs) := HD6.out.below al
      have HOL : Hid (Orr 31 w1.heap.size WL u ls) := HO6.out.below al
      have HQL : Hid (Opq 39 w1.heap.size WL (.slice a ps.length cap) ps) := HQ6.out.below al
      have HGX : Hid (g < X) := by rw [← hX]; exact HD6.out.dr.lt
      have HWL : Hid (w6.alloc (Obj.cells #[.int .i64 5, .int .i64 9, .int .i64 10, .int .i64 20, .int .i64 1000, .int .i64 0, .int .i64 1001, .int .i64 11] 3) = WL ∧ w6.heap.size = X) := ⟨hWL, hX⟩
      clear hWL hX al HD6 HO6 HQ6
      go_wp2_with (fail)
      rw [HWL.out.1, HWL.out.2]
      refine (pickInt_c g v zs _ [5, 9, 10, 20, 1000, 0, 1001, 11] _ HDL.out.dr HR.out (.inr (by have := HGX.out; simp [Value.ownBlock]; omega)) (by decide) (by decide)).mono ?_
      rintro e w9 ⟨wt, rfl, -, d1, g1⟩
      have HD9 : Hid (Dc w1 w9 g v zs) := HDL.out.draw d1 g1
      have HO9 : Hid (Orr 31 w.heap.size w9 u ls) := (HOL.out.draw g1 HDL.out.lt).mono HB1.out.size
      have HQ9 : Hid (Opq 39 w.heap.size w9 (.slice a ps.length cap) ps) := (HQL.out.draw g1 HDL.out.lt).mono HB1.out.size
      clear d1 g1 HDL HOL HQL HR HGX HWL
      go_wp2
      go_ret3
      exact ⟨u, ls, _, ps, wt, rfl, HO9.out, HQ9.out, HSZ.out, hP.out, HPL.out, Dc.out_below HB1.out HG.out HD9.out⟩
    case true =>
    by_cases hn : ps.length = 0
    case pos =>
      rw [hn] at HQ6 ⊢
      clear h3 hn h1
      obtain ⟨X, hX⟩ : ∃ X, w6.heap.size = X := ⟨_, rfl⟩
      obtain ⟨WL, hWL⟩ : ∃ W, w6.alloc (Obj.cells #[.int .i64 5, .int .i64 9, .int .i64 10, .int .i64 20, .int .i64 1000, .int .i64 0, .int .i64 1001, .int .i64 11] 3) = W := ⟨_, rfl⟩
      have HR : Hid (Rd .i64 WL (.slice (some ⟨X, 0, none⟩) 8 8) [5, 9, 10, 20, 1000, 0, 1001, 11]) := by rw [← hWL, ← hX]; exact Rd.lit w6 [5, 9, 10, 20, 1000, 0, 1001, 11] (by decide)
      have al : Below w6.heap.size w6 WL := by rw [← hWL]; exact (Below.refl _ _).alloc (Nat.le_refl _) _
      have HDL : Hid (Dc w1 WL g v zs) := HD6.out.below al
      have HOL : Hid (Orr 31 w1.heap.size WL u ls) := HO6.out.below al
      have HQL : Hid (Opq 39 w1.heap.size WL (.slice a 0 cap) ps) := HQ6.out.below al
      have HGX : Hid (g < X) := by rw [← hX]; exact HD6.out.dr.lt
      have HWL : Hid (w6.alloc (Obj.cells #[.int .i64 5, .int .i64 9, .int .i64 10, .int .i64 20, .int .i64 1000, .int .i64 0, .int .i64 1001, .int .i64 11] 3) = WL ∧ w6.heap.size = X) := ⟨hWL, hX⟩
      clear hWL hX al HD6 HO6 HQ6
      go_wp2_with (fail)
      rw [HWL.out.1, HWL.out.2]
      refine (pickInt_c g v zs _ [5, 9, 10, 20, 1000, 0, 1001, 11] _ HDL.out.dr HR.out (.inr (by have := HGX.out; simp [Value.ownBlock]; omega)) (by decide) (by decide)).mono ?_
      rintro e w9 ⟨wt, rfl, -, d1, g1⟩
      have HD9 : Hid (Dc w1 w9 g v zs) := HDL.out.draw d1 g1
      have HO9 : Hid (Orr 31 w.heap.size w9 u ls) := (HOL.out.draw g1 HDL.out.lt).mono HB1.out.size
      have HQ9 : Hid (Opq 39 w.heap.size w9 (.slice a 0 cap) ps) := (HQL.out.draw g1 HDL.out.lt).mono HB1.out.size
      clear d1 g1 HDL HOL HQL HR HGX HWL
      go_wp2
      go_ret3
      exact ⟨u, ls, _, ps, wt, rfl, HO9.out, HQ9.out, HSZ.out, hP.out, HPL.out, Dc.out_below HB1.out HG.out HD9.out⟩
    case neg =>
    have e0 : decide ((0 : Int) < (ps.length : Int)) = true := decide_eq_true (by omega)
    have e0' : (0 : Int) < (ps.length : Int) := by omega
    rcases h3 with h3 | ⟨b, rfl⟩
    · exact absurd h3 hn
    obtain ⟨X, hX⟩ : ∃ X, w6.heap.size = X := ⟨_, rfl⟩
    obtain ⟨WL, hWL⟩ : ∃ W, w6.alloc (Obj.cells #[.int .i64 (-1), .int .i64 1000000000, .int .i64 1000000001] 3) = W := ⟨_, rfl⟩
    have HR : Hid (Rd .i64 WL (.slice (some ⟨X, 0, none⟩) 3 3) [-1, 1000000000, 1000000001]) := by rw [← hWL, ← hX]; exact Rd.lit w6 [-1, 1000000000, 1000000001] (by decide)
    have al : Below w6.heap.size w6 WL := by rw [← hWL]; exact (Below.refl _ _).alloc (Nat.le_refl _) _
    have HDL : Hid (Dc w1 WL g v zs) := HD6.out.below al
    have HOL : Hid (Orr 31 w1.heap.size WL u ls) := HO6.out.below al
    have HQL : Hid (Opq 39 w1.heap.size WL (.slice (some ⟨b, 0, none⟩) ps.length cap) ps) := HQ6.out.below al
    have HGX : Hid (g < X) := by rw [← hX]; exact HD6.out.dr.lt
    have HWL : Hid (w6.alloc (Obj.cells #[.int .i64 (-1), .int .i64 1000000000, .int .i64 1000000001] 3) = WL ∧ w6.heap.size = X) := ⟨hWL, hX⟩
    clear hWL hX al HD6 HO6 HQ6
    go_wp2_with (fail)
    rw [HWL.out.1, HWL.out.2]
    refine (pickInt_c g v zs _ [-1, 1000000000, 1000000001] _ HDL.out.dr HR.out (.inr (by have := HGX.out; simp [Value.ownBlock]; omega)) (by decide) (by decide)).mono ?_
    rintro e w7 ⟨x, rfl, -, d1, g1⟩
    have HD7 : Hid (Dc w1 w7 g v zs) := HDL.out.draw d1 g1
    have HO7 : Hid (Orr 31 w1.heap.size w7 u ls) := HOL.out.draw g1 HDL.out.lt
    have HQ7 : Hid (Opq 39 w1.heap.size w7 (.slice (some ⟨b, 0, none⟩) ps.length cap) ps) := HQL.out.draw g1 HDL.out.lt
    clear d1 g1 HDL HOL HQL HR HGX HWL
    obtain ⟨⟨ti, di⟩, pr, rfl⟩ : ∃ p pr, ps = p :: pr := by cases ps with | nil => exact absurd rfl hn | cons p pr => exact ⟨p, pr, rfl⟩
    have c0 : w7.cell? ⟨b, 0, none⟩ = some (.int .i64 ti) := by rw [World.ownsRow.cellAt HQ7.out 0 (by simp only [List.length_cons]; omega)]; rfl
    have f0 : w7.frozen? ⟨b, 0, none⟩ = false := World.ownsRow.frozenAt HQ7.out 0
    obtain ⟨W8, hW8⟩ : ∃ W, w7.setCell ⟨b, 0, none⟩ (.int .i64 x) = W := ⟨_, rfl⟩
    have HQ8 : Hid (Opq 39 w1.heap.size W8 (.slice (some ⟨b, 0, none⟩) (⟨ti, di⟩ :: pr : Prs).length cap) (⟨x, di⟩ :: pr)) := by
      have := (World.ownsRow.stored HQ7.out 0 (.int .i64 x)).1
      rw [hW8] at this; exact this
    have hgz : w7.grownBy W8 (some b) := by rw [← hW8]; exact grown_set _ _ _ _
    have HO8 : Hid (Orr 31 w1.heap.size W8 u ls) := World.ownsRow.kept HO7.out hgz (own_tag HO7.out HQ7.out (by decide))
    have HD8 : Hid (Dc w1 W8 g v zs) := HD7.out.app (fun k e => (World.ownsRow.lt HQ7.out k e).1) hgz
    have HP8 : Hid (Szp (⟨x, di⟩ :: pr)) := fun r hr => by
      rcases List.mem_cons.1 hr with h | h
      · subst h; exact hP.out ⟨ti, di⟩ (List.mem_cons_self ..)
      · exact hP.out r (List.mem_cons_of_mem _ h)
    obtain ⟨N, hN⟩ : ∃ N, (⟨ti, di⟩ :: pr : Prs).length = N := ⟨_, rfl⟩
    have HN : Hid ((⟨x, di⟩ :: pr : Prs).length = N) := hN
    have HPL8 : Hid ((⟨x, di⟩ :: pr : Prs).length ≤ 300) := HPL.out
    rw [hN] at e0 e0' HQ8 ⊢
    have HW8 : Hid (w7.setCell ⟨b, 0, none⟩ (.int .i64 x) = W8) := hW8
    clear hgz hW8 HQ7 HO7 HD7 hN hn h1 hP HPL
    obtain ⟨X, hX⟩ : ∃ X, W8.heap.size = X := ⟨_, rfl⟩
    obtain ⟨WL, hWL⟩ : ∃ W, W8.alloc (Obj.cells #[.int .i64 5, .int .i64 9, .int .i64 10, .int .i64 20, .int .i64 1000, .int .i64 0, .int .i64 1001, .int .i64 11] 3) = W := ⟨_, rfl⟩
    have HR : Hid (Rd .i64 WL (.slice (some ⟨X, 0, none⟩) 8 8) [5, 9, 10, 20, 1000, 0, 1001, 11]) := by rw [← hWL, ← hX]; exact Rd.lit W8 [5, 9, 10, 20, 1000, 0, 1001, 11] (by decide)
    have al : Below W8.heap.size W8 WL := by rw [← hWL]; exact (Below.refl _ _).alloc (Nat.le_refl _) _
    have HDL : Hid (Dc w1 WL g v zs) := HD8.out.below al
    have HOL : Hid (Orr 31 w1.heap.size WL u ls) := HO8.out.below al
    have HQL : Hid (Opq 39 w1.heap.size WL (.slice (some ⟨b, 0, none⟩) N cap) (⟨x, di⟩ :: pr)) := HQ8.out.below al
    have HGX : Hid (g < X) := by rw [← hX]; exact HD8.out.dr.lt
    have HWL : Hid (W8.alloc (Obj.cells #[.int .i64 5, .int .i64 9, .int .i64 10, .int .i64 20, .int .i64 1000, .int .i64 0, .int .i64 1001, .int .i64 11] 3) = WL ∧ W8.heap.size = X) := ⟨hWL, hX⟩
    clear hWL hX al HD8 HO8 HQ8
    have HX7 : Hid (w7.heap.size = X) := by have h1 := HWL.out.2; rw [← HW8.out] at h1; show w7.heap.size = X; simpa using h1
    go_wp2_with (fail)
    rw [HW8.out, HWL.out.1, HX7.out]
    refine (pickInt_c g v zs _ [5, 9, 10, 20, 1000, 0, 1001, 11] _ HDL.out.dr HR.out (.inr (by have := HGX.out; simp [Value.ownBlock]; omega)) (by decide) (by decide)).mono ?_
    rintro e w9 ⟨wt, rfl, -, d1, g1⟩
    have HD9 : Hid (Dc w1 w9 g v zs) := HDL.out.draw d1 g1
    have HO9 : Hid (Orr 31 w.heap.size w9 u ls) := (HOL.out.draw g1 HDL.out.lt).mono HB1.out.size
    have HQ9 : Hid (Opq 39 w.heap.size w9 (.slice (some ⟨b, 0, none⟩) N cap) (⟨x, di⟩ :: pr)) := (HQL.out.draw g1 HDL.out.lt).mono HB1.out.size
    clear d1 g1 HDL HOL HQL HR HGX HWL
    go_wp2
    go_ret3
    exact ⟨u, ls, _, (⟨x, di⟩ :: pr), wt, rfl, HO9.out, HQ9.out, HSZ.out, HP8.out, HPL8.out, Dc.out_below HB1.out HG.out HD9.out⟩
end Go.Proofs.Ytpnglbnebkggkaa
