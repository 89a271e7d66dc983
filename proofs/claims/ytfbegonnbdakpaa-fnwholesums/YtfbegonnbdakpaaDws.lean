/- Whole samples, drawn; no condition. -/
import Derived.Test.YtfbegonnbdakpaaSms
import Derived.Test.YtfbegonnbdakpaaExb
import Derived.Test.YtfbegonnbdakpaaDra
namespace Go.Proofs.Ytfbegonnbdakpaa
open Go.RowKit Go.ChangeShapes Go.WideShapes Go.ChangeAt
set_option linter.unusedVariables false
set_option linter.unusedSimpArgs false
set_option maxRecDepth 8000
theorem smC_one {ls : List (Nat × Nat)} : ∀ u ∈ ls.flatMap smC, u.oneCell' = true := by
  intro u hu
  obtain ⟨x, -, hx⟩ := List.mem_flatMap.1 hu
  simp only [smC, List.mem_cons, List.not_mem_nil, or_false] at hx
  rcases hx with rfl | rfl <;> rfl
theorem Og.draw {α : Type} {n : Nat} {c : α → List Value} {e : TypeId} {base g : Nat} {W W' : World} {v : Value} {ls : List α} (h : Og n c e base W v ls) (hg : W.grownBy W' (some g)) (hlt : g < base) : Og n c e base W' v ls :=
  World.ownsRow.kept h hg (by
    cases hv : v.ownBlock with
    | none => exact .inl rfl
    | some k => exact .inr (fun e => by have := (World.ownsRow.lt h k hv).1; have := Option.some.inj e; omega))
theorem appSm {ops : Array Oper} {rest : List Oper} {o : Oper} {a : Act} {w : World} {Q : Exit → Act → World → Prop} (hgd : o.guard = none) (s x : Operand)
    (ho : o.op = .call { callee := .builtin .append, args := #[s, x], argTypes := #[35, 35] }) (base : Nat) (v : Value) (l0 : List (Nat × Nat)) (hs : a.eval s = v) (hown : Og 2 smC 26 base w v l0)
    (g p r : Nat) (hx : a.eval x = .slice (some ⟨g, 0, none⟩) 1 1) (hk : Blk w g #[.float .f32 p, .float .f32 r] 26) (hl : l0.length ≤ 1000000) (hbase : base ≤ w.heap.size)
    (h : ∀ v' w', Og 2 smC 26 base w' v' (l0 ++ [(p, r)]) → w.grownBy w' v.ownBlock → wpList Try.prog ops Q rest (a.put o.dst v') w') : wpList Try.prog ops Q (o :: rest) a w := by
  obtain ⟨i0, hi, hz0, hz1, hz2⟩ := info_parts infoSm
  refine wpList_append_own w hgd s x 35 ho base 26 i0 (.agg #[.float .f32 0, .float .f32 0]) 2 8 Try.underlying35 hi hz0 hz1 hz2 rfl (by decide) v l0.length (l0.flatMap smC) hs hown ⟨g, 0, none⟩ 1 1 ([(p, r)].flatMap smC) hx rfl ?_ smC_one ?_ ?_ hbase ?_
  · intro j u hu
    rw [addr_add, hk.cell]
    simpa [smC] using hu
  · unfold maxLen; omega
  · omega
  · intro v' w' g1 g2 g3
    refine h v' w' ?_ g2
    rw [Og, List.flatMap_append, List.length_append]; exact g1
/-- whole samples: parts of at most 100 -/
def fl (ns : List (Int × Int)) : List (Nat × Nat) := ns.map fun p => (fi .f32 p.1, fi .f32 p.2)
def Wh (ns : List (Int × Int)) : Prop := ns.length ≤ 40 ∧ ∀ p ∈ ns, p.1.natAbs ≤ 100 ∧ p.2.natAbs ≤ 100
def WsR (w : World) (e : Ending) (w' : World) : Prop := ∃ v ns, e = .returned v ∧ Rg 2 smC w' v (fl ns) ∧ Wh ns ∧ Below w.heap.size w w'
set_option maxHeartbeats 6400000 in
theorem drawWs_c (v : Value) (zs : List Int) (w : World) (h : Rd .u8 w v zs) (hok : ∀ z ∈ zs, 0 ≤ z ∧ z ≤ 255) (hlen : zs.length ≤ 1048576) : Calls Try.prog 27 #[v] w (WsR w) := by
  have HR : Hid (Rd .u8 w v zs ∧ (∀ z ∈ zs, 0 ≤ z ∧ z ≤ 255) ∧ zs.length ≤ 2097152) := ⟨h, hok, by omega⟩
  clear h hok hlen
  have hsf := storeF
  go_enter Try.func27, Try.ntmps27
  go_wp2_with (fail)
  refine (new_c v zs w HR.out.1 HR.out.2.1 HR.out.2.2).mono ?_
  rintro e w0 ⟨g, rfl, d0, hg0, b0⟩
  have HB0 : Hid (Below w.heap.size w w0) := b0
  have HG0 : Hid (w.heap.size ≤ g) := hg0
  have D0 : Hid (Dc w0 w0 g v zs) := Dc.start d0
  clear b0 hg0 d0
  obtain ⟨P, hP⟩ : ∃ P, w0.heap.size = P := ⟨_, rfl⟩
  have HP : Hid (w0.heap.size = P) := hP
  obtain ⟨W1, hW1⟩ : ∃ W, w0.alloc (Obj.cells #[] 26) = W := ⟨_, rfl⟩
  have HW1 : Hid (w0.alloc (Obj.cells #[] 26) = W1) := hW1
  have D1 : Hid (Dc w0 W1 g v zs) := by rw [← hW1]; exact D0.out.below ((Below.refl _ _).alloc (Nat.le_refl _) _)
  have O1 : Hid (Og 2 smC 26 P W1 (.slice (some ⟨P, 0, none⟩) 0 0) (fl [])) := by rw [← hW1, ← hP]; exact World.ownsRow_lit w0 #[] 0 (Nat.le_refl _) (by simp) (by simp)
  clear hW1 hP
  go_wp2_with (fail)
  rw [HW1.out]
  refine (below_c g v zs 40 _ D1.out.dr (by omega)).mono ?_
  rintro e w2 ⟨i, rfl, hi0, hi1, hi2, d2, g2⟩
  have hi1 := hi1 (by omega)
  have D2 : Hid (Dc w0 w2 g v zs) := D1.out.draw d2 g2
  have O2 : Hid (Og 2 smC 26 P w2 (.slice (some ⟨P, 0, none⟩) 0 0) (fl [])) := O1.out.draw g2 (by have := D1.out.lt; have := HP.out; omega)
  clear d2 g2 D1 O1 hi2
  go_wp2
  go_loopw [4, 5] (fun u i wr => ∃ (n : Nat) (ns : List (Int × Int)), i = .int .i64 n ∧ n ≤ 40 ∧ ns.length + n ≤ 40 ∧ Hid (Og 2 smC 26 P wr u (fl ns) ∧ Dc w0 wr g v zs ∧ Wh ns)) (fun _ i _ => (intOf i).toNat)
  case atStart =>
    refine ⟨i.toNat, [], by rw [Int.toNat_of_nonneg hi0], by omega, by simp; omega, ⟨?_, D2.out, by simp, by simp⟩⟩
    rw [HP.out]; exact O2.out
  case round =>
    obtain ⟨n, ns, rfl, hn7, hln, hh⟩ := hrel
    clear D2 O2
    obtain ⟨oa, oc, rfl⟩ := hh.out.1.form
    have HH : Hid (Og 2 smC 26 P wr (.slice oa (fl ns).length oc) (fl ns) ∧ Dc w0 wr g v zs ∧ Wh ns) := hh
    clear hh
    by_cases hpos : n = 0
    · subst hpos
      go_wp2
      go_ret
      refine ⟨_, ns, rfl, HH.out.1.rd smC_len, HH.out.2.2, ?_⟩
      exact HB0.out.trans (grown_below HH.out.2.1.gr HB0.out.size (fun k hk => by have := Option.some.inj hk; have := HG0.out; omega))
    have hposI : (0 : Int) < (n : Int) := by omega
    clear hpos hi0 hi1
    go_wp2_with (fail)
    refine (below_c g v zs 201 _ HH.out.2.1.dr (by omega)).mono ?_
    rintro e w3 ⟨a, rfl, ha0, ha1, ha2, d3, g3⟩
    have ha1 := ha1 (by omega)
    have HH3 : Hid (Og 2 smC 26 P w3 (.slice oa (fl ns).length oc) (fl ns) ∧ Dc w0 w3 g v zs) := ⟨HH.out.1.draw g3 (by have := HH.out.2.1.lt; have := HP.out; omega), HH.out.2.1.draw d3 g3⟩
    clear d3 g3 ha2
    go_wp2_with (fail)
    refine (below_c g v zs 201 _ HH3.out.2.dr (by omega)).mono ?_
    rintro e w4 ⟨b, rfl, hb0, hb1, hb2, d4, g4⟩
    have hb1 := hb1 (by omega)
    have HH4 : Hid (Og 2 smC 26 P w4 (.slice oa (fl ns).length oc) (fl ns) ∧ Dc w0 w4 g v zs) := ⟨HH3.out.1.draw g4 (by have := HH3.out.2.lt; have := HP.out; omega), HH3.out.2.draw d4 g4⟩
    clear d4 g4 hb2
    obtain ⟨pa, hpa⟩ : ∃ x, floatOfInt .f32 (a - 100) = x := ⟨_, rfl⟩
    obtain ⟨pb, hpb⟩ : ∃ x, floatOfInt .f32 (b - 100) = x := ⟨_, rfl⟩
    have HPA : Hid (pa = fi .f32 (a - 100) ∧ pb = fi .f32 (b - 100)) := ⟨hpa.symm, hpb.symm⟩
    obtain ⟨W5, hW5⟩ : ∃ W, w4.alloc (Obj.cells #[.float .f32 pa, .float .f32 pb] 26) = W := ⟨_, rfl⟩
    have HW5 : Hid (w4.alloc (Obj.cells #[.float .f32 pa, .float .f32 pb] 26) = W5) := hW5
    have HS5 : Hid (w4.heap.size < W5.heap.size ∧ P ≤ w4.heap.size) := by rw [← hW5, ← HP.out]; exact ⟨by simp, HH4.out.2.gr.size⟩
    have HH5 : Hid (Og 2 smC 26 P W5 (.slice oa (fl ns).length oc) (fl ns) ∧ Dc w0 W5 g v zs) := by
      have ba : Below w4.heap.size w4 W5 := by rw [← hW5]; exact (Below.refl _ _).alloc (Nat.le_refl _) _
      exact ⟨HH4.out.1.below ba, HH4.out.2.below ba⟩
    have HK5 : Hid (Blk W5 w4.heap.size #[.float .f32 pa, .float .f32 pb] 26) := by rw [← hW5]; exact Blk.new _ _ _
    have HLN : Hid ((fl ns).length ≤ 1000) := by show _ ≤ _; simp [fl]; omega
    clear hW5
    go_wp2_with (at_builtin; rw [HW5.out]; refine appSm rfl _ _ rfl P _ (fl ns) rfl HH5.out.1 w4.heap.size pa pb rfl HK5.out (by have := HLN.out; omega) (by have := HS5.out; omega) ?_)
    intro u5 w6 o6 g6
    have HO6 : Hid (Og 2 smC 26 P w6 u5 (fl (ns ++ [(a - 100, b - 100)]))) := by
      have e : fl (ns ++ [(a - 100, b - 100)]) = fl ns ++ [(pa, pb)] := by rw [HPA.out.1, HPA.out.2]; simp [fl]
      rw [e]; exact o6
    have HD6 : Hid (Dc w0 w6 g v zs) := HH5.out.2.app (row := (Value.slice oa (fl ns).length oc).ownBlock) (fun k hk => by have := (HH5.out.1.lt k hk).1; have := HP.out; omega) g6
    have HWh : Hid (Wh (ns ++ [(a - 100, b - 100)])) := by
      refine ⟨by simp; omega, fun p hp => ?_⟩
      rcases List.mem_append.1 hp with hp | hp
      · exact HH.out.2.2.2 p hp
      · simp at hp; subst hp; simp only; omega
    clear o6 g6 hpa hpb
    go_wp2
    go_roundw
    case rel => exact ⟨n - 1, ns ++ [(a - 100, b - 100)], by go_num, by omega, by simp; omega, HO6.out, HD6.out, HWh.out⟩
    case measure => simp [intOf]; omega

end Go.Proofs.Ytfbegonnbdakpaa
