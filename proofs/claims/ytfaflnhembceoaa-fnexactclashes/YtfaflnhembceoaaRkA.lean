/- Marks against subs; no condition. -/
import Derived.Test.YtfaflnhembceoaaSbZ
import Derived.Test.YtfaflnhembceoaaSlI
import Derived.Test.YtfaflnhembceoaaOpS
namespace Go.Proofs.Ytfaflnhembceoaa
open Go.RowKit Go.ChangeShapes Go.WideShapes Go.ChangeAt
set_option linter.unusedVariables false
set_option linter.unusedSimpArgs false
set_option maxRecDepth 8000
/-- nothing was written but between lo and hi, and new blocks -/
structure Mid (lo hi : Nat) (w w' : World) : Prop where
  os : w'.os = w.os
  tape : w'.tape = w.tape
  output : w'.output = w.output
  size : w.heap.size ≤ w'.heap.size
  block : ∀ k, k < w.heap.size → (k < lo ∨ hi ≤ k) → w'.heap[k]? = w.heap[k]?
theorem Mid.refl (lo hi : Nat) (w : World) : Mid lo hi w w := ⟨rfl, rfl, rfl, Nat.le_refl _, fun _ _ _ => rfl⟩
theorem Mid.trans {lo hi : Nat} {a b c : World} (h : Mid lo hi a b) (h' : Mid lo hi b c) : Mid lo hi a c :=
  ⟨h'.os.trans h.os, h'.tape.trans h.tape, h'.output.trans h.output, Nat.le_trans h.size h'.size, fun k hk ho => (h'.block k (Nat.lt_of_lt_of_le hk h.size) ho).trans (h.block k hk ho)⟩
theorem Mid.ofGrown {lo hi : Nat} {w w' : World} {row : Option Nat} (h : w.grownBy w' row) (hr : ∀ k, row = some k → lo ≤ k ∧ k < hi) : Mid lo hi w w' :=
  ⟨h.os, h.tape, h.output, h.size, fun k hk ho => h.block k hk (fun e => by have := hr k e.symm; omega)⟩
theorem Mid.ofBelow {lo hi : Nat} {w w' : World} (h : Below w.heap.size w w') : Mid lo hi w w' := ⟨h.os, h.tape, h.output, h.size, fun k hk _ => h.block k hk⟩
theorem Mid.below {lo hi : Nat} {w w' : World} (h : Mid lo hi w w') (hlo : lo ≤ w.heap.size) : Below lo w w' := ⟨h.os, h.tape, h.output, h.size, fun k hk => h.block k (by omega) (.inl hk)⟩
theorem Mid.mono {lo hi lo' hi' : Nat} {w w' : World} (h : Mid lo hi w w') (h1 : lo' ≤ lo) (h2 : hi ≤ hi') : Mid lo' hi' w w' := ⟨h.os, h.tape, h.output, h.size, fun k hk ho => h.block k hk (by omega)⟩
/-- what lies outside is kept -/
theorem ownsRow_mid {lo hi base : Nat} {w w' : World} {e : TypeId} {s : Nat} {v : Value} {n : Nat} {xs : List Value} (h : w.ownsRow base e s v n xs) (hm : Mid lo hi w w') (ho : ∀ k, v.ownBlock = some k → k < lo ∨ hi ≤ k) : w'.ownsRow base e s v n xs := by
  refine ⟨h.1, ?_⟩
  rcases h.2 with h2 | ⟨g, cap, cur, hv, hg, hb, r⟩
  · exact .inl h2
  · subst hv
    exact .inr ⟨g, cap, cur, rfl, hg, by rw [hm.block g (Blk.lt hb) (ho g rfl)]; exact hb, r⟩
theorem Blk.mid {lo hi : Nat} {w w' : World} {g : Nat} {cs : Array Value} {t : TypeId} (h : Blk w g cs t) (hm : Mid lo hi w w') (ho : g < lo ∨ hi ≤ g) : Blk w' g cs t := by
  rw [Blk, hm.block g h.lt ho]; exact h
def OwH (base hi : Nat) (w : World) (v : Value) (zs : List Int) : Prop := Ow .i64 3 base w v zs ∧ ∀ k, v.ownBlock = some k → k < hi
theorem Ow.toH {base : Nat} {w : World} {v : Value} {zs : List Int} (h : Ow .i64 3 base w v zs) : OwH base w.heap.size w v zs := ⟨h, fun k e => (World.ownsRow.lt h k e).2⟩
theorem OwH.below {base hi : Nat} {w w' : World} {v : Value} {zs : List Int} (h : OwH base hi w v zs) (hb : Below w.heap.size w w') : OwH base hi w' v zs := ⟨h.1.below hb, h.2⟩
theorem OwH.mid {base hi lo' hi' : Nat} {w w' : World} {v : Value} {zs : List Int} (h : OwH base hi w v zs) (hm : Mid lo' hi' w w') (ho : hi ≤ lo' ∨ hi' ≤ base) : OwH base hi w' v zs :=
  ⟨ownsRow_mid h.1 hm (fun k e => by have := h.2 k e; have := (World.ownsRow.lt h.1 k e).1; omega), h.2⟩
theorem OwH.rd {base hi : Nat} {w : World} {v : Value} {zs : List Int} (h : OwH base hi w v zs) : Rd .i64 w v zs := h.1.rd
theorem markH (v : Value) (zs : List Int) (q : Int) (base hi : Nat) (w : World) (h : OwH base hi w v zs) (h0 : 0 ≤ q) (hq : q + zs.length ≤ 1152921504606846976) :
   Calls Try.prog 35 #[v, .int .i64 q] w fun e w' => e = .returned (.int .i64 (q + zs.length)) ∧ OwH base hi w' v (marks .i64 q zs.length) ∧ Mid base hi w w' :=
  (markI v zs q base w h.1 h0 hq).mono fun e w' ⟨he, ho, hg⟩ => ⟨he, ⟨ho, h.2⟩, Mid.ofGrown hg fun k e => ⟨(World.ownsRow.lt h.1 k e).1, h.2 k e⟩⟩
/-- subs owned from base on, below hi, whatever their features are -/
def OwX (base hi : Nat) (w : World) (v : Value) (cs : Sbs) : Prop :=
  ∃ (lv : List V3) (cs' : Sbs), lv.length = cs.length ∧ cs'.length = cs.length ∧ Oq 35 base w v lv ∧ OwL base w v.ownBlock lv cs' ∧ (∀ k, v.ownBlock = some k → k < hi) ∧ (∀ i (h : i < lv.length) k, lv[i].2.2.ownBlock = some k → k < hi) ∧
    ∀ i (h : i < cs.length) (h' : i < cs'.length), cs'[i].2.2.length = cs[i].2.2.length
theorem OwS.toX {base : Nat} {w : World} {v : Value} {cs : Sbs} (h : OwS base w v cs) : OwX base w.heap.size w v cs := by
  obtain ⟨lv, h1, h2, h3⟩ := h
  exact ⟨lv, cs, h1, rfl, h2, h3, fun k e => (World.ownsRow.lt h2 k e).2, fun i hi k e => (World.ownsRow.lt (h3 i hi (by omega)).2.2.1 k e).2, fun _ _ _ => rfl⟩
theorem OwX.below {base hi : Nat} {w w' : World} {v : Value} {cs : Sbs} (h : OwX base hi w v cs) (hb : Below w.heap.size w w') : OwX base hi w' v cs := by
  obtain ⟨lv, cs', h1, h2, h3, h4, h5⟩ := h
  exact ⟨lv, cs', h1, h2, h3.below hb, h4.grown (below_grown hb) (.inl rfl), h5⟩
theorem OwL.mark {base : Nat} {w1 w2 : World} {blk : Option Nat} {lv : List V3} {cs : Sbs} (h : OwL base w1 blk lv cs) {j : Nat} (hj : j < lv.length) (hj' : j < cs.length) (b b2 : Bool) (ls' : Fts) (hg : w1.grownBy w2 lv[j].2.2.ownBlock) (hO : Op mf mg 37 base w2 lv[j].2.2 ls') :
    OwL base w2 blk (lv.set j (.bool b, .bool b2, lv[j].2.2)) (cs.set j (b, b2, ls')) := by
  intro i hi hi'
  have hi1 : i < lv.length := by simpa using hi
  have hi2 : i < cs.length := by simpa using hi'
  obtain ⟨q1, q1', q2, q3, q4⟩ := h i hi1 hi2
  by_cases e : i = j
  · subst e
    refine ⟨by simp, by simp, by simpa using hO, by simpa using q3, fun t ht hti => ?_⟩
    have ht1 : t < lv.length := by simpa using ht
    have hne2 : ¬ i = t := by omega
    simp only [List.getElem_set_ne hne2, List.getElem_set_self]
    exact q4 t ht1 hti
  · have hne : ¬ j = i := fun h => e h.symm
    refine ⟨by rw [List.getElem_set_ne hne, List.getElem_set_ne hne]; exact q1, by rw [List.getElem_set_ne hne, List.getElem_set_ne hne]; exact q1', ?_, by rw [List.getElem_set_ne hne]; exact q3, fun t ht hti => ?_⟩
    · rw [List.getElem_set_ne hne, List.getElem_set_ne hne]
      refine World.ownsRow.kept q2 hg ?_
      rcases Nat.lt_or_ge j i with hl | hl
      · exact q4 j hj hl
      · have := (h j hj hj').2.2.2.2 i hi1 (by omega)
        cases hv : lv[i].2.2.ownBlock with
        | none => exact .inl rfl
        | some k =>
          refine .inr fun e2 => ?_
          rcases this with h0 | h0
          · rw [h0] at e2; cases e2
          · exact h0 (by rw [hv]; exact e2.symm)
    · have ht1 : t < lv.length := by simpa using ht
      rw [List.getElem_set_ne hne]
      by_cases e3 : t = j
      · subst e3; simpa using q4 t ht1 hti
      · rw [List.getElem_set_ne (fun h => e3 h.symm)]; exact q4 t ht1 hti
theorem tq_set12 : ∀ (l : List V3) (i : Nat) (x y : Value) (h : i < l.length), ((tq l).set (i * 3) x).set (i * 3 + 1) y = tq (l.set i (x, y, l[i].2.2))
  | z :: r, 0, x, y, _ => by simp [tq]
  | z :: r, i + 1, x, y, h => by
    have := tq_set12 r i x y (by simpa using h)
    rw [show (i + 1) * 3 = i * 3 + 3 by omega]
    simpa [tq] using this
theorem own_set12 {e : TypeId} {base b cap : Nat} {w : World} {ls : List V3} (h : Oq e base w (.slice (some ⟨b, 0, none⟩) ls.length cap) ls) (j : Nat) (hj : j < ls.length) (x y : Value) :
    Oq e base ((w.setCell ⟨b, j * 3, none⟩ x).setCell ⟨b, j * 3 + 1, none⟩ y) (.slice (some ⟨b, 0, none⟩) ls.length cap) (ls.set j (x, y, ls[j].2.2)) := by
  have h1 := (World.ownsRow.stored h (j * 3) x).1
  have h2 := (World.ownsRow.stored h1 (j * 3 + 1) y).1
  rw [tq_set12 ls j x y hj] at h2
  rw [Oq, List.length_set]; exact h2
def MsR (base hi : Nat) (w : World) (e : Ending) (w' : World) : Prop := ∃ k : Int, e = .returned (.int .i64 k) ∧ 0 ≤ k ∧ Mid base hi w w'
set_option maxHeartbeats 3200000 in
theorem markSubS_c (v : Value) (cs : Sbs) (q : Int) (base hi : Nat) (w : World) (h : OwX base hi w v cs) (h0 : 0 ≤ q) (hq : q ≤ 16) (hz : cs.length + ftsTo cs cs.length ≤ 1048576) :
   Calls Try.prog 27 #[v, .int .i64 q] w (MsR base hi w) := by
  have hh := h
  have HZ : Hid (cs.length + ftsTo cs cs.length ≤ 1048576) := hz
  obtain ⟨lv0, cs0, hl0, -, ho0, -, hvb, -⟩ := h
  rcases ho0.2 with ⟨rfl, hn⟩ | ⟨g, cap, cur, rfl, hb, hg, hnc, hcm, hcs, ht⟩
  · obtain rfl : cs = [] := List.eq_nil_of_length_eq_zero (by omega)
    clear hn ho0
    go_enter Try.func27, Try.ntmps27
    go_wp2
    refine wp_loop_rounds 1 ?_
    rw [rounds_succ]
    go_wp2
    go_ret
    exact ⟨_, rfl, h0, Mid.refl _ _ _⟩
  · have hgb := hvb g rfl
    rw [hl0] at hnc ⊢
    obtain ⟨n, hn⟩ : ∃ n, cs.length = n := ⟨_, rfl⟩
    have HN : Hid (cs.length = n) := hn
    rw [hl0] at hh
    rw [hn] at hnc hh ⊢
    have HH : Hid (OwX base hi w (.slice (some ⟨g, 0, none⟩) n cap) cs) := hh
    clear ho0 hg hcs ht hvb hl0 hh hz hn
    unfold maxLen at hcm
    go_enter Try.func27, Try.ntmps27
    go_wp2
    go_loopw [1, 5] (fun c i wr => ∃ (j : Nat) (k : Int), j ≤ n ∧ i = .int .i64 j ∧ c = .int .i64 k ∧ Hid (k = q + 2 * j + 2 * ftsTo cs j) ∧ Hid (OwX base hi wr (.slice (some ⟨g, 0, none⟩) n cap) cs) ∧ Hid (Mid base hi w wr)) (fun _ i _ => n - (intOf i).toNat)
    case atStart => exact ⟨0, q, Nat.zero_le _, rfl, rfl, by show q = _; simp [ftsTo], HH.out, Mid.refl _ _ _⟩
    case round =>
      obtain ⟨j, k, hj, rfl, rfl, HK, hw, hbr⟩ := hrel
      have hk0 : 0 ≤ k := by have := HK.out; omega
      by_cases hlt : j < n
      · obtain ⟨lv, cs', l1, l1', l2, l3, l4, l5, l6⟩ := hw.out
        have hnc2 := HN.out
        have hjl : j < lv.length := by omega
        have hjc : j < cs'.length := by omega
        have l2' : Oq 35 base wr (.slice (some ⟨g, 0, none⟩) lv.length cap) lv := by rw [show lv.length = n by omega]; exact l2
        obtain ⟨q1, q1', q2, q3, q4⟩ := l3 j hjl hjc
        have hlen : cs'[j].2.2.length = cs[j].2.2.length := l6 j (by omega) hjc
        have hstep : ftsTo cs (j + 1) = ftsTo cs j + cs[j].2.2.length := by simp [ftsTo, List.getElem?_eq_getElem (show j < cs.length by omega)]
        have hmo := ftsTo_mono cs (j + 1) cs.length (by omega)
        have hkb : k + 1 + 1 + 2 * cs'[j].2.2.length ≤ 4194304 := by have := HK.out; have := HZ.out; omega
        have HKN : Hid (k + 1 + 1 + 2 * (cs'[j].2.2.length : Int) = q + 2 * ((j + 1 : Nat) : Int) + 2 * ftsTo cs (j + 1)) := by have := HK.out; show _ = _; omega
        obtain ⟨x, hx⟩ : ∃ x, lv[j].2.2 = x := ⟨_, rfl⟩
        obtain ⟨L, hL⟩ : ∃ L, cs'[j].2.2.length = L := ⟨_, rfl⟩
        rw [hx] at q2 q3
        have hp := tq_at lv j hjl
        obtain ⟨y0, d0⟩ : ∃ u, wr.cell? ⟨g, j * 3, none⟩ = some u := ⟨_, (World.ownsRow.cellAt l2' (j * 3) (by omega)).trans hp.1⟩
        obtain ⟨y1, d1⟩ : ∃ u, wr.cell? ⟨g, j * 3 + 1, none⟩ = some u := ⟨_, (World.ownsRow.cellAt l2' (j * 3 + 1) (by omega)).trans hp.2.1⟩
        have d2 : wr.cell? ⟨g, j * 3 + 2, none⟩ = some x := by rw [← hx]; exact (World.ownsRow.cellAt l2' (j * 3 + 2) (by omega)).trans hp.2.2
        have f0 := World.ownsRow.frozenAt l2' (j * 3)
        have f1 := World.ownsRow.frozenAt l2' (j * 3 + 1)
        obtain ⟨b1, hb1⟩ : ∃ b1, (k % 3 == 0) = b1 := ⟨_, rfl⟩
        obtain ⟨b2, hb2⟩ : ∃ b2, ((k + 1) % 3 == 0) = b2 := ⟨_, rfl⟩
        obtain ⟨W2, hW2⟩ : ∃ W, (wr.setCell ⟨g, j * 3, none⟩ (.bool b1)).setCell ⟨g, j * 3 + 1, none⟩ (.bool b2) = W := ⟨_, rfl⟩
        have gW : wr.grownBy W2 (some g) := hW2 ▸ grown_trans (grown_set wr _ _ _) (grown_set _ _ _ _)
        have qn : x.ownBlock = none ∨ x.ownBlock ≠ some g := q3
        have q2' := World.ownsRow.kept q2 gW qn
        have hs12 := own_set12 l2' j hjl (.bool b1) (.bool b2)
        rw [hW2, hx] at hs12
        have d3 : W2.cell? ⟨g, j * 3 + 2, none⟩ = some x := by
          have hp2 := tq_at (lv.set j (.bool b1, .bool b2, x)) j (by simpa using hjl)
          have hs13 := hs12
          rw [Oq, List.length_set] at hs13
          have := (World.ownsRow.cellAt hs13 (j * 3 + 2) (by omega)).trans hp2.2.2
          simpa using this
        have HM : Hid (Calls Try.prog 60 #[x, .int .i64 (k + 1 + 1)] W2 fun e w' => e = .returned (.int .i64 (k + 1 + 1 + 2 * cs'[j].2.2.length)) ∧ Op mf mg 37 base w' x (mkM (k + 1 + 1) cs'[j].2.2.length) ∧ W2.grownBy w' x.ownBlock) := markFeatureS_c x cs'[j].2.2 (k + 1 + 1) base _ q2' (by omega) (by omega)
        rw [hL] at HM hkb HKN
        have HXB : Hid (∀ k, x.ownBlock = some k → base ≤ k ∧ k < hi) := fun k e => ⟨(World.ownsRow.lt q2 k e).1, l5 j hjl k (by rw [hx]; exact e)⟩
        have FINI : Hid (∀ w3, Op mf mg 37 base w3 x (mkM (k + 1 + 1) L) → W2.grownBy w3 x.ownBlock → OwX base hi w3 (.slice (some ⟨g, 0, none⟩) n cap) cs ∧ Mid base hi wr w3) := by
          intro w3 o3 g3
          have m3 := (l3.grown gW (.inr rfl)).mark hjl hjc b1 b2 (mkM (k + 1 + 1) L) (by rw [hx]; exact g3) (by rw [hx]; exact o3)
          rw [hx] at m3
          refine ⟨⟨_, _, by simp; omega, by simp; omega, ?_, m3, l4, fun i hi2 t e => ?_, fun i h1 h2 => ?_⟩, (Mid.ofGrown gW (fun t e => by cases e; exact ⟨hb, hgb⟩)).trans (Mid.ofGrown g3 (fun t e => HXB.out t e))⟩
          · have := World.ownsRow.kept hs12 g3 (by
              rcases qn with h | h
              · rw [h]; exact .inr (by simp [Value.ownBlock])
              · exact .inr (fun e => h (by rw [← e]; rfl)))
            rw [List.length_set] at this
            rw [Oq, List.length_set]
            rw [show lv.length = n by omega] at this ⊢
            exact this
          · by_cases hij : i = j
            · subst hij
              simp at e
              exact (HXB.out t e).2
            · rw [List.getElem_set_ne (fun h => hij h.symm)] at e
              exact l5 i (by simpa using hi2) t e
          · by_cases hij : i = j
            · subst hij
              simp [mkM_len]; omega
            · rw [List.getElem_set_ne (fun h => hij h.symm)]
              exact l6 i h1 (by simpa using h2)
        obtain ⟨ax, nx, cx, rfl⟩ : ∃ a n c, x = .slice a n c := by
          obtain ⟨a, c, hv, -⟩ := own_form q2
          exact ⟨a, _, c, hv⟩
        have hk3 : k % 3 = k % 3 := rfl
        clear hw l1 l1' l2 l2' l3 l4 l5 l6 q1 q1' q2 q2' q3 q4 hp hx hs12 gW qn hL hstep hmo hlen hnc2 hk3
        clear d2
        go_wp2_with (fail)
        refine HM.out.mono ?_
        rintro e w3 ⟨rfl, o3, g3⟩
        have HFI : Hid (OwX base hi w3 (.slice (some ⟨g, 0, none⟩) n cap) cs ∧ Mid base hi wr w3) := FINI.out w3 o3 g3
        have HMD : Hid (Mid base hi w w3) := hbr.out.trans HFI.out.2
        clear o3 g3 HM HXB FINI d0 d1 d3 f0 f1 hW2 hb1 hb2
        go_wp2
        go_roundw
        case rel => exact ⟨j + 1, _, by omega, by go_num, rfl, HKN.out, HFI.out.1, HMD.out⟩
        case measure => simp [intOf]; omega
      · obtain rfl : j = n := by omega
        go_wp2
        go_ret
        exact ⟨_, rfl, hk0, hbr.out⟩
end Go.Proofs.Ytfaflnhembceoaa
