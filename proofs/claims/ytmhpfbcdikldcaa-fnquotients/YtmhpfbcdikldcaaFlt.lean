/- Rows whose elements have a fixed number of cells; no condition. -/
import Derived.Test.YtmhpfbcdikldcaaMixE
import Derived.Test.YtmhpfbcdikldcaaSl
import Derived.Deep.MidRow
namespace Go.Proofs.Ytmhpfbcdikldcaa
open Go.RowKit Go.ChangeShapes Go.WideShapes Go.ChangeAt
set_option linter.unusedVariables false
set_option linter.unusedSimpArgs false
set_option maxRecDepth 8000
section
variable {α : Type}
theorem fm_len {c : α → List Value} {n : Nat} (hc : ∀ x, (c x).length = n) : ∀ ls : List α, (ls.flatMap c).length = ls.length * n
  | [] => by simp
  | x :: r => by rw [List.flatMap_cons, List.length_append, hc, fm_len hc r, List.length_cons, Nat.succ_mul, Nat.add_comm]
theorem fm_at {c : α → List Value} {n : Nat} (hc : ∀ x, (c x).length = n) : ∀ (ls : List α) (i k : Nat) (h : i < ls.length), k < n → (ls.flatMap c)[i * n + k]? = (c ls[i])[k]?
  | x :: r, 0, k, _, hk => by
    rw [List.flatMap_cons, List.getElem?_append_left (by rw [hc]; omega)]; simp
  | x :: r, i + 1, k, h, hk => by
    have := fm_at hc r i k (by simpa using h) hk
    rw [List.flatMap_cons, List.getElem?_append_right (by rw [hc, Nat.succ_mul]; omega), hc, show (i + 1) * n + k - n = i * n + k by rw [Nat.succ_mul]; omega, this]
    simp
/-- cells that are put one behind the other -/
def setL (l : List Value) (o : Nat) : List Value → List Value
  | [] => l
  | v :: r => setL (l.set o v) (o + 1) r
def setW (w : World) (b o : Nat) : List Value → World
  | [] => w
  | v :: r => setW (w.setCell ⟨b, o, none⟩ v) b (o + 1) r
theorem setL_len : ∀ (vs l : List Value) (o : Nat), (setL l o vs).length = l.length
  | [], l, o => rfl
  | v :: r, l, o => by rw [setL, setL_len r]; simp
theorem setL_get : ∀ (vs l : List Value) (o i : Nat), (setL l o vs)[i]? = if o ≤ i ∧ i < o + vs.length ∧ i < l.length then vs[i - o]? else l[i]?
  | [], l, o, i => by rw [setL, if_neg (by simp; omega)]
  | v :: r, l, o, i => by
    rw [setL, setL_get r, List.getElem?_set]
    simp only [List.length_set, List.length_cons]
    by_cases h1 : i = o
    · subst h1
      by_cases h2 : i < l.length
      · rw [if_neg (by omega), if_pos (by omega)]; simp [h2]
      · rw [if_neg (by omega)]; simp [h2]
    · by_cases h2 : o ≤ i ∧ i < o + (r.length + 1) ∧ i < l.length
      · rw [if_pos (by omega), if_pos h2, show i - o = (i - (o + 1)) + 1 by omega]; simp
      · rw [if_neg (by omega), if_neg h2, if_neg (by omega)]
theorem fm_set {c : α → List Value} {n : Nat} (hc : ∀ x, (c x).length = n) (ls : List α) (i : Nat) (x : α) (hi : i < ls.length) : setL (ls.flatMap c) (i * n) (c x) = (ls.set i x).flatMap c := by
  apply List.ext_getElem?
  intro j
  rw [setL_get, hc, fm_len hc]
  by_cases hj : j < ls.length * n
  · have hn : 0 < n := by
      rcases Nat.eq_zero_or_pos n with h | h
      · subst h; simp at hj
      · exact h
    have hq : j / n < ls.length := (Nat.div_lt_iff_lt_mul hn).2 hj
    have he : j = j / n * n + j % n := by rw [Nat.mul_comm]; exact (Nat.div_add_mod j n).symm
    have hm : j % n < n := Nat.mod_lt _ hn
    obtain ⟨a, ha⟩ : ∃ a, a = j / n := ⟨_, rfl⟩
    obtain ⟨b, hb⟩ : ∃ b, b = j % n := ⟨_, rfl⟩
    rw [← ha] at hq he
    rw [← hb] at hm he
    clear ha hb
    subst he
    rw [fm_at hc (ls.set i x) a b (by simpa using hq) hm]
    by_cases hai : a = i
    · subst hai
      rw [if_pos ⟨by omega, by omega, hj⟩, show a * n + b - a * n = b by omega]; simp
    · have hne : ¬ (i * n ≤ a * n + b ∧ a * n + b < i * n + n ∧ a * n + b < ls.length * n) := by
        rintro ⟨h1, h2, -⟩
        rcases Nat.lt_or_gt_of_ne hai with h | h
        · have := Nat.mul_le_mul_right n (show a + 1 ≤ i by omega)
          rw [Nat.succ_mul] at this; omega
        · have := Nat.mul_le_mul_right n (show i + 1 ≤ a by omega)
          rw [Nat.succ_mul] at this; omega
      rw [if_neg hne, fm_at hc ls a b hq hm]
      simp [List.getElem_set, Ne.symm hai]
  · rw [if_neg (by omega), List.getElem?_eq_none (by rw [fm_len hc]; omega), List.getElem?_eq_none (by rw [fm_len hc]; simp; omega)]
theorem fm_rep {c : α → List Value} {n : Nat} (hc : ∀ x, (c x).length = n) (hn : 0 < n) (x : α) (z : Array Value) (hz : z = (c x).toArray) (m : Nat) : (madeCells z (m * n)).toList = (List.replicate m x).flatMap c := by
  subst hz
  apply List.ext_getElem?
  intro j
  by_cases hj : j < m * n
  · have hq : j / n < m := (Nat.div_lt_iff_lt_mul hn).2 hj
    have he : j = j / n * n + j % n := by rw [Nat.mul_comm]; exact (Nat.div_add_mod j n).symm
    have hm : j % n < n := Nat.mod_lt _ hn
    have h1 := fm_at hc (List.replicate m x) (j / n) (j % n) (by simpa using hq) hm
    rw [← he] at h1
    rw [h1]
    have hs : ((c x).toArray).size = n := by simpa using hc x
    simp [madeCells, List.getElem?_range hj, hc x]
    rw [List.getElem?_eq_getElem (by rw [hc]; exact hm)]; simp
  · rw [List.getElem?_eq_none (by simp [madeCells]; omega), List.getElem?_eq_none (by rw [fm_len hc]; simp; omega)]
/-- the slice v reads as the elements ls, of n cells each -/
def Rg (n : Nat) (c : α → List Value) (w : World) (v : Value) (ls : List α) : Prop :=
  ∃ a cap, v = .slice a ls.length cap ∧ ls.length ≤ cap ∧ cap ≤ maxLen ∧ (ls = [] ∨ ∃ b off, a = some ⟨b, off, none⟩ ∧ ∀ i (h : i < ls.length), w.rangeAt b (off + i * n) (c ls[i]))
/-- the slice v, among the blocks from base on, owns the elements ls -/
def Og (n : Nat) (c : α → List Value) (e : TypeId) (base : Nat) (w : World) (v : Value) (ls : List α) : Prop := w.ownsRow base e n v ls.length (ls.flatMap c)
theorem rangeAt_grown {w w' : World} {b o : Nat} {cs : List Value} {row : Option Nat} (h : w.rangeAt b o cs) (hg : w.grownBy w' row) (hne : some b ≠ row) : w'.rangeAt b o cs := fun j v hv => by
  have h1 := h j v hv
  exact (World.cell?_of_block (w := w) (hg.block b (block_lt_of_cell h1) hne)).trans h1
theorem rangeAt_below {B : Nat} {w w' : World} {b o : Nat} {cs : List Value} (h : w.rangeAt b o cs) (hb : Below B w w') (hB : b < B) : w'.rangeAt b o cs := fun j v hv =>
  (World.cell?_of_block (w := w) (hb.block b hB)).trans (h j v hv)
theorem Rg.grown {n : Nat} {c : α → List Value} {w w' : World} {v : Value} {ls : List α} {row : Option Nat} (h : Rg n c w v ls) (hg : w.grownBy w' row) (hne : ls = [] ∨ v.ownBlock = none ∨ v.ownBlock ≠ row) : Rg n c w' v ls := by
  obtain ⟨a, cap, rfl, h1, h2, h3⟩ := h
  refine ⟨a, cap, rfl, h1, h2, ?_⟩
  rcases h3 with h3 | ⟨b, off, rfl, h4⟩
  · exact .inl h3
  · rcases hne with hne | hne
    · exact .inl hne
    exact .inr ⟨b, off, rfl, fun i hi => rangeAt_grown (h4 i hi) hg (by simpa [Value.ownBlock] using hne)⟩
theorem Rg.below {n : Nat} {c : α → List Value} {w w' : World} {v : Value} {ls : List α} (h : Rg n c w v ls) (hb : Below w.heap.size w w') : Rg n c w' v ls :=
  h.grown (row := none) ⟨hb.os, hb.tape, hb.output, hb.size, fun j hj _ => hb.block j hj⟩ (by cases v.ownBlock <;> simp)
theorem Rg.blk {n : Nat} {c : α → List Value} (hc : ∀ x, (c x).length = n) (hn : 0 < n) {w : World} {v : Value} {ls : List α} (h : Rg n c w v ls) : ls = [] ∨ ∀ k, v.ownBlock = some k → k < w.heap.size := by
  obtain ⟨a, cap, rfl, h1, h2, h3⟩ := h
  rcases h3 with h3 | ⟨b, off, rfl, h4⟩
  · exact .inl h3
  · by_cases h0 : ls = []
    · exact .inl h0
    · have hp : 0 < ls.length := List.length_pos_iff.2 h0
      have hcell := h4 0 hp 0 _ (List.getElem?_eq_getElem (by rw [hc]; exact hn))
      refine .inr fun k hk => ?_
      simp [Value.ownBlock] at hk
      subst hk
      exact block_lt_of_cell hcell
/-- what is read stays, where nothing below B is written -/
theorem Rg.keep {n : Nat} {c : α → List Value} (hc : ∀ x, (c x).length = n) (hn : 0 < n) {w w' : World} {v : Value} {ls : List α} (h : Rg n c w v ls) (hb : Below w.heap.size w w') : Rg n c w' v ls := h.below hb
theorem Og.below {n : Nat} {c : α → List Value} {e : TypeId} {base : Nat} {w w' : World} {v : Value} {ls : List α} (h : Og n c e base w v ls) (hb : Below w.heap.size w w') : Og n c e base w' v ls :=
  World.ownsRow.kept (row := none) h ⟨hb.os, hb.tape, hb.output, hb.size, fun j hj _ => hb.block j hj⟩ (by cases v.ownBlock <;> simp)
theorem Og.rd {n : Nat} {c : α → List Value} (hc : ∀ x, (c x).length = n) {e : TypeId} {base : Nat} {w : World} {v : Value} {ls : List α} (h : Og n c e base w v ls) : Rg n c w v ls := by
  rcases h.2 with ⟨rfl, hn⟩ | ⟨b, cap, cur, rfl, hb, hg, hnc, hcm, hcs, ht⟩
  · exact ⟨none, 0, by rw [hn], by omega, by simp, .inl (List.eq_nil_of_length_eq_zero hn)⟩
  · refine ⟨_, cap, rfl, hnc, hcm, .inr ⟨b, 0, rfl, fun i hi j u hu => ?_⟩⟩
    have hj : j < n := by have := (List.getElem?_eq_some_iff.1 hu).1; rw [hc] at this; exact this
    have h0 := World.ownsRow.cellAt h (i * n + j) (by
      have := Nat.mul_le_mul_right n (show i + 1 ≤ ls.length by omega)
      rw [Nat.succ_mul] at this; omega)
    rw [Nat.zero_add, h0, fm_at hc ls i j hi hj]; exact hu
theorem Og.mono {n : Nat} {c : α → List Value} {e : TypeId} {base base' : Nat} {w : World} {v : Value} {ls : List α} (h : Og n c e base w v ls) (hb : base' ≤ base) : Og n c e base' w v ls := by
  refine ⟨h.1, ?_⟩
  rcases h.2 with h2 | ⟨b, cap, cur, hv, hg, r⟩
  · exact .inl h2
  · exact .inr ⟨b, cap, cur, hv, by omega, r⟩
theorem Og.nil (n : Nat) (c : α → List Value) (e : TypeId) (base : Nat) (w : World) : Og n c e base w (.slice none 0 0) [] := World.ownsRow_nil w base e n
theorem own_setW {n : Nat} {e : TypeId} {base b cap m : Nat} : ∀ (vs : List Value) {w : World} {xs : List Value} (o : Nat), w.ownsRow base e n (.slice (some ⟨b, 0, none⟩) m cap) m xs → (setW w b o vs).ownsRow base e n (.slice (some ⟨b, 0, none⟩) m cap) m (setL xs o vs)
  | [], w, xs, o, h => h
  | v :: r, w, xs, o, h => own_setW r (o + 1) (World.ownsRow.stored h o v).1
theorem own_setg {n : Nat} {c : α → List Value} (hc : ∀ x, (c x).length = n) {e : TypeId} {base b cap : Nat} {w : World} {ls : List α} (h : Og n c e base w (.slice (some ⟨b, 0, none⟩) ls.length cap) ls) (j : Nat) (hj : j < ls.length) (x : α) :
    Og n c e base (setW w b (j * n) (c x)) (.slice (some ⟨b, 0, none⟩) ls.length cap) (ls.set j x) := by
  have h1 := own_setW (c x) (j * n) h
  rw [fm_set hc ls j x hj] at h1
  rw [Og, List.length_set]; exact h1
theorem grown_set' (w : World) (g k : Nat) (x : Value) : w.grownBy (w.setCell ⟨g, k, none⟩ x) (some g) :=
  ⟨rfl, rfl, rfl, by simp, fun i _ hi => heap_setCell_other w ⟨g, k, none⟩ i x (fun e => hi (by simp [e]))⟩
theorem grown_setW : ∀ (vs : List Value) (w : World) (b o : Nat), w.grownBy (setW w b o vs) (some b)
  | [], w, b, o => grown_refl _ _
  | v :: r, w, b, o => grown_trans (grown_set' w b o v) (grown_setW r _ b (o + 1))
theorem below_setW {B : Nat} {a w : World} (h : Below B a w) (g o : Nat) (hg : B ≤ g) (vs : List Value) : Below B a (setW w g o vs) := by
  have g1 := grown_setW vs w g o
  exact h.trans ⟨g1.os, g1.tape, g1.output, g1.size, fun k hk => setW_out vs w g o k (by omega) trivial⟩
where
  setW_out : ∀ (vs : List Value) (w : World) (g o k : Nat), k ≠ g → True → (setW w g o vs).heap[k]? = w.heap[k]?
  | [], w, g, o, k, h, _ => rfl
  | v :: r, w, g, o, k, h, _ => by
    rw [setW, setW_out r _ g (o + 1) k h trivial]
    exact heap_setCell_other w ⟨g, o, none⟩ k v h
theorem Og.lt {n : Nat} {c : α → List Value} {e : TypeId} {base : Nat} {w : World} {v : Value} {ls : List α} (h : Og n c e base w v ls) (k : Nat) (hk : v.ownBlock = some k) : base ≤ k ∧ k < w.heap.size := World.ownsRow.lt h k hk
theorem Og.form {n : Nat} {c : α → List Value} {e : TypeId} {base : Nat} {w : World} {v : Value} {ls : List α} (h : Og n c e base w v ls) : ∃ a cap, v = .slice a ls.length cap := by
  rcases h.2 with ⟨rfl, hn⟩ | ⟨b, cap, cur, rfl, -⟩
  · exact ⟨none, 0, by rw [hn]⟩
  · exact ⟨_, _, rfl⟩
theorem Rg.take {n : Nat} {c : α → List Value} {w : World} {b off cap : Nat} {ls : List α} (h : ∀ i (h : i < ls.length), w.rangeAt b (off + i * n) (c ls[i])) (hc : ls.length ≤ cap) (hm : cap ≤ maxLen) (j : Nat) (hj : j ≤ ls.length) : Rg n c w (.slice (some ⟨b, off, none⟩) j cap) (ls.take j) := by
  have hl : (ls.take j).length = j := by simp; omega
  refine ⟨_, cap, by rw [hl], by rw [hl]; omega, hm, .inr ⟨b, off, rfl, fun i hi => ?_⟩⟩
  have := h i (by omega)
  simpa using this
theorem fm_news {n : Nat} {c : α → List Value} (hc : ∀ x, (c x).length = n) {w : World} {b off : Nat} {ls : List α} (h4 : ∀ i (h : i < ls.length), w.rangeAt b (off + i * n) (c ls[i])) :
    ∀ j u, (ls.flatMap c)[j]? = some u → w.cell? ((⟨b, off, none⟩ : Addr).add j) = some u := by
  intro j u hu
  have hj : j < ls.length * n := by have := (List.getElem?_eq_some_iff.1 hu).1; rw [fm_len hc] at this; exact this
  have hn : 0 < n := by
    rcases Nat.eq_zero_or_pos n with h | h
    · subst h; simp at hj
    · exact h
  have hq : j / n < ls.length := (Nat.div_lt_iff_lt_mul hn).2 hj
  have he : j = j / n * n + j % n := by rw [Nat.mul_comm]; exact (Nat.div_add_mod j n).symm
  have hm : j % n < n := Nat.mod_lt _ hn
  rw [Addr.add_lit, he, ← Nat.add_assoc]
  rw [he, fm_at hc ls _ _ hq hm] at hu
  exact h4 _ hq _ _ hu
def filg (x : α) (ls : List α) (j : Nat) : List α := ls.take j ++ List.replicate (ls.length - j) x
theorem filg_len (x : α) (ls : List α) (j : Nat) (h : j ≤ ls.length) : (filg x ls j).length = ls.length := by simp [filg]; omega
theorem filg_full (x : α) (ls : List α) : filg x ls ls.length = ls := by simp [filg]
theorem filg_set (x : α) (ls : List α) (j : Nat) (h : j < ls.length) : (filg x ls j).set j ls[j] = filg x ls (j + 1) := by
  have e : List.replicate (ls.length - j) x = x :: List.replicate (ls.length - (j + 1)) x := by
    rw [show ls.length - j = (ls.length - (j + 1)) + 1 by omega, List.replicate_succ]
  have t : ls.take (j + 1) = ls.take j ++ [ls[j]] := by rw [List.take_succ_eq_append_getElem h]
  have hm : min j ls.length = j := by omega
  rw [filg, filg, e]
  simp [List.set_append, hm]
  rw [t, List.append_assoc]; rfl
/-- the elements f 0, f 1, .. of the marks, the rest as it was -/
def mkg (f : Nat → α) (n : Nat) : List α := (List.range n).map f
theorem mkg_len (f : Nat → α) (n : Nat) : (mkg f n).length = n := by simp [mkg]
theorem mkg_succ (f : Nat → α) (n : Nat) : mkg f (n + 1) = mkg f n ++ [f n] := by simp [mkg, List.range_succ]
theorem mkg_at (f : Nat → α) (n i : Nat) (h : i < (mkg f n).length) : (mkg f n)[i] = f i := by simp [mkg]
theorem mkg_set (f : Nat → α) (ls : List α) (j : Nat) (h : j < ls.length) : (mkg f j ++ ls.drop j).set j (f j) = mkg f (j + 1) ++ ls.drop (j + 1) := by
  rw [List.drop_eq_getElem_cons h, mkg_succ, List.set_append]
  simp only [mkg_len, Nat.lt_irrefl, if_false, Nat.sub_self, List.set_cons_zero, List.append_assoc, List.cons_append, List.nil_append]
end
/-- nothing was written but blocks of X, and new blocks -/
structure Fr (X : Nat → Prop) (w w' : World) : Prop where
  os : w'.os = w.os
  tape : w'.tape = w.tape
  output : w'.output = w.output
  size : w.heap.size ≤ w'.heap.size
  block : ∀ k, k < w.heap.size → ¬ X k → w'.heap[k]? = w.heap[k]?
theorem Fr.refl (X : Nat → Prop) (w : World) : Fr X w w := ⟨rfl, rfl, rfl, Nat.le_refl _, fun _ _ _ => rfl⟩
theorem Fr.trans {X : Nat → Prop} {a b c : World} (h : Fr X a b) (h' : Fr X b c) : Fr X a c :=
  ⟨h'.os.trans h.os, h'.tape.trans h.tape, h'.output.trans h.output, Nat.le_trans h.size h'.size, fun k hk ho => (h'.block k (Nat.lt_of_lt_of_le hk h.size) ho).trans (h.block k hk ho)⟩
theorem Fr.mono {X Y : Nat → Prop} {w w' : World} (h : Fr X w w') (hx : ∀ k, k < w.heap.size → X k → Y k) : Fr Y w w' := ⟨h.os, h.tape, h.output, h.size, fun k hk ho => h.block k hk (fun e => ho (hx k hk e))⟩
theorem Fr.ofGrown {X : Nat → Prop} {w w' : World} {row : Option Nat} (h : w.grownBy w' row) (hr : ∀ k, row = some k → X k) : Fr X w w' :=
  ⟨h.os, h.tape, h.output, h.size, fun k hk ho => h.block k hk (fun e => ho (hr k e.symm))⟩
theorem Fr.ofBelow {X : Nat → Prop} {w w' : World} (h : Below w.heap.size w w') : Fr X w w' := ⟨h.os, h.tape, h.output, h.size, fun k hk _ => h.block k hk⟩
theorem Fr.below {X : Nat → Prop} {B : Nat} {w w' : World} (h : Fr X w w') (hB : B ≤ w.heap.size) (hx : ∀ k, X k → B ≤ k) : Below B w w' := ⟨h.os, h.tape, h.output, h.size, fun k hk => h.block k (by omega) (fun e => by have := hx k e; omega)⟩
theorem ownsRow_fr {X : Nat → Prop} {base : Nat} {w w' : World} {e : TypeId} {s : Nat} {v : Value} {n : Nat} {xs : List Value} (h : w.ownsRow base e s v n xs) (hm : Fr X w w') (ho : ∀ k, v.ownBlock = some k → ¬ X k) : w'.ownsRow base e s v n xs := by
  refine ⟨h.1, ?_⟩
  rcases h.2 with h2 | ⟨g, cap, cur, hv, hg, hb, r⟩
  · exact .inl h2
  · subst hv
    exact .inr ⟨g, cap, cur, rfl, hg, by rw [hm.block g (Blk.lt hb) (ho g rfl)]; exact hb, r⟩
theorem Blk.fr {X : Nat → Prop} {w w' : World} {g : Nat} {cs : Array Value} {t : TypeId} (h : Blk w g cs t) (hm : Fr X w w') (ho : ¬ X g) : Blk w' g cs t := by
  rw [Blk, hm.block g h.lt ho]; exact h
/-- two slices that share no block -/
def Apart (v v' : Value) : Prop := ∀ k, v.ownBlock = some k → v'.ownBlock ≠ some k
end Go.Proofs.Ytmhpfbcdikldcaa
