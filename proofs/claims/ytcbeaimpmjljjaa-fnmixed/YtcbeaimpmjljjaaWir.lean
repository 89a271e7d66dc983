/- The program's own panel: what it is that a block holds one; no condition. -/
import Derived.Test.YtcbeaimpmjljjaaPanO
import Derived.Test.YtcbeaimpmjljjaaChan
import Derived.Maps.AppendAt
import Derived.Laws.EntriesVeiled
import Derived.WideLaws
namespace Go.Proofs.Ytcbeaimpmjljjaa
open Go.RowKit Go.ChangeShapes Go.WideShapes Go.ChangeAt
set_option linter.unusedVariables false
set_option linter.unusedSimpArgs false
abbrev Legs2 := List (Int × Bool)
/-- what a block of the program's panel is for -/
structure Tag where
  kind : Nat
  of : Nat
abbrev Tag.root : Tag := ⟨0, 0⟩
abbrev Tag.wires : Tag := ⟨1, 0⟩
abbrev Tag.lines : Tag := ⟨2, 0⟩
abbrev Tag.calls : Tag := ⟨3, 0⟩
abbrev Tag.call (p : Nat) : Tag := ⟨4, p⟩
abbrev Tag.legs (p : Nat) : Tag := ⟨5, p⟩
abbrev Tag.other : Tag := ⟨6, 0⟩
/-- a slice's own block, if it has one, is for that -/
def On (ρ : Nat → Tag) (v : Value) (t : Tag) : Prop := ∀ k, v.ownBlock = some k → ρ k = t
abbrev wl (chs : List Nat) : Int × Bool → Value := fun x => .chan (some (chs.getD x.1.toNat 0))
abbrev ptr (p : Nat) : Value := .pointer (some ⟨p, 0, none⟩)
/-- block p is a call -/
def WCall (base : Nat) (ρ : Nat → Tag) (chs : List Nat) (w : World) (p : Nat) (c : Bool × Legs2) : Prop :=
  ∃ lv, Blk w p #[.bool c.1, lv] 125 ∧ base ≤ p ∧ ρ p = .call p ∧ Op (wl chs) lg 128 base w lv c.2 ∧ On ρ lv (.legs p)
/-- block g is a panel -/
structure Wr (base : Nat) (ρ : Nat → Tag) (chs : List Nat) (w : World) (g : Nat) (ps : List Nat) (cs : Calls2) : Prop where
  ex : ∃ wv gm cv, Blk w g #[wv, .map (some gm), cv] 103 ∧ base ≤ g ∧ ρ g = .root ∧
    w.ownsRow base 98 1 wv chs.length (chs.map fun c => .chan (some c)) ∧ On ρ wv .wires ∧
    ChMap w gm chs ∧ base ≤ gm ∧ ρ gm = .lines ∧ w.ownsRow base 95 1 cv ps.length (ps.map ptr) ∧ On ρ cv .calls
  len : ps.length = cs.length
  nd : ps.Nodup
  call : ∀ i (h : i < ps.length) (h' : i < cs.length), WCall base ρ chs w ps[i] cs[i]
  nod : chs.Nodup
  old : ∀ c ∈ chs, c < w.heap.size
  lines : ∀ c ∈ cs, ∀ x ∈ c.2, 0 ≤ x.1 ∧ x.1 < chs.length
/-- old blocks but those of a kind are as they were -/
def Keeps (ρ : Nat → Tag) (T : Tag → Prop) (w w' : World) : Prop := w.heap.size ≤ w'.heap.size ∧ ∀ k, k < w.heap.size → ¬ T (ρ k) → w'.heap[k]? = w.heap[k]?
theorem Keeps.ofBelow {ρ : Nat → Tag} {T : Tag → Prop} {w w' : World} (h : Below w.heap.size w w') : Keeps ρ T w w' := ⟨h.size, fun k hk _ => h.block k hk⟩
theorem Keeps.ofGrown {ρ : Nat → Tag} {T : Tag → Prop} {w w' : World} {row : Option Nat} (h : w.grownBy w' row) (hr : ∀ k, row = some k → T (ρ k)) : Keeps ρ T w w' :=
  ⟨h.size, fun k hk hn => h.block k hk (fun e => hn (hr k e.symm))⟩
theorem Keeps.trans {ρ ρ' : Nat → Tag} {T : Tag → Prop} {a b c : World} (h : Keeps ρ T a b) (h' : Keeps ρ' T b c) (hag : ∀ k, k < a.heap.size → ρ' k = ρ k) : Keeps ρ T a c :=
  ⟨Nat.le_trans h.1 h'.1, fun k hk hn => (h'.2 k (Nat.lt_of_lt_of_le hk h.1) (by rw [hag k hk]; exact hn)).trans (h.2 k hk hn)⟩
theorem Keeps.set {ρ : Nat → Tag} {T : Tag → Prop} {w : World} (a : Addr) (v : Value) (h : T (ρ a.block)) : Keeps ρ T w (w.setCell a v) :=
  ⟨by simp, fun k hk hn => heap_setCell_other w a k v (fun e => hn (by rw [e]; exact h))⟩
/-- rows and blocks that are kept -/
theorem ownsRow_keeps {ρ : Nat → Tag} {T : Tag → Prop} {w w' : World} (hk : Keeps ρ T w w') {base : Nat} {e : TypeId} {s : Nat} {v : Value} {n : Nat} {xs : List Value} {t : Tag} (h : w.ownsRow base e s v n xs) (hon : On ρ v t) (ht : ¬ T t) : w'.ownsRow base e s v n xs := by
  refine ⟨h.1, ?_⟩
  rcases h.2 with h2 | ⟨g, cap, cur, hv, hg, hb, r⟩
  · exact .inl h2
  · subst hv
    have hlt := Blk.lt hb
    exact .inr ⟨g, cap, cur, rfl, hg, by rw [hk.2 g hlt (by rw [hon g rfl]; exact ht)]; exact hb, r⟩
theorem on_keeps {ρ ρ' : Nat → Tag} {w : World} {base : Nat} {e : TypeId} {s : Nat} {v : Value} {n : Nat} {xs : List Value} {t : Tag} (h : w.ownsRow base e s v n xs) (hon : On ρ v t) (hag : ∀ k, k < w.heap.size → ρ' k = ρ k) : On ρ' v t := by
  intro k hk
  rw [hag k (World.ownsRow.lt h k hk).2]; exact hon k hk
theorem blk_keeps {ρ : Nat → Tag} {T : Tag → Prop} {w w' : World} (hk : Keeps ρ T w w') {g : Nat} {cs : Array Value} {t : TypeId} (h : Blk w g cs t) (ht : ¬ T (ρ g)) : Blk w' g cs t := by
  rw [Blk, hk.2 g h.lt ht]; exact h
theorem WCall.keeps {ρ ρ' : Nat → Tag} {T : Tag → Prop} {w w' : World} (hk : Keeps ρ T w w') {base : Nat} {chs : List Nat} {p : Nat} {c : Bool × Legs2} (h : WCall base ρ chs w p c) (h1 : ¬ T (.call p)) (h2 : ¬ T (.legs p)) (hag : ∀ k, k < w.heap.size → ρ' k = ρ k) : WCall base ρ' chs w' p c := by
  obtain ⟨lv, hb, hp, ht, ho, hon⟩ := h
  exact ⟨lv, blk_keeps hk hb (by rw [ht]; exact h1), hp, by rw [hag p hb.lt]; exact ht, ownsRow_keeps hk ho hon h2, on_keeps ho hon hag⟩
theorem ChMap.keeps {ρ : Nat → Tag} {T : Tag → Prop} {w w' : World} (hk : Keeps ρ T w w') {g : Nat} {chs : List Nat} (h : ChMap w g chs) (ht : ¬ T (ρ g)) : ChMap w' g chs := by
  obtain ⟨es, clock, hb, he⟩ := h
  have hlt : g < w.heap.size := by
    by_cases hlt : g < w.heap.size
    · exact hlt
    · rw [Array.getElem?_eq_none (by omega)] at hb; cases hb
  exact ⟨es, clock, by rw [hk.2 g hlt ht]; exact hb, he⟩
/-- nothing of the panel was written -/
theorem Wr.keeps {base : Nat} {ρ ρ' : Nat → Tag} {chs : List Nat} {w w' : World} {g : Nat} {ps : List Nat} {cs : Calls2} (h : Wr base ρ chs w g ps cs) {T : Tag → Prop} (hk : Keeps ρ T w w') (hT : ∀ t, T t → t = .other) (hag : ∀ k, k < w.heap.size → ρ' k = ρ k) : Wr base ρ' chs w' g ps cs := by
  obtain ⟨⟨wv, gm, cv, b0, b1, b2, r1, o1, m1, m2, m3, r2, o2⟩, h2, h3, h4, h5, h6, h7⟩ := h
  have n : ∀ t, t ≠ .other → ¬ T t := fun t ht h => ht (hT t h)
  have hgm : gm < w.heap.size := by
    obtain ⟨es, clock, hb, he⟩ := m1
    by_cases hlt : gm < w.heap.size
    · exact hlt
    · rw [Array.getElem?_eq_none (by omega)] at hb; cases hb
  exact ⟨⟨wv, gm, cv, blk_keeps hk b0 (by rw [b2]; exact n _ (by simp)), b1, by rw [hag g b0.lt]; exact b2, ownsRow_keeps hk r1 o1 (n _ (by simp)), on_keeps r1 o1 hag, m1.keeps hk (by rw [m3]; exact n _ (by simp)), m2, by rw [hag gm hgm]; exact m3, ownsRow_keeps hk r2 o2 (n _ (by simp)), on_keeps r2 o2 hag⟩,
    h2, h3, fun i hi hi' => (h4 i hi hi').keeps hk (n _ (by simp)) (n _ (by simp)) hag, h5, fun c hc => Nat.lt_of_lt_of_le (h6 c hc) hk.1, h7⟩
theorem Wr.below {base : Nat} {ρ : Nat → Tag} {chs : List Nat} {w w' : World} {g : Nat} {ps : List Nat} {cs : Calls2} (h : Wr base ρ chs w g ps cs) (hb : Below w.heap.size w w') : Wr base ρ chs w' g ps cs :=
  h.keeps (T := fun _ => False) (Keeps.ofBelow hb) (fun _ h => h.elim) (fun _ _ => rfl)
/-- call i was written, and nothing else -/
theorem Wr.put {base : Nat} {ρ ρ' : Nat → Tag} {chs : List Nat} {w w' : World} {g : Nat} {ps : List Nat} {cs : Calls2} (h : Wr base ρ chs w g ps cs) (i : Nat) (hi : i < ps.length) (hk : Keeps ρ (fun t => t = .call ps[i] ∨ t = .legs ps[i]) w w') (hag : ∀ k, k < w.heap.size → ρ' k = ρ k)
    (c : Bool × Legs2) (hc : WCall base ρ' chs w' ps[i] c) (hl : ∀ x ∈ c.2, 0 ≤ x.1 ∧ x.1 < chs.length) : Wr base ρ' chs w' g ps (cs.set i c) := by
  obtain ⟨⟨wv, gm, cv, b0, b1, b2, r1, o1, m1, m2, m3, r2, o2⟩, h2, h3, h4, h5, h6, h7⟩ := h
  have hgm : gm < w.heap.size := by
    obtain ⟨es, clock, hb, he⟩ := m1
    by_cases hlt : gm < w.heap.size
    · exact hlt
    · rw [Array.getElem?_eq_none (by omega)] at hb; cases hb
  refine ⟨⟨wv, gm, cv, blk_keeps hk b0 (by rw [b2]; simp), b1, by rw [hag g b0.lt]; exact b2, ownsRow_keeps hk r1 o1 (by simp), on_keeps r1 o1 hag, m1.keeps hk (by rw [m3]; simp), m2, by rw [hag gm hgm]; exact m3, ownsRow_keeps hk r2 o2 (by simp), on_keeps r2 o2 hag⟩,
    by simpa using h2, h3, fun j hj hj' => ?_, h5, fun c hc => Nat.lt_of_lt_of_le (h6 c hc) hk.1, fun c' hc' => ?_⟩
  · by_cases e : j = i
    · subst e; simpa using hc
    · have hne : ps[j] ≠ ps[i] := fun e' => e ((List.getElem_inj h3).1 e')
      rw [List.getElem_set_ne (by omega)]
      exact (h4 j hj (by simpa using hj')).keeps hk (by simp [hne]) (by simp [hne]) hag
  · rcases List.mem_or_eq_of_mem_set hc' with h | h
    · exact h7 c' h
    · subst h; exact hl
/-- two channels are one just when their lines are -/
theorem chan_iff {chs : List Nat} (hn : chs.Nodup) {a b : Int} (ha : 0 ≤ a ∧ a < chs.length) (hb : 0 ≤ b ∧ b < chs.length) : chs.getD a.toNat 0 = chs.getD b.toNat 0 ↔ a = b := by
  have h1 : a.toNat < chs.length := by omega
  have h2 : b.toNat < chs.length := by omega
  simp only [List.getD_eq_getElem?_getD, List.getElem?_eq_getElem h1, List.getElem?_eq_getElem h2, Option.getD_some]
  rw [List.getElem_inj hn]
  omega
end Go.Proofs.Ytcbeaimpmjljjaa
