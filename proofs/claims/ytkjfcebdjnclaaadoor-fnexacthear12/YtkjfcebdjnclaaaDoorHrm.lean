/- A hearing as a function; the table is as it was laid. -/
import Derived.Test.YtkjfcebdjnclaaaDoorHco
import Derived.Test.YtkjfcebdjnclaaaDoorStd
namespace Go.Proofs.YtkjfcebdjnclaaaDoor
open Go.RowKit Go.ChangeShapes Go.WideShapes Go.ChangeAt
set_option linter.unusedVariables false
set_option linter.unusedSimpArgs false
set_option maxRecDepth 8000

/-- a hearing: its player, what is stored, what was heard, whether it has begun -/
structure HSt where
  p : Pl
  st : List Pk
  lv : List Int
  b : Bool
/-- a frame is played -/
noncomputable def poF (h : HSt) : Option HSt := open Classical in if PyP h.p h.st then some ⟨pyF h.p h.st, h.st.drop (pcF h.st (h.p.n + 1)), h.lv ++ (lvF h.st h.p.n h.p.x).1, h.b⟩ else none
/-- a packet comes -/
noncomputable def cmF (h : HSt) (k : Pk) : Option HSt := open Classical in
  if PuP h.p k h.st then if h.b = true ∨ RdP (puF h.p k h.st).1 (puF h.p k h.st).2 then poF ⟨(puF h.p k h.st).1, (puF h.p k h.st).2, h.lv, true⟩ else some ⟨(puF h.p k h.st).1, (puF h.p k h.st).2, h.lv, false⟩ else none
/-- the first j packets have come -/
noncomputable def cmN (ls : List Pk) (h : HSt) : Nat → Option HSt
  | 0 => some h
  | j + 1 => (cmN ls h j).bind fun x => cmF x (kAt ls j)
/-- j frames have been played -/
noncomputable def poN (h : HSt) : Nat → Option HSt
  | 0 => some h
  | j + 1 => (poN h j).bind poF
/-- what Hear12 takes -/
def HrP (ls : List Pk) (dp n : Int) : Prop := PksP ls ∧ TkP ls ∧ (1 ≤ dp ∧ dp ≤ 12) ∧ (0 ≤ n ∧ n ≤ 60)
def h0F (ls : List Pk) (dp : Int) : HSt := ⟨⟨(kAt ls 0).s, dp, 0, 0, 0⟩, [], [], false⟩
/-- what is heard of packets -/
noncomputable def hrF (ls : List Pk) (dp n : Int) : Option HSt := open Classical in if HrP ls dp n then (cmN ls (h0F ls dp) ls.length).bind fun h => poN h n.toNat else none
def HsO (base G : Nat) (W : World) (h : HSt) : Prop := Hs base G W h.p h.st h.lv h.b
/-- its size, and that its packets are of bytes -/
structure HsB (h : HSt) (m : Nat) : Prop where
  st : h.st.length ≤ m
  lv : h.lv.length ≤ 30 * m
  by' : ∀ x ∈ h.st, PkBy x
theorem HsB.po {h h' : HSt} {m : Nat} (H : HsB h m) (e : poF h = some h') : HsB h' (m + 1) := by
  unfold poF at e
  split at e
  · cases e
    refine ⟨?_, ?_, fun x hx => H.by' x (List.mem_of_mem_drop hx)⟩
    · have := H.st; simp; omega
    · have := H.lv; simp [lvF_len]; omega
  · cases e
theorem HsB.cm {h h' : HSt} {k : Pk} {m : Nat} (H : HsB h m) (hk : PkBy k) (e : cmF h k = some h') : HsB h' (m + 2) := by
  have hb : HsB ⟨(puF h.p k h.st).1, (puF h.p k h.st).2, h.lv, true⟩ (m + 1) := ⟨by have := pu_len h.p k h.st; have := H.st; dsimp only at *; omega, by have := H.lv; dsimp only at *; omega, pu_by H.by' hk⟩
  unfold cmF at e
  split at e
  · split at e
    · exact hb.po e
    · cases e; exact ⟨by have := hb.st; dsimp only at *; omega, by have := H.lv; dsimp only at *; omega, hb.by'⟩
  · cases e
/-- what a step of a hearing tells -/
def StR (base G : Nat) (W : World) (o : Option HSt) (e : Ending) (W' : World) : Prop := Below base W W' ∧ e = .returned (.bool o.isSome) ∧ ∀ h, o = some h → HsO base G W' h
theorem po_c {base G : Nat} {W : World} {h : HSt} {m : Nat} (H : HsO base G W h) (hb : HsB h m) (hm : m ≤ 1000) (hG : ChG W) : Calls Tryd.prog 74 #[.pointer (some ⟨G, 0, none⟩)] W (StR base G W (poF h)) := by
  refine (playOne_c H (by have := hb.st; omega) hG hb.by' (by have := hb.lv; omega)).mono ?_
  rintro e W' ⟨b1, h1, h2⟩
  unfold poF
  split
  case isTrue hP =>
    obtain ⟨rfl, x⟩ := h1 hP
    exact ⟨b1, rfl, fun h e => by cases e; exact x⟩
  case isFalse hP =>
    obtain rfl := h2 hP
    exact ⟨b1, rfl, fun h e => by cases e⟩
theorem cm_c {base G : Nat} {W : World} {h : HSt} {k : Pk} {m : Nat} (H : HsO base G W h) (hb : HsB h m) (hm : m ≤ 1000) (hk : PkBy k) (h0 : 0 < base) (hG : ChG W) : Calls Tryd.prog 73 #[.pointer (some ⟨G, 0, none⟩), .agg (pkA k)] W (StR base G W (cmF h k)) := by
  refine (come_c H (by have := hb.st; omega) hG hb.by' hk (by have := hb.lv; omega) h0).mono ?_
  rintro e W' ⟨b1, h1, h2⟩
  unfold cmF
  split
  case isTrue hP =>
    obtain ⟨h3, h4⟩ := h1 hP
    split
    case isTrue hQ =>
      obtain ⟨h5, h6⟩ := h4 hQ
      unfold poF
      split
      case isTrue hR =>
        obtain ⟨rfl, x⟩ := h5 hR
        exact ⟨b1, rfl, fun h e => by cases e; exact x⟩
      case isFalse hR =>
        obtain rfl := h6 hR
        exact ⟨b1, rfl, fun h e => by cases e⟩
    case isFalse hQ =>
      obtain ⟨rfl, x⟩ := h3 hQ
      exact ⟨b1, rfl, fun h e => by cases e; exact x⟩
  case isFalse hP =>
    obtain rfl := h2 hP
    exact ⟨b1, rfl, fun h e => by cases e⟩
theorem cmN_none {ls : List Pk} {h : HSt} {j : Nat} (e : cmN ls h j = none) : ∀ i, j ≤ i → cmN ls h i = none := by
  intro i hi
  induction i with
  | zero => have : j = 0 := by omega
            subst this; exact e
  | succ i ih =>
    by_cases c : j = i + 1
    · subst c; exact e
    · rw [cmN, ih (by omega)]; rfl
theorem poN_none {h : HSt} {j : Nat} (e : poN h j = none) : ∀ i, j ≤ i → poN h i = none := by
  intro i hi
  induction i with
  | zero => have : j = 0 := by omega
            subst this; exact e
  | succ i ih =>
    by_cases c : j = i + 1
    · subst c; exact e
    · rw [poN, ih (by omega)]; rfl
/-- what Hear12 tells -/
def HrR (o : Option HSt) (w : World) (e : Ending) (w' : World) : Prop := Below w.heap.size w w' ∧
  (o = none → e = .returned (.tuple #[.slice none 0 0, .agg (plA ⟨0, 0, 0, 0, 0⟩ (.slice none 0 0)), .bool false])) ∧ (∀ h, o = some h → ∃ u v, e = .returned (.tuple #[u, .agg (plA h.p v), .bool true]) ∧ Ow .i64 3 w.heap.size w' u h.lv ∧ Og 18 pkC 40 w.heap.size w' v h.st)
theorem results_H3 {fn : Func} {t u q : Tmp} (h : fn.results = #[.tmp t, .cell q 42, .tmp u]) (tmps : Array Value) (w : World) (g : Nat) (p : Pl) (v a b : Value)
    (ht : tmps.getD t undef = a) (hu : tmps.getD u undef = b) (hq : tmps.getD q undef = .pointer (some ⟨g, 0, none⟩)) (hg : Blk w g (plA p v) 42) :
    (results fn tmps).run Tryd.prog w = .ok (.tuple #[a, .agg (plA p v), b]) w := by
  have hq' : tmps[q]?.getD undef = .pointer (some ⟨g, 0, none⟩) := by simpa using hq
  have ht' : tmps[t]?.getD undef = a := by simpa using ht
  have hu' : tmps[u]?.getD undef = b := by simpa using hu
  have hr := run_loadVar_row (P := Tryd.prog) w g 42 42 (plA p v) (0, 0) _ hg Tryd.underlying42 rfl (by kernel_rfl)
  simp [results, h, hq', ht', hu', asAddr, hr]

end Go.Proofs.YtkjfcebdjnclaaaDoor
