/- What is told name by name is what is told by a merge; no condition. -/
import Derived.Test.YtlknakijdpeaoaaDfm
import Derived.Test.YtlknakijdpeaoaaFnd
namespace Go.Proofs.Ytlknakijdpeaoaa
open Go.RowKit Go.ChangeShapes Go.WideShapes Go.ChangeAt
set_option linter.unusedVariables false
set_option linter.unusedSimpArgs false
set_option maxRecDepth 8000

/-- what a setting of that name is -/
def fd (ls : Ses) (x : ByteArray) : Option ByteArray := (ls.find? fun r => decide (r.nm = x)).map (·.vl)
/-- what is told of one name -/
def pc (xs ys : Ses) (x : ByteArray) : List UInt8 :=
  match fd ys x with
  | none => unS ⟨x, ⟨#[]⟩⟩
  | some v => if fd xs x = some v then [] else seS ⟨x, v⟩
/-- the names of both, in order -/
def mg : Ses → Ses → List ByteArray
  | [], [] => []
  | a :: xs, [] => a.nm :: mg xs []
  | [], b :: ys => b.nm :: mg [] ys
  | a :: xs, b :: ys => if bl a.nm b.nm then a.nm :: mg xs (b :: ys) else if bl b.nm a.nm then b.nm :: mg (a :: xs) ys else a.nm :: mg xs ys
termination_by x y => x.length + y.length
abbrev Srt (ls : Ses) : Prop := ls.Pairwise fun a b => bl a.nm b.nm = true
theorem srt_of {ls : Ses} (h : Asc ls) : Srt ls := List.pairwise_iff_getElem.2 fun i j hi hj hij => h i j hj hij
theorem fd_hd {r : Se} {ls : Ses} {x : ByteArray} (h : r.nm = x) : fd (r :: ls) x = some r.vl := by unfold fd; simp [h]
theorem fd_tl {r : Se} {ls : Ses} {x : ByteArray} (h : r.nm ≠ x) : fd (r :: ls) x = fd ls x := by unfold fd; simp [h]
theorem fd_no {ls : Ses} {x : ByteArray} (h : ∀ r ∈ ls, r.nm ≠ x) : fd ls x = none := by
  unfold fd
  rw [List.find?_eq_none.2 fun r hr => by simpa using h r hr]; rfl
theorem mem_mg : ∀ (xs ys : Ses) (n : ByteArray), n ∈ mg xs ys ↔ (∃ r ∈ xs, r.nm = n) ∨ ∃ r ∈ ys, r.nm = n
  | [], [], n => by simp [mg]
  | a :: xs, [], n => by
    rw [mg, List.mem_cons, mem_mg xs [] n]
    simp [eq_comm]
  | [], b :: ys, n => by
    rw [mg, List.mem_cons, mem_mg [] ys n]
    simp [eq_comm]
  | a :: xs, b :: ys, n => by
    rw [mg]
    split
    · rw [List.mem_cons, mem_mg xs (b :: ys) n]
      simp only [List.mem_cons, exists_eq_or_imp, eq_comm (a := n), or_assoc]
    · rename_i h1
      split
      · rw [List.mem_cons, mem_mg (a :: xs) ys n]
        simp only [List.mem_cons, exists_eq_or_imp, eq_comm (a := n), or_assoc, or_left_comm]
      · rename_i h2
        have e : a.nm = b.nm := bl_tot (by simpa using h1) (by simpa using h2)
        rw [List.mem_cons, mem_mg xs ys n]
        simp only [List.mem_cons, exists_eq_or_imp, eq_comm (a := n), e]
        constructor
        · rintro (h | h | h)
          · exact .inl (.inl h)
          · exact .inl (.inr h)
          · exact .inr (.inr h)
        · rintro ((h | h) | (h | h))
          · exact .inl h
          · exact .inr (.inl h)
          · exact .inl h
          · exact .inr (.inr h)
termination_by x y => x.length + y.length
/-- ahead of all of a list -/
def Ahd (n : ByteArray) (ls : Ses) : Prop := ∀ r ∈ ls, bl n r.nm = true
theorem ahd_mg {n : ByteArray} {xs ys : Ses} (h : Ahd n xs) (h' : Ahd n ys) : ∀ m ∈ mg xs ys, bl n m = true := fun m hm => by
  rcases (mem_mg xs ys m).1 hm with ⟨r, hr, rfl⟩ | ⟨r, hr, rfl⟩
  · exact h r hr
  · exact h' r hr
theorem ahd_cons {n : ByteArray} {b : Se} {ls : Ses} (h : bl n b.nm = true) (hs : Srt (b :: ls)) : Ahd n (b :: ls) := fun r hr => by
  rcases List.mem_cons.1 hr with rfl | hr
  · exact h
  · exact bl_trans h ((List.pairwise_cons.1 hs).1 r hr)
theorem srt_mg : ∀ (xs ys : Ses), Srt xs → Srt ys → (mg xs ys).Pairwise fun a b => bl a b = true
  | [], [], _, _ => by simp [mg]
  | a :: xs, [], h, h' => by
    rw [mg, List.pairwise_cons]
    exact ⟨ahd_mg (fun r hr => (List.pairwise_cons.1 h).1 r hr) (fun r hr => by simp at hr), srt_mg xs [] (List.pairwise_cons.1 h).2 h'⟩
  | [], b :: ys, h, h' => by
    rw [mg, List.pairwise_cons]
    exact ⟨ahd_mg (fun r hr => by simp at hr) (fun r hr => (List.pairwise_cons.1 h').1 r hr), srt_mg [] ys h (List.pairwise_cons.1 h').2⟩
  | a :: xs, b :: ys, h, h' => by
    rw [mg]
    split
    · rename_i h1
      rw [List.pairwise_cons]
      exact ⟨ahd_mg (fun r hr => (List.pairwise_cons.1 h).1 r hr) (ahd_cons h1 h'), srt_mg xs (b :: ys) (List.pairwise_cons.1 h).2 h'⟩
    · rename_i h1
      split
      · rename_i h2
        rw [List.pairwise_cons]
        exact ⟨ahd_mg (ahd_cons h2 h) (fun r hr => (List.pairwise_cons.1 h').1 r hr), srt_mg (a :: xs) ys h (List.pairwise_cons.1 h').2⟩
      · rename_i h2
        have e : a.nm = b.nm := bl_tot (by simpa using h1) (by simpa using h2)
        rw [List.pairwise_cons]
        exact ⟨ahd_mg (fun r hr => (List.pairwise_cons.1 h).1 r hr) (fun r hr => by rw [e]; exact (List.pairwise_cons.1 h').1 r hr), srt_mg xs ys (List.pairwise_cons.1 h).2 (List.pairwise_cons.1 h').2⟩
termination_by x y => x.length + y.length
/-- two rows of texts in order that hold the same are the same -/
theorem srt_eq : ∀ {l m : List ByteArray}, l.Pairwise (fun a b => bl a b = true) → m.Pairwise (fun a b => bl a b = true) → (∀ x, x ∈ l ↔ x ∈ m) → l = m
  | [], [], _, _, _ => rfl
  | [], b :: m, _, _, h => absurd ((h b).2 (by simp)) (by simp)
  | a :: l, [], _, _, h => absurd ((h a).1 (by simp)) (by simp)
  | a :: l, b :: m, hl, hm, h => by
    have h1 := List.pairwise_cons.1 hl
    have h2 := List.pairwise_cons.1 hm
    have e : a = b := by
      rcases List.mem_cons.1 ((h a).1 (by simp)) with e | e
      · exact e
      · rcases List.mem_cons.1 ((h b).2 (by simp)) with e' | e'
        · exact e'.symm
        · have := bl_asym (h1.1 b e'); rw [h2.1 a e] at this; cases this
    subst e
    have : l = m := srt_eq h1.2 h2.2 fun x => by
      have hx := h x
      simp only [List.mem_cons] at hx
      constructor
      · intro hxl
        rcases hx.1 (.inr hxl) with e | e
        · exact absurd e (bl_ne (h1.1 x hxl)).symm
        · exact e
      · intro hxm
        rcases hx.2 (.inr hxm) with e | e
        · exact absurd e (bl_ne (h2.1 x hxm)).symm
        · exact e
    rw [this]
theorem pc_eq {xs ys xs' ys' : Ses} {n : ByteArray} (h : fd xs n = fd xs' n) (h' : fd ys n = fd ys' n) : pc xs ys n = pc xs' ys' n := by unfold pc; rw [h, h']
theorem fm_eq {l : List ByteArray} {f g : ByteArray → List UInt8} (h : ∀ n ∈ l, f n = g n) : l.flatMap f = l.flatMap g := by
  induction l with
  | nil => rfl
  | cons a l ih => rw [List.flatMap_cons, List.flatMap_cons, h a (by simp), ih fun n hn => h n (by simp [hn])]
theorem ahd_no {n : ByteArray} {ls : Ses} (h : Ahd n ls) : fd ls n = none := fd_no fun r hr e => bl_ne (h r hr) e.symm
theorem dm_pc : ∀ (xs ys : Ses), Srt xs → Srt ys → dm xs ys = (mg xs ys).flatMap (pc xs ys)
  | [], [], _, _ => by simp [dm, mg]
  | a :: xs, [], h, h' => by
    rw [dm, mg, List.flatMap_cons, dm_pc xs [] (List.pairwise_cons.1 h).2 h']
    congr 1
  | [], b :: ys, h, h' => by
    rw [dm, mg, List.flatMap_cons, dm_pc [] ys h (List.pairwise_cons.1 h').2]
    have e1 : pc [] (b :: ys) b.nm = seS b := by unfold pc; rw [fd_hd rfl]; simp [fd]
    rw [e1]
    congr 1
    refine fm_eq fun n hn => pc_eq rfl ?_
    exact (fd_tl (bl_ne (ahd_mg (fun r hr => by simp at hr) (fun r hr => (List.pairwise_cons.1 h').1 r hr) n hn))).symm
  | a :: xs, b :: ys, h, h' => by
    have hx := List.pairwise_cons.1 h
    have hy := List.pairwise_cons.1 h'
    rw [dm, mg]
    split
    · rename_i h1
      rw [List.flatMap_cons, dm_pc xs (b :: ys) hx.2 h']
      have e1 : pc (a :: xs) (b :: ys) a.nm = unS a := by unfold pc; rw [ahd_no (ahd_cons h1 h')]; rfl
      rw [e1]
      congr 1
      refine fm_eq fun n hn => pc_eq ?_ rfl
      exact (fd_tl (bl_ne (ahd_mg (fun r hr => hx.1 r hr) (ahd_cons h1 h') n hn))).symm
    · rename_i h1
      split
      · rename_i h2
        rw [List.flatMap_cons, dm_pc (a :: xs) ys h hy.2]
        have e1 : pc (a :: xs) (b :: ys) b.nm = seS b := by unfold pc; rw [fd_hd rfl, ahd_no (ahd_cons h2 h)]; simp
        rw [e1]
        congr 1
        refine fm_eq fun n hn => pc_eq rfl ?_
        exact (fd_tl (bl_ne (ahd_mg (ahd_cons h2 h) (fun r hr => hy.1 r hr) n hn))).symm
      · rename_i h2
        have e : a.nm = b.nm := bl_tot (by simpa using h1) (by simpa using h2)
        rw [List.flatMap_cons, dm_pc xs ys hx.2 hy.2]
        have e1 : pc (a :: xs) (b :: ys) a.nm = if a.vl = b.vl then [] else seS b := by
          unfold pc; rw [fd_hd e.symm, fd_hd rfl]
          have e2 : (⟨a.nm, b.vl⟩ : Se) = b := by rw [e]
          show (if some a.vl = some b.vl then [] else seS ⟨a.nm, b.vl⟩) = _
          rw [e2]; simp
        rw [e1]
        congr 1
        refine fm_eq fun n hn => pc_eq ?_ ?_
        · exact (fd_tl (bl_ne (ahd_mg (fun r hr => hx.1 r hr) (fun r hr => by rw [e]; exact hy.1 r hr) n hn))).symm
        · exact (fd_tl (bl_ne (ahd_mg (fun r hr => by rw [← e]; exact hx.1 r hr) (fun r hr => hy.1 r hr) n hn))).symm
termination_by x y => x.length + y.length
/-- name by name, over any row of both lists' names that is in order -/
theorem dm_names {xs ys : Ses} {l : List ByteArray} (h : Srt xs) (h' : Srt ys) (hl : l.Pairwise fun a b => bl a b = true) (hm : ∀ x, x ∈ l ↔ (∃ r ∈ xs, r.nm = x) ∨ ∃ r ∈ ys, r.nm = x) : dm xs ys = l.flatMap (pc xs ys) := by
  rw [dm_pc xs ys h h', srt_eq (srt_mg xs ys h h') hl fun x => (mem_mg xs ys x).trans (hm x).symm]

end Go.Proofs.Ytlknakijdpeaoaa
