/- The mathematics of FnTurns8; no condition. -/
import Derived.Test.YtpmmgbinogokfaaRnA
namespace Go.Proofs.Ytpmmgbinogokfaa
open Go.RowKit Go.ChangeShapes Go.WideShapes Go.ChangeAt
set_option linter.unusedVariables false
set_option linter.unusedSimpArgs false
set_option maxRecDepth 8000
/-- callers for skill 4 with priority 2, numbered from c on, who asked at the ticks ts -/
def qo (c : Int) : List Int → List Wt
  | [] => []
  | t :: ts => (c, 4, 2, t) :: qo (c + 1) ts
theorem qo_len (c : Int) : ∀ ts : List Int, (qo c ts).length = ts.length
  | [] => rfl
  | t :: ts => by simp [qo, qo_len (c + 1) ts]
theorem qo_snoc : ∀ (c : Int) (ts : List Int) (t : Int), qo c (ts ++ [t]) = qo c ts ++ [(c + ts.length, 4, 2, t)]
  | c, [], t => by simp [qo]
  | c, s :: ts, t => by
    rw [List.cons_append, qo, qo, qo_snoc (c + 1) ts t, List.cons_append, List.length_cons]
    congr 2
    simp; omega
theorem qo_mem : ∀ (c : Int) (ts : List Int) (q : Wt), q ∈ qo c ts → ∃ t ∈ ts, c ≤ q.1 ∧ q.1 < c + ts.length ∧ q.2.1 = 4 ∧ q.2.2.1 = 2 ∧ q.2.2.2 = t
  | c, [], q, h => by simp [qo] at h
  | c, s :: ts, q, h => by
    rw [qo, List.mem_cons] at h
    rcases h with rfl | h
    · exact ⟨s, by simp, by simp; omega⟩
    · obtain ⟨t, h1, h2, h3, h4⟩ := qo_mem (c + 1) ts q h
      exact ⟨t, by simp [h1], by omega, by simp only [List.length_cons]; omega, h4⟩
theorem qo_cl : ∀ (c : Int) (ts : List Int), (cl (qo c ts)).Nodup ∧ ∀ x ∈ cl (qo c ts), c ≤ x ∧ x < c + ts.length
  | c, [] => by simp [qo, cl]
  | c, s :: ts => by
    have ih := qo_cl (c + 1) ts
    have e : cl (qo c (s :: ts)) = c :: cl (qo (c + 1) ts) := by simp [qo, cl]
    rw [e]
    refine ⟨List.nodup_cons.2 ⟨fun h => ?_, ih.1⟩, fun x hx => ?_⟩
    · have := (ih.2 c h).1; omega
    · rw [List.mem_cons] at hx
      rcases hx with rfl | hx
      · simp only [List.length_cons]; omega
      · have := ih.2 x hx; simp only [List.length_cons]; omega
theorem taker_free (t : Int) : taker [(4, -1, t)] 4 = some 0 := by
  simp only [taker, best, List.length_singleton, bstTo, List.getElem?_cons_zero]
  rw [if_pos (by simp only [fitB]; decide)]
theorem taker_busy (b t : Int) (h : b ≠ -1) : taker [(4, b, t)] 4 = none := by
  simp only [taker, best, List.length_singleton, bstTo, List.getElem?_cons_zero]
  rw [if_neg (by simp [fitB, h])]
theorem wtB4 {n c t : Int} (hc : 0 ≤ c ∧ c ≤ 1000000000) (ht : 0 ≤ t ∧ t ≤ n) : wtB n (c, 4, 2, t) = true := by
  have h4 : skB 4 = true := by decide
  simp [wtB, tkB, h4, hc, ht]
theorem dk_busy {n g b t0 c : Int} {ts : List Int} (hn : 0 ≤ n ∧ n ≤ 1000000000) (hg : 0 ≤ g ∧ g ≤ 1000000) (hb : 0 ≤ b ∧ b < c) (h0 : 0 ≤ t0 ∧ t0 ≤ n) (hc : c + ts.length ≤ 1000000000) (hts : ∀ t ∈ ts, 0 ≤ t ∧ t ≤ n) (hl : ts.length ≤ 40) : DkOk n g [(4, b, t0)] (qo c ts) := by
  rw [← dk_iff]
  refine ⟨by simp, by rw [qo_len]; exact hl, by simp [tkB, hn], hg, ?_, ?_, ?_⟩
  · intro a ha
    rw [List.mem_singleton] at ha
    subst ha
    simp [agB, tkB, h0]
    omega
  · intro q hq
    obtain ⟨t, h1, h2, h3, h4, h5, h6⟩ := qo_mem c ts q hq
    obtain ⟨q1, q2, q3, q4⟩ := q
    simp only at h2 h3 h4 h5 h6
    subst h4 h5 h6
    exact ⟨wtB4 ⟨by omega, by omega⟩ (hts _ h1), taker_busy b t0 (by omega)⟩
  · have e : bz [(4, b, t0)] = [b] := by simp [bz, bzF, hb.1]
    rw [e, List.singleton_append, List.nodup_cons]
    exact ⟨fun h => by have := (qo_cl c ts).2 b h; omega, (qo_cl c ts).1⟩
theorem dk_free {n g t0 : Int} (hn : 0 ≤ n ∧ n ≤ 1000000000) (hg : 0 ≤ g ∧ g ≤ 1000000) (h0 : 0 ≤ t0 ∧ t0 ≤ n) : DkOk n g [(4, -1, t0)] [] := by
  rw [← dk_iff]
  refine ⟨by simp, by simp, by simp [tkB, hn], hg, ?_, ?_, ?_⟩
  · intro a ha
    rw [List.mem_singleton] at ha
    subst ha
    simp [agB, tkB, h0]
  · intro q hq; simp at hq
  · simp [bz, bzF, cl]
theorem bst_first {α : Type} {fit : α → Bool} {cmp : α → α → Int} {ls : List α} {y : α} (h0 : ls[0]? = some y) (hf : ∀ x ∈ ls, fit x = true) (hc : ∀ x ∈ ls, ¬ cmp x y < 0) : ∀ j, bstTo fit cmp ls (j + 1) = some 0
  | 0 => by
    have : y ∈ ls := by obtain ⟨h, e⟩ := List.getElem?_eq_some_iff.1 h0; exact e ▸ List.getElem_mem h
    simp only [bstTo, h0, hf y this, if_true]
  | j + 1 => by
    have ih := bst_first h0 hf hc j
    rw [bstTo]
    cases hx : ls[j + 1]? with
    | none => exact ih
    | some x =>
      have hm : x ∈ ls := by obtain ⟨h, e⟩ := List.getElem?_eq_some_iff.1 hx; exact e ▸ List.getElem_mem h
      simp only [hf x hm, if_true, ih, h0, if_neg (hc x hm)]
theorem nxt_first {t0 c s : Int} {ts : List Int} (hs : ∀ t ∈ ts, s ≤ t) : nxt [(4, -1, t0)] (qo c (s :: ts)) = some 0 := by
  rw [nxt, best, qo_len, List.length_cons]
  refine bst_first (y := (c, 4, 2, s)) rfl (fun q hq => ?_) (fun q hq => ?_) _
  · obtain ⟨t, h1, h2, h3, h4, h5, h6⟩ := qo_mem c _ q hq
    rw [goB, h4, taker_free]; rfl
  · obtain ⟨t, h1, h2, h3, h4, h5, h6⟩ := qo_mem c _ q hq
    have : s ≤ t := by
      rw [List.mem_cons] at h1
      rcases h1 with rfl | h1
      · exact Int.le_refl _
      · exact hs t h1
    have e1 : cmpI 2 2 = 0 := by decide
    have e2 : cmpW q (c, 4, 2, s) = cmpI t s := by
      rw [cmpW, h5, h6]
      show orI (cmpI 2 2) (cmpI t s) = _
      rw [e1]; rfl
    rw [e2, cmpI, if_neg (by omega)]
    split <;> omega
theorem nxt_busy {b t0 c : Int} (h : b ≠ -1) (ts : List Int) : nxt [(4, b, t0)] (qo c ts) = none := by
  cases hx : nxt [(4, b, t0)] (qo c ts) with
  | none => rfl
  | some p =>
    obtain ⟨q, a, h1, h2⟩ := nxt_go hx
    have hm : q ∈ qo c ts := by obtain ⟨h, e⟩ := List.getElem?_eq_some_iff.1 h1; exact e ▸ List.getElem_mem h
    obtain ⟨t, -, -, -, h4, -⟩ := qo_mem c _ q hm
    rw [h4, taker_busy b t0 h] at h2
    cases h2
theorem give_busy {t b t0 c : Int} (h : b ≠ -1) (ts : List Int) (f : Nat) : giveN t f [(4, b, t0)] (qo c ts) = ([(4, b, t0)], qo c ts, []) :=
  giveN_none (by rw [giveOne, nxt_busy h]) f
theorem give_free {t t0 c s : Int} {ts : List Int} (hs : ∀ t ∈ ts, s ≤ t) (hc : c ≠ -1) : giveN t 1 [(4, -1, t0)] (qo c (s :: ts)) = ([(4, c, t)], qo (c + 1) ts, [c]) := by
  rw [giveN, giveOne, nxt_first hs]
  simp only [qo, List.getElem?_cons_zero, taker_free, setA, List.set_cons_zero, List.eraseIdx_cons_zero, giveN]
theorem give_none {t t0 : Int} (f : Nat) : giveN t f [(4, -1, t0)] [] = ([(4, -1, t0)], [], []) := giveN_none (by rw [giveOne]; rfl) f
/-- the first caller is given at once -/
theorem do_first {t : Int} (ht : 0 ≤ t ∧ t ≤ 1000) : doF 0 0 [(4, -1, 0)] [] 1 t 100 4 2 = ((t, 1, [(4, 100, t)], []), [100], 0) := by
  have hd : DkOk 0 0 [(4, -1, 0)] [] := dk_free (by omega) (by omega) (by omega)
  have ho : opB 0 [(4, -1, 0)] [] 1 t 100 4 2 = true := by
    have := wtB4 (n := t) (c := 100) (t := t) (by omega) (by omega)
    simp [opB, tkB, this]; omega
  have hg := give_free (t := t) (t0 := 0) (c := 100) (s := t) (ts := []) (by simp) (by omega)
  simp only [qo] at hg
  rw [doF, if_pos ⟨hd, ho⟩]
  simp only [beg, if_true, List.nil_append, List.length_singleton, hg]
  simp
/-- a later one waits -/
theorem do_wait {n t t0 : Int} {ts : List Int} (h0 : 0 ≤ t0 ∧ t0 ≤ n) (hn : 0 ≤ n ∧ n ≤ t) (ht : t ≤ 1000) (hts : ∀ s ∈ ts, 0 ≤ s ∧ s ≤ n) (hl : ts.length ≤ 12) :
    doF n 1 [(4, 100, t0)] (qo 101 ts) 1 t (101 + ts.length) 4 2 = ((t, 1, [(4, 100, t0)], qo 101 (ts ++ [t])), [], 0) := by
  have hd : DkOk n 1 [(4, 100, t0)] (qo 101 ts) := dk_busy (by omega) (by omega) (by omega) h0 (by omega) hts (by omega)
  have ho : opB n [(4, 100, t0)] (qo 101 ts) 1 t (101 + ts.length) 4 2 = true := by
    have h1 := wtB4 (n := t) (c := 101 + ts.length) (t := t) (by omega) (by omega)
    have h2 : ((qo 101 ts).findIdx? fun x => x.1 == 101 + (ts.length : Int)) = none := by
      rw [List.findIdx?_eq_none_iff]
      intro q hq
      obtain ⟨t, -, a1, a2, -⟩ := qo_mem _ _ q hq
      simp; omega
    have h3 : (([(4, 100, t0)] : List Ag).findIdx? fun x => x.2.1 == 101 + (ts.length : Int)) = none := by
      rw [List.findIdx?_eq_none_iff]
      intro q hq
      rw [List.mem_singleton] at hq
      subst hq
      simp; omega
    rw [opB, if_pos rfl, h1, h2, h3]
    simp [tkB]; omega
  rw [doF, if_pos ⟨hd, ho⟩]
  simp only [beg, if_true, ← qo_snoc, give_busy (b := 100) (by omega)]
  rw [if_neg (by rw [qo_len]; simp; omega)]
  simp
/-- the agent ends and takes the next one -/
theorem do_next {n g t t0 b s : Int} {ts : List Int} (h0 : 0 ≤ t0 ∧ t0 ≤ n) (hn : 0 ≤ n ∧ n ≤ t) (ht : t ≤ 1000) (hb : 0 ≤ b ∧ b ≤ 1000) (hg : 0 ≤ g ∧ g ≤ 1000) (hts : ∀ x ∈ s :: ts, 0 ≤ x ∧ x ≤ n) (hs : ∀ x ∈ ts, s ≤ x) (hl : ts.length ≤ 12) :
    doF n g [(4, b, t0)] (qo (b + 1) (s :: ts)) 3 t 0 0 0 = ((t, g + 1, [(4, b + 1, t)], qo (b + 2) ts), [b + 1], 0) := by
  have hd : DkOk n g [(4, b, t0)] (qo (b + 1) (s :: ts)) := dk_busy (by omega) (by omega) (by omega) h0 (by simp only [List.length_cons]; omega) hts (by simp only [List.length_cons]; omega)
  have ho : opB n [(4, b, t0)] (qo (b + 1) (s :: ts)) 3 t 0 0 0 = true := by
    rw [opB, if_neg (by decide), if_pos (by decide)]
    simp [tkB]; omega
  have hbg : beg t [(4, b, t0)] (qo (b + 1) (s :: ts)) 3 0 0 0 = some ([(4, -1, t)], qo (b + 1) (s :: ts)) := by
    have hb' : b ≠ -1 := by omega
    simp [beg, hb']
  have hgv := give_free (t := t) (t0 := t) (c := b + 1) hs (by omega)
  rw [doF, if_pos ⟨hd, ho⟩, hbg]
  simp only [List.length_singleton, hgv]
  rw [if_neg (by rw [qo_len]; simp; omega), show b + 1 + 1 = b + 2 by omega]
  simp
/-- the agent ends, and nobody waits -/
theorem do_last {n g t t0 b : Int} (h0 : 0 ≤ t0 ∧ t0 ≤ n) (hn : 0 ≤ n ∧ n ≤ t) (ht : t ≤ 1000) (hb : 0 ≤ b ∧ b ≤ 1000) (hg : 0 ≤ g ∧ g ≤ 1000) :
    doF n g [(4, b, t0)] [] 3 t 0 0 0 = ((t, g, [(4, -1, t)], []), [], 0) := by
  have hd : DkOk n g [(4, b, t0)] [] := dk_busy (c := b + 1) (ts := []) (by omega) (by omega) (by omega) h0 (by simp; omega) (by simp) (by simp)
  have ho : opB n [(4, b, t0)] [] 3 t 0 0 0 = true := by
    rw [opB, if_neg (by decide), if_pos (by decide)]
    simp [tkB]; omega
  have hbg : beg t [(4, b, t0)] [] 3 0 0 0 = some ([(4, -1, t)], []) := by
    have hb' : b ≠ -1 := by omega
    simp [beg, hb']
  rw [doF, if_pos ⟨hd, ho⟩, hbg]
  simp only [List.length_singleton, give_none]
  rw [if_neg (by simp; omega)]
  simp
end Go.Proofs.Ytpmmgbinogokfaa
namespace Go.Proofs.Ytpmmgbinogokfaa
open Go.RowKit Go.ChangeShapes Go.WideShapes Go.ChangeAt
set_option linter.unusedVariables false
set_option linter.unusedSimpArgs false
set_option maxRecDepth 8000
theorem big_c (v : Value) (zs : List Int) (w : World) (h : Rd .u8 w v zs) : Calls Try.prog 9 #[v] w fun e w' => e = .returned (.bool (decide ((1048576 : Int) < (zs.length : Int)))) ∧ w' = w := by
  obtain ⟨a, cap, rfl, -, h2, -⟩ := h
  unfold maxLen at h2
  go_enter Try.func9, Try.ntmps9
  go_wp2
  go_ret
  exact ⟨rfl, rfl⟩
set_option maxHeartbeats 1600000 in
theorem at_c (v : Value) (zs : List Int) (i : Int) (w : World) (h : Rd .u8 w v zs) (hok : ∀ z ∈ zs, 0 ≤ z ∧ z ≤ 255) (hi0 : 0 ≤ i) (hi : i ≤ 100000) (hlen : zs.length ≤ 1048576) :
   Calls Try.prog 18 #[v, .int .i64 i] w fun e w' => ∃ x : Int, e = .returned (.int .i64 x) ∧ 0 ≤ x ∧ x ≤ 255 ∧ w' = w := by
  obtain ⟨a, cap, rfl, h1, h2, h3⟩ := h
  unfold maxLen at h2
  obtain ⟨k, rfl⟩ := Int.eq_ofNat_of_zero_le hi0
  by_cases hlt : k < zs.length
  · rcases h3 with h3 | ⟨b, off, rfl, h4⟩
    · subst h3; simp at hlt
    have hc := h4 k hlt
    have hb := hok _ (List.getElem_mem hlt)
    have hltI : (k : Int) < (zs.length : Int) := by omega
    clear h4 hok
    go_enter Try.func18, Try.ntmps18
    go_wp2
    go_ret
    exact ⟨_, rfl, hb.1, hb.2, rfl⟩
  · clear h3 hok
    go_enter Try.func18, Try.ntmps18
    go_wp2
    go_ret
    exact ⟨_, rfl, by omega, by omega, rfl⟩
def mkR (k : Nat) : List Int := (List.range k).map fun x : Nat => 100 + (x : Int)
theorem mkR_succ (k : Nat) : mkR (k + 1) = mkR k ++ [100 + (k : Int)] := by simp [mkR, List.range_succ]
theorem mkR_len (k : Nat) : (mkR k).length = k := by simp [mkR]
theorem mkR_at (k i : Nat) (h : i < k) : (mkR k).getD i 0 = 100 + (i : Int) := by simp [mkR, List.getElem?_range h]
def St1 (j : Nat) (t n g : Int) (gs : List Ag) (qs : List Wt) (al : List Int) : Prop :=
  (j = 0 ∧ n = 0 ∧ g = 0 ∧ gs = [(4, -1, 0)] ∧ qs = [] ∧ al = []) ∨
  ∃ t0 ts, j = ts.length + 1 ∧ n = t ∧ g = 1 ∧ gs = [(4, 100, t0)] ∧ qs = qo 101 ts ∧ al = [100] ∧ (0 ≤ t0 ∧ t0 ≤ t) ∧ (∀ s ∈ ts, 0 ≤ s ∧ s ≤ t) ∧ ts.Pairwise (· ≤ ·)
theorem St1.step {j : Nat} {t n g : Int} {gs : List Ag} {qs : List Wt} {al : List Int} (h : St1 j t n g gs qs al) {t' : Int} (h0 : 0 ≤ t) (h1 : t ≤ t') (h2 : t' ≤ 100) (hj : j ≤ 12) :
    ∃ g' gs' qs' cl, doF n g gs qs 1 t' (100 + j) 4 2 = ((t', g', gs', qs'), cl, 0) ∧ St1 (j + 1) t' t' g' gs' qs' (al ++ cl) := by
  rcases h with ⟨rfl, rfl, rfl, rfl, rfl, rfl⟩ | ⟨t0, ts, rfl, rfl, rfl, rfl, rfl, rfl, h3, h4, h5⟩
  · exact ⟨1, [(4, 100, t')], [], [100], do_first (by omega), .inr ⟨t', [], rfl, rfl, rfl, rfl, rfl, rfl, by omega, by simp, by simp⟩⟩
  · refine ⟨1, [(4, 100, t0)], qo 101 (ts ++ [t']), [], ?_, .inr ⟨t0, ts ++ [t'], by simp, rfl, rfl, rfl, rfl, rfl, by omega, ?_, ?_⟩⟩
    · have := do_wait (n := n) (t := t') h3 (by omega) (by omega) h4 (by omega)
      rw [show (100 + ((ts.length + 1 : Nat) : Int)) = 101 + (ts.length : Int) by omega]
      exact this
    · intro s hs
      rw [List.mem_append, List.mem_singleton] at hs
      rcases hs with hs | rfl
      · have := h4 s hs; omega
      · omega
    · rw [List.pairwise_append]
      refine ⟨h5, by simp, fun a ha b hb => ?_⟩
      rw [List.mem_singleton] at hb
      have := h4 a ha
      omega
def St2 (m i : Nat) (n g : Int) (gs : List Ag) (qs : List Wt) (al : List Int) : Prop :=
  (i < m ∧ ∃ t0 ts, i + ts.length + 1 = m ∧ g = 1 + i ∧ gs = [(4, 100 + (i : Int), t0)] ∧ qs = qo (101 + i) ts ∧ al = mkR (i + 1) ∧ (0 ≤ t0 ∧ t0 ≤ n) ∧ (∀ s ∈ ts, 0 ≤ s ∧ s ≤ n) ∧ ts.Pairwise (· ≤ ·)) ∨
  (i = m ∧ qs = [] ∧ al = mkR m)
theorem St1.two {m : Nat} {t n g : Int} {gs : List Ag} {qs : List Wt} {al : List Int} (h : St1 m t n g gs qs al) (hm : 1 ≤ m) : n = t ∧ St2 m 0 n g gs qs al := by
  rcases h with ⟨rfl, -⟩ | ⟨t0, ts, rfl, rfl, rfl, rfl, rfl, rfl, h3, h4, h5⟩
  · omega
  · exact ⟨rfl, .inl ⟨by omega, t0, ts, by omega, by simp, by simp, by simp, by simp [mkR, List.range_succ], h3, h4, h5⟩⟩
theorem St2.step {m i : Nat} {n g : Int} {gs : List Ag} {qs : List Wt} {al : List Int} (h : St2 m i n g gs qs al) (hi : i < m) (hm : m ≤ 12) {t' : Int} (h0 : 0 ≤ n) (h1 : n ≤ t') (h2 : t' ≤ 100) :
    ∃ g' gs' qs' cl, doF n g gs qs 3 t' 0 0 0 = ((t', g', gs', qs'), cl, 0) ∧ St2 m (i + 1) t' g' gs' qs' (al ++ cl) := by
  rcases h with ⟨-, t0, ts, h3, rfl, rfl, rfl, rfl, h4, h5, h6⟩ | ⟨rfl, -⟩
  · cases ts with
    | nil =>
      refine ⟨_, _, _, _, do_last h4 ⟨h0, h1⟩ (by omega) (by omega) (by omega), .inr ⟨by simp at h3; omega, rfl, ?_⟩⟩
      rw [List.append_nil]; simp at h3; rw [h3]
    | cons s ts =>
      rw [List.pairwise_cons] at h6
      have hd := do_next (n := n) (g := 1 + i) (t := t') (t0 := t0) (b := 100 + i) (s := s) (ts := ts) h4 ⟨h0, h1⟩ (by omega) (by omega) (by omega) h5 h6.1 (by simp at h3; omega)
      rw [show (100 + (i : Int) + 1) = 101 + i by omega] at hd
      refine ⟨_, _, _, _, hd, .inl ⟨by simp at h3; omega, t', ts, by simp at h3; omega, by simp; omega, ?_, ?_, ?_, by omega, fun x hx => ?_, h6.2⟩⟩
      · rw [show (101 + (i : Int)) = 100 + ((i + 1 : Nat) : Int) by omega]
      · rw [show (100 + (i : Int) + 2) = 101 + ((i + 1 : Nat) : Int) by omega]
      · rw [mkR_succ (i + 1), show (101 + (i : Int)) = 100 + ((i + 1 : Nat) : Int) by omega]
      · have := h5 x (List.mem_cons_of_mem _ hx); omega
  · omega
/-- the desk in its box, the calls that were given -/
structure Tu (B : Nat) (w W : World) (n g : Int) (va vq : Value) (gs : List Ag) (qs : List Wt) (vl : Value) (al : List Int) : Prop where
  hB : w.heap.size = B
  box : Blk W (B + 1) (D4 n va vq g) 27
  own : OwD B W va vq gs qs
  all : Ow .i64 3 B W vl al
  bel : Below B w W
theorem Tu.below {B : Nat} {w W W' : World} {n g : Int} {va vq : Value} {gs : List Ag} {qs : List Wt} {vl : Value} {al : List Int} (h : Tu B w W n g va vq gs qs vl al) (hb : Below W.heap.size W W') : Tu B w W' n g va vq gs qs vl al :=
  ⟨h.hB, h.box.below hb h.box.lt, h.own.below hb, h.all.below hb, belowCall h.bel hb (by have := h.box.lt; omega)⟩
theorem Tu.put {B : Nat} {w W : World} {n g : Int} {va vq : Value} {gs : List Ag} {qs : List Wt} {vl : Value} {al : List Int} (h : Tu B w W n g va vq gs qs vl al) {n' g' : Int} {va' vq' : Value} {gs' : List Ag} {qs' : List Wt} (ho : OwD B W va' vq' gs' qs') :
    Tu B w ((((W.setCell ⟨B + 1, 0, none⟩ (.int .i64 n')).setCell ⟨B + 1, 1, none⟩ va').setCell ⟨B + 1, 2, none⟩ vq').setCell ⟨B + 1, 3, none⟩ (.int .i64 g')) n' g' va' vq' gs' qs' vl al := by
  have gf := grow4 W (B + 1) (.int .i64 n') va' vq' (.int .i64 g')
  exact ⟨h.hB, (((h.box.set 0 _).set 1 _).set 2 _).set 3 _, ho.off h.box gf, h.all.off h.box (by decide) gf, h.bel.trans (grown_below gf (by have := h.box.lt; omega) (fun k e => by cases e; omega))⟩
theorem Tu.app {B : Nat} {w W W' : World} {n g : Int} {va vq : Value} {gs : List Ag} {qs : List Wt} {vl : Value} {al : List Int} (h : Tu B w W n g va vq gs qs vl al) {vl' : Value} {al' : List Int} (hg : W.grownBy W' vl.ownBlock) (ho : Ow .i64 3 B W' vl' al') :
    Tu B w W' n g va vq gs qs vl' al' :=
  ⟨h.hB, h.box.offI h.all hg, h.own.offI h.all hg, ho, h.bel.trans (grown_below hg (by have := h.box.lt; omega) (fun k e => (World.ownsRow.lt h.all k e).1))⟩
end Go.Proofs.Ytpmmgbinogokfaa
