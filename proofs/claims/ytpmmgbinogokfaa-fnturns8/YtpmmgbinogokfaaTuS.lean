/- What stands between the steps of FnTurns8; no condition. -/
import Derived.Test.YtpmmgbinogokfaaTuM
namespace Go.Proofs.Ytpmmgbinogokfaa
open Go.RowKit Go.ChangeShapes Go.WideShapes Go.ChangeAt
set_option linter.unusedVariables false
set_option linter.unusedSimpArgs false
set_option maxRecDepth 8000
theorem big_c (v : Value) (zs : List Int) (w : World) (h : Rd .u8 w v zs) : Calls Try.prog 9 #[v] w fun e w' => e = .returned (.bool (decide ((1048576 : Int) < (zs.length : Int)))) ∧ w' = w := by
  obtain ⟨a, cap, rfl, -, h2, -⟩ := h
  unfold maxLen at h2
  go_enter Try.func9, Try.ntmps9
  go_wp2
  go_ret
  exact ⟨rfl, rfl⟩
set_option maxHeartbeats 1600000 in
theorem at_c (v : Value) (zs : List Int) (i : Int) (w : World) (h : Rd .u8 w v zs) (hok : ∀ z ∈ zs, 0 ≤ z ∧ z ≤ 255) (hi0 : 0 ≤ i) (hi : i ≤ 100000) (hlen : zs.length ≤ 1048576) :
   Calls Try.prog 18 #[v, .int .i64 i] w fun e w' => ∃ x : Int, e = .returned (.int .i64 x) ∧ 0 ≤ x ∧ x ≤ 255 ∧ w' = w := by
  obtain ⟨a, cap, rfl, h1, h2, h3⟩ := h
  unfold maxLen at h2
  obtain ⟨k, rfl⟩ := Int.eq_ofNat_of_zero_le hi0
  by_cases hlt : k < zs.length
  · rcases h3 with h3 | ⟨b, off, rfl, h4⟩
    · subst h3; simp at hlt
    have hc := h4 k hlt
    have hb := hok _ (List.getElem_mem hlt)
    have hltI : (k : Int) < (zs.length : Int) := by omega
    clear h4 hok
    go_enter Try.func18, Try.ntmps18
    go_wp2
    go_ret
    exact ⟨_, rfl, hb.1, hb.2, rfl⟩
  · clear h3 hok
    go_enter Try.func18, Try.ntmps18
    go_wp2
    go_ret
    exact ⟨_, rfl, by omega, by omega, rfl⟩
def mkR (k : Nat) : List Int := (List.range k).map fun x : Nat => 100 + (x : Int)
theorem mkR_succ (k : Nat) : mkR (k + 1) = mkR k ++ [100 + (k : Int)] := by simp [mkR, List.range_succ]
theorem mkR_len (k : Nat) : (mkR k).length = k := by simp [mkR]
theorem mkR_at (k i : Nat) (h : i < k) : (mkR k).getD i 0 = 100 + (i : Int) := by simp [mkR, List.getElem?_range h]
def St1 (j : Nat) (t n g : Int) (gs : List Ag) (qs : List Wt) (al : List Int) : Prop :=
  (j = 0 ∧ n = 0 ∧ g = 0 ∧ gs = [(4, -1, 0)] ∧ qs = [] ∧ al = []) ∨
  ∃ t0 ts, j = ts.length + 1 ∧ n = t ∧ g = 1 ∧ gs = [(4, 100, t0)] ∧ qs = qo 101 ts ∧ al = [100] ∧ (0 ≤ t0 ∧ t0 ≤ t) ∧ (∀ s ∈ ts, 0 ≤ s ∧ s ≤ t) ∧ ts.Pairwise (· ≤ ·)
theorem St1.step {j : Nat} {t n g : Int} {gs : List Ag} {qs : List Wt} {al : List Int} (h : St1 j t n g gs qs al) {t' : Int} (h0 : 0 ≤ t) (h1 : t ≤ t') (h2 : t' ≤ 100) (hj : j ≤ 12) :
    ∃ g' gs' qs' cl, doF n g gs qs 1 t' (100 + j) 4 2 = ((t', g', gs', qs'), cl, 0) ∧ St1 (j + 1) t' t' g' gs' qs' (al ++ cl) := by
  rcases h with ⟨rfl, rfl, rfl, rfl, rfl, rfl⟩ | ⟨t0, ts, rfl, rfl, rfl, rfl, rfl, rfl, h3, h4, h5⟩
  · exact ⟨1, [(4, 100, t')], [], [100], do_first (by omega), .inr ⟨t', [], rfl, rfl, rfl, rfl, rfl, rfl, by omega, by simp, by simp⟩⟩
  · refine ⟨1, [(4, 100, t0)], qo 101 (ts ++ [t']), [], ?_, .inr ⟨t0, ts ++ [t'], by simp, rfl, rfl, rfl, rfl, rfl, by omega, ?_, ?_⟩⟩
    · have := do_wait (n := n) (t := t') h3 (by omega) (by omega) h4 (by omega)
      rw [show (100 + ((ts.length + 1 : Nat) : Int)) = 101 + (ts.length : Int) by omega]
      exact this
    · intro s hs
      rw [List.mem_append, List.mem_singleton] at hs
      rcases hs with hs | rfl
      · have := h4 s hs; omega
      · omega
    · rw [List.pairwise_append]
      refine ⟨h5, by simp, fun a ha b hb => ?_⟩
      rw [List.mem_singleton] at hb
      have := h4 a ha
      omega
def St2 (m i : Nat) (n g : Int) (gs : List Ag) (qs : List Wt) (al : List Int) : Prop :=
  (i < m ∧ ∃ t0 ts, i + ts.length + 1 = m ∧ g = 1 + i ∧ gs = [(4, 100 + (i : Int), t0)] ∧ qs = qo (101 + i) ts ∧ al = mkR (i + 1) ∧ (0 ≤ t0 ∧ t0 ≤ n) ∧ (∀ s ∈ ts, 0 ≤ s ∧ s ≤ n) ∧ ts.Pairwise (· ≤ ·)) ∨
  (i = m ∧ qs = [] ∧ al = mkR m)
theorem St1.two {m : Nat} {t n g : Int} {gs : List Ag} {qs : List Wt} {al : List Int} (h : St1 m t n g gs qs al) (hm : 1 ≤ m) : n = t ∧ St2 m 0 n g gs qs al := by
  rcases h with ⟨rfl, -⟩ | ⟨t0, ts, rfl, rfl, rfl, rfl, rfl, rfl, h3, h4, h5⟩
  · omega
  · exact ⟨rfl, .inl ⟨by omega, t0, ts, by omega, by simp, by simp, by simp, by simp [mkR, List.range_succ], h3, h4, h5⟩⟩
theorem St2.step {m i : Nat} {n g : Int} {gs : List Ag} {qs : List Wt} {al : List Int} (h : St2 m i n g gs qs al) (hi : i < m) (hm : m ≤ 12) {t' : Int} (h0 : 0 ≤ n) (h1 : n ≤ t') (h2 : t' ≤ 100) :
    ∃ g' gs' qs' cl, doF n g gs qs 3 t' 0 0 0 = ((t', g', gs', qs'), cl, 0) ∧ St2 m (i + 1) t' g' gs' qs' (al ++ cl) := by
  rcases h with ⟨-, t0, ts, h3, rfl, rfl, rfl, rfl, h4, h5, h6⟩ | ⟨rfl, -⟩
  · cases ts with
    | nil =>
      refine ⟨_, _, _, _, do_last h4 ⟨h0, h1⟩ (by omega) (by omega) (by omega), .inr ⟨by simp at h3; omega, rfl, ?_⟩⟩
      rw [List.append_nil]; simp at h3; rw [h3]
    | cons s ts =>
      rw [List.pairwise_cons] at h6
      have hd := do_next (n := n) (g := 1 + i) (t := t') (t0 := t0) (b := 100 + i) (s := s) (ts := ts) h4 ⟨h0, h1⟩ (by omega) (by omega) (by omega) h5 h6.1 (by simp at h3; omega)
      rw [show (100 + (i : Int) + 1) = 101 + i by omega] at hd
      refine ⟨_, _, _, _, hd, .inl ⟨by simp at h3; omega, t', ts, by simp at h3; omega, by simp; omega, ?_, ?_, ?_, by omega, fun x hx => ?_, h6.2⟩⟩
      · rw [show (101 + (i : Int)) = 100 + ((i + 1 : Nat) : Int) by omega]
      · rw [show (100 + (i : Int) + 2) = 101 + ((i + 1 : Nat) : Int) by omega]
      · rw [mkR_succ (i + 1), show (101 + (i : Int)) = 100 + ((i + 1 : Nat) : Int) by omega]
      · have := h5 x (List.mem_cons_of_mem _ hx); omega
  · omega
/-- the desk in its box, the calls that were given -/
structure Tu (B : Nat) (w W : World) (n g : Int) (va vq : Value) (gs : List Ag) (qs : List Wt) (vl : Value) (al : List Int) : Prop where
  hB : w.heap.size = B
  box : Blk W (B + 1) (D4 n va vq g) 27
  own : OwD B W va vq gs qs
  all : Ow .i64 3 B W vl al
  bel : Below B w W
theorem Tu.below {B : Nat} {w W W' : World} {n g : Int} {va vq : Value} {gs : List Ag} {qs : List Wt} {vl : Value} {al : List Int} (h : Tu B w W n g va vq gs qs vl al) (hb : Below W.heap.size W W') : Tu B w W' n g va vq gs qs vl al :=
  ⟨h.hB, h.box.below hb h.box.lt, h.own.below hb, h.all.below hb, belowCall h.bel hb (by have := h.box.lt; omega)⟩
theorem Tu.put {B : Nat} {w W : World} {n g : Int} {va vq : Value} {gs : List Ag} {qs : List Wt} {vl : Value} {al : List Int} (h : Tu B w W n g va vq gs qs vl al) {n' g' : Int} {va' vq' : Value} {gs' : List Ag} {qs' : List Wt} (ho : OwD B W va' vq' gs' qs') :
    Tu B w ((((W.setCell ⟨B + 1, 0, none⟩ (.int .i64 n')).setCell ⟨B + 1, 1, none⟩ va').setCell ⟨B + 1, 2, none⟩ vq').setCell ⟨B + 1, 3, none⟩ (.int .i64 g')) n' g' va' vq' gs' qs' vl al := by
  have gf := grow4 W (B + 1) (.int .i64 n') va' vq' (.int .i64 g')
  exact ⟨h.hB, (((h.box.set 0 _).set 1 _).set 2 _).set 3 _, ho.off h.box gf, h.all.off h.box (by decide) gf, h.bel.trans (grown_below gf (by have := h.box.lt; omega) (fun k e => by cases e; omega))⟩
theorem Tu.app {B : Nat} {w W W' : World} {n g : Int} {va vq : Value} {gs : List Ag} {qs : List Wt} {vl : Value} {al : List Int} (h : Tu B w W n g va vq gs qs vl al) {vl' : Value} {al' : List Int} (hg : W.grownBy W' vl.ownBlock) (ho : Ow .i64 3 B W' vl' al') :
    Tu B w W' n g va vq gs qs vl' al' :=
  ⟨h.hB, h.box.offI h.all hg, h.own.offI h.all hg, ho, h.bel.trans (grown_below hg (by have := h.box.lt; omega) (fun k e => (World.ownsRow.lt h.all k e).1))⟩
end Go.Proofs.Ytpmmgbinogokfaa
