/- Maps keyed by channels that count them, and comparisons of channels and of pointers; no condition. -/
import Derived.WalkKit
import Derived.ProofKit
import Derived.Below
import Derived.LaidEql
import Derived.Maps.OwnOps
namespace Go.Proofs.Ytcbeaimpmjljjaa
open Go.RowKit Go.ChangeShapes Go.WideShapes Go.ChangeAt
set_option linter.unusedVariables false
set_option linter.unusedSimpArgs false
/-- the map's block holds each of the channels with its place -/
def ChMap (w : World) (b : Nat) (chs : List Nat) : Prop :=
  ∃ es clock, w.heap[b]? = some (.map es clock) ∧ es.toList.map (fun e => (e.key, e.val)) = chs.zipIdx.map fun p => (Value.chan (some p.1), Value.int .i64 p.2)
theorem equalIn_chan {P : Program} {t e : TypeId} {d : ChanDir} (ht : P.underlying t = some (.chan d e)) (a b : Option Nat) (w : World) (n : Nat) : (Op.equalIn (n + 1) t (.chan a) (.chan b)).run P w = .ok (a == b) w := by
  simp [Op.equalIn, run_underlying ht]
theorem equal_chan {P : Program} {t e : TypeId} {d : ChanDir} (ht : P.underlying t = some (.chan d e)) (a b : Option Nat) (w : World) : (Op.equal t (.chan a) (.chan b)).run P w = .ok (a == b) w := by
  exact equalIn_chan ht a b w 9999
theorem findAsking_chan {P : Program} {t e : TypeId} {d : ChanDir} (ht : P.underlying t = some (.chan d e)) (c : Nat) (w : World) : ∀ (es : List MapEntry) (ps : List (Nat × Value)) (k : Nat),
    es.map (fun e => (e.key, e.val)) = ps.map (fun p => (Value.chan (some p.1), p.2)) →
    (Instr.findAsking t (.chan (some c)) es k).run P w = .ok ((ps.findIdx? (fun p => c == p.1)).map fun i => (k + i, (ps.getD i (0, undef)).2)) w := by
  intro es
  induction es with
  | nil =>
    intro ps k h
    cases ps with
    | nil => simp [Instr.findAsking]
    | cons p r => simp at h
  | cons x es ih =>
    intro ps k h
    cases ps with
    | nil => simp at h
    | cons p r =>
      simp at h
      obtain ⟨⟨h1, h2⟩, h3⟩ := h
      have := ih r (k + 1) (by simpa using h3)
      by_cases hc : c = p.1
      · simp [Instr.findAsking, h1, h2, equal_chan ht, hc, List.findIdx?_cons]
      · simp [Instr.findAsking, h1, h2, equal_chan ht, hc, List.findIdx?_cons, this, Function.comp_def]
        cases List.findIdx? (fun p => c == p.1) r with
        | none => simp
        | some i => simp; omega
theorem findKey_chan {P : Program} {t e : TypeId} {d : ChanDir} (ht : P.underlying t = some (.chan d e)) (c : Nat) (w : World) (es : List MapEntry) (ps : List (Nat × Value))
    (h : es.map (fun e => (e.key, e.val)) = ps.map (fun p => (Value.chan (some p.1), p.2))) :
    (Instr.findKey t (.chan (some c)) es).run P w = .ok ((ps.findIdx? (fun p => c == p.1)).map fun i => (i, (ps.getD i (0, undef)).2)) w := by
  have h0 := findAsking_chan ht c w es ps 0 h
  cases es with
  | nil =>
    cases ps with
    | nil => simp [Instr.findKey, run_underlying ht, Instr.findNow]
    | cons p r => simp at h
  | cons x es =>
    simp [Instr.findKey, run_underlying ht, Instr.findNow, Instr.sameNow, h0]
theorem checkKey_chan' {P : Program} {t e : TypeId} {d : ChanDir} (ht : P.underlying t = some (.chan d e)) (em : Bool) (c : Option Nat) (w : World) (n : Nat) : (Instr.checkKey em (n + 1) t (.chan c)).run P w = .ok () w := by
  simp [Instr.checkKey, run_underlying ht]
theorem checkKey_chan {P : Program} {t e : TypeId} {d : ChanDir} (ht : P.underlying t = some (.chan d e)) (em : Bool) (c : Option Nat) (w : World) : (Instr.checkKey em 10000 t (.chan c)).run P w = .ok () w := checkKey_chan' ht em c w 9999
theorem getObj_map {P : Program} {w : World} {b : Nat} {es : Array MapEntry} {clock : Nat} (hb : w.heap[b]? = some (.map es clock)) : (getObj b).run P w = .ok (.map es clock) w := by simp [getObj, Sem.run, hb]
theorem findIdx_zip (chs : List Nat) (hn : chs.Nodup) (c i : Nat) (h : chs[i]? = some c) : (chs.zipIdx.map fun p => (p.1, Value.int .i64 p.2)).findIdx? (fun p => c == p.1) = some i := by
  have hi : i < chs.length := by
    by_cases hlt : i < chs.length
    · exact hlt
    · rw [List.getElem?_eq_none (by omega)] at h; cases h
  rw [List.getElem?_eq_getElem hi] at h
  simp at h
  rw [List.findIdx?_eq_some_iff_getElem]
  refine ⟨by simpa using hi, by simp [h], ?_⟩
  intro j hj
  simp
  intro e
  have h1 : chs[i] = chs[j] := by rw [h]; exact e
  have := (List.getElem_inj hn).1 h1
  omega
theorem lookup_chan {P : Program} {T t E e : TypeId} {d : ChanDir} (hT : P.underlying T = some (.map t E)) (ht : P.underlying t = some (.chan d e)) {w : World} {b : Nat} {chs : List Nat} (h : ChMap w b chs) (hn : chs.Nodup)
    (c i : Nat) (hc : chs[i]? = some c) : (Instr.lookup T (.map (some b)) (.chan (some c)) false).run P w = .ok (.int .i64 i) w := by
  obtain ⟨es, clock, hb, he⟩ := h
  have hi : i < chs.length := by
    by_cases hlt : i < chs.length
    · exact hlt
    · rw [List.getElem?_eq_none (by omega)] at hc; cases hc
  have hf := findKey_chan ht c w es.toList (chs.zipIdx.map fun p => (p.1, Value.int .i64 p.2)) (by rw [he]; simp [Function.comp_def])
  rw [findIdx_zip chs hn c i hc] at hf
  simp [hi] at hf
  simp [Instr.lookup, run_underlying hT, getObj_map hb, checkKey_chan ht, hf]
theorem update_chan {P : Program} {T t E e : TypeId} {d : ChanDir} (hT : P.underlying T = some (.map t E)) (ht : P.underlying t = some (.chan d e)) {w : World} {b : Nat} {chs : List Nat} (h : ChMap w b chs)
    (c : Nat) (hc : c ∉ chs) : ∃ w', (Instr.mapUpdate T (.map (some b)) (.chan (some c)) (.int .i64 chs.length)).run P w = .ok () w' ∧ ChMap w' b (chs ++ [c]) ∧ w.grownBy w' (some b) := by
  obtain ⟨es, clock, hb, he⟩ := h
  have hf := findKey_chan ht c w es.toList (chs.zipIdx.map fun p => (p.1, Value.int .i64 p.2)) (by rw [he]; simp [Function.comp_def])
  have hn : (chs.zipIdx.map fun p => (p.1, Value.int .i64 p.2)).findIdx? (fun p => c == p.1) = none := by
    rw [List.findIdx?_eq_none_iff]
    intro p hp
    simp at hp ⊢
    obtain ⟨a, k, hm, rfl⟩ := hp
    intro e
    subst e
    exact hc (List.mem_of_getElem? (List.mem_zipIdx_iff_getElem?.1 hm))
  rw [hn] at hf
  simp at hf
  have hlt : b < w.heap.size := by
    by_cases hlt : b < w.heap.size
    · exact hlt
    · rw [Array.getElem?_eq_none (by omega)] at hb; cases hb
  refine ⟨{ w with heap := w.heap.setIfInBounds b (.map (es.push { key := .chan (some c), val := .int .i64 chs.length, born := clock }) (clock + 1)) }, ?_, ?_, ?_⟩
  · simp [Instr.mapUpdate, run_underlying hT, getObj_map hb, checkKey_chan ht, hf, setObj, Sem.run, hb]
  · refine ⟨_, _, by simp [hlt]; exact ⟨rfl, rfl⟩, ?_⟩
    simp [he, List.zipIdx_append]
  · refine ⟨rfl, rfl, rfl, by simp, fun j hj hne => ?_⟩
    simp
    rw [Array.getElem?_setIfInBounds_ne (fun e => hne (by rw [e]))]
end Go.Proofs.Ytcbeaimpmjljjaa
