/- The program's own panel, made: one channel more, one line more in its map; no condition. -/
import Derived.Test.YtcbeaimpmjljjaaAdd
namespace Go.Proofs.Ytcbeaimpmjljjaa
open Go.RowKit Go.ChangeShapes Go.WideShapes Go.ChangeAt
set_option linter.unusedVariables false
set_option linter.unusedSimpArgs false
set_option maxRecDepth 8000
theorem makeWire (w : World) : (Instr.makeChan 98 (.int .i64 0)).run Try.prog w = .ok (.chan (some w.heap.size)) (w.alloc (.chan 0 #[] false 0 0 false)) := by
  have hi : ∃ i, Try.prog.info? 3 = some i := by
    obtain ⟨i0, hi, -⟩ := info_parts toIInfo
    exact ⟨i0, hi⟩
  obtain ⟨i0, hi⟩ := hi
  have hu : (underlying 98).run Try.prog w = .ok (.chan .both 3) w := run_underlying Try.underlying98 w
  simp [Instr.makeChan, asInt, asIntOf, hu, typeInfo, hi, IntKind.max, IntKind.signed, IntKind.bits]
theorem wpList_lineUpdate {ops : Array Oper} {rest : List Oper} {o : Oper} {a : Act} {w : World} {Q : Exit → Act → World → Prop} (hg : o.guard = none) (m x v : Operand) (hop : o.op = Op.mapUpdate 100 m x v)
    (b : Nat) (chs : List Nat) (hm : a.eval m = .map (some b)) (hown : ChMap w b chs) (c : Nat) (hx : a.eval x = .chan (some c)) (hv : a.eval v = .int .i64 chs.length) (hc : c ∉ chs)
    (hK : ∀ w', ChMap w' b (chs ++ [c]) → w.grownBy w' (some b) → wpList Try.prog ops Q rest (a.put o.dst undef) w') : wpList Try.prog ops Q (o :: rest) a w := by
  refine wpList_plain hg fun K' hK' => ?_
  obtain ⟨w', hrun, r1, r2⟩ := update_chan Try.underlying100 Try.underlying98 hown c hc
  unfold Oper.wp
  simp [execOp, hop, hm, hx, hv, hrun, Result.andThen]
  exact hK' _ _ (hK w' r1 r2)
theorem Wr.wire {base : Nat} {ρ : Nat → Tag} {chs : List Nat} {w w4 w6 : World} {g : Nat} (h : Wr base ρ chs w g [] []) {wv : Value} {gm : Nat} {cv : Value} (hB : Blk w g #[wv, .map (some gm), cv] 103)
    (hk : Keeps ρ (fun t => t = .wires) w w4) (c : Nat) (hc : w.heap.size ≤ c) (hcl : c < w4.heap.size) (v' : Value) (hr : w4.ownsRow base 98 1 v' (chs.length + 1) (chs.map (fun c => .chan (some c)) ++ [.chan (some c)]))
    (hloc : ∀ k, v'.ownBlock = some k → wv.ownBlock = some k ∨ w.heap.size ≤ k) (hg6 : (w4.setCell ⟨g, 0, none⟩ v').grownBy w6 (some gm)) (hm6 : ChMap w6 gm (chs ++ [c])) :
    ∃ ρ', (∀ k, k < w.heap.size → ρ' k = ρ k) ∧ Wr base ρ' (chs ++ [c]) w6 g [] [] := by
  obtain ⟨wv0, gm0, cv0, b0, b1, b2, r1, o1, m1, m2, m3, r2, o2⟩ := h.ex
  have e := blk_same b0 hB
  simp at e
  obtain ⟨rfl, rfl, rfl⟩ := e
  have hgl := b0.lt
  let ρ' : Nat → Tag := fun k => if k < w.heap.size then ρ k else .wires
  have hag : ∀ k, k < w.heap.size → ρ' k = ρ k := fun k hk => by simp [ρ', hk]
  have hgm : gm0 < w.heap.size := by
    obtain ⟨es, clock, hb, he⟩ := m1
    by_cases hlt : gm0 < w.heap.size
    · exact hlt
    · rw [Array.getElem?_eq_none (by omega)] at hb; cases hb
  have hggm : g ≠ gm0 := fun e => by rw [e, m3] at b2; simp at b2
  have hon : On ρ' v' .wires := by
    intro k hk'
    rcases hloc k hk' with hq | hq
    · have := (World.ownsRow.lt r1 k hq).2
      rw [hag k this]; exact o1 k hq
    · simp [ρ', show ¬ k < w.heap.size by omega]
  have hb4 : Blk w4 g #[wv0, .map (some gm0), cv0] 103 := blk_keeps hk b0 (by rw [b2]; simp)
  have hset : Blk (w4.setCell ⟨g, 0, none⟩ v') g #[v', .map (some gm0), cv0] 103 := by simpa using hb4.set 0 v'
  have hb6 : Blk w6 g #[v', .map (some gm0), cv0] 103 := by
    rw [Blk, hg6.block g hset.lt (by simpa using hggm)]; exact hset
  have hvg : v'.ownBlock = none ∨ v'.ownBlock ≠ some g := by
    cases hv : v'.ownBlock with
    | none => exact .inl rfl
    | some k =>
      refine .inr fun e => ?_
      cases e
      have := hon _ hv
      rw [hag g hgl, b2] at this; simp at this
  have hvm : v'.ownBlock = none ∨ v'.ownBlock ≠ some gm0 := by
    cases hv : v'.ownBlock with
    | none => exact .inl rfl
    | some k =>
      refine .inr fun e => ?_
      cases e
      have := hon _ hv
      rw [hag gm0 hgm, m3] at this; simp at this
  have hk6 : Keeps ρ (fun t => t = .root ∨ t = .wires ∨ t = .lines) w w6 := by
    refine ⟨Nat.le_trans hk.1 (by have := hg6.size; simpa using this), fun k hk1 hn => ?_⟩
    have h1 : some k ≠ some gm0 := fun e => by cases e; exact hn (.inr (.inr m3))
    rw [hg6.block k (by have := hk.1; simp; omega) h1, heap_setCell_other w4 ⟨g, 0, none⟩ k v' (fun e => hn (by rw [e]; exact .inl b2))]
    exact hk.2 k hk1 (fun e => hn (.inr (.inl e)))
  refine ⟨ρ', hag, ⟨⟨v', gm0, cv0, hb6, b1, by rw [hag g hgl]; exact b2, ?_, hon, hm6, m2, by rw [hag gm0 hgm]; exact m3, ownsRow_keeps hk6 r2 o2 (by simp), on_keeps r2 o2 hag⟩, rfl, by simp, fun i hi => by simp at hi, ?_, ?_, fun c hc => by simp at hc⟩⟩
  · have h1 := World.ownsRow.kept hr (grown_set w4 g 0 v') hvg
    have h2 := World.ownsRow.kept h1 hg6 hvm
    simpa using h2
  · rw [List.nodup_append]
    refine ⟨h.nod, by simp, fun a ha b hb => ?_⟩
    simp at hb; subst hb
    have := h.old a ha
    omega
  · intro a ha
    have hs := hg6.size
    simp at hs
    rcases List.mem_append.1 ha with ha | ha
    · have := h.old a ha; have := hk.1; omega
    · simp at ha; subst ha; omega
theorem lines_len : ∀ (n : Nat) (l : List Int), l.Nodup → (∀ x ∈ l, 0 ≤ x ∧ x < n) → l.length ≤ n
  | 0, l, _, h => by
    cases l with
    | nil => simp
    | cons x r => have := h x (by simp); omega
  | n + 1, l, hn, h => by
    by_cases hm : (n : Int) ∈ l
    · have := lines_len n (l.erase n) (hn.erase _) (fun x hx => by
        have h1 := h x (List.mem_of_mem_erase hx)
        have h2 : x ≠ n := fun e => by subst e; exact (List.Nodup.mem_erase_iff hn).1 hx |>.1 rfl
        omega)
      rw [List.length_erase_of_mem hm] at this
      omega
    · have := lines_len n l hn (fun x hx => by
        have h1 := h x hx
        have h2 : x ≠ n := fun e => hm (e ▸ hx)
        omega)
      omega
end Go.Proofs.Ytcbeaimpmjljjaa
