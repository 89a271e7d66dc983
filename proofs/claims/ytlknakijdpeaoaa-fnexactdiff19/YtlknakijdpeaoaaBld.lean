/- The program's builder, by contracts; no condition. -/
import Derived.Test.YtlknakijdpeaoaaNmb
import Derived.Shelf.Lay
import Derived.Ground.NamesProg
import Derived.Shelf.Strings.Builder1
namespace Go.Proofs.Ytlknakijdpeaoaa
open Go.RowKit Go.ChangeShapes Go.WideShapes Go.ChangeAt
set_option linter.unusedVariables false
set_option linter.unusedSimpArgs false
set_option maxRecDepth 8000

end Go.Proofs.Ytlknakijdpeaoaa
namespace Go.Proofs
open Go.Shelf
shelf_lay Lays.n169 Nm 169 at Try as Ytlknakijdpeaoaa.laysString
theorem Ytlknakijdpeaoaa.strX : Builder.Extra Try.prog Ytlknakijdpeaoaa.laysString_ren where
  sizeBuilder := by kernel_rfl
  liesBuilder := by kernel_rfl
  t5 := Try.underlying5
  a5 := Try.isAgg5
  z5 := Try.sizeOf5
  v5 := Try.zeroValue5
  infoByte := by kernel_rfl
  cellsByte := by kernel_rfl
  sizeByte := by kernel_rfl
  neB5 := by decide
end Go.Proofs
namespace Go.Proofs.Ytlknakijdpeaoaa
open Go.RowKit Go.ChangeShapes Go.WideShapes Go.ChangeAt
open Go.Shelf
set_option linter.unusedVariables false
set_option linter.unusedSimpArgs false
set_option maxRecDepth 8000
/-- below B all is as it was, but for block b -/
structure Bx (B b : Nat) (w w' : World) : Prop where
  os : w'.os = w.os
  tape : w'.tape = w.tape
  output : w'.output = w.output
  size : w.heap.size ≤ w'.heap.size
  block : ∀ k, k < B → k ≠ b → w'.heap[k]? = w.heap[k]?
theorem Bx.refl (B b : Nat) (w : World) : Bx B b w w := ⟨rfl, rfl, rfl, Nat.le_refl _, fun _ _ _ => rfl⟩
theorem Bx.trans {B b : Nat} {w w' w'' : World} (h : Bx B b w w') (k : Bx B b w' w'') : Bx B b w w'' :=
  ⟨k.os.trans h.os, k.tape.trans h.tape, k.output.trans h.output, Nat.le_trans h.size k.size, fun i hi hn => (k.block i hi hn).trans (h.block i hi hn)⟩
theorem Bx.of {B b : Nat} {w w' : World} (h : Below B w w') : Bx B b w w' := ⟨h.os, h.tape, h.output, h.size, fun k hk _ => h.block k hk⟩
theorem Bx.cell {B b : Nat} {w w' : World} (h : Bx B b w w') {p : Addr} (hp : p.block < B) (hn : p.block ≠ b) : w'.cell? p = w.cell? p := World.cell?_of_block (h.block _ hp hn)
theorem Bx.set {B b : Nat} {w w' : World} (h : Bx B b w w') (i : Nat) (v : Value) : Bx B b w (w'.setCell ⟨b, i, none⟩ v) :=
  ⟨h.os, h.tape, h.output, by simpa [World.setCell] using h.size, fun k hk hn => (Below.heap_setCell _ _ _ _ hn).trans (h.block k hk hn)⟩
theorem Bx.below {B b B0 : Nat} {w w' : World} (h : Bx B b w w') (hB : B0 ≤ B) (hb : B0 ≤ b) : Below B0 w w' := ⟨h.os, h.tape, h.output, h.size, fun k hk => h.block k (by omega) (by omega)⟩
/-- the builder has not been copied -/
theorem chk_c (b : Nat) (p v : Value) (W : World) (hk : Blk W b #[p, v] 61) (hp : p = .pointer none ∨ p = .pointer (some ⟨b, 0, none⟩)) :
    Calls Try.prog 53 #[.pointer (some ⟨b, 0, none⟩)] W fun e w' => e = .returned (.tuple #[]) ∧ (w' = W ∨ w' = W.setCell ⟨b, 0, none⟩ (.pointer (some ⟨b, 0, none⟩))) ∧ Blk w' b #[.pointer (some ⟨b, 0, none⟩), v] 61 := by
  have hk' : W.heap[b]? = some (.cells #[p, v] 61 (0, 0)) := hk
  have hsh : W.shape? b = some (61, 2) := by simp [World.shape?, hk']
  obtain ⟨j, hj, hjs⟩ := Option.map_eq_some_iff.1 (strX.sizeBuilder : (Try.prog.info? 61).map (·.size) = some 2)
  have hA := Lib.run_to_unsafe (P := Try.prog) W (src := 59) (dst := 89) ⟨b, 0, none⟩ Try.underlying59 Try.underlying89 hj (by rw [hjs]; decide) hsh (Nat.zero_lt_succ 1)
  have hB := Lib.run_from_unsafe (P := Try.prog) W (src := 89) (dst := 59) ⟨b, 0, none⟩ Try.underlying89 Try.underlying59 hj hsh strX.liesBuilder
  have hN := @run_callFunc_extern Try.prog 63 _ Extern.AbiNoEscape.same Try.func63 (by kernel_rfl) (by kernel_rfl) (by kernel_rfl) (by kernel_rfl)
  have hS : ∀ (x : Value) (W : World), (Extern.AbiNoEscape.same #[x]).run Try.prog W = .ok x W := fun _ _ => rfl
  have hQ : ∀ W : World, (binOp .neq 59 (.pointer (some ⟨b, 0, none⟩)) (.pointer (some ⟨b, 0, none⟩))).run Try.prog W = .ok (.bool false) W := fun W => Lib.run_neq_ptr_same W _ Try.underlying59 hj
  have k0 := hk.cell 0
  have f0 := hk.frozen 0
  simp at k0
  rcases hp with rfl | rfl
  · have HF : Hid (Blk (W.setCell ⟨b, 0, none⟩ (.pointer (some ⟨b, 0, none⟩))) b #[.pointer (some ⟨b, 0, none⟩), v] 61) := hk.set 0 _
    clear hk hk' hsh hj hjs
    go_enter Try.func53, Try.ntmps53
    go_wp2
    go_end0
    exact ⟨rfl, .inr rfl, HF.out⟩
  · have HF : Hid (Blk W b #[.pointer (some ⟨b, 0, none⟩), v] 61) := hk
    clear hk hk' hsh hj hjs
    go_enter Try.func53, Try.ntmps53
    go_wp2
    go_end0
    exact ⟨rfl, .inl rfl, HF.out⟩
/-- what stands in a builder: its block, its row -/
structure Bd (B b : Nat) (bs : List UInt8) (W : World) : Prop where
  blk : ∃ p v, Blk W b #[p, v] 61 ∧ (p = .pointer none ∨ p = .pointer (some ⟨b, 0, none⟩)) ∧ W.ownsRow B 5 1 v (Lib.byteCells bs).length (Lib.byteCells bs) ∧ (bs = [] → v = .slice none 0 0)
theorem own_set {B b i e : Nat} {W : World} {v u : Value} {n : Nat} {xs : List Value} {cs : Array Value} {t : TypeId} (ho : W.ownsRow B e 1 v n xs) (hk : Blk W b cs t) (hne : t ≠ e) : (W.setCell ⟨b, i, none⟩ u).ownsRow B e 1 v n xs :=
  World.ownsRow.kept (row := some b) ho ⟨rfl, rfl, rfl, by simp [World.setCell], fun k _ hk' => Below.heap_setCell _ _ _ _ (fun e => hk' (by simp [e]))⟩ (.inr (Lib.ownBlock_ne ho hk hne))
theorem strCells_bytes (s : ByteArray) : Lib.strCells s = Lib.byteCells s.data.toList := rfl
set_option maxHeartbeats 3200000 in
theorem wrt_c (B b : Nat) (bs : List UInt8) (s : ByteArray) (W0 W : World) (hd : Bd B b bs W) (hx : Bx B b W0 W) (hbB : b < B) (hBW : B ≤ W.heap.size) (hlen : bs.length + s.size ≤ 1000000000) (hs : 0 < s.size) :
    Calls Try.prog 39 #[.pointer (some ⟨b, 0, none⟩), .string s] W fun e w' => e = .returned (.tuple #[.int .i64 s.size, .nilIface]) ∧ Bd B b (bs ++ s.data.toList) w' ∧ Bx B b W0 w' ∧ B ≤ w'.heap.size := by
  obtain ⟨p, v, hk, hp, ho, hnil⟩ := hd.blk
  have HK : Hid (Blk W b #[p, v] 61) := hk
  have HP : Hid (p = .pointer none ∨ p = .pointer (some ⟨b, 0, none⟩)) := hp
  have HO : Hid (W.ownsRow B 5 1 v (Lib.byteCells bs).length (Lib.byteCells bs)) := ho
  have HX : Hid (Bx B b W0 W) := hx
  have HN : Hid (b < B ∧ B ≤ W.heap.size ∧ (Lib.byteCells bs).length + s.size ≤ 1000000000) := ⟨hbB, hBW, by simpa [Lib.byteCells] using hlen⟩
  obtain ⟨i0, hi, hz0, hz1, hz2⟩ := info_parts (show (Try.prog.info? 5).map (fun i => (i.zero, i.size, i.bytes)) = some (some (.int .u8 0), 1, 1) by kernel_rfl)
  clear hd hk hp ho hx hnil
  go_enter Try.func39, Try.ntmps39
  go_wp2_with (fail)
  refine (chk_c b p v W HK.out HP.out).mono ?_
  rintro e w1 ⟨rfl, hw, hk1⟩
  have HK1 : Hid (Blk w1 b #[.pointer (some ⟨b, 0, none⟩), v] 61) := hk1
  have HX1 : Hid (Bx B b W0 w1 ∧ B ≤ w1.heap.size) := by
    rcases hw with rfl | rfl
    · exact ⟨HX.out, HN.out.2.1⟩
    · exact ⟨HX.out.set _ _, by simpa [World.setCell] using HN.out.2.1⟩
  have HO1 : Hid (w1.ownsRow B 5 1 v (Lib.byteCells bs).length (Lib.byteCells bs)) := by
    rcases hw with rfl | rfl
    · exact HO.out
    · exact own_set HO.out HK.out (by decide)
  have c1 : w1.cell? ⟨b, 1, none⟩ = some v := hk1.cell 1
  clear hw hk1
  go_wp2_with (at_builtin; refine Lib.wpList_append_own_string _ rfl _ _ 22 9 rfl B 5 i0 Try.underlying22 Try.underlying9 hi hz0 hz1 hz2 v _ _ rfl HO1.out s rfl (by have := HN.out; unfold maxLen; omega) (by have := HN.out; omega) HX1.out.2 ?_)
  intro v' w2 ho hg _
  have hne : v.ownBlock ≠ some b := Lib.ownBlock_ne HO1.out HK1.out (by decide)
  have HK2 : Hid (Blk w2 b #[.pointer (some ⟨b, 0, none⟩), v] 61) := (hg.block b HK1.out.lt (fun e => hne e.symm)).trans HK1.out
  have HO2 : Hid (w2.ownsRow B 5 1 v' (Lib.byteCells (bs ++ s.data.toList)).length (Lib.byteCells (bs ++ s.data.toList))) := by
    have e : Lib.byteCells (bs ++ s.data.toList) = Lib.byteCells bs ++ Lib.strCells s := by rw [strCells_bytes]; simp [Lib.byteCells]
    show World.ownsRow _ _ _ _ _ _ _
    rw [e, List.length_append, Lib.strCells_length]; exact ho
  have HX2 : Hid (Bx B b W0 w2 ∧ B ≤ w2.heap.size) := ⟨HX1.out.1.trans (.of (grown_below hg HX1.out.2 fun k hk => (World.ownsRow.lt HO1.out k hk).1)), Nat.le_trans HX1.out.2 hg.size⟩
  have d0 : w2.cell? ⟨b, 0, none⟩ = some (.pointer (some ⟨b, 0, none⟩)) := HK2.out.cell 0
  have d1 : w2.cell? ⟨b, 1, none⟩ = some v := HK2.out.cell 1
  have f1 : w2.frozen? ⟨b, 1, none⟩ = false := HK2.out.frozen 1
  obtain ⟨ao, n', cap, rfl⟩ : ∃ ao n' cap, v' = .slice ao n' cap := by
    rcases ho.2 with ⟨hv, _⟩ | ⟨g, cap, cur, hv, _⟩
    · exact ⟨_, _, _, hv⟩
    · exact ⟨_, _, _, hv⟩
  clear ho hg hne c1
  go_wp2
  go_ret2
  refine ⟨rfl, ⟨_, _, HK2.out.set 1 _, .inr rfl, own_set HO2.out HK2.out (by decide), fun hn => by
    have h1 := congrArg List.length hn
    have h2 : s.data.toList.length = s.size := by simp
    rw [List.length_append, h2, List.length_nil] at h1
    omega⟩, HX2.out.1.set _ _, by simpa [World.setCell] using HX2.out.2⟩
/-- what a builder holds, as a text -/
theorem str_c (B b : Nat) (bs : List UInt8) (W0 W : World) (B0 : Nat) (hd : Bd B b bs W) (hB : B0 ≤ B) (hb : B0 ≤ b) (hx : Below B0 W0 W) :
    Calls Try.prog 40 #[.pointer (some ⟨b, 0, none⟩)] W fun e w' => e = .returned (.string ⟨bs.toArray⟩) ∧ Below B0 W0 w' := by
  obtain ⟨p, v, hk, hp, ho, hnil⟩ := hd.blk
  have ho' : W.ownsRow B0 5 1 v (Lib.byteCells bs).length (Lib.byteCells bs) := by
    refine ⟨ho.1, ?_⟩
    rcases ho.2 with q | ⟨g, cap, cur, hv, hg, r⟩
    · exact .inl q
    · exact .inr ⟨g, cap, cur, hv, Nat.le_trans hB hg, r⟩
  have hat : Lib.BuilderAt 61 5 B0 b p (Lib.byteCells bs) W := ⟨hb, v, hk, ho', Lib.ownBlock_ne ho hk (by decide)⟩
  have hib : Lib.IsBuilder 61 5 B0 b (Lib.byteCells bs) W := by
    rcases hp with rfl | rfl
    · exact .inl hat
    · exact .inr hat
  by_cases h0 : bs = []
  · subst h0
    obtain rfl := hnil rfl
    have h := Any.Builder_String_nil laysString strX B0 b p W hk
    change Calls Try.prog 40 _ _ _ at h
    refine h.mono ?_
    rintro e w' ⟨rfl, b1⟩
    exact ⟨rfl, hx.trans b1⟩
  · have h := Any.Builder_String laysString strX B0 b bs W hib h0
    change Calls Try.prog 40 _ _ _ at h
    refine h.mono ?_
    rintro e w' ⟨rfl, b1⟩
    exact ⟨rfl, hx.trans b1⟩

end Go.Proofs.Ytlknakijdpeaoaa
