/- An argument that is a slice of arrays of sixteen bytes, opened: it reads as their bytes one behind the other; no condition. -/
import Derived.Test.YtadhiddnjhjioaaSlA
import Derived.Deep.Slices
namespace Go.Proofs.Ytadhiddnjhjioaa
open Go.RowKit Go.ChangeShapes Go.WideShapes Go.ChangeAt
set_option linter.unusedVariables false
set_option linter.unusedSimpArgs false
theorem addr_add (b off : Nat) (k : Nat) : (⟨b, off, none⟩ : Addr).add k = ⟨b, off + k, none⟩ := by unfold Addr.add; split <;> simp_all
theorem openRowA {H : Type} {enc : TypeId × Value → H} {W : World} {base : Nat} {held : Bool} {a : Option Addr} {len cap : Nat} {d : DataW H} {p : List MemPlace}
    (h : DataW.Trod enc Try.prog W base (fun _ => true) held 25 (.slice a len cap) d p) : ∃ zs, RdA W (.slice a len cap) len zs := by
  obtain ⟨fuel, hf⟩ := h
  rcases Go.Deep.open_slice Try.underlying25 hf with ⟨hcs, _⟩ | ⟨x, l, c, m, n, D, Pl, hcs, _, hl, hm, hmm, _, hx⟩
  · simp [Value.cells] at hcs
    obtain ⟨rfl, rfl, rfl⟩ := hcs
    exact ⟨[], none, 0, rfl, by simp, by simp, by simp, by simp [bytesOk], .inl rfl⟩
  · simp [Value.cells] at hcs
    obtain ⟨rfl, rfl, rfl⟩ := hcs
    have hmc : m = cap := by simpa using hmm
    subst hmc
    by_cases h0 : len = 0
    · subst h0
      exact ⟨[], _, m, rfl, by omega, hm, by simp, by simp [bytesOk], .inl rfl⟩
    · rw [cells29] at hx
      have key0 : ∀ i, i < len → ∀ k, k < 16 → ∃ z : Int, W.cell? ((x.add (i * 16)).add k) = some (.int .u8 z) ∧ 0 ≤ z ∧ z ≤ 255 := by
        intro i hi k hk
        obtain ⟨cs', h1, h2⟩ := hx i (by omega)
        obtain ⟨_, hlen, hcell⟩ := World.cells?_some h1
        obtain ⟨xs, q, _, _, _, hxl, hxx⟩ := DataW.trod_array Try.underlying29 h2
        have := hxx k hk
        rw [List.getElem?_eq_getElem (by omega), cells5] at this
        obtain ⟨z, e0, e1, wz⟩ := DataW.trod_int Try.underlying5 this
        refine ⟨z, ?_, bounds_u8 wz⟩
        have e3 : ((cs'.drop (k * 1)).take 1)[0]? = some (.int .u8 z) := by rw [e0]; rfl
        have e4 : cs'[k]? = some (.int .u8 z) := by simpa using e3
        rw [hcell k hk]; exact e4
      obtain ⟨b, off, spot⟩ := x
      obtain ⟨z0, hz0, _⟩ := key0 0 (by omega) 0 (by omega)
      have hspot : spot = none := by
        have := World.cell?_spot hz0
        simpa [Addr.add] using this
      subst hspot
      have key : ∀ q, q < len * 16 → ∃ z : Int, W.cell? ⟨b, off + q, none⟩ = some (.int .u8 z) ∧ 0 ≤ z ∧ z ≤ 255 := by
        intro q hq
        have := key0 (q / 16) (by omega) (q % 16) (Nat.mod_lt _ (by decide))
        rw [addr_add, addr_add, show off + q / 16 * 16 + q % 16 = off + q by omega] at this
        exact this
      refine ⟨(List.range (len * 16)).map fun q => intOf ((W.cell? ⟨b, off + q, none⟩).getD undef), _, m, rfl, hl, hm, by simp, ?_, .inr ⟨b, off, rfl, fun i hi => ?_⟩⟩
      · intro z hz
        simp only [List.mem_map, List.mem_range] at hz
        obtain ⟨q, hq, rfl⟩ := hz
        obtain ⟨z, e, hb⟩ := key q hq
        rw [e]; exact hb
      · obtain ⟨z, e, hb⟩ := key i hi
        rw [e]
        simp [List.getElem?_map, List.getElem?_range hi, e, intOf]
end Go.Proofs.Ytadhiddnjhjioaa
