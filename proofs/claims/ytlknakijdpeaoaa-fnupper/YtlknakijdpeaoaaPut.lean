/- The model writes a rune; no condition. -/
import Derived.Test.YtlknakijdpeaoaaUpp
import Derived.Test.YtlknakijdpeaoaaBase
import Derived.Laws.BytesString
namespace Go.Proofs.Ytlknakijdpeaoaa
open Go.RowKit Go.ChangeShapes Go.WideShapes Go.ChangeAt
set_option linter.unusedVariables false
set_option linter.unusedSimpArgs false
set_option maxRecDepth 8000

theorem bytes_row (w : World) (ns : List Int) (c : Nat) (t : TypeId) : (convert 22 9 (.slice (some ⟨w.heap.size, 0, none⟩) ns.length c)).run Try.prog (w.alloc (.cells (ns.map (Value.int .u8)).toArray t)) = .ok (.string (ns.foldl (fun r n => r.push (UInt8.ofNat n.toNat)) ByteArray.empty)) (w.alloc (.cells (ns.map (Value.int .u8)).toArray t)) := by
  rw [run_convert_bytes_string _ 22 9 5 _ _ _ Try.underlying22 Try.underlying5 Try.underlying9]
  refine run_bytesToString _ _ _ _ _ ?_
  have := run_loadCells_list (P := Try.prog) (w := w.alloc (.cells (ns.map (Value.int .u8)).toArray t)) (⟨w.heap.size, 0, none⟩ : Addr) (ns.map (Value.int .u8)) (fun j v h => by
    have e : (⟨w.heap.size, 0, none⟩ : Addr).add j = ⟨w.heap.size, j, none⟩ := by unfold Addr.add; split <;> simp_all
    rw [e, cell_box]
    simpa using h)
  simpa using this
set_option maxHeartbeats 3200000 in
theorem put19_c (r : Nat) (w : World) (hr : r < 2048) : Calls Try.prog 30 #[.int .i64 (r : Int)] w fun e w' => e = .returned (.string (Utf8.encode (r : Int))) ∧ Below w.heap.size w w' := by
  by_cases h : r < 128
  · have q1 : (r : Int) < 128 := by omega
    rw [enc_small h]
    have hcv := bytes_row w [(r : Int)] 1 5
    simp only [List.map_cons, List.map_nil, List.length_cons, List.length_nil, List.foldl_cons, List.foldl_nil, Int.toNat_natCast] at hcv
    have e : ByteArray.empty.push (UInt8.ofNat r) = ⟨#[UInt8.ofNat r]⟩ := rfl
    rw [e] at hcv
    have HC : Hid (Below w.heap.size w (w.alloc (.cells [Value.int .u8 (r : Int)].toArray 5))) := (Below.refl _ _).alloc (Nat.le_refl _) _
    go_enter Try.func30, Try.ntmps30
    go_wp2_with (fail)
    go_ret
    exact ⟨rfl, HC.out⟩
  · have q1 : ¬ ((r : Int) < 128) := by omega
    rw [enc_two (by omega) hr]
    have e1 : (192 + (r : Int) / 64).toNat = 192 + r / 64 := by omega
    have e2 : (128 + (r : Int) % 64).toNat = 128 + r % 64 := by omega
    have hcv := bytes_row w [192 + (r : Int) / 64, 128 + (r : Int) % 64] 2 5
    simp only [List.map_cons, List.map_nil, List.length_cons, List.length_nil, List.foldl_cons, List.foldl_nil, e1, e2] at hcv
    have e : (ByteArray.empty.push (UInt8.ofNat (192 + r / 64))).push (UInt8.ofNat (128 + r % 64)) = ⟨#[UInt8.ofNat (192 + r / 64), UInt8.ofNat (128 + r % 64)]⟩ := rfl
    rw [e] at hcv
    clear e1 e2
    have HC : Hid (Below w.heap.size w (w.alloc (.cells [Value.int .u8 (192 + (r : Int) / 64), Value.int .u8 (128 + (r : Int) % 64)].toArray 5))) := (Below.refl _ _).alloc (Nat.le_refl _) _
    go_enter Try.func30, Try.ntmps30
    go_wp2_with (fail)
    go_ret
    exact ⟨rfl, HC.out⟩

end Go.Proofs.Ytlknakijdpeaoaa
