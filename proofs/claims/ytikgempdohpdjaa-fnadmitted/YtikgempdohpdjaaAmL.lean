/- The law FnAdmitted; no condition. -/
import Derived.Test.YtikgempdohpdjaaAdw
import Derived.Test.YtikgempdohpdjaaAdL
namespace Go.Proofs.Ytikgempdohpdjaa
open Go.RowKit Go.ChangeShapes Go.WideShapes Go.ChangeAt
set_option linter.unusedVariables false
set_option linter.unusedSimpArgs false
set_option maxRecDepth 8000

theorem adR_at {hs : List Int} {room : Int} {zs : List Int} {k : Nat} (h : k < (adR hs room zs).length) : k < zs.length ∧ (adR hs room zs).getD k false = decide (tkN room (smZ hs hs.length) zs k + zs.getD k 0 ≤ room) ∧ (0 ≤ tkN room (smZ hs hs.length) zs k ∧ tkN room (smZ hs hs.length) zs k ≤ 200000) ∧ (1 ≤ zs.getD k 0 ∧ zs.getD k 0 ≤ 1000) := by
  cases hb : adB hs room zs with
  | false => rw [adR_no hb] at h; simp at h
  | true =>
    rw [adR_yes hb] at h ⊢
    rw [adL_len] at h
    have hb' := hb
    unfold adB at hb'
    rw [Bool.and_eq_true, Bool.and_eq_true] at hb'
    have h1 := akB_len hb'.2
    have h2 := akB_len hb'.1.1
    have h3 := smZ_bd hb'.1.1 hs.length (Nat.le_refl _)
    have h4 := tkN_bd (room := room) hb'.2 h3.1 (by omega) k (by omega)
    exact ⟨h, by rw [adL_at _ _ _ _ h]; rfl, ⟨h4.1, by omega⟩, akB_at hb'.2 k h⟩
theorem adR_len2 {hs : List Int} {room : Int} {zs : List Int} (h : adB hs room zs = true) : (adR hs room zs).length = zs.length := by rw [adR_yes h, adL_len]
theorem smZ_bd2 {zs : List Int} (h : ∀ y ∈ zs, 0 ≤ y ∧ y ≤ 1001) : ∀ j, j ≤ zs.length → 0 ≤ smZ zs j ∧ smZ zs j ≤ 1001 * (j : Int)
  | 0, _ => by simp [smZ]
  | j + 1, hj => by have := smZ_bd2 h j (by omega); have := getD_bd zs j 0 1001 h (by omega); rw [smZ]; omega
theorem small_ad : adB [5] 10 [6, 5] = true ∧ adR [5] 10 [6, 5] = [false, true] := by decide
set_option maxHeartbeats 12800000 in
theorem admittedLaw (v : Value) (zs : List Int) (w : World) (h : Rd .u8 w v zs) (hok : ∀ z ∈ zs, (Lit.int .u8 z).wf = true) : Calls Try.prog 6 #[v] w fun e w' => e = .returned (.bool true) ∧ Below w.heap.size w w' := by
  have HK : Hid (∀ z ∈ zs, 0 ≤ z ∧ z ≤ 255) := fun z hz => bounds_u8 (hok z hz)
  have HR : Hid (Rd .u8 w v zs) := h
  clear hok h
  go_enter Try.func6, Try.ntmps6
  go_wp2_with (fail)
  refine (big_c v zs w HR.out).mono ?_
  rintro e w0 ⟨rfl, hw⟩
  rw [hw]
  clear hw w0
  by_cases hbig : (1048576 : Int) < (zs.length : Int)
  case pos =>
    rw [decide_eq_true hbig]
    go_wp2
    go_ret
    exact ⟨rfl, Below.refl _ _⟩
  rw [decide_eq_false hbig]
  have HLN : Hid (zs.length ≤ 2097152) := by show _ ≤ _; omega
  clear hbig
  go_wp2_with (fail)
  refine (drawAdmit_c v zs w HR.out HK.out HLN.out).mono ?_
  rintro e w1 ⟨va, hs, room, vb, ak, rfl, ra, rb, la, lb, bs, b1⟩
  have HB1 : Hid (Below w.heap.size w w1) := b1
  have HRA : Hid (Rd .i64 w1 va hs) := ra
  have HRB : Hid (Rd .i64 w1 vb ak) := rb
  have HBS : Hid (∀ j, j ≤ hs.length → 0 ≤ smZ hs j ∧ smZ hs j ≤ 1001 * (j : Int)) := smZ_bd2 bs
  have HBY : Hid (∀ j, j < hs.length → 0 ≤ hs.getD j 0 ∧ hs.getD j 0 ≤ 1001) := fun j hj => getD_bd hs j 0 1001 bs hj
  clear ra rb bs b1 HR HK HLN
  obtain ⟨bb0, hbb0⟩ : ∃ b, adB hs room ak = b := ⟨_, rfl⟩
  obtain ⟨L, hL⟩ : ∃ L, adR hs room ak = L := ⟨_, rfl⟩
  have HLA : Hid (∀ k, k < L.length → k < ak.length ∧ L.getD k false = decide (tkN room (smZ hs hs.length) ak k + ak.getD k 0 ≤ room) ∧ (0 ≤ tkN room (smZ hs hs.length) ak k ∧ tkN room (smZ hs hs.length) ak k ≤ 200000) ∧ (1 ≤ ak.getD k 0 ∧ ak.getD k 0 ≤ 1000)) := fun k hk => by rw [← hL] at hk ⊢; exact adR_at hk
  have HLL : Hid (bb0 = true → L.length = ak.length) := fun e => by rw [← hL]; exact adR_len2 (hbb0.trans e)
  have HCM : Hid (∀ (x y : Value) (W : World), Rd .i64 W x hs → Rd .i64 W y ak → Calls Try.prog 26 #[x, .int .i64 room, y] W fun e w' => ∃ v, e = .returned (.tuple #[v, .bool bb0]) ∧ Ob W.heap.size w' v L ∧ Below W.heap.size W w') := fun x y W hx hy => by
    have := adM_c x hs room y ak W hx hy
    unfold AdR at this
    rw [hbb0, hL] at this; exact this
  have HCI : Hid (∀ (x y : Value) (W : World), Rd .i64 W x hs → Rd .i64 W y ak → Calls Try.prog 25 #[x, .int .i64 room, y] W fun e w' => ∃ v, e = .returned (.tuple #[v, .bool bb0]) ∧ Ob W.heap.size w' v L ∧ Below W.heap.size W w') := fun x y W hx hy => by
    have := adI_c x hs room y ak W hx hy
    unfold AdR at this
    rw [hbb0, hL] at this; exact this
  clear hbb0 hL
  go_wp2_with (fail)
  refine (HCI.out va vb _ HRA.out HRB.out).mono ?_
  rintro e w2 ⟨vi, rfl, o1, b1⟩
  have HB2 : Hid (Below w.heap.size w w2) := belowCall HB1.out b1 HB1.out.size
  have HRA2 : Hid (Rd .i64 w2 va hs) := HRA.out.below b1
  have HRB2 : Hid (Rd .i64 w2 vb ak) := HRB.out.below b1
  have HI2 : Hid (Rb w2 vi L) := o1.rd
  clear o1 b1 HB1 HRA HRB HCI
  have hne : (bb0 != bb0) = false := by simp
  go_wp2_with (fail)
  refine (HCM.out va vb _ HRA2.out HRB2.out).mono ?_
  rintro e w3 ⟨vm, rfl, o1, b1⟩
  have HB3 : Hid (Below w.heap.size w w3) := belowCall HB2.out b1 HB2.out.size
  have HRA3 : Hid (Rd .i64 w3 va hs) := HRA2.out.below b1
  have HRB3 : Hid (Rd .i64 w3 vb ak) := HRB2.out.below b1
  have HI3 : Hid (Rb w3 vi L) := HI2.out.below b1
  clear o1 b1 HB2 HRA2 HRB2 HI2 HCM
  obtain ⟨aa, ca, rfl, ha1, ha2, -⟩ := id HRA3.out
  obtain ⟨ab, cb, rfl, hb1, hb2, -⟩ := id HRB3.out
  obtain ⟨ai, ci, rfl, hi1, hi2, -⟩ := id HI3.out
  unfold maxLen at ha2 hb2 hi2
  have HCA : Hid (∀ W j, j < hs.length → Below w3.heap.size w3 W → ∃ bo : Nat × Nat, aa = some ⟨bo.1, bo.2, none⟩ ∧ bo.1 < w3.heap.size ∧ W.cell? ⟨bo.1, bo.2 + j, none⟩ = some (.int .i64 (hs.getD j 0))) := rdc HRA3.out
  have HCB : Hid (∀ W j, j < ak.length → Below w3.heap.size w3 W → ∃ bo : Nat × Nat, ab = some ⟨bo.1, bo.2, none⟩ ∧ bo.1 < w3.heap.size ∧ W.cell? ⟨bo.1, bo.2 + j, none⟩ = some (.int .i64 (ak.getD j 0))) := rdc HRB3.out
  have HCI : Hid (∀ W j, j < L.length → Below w3.heap.size w3 W → ∃ bo : Nat × Nat, ai = some ⟨bo.1, bo.2, none⟩ ∧ bo.1 < w3.heap.size ∧ W.cell? ⟨bo.1, bo.2 + j, none⟩ = some (.bool (L.getD j false))) := rbc HI3.out
  obtain ⟨N, hN⟩ : ∃ N, L.length = N := ⟨_, rfl⟩
  obtain ⟨M, hM⟩ : ∃ M, ak.length = M := ⟨_, rfl⟩
  obtain ⟨H, hH⟩ : ∃ H, hs.length = H := ⟨_, rfl⟩
  have HNM : Hid (bb0 = true → ((N : Int) != (M : Int)) = false) := fun e => by rw [← hN, ← hM, HLL.out e]; simp
  rw [hN] at hi1 HCI HLA ⊢
  rw [hM] at hb1 lb HCB HLA ⊢
  rw [hH] at ha1 la HCA HBS HBY HLA ⊢
  have HN : Hid (L.length = N) := hN
  clear hN hM hH HRA3 HRB3 HI3 HLL
  have HTAIL : Hid (∀ (bb : Bool), bb = bb0 → True) := fun _ _ => trivial
  obtain ⟨t0, ht0⟩ : ∃ t, smZ hs H = t := ⟨_, rfl⟩
  rw [ht0] at HLA
  have HT0 : Hid (smZ hs H = t0) := ht0
  have HSML : Hid (adB [5] 10 [6, 5] = true ∧ adR [5] 10 [6, 5] = [false, true]) := small_ad
  clear ht0
  cases bb0 with
  | false =>
    go_wp2
    go_loop [10, 11] (fun t i => ∃ j : Nat, j ≤ H ∧ i = .int .i64 j ∧ t = .int .i64 (smZ hs j)) (fun _ i => H - (intOf i).toNat)
    case atStart => exact ⟨0, Nat.zero_le _, rfl, rfl⟩
    case round =>
      obtain ⟨j, hj, rfl, rfl⟩ := hrel
      by_cases hlt : j < H
      case pos =>
        obtain ⟨⟨b, off⟩, rfl, hbl, hc0⟩ := HCA.out w3 j hlt (Below.refl _ _)
        dsimp only at hc0 hbl
        have hs1 := HBS.out j hj
        have hz1 := HBY.out j hlt
        have HN2 : Hid (smZ hs (j + 1) = smZ hs j + hs.getD j 0) := rfl
        obtain ⟨x, hx⟩ : ∃ x, hs.getD j 0 = x := ⟨_, rfl⟩
        obtain ⟨s, hs'⟩ : ∃ s, smZ hs j = s := ⟨_, rfl⟩
        rw [hx] at hc0 hz1 HN2
        rw [hs'] at hs1 HN2 ⊢
        have hi0 : (0 : Int) ≤ (j : Int) := by omega
        have hi1' : (j : Int) < (H : Int) := by omega
        clear hx hs'
        go_wp2
        go_round
        case rel => exact ⟨j + 1, by omega, by go_num, by rw [HN2.out]⟩
        case measure => simp [intOf]; omega
      case neg =>
      obtain rfl : j = H := by omega
      rw [HT0.out]
      clear HBS HBY HCA hlt hj
      go_wp2
      go_loopw [10, 12] (fun t i wr => ∃ j : Nat, j ≤ N ∧ i = .int .i64 j ∧ t = .int .i64 (tkN room t0 ak j) ∧ Hid (Below w3.heap.size w3 wr)) (fun _ i _ => N - (intOf i).toNat)
      case atStart => exact ⟨0, Nat.zero_le _, rfl, rfl, Below.refl _ _⟩
      case round =>
        obtain ⟨k, hk, rfl, rfl, hB⟩ := hrel
        by_cases hkt : k < N
        case pos =>
          obtain ⟨hkm, htk, hs1, hz1⟩ := HLA.out k hkt
          have HTK : Hid (L.getD k false = decide (tkN room t0 ak k + ak.getD k 0 ≤ room)) := htk
          clear htk
          obtain ⟨⟨b, off⟩, rfl, hbl, hc0⟩ := HCB.out wr k hkm hB.out
          obtain ⟨⟨b', off'⟩, rfl, hbl', hc1⟩ := HCI.out wr k hkt hB.out
          dsimp only at hc0 hbl hc1 hbl'
          have HN2 : Hid (tkN room t0 ak (k + 1) = if tkN room t0 ak k + ak.getD k 0 ≤ room then tkN room t0 ak k + ak.getD k 0 else tkN room t0 ak k) := rfl
          obtain ⟨x, hx⟩ : ∃ x, ak.getD k 0 = x := ⟨_, rfl⟩
          obtain ⟨s, hs'⟩ : ∃ s, tkN room t0 ak k = s := ⟨_, rfl⟩
          rw [HTK.out] at hc1
          rw [hx] at hc0 hz1 HN2 hc1
          rw [hs'] at hs1 HN2 hc1 ⊢
          have hi0 : (0 : Int) ≤ (k : Int) := by omega
          have hi1' : (k : Int) < (N : Int) := by omega
          have hi2' : (k : Int) < (M : Int) := by omega
          clear hx hs' HTK
          have hcd : ∀ n, (wr.drewN n).cell? ⟨b, off + k, none⟩ = some (.int .i64 x) := fun n => by rw [← hc0]; simp [World.cell?]
          by_cases hq : s + x ≤ room
          case pos =>
            have hd : decide (s + x ≤ room) = true := decide_eq_true hq
            have HN3 : Hid (tkN room t0 ak (k + 1) = s + x) := by show _ = _; rw [HN2.out, if_pos hq]
            rw [hd] at hc1
            have hcd1 : ∀ n, (wr.drewN n).cell? ⟨b', off' + k, none⟩ = some (.bool true) := fun n => by rw [← hc1]; simp [World.cell?]
            clear HN2
            go_wp2
            go_quiet (fail)
            go_wp2
            go_roundw
            case rel => exact ⟨k + 1, by omega, by go_num, by rw [HN3.out], below_drewN hB.out _⟩
            case measure => simp [intOf]; omega
          case neg =>
          have hd : decide (s + x ≤ room) = false := decide_eq_false hq
          have he : (s + x ≤ room) = False := eq_false hq
          have HN3 : Hid (tkN room t0 ak (k + 1) = s) := by show _ = _; rw [HN2.out, if_neg hq]
          rw [hd] at hc1
          have hcd1 : ∀ n, (wr.drewN n).cell? ⟨b', off' + k, none⟩ = some (.bool false) := fun n => by rw [← hc1]; simp [World.cell?]
          clear HN2 hq
          go_wp2
          go_quiet (fail)
          go_wp2
          go_roundw
          case rel => exact ⟨k + 1, by omega, by go_num, by rw [HN3.out], below_drewN hB.out _⟩
          case measure => simp [intOf]; omega
        case neg =>
        obtain rfl : k = N := by omega
        have HBF : Hid (Below w.heap.size w wr) := belowCall HB3.out hB.out HB3.out.size
        clear hkt hk HLA HCB HCI hB
        obtain ⟨WA, hWA⟩ : ∃ W, wr.alloc (Obj.cells #[.int .i64 5] 3) = W := ⟨_, rfl⟩
        obtain ⟨WB, hWB⟩ : ∃ W, WA.alloc (Obj.cells #[.int .i64 6, .int .i64 5] 3) = W := ⟨_, rfl⟩
        have HRX : Hid (Rd .i64 WB (.slice (some ⟨wr.heap.size, 0, none⟩) 1 1) [5]) := by
          rw [← hWB, ← hWA]; exact (Rd.lit wr [5] (by decide)).below ((Below.refl _ _).alloc (Nat.le_refl _) _)
        have HRY : Hid (Rd .i64 WB (.slice (some ⟨wr.heap.size + 1, 0, none⟩) 2 2) [6, 5]) := by
          have := Rd.lit WA [6, 5] (by decide)
          rw [← hWB]
          rw [show wr.heap.size + 1 = WA.heap.size by rw [← hWA]; simp]
          exact this
        have HBB : Hid (Below w.heap.size w WB) := by rw [← hWB, ← hWA]; exact (HBF.out.alloc HBF.out.size _).alloc (by have := HBF.out.size; simp; omega) _
        have HWA : Hid (wr.alloc (Obj.cells #[.int .i64 5] 3) = WA) := hWA
        have HWB : Hid (WA.alloc (Obj.cells #[.int .i64 6, .int .i64 5] 3) = WB) := hWB
        clear hWA hWB HBF
        go_wp2_with (fail)
        rw [HWA.out, HWB.out]
        refine (adI_c _ [5] 10 _ [6, 5] _ HRX.out HRY.out).mono ?_
        rintro e w4 ⟨vs, rfl, o1, b1⟩
        rw [HSML.out.1]
        rw [HSML.out.2] at o1
        have HB4 : Hid (Below w.heap.size w w4) := belowCall HBB.out b1 HBB.out.size
        obtain ⟨as', cs', rfl, hs1, hs2, hs3⟩ := o1.rd
        rcases hs3 with hs3 | ⟨b5, off5, rfl, h5⟩
        · cases hs3
        have hc0 := h5 0 (by decide)
        have hc1 := h5 1 (by decide)
        simp at hc0 hc1
        clear o1 b1 h5 HBB HRX HRY HWA HWB
        simp only [List.length_cons, List.length_nil]
        go_wp2
        go_ret
        exact ⟨rfl, HB4.out⟩
  | true =>
  have hnm := HNM.out rfl
  go_wp2
  go_loop [10, 11] (fun t i => ∃ j : Nat, j ≤ H ∧ i = .int .i64 j ∧ t = .int .i64 (smZ hs j)) (fun _ i => H - (intOf i).toNat)
  case atStart => exact ⟨0, Nat.zero_le _, rfl, rfl⟩
  case round =>
    obtain ⟨j, hj, rfl, rfl⟩ := hrel
    by_cases hlt : j < H
    case pos =>
      obtain ⟨⟨b, off⟩, rfl, hbl, hc0⟩ := HCA.out w3 j hlt (Below.refl _ _)
      dsimp only at hc0 hbl
      have hs1 := HBS.out j hj
      have hz1 := HBY.out j hlt
      have HN2 : Hid (smZ hs (j + 1) = smZ hs j + hs.getD j 0) := rfl
      obtain ⟨x, hx⟩ : ∃ x, hs.getD j 0 = x := ⟨_, rfl⟩
      obtain ⟨s, hs'⟩ : ∃ s, smZ hs j = s := ⟨_, rfl⟩
      rw [hx] at hc0 hz1 HN2
      rw [hs'] at hs1 HN2 ⊢
      have hi0 : (0 : Int) ≤ (j : Int) := by omega
      have hi1' : (j : Int) < (H : Int) := by omega
      clear hx hs'
      go_wp2
      go_round
      case rel => exact ⟨j + 1, by omega, by go_num, by rw [HN2.out]⟩
      case measure => simp [intOf]; omega
    case neg =>
    obtain rfl : j = H := by omega
    rw [HT0.out]
    clear HBS HBY HCA hlt hj
    go_wp2
    go_loopw [10, 12] (fun t i wr => ∃ j : Nat, j ≤ N ∧ i = .int .i64 j ∧ t = .int .i64 (tkN room t0 ak j) ∧ Hid (Below w3.heap.size w3 wr)) (fun _ i _ => N - (intOf i).toNat)
    case atStart => exact ⟨0, Nat.zero_le _, rfl, rfl, Below.refl _ _⟩
    case round =>
      obtain ⟨k, hk, rfl, rfl, hB⟩ := hrel
      by_cases hkt : k < N
      case pos =>
        obtain ⟨hkm, htk, hs1, hz1⟩ := HLA.out k hkt
        have HTK : Hid (L.getD k false = decide (tkN room t0 ak k + ak.getD k 0 ≤ room)) := htk
        clear htk
        obtain ⟨⟨b, off⟩, rfl, hbl, hc0⟩ := HCB.out wr k hkm hB.out
        obtain ⟨⟨b', off'⟩, rfl, hbl', hc1⟩ := HCI.out wr k hkt hB.out
        dsimp only at hc0 hbl hc1 hbl'
        have HN2 : Hid (tkN room t0 ak (k + 1) = if tkN room t0 ak k + ak.getD k 0 ≤ room then tkN room t0 ak k + ak.getD k 0 else tkN room t0 ak k) := rfl
        obtain ⟨x, hx⟩ : ∃ x, ak.getD k 0 = x := ⟨_, rfl⟩
        obtain ⟨s, hs'⟩ : ∃ s, tkN room t0 ak k = s := ⟨_, rfl⟩
        rw [HTK.out] at hc1
        rw [hx] at hc0 hz1 HN2 hc1
        rw [hs'] at hs1 HN2 hc1 ⊢
        have hi0 : (0 : Int) ≤ (k : Int) := by omega
        have hi1' : (k : Int) < (N : Int) := by omega
        have hi2' : (k : Int) < (M : Int) := by omega
        clear hx hs' HTK
        have hcd : ∀ n, (wr.drewN n).cell? ⟨b, off + k, none⟩ = some (.int .i64 x) := fun n => by rw [← hc0]; simp [World.cell?]
        by_cases hq : s + x ≤ room
        case pos =>
          have hd : decide (s + x ≤ room) = true := decide_eq_true hq
          have HN3 : Hid (tkN room t0 ak (k + 1) = s + x) := by show _ = _; rw [HN2.out, if_pos hq]
          rw [hd] at hc1
          have hcd1 : ∀ n, (wr.drewN n).cell? ⟨b', off' + k, none⟩ = some (.bool true) := fun n => by rw [← hc1]; simp [World.cell?]
          clear HN2
          go_wp2
          go_quiet (fail)
          go_wp2
          go_roundw
          case rel => exact ⟨k + 1, by omega, by go_num, by rw [HN3.out], below_drewN hB.out _⟩
          case measure => simp [intOf]; omega
        case neg =>
        have hd : decide (s + x ≤ room) = false := decide_eq_false hq
        have he : (s + x ≤ room) = False := eq_false hq
        have HN3 : Hid (tkN room t0 ak (k + 1) = s) := by show _ = _; rw [HN2.out, if_neg hq]
        rw [hd] at hc1
        have hcd1 : ∀ n, (wr.drewN n).cell? ⟨b', off' + k, none⟩ = some (.bool false) := fun n => by rw [← hc1]; simp [World.cell?]
        clear HN2 hq
        go_wp2
        go_quiet (fail)
        go_wp2
        go_roundw
        case rel => exact ⟨k + 1, by omega, by go_num, by rw [HN3.out], below_drewN hB.out _⟩
        case measure => simp [intOf]; omega
      case neg =>
      obtain rfl : k = N := by omega
      have HBF : Hid (Below w.heap.size w wr) := belowCall HB3.out hB.out HB3.out.size
      clear hkt hk HLA HCB HCI hB
      obtain ⟨WA, hWA⟩ : ∃ W, wr.alloc (Obj.cells #[.int .i64 5] 3) = W := ⟨_, rfl⟩
      obtain ⟨WB, hWB⟩ : ∃ W, WA.alloc (Obj.cells #[.int .i64 6, .int .i64 5] 3) = W := ⟨_, rfl⟩
      have HRX : Hid (Rd .i64 WB (.slice (some ⟨wr.heap.size, 0, none⟩) 1 1) [5]) := by
        rw [← hWB, ← hWA]; exact (Rd.lit wr [5] (by decide)).below ((Below.refl _ _).alloc (Nat.le_refl _) _)
      have HRY : Hid (Rd .i64 WB (.slice (some ⟨wr.heap.size + 1, 0, none⟩) 2 2) [6, 5]) := by
        have := Rd.lit WA [6, 5] (by decide)
        rw [← hWB]
        rw [show wr.heap.size + 1 = WA.heap.size by rw [← hWA]; simp]
        exact this
      have HBB : Hid (Below w.heap.size w WB) := by rw [← hWB, ← hWA]; exact (HBF.out.alloc HBF.out.size _).alloc (by have := HBF.out.size; simp; omega) _
      have HWA : Hid (wr.alloc (Obj.cells #[.int .i64 5] 3) = WA) := hWA
      have HWB : Hid (WA.alloc (Obj.cells #[.int .i64 6, .int .i64 5] 3) = WB) := hWB
      clear hWA hWB HBF
      go_wp2_with (fail)
      rw [HWA.out, HWB.out]
      refine (adI_c _ [5] 10 _ [6, 5] _ HRX.out HRY.out).mono ?_
      rintro e w4 ⟨vs, rfl, o1, b1⟩
      rw [HSML.out.1]
      rw [HSML.out.2] at o1
      have HB4 : Hid (Below w.heap.size w w4) := belowCall HBB.out b1 HBB.out.size
      obtain ⟨as', cs', rfl, hs1, hs2, hs3⟩ := o1.rd
      rcases hs3 with hs3 | ⟨b5, off5, rfl, h5⟩
      · cases hs3
      have hc0 := h5 0 (by decide)
      have hc1 := h5 1 (by decide)
      simp at hc0 hc1
      clear o1 b1 h5 HBB HRX HRY HWA HWB
      simp only [List.length_cons, List.length_nil]
      go_wp2
      go_ret
      exact ⟨rfl, HB4.out⟩

end Go.Proofs.Ytikgempdohpdjaa
