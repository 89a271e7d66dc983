/- The model's Diff19; no condition. -/
import Derived.Test.YtlknakijdpeaoaaSom
import Derived.Test.YtlknakijdpeaoaaSet
import Derived.Test.YtlknakijdpeaoaaBsf
import Derived.WalkSmall
import Derived.Laws.Concat
namespace Go.Proofs.Ytlknakijdpeaoaa
open Go.RowKit Go.ChangeShapes Go.WideShapes Go.ChangeAt
set_option linter.unusedVariables false
set_option linter.unusedSimpArgs false
set_option maxRecDepth 8000

/-- what one setting fewer, one setting more says -/
def unS (r : Se) : List UInt8 := [117, 110, 115, 101, 116, 32] ++ r.nm.data.toList ++ [10]
def seS (r : Se) : List UInt8 := [115, 101, 116, 32] ++ r.nm.data.toList ++ [32] ++ r.vl.data.toList ++ [10]
/-- what is told of two lists of settings -/
def dm : Ses → Ses → List UInt8
  | [], [] => []
  | a :: xs, [] => unS a ++ dm xs []
  | [], b :: ys => seS b ++ dm [] ys
  | a :: xs, b :: ys => if bl a.nm b.nm then unS a ++ dm xs (b :: ys) else if bl b.nm a.nm then seS b ++ dm (a :: xs) ys else (if a.vl = b.vl then [] else seS b) ++ dm xs ys
termination_by x y => x.length + y.length
def dfS (xs ys : Ses) : ByteArray := ⟨(if sB xs && sB ys then dm xs ys else []).toArray⟩
theorem cell_drewN (W : World) (n : Nat) (p : Addr) (W' : World) (h : W.drewN n = W') : W'.cell? p = W.cell? p := by rw [← h]; rfl
theorem Rs.ne {w : World} {a : Option Addr} {cap n : Nat} {ls : Ses} (h : Rs w (.slice a n cap) ls) (hn : ls ≠ []) : ∃ b off, a = some ⟨b, off, none⟩ ∧ ∀ i (h : i < ls.length), w.cell? ⟨b, off + i * 2, none⟩ = some (.string ls[i].nm) ∧ w.cell? ⟨b, off + i * 2 + 1, none⟩ = some (.string ls[i].vl) := by
  obtain ⟨a', cap', e, -, -, h3⟩ := h
  simp only [Value.slice.injEq] at e
  obtain ⟨rfl, -, rfl⟩ := e
  rcases h3 with h3 | ⟨b, off, rfl, h4⟩
  · exact absurd h3 hn
  · exact ⟨b, off, rfl, h4⟩
set_option maxHeartbeats 12800000 in
theorem diffM_c (v v' : Value) (xs ys : Ses) (w : World) (h : Rs w v xs) (h' : Rs w v' ys) (hsz : ∀ r ∈ xs, r.nm.size ≤ 1048576 ∧ r.vl.size ≤ 1048576) (hln : xs.length ≤ 1048576) (hsz' : ∀ r ∈ ys, r.nm.size ≤ 1048576 ∧ r.vl.size ≤ 1048576) (hln' : ys.length ≤ 1048576) :
    Calls Try.prog 20 #[v, v'] w fun e w' => e = .returned (.string (dfS xs ys)) ∧ Below w.heap.size w w' := by
  have hm := setM_c v xs w h hsz hln
  have HR : Hid (Rs w v xs) := h
  have HR' : Hid (Rs w v' ys) := h'
  have HM' : Hid (∀ W, Below w.heap.size w W → Calls Try.prog 16 #[v'] W fun e w' => e = .returned (.bool (sB ys)) ∧ Below W.heap.size W w') := fun W hb => setM_c v' ys W (h'.below hb) hsz' hln'
  have HM : Hid (Calls Try.prog 16 #[v] w fun e w' => e = .returned (.bool (sB xs)) ∧ Below w.heap.size w w') := hm
  obtain ⟨a, cap, rfl, h1, h2, h3⟩ := h
  obtain ⟨a', cap', rfl, h1', h2', h3'⟩ := h'
  clear hm h3 h3'
  have HS : Hid (∀ r ∈ xs, r.nm.size ≤ 1048576 ∧ r.vl.size ≤ 1048576) := hsz
  have HS' : Hid (∀ r ∈ ys, r.nm.size ≤ 1048576 ∧ r.vl.size ≤ 1048576) := hsz'
  clear hsz hsz'
  go_enter Try.func20, Try.ntmps20
  go_wp2_with (fail)
  refine HM.out.mono ?_
  rintro e w1 ⟨rfl, b1⟩
  have HB1 : Hid (Below w.heap.size w w1) := b1
  clear b1
  cases hA : sB xs with
  | false =>
    go_wp2
    go_ret
    exact ⟨by unfold dfS; rw [hA]; rfl, HB1.out⟩
  | true =>
  go_wp2_with (fail)
  refine (HM'.out w1 HB1.out).mono ?_
  rintro e w2 ⟨rfl, b2⟩
  have HB2 : Hid (Below w.heap.size w w2) := belowCall HB1.out b2 HB1.out.size
  clear b2
  cases hB : sB ys with
  | false =>
    go_wp2
    go_ret
    exact ⟨by unfold dfS; rw [hA, hB]; rfl, HB2.out⟩
  | true =>
  obtain ⟨D, hD⟩ : ∃ D, dm xs ys = D := ⟨_, rfl⟩
  have HD : Hid (dfS xs ys = ⟨D.toArray⟩) := by show _ = _; unfold dfS; rw [hA, hB, ← hD]; rfl
  have H0 : Hid ((⟨#[]⟩ : ByteArray).data.toList ++ dm (xs.drop 0) (ys.drop 0) = D ∧ (⟨#[]⟩ : ByteArray).size ≤ (0 + 0) * 2097200) := ⟨by rw [← hD]; simp, by show (0 : Nat) ≤ _; omega⟩
  clear hA hB HM HM' hD
  go_wp2
  go_loopw [5, 6, 7] (fun s i k wr => ∃ (j m : Nat) (t : ByteArray), s = .string t ∧ i = .int .i64 j ∧ k = .int .i64 m ∧ j ≤ xs.length ∧ m ≤ ys.length ∧ Hid (t.data.toList ++ dm (xs.drop j) (ys.drop m) = D ∧ t.size ≤ (j + m) * 2097200) ∧ Hid (Below w.heap.size w wr)) (fun _ i k _ => xs.length + ys.length - (intOf i).toNat - (intOf k).toNat)
  case atStart => exact ⟨0, 0, _, rfl, rfl, rfl, by omega, by omega, H0, HB2⟩
  case round =>
    clear H0 HB2 HB1
    obtain ⟨j, m, t, rfl, rfl, rfl, hj, hm, HT, hbr⟩ := hrel
    by_cases hjl : j < xs.length
    case neg =>
      obtain rfl : j = xs.length := by omega
      have qj : ¬ ((xs.length : Int) < (xs.length : Int)) := by omega
      by_cases hml : m < ys.length
      case neg =>
        obtain rfl : m = ys.length := by omega
        have qm : ¬ ((ys.length : Int) < (ys.length : Int)) := by omega
        go_wp2
        go_ret
        refine ⟨?_, hbr.out⟩
        have := HT.out.1
        rw [List.drop_length, List.drop_length] at this
        rw [HD.out, ← this]
        simp [dm]
      case pos =>
        have qm : (m : Int) < (ys.length : Int) := by omega
        have qe : ((m : Int) == (ys.length : Int)) = false := by simp; omega
        have qx : ((xs.length : Int) == (xs.length : Int)) = true := by simp
        obtain ⟨b', off', rfl, h4'⟩ := HR'.out.ne (by intro e; rw [e] at hml; simp at hml)
        have hc' := h4' m hml
        have hcb' : b' < w.heap.size := block_lt_of_cell hc'.1
        obtain ⟨r', hr'⟩ : ∃ r, ys[m] = r := ⟨_, rfl⟩
        rw [hr'] at hc'
        have f0 := (hbr.out.cell (p := ⟨b', off' + m * 2, none⟩) hcb').trans hc'.1
        have f1 := (hbr.out.cell (p := ⟨b', off' + m * 2 + 1, none⟩) hcb').trans hc'.2
        have HY : Hid (ys[m] = r') := hr'
        have hz' := HS'.out _ (List.getElem_mem hml)
        rw [hr'] at hz'
        have hts := HT.out.2
        have g1 : ¬ (9223372036854775807 < t.size + 4) := by omega
        have g2 : ¬ (9223372036854775807 < t.size + 4 + r'.nm.size) := by omega
        have g3 : ¬ (9223372036854775807 < t.size + 4 + r'.nm.size + 1) := by omega
        have g4 : ¬ (9223372036854775807 < t.size + 4 + r'.nm.size + 1 + r'.vl.size) := by omega
        have g5 : ¬ (9223372036854775807 < t.size + 4 + r'.nm.size + 1 + r'.vl.size + 1) := by omega
        clear hc' hr' h4' 
        have HBwr : Hid (Below w.heap.size w wr) := hbr
        go_wp2_with (fail)
        go_quiet (fail)
        obtain ⟨wy1, hwy⟩ : ∃ W, wr.drewN nq = W := ⟨_, rfl⟩
        have HBwy1 : Hid (Below w.heap.size w wy1) := by rw [← hwy]; exact below_drewN HBwr.out _
        have f0 := (cell_drewN wr nq _ wy1 hwy).trans f0
        have f1 := (cell_drewN wr nq _ wy1 hwy).trans f1
        rw [hwy]
        clear hwy
        go_wp2_with (fail)
        go_quiet (fail)
        obtain ⟨wy2, hwy⟩ : ∃ W, wy1.drewN nq = W := ⟨_, rfl⟩
        have HBwy2 : Hid (Below w.heap.size w wy2) := by rw [← hwy]; exact below_drewN HBwy1.out _
        have f0 := (cell_drewN wy1 nq _ wy2 hwy).trans f0
        have f1 := (cell_drewN wy1 nq _ wy2 hwy).trans f1
        rw [hwy]
        clear hwy
        go_wp2_with (fail)
        go_quiet (fail)
        obtain ⟨wy3, hwy⟩ : ∃ W, wy2.drewN nq = W := ⟨_, rfl⟩
        have HBwy3 : Hid (Below w.heap.size w wy3) := by rw [← hwy]; exact below_drewN HBwy2.out _
        have f0 := (cell_drewN wy2 nq _ wy3 hwy).trans f0
        have f1 := (cell_drewN wy2 nq _ wy3 hwy).trans f1
        rw [hwy]
        clear hwy
        clear f0 f1
        go_wp2
        go_roundw
        case rel => exact ⟨xs.length, m + 1, _, rfl, by go_num, by go_num, by omega, by omega, ⟨by
          have hT := HT.out.1
          rw [List.drop_eq_getElem_cons hml, HY.out, List.drop_length] at hT
          rw [List.drop_length]
          simpa [dm, unS, seS] using hT, by
          have hT := HT.out.2
          (try simp only [ByteArray.size_append', ByteArray.size_mk'])
          (try simp)
          omega⟩, HBwy3⟩
        case measure => simp [intOf]; omega
    case pos =>
      have qj : (j : Int) < (xs.length : Int) := by omega
      have qi : ((j : Int) == (xs.length : Int)) = false := by simp; omega
      obtain ⟨b, off, rfl, h4⟩ := HR.out.ne (by intro e; rw [e] at hjl; simp at hjl)
      have hc := h4 j hjl
      have hcb : b < w.heap.size := block_lt_of_cell hc.1
      obtain ⟨r, hr⟩ : ∃ r, xs[j] = r := ⟨_, rfl⟩
      rw [hr] at hc
      have e0 := (hbr.out.cell (p := ⟨b, off + j * 2, none⟩) hcb).trans hc.1
      have e1 := (hbr.out.cell (p := ⟨b, off + j * 2 + 1, none⟩) hcb).trans hc.2
      have HX : Hid (xs[j] = r) := hr
      have hz := HS.out _ (List.getElem_mem hjl)
      rw [hr] at hz
      have hts0 := HT.out.2
      have k1 : ¬ (9223372036854775807 < t.size + 6) := by omega
      have k2 : ¬ (9223372036854775807 < t.size + 6 + r.nm.size) := by omega
      have k3 : ¬ (9223372036854775807 < t.size + 6 + r.nm.size + 1) := by omega
      clear hc hr h4 
      by_cases hml : m < ys.length
      case neg =>
        obtain rfl : m = ys.length := by omega
        have qe : ((ys.length : Int) == (ys.length : Int)) = true := by simp
        have HBwr : Hid (Below w.heap.size w wr) := hbr
        go_wp2_with (fail)
        go_quiet (fail)
        obtain ⟨wy4, hwy⟩ : ∃ W, wr.drewN nq = W := ⟨_, rfl⟩
        have HBwy4 : Hid (Below w.heap.size w wy4) := by rw [← hwy]; exact below_drewN HBwr.out _
        have e0 := (cell_drewN wr nq _ wy4 hwy).trans e0
        have e1 := (cell_drewN wr nq _ wy4 hwy).trans e1
        rw [hwy]
        clear hwy
        go_wp2
        clear e0 e1
        go_roundw
        case rel => exact ⟨j + 1, ys.length, _, rfl, by go_num, by go_num, by omega, by omega, ⟨by
          have hT := HT.out.1
          rw [List.drop_eq_getElem_cons hjl, HX.out, List.drop_length] at hT
          rw [List.drop_length]
          simpa [dm, unS, seS] using hT, by
          have hT := HT.out.2
          (try simp only [ByteArray.size_append', ByteArray.size_mk'])
          (try simp)
          omega⟩, HBwy4⟩
        case measure => simp [intOf]; omega
      case pos =>
        have qm : (m : Int) < (ys.length : Int) := by omega
        have qe : ((m : Int) == (ys.length : Int)) = false := by simp; omega
        obtain ⟨b', off', rfl, h4'⟩ := HR'.out.ne (by intro e; rw [e] at hml; simp at hml)
        have hc' := h4' m hml
        have hcb' : b' < w.heap.size := block_lt_of_cell hc'.1
        obtain ⟨r', hr'⟩ : ∃ r, ys[m] = r := ⟨_, rfl⟩
        rw [hr'] at hc'
        have f0 := (hbr.out.cell (p := ⟨b', off' + m * 2, none⟩) hcb').trans hc'.1
        have f1 := (hbr.out.cell (p := ⟨b', off' + m * 2 + 1, none⟩) hcb').trans hc'.2
        have HY : Hid (ys[m] = r') := hr'
        have hz' := HS'.out _ (List.getElem_mem hml)
        rw [hr'] at hz'
        have hts := HT.out.2
        have g1 : ¬ (9223372036854775807 < t.size + 4) := by omega
        have g2 : ¬ (9223372036854775807 < t.size + 4 + r'.nm.size) := by omega
        have g3 : ¬ (9223372036854775807 < t.size + 4 + r'.nm.size + 1) := by omega
        have g4 : ¬ (9223372036854775807 < t.size + 4 + r'.nm.size + 1 + r'.vl.size) := by omega
        have g5 : ¬ (9223372036854775807 < t.size + 4 + r'.nm.size + 1 + r'.vl.size + 1) := by omega
        clear hc' hr' h4' 
        cases hL : bl r.nm r'.nm with
        | true =>
          have hLL : Op.bytesLess r.nm.toList r'.nm.toList = true := hL
          have HL : Hid (bl r.nm r'.nm = true) := hL
          clear hL
          have HBwr : Hid (Below w.heap.size w wr) := hbr
          go_wp2_with (fail)
          go_quiet (fail)
          obtain ⟨wy5, hwy⟩ : ∃ W, wr.drewN nq = W := ⟨_, rfl⟩
          have HBwy5 : Hid (Below w.heap.size w wy5) := by rw [← hwy]; exact below_drewN HBwr.out _
          have e0 := (cell_drewN wr nq _ wy5 hwy).trans e0
          have e1 := (cell_drewN wr nq _ wy5 hwy).trans e1
          have f0 := (cell_drewN wr nq _ wy5 hwy).trans f0
          have f1 := (cell_drewN wr nq _ wy5 hwy).trans f1
          rw [hwy]
          clear hwy
          go_wp2
          clear e0 e1 f0 f1
          go_roundw
          case rel => exact ⟨j + 1, m, _, rfl, by go_num, by go_num, by omega, by omega, ⟨by
            have hT := HT.out.1
            rw [List.drop_eq_getElem_cons hjl, HX.out, List.drop_eq_getElem_cons hml, HY.out, dm, if_pos HL.out] at hT
            rw [List.drop_eq_getElem_cons hml, HY.out]
            simpa [dm, unS, seS] using hT, by
            have hT := HT.out.2
            (try simp only [ByteArray.size_append', ByteArray.size_mk'])
            (try simp)
            omega⟩, HBwy5⟩
          case measure => simp [intOf]; omega
        | false =>
          have hLL : Op.bytesLess r.nm.toList r'.nm.toList = false := hL
          have HL : Hid (bl r.nm r'.nm = false) := hL
          clear hL
          cases hG : bl r'.nm r.nm with
          | true =>
            have hGG : Op.bytesLess r'.nm.toList r.nm.toList = true := hG
            have HG : Hid (bl r'.nm r.nm = true) := hG
            clear hG
            have HBwr : Hid (Below w.heap.size w wr) := hbr
            go_wp2_with (fail)
            go_quiet (fail)
            obtain ⟨wy6, hwy⟩ : ∃ W, wr.drewN nq = W := ⟨_, rfl⟩
            have HBwy6 : Hid (Below w.heap.size w wy6) := by rw [← hwy]; exact below_drewN HBwr.out _
            have e0 := (cell_drewN wr nq _ wy6 hwy).trans e0
            have e1 := (cell_drewN wr nq _ wy6 hwy).trans e1
            have f0 := (cell_drewN wr nq _ wy6 hwy).trans f0
            have f1 := (cell_drewN wr nq _ wy6 hwy).trans f1
            rw [hwy]
            clear hwy
            go_wp2_with (fail)
            go_quiet (fail)
            obtain ⟨wy7, hwy⟩ : ∃ W, wy6.drewN nq = W := ⟨_, rfl⟩
            have HBwy7 : Hid (Below w.heap.size w wy7) := by rw [← hwy]; exact below_drewN HBwy6.out _
            have e0 := (cell_drewN wy6 nq _ wy7 hwy).trans e0
            have e1 := (cell_drewN wy6 nq _ wy7 hwy).trans e1
            have f0 := (cell_drewN wy6 nq _ wy7 hwy).trans f0
            have f1 := (cell_drewN wy6 nq _ wy7 hwy).trans f1
            rw [hwy]
            clear hwy
            go_wp2_with (fail)
            go_quiet (fail)
            obtain ⟨wy8, hwy⟩ : ∃ W, wy7.drewN nq = W := ⟨_, rfl⟩
            have HBwy8 : Hid (Below w.heap.size w wy8) := by rw [← hwy]; exact below_drewN HBwy7.out _
            have e0 := (cell_drewN wy7 nq _ wy8 hwy).trans e0
            have e1 := (cell_drewN wy7 nq _ wy8 hwy).trans e1
            have f0 := (cell_drewN wy7 nq _ wy8 hwy).trans f0
            have f1 := (cell_drewN wy7 nq _ wy8 hwy).trans f1
            rw [hwy]
            clear hwy
            clear e0 e1 f0 f1
            go_wp2
            go_roundw
            case rel => exact ⟨j, m + 1, _, rfl, by go_num, by go_num, by omega, by omega, ⟨by
              have hT := HT.out.1
              rw [List.drop_eq_getElem_cons hjl, HX.out, List.drop_eq_getElem_cons hml, HY.out, dm, if_neg (by rw [HL.out]; simp), if_pos HG.out] at hT
              rw [List.drop_eq_getElem_cons hjl, HX.out]
              simpa [dm, unS, seS] using hT, by
              have hT := HT.out.2
              (try simp only [ByteArray.size_append', ByteArray.size_mk'])
              (try simp)
              omega⟩, HBwy8⟩
            case measure => simp [intOf]; omega
          | false =>
            have hGG : Op.bytesLess r'.nm.toList r.nm.toList = false := hG
            have HG : Hid (bl r'.nm r.nm = false) := hG
            clear hG
            have HBwr : Hid (Below w.heap.size w wr) := hbr
            go_wp2_with (fail)
            go_quiet (fail)
            obtain ⟨wy9, hwy⟩ : ∃ W, wr.drewN nq = W := ⟨_, rfl⟩
            have HBwy9 : Hid (Below w.heap.size w wy9) := by rw [← hwy]; exact below_drewN HBwr.out _
            have e0 := (cell_drewN wr nq _ wy9 hwy).trans e0
            have e1 := (cell_drewN wr nq _ wy9 hwy).trans e1
            have f0 := (cell_drewN wr nq _ wy9 hwy).trans f0
            have f1 := (cell_drewN wr nq _ wy9 hwy).trans f1
            rw [hwy]
            clear hwy
            go_wp2_with (fail)
            go_quiet (fail)
            obtain ⟨wy10, hwy⟩ : ∃ W, wy9.drewN nq = W := ⟨_, rfl⟩
            have HBwy10 : Hid (Below w.heap.size w wy10) := by rw [← hwy]; exact below_drewN HBwy9.out _
            have e0 := (cell_drewN wy9 nq _ wy10 hwy).trans e0
            have e1 := (cell_drewN wy9 nq _ wy10 hwy).trans e1
            have f0 := (cell_drewN wy9 nq _ wy10 hwy).trans f0
            have f1 := (cell_drewN wy9 nq _ wy10 hwy).trans f1
            rw [hwy]
            clear hwy
            by_cases hv : r.vl = r'.vl
            case pos =>
              have hvv : (r.vl.toList == r'.vl.toList) = true := by rw [hv]; simp
              have HV : Hid (r.vl = r'.vl) := hv
              clear hv
              go_wp2_with (fail)
              go_quiet (fail)
              obtain ⟨wy11, hwy⟩ : ∃ W, wy10.drewN nq = W := ⟨_, rfl⟩
              have HBwy11 : Hid (Below w.heap.size w wy11) := by rw [← hwy]; exact below_drewN HBwy10.out _
              have e0 := (cell_drewN wy10 nq _ wy11 hwy).trans e0
              have e1 := (cell_drewN wy10 nq _ wy11 hwy).trans e1
              have f0 := (cell_drewN wy10 nq _ wy11 hwy).trans f0
              have f1 := (cell_drewN wy10 nq _ wy11 hwy).trans f1
              rw [hwy]
              clear hwy
              clear e0 e1 f0 f1
              go_wp2
              go_roundw
              case rel => exact ⟨j + 1, m + 1, _, rfl, by go_num, by go_num, by omega, by omega, ⟨by
                have hT := HT.out.1
                rw [List.drop_eq_getElem_cons hjl, HX.out, List.drop_eq_getElem_cons hml, HY.out, dm, if_neg (by rw [HL.out]; simp), if_neg (by rw [HG.out]; simp), if_pos HV.out] at hT
                simpa [dm, unS, seS] using hT, by
                exact Nat.le_trans HT.out.2 (Nat.mul_le_mul_right _ (by omega))⟩, HBwy11⟩
              case measure => simp [intOf]; omega
            case neg =>
              have hvv : (r.vl.toList == r'.vl.toList) = false := by
                rw [beq_eq_false_iff_ne]
                exact fun e => hv (toL_inj e)
              have HV : Hid (¬ r.vl = r'.vl) := hv
              clear hv
              go_wp2_with (fail)
              go_quiet (fail)
              obtain ⟨wy11, hwy⟩ : ∃ W, wy10.drewN nq = W := ⟨_, rfl⟩
              have HBwy11 : Hid (Below w.heap.size w wy11) := by rw [← hwy]; exact below_drewN HBwy10.out _
              have e0 := (cell_drewN wy10 nq _ wy11 hwy).trans e0
              have e1 := (cell_drewN wy10 nq _ wy11 hwy).trans e1
              have f0 := (cell_drewN wy10 nq _ wy11 hwy).trans f0
              have f1 := (cell_drewN wy10 nq _ wy11 hwy).trans f1
              rw [hwy]
              clear hwy
              go_wp2_with (fail)
              go_quiet (fail)
              obtain ⟨wy12, hwy⟩ : ∃ W, wy11.drewN nq = W := ⟨_, rfl⟩
              have HBwy12 : Hid (Below w.heap.size w wy12) := by rw [← hwy]; exact below_drewN HBwy11.out _
              have e0 := (cell_drewN wy11 nq _ wy12 hwy).trans e0
              have e1 := (cell_drewN wy11 nq _ wy12 hwy).trans e1
              have f0 := (cell_drewN wy11 nq _ wy12 hwy).trans f0
              have f1 := (cell_drewN wy11 nq _ wy12 hwy).trans f1
              rw [hwy]
              clear hwy
              clear e0 e1 f0 f1
              go_wp2
              go_roundw
              case rel => exact ⟨j + 1, m + 1, _, rfl, by go_num, by go_num, by omega, by omega, ⟨by
                have hT := HT.out.1
                rw [List.drop_eq_getElem_cons hjl, HX.out, List.drop_eq_getElem_cons hml, HY.out, dm, if_neg (by rw [HL.out]; simp), if_neg (by rw [HG.out]; simp), if_neg HV.out] at hT
                simpa [dm, unS, seS] using hT, by
                have hT := HT.out.2
                (try simp only [ByteArray.size_append', ByteArray.size_mk'])
                (try simp)
                omega⟩, HBwy12⟩
              case measure => simp [intOf]; omega

end Go.Proofs.Ytlknakijdpeaoaa
