/-
  DERIVED. GIVEN WITH THE SEED: THE CARDS: each row of YtgdejlofkjdkoaaDoorRows.lean that lists a variable, with what it lists TIED to the program's text (the seventh form; the later family's looks); each row that meets fmt, with fmt's text TOLD by the authors' own Lean function (tested against real Go, not proved from fmt's source: count such statements apart). THE CARD IS WHAT COUNTS. Prove the row's statement (the work); the ties are given (YtgdejlofkjdkoaaDoorTie.lean); close each card by the builder's one call (the guide's Derived/Test/ToyasCard.lean, 'card_holds'). Laid BY PROGRAM, IN A SANDBOX (cutbox-door.mjs). By AI agents, Wed Nov 11 2026. No macro, syntax, notation, axiom, sorry.
-/
import Derived.Test.YtgdejlofkjdkoaaDoorRows
import GoSem.ClaimSeven
namespace Go.Proofs.YtgdejlofkjdkoaaDoor
namespace Rows

/-- THE TIED CARD OF 'laws.FnDigitFound'. -/
def fnDigitFoundCard : Claim7 := { stood := { row := fnDigitFoundRow, standIns := [], harness := (true, "d2b92b646e672161407676e61c02dbe4a0edc35c08eef97bf6c5f1bd823a3ea3"), looks := false }, kinds := [], alts := [], laidByText := true, laidKinds := [.data, .data], laidTests := true, laidLooks := .later }
def FnDigitFoundCardSaid : Prop := Claim7.holds Tryd.pinned (.plain (OpenSpec.ofChange fnDigitFoundSpec)) fnDigitFoundCard

/-- THE TIED CARD OF 'laws.FnSilence'. -/
def fnSilenceCard : Claim7 := { stood := { row := fnSilenceRow, standIns := [], harness := (true, "d2b92b646e672161407676e61c02dbe4a0edc35c08eef97bf6c5f1bd823a3ea3"), looks := false }, kinds := [], alts := [], laidByText := true, laidKinds := [.data, .data], laidTests := true, laidLooks := .later }
def FnSilenceCardSaid : Prop := Claim7.holds Tryd.pinned (.plain (OpenSpec.ofChange fnSilenceSpec)) fnSilenceCard

/-- THE TIED CARD OF 'laws.FnExactTone13'. -/
def fnExactTone13Card : Claim7 := { stood := { row := fnExactTone13Row, standIns := [], harness := (true, "d2b92b646e672161407676e61c02dbe4a0edc35c08eef97bf6c5f1bd823a3ea3"), looks := false }, kinds := [], alts := [], laidByText := true, laidKinds := [.data, .data], laidTests := true, laidLooks := .later }
def FnExactTone13CardSaid : Prop := Claim7.holds Tryd.pinned (.plain (OpenSpec.ofChange fnExactTone13Spec)) fnExactTone13Card

/-- THE TIED CARD OF 'laws.FnExactDigit'. -/
def fnExactDigitCard : Claim7 := { stood := { row := fnExactDigitRow, standIns := [], harness := (true, "d2b92b646e672161407676e61c02dbe4a0edc35c08eef97bf6c5f1bd823a3ea3"), looks := false }, kinds := [], alts := [], laidByText := true, laidKinds := [.data, .data], laidTests := true, laidLooks := .later }
def FnExactDigitCardSaid : Prop := Claim7.holds Tryd.pinned (.plain (OpenSpec.ofChange fnExactDigitSpec)) fnExactDigitCard

/-- THE TIED CARD OF 'laws.FnExactDigits13'. -/
def fnExactDigits13Card : Claim7 := { stood := { row := fnExactDigits13Row, standIns := [], harness := (true, "d2b92b646e672161407676e61c02dbe4a0edc35c08eef97bf6c5f1bd823a3ea3"), looks := false }, kinds := [], alts := [], laidByText := true, laidKinds := [.data, .data], laidTests := true, laidLooks := .later }
def FnExactDigits13CardSaid : Prop := Claim7.holds Tryd.pinned (.plain (OpenSpec.ofChange fnExactDigits13Spec)) fnExactDigits13Card

/-- THE SECOND FORM's CARD OF 'laws.FnDigitFound'. -/
def fnDigitFoundUptoCard : Claim7 := { stood := { row := fnDigitFoundUptoRow, standIns := [], harness := (true, "d2b92b646e672161407676e61c02dbe4a0edc35c08eef97bf6c5f1bd823a3ea3"), looks := false }, kinds := [], alts := [], laidByText := true, laidKinds := [.data, .data], laidTests := true, laidLooks := .later }
def FnDigitFoundUptoCardSaid : Prop := Claim7.holds Tryd.pinned (.plain (OpenSpec.upto fnDigitFoundSpec)) fnDigitFoundUptoCard

/-- THE SECOND FORM's CARD OF 'laws.FnSilence'. -/
def fnSilenceUptoCard : Claim7 := { stood := { row := fnSilenceUptoRow, standIns := [], harness := (true, "d2b92b646e672161407676e61c02dbe4a0edc35c08eef97bf6c5f1bd823a3ea3"), looks := false }, kinds := [], alts := [], laidByText := true, laidKinds := [.data, .data], laidTests := true, laidLooks := .later }
def FnSilenceUptoCardSaid : Prop := Claim7.holds Tryd.pinned (.plain (OpenSpec.upto fnSilenceSpec)) fnSilenceUptoCard

/-- THE SECOND FORM's CARD OF 'laws.FnExactTone13'. -/
def fnExactTone13UptoCard : Claim7 := { stood := { row := fnExactTone13UptoRow, standIns := [], harness := (true, "d2b92b646e672161407676e61c02dbe4a0edc35c08eef97bf6c5f1bd823a3ea3"), looks := false }, kinds := [], alts := [], laidByText := true, laidKinds := [.data, .data], laidTests := true, laidLooks := .later }
def FnExactTone13UptoCardSaid : Prop := Claim7.holds Tryd.pinned (.plain (OpenSpec.upto fnExactTone13Spec)) fnExactTone13UptoCard

/-- THE SECOND FORM's CARD OF 'laws.FnExactDigit'. -/
def fnExactDigitUptoCard : Claim7 := { stood := { row := fnExactDigitUptoRow, standIns := [], harness := (true, "d2b92b646e672161407676e61c02dbe4a0edc35c08eef97bf6c5f1bd823a3ea3"), looks := false }, kinds := [], alts := [], laidByText := true, laidKinds := [.data, .data], laidTests := true, laidLooks := .later }
def FnExactDigitUptoCardSaid : Prop := Claim7.holds Tryd.pinned (.plain (OpenSpec.upto fnExactDigitSpec)) fnExactDigitUptoCard

/-- THE SECOND FORM's CARD OF 'laws.FnExactDigits13'. -/
def fnExactDigits13UptoCard : Claim7 := { stood := { row := fnExactDigits13UptoRow, standIns := [], harness := (true, "d2b92b646e672161407676e61c02dbe4a0edc35c08eef97bf6c5f1bd823a3ea3"), looks := false }, kinds := [], alts := [], laidByText := true, laidKinds := [.data, .data], laidTests := true, laidLooks := .later }
def FnExactDigits13UptoCardSaid : Prop := Claim7.holds Tryd.pinned (.plain (OpenSpec.upto fnExactDigits13Spec)) fnExactDigits13UptoCard
end Rows
end Go.Proofs.YtgdejlofkjdkoaaDoor
