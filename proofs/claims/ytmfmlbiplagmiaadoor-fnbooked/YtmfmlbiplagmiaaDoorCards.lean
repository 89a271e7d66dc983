/-
  DERIVED. GIVEN WITH THE SEED: THE CARDS: each row of YtmfmlbiplagmiaaDoorRows.lean that lists a variable, with what it lists TIED to the program's text (the seventh form; the later family's looks); each row that meets fmt, with fmt's text TOLD by the authors' own Lean function (tested against real Go, not proved from fmt's source: count such statements apart). THE CARD IS WHAT COUNTS. Prove the row's statement (the work); the ties are given (YtmfmlbiplagmiaaDoorTie.lean); close each card by the builder's one call (the guide's Derived/Test/ToyasCard.lean, 'card_holds'). Laid BY PROGRAM, IN A SANDBOX (cutbox-door.mjs). By AI agents, Wed Nov 11 2026. No macro, syntax, notation, axiom, sorry.
-/
import Derived.Test.YtmfmlbiplagmiaaDoorRows
import GoSem.ClaimSeven
namespace Go.Proofs.YtmfmlbiplagmiaaDoor
namespace Rows

/-- THE TIED CARD OF 'laws.FnMendedBook'. -/
def fnMendedBookCard : Claim7 := { stood := { row := fnMendedBookRow, standIns := [], harness := (true, "252f7bd03114de26a9c54d2c91626c42b6000b08de9dc9cb27eec05835515bc1"), looks := true }, kinds := [], alts := [], laidByText := true, laidKinds := [.handle], laidTests := true, laidLooks := .later }
def FnMendedBookCardSaid : Prop := Claim7.holds Tryd.pinned (.plain (OpenSpec.ofChange fnMendedBookSpec)) fnMendedBookCard

/-- THE TIED CARD OF 'laws.FnBooked'. -/
def fnBookedCard : Claim7 := { stood := { row := fnBookedRow, standIns := [], harness := (true, "252f7bd03114de26a9c54d2c91626c42b6000b08de9dc9cb27eec05835515bc1"), looks := true }, kinds := [], alts := [], laidByText := true, laidKinds := [.handle], laidTests := true, laidLooks := .later }
def FnBookedCardSaid : Prop := Claim7.holds Tryd.pinned (.plain (OpenSpec.ofChange fnBookedSpec)) fnBookedCard

/-- THE TIED CARD OF 'laws.FnExactFaults'. -/
def fnExactFaultsCard : Claim7 := { stood := { row := fnExactFaultsRow, standIns := [], harness := (true, "252f7bd03114de26a9c54d2c91626c42b6000b08de9dc9cb27eec05835515bc1"), looks := true }, kinds := [], alts := [], laidByText := true, laidKinds := [.handle], laidTests := true, laidLooks := .later }
def FnExactFaultsCardSaid : Prop := Claim7.holds Tryd.pinned (.plain (OpenSpec.ofChange fnExactFaultsSpec)) fnExactFaultsCard

/-- THE TIED CARD OF 'laws.FnExactAdd18'. -/
def fnExactAdd18Card : Claim7 := { stood := { row := fnExactAdd18Row, standIns := [], harness := (true, "252f7bd03114de26a9c54d2c91626c42b6000b08de9dc9cb27eec05835515bc1"), looks := true }, kinds := [], alts := [], laidByText := true, laidKinds := [.handle], laidTests := true, laidLooks := .later }
def FnExactAdd18CardSaid : Prop := Claim7.holds Tryd.pinned (.plain (OpenSpec.ofChange fnExactAdd18Spec)) fnExactAdd18Card

/-- THE SECOND FORM's CARD OF 'laws.FnMendedBook'. -/
def fnMendedBookUptoCard : Claim7 := { stood := { row := fnMendedBookUptoRow, standIns := [], harness := (true, "252f7bd03114de26a9c54d2c91626c42b6000b08de9dc9cb27eec05835515bc1"), looks := true }, kinds := [], alts := [], laidByText := true, laidKinds := [.handle], laidTests := true, laidLooks := .later }
def FnMendedBookUptoCardSaid : Prop := Claim7.holds Tryd.pinned (.plain (OpenSpec.upto fnMendedBookSpec)) fnMendedBookUptoCard

/-- THE SECOND FORM's CARD OF 'laws.FnBooked'. -/
def fnBookedUptoCard : Claim7 := { stood := { row := fnBookedUptoRow, standIns := [], harness := (true, "252f7bd03114de26a9c54d2c91626c42b6000b08de9dc9cb27eec05835515bc1"), looks := true }, kinds := [], alts := [], laidByText := true, laidKinds := [.handle], laidTests := true, laidLooks := .later }
def FnBookedUptoCardSaid : Prop := Claim7.holds Tryd.pinned (.plain (OpenSpec.upto fnBookedSpec)) fnBookedUptoCard

/-- THE SECOND FORM's CARD OF 'laws.FnExactFaults'. -/
def fnExactFaultsUptoCard : Claim7 := { stood := { row := fnExactFaultsUptoRow, standIns := [], harness := (true, "252f7bd03114de26a9c54d2c91626c42b6000b08de9dc9cb27eec05835515bc1"), looks := true }, kinds := [], alts := [], laidByText := true, laidKinds := [.handle], laidTests := true, laidLooks := .later }
def FnExactFaultsUptoCardSaid : Prop := Claim7.holds Tryd.pinned (.plain (OpenSpec.upto fnExactFaultsSpec)) fnExactFaultsUptoCard

/-- THE SECOND FORM's CARD OF 'laws.FnExactAdd18'. -/
def fnExactAdd18UptoCard : Claim7 := { stood := { row := fnExactAdd18UptoRow, standIns := [], harness := (true, "252f7bd03114de26a9c54d2c91626c42b6000b08de9dc9cb27eec05835515bc1"), looks := true }, kinds := [], alts := [], laidByText := true, laidKinds := [.handle], laidTests := true, laidLooks := .later }
def FnExactAdd18UptoCardSaid : Prop := Claim7.holds Tryd.pinned (.plain (OpenSpec.upto fnExactAdd18Spec)) fnExactAdd18UptoCard
end Rows
end Go.Proofs.YtmfmlbiplagmiaaDoor
