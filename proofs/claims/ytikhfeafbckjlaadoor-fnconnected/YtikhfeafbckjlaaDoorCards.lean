/-
  DERIVED. GIVEN WITH THE SEED: THE CARDS: each row of YtikhfeafbckjlaaDoorRows.lean that lists a variable, with what it lists TIED to the program's text (the seventh form; the later family's looks); each row that meets fmt, with fmt's text TOLD by the authors' own Lean function (tested against real Go, not proved from fmt's source: count such statements apart). THE CARD IS WHAT COUNTS. Prove the row's statement (the work); the ties are given (YtikhfeafbckjlaaDoorTie.lean); close each card by the builder's one call (the guide's Derived/Test/ToyasCard.lean, 'card_holds'). Laid BY PROGRAM, IN A SANDBOX (cutbox-door.mjs). By AI agents, Wed Nov 11 2026. No macro, syntax, notation, axiom, sorry.
-/
import Derived.Test.YtikhfeafbckjlaaDoorRows
import GoSem.ClaimSeven
namespace Go.Proofs.YtikhfeafbckjlaaDoor
namespace Rows

/-- THE TIED CARD OF 'laws.FnConnected'. -/
def fnConnectedCard : Claim7 := { stood := { row := fnConnectedRow, standIns := [], harness := (true, "653d284d7c23ada9364ce64361cfab036200db54e965ee2ad8d5354585ae4420"), looks := false }, kinds := [], alts := [], laidByText := true, laidKinds := [.data, .data], laidTests := true, laidLooks := .later }
def FnConnectedCardSaid : Prop := Claim7.holds Tryd.pinned (.plain (OpenSpec.ofChange fnConnectedSpec)) fnConnectedCard

/-- THE TIED CARD OF 'laws.FnNeeded3'. -/
def fnNeeded3Card : Claim7 := { stood := { row := fnNeeded3Row, standIns := [], harness := (true, "653d284d7c23ada9364ce64361cfab036200db54e965ee2ad8d5354585ae4420"), looks := false }, kinds := [], alts := [], laidByText := true, laidKinds := [.data, .data], laidTests := true, laidLooks := .later }
def FnNeeded3CardSaid : Prop := Claim7.holds Tryd.pinned (.plain (OpenSpec.ofChange fnNeeded3Spec)) fnNeeded3Card

/-- THE TIED CARD OF 'laws.FnExactConnect'. -/
def fnExactConnectCard : Claim7 := { stood := { row := fnExactConnectRow, standIns := [], harness := (true, "653d284d7c23ada9364ce64361cfab036200db54e965ee2ad8d5354585ae4420"), looks := false }, kinds := [], alts := [], laidByText := true, laidKinds := [.data, .data], laidTests := true, laidLooks := .later }
def FnExactConnectCardSaid : Prop := Claim7.holds Tryd.pinned (.plain (OpenSpec.ofChange fnExactConnectSpec)) fnExactConnectCard

/-- THE TIED CARD OF 'laws.FnExactRelease'. -/
def fnExactReleaseCard : Claim7 := { stood := { row := fnExactReleaseRow, standIns := [], harness := (true, "653d284d7c23ada9364ce64361cfab036200db54e965ee2ad8d5354585ae4420"), looks := false }, kinds := [], alts := [], laidByText := true, laidKinds := [.data], laidTests := true, laidLooks := .later }
def FnExactReleaseCardSaid : Prop := Claim7.holds Tryd.pinned (.plain (OpenSpec.ofChange fnExactReleaseSpec)) fnExactReleaseCard

/-- THE TIED CARD OF 'laws.FnExactNeeds'. -/
def fnExactNeedsCard : Claim7 := { stood := { row := fnExactNeedsRow, standIns := [], harness := (true, "653d284d7c23ada9364ce64361cfab036200db54e965ee2ad8d5354585ae4420"), looks := false }, kinds := [], alts := [], laidByText := true, laidKinds := [.data, .data], laidTests := true, laidLooks := .later }
def FnExactNeedsCardSaid : Prop := Claim7.holds Tryd.pinned (.plain (OpenSpec.ofChange fnExactNeedsSpec)) fnExactNeedsCard

/-- THE SECOND FORM's CARD OF 'laws.FnConnected'. -/
def fnConnectedUptoCard : Claim7 := { stood := { row := fnConnectedUptoRow, standIns := [], harness := (true, "653d284d7c23ada9364ce64361cfab036200db54e965ee2ad8d5354585ae4420"), looks := false }, kinds := [], alts := [], laidByText := true, laidKinds := [.data, .data], laidTests := true, laidLooks := .later }
def FnConnectedUptoCardSaid : Prop := Claim7.holds Tryd.pinned (.plain (OpenSpec.upto fnConnectedSpec)) fnConnectedUptoCard

/-- THE SECOND FORM's CARD OF 'laws.FnNeeded3'. -/
def fnNeeded3UptoCard : Claim7 := { stood := { row := fnNeeded3UptoRow, standIns := [], harness := (true, "653d284d7c23ada9364ce64361cfab036200db54e965ee2ad8d5354585ae4420"), looks := false }, kinds := [], alts := [], laidByText := true, laidKinds := [.data, .data], laidTests := true, laidLooks := .later }
def FnNeeded3UptoCardSaid : Prop := Claim7.holds Tryd.pinned (.plain (OpenSpec.upto fnNeeded3Spec)) fnNeeded3UptoCard

/-- THE SECOND FORM's CARD OF 'laws.FnExactConnect'. -/
def fnExactConnectUptoCard : Claim7 := { stood := { row := fnExactConnectUptoRow, standIns := [], harness := (true, "653d284d7c23ada9364ce64361cfab036200db54e965ee2ad8d5354585ae4420"), looks := false }, kinds := [], alts := [], laidByText := true, laidKinds := [.data, .data], laidTests := true, laidLooks := .later }
def FnExactConnectUptoCardSaid : Prop := Claim7.holds Tryd.pinned (.plain (OpenSpec.upto fnExactConnectSpec)) fnExactConnectUptoCard

/-- THE SECOND FORM's CARD OF 'laws.FnExactRelease'. -/
def fnExactReleaseUptoCard : Claim7 := { stood := { row := fnExactReleaseUptoRow, standIns := [], harness := (true, "653d284d7c23ada9364ce64361cfab036200db54e965ee2ad8d5354585ae4420"), looks := false }, kinds := [], alts := [], laidByText := true, laidKinds := [.data], laidTests := true, laidLooks := .later }
def FnExactReleaseUptoCardSaid : Prop := Claim7.holds Tryd.pinned (.plain (OpenSpec.upto fnExactReleaseSpec)) fnExactReleaseUptoCard

/-- THE SECOND FORM's CARD OF 'laws.FnExactNeeds'. -/
def fnExactNeedsUptoCard : Claim7 := { stood := { row := fnExactNeedsUptoRow, standIns := [], harness := (true, "653d284d7c23ada9364ce64361cfab036200db54e965ee2ad8d5354585ae4420"), looks := false }, kinds := [], alts := [], laidByText := true, laidKinds := [.data, .data], laidTests := true, laidLooks := .later }
def FnExactNeedsUptoCardSaid : Prop := Claim7.holds Tryd.pinned (.plain (OpenSpec.upto fnExactNeedsSpec)) fnExactNeedsUptoCard
end Rows
end Go.Proofs.YtikhfeafbckjlaaDoor
