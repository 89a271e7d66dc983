/-
  DERIVED. GIVEN WITH THE SEED: THE CARDS: each row of YtkjfcebdjnclaaaDoorRows.lean that lists a variable, with what it lists TIED to the program's text (the seventh form; the later family's looks); each row that meets fmt, with fmt's text TOLD by the authors' own Lean function (tested against real Go, not proved from fmt's source: count such statements apart). THE CARD IS WHAT COUNTS. Prove the row's statement (the work); the ties are given (YtkjfcebdjnclaaaDoorTie.lean); close each card by the builder's one call (the guide's Derived/Test/ToyasCard.lean, 'card_holds'). Laid BY PROGRAM, IN A SANDBOX (cutbox-door.mjs). By AI agents, Wed Nov 11 2026. No macro, syntax, notation, axiom, sorry.
-/
import Derived.Test.YtkjfcebdjnclaaaDoorRows
import GoSem.ClaimSeven
namespace Go.Proofs.YtkjfcebdjnclaaaDoor
namespace Rows

/-- THE TIED CARD OF 'laws.FnVoiceBack'. -/
def fnVoiceBackCard : Claim7 := { stood := { row := fnVoiceBackRow, standIns := [], harness := (true, "f68257206cfae8e666201d432d37681aadd0ebb858b21c86762f353ada52df8e"), looks := false }, kinds := [], alts := [], laidByText := true, laidKinds := [.data], laidTests := true, laidLooks := .later }
def FnVoiceBackCardSaid : Prop := Claim7.holds Tryd.pinned (.plain (OpenSpec.ofChange fnVoiceBackSpec)) fnVoiceBackCard

/-- THE TIED CARD OF 'laws.FnFramed'. -/
def fnFramedCard : Claim7 := { stood := { row := fnFramedRow, standIns := [], harness := (true, "f68257206cfae8e666201d432d37681aadd0ebb858b21c86762f353ada52df8e"), looks := false }, kinds := [], alts := [], laidByText := true, laidKinds := [.data], laidTests := true, laidLooks := .later }
def FnFramedCardSaid : Prop := Claim7.holds Tryd.pinned (.plain (OpenSpec.ofChange fnFramedSpec)) fnFramedCard

/-- THE TIED CARD OF 'laws.FnInOrder'. -/
def fnInOrderCard : Claim7 := { stood := { row := fnInOrderRow, standIns := [], harness := (true, "f68257206cfae8e666201d432d37681aadd0ebb858b21c86762f353ada52df8e"), looks := false }, kinds := [], alts := [], laidByText := true, laidKinds := [.data], laidTests := true, laidLooks := .later }
def FnInOrderCardSaid : Prop := Claim7.holds Tryd.pinned (.plain (OpenSpec.ofChange fnInOrderSpec)) fnInOrderCard

/-- THE TIED CARD OF 'laws.FnTwice'. -/
def fnTwiceCard : Claim7 := { stood := { row := fnTwiceRow, standIns := [], harness := (true, "f68257206cfae8e666201d432d37681aadd0ebb858b21c86762f353ada52df8e"), looks := false }, kinds := [], alts := [], laidByText := true, laidKinds := [.data], laidTests := true, laidLooks := .later }
def FnTwiceCardSaid : Prop := Claim7.holds Tryd.pinned (.plain (OpenSpec.ofChange fnTwiceSpec)) fnTwiceCard

/-- THE TIED CARD OF 'laws.FnFaded'. -/
def fnFadedCard : Claim7 := { stood := { row := fnFadedRow, standIns := [], harness := (true, "f68257206cfae8e666201d432d37681aadd0ebb858b21c86762f353ada52df8e"), looks := false }, kinds := [], alts := [], laidByText := true, laidKinds := [.data], laidTests := true, laidLooks := .later }
def FnFadedCardSaid : Prop := Claim7.holds Tryd.pinned (.plain (OpenSpec.ofChange fnFadedSpec)) fnFadedCard

/-- THE TIED CARD OF 'laws.FnExactSqueeze'. -/
def fnExactSqueezeCard : Claim7 := { stood := { row := fnExactSqueezeRow, standIns := [], harness := (true, "f68257206cfae8e666201d432d37681aadd0ebb858b21c86762f353ada52df8e"), looks := false }, kinds := [], alts := [], laidByText := true, laidKinds := [.data], laidTests := true, laidLooks := .later }
def FnExactSqueezeCardSaid : Prop := Claim7.holds Tryd.pinned (.plain (OpenSpec.ofChange fnExactSqueezeSpec)) fnExactSqueezeCard

/-- THE TIED CARD OF 'laws.FnExactExpand'. -/
def fnExactExpandCard : Claim7 := { stood := { row := fnExactExpandRow, standIns := [], harness := (true, "f68257206cfae8e666201d432d37681aadd0ebb858b21c86762f353ada52df8e"), looks := false }, kinds := [], alts := [], laidByText := true, laidKinds := [.data], laidTests := true, laidLooks := .later }
def FnExactExpandCardSaid : Prop := Claim7.holds Tryd.pinned (.plain (OpenSpec.ofChange fnExactExpandSpec)) fnExactExpandCard

/-- THE TIED CARD OF 'laws.FnExactFrameOf'. -/
def fnExactFrameOfCard : Claim7 := { stood := { row := fnExactFrameOfRow, standIns := [], harness := (true, "f68257206cfae8e666201d432d37681aadd0ebb858b21c86762f353ada52df8e"), looks := false }, kinds := [], alts := [], laidByText := true, laidKinds := [.data], laidTests := true, laidLooks := .later }
def FnExactFrameOfCardSaid : Prop := Claim7.holds Tryd.pinned (.plain (OpenSpec.ofChange fnExactFrameOfSpec)) fnExactFrameOfCard

/-- THE TIED CARD OF 'laws.FnExactOfFrame'. -/
def fnExactOfFrameCard : Claim7 := { stood := { row := fnExactOfFrameRow, standIns := [], harness := (true, "f68257206cfae8e666201d432d37681aadd0ebb858b21c86762f353ada52df8e"), looks := false }, kinds := [], alts := [], laidByText := true, laidKinds := [.data], laidTests := true, laidLooks := .later }
def FnExactOfFrameCardSaid : Prop := Claim7.holds Tryd.pinned (.plain (OpenSpec.ofChange fnExactOfFrameSpec)) fnExactOfFrameCard

/-- THE TIED CARD OF 'laws.FnExactPlay'. -/
def fnExactPlayCard : Claim7 := { stood := { row := fnExactPlayRow, standIns := [], harness := (true, "f68257206cfae8e666201d432d37681aadd0ebb858b21c86762f353ada52df8e"), looks := false }, kinds := [], alts := [], laidByText := true, laidKinds := [.data], laidTests := true, laidLooks := .later }
def FnExactPlayCardSaid : Prop := Claim7.holds Tryd.pinned (.plain (OpenSpec.ofChange fnExactPlaySpec)) fnExactPlayCard

/-- THE TIED CARD OF 'laws.FnExactHear12'. -/
def fnExactHear12Card : Claim7 := { stood := { row := fnExactHear12Row, standIns := [], harness := (true, "f68257206cfae8e666201d432d37681aadd0ebb858b21c86762f353ada52df8e"), looks := false }, kinds := [], alts := [], laidByText := true, laidKinds := [.data], laidTests := true, laidLooks := .later }
def FnExactHear12CardSaid : Prop := Claim7.holds Tryd.pinned (.plain (OpenSpec.ofChange fnExactHear12Spec)) fnExactHear12Card

/-- THE SECOND FORM's CARD OF 'laws.FnVoiceBack'. -/
def fnVoiceBackUptoCard : Claim7 := { stood := { row := fnVoiceBackUptoRow, standIns := [], harness := (true, "f68257206cfae8e666201d432d37681aadd0ebb858b21c86762f353ada52df8e"), looks := false }, kinds := [], alts := [], laidByText := true, laidKinds := [.data], laidTests := true, laidLooks := .later }
def FnVoiceBackUptoCardSaid : Prop := Claim7.holds Tryd.pinned (.plain (OpenSpec.upto fnVoiceBackSpec)) fnVoiceBackUptoCard

/-- THE SECOND FORM's CARD OF 'laws.FnFramed'. -/
def fnFramedUptoCard : Claim7 := { stood := { row := fnFramedUptoRow, standIns := [], harness := (true, "f68257206cfae8e666201d432d37681aadd0ebb858b21c86762f353ada52df8e"), looks := false }, kinds := [], alts := [], laidByText := true, laidKinds := [.data], laidTests := true, laidLooks := .later }
def FnFramedUptoCardSaid : Prop := Claim7.holds Tryd.pinned (.plain (OpenSpec.upto fnFramedSpec)) fnFramedUptoCard

/-- THE SECOND FORM's CARD OF 'laws.FnInOrder'. -/
def fnInOrderUptoCard : Claim7 := { stood := { row := fnInOrderUptoRow, standIns := [], harness := (true, "f68257206cfae8e666201d432d37681aadd0ebb858b21c86762f353ada52df8e"), looks := false }, kinds := [], alts := [], laidByText := true, laidKinds := [.data], laidTests := true, laidLooks := .later }
def FnInOrderUptoCardSaid : Prop := Claim7.holds Tryd.pinned (.plain (OpenSpec.upto fnInOrderSpec)) fnInOrderUptoCard

/-- THE SECOND FORM's CARD OF 'laws.FnTwice'. -/
def fnTwiceUptoCard : Claim7 := { stood := { row := fnTwiceUptoRow, standIns := [], harness := (true, "f68257206cfae8e666201d432d37681aadd0ebb858b21c86762f353ada52df8e"), looks := false }, kinds := [], alts := [], laidByText := true, laidKinds := [.data], laidTests := true, laidLooks := .later }
def FnTwiceUptoCardSaid : Prop := Claim7.holds Tryd.pinned (.plain (OpenSpec.upto fnTwiceSpec)) fnTwiceUptoCard

/-- THE SECOND FORM's CARD OF 'laws.FnFaded'. -/
def fnFadedUptoCard : Claim7 := { stood := { row := fnFadedUptoRow, standIns := [], harness := (true, "f68257206cfae8e666201d432d37681aadd0ebb858b21c86762f353ada52df8e"), looks := false }, kinds := [], alts := [], laidByText := true, laidKinds := [.data], laidTests := true, laidLooks := .later }
def FnFadedUptoCardSaid : Prop := Claim7.holds Tryd.pinned (.plain (OpenSpec.upto fnFadedSpec)) fnFadedUptoCard

/-- THE SECOND FORM's CARD OF 'laws.FnExactSqueeze'. -/
def fnExactSqueezeUptoCard : Claim7 := { stood := { row := fnExactSqueezeUptoRow, standIns := [], harness := (true, "f68257206cfae8e666201d432d37681aadd0ebb858b21c86762f353ada52df8e"), looks := false }, kinds := [], alts := [], laidByText := true, laidKinds := [.data], laidTests := true, laidLooks := .later }
def FnExactSqueezeUptoCardSaid : Prop := Claim7.holds Tryd.pinned (.plain (OpenSpec.upto fnExactSqueezeSpec)) fnExactSqueezeUptoCard

/-- THE SECOND FORM's CARD OF 'laws.FnExactExpand'. -/
def fnExactExpandUptoCard : Claim7 := { stood := { row := fnExactExpandUptoRow, standIns := [], harness := (true, "f68257206cfae8e666201d432d37681aadd0ebb858b21c86762f353ada52df8e"), looks := false }, kinds := [], alts := [], laidByText := true, laidKinds := [.data], laidTests := true, laidLooks := .later }
def FnExactExpandUptoCardSaid : Prop := Claim7.holds Tryd.pinned (.plain (OpenSpec.upto fnExactExpandSpec)) fnExactExpandUptoCard

/-- THE SECOND FORM's CARD OF 'laws.FnExactFrameOf'. -/
def fnExactFrameOfUptoCard : Claim7 := { stood := { row := fnExactFrameOfUptoRow, standIns := [], harness := (true, "f68257206cfae8e666201d432d37681aadd0ebb858b21c86762f353ada52df8e"), looks := false }, kinds := [], alts := [], laidByText := true, laidKinds := [.data], laidTests := true, laidLooks := .later }
def FnExactFrameOfUptoCardSaid : Prop := Claim7.holds Tryd.pinned (.plain (OpenSpec.upto fnExactFrameOfSpec)) fnExactFrameOfUptoCard

/-- THE SECOND FORM's CARD OF 'laws.FnExactOfFrame'. -/
def fnExactOfFrameUptoCard : Claim7 := { stood := { row := fnExactOfFrameUptoRow, standIns := [], harness := (true, "f68257206cfae8e666201d432d37681aadd0ebb858b21c86762f353ada52df8e"), looks := false }, kinds := [], alts := [], laidByText := true, laidKinds := [.data], laidTests := true, laidLooks := .later }
def FnExactOfFrameUptoCardSaid : Prop := Claim7.holds Tryd.pinned (.plain (OpenSpec.upto fnExactOfFrameSpec)) fnExactOfFrameUptoCard

/-- THE SECOND FORM's CARD OF 'laws.FnExactPlay'. -/
def fnExactPlayUptoCard : Claim7 := { stood := { row := fnExactPlayUptoRow, standIns := [], harness := (true, "f68257206cfae8e666201d432d37681aadd0ebb858b21c86762f353ada52df8e"), looks := false }, kinds := [], alts := [], laidByText := true, laidKinds := [.data], laidTests := true, laidLooks := .later }
def FnExactPlayUptoCardSaid : Prop := Claim7.holds Tryd.pinned (.plain (OpenSpec.upto fnExactPlaySpec)) fnExactPlayUptoCard

/-- THE SECOND FORM's CARD OF 'laws.FnExactHear12'. -/
def fnExactHear12UptoCard : Claim7 := { stood := { row := fnExactHear12UptoRow, standIns := [], harness := (true, "f68257206cfae8e666201d432d37681aadd0ebb858b21c86762f353ada52df8e"), looks := false }, kinds := [], alts := [], laidByText := true, laidKinds := [.data], laidTests := true, laidLooks := .later }
def FnExactHear12UptoCardSaid : Prop := Claim7.holds Tryd.pinned (.plain (OpenSpec.upto fnExactHear12Spec)) fnExactHear12UptoCard
end Rows
end Go.Proofs.YtkjfcebdjnclaaaDoor
