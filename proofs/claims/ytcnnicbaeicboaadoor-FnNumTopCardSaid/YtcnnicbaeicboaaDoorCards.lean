/-
  DERIVED. GIVEN WITH THE SEED: THE CARDS: each row of YtcnnicbaeicboaaDoorRows.lean that lists a variable, with what it lists TIED to the program's text (the seventh form; the later family's looks); each row that meets fmt, with fmt's text TOLD by the authors' own Lean function (tested against real Go, not proved from fmt's source: count such statements apart). THE CARD IS WHAT COUNTS. Prove the row's statement (the work); the ties are given (YtcnnicbaeicboaaDoorTie.lean); close each card by the builder's one call (the guide's Derived/Test/ToyasCard.lean, 'card_holds'). Laid BY PROGRAM, IN A SANDBOX (cutbox-door.mjs). By AI agents, Wed Nov 11 2026. No macro, syntax, notation, axiom, sorry.
-/
import Derived.Test.YtcnnicbaeicboaaDoorRows
import GoSem.ClaimSeven
namespace Go.Proofs.YtcnnicbaeicboaaDoor
namespace Rows

/-- THE TIED CARD OF 'laws.FnNumText'. -/
def fnNumTextCard : Claim7 := { stood := { row := fnNumTextRow, standIns := [], harness := (true, "e85eb599e5a16209a3c7e5fa25df5390256ab7b25a91bf0dfccf9de977320f8d"), looks := false }, kinds := [], alts := [], laidByText := true, laidKinds := [.data], laidTests := true, laidLooks := .later }
def FnNumTextCardSaid : Prop := Claim7.holds Tryd.pinned (.plain (OpenSpec.ofChange fnNumTextSpec)) fnNumTextCard

/-- THE TIED CARD OF 'laws.FnNumTop'. -/
def fnNumTopCard : Claim7 := { stood := { row := fnNumTopRow, standIns := [], harness := (true, "e85eb599e5a16209a3c7e5fa25df5390256ab7b25a91bf0dfccf9de977320f8d"), looks := false }, kinds := [], alts := [], laidByText := true, laidKinds := [.data], laidTests := true, laidLooks := .later }
def FnNumTopCardSaid : Prop := Claim7.holds Tryd.pinned (.plain (OpenSpec.ofChange fnNumTopSpec)) fnNumTopCard

/-- THE TIED CARD OF 'laws.FnExactReadMin'. -/
def fnExactReadMinCard : Claim7 := { stood := { row := fnExactReadMinRow, standIns := [], harness := (true, "e85eb599e5a16209a3c7e5fa25df5390256ab7b25a91bf0dfccf9de977320f8d"), looks := false }, kinds := [], alts := [], laidByText := true, laidKinds := [.data, .data, .data], laidTests := true, laidLooks := .later }
def FnExactReadMinCardSaid : Prop := Claim7.holds Tryd.pinned (.plain (OpenSpec.ofChange fnExactReadMinSpec)) fnExactReadMinCard

/-- THE SECOND FORM's CARD OF 'laws.FnNumText'. -/
def fnNumTextUptoCard : Claim7 := { stood := { row := fnNumTextUptoRow, standIns := [], harness := (true, "e85eb599e5a16209a3c7e5fa25df5390256ab7b25a91bf0dfccf9de977320f8d"), looks := false }, kinds := [], alts := [], laidByText := true, laidKinds := [.data], laidTests := true, laidLooks := .later }
def FnNumTextUptoCardSaid : Prop := Claim7.holds Tryd.pinned (.plain (OpenSpec.upto fnNumTextSpec)) fnNumTextUptoCard

/-- THE SECOND FORM's CARD OF 'laws.FnNumTop'. -/
def fnNumTopUptoCard : Claim7 := { stood := { row := fnNumTopUptoRow, standIns := [], harness := (true, "e85eb599e5a16209a3c7e5fa25df5390256ab7b25a91bf0dfccf9de977320f8d"), looks := false }, kinds := [], alts := [], laidByText := true, laidKinds := [.data], laidTests := true, laidLooks := .later }
def FnNumTopUptoCardSaid : Prop := Claim7.holds Tryd.pinned (.plain (OpenSpec.upto fnNumTopSpec)) fnNumTopUptoCard

/-- THE SECOND FORM's CARD OF 'laws.FnExactReadMin'. -/
def fnExactReadMinUptoCard : Claim7 := { stood := { row := fnExactReadMinUptoRow, standIns := [], harness := (true, "e85eb599e5a16209a3c7e5fa25df5390256ab7b25a91bf0dfccf9de977320f8d"), looks := false }, kinds := [], alts := [], laidByText := true, laidKinds := [.data, .data, .data], laidTests := true, laidLooks := .later }
def FnExactReadMinUptoCardSaid : Prop := Claim7.holds Tryd.pinned (.plain (OpenSpec.upto fnExactReadMinSpec)) fnExactReadMinUptoCard
end Rows
end Go.Proofs.YtcnnicbaeicboaaDoor
