/-
  DERIVED. GIVEN WITH THE SEED: THE CARDS: each row of YtpbnmhnbkfnaeaaGreatDoorRows.lean that lists a variable, with what it lists TIED to the program's text (the seventh form; the later family's looks); each row that meets fmt, with fmt's text TOLD by the authors' own Lean function (tested against real Go, not proved from fmt's source: count such statements apart). THE CARD IS WHAT COUNTS. Prove the row's statement (the work); the ties are given (YtpbnmhnbkfnaeaaGreatDoorTie.lean); close each card by the builder's one call (the guide's Derived/Test/ToyasCard.lean, 'card_holds'). Laid BY PROGRAM, IN A SANDBOX (cutbox-door.mjs). By AI agents, Wed Nov 11 2026. No macro, syntax, notation, axiom, sorry.
-/
import Derived.Test.YtpbnmhnbkfnaeaaGreatDoorRows
import GoSem.ClaimSeven
namespace Go.Proofs.YtpbnmhnbkfnaeaaGreatDoor
namespace Rows

/-- THE TIED CARD OF 'laws.FnTabTop'. -/
def fnTabTopCard : Claim7 := { stood := { row := fnTabTopRow, standIns := [], harness := (true, "2846922aba04f62dc411585411e7d44df3a3dcab7aadbc67e603b6275140897f"), looks := false }, kinds := [], alts := [], laidByText := true, laidKinds := [.data, .data, .data, .data, .data, .pinned], laidTests := true, laidLooks := .later }
def FnTabTopCardSaid : Prop := Claim7.holds Tryz.pinned (.plain (OpenSpec.ofChange fnTabTopSpec)) fnTabTopCard

/-- THE TIED CARD OF 'laws.FnTabSort'. -/
def fnTabSortCard : Claim7 := { stood := { row := fnTabSortRow, standIns := [], harness := (true, "2846922aba04f62dc411585411e7d44df3a3dcab7aadbc67e603b6275140897f"), looks := false }, kinds := [], alts := [], laidByText := true, laidKinds := [.data, .data, .pinned], laidTests := true, laidLooks := .later }
def FnTabSortCardSaid : Prop := Claim7.holds Tryz.pinned (.plain (OpenSpec.ofChange fnTabSortSpec)) fnTabSortCard

/-- THE TIED CARD OF 'laws.FnExactTabCmp'. -/
def fnExactTabCmpCard : Claim7 := { stood := { row := fnExactTabCmpRow, standIns := [], harness := (true, "2846922aba04f62dc411585411e7d44df3a3dcab7aadbc67e603b6275140897f"), looks := false }, kinds := [], alts := [], laidByText := true, laidKinds := [.data, .data, .pinned], laidTests := true, laidLooks := .later }
def FnExactTabCmpCardSaid : Prop := Claim7.holds Tryz.pinned (.plain (OpenSpec.ofChange fnExactTabCmpSpec)) fnExactTabCmpCard

/-- THE TIED CARD OF 'laws.FnExactTabSort'. -/
def fnExactTabSortCard : Claim7 := { stood := { row := fnExactTabSortRow, standIns := [], harness := (true, "2846922aba04f62dc411585411e7d44df3a3dcab7aadbc67e603b6275140897f"), looks := false }, kinds := [], alts := [], laidByText := true, laidKinds := [.data, .data, .pinned], laidTests := true, laidLooks := .later }
def FnExactTabSortCardSaid : Prop := Claim7.holds Tryz.pinned (.plain (OpenSpec.ofChange fnExactTabSortSpec)) fnExactTabSortCard

/-- THE SECOND FORM's CARD OF 'laws.FnTabTop'. -/
def fnTabTopUptoCard : Claim7 := { stood := { row := fnTabTopUptoRow, standIns := [], harness := (true, "2846922aba04f62dc411585411e7d44df3a3dcab7aadbc67e603b6275140897f"), looks := false }, kinds := [], alts := [], laidByText := true, laidKinds := [.data, .data, .data, .data, .data, .pinned], laidTests := true, laidLooks := .later }
def FnTabTopUptoCardSaid : Prop := Claim7.holds Tryz.pinned (.plain (OpenSpec.upto fnTabTopSpec)) fnTabTopUptoCard

/-- THE SECOND FORM's CARD OF 'laws.FnTabSort'. -/
def fnTabSortUptoCard : Claim7 := { stood := { row := fnTabSortUptoRow, standIns := [], harness := (true, "2846922aba04f62dc411585411e7d44df3a3dcab7aadbc67e603b6275140897f"), looks := false }, kinds := [], alts := [], laidByText := true, laidKinds := [.data, .data, .pinned], laidTests := true, laidLooks := .later }
def FnTabSortUptoCardSaid : Prop := Claim7.holds Tryz.pinned (.plain (OpenSpec.upto fnTabSortSpec)) fnTabSortUptoCard

/-- THE SECOND FORM's CARD OF 'laws.FnExactTabCmp'. -/
def fnExactTabCmpUptoCard : Claim7 := { stood := { row := fnExactTabCmpUptoRow, standIns := [], harness := (true, "2846922aba04f62dc411585411e7d44df3a3dcab7aadbc67e603b6275140897f"), looks := false }, kinds := [], alts := [], laidByText := true, laidKinds := [.data, .data, .pinned], laidTests := true, laidLooks := .later }
def FnExactTabCmpUptoCardSaid : Prop := Claim7.holds Tryz.pinned (.plain (OpenSpec.upto fnExactTabCmpSpec)) fnExactTabCmpUptoCard

/-- THE SECOND FORM's CARD OF 'laws.FnExactTabSort'. -/
def fnExactTabSortUptoCard : Claim7 := { stood := { row := fnExactTabSortUptoRow, standIns := [], harness := (true, "2846922aba04f62dc411585411e7d44df3a3dcab7aadbc67e603b6275140897f"), looks := false }, kinds := [], alts := [], laidByText := true, laidKinds := [.data, .data, .pinned], laidTests := true, laidLooks := .later }
def FnExactTabSortUptoCardSaid : Prop := Claim7.holds Tryz.pinned (.plain (OpenSpec.upto fnExactTabSortSpec)) fnExactTabSortUptoCard
end Rows
end Go.Proofs.YtpbnmhnbkfnaeaaGreatDoor
