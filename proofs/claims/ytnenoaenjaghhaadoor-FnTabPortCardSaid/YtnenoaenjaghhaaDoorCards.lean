/-
  DERIVED. GIVEN WITH THE SEED: THE CARDS: each row of YtnenoaenjaghhaaDoorRows.lean that lists a variable, with what it lists TIED to the program's text (the seventh form; the later family's looks); each row that meets fmt, with fmt's text TOLD by the authors' own Lean function (tested against real Go, not proved from fmt's source: count such statements apart). THE CARD IS WHAT COUNTS. Prove the row's statement (the work); the ties are given (YtnenoaenjaghhaaDoorTie.lean); close each card by the builder's one call (the guide's Derived/Test/ToyasCard.lean, 'card_holds'). Laid BY PROGRAM, IN A SANDBOX (cutbox-door.mjs). By AI agents, Wed Nov 11 2026. No macro, syntax, notation, axiom, sorry.
-/
import Derived.Test.YtnenoaenjaghhaaDoorRows
import GoSem.ClaimSeven
namespace Go.Proofs.YtnenoaenjaghhaaDoor
namespace Rows

/-- THE TIED CARD OF 'laws.FnTabPort'. -/
def fnTabPortCard : Claim7 := { stood := { row := fnTabPortRow, standIns := [], harness := (true, "8faa0f8d4ccb3c391d730ede24c5e15ff7c3296bdf44bb72d3a963f5610db59f"), looks := false }, kinds := [], alts := [], laidByText := true, laidKinds := [.data, .pinned], laidTests := true, laidLooks := .later }
def FnTabPortCardSaid : Prop := Claim7.holds Tryd.pinned (.plain (OpenSpec.ofChange fnTabPortSpec)) fnTabPortCard

/-- THE TIED CARD OF 'laws.FnExactTabChar'. -/
def fnExactTabCharCard : Claim7 := { stood := { row := fnExactTabCharRow, standIns := [], harness := (true, "8faa0f8d4ccb3c391d730ede24c5e15ff7c3296bdf44bb72d3a963f5610db59f"), looks := false }, kinds := [], alts := [], laidByText := true, laidKinds := [.data, .pinned], laidTests := true, laidLooks := .later }
def FnExactTabCharCardSaid : Prop := Claim7.holds Tryd.pinned (.plain (OpenSpec.ofChange fnExactTabCharSpec)) fnExactTabCharCard

/-- THE TIED CARD OF 'laws.FnExactTabLine'. -/
def fnExactTabLineCard : Claim7 := { stood := { row := fnExactTabLineRow, standIns := [], harness := (true, "8faa0f8d4ccb3c391d730ede24c5e15ff7c3296bdf44bb72d3a963f5610db59f"), looks := false }, kinds := [], alts := [], laidByText := true, laidKinds := [.data, .pinned], laidTests := true, laidLooks := .later }
def FnExactTabLineCardSaid : Prop := Claim7.holds Tryd.pinned (.plain (OpenSpec.ofChange fnExactTabLineSpec)) fnExactTabLineCard

/-- THE SECOND FORM's CARD OF 'laws.FnTabPort'. -/
def fnTabPortUptoCard : Claim7 := { stood := { row := fnTabPortUptoRow, standIns := [], harness := (true, "8faa0f8d4ccb3c391d730ede24c5e15ff7c3296bdf44bb72d3a963f5610db59f"), looks := false }, kinds := [], alts := [], laidByText := true, laidKinds := [.data, .pinned], laidTests := true, laidLooks := .later }
def FnTabPortUptoCardSaid : Prop := Claim7.holds Tryd.pinned (.plain (OpenSpec.upto fnTabPortSpec)) fnTabPortUptoCard

/-- THE SECOND FORM's CARD OF 'laws.FnExactTabChar'. -/
def fnExactTabCharUptoCard : Claim7 := { stood := { row := fnExactTabCharUptoRow, standIns := [], harness := (true, "8faa0f8d4ccb3c391d730ede24c5e15ff7c3296bdf44bb72d3a963f5610db59f"), looks := false }, kinds := [], alts := [], laidByText := true, laidKinds := [.data, .pinned], laidTests := true, laidLooks := .later }
def FnExactTabCharUptoCardSaid : Prop := Claim7.holds Tryd.pinned (.plain (OpenSpec.upto fnExactTabCharSpec)) fnExactTabCharUptoCard

/-- THE SECOND FORM's CARD OF 'laws.FnExactTabLine'. -/
def fnExactTabLineUptoCard : Claim7 := { stood := { row := fnExactTabLineUptoRow, standIns := [], harness := (true, "8faa0f8d4ccb3c391d730ede24c5e15ff7c3296bdf44bb72d3a963f5610db59f"), looks := false }, kinds := [], alts := [], laidByText := true, laidKinds := [.data, .pinned], laidTests := true, laidLooks := .later }
def FnExactTabLineUptoCardSaid : Prop := Claim7.holds Tryd.pinned (.plain (OpenSpec.upto fnExactTabLineSpec)) fnExactTabLineUptoCard
end Rows
end Go.Proofs.YtnenoaenjaghhaaDoor
