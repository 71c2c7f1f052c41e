/-
  NARROWER THAN 'FOR EVERY INPUT', by the rows' own cells (each row's printed sentence says how): FnNumText: laid · FnNumTop: laid.
  DERIVED. THE GIVEN ROWS OF THIS SEAT. 2 by the template 'for every input the law returns true; each argument reads behind the call as it read before'; 0 by the template 'total and deterministic' (their statements: YtijgolgfcgkbiaaDoorTotals.lean).
  GIVEN WITH THE SEED: the statements are not yours to turn. If you find one false, say at which input.
  Laid BY PROGRAM, IN A SANDBOX (cutbox-rows.mjs): the forced cells as the released guide's own fill.sh prints them over the translation 13fa5e96a2bb6e2b… (all of the seat's roots in one cut). By AI agents, Wed Nov 11 2026. No macro, syntax, notation, axiom, sorry.
-/
import Derived.Test.YtijgolgfcgkbiaaDoorChecked
import GoSem.Claim
import GoSem.ClaimJoined
import GoSem.ClaimMapViews
import Derived.JoinedTies
import Derived.KernelRfl
namespace Go.Proofs.YtijgolgfcgkbiaaDoor
/- THE CELL 'sum', in the pinned program and in every row, IS THE sha256 OF THE DUMP (.gsa) THAT YtijgolgfcgkbiaaDoorProg.lean LOADS. Nothing in Lean hashes anything: it is a label: what it is worth is what the hold of that sum in a sandbox is worth. -/
noncomputable def Tryd.pinned : Pinned := { name := "ytijgolgfcgkbiaadoor", sum := "13fa5e96a2bb6e2b73bcce92caa4c819bb516aeb42d19a69976e0e32e8cb6428", checked := Tryd.checked }
namespace Rows
def none {H : Type} : Left H := { results := [], args := [] }

/- WHAT THE LISTED PACKAGE-LEVEL VARIABLES READ AS WHEN THE CALL BEGINS. Each datum BY PROGRAM (the guide's laid-datum.mjs) off the statement by which the dump's own 'gosem.cut.vars' lays the variable. In a bare row this is a premise. The card (YtijgolgfcgkbiaaDoorCards.lean) ties it to the program's text. -/
def laid_loop_example_sistab_impl_natTens {H : Type} : DataW H := .agg [.lit (.int .u64 1), .lit (.int .u64 10), .lit (.int .u64 100), .lit (.int .u64 1000), .lit (.int .u64 10000), .lit (.int .u64 100000), .lit (.int .u64 1000000), .lit (.int .u64 10000000), .lit (.int .u64 100000000)]

/-- 'laws.FnNumText': WHATEVER THE INPUT: true; the input reads as it did. -/
def fnNumTextSpec : ChangeSpec := { name := "fnNumText", vars := ["loop.example/sistab/impl.natTens"], fn := fun _ => fun
  | [d1, d2, g1] => { results := [.lit (.bool true)], args := [d1, d2], vars := [g1] }
  | _ => none }
def fnNumTextRow : OpenClaim := { program := "ytijgolgfcgkbiaadoor", sum := "13fa5e96a2bb6e2b73bcce92caa4c819bb516aeb42d19a69976e0e32e8cb6428", func := "loop.example/sistab/laws.FnNumText", spec := "fnNumText", inPlace := ["internal/bytealg.IndexByteString", "internal/bytealg.IndexString"], recurses := true, named := ["internal/bytealg.MaxLen", "loop.example/sistab/impl.natTens"], apart := false, laid := [("loop.example/sistab/impl.natTens", laid_loop_example_sistab_impl_natTens)] }
def FnNumTextSaid : Prop := fnNumTextRow.holds Tryd.pinned (OpenSpec.ofChange fnNumTextSpec)

/-- ITS FALSE NEIGHBOUR: 'it returns false'. Refute it at one input. -/
def fnNumTextWrong : ChangeSpec := { name := "fnNumText", vars := ["loop.example/sistab/impl.natTens"], fn := fun _ => fun
  | [d1, d2, g1] => { results := [.lit (.bool false)], args := [d1, d2], vars := [g1] }
  | _ => none }
def FnNumTextWrongFalsely : Prop := fnNumTextRow.holds Tryd.pinned (OpenSpec.ofChange fnNumTextWrong)

/-- 'laws.FnNumTop': WHATEVER THE INPUT: true; the input reads as it did. -/
def fnNumTopSpec : ChangeSpec := { name := "fnNumTop", vars := ["loop.example/sistab/impl.natTens"], fn := fun _ => fun
  | [d1, d2, g1] => { results := [.lit (.bool true)], args := [d1, d2], vars := [g1] }
  | _ => none }
def fnNumTopRow : OpenClaim := { program := "ytijgolgfcgkbiaadoor", sum := "13fa5e96a2bb6e2b73bcce92caa4c819bb516aeb42d19a69976e0e32e8cb6428", func := "loop.example/sistab/laws.FnNumTop", spec := "fnNumTop", unfollowed := true, recurses := true, named := ["loop.example/sistab/impl.natTens"], apart := false, laid := [("loop.example/sistab/impl.natTens", laid_loop_example_sistab_impl_natTens)] }
def FnNumTopSaid : Prop := fnNumTopRow.holds Tryd.pinned (OpenSpec.ofChange fnNumTopSpec)

/-- ITS FALSE NEIGHBOUR: 'it returns false'. Refute it at one input. -/
def fnNumTopWrong : ChangeSpec := { name := "fnNumTop", vars := ["loop.example/sistab/impl.natTens"], fn := fun _ => fun
  | [d1, d2, g1] => { results := [.lit (.bool false)], args := [d1, d2], vars := [g1] }
  | _ => none }
def FnNumTopWrongFalsely : Prop := fnNumTopRow.holds Tryd.pinned (OpenSpec.ofChange fnNumTopWrong)

/- THE SECOND FORM. 'bulk': how many values and letters a reading holds, each counted each time it is reached (what is shared counts as often as it is met; a slice's spare places count too). A statement '..UptoSaid' is the law's where the arguments, and the package variables that the reading takes, are together of bulk at most 1048576: NARROWER than '..Said'. Prove '..Said' where nothing that the law and all that it calls make is longer than what came in: it says more and counts as full. Else prove '..UptoSaid'. A law counts once. -/
mutual
def uptoBulk {H : Type} : DataW H → Nat
  | .lit (.string bytes) => bytes.length + 1
  | .lit _ => 1
  | .nil => 1
  | .ptr d => uptoBulk d + 1
  | .slice elems spare => uptoBulkAll elems + uptoBulkAll spare + 1
  | .agg parts => uptoBulkAll parts + 1
  | .iface _ d => uptoBulk d + 1
  | .map entries => uptoBulkEntries entries + 1
  | .held _ => 1
def uptoBulkAll {H : Type} : List (DataW H) → Nat
  | [] => 0
  | d :: r => uptoBulk d + uptoBulkAll r
def uptoBulkEntries {H : Type} : List (Lit × DataW H) → Nat
  | [] => 0
  | x :: r => uptoBulkEntry x + uptoBulkEntries r
def uptoBulkEntry {H : Type} : Lit × DataW H → Nat
  | (.string bytes, d) => bytes.length + uptoBulk d + 1
  | (_, d) => uptoBulk d + 1
 end
def uptoSmall : (H : Type) → List (DataW H) → Bool := fun _ ds => decide (uptoBulkAll ds ≤ 1048576)
def OpenSpec.upto (s : _root_.Go.ChangeSpec) : _root_.Go.OpenSpec := { _root_.Go.OpenSpec.ofChange s with cond := some uptoSmall }

/-- 'laws.FnNumText', WHERE WHAT IT READS IS OF BULK AT MOST 1048576: true; the input reads as it did. -/
def fnNumTextUptoRow : OpenClaim := { program := "ytijgolgfcgkbiaadoor", sum := "13fa5e96a2bb6e2b73bcce92caa4c819bb516aeb42d19a69976e0e32e8cb6428", func := "loop.example/sistab/laws.FnNumText", spec := "fnNumText", inPlace := ["internal/bytealg.IndexByteString", "internal/bytealg.IndexString"], recurses := true, named := ["internal/bytealg.MaxLen", "loop.example/sistab/impl.natTens"], apart := false, laid := [("loop.example/sistab/impl.natTens", laid_loop_example_sistab_impl_natTens)], narrowed := true }
def FnNumTextUptoSaid : Prop := fnNumTextUptoRow.holds Tryd.pinned (OpenSpec.upto fnNumTextSpec)

/-- 'laws.FnNumTop', WHERE WHAT IT READS IS OF BULK AT MOST 1048576: true; the input reads as it did. -/
def fnNumTopUptoRow : OpenClaim := { program := "ytijgolgfcgkbiaadoor", sum := "13fa5e96a2bb6e2b73bcce92caa4c819bb516aeb42d19a69976e0e32e8cb6428", func := "loop.example/sistab/laws.FnNumTop", spec := "fnNumTop", unfollowed := true, recurses := true, named := ["loop.example/sistab/impl.natTens"], apart := false, laid := [("loop.example/sistab/impl.natTens", laid_loop_example_sistab_impl_natTens)], narrowed := true }
def FnNumTopUptoSaid : Prop := fnNumTopUptoRow.holds Tryd.pinned (OpenSpec.upto fnNumTopSpec)

end Rows
end Go.Proofs.YtijgolgfcgkbiaaDoor
