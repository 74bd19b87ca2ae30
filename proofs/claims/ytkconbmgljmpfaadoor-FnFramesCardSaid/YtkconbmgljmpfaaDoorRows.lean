/-
  NARROWER THAN 'FOR EVERY INPUT', by the rows' own cells (each row's printed sentence says how): FnPieces: ifaces, laid · FnFrames: ifaces, laid · FnExactTakeFrame: ifaces, laid · FnExactTakeNext: ifaces, laid · FnExactAllFrames: ifaces, laid.
  DERIVED. THE GIVEN ROWS OF THIS SEAT. 5 by the template 'for every input the law returns true; each argument reads behind the call as it read before'; 0 by the template 'total and deterministic' (their statements: YtkconbmgljmpfaaDoorTotals.lean).
  GIVEN WITH THE SEED: the statements are not yours to turn. If you find one false, say at which input.
  Laid BY PROGRAM, IN A SANDBOX (cutbox-rows.mjs): the forced cells as the released guide's own fill.sh prints them over the translation b5afcc1668f6b908… (all of the seat's roots in one cut). By AI agents, Wed Nov 11 2026. No macro, syntax, notation, axiom, sorry.
-/
import Derived.Test.YtkconbmgljmpfaaDoorChecked
import GoSem.Claim
import GoSem.ClaimJoined
import GoSem.ClaimMapViews
import Derived.JoinedTies
import Derived.KernelRfl
namespace Go.Proofs.YtkconbmgljmpfaaDoor
/- THE CELL 'sum', in the pinned program and in every row, IS THE sha256 OF THE DUMP (.gsa) THAT YtkconbmgljmpfaaDoorProg.lean LOADS. Nothing in Lean hashes anything: it is a label: what it is worth is what the hold of that sum in a sandbox is worth. -/
noncomputable def Tryd.pinned : Pinned := { name := "ytkconbmgljmpfaadoor", sum := "b5afcc1668f6b908c6c98d59c44fe1b026afc9e45e3ea9764b965df8f32da703", checked := Tryd.checked }
namespace Rows
def none {H : Type} : Left H := { results := [], args := [] }

/- WHAT THE LISTED PACKAGE-LEVEL VARIABLES READ AS WHEN THE CALL BEGINS. Each datum BY PROGRAM (the guide's laid-datum.mjs) off the statement by which the dump's own 'gosem.cut.vars' lays the variable. In a bare row this is a premise. The card (YtkconbmgljmpfaaDoorCards.lean) ties it to the program's text. -/
def laid_loop_example_g00728_impl_errShort {H : Type} : DataW H := .iface "*errors.errorString" (.ptr (.agg [.lit (.string [116, 104, 101, 32, 98, 121, 116, 101, 115, 32, 101, 110, 100, 32, 105, 110, 115, 105, 100, 101, 32, 97, 32, 102, 114, 97, 109, 101])]))
def laid_loop_example_g00728_impl_errBent {H : Type} : DataW H := .iface "*errors.errorString" (.ptr (.agg [.lit (.string [110, 111, 32, 102, 114, 97, 109, 101, 32, 98, 101, 103, 105, 110, 115, 32, 119, 105, 116, 104, 32, 116, 104, 101, 115, 101, 32, 98, 121, 116, 101, 115])]))

/-- 'laws.FnPieces': WHATEVER THE INPUT: true; the input reads as it did. -/
def fnPiecesSpec : ChangeSpec := { name := "fnPieces", vars := ["loop.example/g00728/impl.errBent", "loop.example/g00728/impl.errShort"], fn := fun _ => fun
  | [d, g1, g2] => { results := [.lit (.bool true)], args := [d], vars := [g1, g2] }
  | _ => none }
def fnPiecesRow : OpenClaim := { program := "ytkconbmgljmpfaadoor", sum := "b5afcc1668f6b908c6c98d59c44fe1b026afc9e45e3ea9764b965df8f32da703", func := "loop.example/g00728/laws.FnPieces", spec := "fnPieces", inPlace := ["internal/reflectlite.TypeOf"], unfollowed := true, recurses := true, named := ["loop.example/g00728/impl.errBent", "loop.example/g00728/impl.errShort"], ifaces := true, apart := false, laid := [("loop.example/g00728/impl.errShort", laid_loop_example_g00728_impl_errShort), ("loop.example/g00728/impl.errBent", laid_loop_example_g00728_impl_errBent)] }
def FnPiecesSaid : Prop := fnPiecesRow.holds Tryd.pinned (OpenSpec.ofChange fnPiecesSpec)

/-- ITS FALSE NEIGHBOUR: 'it returns false'. Refute it at one input. -/
def fnPiecesWrong : ChangeSpec := { name := "fnPieces", vars := ["loop.example/g00728/impl.errBent", "loop.example/g00728/impl.errShort"], fn := fun _ => fun
  | [d, g1, g2] => { results := [.lit (.bool false)], args := [d], vars := [g1, g2] }
  | _ => none }
def FnPiecesWrongFalsely : Prop := fnPiecesRow.holds Tryd.pinned (OpenSpec.ofChange fnPiecesWrong)

/-- 'laws.FnFrames': WHATEVER THE INPUT: true; the input reads as it did. -/
def fnFramesSpec : ChangeSpec := { name := "fnFrames", vars := ["loop.example/g00728/impl.errShort", "loop.example/g00728/impl.errBent"], fn := fun _ => fun
  | [d, g1, g2] => { results := [.lit (.bool true)], args := [d], vars := [g1, g2] }
  | _ => none }
def fnFramesRow : OpenClaim := { program := "ytkconbmgljmpfaadoor", sum := "b5afcc1668f6b908c6c98d59c44fe1b026afc9e45e3ea9764b965df8f32da703", func := "loop.example/g00728/laws.FnFrames", spec := "fnFrames", inPlace := ["internal/reflectlite.TypeOf"], unfollowed := true, recurses := true, named := ["loop.example/g00728/impl.errShort", "loop.example/g00728/impl.errBent"], ifaces := true, apart := false, laid := [("loop.example/g00728/impl.errShort", laid_loop_example_g00728_impl_errShort), ("loop.example/g00728/impl.errBent", laid_loop_example_g00728_impl_errBent)] }
def FnFramesSaid : Prop := fnFramesRow.holds Tryd.pinned (OpenSpec.ofChange fnFramesSpec)

/-- ITS FALSE NEIGHBOUR: 'it returns false'. Refute it at one input. -/
def fnFramesWrong : ChangeSpec := { name := "fnFrames", vars := ["loop.example/g00728/impl.errShort", "loop.example/g00728/impl.errBent"], fn := fun _ => fun
  | [d, g1, g2] => { results := [.lit (.bool false)], args := [d], vars := [g1, g2] }
  | _ => none }
def FnFramesWrongFalsely : Prop := fnFramesRow.holds Tryd.pinned (OpenSpec.ofChange fnFramesWrong)

/-- 'laws.FnExactTakeFrame': WHATEVER THE INPUT: true; the input reads as it did. -/
def fnExactTakeFrameSpec : ChangeSpec := { name := "fnExactTakeFrame", vars := ["loop.example/g00728/impl.errShort", "loop.example/g00728/impl.errBent"], fn := fun _ => fun
  | [d, g1, g2] => { results := [.lit (.bool true)], args := [d], vars := [g1, g2] }
  | _ => none }
def fnExactTakeFrameRow : OpenClaim := { program := "ytkconbmgljmpfaadoor", sum := "b5afcc1668f6b908c6c98d59c44fe1b026afc9e45e3ea9764b965df8f32da703", func := "loop.example/g00728/laws.FnExactTakeFrame", spec := "fnExactTakeFrame", inPlace := ["internal/reflectlite.TypeOf"], unfollowed := true, recurses := true, named := ["loop.example/g00728/impl.errShort", "loop.example/g00728/impl.errBent"], ifaces := true, apart := false, laid := [("loop.example/g00728/impl.errShort", laid_loop_example_g00728_impl_errShort), ("loop.example/g00728/impl.errBent", laid_loop_example_g00728_impl_errBent)] }
def FnExactTakeFrameSaid : Prop := fnExactTakeFrameRow.holds Tryd.pinned (OpenSpec.ofChange fnExactTakeFrameSpec)

/-- ITS FALSE NEIGHBOUR: 'it returns false'. Refute it at one input. -/
def fnExactTakeFrameWrong : ChangeSpec := { name := "fnExactTakeFrame", vars := ["loop.example/g00728/impl.errShort", "loop.example/g00728/impl.errBent"], fn := fun _ => fun
  | [d, g1, g2] => { results := [.lit (.bool false)], args := [d], vars := [g1, g2] }
  | _ => none }
def FnExactTakeFrameWrongFalsely : Prop := fnExactTakeFrameRow.holds Tryd.pinned (OpenSpec.ofChange fnExactTakeFrameWrong)

/-- 'laws.FnExactTakeNext': WHATEVER THE INPUT: true; the input reads as it did. -/
def fnExactTakeNextSpec : ChangeSpec := { name := "fnExactTakeNext", vars := ["loop.example/g00728/impl.errShort", "loop.example/g00728/impl.errBent"], fn := fun _ => fun
  | [d, g1, g2] => { results := [.lit (.bool true)], args := [d], vars := [g1, g2] }
  | _ => none }
def fnExactTakeNextRow : OpenClaim := { program := "ytkconbmgljmpfaadoor", sum := "b5afcc1668f6b908c6c98d59c44fe1b026afc9e45e3ea9764b965df8f32da703", func := "loop.example/g00728/laws.FnExactTakeNext", spec := "fnExactTakeNext", inPlace := ["internal/reflectlite.TypeOf"], unfollowed := true, recurses := true, named := ["loop.example/g00728/impl.errShort", "loop.example/g00728/impl.errBent"], ifaces := true, apart := false, laid := [("loop.example/g00728/impl.errShort", laid_loop_example_g00728_impl_errShort), ("loop.example/g00728/impl.errBent", laid_loop_example_g00728_impl_errBent)] }
def FnExactTakeNextSaid : Prop := fnExactTakeNextRow.holds Tryd.pinned (OpenSpec.ofChange fnExactTakeNextSpec)

/-- ITS FALSE NEIGHBOUR: 'it returns false'. Refute it at one input. -/
def fnExactTakeNextWrong : ChangeSpec := { name := "fnExactTakeNext", vars := ["loop.example/g00728/impl.errShort", "loop.example/g00728/impl.errBent"], fn := fun _ => fun
  | [d, g1, g2] => { results := [.lit (.bool false)], args := [d], vars := [g1, g2] }
  | _ => none }
def FnExactTakeNextWrongFalsely : Prop := fnExactTakeNextRow.holds Tryd.pinned (OpenSpec.ofChange fnExactTakeNextWrong)

/-- 'laws.FnExactAllFrames': WHATEVER THE INPUT: true; the input reads as it did. -/
def fnExactAllFramesSpec : ChangeSpec := { name := "fnExactAllFrames", vars := ["loop.example/g00728/impl.errBent", "loop.example/g00728/impl.errShort"], fn := fun _ => fun
  | [d, g1, g2] => { results := [.lit (.bool true)], args := [d], vars := [g1, g2] }
  | _ => none }
def fnExactAllFramesRow : OpenClaim := { program := "ytkconbmgljmpfaadoor", sum := "b5afcc1668f6b908c6c98d59c44fe1b026afc9e45e3ea9764b965df8f32da703", func := "loop.example/g00728/laws.FnExactAllFrames", spec := "fnExactAllFrames", inPlace := ["internal/reflectlite.TypeOf"], unfollowed := true, recurses := true, named := ["loop.example/g00728/impl.errBent", "loop.example/g00728/impl.errShort"], ifaces := true, apart := false, laid := [("loop.example/g00728/impl.errShort", laid_loop_example_g00728_impl_errShort), ("loop.example/g00728/impl.errBent", laid_loop_example_g00728_impl_errBent)] }
def FnExactAllFramesSaid : Prop := fnExactAllFramesRow.holds Tryd.pinned (OpenSpec.ofChange fnExactAllFramesSpec)

/-- ITS FALSE NEIGHBOUR: 'it returns false'. Refute it at one input. -/
def fnExactAllFramesWrong : ChangeSpec := { name := "fnExactAllFrames", vars := ["loop.example/g00728/impl.errBent", "loop.example/g00728/impl.errShort"], fn := fun _ => fun
  | [d, g1, g2] => { results := [.lit (.bool false)], args := [d], vars := [g1, g2] }
  | _ => none }
def FnExactAllFramesWrongFalsely : Prop := fnExactAllFramesRow.holds Tryd.pinned (OpenSpec.ofChange fnExactAllFramesWrong)

/- THE SECOND FORM. 'bulk': how many values and letters a reading holds, each counted each time it is reached (what is shared counts as often as it is met; a slice's spare places count too). A statement '..UptoSaid' is the law's where the arguments, and the package variables that the reading takes, are together of bulk at most 1048576: NARROWER than '..Said'. Prove '..Said' where nothing that the law and all that it calls make is longer than what came in: it says more and counts as full. Else prove '..UptoSaid'. A law counts once. -/
mutual
def uptoBulk {H : Type} : DataW H → Nat
  | .lit (.string bytes) => bytes.length + 1
  | .lit _ => 1
  | .nil => 1
  | .ptr d => uptoBulk d + 1
  | .slice elems spare => uptoBulkAll elems + uptoBulkAll spare + 1
  | .agg parts => uptoBulkAll parts + 1
  | .iface _ d => uptoBulk d + 1
  | .map entries => uptoBulkEntries entries + 1
  | .held _ => 1
def uptoBulkAll {H : Type} : List (DataW H) → Nat
  | [] => 0
  | d :: r => uptoBulk d + uptoBulkAll r
def uptoBulkEntries {H : Type} : List (Lit × DataW H) → Nat
  | [] => 0
  | x :: r => uptoBulkEntry x + uptoBulkEntries r
def uptoBulkEntry {H : Type} : Lit × DataW H → Nat
  | (.string bytes, d) => bytes.length + uptoBulk d + 1
  | (_, d) => uptoBulk d + 1
 end
def uptoSmall : (H : Type) → List (DataW H) → Bool := fun _ ds => decide (uptoBulkAll ds ≤ 1048576)
def OpenSpec.upto (s : _root_.Go.ChangeSpec) : _root_.Go.OpenSpec := { _root_.Go.OpenSpec.ofChange s with cond := some uptoSmall }

/-- 'laws.FnPieces', WHERE WHAT IT READS IS OF BULK AT MOST 1048576: true; the input reads as it did. -/
def fnPiecesUptoRow : OpenClaim := { program := "ytkconbmgljmpfaadoor", sum := "b5afcc1668f6b908c6c98d59c44fe1b026afc9e45e3ea9764b965df8f32da703", func := "loop.example/g00728/laws.FnPieces", spec := "fnPieces", inPlace := ["internal/reflectlite.TypeOf"], unfollowed := true, recurses := true, named := ["loop.example/g00728/impl.errBent", "loop.example/g00728/impl.errShort"], ifaces := true, apart := false, laid := [("loop.example/g00728/impl.errShort", laid_loop_example_g00728_impl_errShort), ("loop.example/g00728/impl.errBent", laid_loop_example_g00728_impl_errBent)], narrowed := true }
def FnPiecesUptoSaid : Prop := fnPiecesUptoRow.holds Tryd.pinned (OpenSpec.upto fnPiecesSpec)

/-- 'laws.FnFrames', WHERE WHAT IT READS IS OF BULK AT MOST 1048576: true; the input reads as it did. -/
def fnFramesUptoRow : OpenClaim := { program := "ytkconbmgljmpfaadoor", sum := "b5afcc1668f6b908c6c98d59c44fe1b026afc9e45e3ea9764b965df8f32da703", func := "loop.example/g00728/laws.FnFrames", spec := "fnFrames", inPlace := ["internal/reflectlite.TypeOf"], unfollowed := true, recurses := true, named := ["loop.example/g00728/impl.errShort", "loop.example/g00728/impl.errBent"], ifaces := true, apart := false, laid := [("loop.example/g00728/impl.errShort", laid_loop_example_g00728_impl_errShort), ("loop.example/g00728/impl.errBent", laid_loop_example_g00728_impl_errBent)], narrowed := true }
def FnFramesUptoSaid : Prop := fnFramesUptoRow.holds Tryd.pinned (OpenSpec.upto fnFramesSpec)

/-- 'laws.FnExactTakeFrame', WHERE WHAT IT READS IS OF BULK AT MOST 1048576: true; the input reads as it did. -/
def fnExactTakeFrameUptoRow : OpenClaim := { program := "ytkconbmgljmpfaadoor", sum := "b5afcc1668f6b908c6c98d59c44fe1b026afc9e45e3ea9764b965df8f32da703", func := "loop.example/g00728/laws.FnExactTakeFrame", spec := "fnExactTakeFrame", inPlace := ["internal/reflectlite.TypeOf"], unfollowed := true, recurses := true, named := ["loop.example/g00728/impl.errShort", "loop.example/g00728/impl.errBent"], ifaces := true, apart := false, laid := [("loop.example/g00728/impl.errShort", laid_loop_example_g00728_impl_errShort), ("loop.example/g00728/impl.errBent", laid_loop_example_g00728_impl_errBent)], narrowed := true }
def FnExactTakeFrameUptoSaid : Prop := fnExactTakeFrameUptoRow.holds Tryd.pinned (OpenSpec.upto fnExactTakeFrameSpec)

/-- 'laws.FnExactTakeNext', WHERE WHAT IT READS IS OF BULK AT MOST 1048576: true; the input reads as it did. -/
def fnExactTakeNextUptoRow : OpenClaim := { program := "ytkconbmgljmpfaadoor", sum := "b5afcc1668f6b908c6c98d59c44fe1b026afc9e45e3ea9764b965df8f32da703", func := "loop.example/g00728/laws.FnExactTakeNext", spec := "fnExactTakeNext", inPlace := ["internal/reflectlite.TypeOf"], unfollowed := true, recurses := true, named := ["loop.example/g00728/impl.errShort", "loop.example/g00728/impl.errBent"], ifaces := true, apart := false, laid := [("loop.example/g00728/impl.errShort", laid_loop_example_g00728_impl_errShort), ("loop.example/g00728/impl.errBent", laid_loop_example_g00728_impl_errBent)], narrowed := true }
def FnExactTakeNextUptoSaid : Prop := fnExactTakeNextUptoRow.holds Tryd.pinned (OpenSpec.upto fnExactTakeNextSpec)

/-- 'laws.FnExactAllFrames', WHERE WHAT IT READS IS OF BULK AT MOST 1048576: true; the input reads as it did. -/
def fnExactAllFramesUptoRow : OpenClaim := { program := "ytkconbmgljmpfaadoor", sum := "b5afcc1668f6b908c6c98d59c44fe1b026afc9e45e3ea9764b965df8f32da703", func := "loop.example/g00728/laws.FnExactAllFrames", spec := "fnExactAllFrames", inPlace := ["internal/reflectlite.TypeOf"], unfollowed := true, recurses := true, named := ["loop.example/g00728/impl.errBent", "loop.example/g00728/impl.errShort"], ifaces := true, apart := false, laid := [("loop.example/g00728/impl.errShort", laid_loop_example_g00728_impl_errShort), ("loop.example/g00728/impl.errBent", laid_loop_example_g00728_impl_errBent)], narrowed := true }
def FnExactAllFramesUptoSaid : Prop := fnExactAllFramesUptoRow.holds Tryd.pinned (OpenSpec.upto fnExactAllFramesSpec)

end Rows
end Go.Proofs.YtkconbmgljmpfaaDoor
