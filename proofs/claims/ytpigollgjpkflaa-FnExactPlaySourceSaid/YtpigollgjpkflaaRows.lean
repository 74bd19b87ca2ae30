/-
  No cell of these rows narrows 'for every input' (looked for: loops, veiled, ifaces, maps, wideKeys, modest, calm, conditions, laid).
  DERIVED. THE GIVEN ROWS OF THIS SEAT. 10 by the template 'for every input the law returns true; each argument reads behind the call as it read before'; 0 by the template 'total and deterministic' (their statements: YtpigollgjpkflaaTotals.lean).
  GIVEN WITH THE SEED: the statements are not yours to turn. If you find one false, say at which input.
  Laid BY PROGRAM, IN A SANDBOX (cutbox-rows.mjs): the forced cells as the released guide's own fill.sh prints them over the translation 3159c9fcb90e7b16… (all of the seat's roots in one cut). By AI agents, Wed Nov 11 2026. No macro, syntax, notation, axiom, sorry.
-/
import Derived.Test.YtpigollgjpkflaaChecked
import GoSem.Claim
import GoSem.ClaimJoined
import GoSem.ClaimMapViews
import Derived.JoinedTies
import Derived.KernelRfl
namespace Go.Proofs.Ytpigollgjpkflaa
/- THE CELL 'sum', in the pinned program and in every row, IS THE sha256 OF THE DUMP (.gsa) THAT YtpigollgjpkflaaProg.lean LOADS. Nothing in Lean hashes anything: it is a label: what it is worth is what the hold of that sum in a sandbox is worth. -/
noncomputable def Try.pinned : Pinned := { name := "ytpigollgjpkflaa", sum := "3159c9fcb90e7b16589252f3c6731f8a7b15212216e96e34556b63e1a9503841", checked := Try.checked }
namespace Rows
def none {H : Type} : Left H := { results := [], args := [] }

/-- 'laws.FnMarks': WHATEVER THE INPUT: true; the input reads as it did. -/
def fnMarksSpec : ChangeSpec := { name := "fnMarks", fn := fun _ => fun
  | [d] => { results := [.lit (.bool true)], args := [d] }
  | _ => none }
def fnMarksRow : OpenClaim := { program := "ytpigollgjpkflaa", sum := "3159c9fcb90e7b16589252f3c6731f8a7b15212216e96e34556b63e1a9503841", func := "loop.example/g00728/laws.FnMarks", spec := "fnMarks", inPlace := ["math.Float64frombits", "math.Float64bits"], unfollowed := true, recurses := true, apart := false }
def FnMarksSaid : Prop := fnMarksRow.holds Try.pinned (OpenSpec.ofChange fnMarksSpec)

/-- ITS FALSE NEIGHBOUR: 'it returns false'. Refute it at one input. -/
def fnMarksWrong : ChangeSpec := { name := "fnMarks", fn := fun _ => fun
  | [d] => { results := [.lit (.bool false)], args := [d] }
  | _ => none }
def FnMarksWrongFalsely : Prop := fnMarksRow.holds Try.pinned (OpenSpec.ofChange fnMarksWrong)

/-- 'laws.FnExactSourceOk': WHATEVER THE INPUT: true; the input reads as it did. -/
def fnExactSourceOkSpec : ChangeSpec := { name := "fnExactSourceOk", fn := fun _ => fun
  | [d] => { results := [.lit (.bool true)], args := [d] }
  | _ => none }
def fnExactSourceOkRow : OpenClaim := { program := "ytpigollgjpkflaa", sum := "3159c9fcb90e7b16589252f3c6731f8a7b15212216e96e34556b63e1a9503841", func := "loop.example/g00728/laws.FnExactSourceOk", spec := "fnExactSourceOk", apart := false }
def FnExactSourceOkSaid : Prop := fnExactSourceOkRow.holds Try.pinned (OpenSpec.ofChange fnExactSourceOkSpec)

/-- ITS FALSE NEIGHBOUR: 'it returns false'. Refute it at one input. -/
def fnExactSourceOkWrong : ChangeSpec := { name := "fnExactSourceOk", fn := fun _ => fun
  | [d] => { results := [.lit (.bool false)], args := [d] }
  | _ => none }
def FnExactSourceOkWrongFalsely : Prop := fnExactSourceOkRow.holds Try.pinned (OpenSpec.ofChange fnExactSourceOkWrong)

/-- 'laws.FnExactNewSource': WHATEVER THE INPUT: true; the input reads as it did. -/
def fnExactNewSourceSpec : ChangeSpec := { name := "fnExactNewSource", fn := fun _ => fun
  | [d] => { results := [.lit (.bool true)], args := [d] }
  | _ => none }
def fnExactNewSourceRow : OpenClaim := { program := "ytpigollgjpkflaa", sum := "3159c9fcb90e7b16589252f3c6731f8a7b15212216e96e34556b63e1a9503841", func := "loop.example/g00728/laws.FnExactNewSource", spec := "fnExactNewSource", apart := false }
def FnExactNewSourceSaid : Prop := fnExactNewSourceRow.holds Try.pinned (OpenSpec.ofChange fnExactNewSourceSpec)

/-- ITS FALSE NEIGHBOUR: 'it returns false'. Refute it at one input. -/
def fnExactNewSourceWrong : ChangeSpec := { name := "fnExactNewSource", fn := fun _ => fun
  | [d] => { results := [.lit (.bool false)], args := [d] }
  | _ => none }
def FnExactNewSourceWrongFalsely : Prop := fnExactNewSourceRow.holds Try.pinned (OpenSpec.ofChange fnExactNewSourceWrong)

/-- 'laws.FnExactSeeEvent': WHATEVER THE INPUT: true; the input reads as it did. -/
def fnExactSeeEventSpec : ChangeSpec := { name := "fnExactSeeEvent", fn := fun _ => fun
  | [d1, d2, d3, d4] => { results := [.lit (.bool true)], args := [d1, d2, d3, d4] }
  | _ => none }
def fnExactSeeEventRow : OpenClaim := { program := "ytpigollgjpkflaa", sum := "3159c9fcb90e7b16589252f3c6731f8a7b15212216e96e34556b63e1a9503841", func := "loop.example/g00728/laws.FnExactSeeEvent", spec := "fnExactSeeEvent", apart := false }
def FnExactSeeEventSaid : Prop := fnExactSeeEventRow.holds Try.pinned (OpenSpec.ofChange fnExactSeeEventSpec)

/-- ITS FALSE NEIGHBOUR: 'it returns false'. Refute it at one input. -/
def fnExactSeeEventWrong : ChangeSpec := { name := "fnExactSeeEvent", fn := fun _ => fun
  | [d1, d2, d3, d4] => { results := [.lit (.bool false)], args := [d1, d2, d3, d4] }
  | _ => none }
def FnExactSeeEventWrongFalsely : Prop := fnExactSeeEventRow.holds Try.pinned (OpenSpec.ofChange fnExactSeeEventWrong)

/-- 'laws.FnExactSeeMark': WHATEVER THE INPUT: true; the input reads as it did. -/
def fnExactSeeMarkSpec : ChangeSpec := { name := "fnExactSeeMark", fn := fun _ => fun
  | [d1, d2, d3] => { results := [.lit (.bool true)], args := [d1, d2, d3] }
  | _ => none }
def fnExactSeeMarkRow : OpenClaim := { program := "ytpigollgjpkflaa", sum := "3159c9fcb90e7b16589252f3c6731f8a7b15212216e96e34556b63e1a9503841", func := "loop.example/g00728/laws.FnExactSeeMark", spec := "fnExactSeeMark", apart := false }
def FnExactSeeMarkSaid : Prop := fnExactSeeMarkRow.holds Try.pinned (OpenSpec.ofChange fnExactSeeMarkSpec)

/-- ITS FALSE NEIGHBOUR: 'it returns false'. Refute it at one input. -/
def fnExactSeeMarkWrong : ChangeSpec := { name := "fnExactSeeMark", fn := fun _ => fun
  | [d1, d2, d3] => { results := [.lit (.bool false)], args := [d1, d2, d3] }
  | _ => none }
def FnExactSeeMarkWrongFalsely : Prop := fnExactSeeMarkRow.holds Try.pinned (OpenSpec.ofChange fnExactSeeMarkWrong)

/-- 'laws.FnExactSeeTick': WHATEVER THE INPUT: true; the input reads as it did. -/
def fnExactSeeTickSpec : ChangeSpec := { name := "fnExactSeeTick", fn := fun _ => fun
  | [d1, d2, d3] => { results := [.lit (.bool true)], args := [d1, d2, d3] }
  | _ => none }
def fnExactSeeTickRow : OpenClaim := { program := "ytpigollgjpkflaa", sum := "3159c9fcb90e7b16589252f3c6731f8a7b15212216e96e34556b63e1a9503841", func := "loop.example/g00728/laws.FnExactSeeTick", spec := "fnExactSeeTick", apart := false }
def FnExactSeeTickSaid : Prop := fnExactSeeTickRow.holds Try.pinned (OpenSpec.ofChange fnExactSeeTickSpec)

/-- ITS FALSE NEIGHBOUR: 'it returns false'. Refute it at one input. -/
def fnExactSeeTickWrong : ChangeSpec := { name := "fnExactSeeTick", fn := fun _ => fun
  | [d1, d2, d3] => { results := [.lit (.bool false)], args := [d1, d2, d3] }
  | _ => none }
def FnExactSeeTickWrongFalsely : Prop := fnExactSeeTickRow.holds Try.pinned (OpenSpec.ofChange fnExactSeeTickWrong)

/-- 'laws.FnExactCloseSource': WHATEVER THE INPUT: true; the input reads as it did. -/
def fnExactCloseSourceSpec : ChangeSpec := { name := "fnExactCloseSource", fn := fun _ => fun
  | [d] => { results := [.lit (.bool true)], args := [d] }
  | _ => none }
def fnExactCloseSourceRow : OpenClaim := { program := "ytpigollgjpkflaa", sum := "3159c9fcb90e7b16589252f3c6731f8a7b15212216e96e34556b63e1a9503841", func := "loop.example/g00728/laws.FnExactCloseSource", spec := "fnExactCloseSource", apart := false }
def FnExactCloseSourceSaid : Prop := fnExactCloseSourceRow.holds Try.pinned (OpenSpec.ofChange fnExactCloseSourceSpec)

/-- ITS FALSE NEIGHBOUR: 'it returns false'. Refute it at one input. -/
def fnExactCloseSourceWrong : ChangeSpec := { name := "fnExactCloseSource", fn := fun _ => fun
  | [d] => { results := [.lit (.bool false)], args := [d] }
  | _ => none }
def FnExactCloseSourceWrongFalsely : Prop := fnExactCloseSourceRow.holds Try.pinned (OpenSpec.ofChange fnExactCloseSourceWrong)

/-- 'laws.FnExactAllMarks': WHATEVER THE INPUT: true; the input reads as it did. -/
def fnExactAllMarksSpec : ChangeSpec := { name := "fnExactAllMarks", fn := fun _ => fun
  | [d1, d2] => { results := [.lit (.bool true)], args := [d1, d2] }
  | _ => none }
def fnExactAllMarksRow : OpenClaim := { program := "ytpigollgjpkflaa", sum := "3159c9fcb90e7b16589252f3c6731f8a7b15212216e96e34556b63e1a9503841", func := "loop.example/g00728/laws.FnExactAllMarks", spec := "fnExactAllMarks", inPlace := ["math.Float64frombits", "math.Float64bits"], unfollowed := true, recurses := true, apart := false }
def FnExactAllMarksSaid : Prop := fnExactAllMarksRow.holds Try.pinned (OpenSpec.ofChange fnExactAllMarksSpec)

/-- ITS FALSE NEIGHBOUR: 'it returns false'. Refute it at one input. -/
def fnExactAllMarksWrong : ChangeSpec := { name := "fnExactAllMarks", fn := fun _ => fun
  | [d1, d2] => { results := [.lit (.bool false)], args := [d1, d2] }
  | _ => none }
def FnExactAllMarksWrongFalsely : Prop := fnExactAllMarksRow.holds Try.pinned (OpenSpec.ofChange fnExactAllMarksWrong)

/-- 'laws.FnExactPlaySource': WHATEVER THE INPUT: true; the input reads as it did. -/
def fnExactPlaySourceSpec : ChangeSpec := { name := "fnExactPlaySource", fn := fun _ => fun
  | [d1, d2, d3] => { results := [.lit (.bool true)], args := [d1, d2, d3] }
  | _ => none }
def fnExactPlaySourceRow : OpenClaim := { program := "ytpigollgjpkflaa", sum := "3159c9fcb90e7b16589252f3c6731f8a7b15212216e96e34556b63e1a9503841", func := "loop.example/g00728/laws.FnExactPlaySource", spec := "fnExactPlaySource", apart := false }
def FnExactPlaySourceSaid : Prop := fnExactPlaySourceRow.holds Try.pinned (OpenSpec.ofChange fnExactPlaySourceSpec)

/-- ITS FALSE NEIGHBOUR: 'it returns false'. Refute it at one input. -/
def fnExactPlaySourceWrong : ChangeSpec := { name := "fnExactPlaySource", fn := fun _ => fun
  | [d1, d2, d3] => { results := [.lit (.bool false)], args := [d1, d2, d3] }
  | _ => none }
def FnExactPlaySourceWrongFalsely : Prop := fnExactPlaySourceRow.holds Try.pinned (OpenSpec.ofChange fnExactPlaySourceWrong)

/-- 'laws.FnExactIsLateFor': WHATEVER THE INPUT: true; the input reads as it did. -/
def fnExactIsLateForSpec : ChangeSpec := { name := "fnExactIsLateFor", fn := fun _ => fun
  | [d1, d2] => { results := [.lit (.bool true)], args := [d1, d2] }
  | _ => none }
def fnExactIsLateForRow : OpenClaim := { program := "ytpigollgjpkflaa", sum := "3159c9fcb90e7b16589252f3c6731f8a7b15212216e96e34556b63e1a9503841", func := "loop.example/g00728/laws.FnExactIsLateFor", spec := "fnExactIsLateFor", apart := false }
def FnExactIsLateForSaid : Prop := fnExactIsLateForRow.holds Try.pinned (OpenSpec.ofChange fnExactIsLateForSpec)

/-- ITS FALSE NEIGHBOUR: 'it returns false'. Refute it at one input. -/
def fnExactIsLateForWrong : ChangeSpec := { name := "fnExactIsLateFor", fn := fun _ => fun
  | [d1, d2] => { results := [.lit (.bool false)], args := [d1, d2] }
  | _ => none }
def FnExactIsLateForWrongFalsely : Prop := fnExactIsLateForRow.holds Try.pinned (OpenSpec.ofChange fnExactIsLateForWrong)

/- THE SECOND FORM. 'bulk': how many values and letters a reading holds, each counted each time it is reached (what is shared counts as often as it is met; a slice's spare places count too). A statement '..UptoSaid' is the law's where the arguments, and the package variables that the reading takes, are together of bulk at most 1048576: NARROWER than '..Said'. Prove '..Said' where nothing that the law and all that it calls make is longer than what came in: it says more and counts as full. Else prove '..UptoSaid'. A law counts once. -/
mutual
def uptoBulk {H : Type} : DataW H → Nat
  | .lit (.string bytes) => bytes.length + 1
  | .lit _ => 1
  | .nil => 1
  | .ptr d => uptoBulk d + 1
  | .slice elems spare => uptoBulkAll elems + uptoBulkAll spare + 1
  | .agg parts => uptoBulkAll parts + 1
  | .iface _ d => uptoBulk d + 1
  | .map entries => uptoBulkEntries entries + 1
  | .held _ => 1
def uptoBulkAll {H : Type} : List (DataW H) → Nat
  | [] => 0
  | d :: r => uptoBulk d + uptoBulkAll r
def uptoBulkEntries {H : Type} : List (Lit × DataW H) → Nat
  | [] => 0
  | x :: r => uptoBulkEntry x + uptoBulkEntries r
def uptoBulkEntry {H : Type} : Lit × DataW H → Nat
  | (.string bytes, d) => bytes.length + uptoBulk d + 1
  | (_, d) => uptoBulk d + 1
 end
def uptoSmall : (H : Type) → List (DataW H) → Bool := fun _ ds => decide (uptoBulkAll ds ≤ 1048576)
def OpenSpec.upto (s : _root_.Go.ChangeSpec) : _root_.Go.OpenSpec := { _root_.Go.OpenSpec.ofChange s with cond := some uptoSmall }

/-- 'laws.FnMarks', WHERE WHAT IT READS IS OF BULK AT MOST 1048576: true; the input reads as it did. -/
def fnMarksUptoRow : OpenClaim := { program := "ytpigollgjpkflaa", sum := "3159c9fcb90e7b16589252f3c6731f8a7b15212216e96e34556b63e1a9503841", func := "loop.example/g00728/laws.FnMarks", spec := "fnMarks", inPlace := ["math.Float64frombits", "math.Float64bits"], unfollowed := true, recurses := true, apart := false, narrowed := true }
def FnMarksUptoSaid : Prop := fnMarksUptoRow.holds Try.pinned (OpenSpec.upto fnMarksSpec)

/-- 'laws.FnExactSourceOk', WHERE WHAT IT READS IS OF BULK AT MOST 1048576: true; the input reads as it did. -/
def fnExactSourceOkUptoRow : OpenClaim := { program := "ytpigollgjpkflaa", sum := "3159c9fcb90e7b16589252f3c6731f8a7b15212216e96e34556b63e1a9503841", func := "loop.example/g00728/laws.FnExactSourceOk", spec := "fnExactSourceOk", apart := false, narrowed := true }
def FnExactSourceOkUptoSaid : Prop := fnExactSourceOkUptoRow.holds Try.pinned (OpenSpec.upto fnExactSourceOkSpec)

/-- 'laws.FnExactNewSource', WHERE WHAT IT READS IS OF BULK AT MOST 1048576: true; the input reads as it did. -/
def fnExactNewSourceUptoRow : OpenClaim := { program := "ytpigollgjpkflaa", sum := "3159c9fcb90e7b16589252f3c6731f8a7b15212216e96e34556b63e1a9503841", func := "loop.example/g00728/laws.FnExactNewSource", spec := "fnExactNewSource", apart := false, narrowed := true }
def FnExactNewSourceUptoSaid : Prop := fnExactNewSourceUptoRow.holds Try.pinned (OpenSpec.upto fnExactNewSourceSpec)

/-- 'laws.FnExactSeeEvent', WHERE WHAT IT READS IS OF BULK AT MOST 1048576: true; the input reads as it did. -/
def fnExactSeeEventUptoRow : OpenClaim := { program := "ytpigollgjpkflaa", sum := "3159c9fcb90e7b16589252f3c6731f8a7b15212216e96e34556b63e1a9503841", func := "loop.example/g00728/laws.FnExactSeeEvent", spec := "fnExactSeeEvent", apart := false, narrowed := true }
def FnExactSeeEventUptoSaid : Prop := fnExactSeeEventUptoRow.holds Try.pinned (OpenSpec.upto fnExactSeeEventSpec)

/-- 'laws.FnExactSeeMark', WHERE WHAT IT READS IS OF BULK AT MOST 1048576: true; the input reads as it did. -/
def fnExactSeeMarkUptoRow : OpenClaim := { program := "ytpigollgjpkflaa", sum := "3159c9fcb90e7b16589252f3c6731f8a7b15212216e96e34556b63e1a9503841", func := "loop.example/g00728/laws.FnExactSeeMark", spec := "fnExactSeeMark", apart := false, narrowed := true }
def FnExactSeeMarkUptoSaid : Prop := fnExactSeeMarkUptoRow.holds Try.pinned (OpenSpec.upto fnExactSeeMarkSpec)

/-- 'laws.FnExactSeeTick', WHERE WHAT IT READS IS OF BULK AT MOST 1048576: true; the input reads as it did. -/
def fnExactSeeTickUptoRow : OpenClaim := { program := "ytpigollgjpkflaa", sum := "3159c9fcb90e7b16589252f3c6731f8a7b15212216e96e34556b63e1a9503841", func := "loop.example/g00728/laws.FnExactSeeTick", spec := "fnExactSeeTick", apart := false, narrowed := true }
def FnExactSeeTickUptoSaid : Prop := fnExactSeeTickUptoRow.holds Try.pinned (OpenSpec.upto fnExactSeeTickSpec)

/-- 'laws.FnExactCloseSource', WHERE WHAT IT READS IS OF BULK AT MOST 1048576: true; the input reads as it did. -/
def fnExactCloseSourceUptoRow : OpenClaim := { program := "ytpigollgjpkflaa", sum := "3159c9fcb90e7b16589252f3c6731f8a7b15212216e96e34556b63e1a9503841", func := "loop.example/g00728/laws.FnExactCloseSource", spec := "fnExactCloseSource", apart := false, narrowed := true }
def FnExactCloseSourceUptoSaid : Prop := fnExactCloseSourceUptoRow.holds Try.pinned (OpenSpec.upto fnExactCloseSourceSpec)

/-- 'laws.FnExactAllMarks', WHERE WHAT IT READS IS OF BULK AT MOST 1048576: true; the input reads as it did. -/
def fnExactAllMarksUptoRow : OpenClaim := { program := "ytpigollgjpkflaa", sum := "3159c9fcb90e7b16589252f3c6731f8a7b15212216e96e34556b63e1a9503841", func := "loop.example/g00728/laws.FnExactAllMarks", spec := "fnExactAllMarks", inPlace := ["math.Float64frombits", "math.Float64bits"], unfollowed := true, recurses := true, apart := false, narrowed := true }
def FnExactAllMarksUptoSaid : Prop := fnExactAllMarksUptoRow.holds Try.pinned (OpenSpec.upto fnExactAllMarksSpec)

/-- 'laws.FnExactPlaySource', WHERE WHAT IT READS IS OF BULK AT MOST 1048576: true; the input reads as it did. -/
def fnExactPlaySourceUptoRow : OpenClaim := { program := "ytpigollgjpkflaa", sum := "3159c9fcb90e7b16589252f3c6731f8a7b15212216e96e34556b63e1a9503841", func := "loop.example/g00728/laws.FnExactPlaySource", spec := "fnExactPlaySource", apart := false, narrowed := true }
def FnExactPlaySourceUptoSaid : Prop := fnExactPlaySourceUptoRow.holds Try.pinned (OpenSpec.upto fnExactPlaySourceSpec)

/-- 'laws.FnExactIsLateFor', WHERE WHAT IT READS IS OF BULK AT MOST 1048576: true; the input reads as it did. -/
def fnExactIsLateForUptoRow : OpenClaim := { program := "ytpigollgjpkflaa", sum := "3159c9fcb90e7b16589252f3c6731f8a7b15212216e96e34556b63e1a9503841", func := "loop.example/g00728/laws.FnExactIsLateFor", spec := "fnExactIsLateFor", apart := false, narrowed := true }
def FnExactIsLateForUptoSaid : Prop := fnExactIsLateForUptoRow.holds Try.pinned (OpenSpec.upto fnExactIsLateForSpec)

end Rows
end Go.Proofs.Ytpigollgjpkflaa
