/-
  No cell of these rows narrows 'for every input' (looked for: loops, veiled, ifaces, maps, wideKeys, modest, calm, conditions, laid).
  DERIVED. THE GIVEN ROWS OF THIS SEAT. 10 by the template 'for every input the law returns true; each argument reads behind the call as it read before'; 0 by the template 'total and deterministic' (their statements: YtjbhcjfifkfmbaaTotals.lean).
  GIVEN WITH THE SEED: the statements are not yours to turn. If you find one false, say at which input.
  Laid BY PROGRAM, IN A SANDBOX (cutbox-rows.mjs): the forced cells as the released guide's own fill.sh prints them over the translation 9e0cac128e71233e… (all of the seat's roots in one cut). By AI agents, Wed Nov 11 2026. No macro, syntax, notation, axiom, sorry.
-/
import Derived.Test.YtjbhcjfifkfmbaaChecked
import GoSem.Claim
import GoSem.ClaimJoined
import GoSem.ClaimMapViews
import Derived.JoinedTies
import Derived.KernelRfl
namespace Go.Proofs.Ytjbhcjfifkfmbaa
/- THE CELL 'sum', in the pinned program and in every row, IS THE sha256 OF THE DUMP (.gsa) THAT YtjbhcjfifkfmbaaProg.lean LOADS. Nothing in Lean hashes anything: it is a label: what it is worth is what the hold of that sum in a sandbox is worth. -/
noncomputable def Try.pinned : Pinned := { name := "ytjbhcjfifkfmbaa", sum := "9e0cac128e71233e396342ef676d9a020b4d1960e1e4b6e116249f87aafa9984", checked := Try.checked }
namespace Rows
def none {H : Type} : Left H := { results := [], args := [] }

/-- 'laws.FnExactAggOk': WHATEVER THE INPUT: true; the input reads as it did. -/
def fnExactAggOkSpec : ChangeSpec := { name := "fnExactAggOk", fn := fun _ => fun
  | [d] => { results := [.lit (.bool true)], args := [d] }
  | _ => none }
def fnExactAggOkRow : OpenClaim := { program := "ytjbhcjfifkfmbaa", sum := "9e0cac128e71233e396342ef676d9a020b4d1960e1e4b6e116249f87aafa9984", func := "loop.example/g00728/laws.FnExactAggOk", spec := "fnExactAggOk", apart := false }
def FnExactAggOkSaid : Prop := fnExactAggOkRow.holds Try.pinned (OpenSpec.ofChange fnExactAggOkSpec)

/-- ITS FALSE NEIGHBOUR: 'it returns false'. Refute it at one input. -/
def fnExactAggOkWrong : ChangeSpec := { name := "fnExactAggOk", fn := fun _ => fun
  | [d] => { results := [.lit (.bool false)], args := [d] }
  | _ => none }
def FnExactAggOkWrongFalsely : Prop := fnExactAggOkRow.holds Try.pinned (OpenSpec.ofChange fnExactAggOkWrong)

/-- 'laws.FnExactWindowOf': WHATEVER THE INPUT: true; the input reads as it did. -/
def fnExactWindowOfSpec : ChangeSpec := { name := "fnExactWindowOf", fn := fun _ => fun
  | [d1, d2] => { results := [.lit (.bool true)], args := [d1, d2] }
  | _ => none }
def fnExactWindowOfRow : OpenClaim := { program := "ytjbhcjfifkfmbaa", sum := "9e0cac128e71233e396342ef676d9a020b4d1960e1e4b6e116249f87aafa9984", func := "loop.example/g00728/laws.FnExactWindowOf", spec := "fnExactWindowOf", apart := false }
def FnExactWindowOfSaid : Prop := fnExactWindowOfRow.holds Try.pinned (OpenSpec.ofChange fnExactWindowOfSpec)

/-- ITS FALSE NEIGHBOUR: 'it returns false'. Refute it at one input. -/
def fnExactWindowOfWrong : ChangeSpec := { name := "fnExactWindowOf", fn := fun _ => fun
  | [d1, d2] => { results := [.lit (.bool false)], args := [d1, d2] }
  | _ => none }
def FnExactWindowOfWrongFalsely : Prop := fnExactWindowOfRow.holds Try.pinned (OpenSpec.ofChange fnExactWindowOfWrong)

/-- 'laws.FnExactWindowEnd': WHATEVER THE INPUT: true; the input reads as it did. -/
def fnExactWindowEndSpec : ChangeSpec := { name := "fnExactWindowEnd", fn := fun _ => fun
  | [d1, d2] => { results := [.lit (.bool true)], args := [d1, d2] }
  | _ => none }
def fnExactWindowEndRow : OpenClaim := { program := "ytjbhcjfifkfmbaa", sum := "9e0cac128e71233e396342ef676d9a020b4d1960e1e4b6e116249f87aafa9984", func := "loop.example/g00728/laws.FnExactWindowEnd", spec := "fnExactWindowEnd", apart := false }
def FnExactWindowEndSaid : Prop := fnExactWindowEndRow.holds Try.pinned (OpenSpec.ofChange fnExactWindowEndSpec)

/-- ITS FALSE NEIGHBOUR: 'it returns false'. Refute it at one input. -/
def fnExactWindowEndWrong : ChangeSpec := { name := "fnExactWindowEnd", fn := fun _ => fun
  | [d1, d2] => { results := [.lit (.bool false)], args := [d1, d2] }
  | _ => none }
def FnExactWindowEndWrongFalsely : Prop := fnExactWindowEndRow.holds Try.pinned (OpenSpec.ofChange fnExactWindowEndWrong)

/-- 'laws.FnExactShardOk': WHATEVER THE INPUT: true; the input reads as it did. -/
def fnExactShardOkSpec : ChangeSpec := { name := "fnExactShardOk", fn := fun _ => fun
  | [d] => { results := [.lit (.bool true)], args := [d] }
  | _ => none }
def fnExactShardOkRow : OpenClaim := { program := "ytjbhcjfifkfmbaa", sum := "9e0cac128e71233e396342ef676d9a020b4d1960e1e4b6e116249f87aafa9984", func := "loop.example/g00728/laws.FnExactShardOk", spec := "fnExactShardOk", apart := false }
def FnExactShardOkSaid : Prop := fnExactShardOkRow.holds Try.pinned (OpenSpec.ofChange fnExactShardOkSpec)

/-- ITS FALSE NEIGHBOUR: 'it returns false'. Refute it at one input. -/
def fnExactShardOkWrong : ChangeSpec := { name := "fnExactShardOk", fn := fun _ => fun
  | [d] => { results := [.lit (.bool false)], args := [d] }
  | _ => none }
def FnExactShardOkWrongFalsely : Prop := fnExactShardOkRow.holds Try.pinned (OpenSpec.ofChange fnExactShardOkWrong)

/-- 'laws.FnExactNewShard': WHATEVER THE INPUT: true; the input reads as it did. -/
def fnExactNewShardSpec : ChangeSpec := { name := "fnExactNewShard", fn := fun _ => fun
  | [] => { results := [.lit (.bool true)], args := [] }
  | _ => none }
def fnExactNewShardRow : OpenClaim := { program := "ytjbhcjfifkfmbaa", sum := "9e0cac128e71233e396342ef676d9a020b4d1960e1e4b6e116249f87aafa9984", func := "loop.example/g00728/laws.FnExactNewShard", spec := "fnExactNewShard", apart := false }
def FnExactNewShardSaid : Prop := fnExactNewShardRow.holds Try.pinned (OpenSpec.ofChange fnExactNewShardSpec)

/-- ITS FALSE NEIGHBOUR: 'it returns false'. Refute it at one input. -/
def fnExactNewShardWrong : ChangeSpec := { name := "fnExactNewShard", fn := fun _ => fun
  | [] => { results := [.lit (.bool false)], args := [] }
  | _ => none }
def FnExactNewShardWrongFalsely : Prop := fnExactNewShardRow.holds Try.pinned (OpenSpec.ofChange fnExactNewShardWrong)

/-- 'laws.FnExactAddEvent': WHATEVER THE INPUT: true; the input reads as it did. -/
def fnExactAddEventSpec : ChangeSpec := { name := "fnExactAddEvent", fn := fun _ => fun
  | [d1, d2, d3, d4] => { results := [.lit (.bool true)], args := [d1, d2, d3, d4] }
  | _ => none }
def fnExactAddEventRow : OpenClaim := { program := "ytjbhcjfifkfmbaa", sum := "9e0cac128e71233e396342ef676d9a020b4d1960e1e4b6e116249f87aafa9984", func := "loop.example/g00728/laws.FnExactAddEvent", spec := "fnExactAddEvent", inPlace := ["slices.overlaps[loop.example/g00728/impl.Agg]"], unfollowed := true, recurses := true, apart := false }
def FnExactAddEventSaid : Prop := fnExactAddEventRow.holds Try.pinned (OpenSpec.ofChange fnExactAddEventSpec)

/-- ITS FALSE NEIGHBOUR: 'it returns false'. Refute it at one input. -/
def fnExactAddEventWrong : ChangeSpec := { name := "fnExactAddEvent", fn := fun _ => fun
  | [d1, d2, d3, d4] => { results := [.lit (.bool false)], args := [d1, d2, d3, d4] }
  | _ => none }
def FnExactAddEventWrongFalsely : Prop := fnExactAddEventRow.holds Try.pinned (OpenSpec.ofChange fnExactAddEventWrong)

/-- 'laws.FnExactRaiseMark': WHATEVER THE INPUT: true; the input reads as it did. -/
def fnExactRaiseMarkSpec : ChangeSpec := { name := "fnExactRaiseMark", fn := fun _ => fun
  | [d1, d2] => { results := [.lit (.bool true)], args := [d1, d2] }
  | _ => none }
def fnExactRaiseMarkRow : OpenClaim := { program := "ytjbhcjfifkfmbaa", sum := "9e0cac128e71233e396342ef676d9a020b4d1960e1e4b6e116249f87aafa9984", func := "loop.example/g00728/laws.FnExactRaiseMark", spec := "fnExactRaiseMark", apart := false }
def FnExactRaiseMarkSaid : Prop := fnExactRaiseMarkRow.holds Try.pinned (OpenSpec.ofChange fnExactRaiseMarkSpec)

/-- ITS FALSE NEIGHBOUR: 'it returns false'. Refute it at one input. -/
def fnExactRaiseMarkWrong : ChangeSpec := { name := "fnExactRaiseMark", fn := fun _ => fun
  | [d1, d2] => { results := [.lit (.bool false)], args := [d1, d2] }
  | _ => none }
def FnExactRaiseMarkWrongFalsely : Prop := fnExactRaiseMarkRow.holds Try.pinned (OpenSpec.ofChange fnExactRaiseMarkWrong)

/-- 'laws.FnExactClosedOf': WHATEVER THE INPUT: true; the input reads as it did. -/
def fnExactClosedOfSpec : ChangeSpec := { name := "fnExactClosedOf", fn := fun _ => fun
  | [d1, d2] => { results := [.lit (.bool true)], args := [d1, d2] }
  | _ => none }
def fnExactClosedOfRow : OpenClaim := { program := "ytjbhcjfifkfmbaa", sum := "9e0cac128e71233e396342ef676d9a020b4d1960e1e4b6e116249f87aafa9984", func := "loop.example/g00728/laws.FnExactClosedOf", spec := "fnExactClosedOf", unfollowed := true, recurses := true, apart := false }
def FnExactClosedOfSaid : Prop := fnExactClosedOfRow.holds Try.pinned (OpenSpec.ofChange fnExactClosedOfSpec)

/-- ITS FALSE NEIGHBOUR: 'it returns false'. Refute it at one input. -/
def fnExactClosedOfWrong : ChangeSpec := { name := "fnExactClosedOf", fn := fun _ => fun
  | [d1, d2] => { results := [.lit (.bool false)], args := [d1, d2] }
  | _ => none }
def FnExactClosedOfWrongFalsely : Prop := fnExactClosedOfRow.holds Try.pinned (OpenSpec.ofChange fnExactClosedOfWrong)

/-- 'laws.FnExactTakeClosed': WHATEVER THE INPUT: true; the input reads as it did. -/
def fnExactTakeClosedSpec : ChangeSpec := { name := "fnExactTakeClosed", fn := fun _ => fun
  | [d1, d2, d3] => { results := [.lit (.bool true)], args := [d1, d2, d3] }
  | _ => none }
def fnExactTakeClosedRow : OpenClaim := { program := "ytjbhcjfifkfmbaa", sum := "9e0cac128e71233e396342ef676d9a020b4d1960e1e4b6e116249f87aafa9984", func := "loop.example/g00728/laws.FnExactTakeClosed", spec := "fnExactTakeClosed", unfollowed := true, recurses := true, apart := false }
def FnExactTakeClosedSaid : Prop := fnExactTakeClosedRow.holds Try.pinned (OpenSpec.ofChange fnExactTakeClosedSpec)

/-- ITS FALSE NEIGHBOUR: 'it returns false'. Refute it at one input. -/
def fnExactTakeClosedWrong : ChangeSpec := { name := "fnExactTakeClosed", fn := fun _ => fun
  | [d1, d2, d3] => { results := [.lit (.bool false)], args := [d1, d2, d3] }
  | _ => none }
def FnExactTakeClosedWrongFalsely : Prop := fnExactTakeClosedRow.holds Try.pinned (OpenSpec.ofChange fnExactTakeClosedWrong)

/-- 'laws.FnExactMergeAggs': WHATEVER THE INPUT: true; the input reads as it did. -/
def fnExactMergeAggsSpec : ChangeSpec := { name := "fnExactMergeAggs", fn := fun _ => fun
  | [d1, d2] => { results := [.lit (.bool true)], args := [d1, d2] }
  | _ => none }
def fnExactMergeAggsRow : OpenClaim := { program := "ytjbhcjfifkfmbaa", sum := "9e0cac128e71233e396342ef676d9a020b4d1960e1e4b6e116249f87aafa9984", func := "loop.example/g00728/laws.FnExactMergeAggs", spec := "fnExactMergeAggs", apart := false }
def FnExactMergeAggsSaid : Prop := fnExactMergeAggsRow.holds Try.pinned (OpenSpec.ofChange fnExactMergeAggsSpec)

/-- ITS FALSE NEIGHBOUR: 'it returns false'. Refute it at one input. -/
def fnExactMergeAggsWrong : ChangeSpec := { name := "fnExactMergeAggs", fn := fun _ => fun
  | [d1, d2] => { results := [.lit (.bool false)], args := [d1, d2] }
  | _ => none }
def FnExactMergeAggsWrongFalsely : Prop := fnExactMergeAggsRow.holds Try.pinned (OpenSpec.ofChange fnExactMergeAggsWrong)

/- THE SECOND FORM. 'bulk': how many values and letters a reading holds, each counted each time it is reached (what is shared counts as often as it is met; a slice's spare places count too). A statement '..UptoSaid' is the law's where the arguments, and the package variables that the reading takes, are together of bulk at most 1048576: NARROWER than '..Said'. Prove '..Said' where nothing that the law and all that it calls make is longer than what came in: it says more and counts as full. Else prove '..UptoSaid'. A law counts once. -/
mutual
def uptoBulk {H : Type} : DataW H → Nat
  | .lit (.string bytes) => bytes.length + 1
  | .lit _ => 1
  | .nil => 1
  | .ptr d => uptoBulk d + 1
  | .slice elems spare => uptoBulkAll elems + uptoBulkAll spare + 1
  | .agg parts => uptoBulkAll parts + 1
  | .iface _ d => uptoBulk d + 1
  | .map entries => uptoBulkEntries entries + 1
  | .held _ => 1
def uptoBulkAll {H : Type} : List (DataW H) → Nat
  | [] => 0
  | d :: r => uptoBulk d + uptoBulkAll r
def uptoBulkEntries {H : Type} : List (Lit × DataW H) → Nat
  | [] => 0
  | x :: r => uptoBulkEntry x + uptoBulkEntries r
def uptoBulkEntry {H : Type} : Lit × DataW H → Nat
  | (.string bytes, d) => bytes.length + uptoBulk d + 1
  | (_, d) => uptoBulk d + 1
 end
def uptoSmall : (H : Type) → List (DataW H) → Bool := fun _ ds => decide (uptoBulkAll ds ≤ 1048576)
def OpenSpec.upto (s : _root_.Go.ChangeSpec) : _root_.Go.OpenSpec := { _root_.Go.OpenSpec.ofChange s with cond := some uptoSmall }

/-- 'laws.FnExactAggOk', WHERE WHAT IT READS IS OF BULK AT MOST 1048576: true; the input reads as it did. -/
def fnExactAggOkUptoRow : OpenClaim := { program := "ytjbhcjfifkfmbaa", sum := "9e0cac128e71233e396342ef676d9a020b4d1960e1e4b6e116249f87aafa9984", func := "loop.example/g00728/laws.FnExactAggOk", spec := "fnExactAggOk", apart := false, narrowed := true }
def FnExactAggOkUptoSaid : Prop := fnExactAggOkUptoRow.holds Try.pinned (OpenSpec.upto fnExactAggOkSpec)

/-- 'laws.FnExactWindowOf', WHERE WHAT IT READS IS OF BULK AT MOST 1048576: true; the input reads as it did. -/
def fnExactWindowOfUptoRow : OpenClaim := { program := "ytjbhcjfifkfmbaa", sum := "9e0cac128e71233e396342ef676d9a020b4d1960e1e4b6e116249f87aafa9984", func := "loop.example/g00728/laws.FnExactWindowOf", spec := "fnExactWindowOf", apart := false, narrowed := true }
def FnExactWindowOfUptoSaid : Prop := fnExactWindowOfUptoRow.holds Try.pinned (OpenSpec.upto fnExactWindowOfSpec)

/-- 'laws.FnExactWindowEnd', WHERE WHAT IT READS IS OF BULK AT MOST 1048576: true; the input reads as it did. -/
def fnExactWindowEndUptoRow : OpenClaim := { program := "ytjbhcjfifkfmbaa", sum := "9e0cac128e71233e396342ef676d9a020b4d1960e1e4b6e116249f87aafa9984", func := "loop.example/g00728/laws.FnExactWindowEnd", spec := "fnExactWindowEnd", apart := false, narrowed := true }
def FnExactWindowEndUptoSaid : Prop := fnExactWindowEndUptoRow.holds Try.pinned (OpenSpec.upto fnExactWindowEndSpec)

/-- 'laws.FnExactShardOk', WHERE WHAT IT READS IS OF BULK AT MOST 1048576: true; the input reads as it did. -/
def fnExactShardOkUptoRow : OpenClaim := { program := "ytjbhcjfifkfmbaa", sum := "9e0cac128e71233e396342ef676d9a020b4d1960e1e4b6e116249f87aafa9984", func := "loop.example/g00728/laws.FnExactShardOk", spec := "fnExactShardOk", apart := false, narrowed := true }
def FnExactShardOkUptoSaid : Prop := fnExactShardOkUptoRow.holds Try.pinned (OpenSpec.upto fnExactShardOkSpec)

/-- 'laws.FnExactNewShard', WHERE WHAT IT READS IS OF BULK AT MOST 1048576: true; the input reads as it did. -/
def fnExactNewShardUptoRow : OpenClaim := { program := "ytjbhcjfifkfmbaa", sum := "9e0cac128e71233e396342ef676d9a020b4d1960e1e4b6e116249f87aafa9984", func := "loop.example/g00728/laws.FnExactNewShard", spec := "fnExactNewShard", apart := false, narrowed := true }
def FnExactNewShardUptoSaid : Prop := fnExactNewShardUptoRow.holds Try.pinned (OpenSpec.upto fnExactNewShardSpec)

/-- 'laws.FnExactAddEvent', WHERE WHAT IT READS IS OF BULK AT MOST 1048576: true; the input reads as it did. -/
def fnExactAddEventUptoRow : OpenClaim := { program := "ytjbhcjfifkfmbaa", sum := "9e0cac128e71233e396342ef676d9a020b4d1960e1e4b6e116249f87aafa9984", func := "loop.example/g00728/laws.FnExactAddEvent", spec := "fnExactAddEvent", inPlace := ["slices.overlaps[loop.example/g00728/impl.Agg]"], unfollowed := true, recurses := true, apart := false, narrowed := true }
def FnExactAddEventUptoSaid : Prop := fnExactAddEventUptoRow.holds Try.pinned (OpenSpec.upto fnExactAddEventSpec)

/-- 'laws.FnExactRaiseMark', WHERE WHAT IT READS IS OF BULK AT MOST 1048576: true; the input reads as it did. -/
def fnExactRaiseMarkUptoRow : OpenClaim := { program := "ytjbhcjfifkfmbaa", sum := "9e0cac128e71233e396342ef676d9a020b4d1960e1e4b6e116249f87aafa9984", func := "loop.example/g00728/laws.FnExactRaiseMark", spec := "fnExactRaiseMark", apart := false, narrowed := true }
def FnExactRaiseMarkUptoSaid : Prop := fnExactRaiseMarkUptoRow.holds Try.pinned (OpenSpec.upto fnExactRaiseMarkSpec)

/-- 'laws.FnExactClosedOf', WHERE WHAT IT READS IS OF BULK AT MOST 1048576: true; the input reads as it did. -/
def fnExactClosedOfUptoRow : OpenClaim := { program := "ytjbhcjfifkfmbaa", sum := "9e0cac128e71233e396342ef676d9a020b4d1960e1e4b6e116249f87aafa9984", func := "loop.example/g00728/laws.FnExactClosedOf", spec := "fnExactClosedOf", unfollowed := true, recurses := true, apart := false, narrowed := true }
def FnExactClosedOfUptoSaid : Prop := fnExactClosedOfUptoRow.holds Try.pinned (OpenSpec.upto fnExactClosedOfSpec)

/-- 'laws.FnExactTakeClosed', WHERE WHAT IT READS IS OF BULK AT MOST 1048576: true; the input reads as it did. -/
def fnExactTakeClosedUptoRow : OpenClaim := { program := "ytjbhcjfifkfmbaa", sum := "9e0cac128e71233e396342ef676d9a020b4d1960e1e4b6e116249f87aafa9984", func := "loop.example/g00728/laws.FnExactTakeClosed", spec := "fnExactTakeClosed", unfollowed := true, recurses := true, apart := false, narrowed := true }
def FnExactTakeClosedUptoSaid : Prop := fnExactTakeClosedUptoRow.holds Try.pinned (OpenSpec.upto fnExactTakeClosedSpec)

/-- 'laws.FnExactMergeAggs', WHERE WHAT IT READS IS OF BULK AT MOST 1048576: true; the input reads as it did. -/
def fnExactMergeAggsUptoRow : OpenClaim := { program := "ytjbhcjfifkfmbaa", sum := "9e0cac128e71233e396342ef676d9a020b4d1960e1e4b6e116249f87aafa9984", func := "loop.example/g00728/laws.FnExactMergeAggs", spec := "fnExactMergeAggs", apart := false, narrowed := true }
def FnExactMergeAggsUptoSaid : Prop := fnExactMergeAggsUptoRow.holds Try.pinned (OpenSpec.upto fnExactMergeAggsSpec)

end Rows
end Go.Proofs.Ytjbhcjfifkfmbaa
