/-
  No cell of these rows narrows 'for every input' (looked for: loops, veiled, ifaces, maps, wideKeys, modest, calm, conditions, laid).
  DERIVED. THE GIVEN ROWS OF THIS SEAT. 10 by the template 'for every input the law returns true; each argument reads behind the call as it read before'; 0 by the template 'total and deterministic' (their statements: YtneolndbhklboaaTotals.lean).
  GIVEN WITH THE SEED: the statements are not yours to turn. If you find one false, say at which input.
  Laid BY PROGRAM, IN A SANDBOX (cutbox-rows.mjs): the forced cells as the released guide's own fill.sh prints them over the translation f440026b51af5d87… (all of the seat's roots in one cut). By AI agents, Wed Nov 11 2026. No macro, syntax, notation, axiom, sorry.
-/
import Derived.Test.YtneolndbhklboaaChecked
import GoSem.Claim
import GoSem.ClaimJoined
import GoSem.ClaimMapViews
import Derived.JoinedTies
import Derived.KernelRfl
namespace Go.Proofs.Ytneolndbhklboaa
/- THE CELL 'sum', in the pinned program and in every row, IS THE sha256 OF THE DUMP (.gsa) THAT YtneolndbhklboaaProg.lean LOADS. Nothing in Lean hashes anything: it is a label: what it is worth is what the hold of that sum in a sandbox is worth. -/
noncomputable def Try.pinned : Pinned := { name := "ytneolndbhklboaa", sum := "f440026b51af5d87f53d8214e411768b00a870fb18fdfe728f262105262e1c62", checked := Try.checked }
namespace Rows
def none {H : Type} : Left H := { results := [], args := [] }

/-- 'laws.FnJoins': WHATEVER THE INPUT: true; the input reads as it did. -/
def fnJoinsSpec : ChangeSpec := { name := "fnJoins", fn := fun _ => fun
  | [d] => { results := [.lit (.bool true)], args := [d] }
  | _ => none }
def fnJoinsRow : OpenClaim := { program := "ytneolndbhklboaa", sum := "f440026b51af5d87f53d8214e411768b00a870fb18fdfe728f262105262e1c62", func := "loop.example/g00728/laws.FnJoins", spec := "fnJoins", unfollowed := true, recurses := true, apart := false }
def FnJoinsSaid : Prop := fnJoinsRow.holds Try.pinned (OpenSpec.ofChange fnJoinsSpec)

/-- ITS FALSE NEIGHBOUR: 'it returns false'. Refute it at one input. -/
def fnJoinsWrong : ChangeSpec := { name := "fnJoins", fn := fun _ => fun
  | [d] => { results := [.lit (.bool false)], args := [d] }
  | _ => none }
def FnJoinsWrongFalsely : Prop := fnJoinsRow.holds Try.pinned (OpenSpec.ofChange fnJoinsWrong)

/-- 'laws.FnExactJoinWithin': WHATEVER THE INPUT: true; the input reads as it did. -/
def fnExactJoinWithinSpec : ChangeSpec := { name := "fnExactJoinWithin", fn := fun _ => fun
  | [d1, d2, d3] => { results := [.lit (.bool true)], args := [d1, d2, d3] }
  | _ => none }
def fnExactJoinWithinRow : OpenClaim := { program := "ytneolndbhklboaa", sum := "f440026b51af5d87f53d8214e411768b00a870fb18fdfe728f262105262e1c62", func := "loop.example/g00728/laws.FnExactJoinWithin", spec := "fnExactJoinWithin", unfollowed := true, recurses := true, apart := false }
def FnExactJoinWithinSaid : Prop := fnExactJoinWithinRow.holds Try.pinned (OpenSpec.ofChange fnExactJoinWithinSpec)

/-- ITS FALSE NEIGHBOUR: 'it returns false'. Refute it at one input. -/
def fnExactJoinWithinWrong : ChangeSpec := { name := "fnExactJoinWithin", fn := fun _ => fun
  | [d1, d2, d3] => { results := [.lit (.bool false)], args := [d1, d2, d3] }
  | _ => none }
def FnExactJoinWithinWrongFalsely : Prop := fnExactJoinWithinRow.holds Try.pinned (OpenSpec.ofChange fnExactJoinWithinWrong)

/-- 'laws.FnExactUnmatched': WHATEVER THE INPUT: true; the input reads as it did. -/
def fnExactUnmatchedSpec : ChangeSpec := { name := "fnExactUnmatched", fn := fun _ => fun
  | [d1, d2, d3] => { results := [.lit (.bool true)], args := [d1, d2, d3] }
  | _ => none }
def fnExactUnmatchedRow : OpenClaim := { program := "ytneolndbhklboaa", sum := "f440026b51af5d87f53d8214e411768b00a870fb18fdfe728f262105262e1c62", func := "loop.example/g00728/laws.FnExactUnmatched", spec := "fnExactUnmatched", unfollowed := true, recurses := true, apart := false }
def FnExactUnmatchedSaid : Prop := fnExactUnmatchedRow.holds Try.pinned (OpenSpec.ofChange fnExactUnmatchedSpec)

/-- ITS FALSE NEIGHBOUR: 'it returns false'. Refute it at one input. -/
def fnExactUnmatchedWrong : ChangeSpec := { name := "fnExactUnmatched", fn := fun _ => fun
  | [d1, d2, d3] => { results := [.lit (.bool false)], args := [d1, d2, d3] }
  | _ => none }
def FnExactUnmatchedWrongFalsely : Prop := fnExactUnmatchedRow.holds Try.pinned (OpenSpec.ofChange fnExactUnmatchedWrong)

/-- 'laws.FnExactPairLess': WHATEVER THE INPUT: true; the input reads as it did. -/
def fnExactPairLessSpec : ChangeSpec := { name := "fnExactPairLess", fn := fun _ => fun
  | [d1, d2] => { results := [.lit (.bool true)], args := [d1, d2] }
  | _ => none }
def fnExactPairLessRow : OpenClaim := { program := "ytneolndbhklboaa", sum := "f440026b51af5d87f53d8214e411768b00a870fb18fdfe728f262105262e1c62", func := "loop.example/g00728/laws.FnExactPairLess", spec := "fnExactPairLess", apart := false }
def FnExactPairLessSaid : Prop := fnExactPairLessRow.holds Try.pinned (OpenSpec.ofChange fnExactPairLessSpec)

/-- ITS FALSE NEIGHBOUR: 'it returns false'. Refute it at one input. -/
def fnExactPairLessWrong : ChangeSpec := { name := "fnExactPairLess", fn := fun _ => fun
  | [d1, d2] => { results := [.lit (.bool false)], args := [d1, d2] }
  | _ => none }
def FnExactPairLessWrongFalsely : Prop := fnExactPairLessRow.holds Try.pinned (OpenSpec.ofChange fnExactPairLessWrong)

/-- 'laws.FnExactSortPairs': WHATEVER THE INPUT: true; the input reads as it did. -/
def fnExactSortPairsSpec : ChangeSpec := { name := "fnExactSortPairs", fn := fun _ => fun
  | [d] => { results := [.lit (.bool true)], args := [d] }
  | _ => none }
def fnExactSortPairsRow : OpenClaim := { program := "ytneolndbhklboaa", sum := "f440026b51af5d87f53d8214e411768b00a870fb18fdfe728f262105262e1c62", func := "loop.example/g00728/laws.FnExactSortPairs", spec := "fnExactSortPairs", unfollowed := true, recurses := true, apart := false }
def FnExactSortPairsSaid : Prop := fnExactSortPairsRow.holds Try.pinned (OpenSpec.ofChange fnExactSortPairsSpec)

/-- ITS FALSE NEIGHBOUR: 'it returns false'. Refute it at one input. -/
def fnExactSortPairsWrong : ChangeSpec := { name := "fnExactSortPairs", fn := fun _ => fun
  | [d] => { results := [.lit (.bool false)], args := [d] }
  | _ => none }
def FnExactSortPairsWrongFalsely : Prop := fnExactSortPairsRow.holds Try.pinned (OpenSpec.ofChange fnExactSortPairsWrong)

/-- 'laws.FnExactSamePairs': WHATEVER THE INPUT: true; the input reads as it did. -/
def fnExactSamePairsSpec : ChangeSpec := { name := "fnExactSamePairs", fn := fun _ => fun
  | [d1, d2] => { results := [.lit (.bool true)], args := [d1, d2] }
  | _ => none }
def fnExactSamePairsRow : OpenClaim := { program := "ytneolndbhklboaa", sum := "f440026b51af5d87f53d8214e411768b00a870fb18fdfe728f262105262e1c62", func := "loop.example/g00728/laws.FnExactSamePairs", spec := "fnExactSamePairs", unfollowed := true, recurses := true, apart := false }
def FnExactSamePairsSaid : Prop := fnExactSamePairsRow.holds Try.pinned (OpenSpec.ofChange fnExactSamePairsSpec)

/-- ITS FALSE NEIGHBOUR: 'it returns false'. Refute it at one input. -/
def fnExactSamePairsWrong : ChangeSpec := { name := "fnExactSamePairs", fn := fun _ => fun
  | [d1, d2] => { results := [.lit (.bool false)], args := [d1, d2] }
  | _ => none }
def FnExactSamePairsWrongFalsely : Prop := fnExactSamePairsRow.holds Try.pinned (OpenSpec.ofChange fnExactSamePairsWrong)

/-- 'laws.FnExactJoinOk': WHATEVER THE INPUT: true; the input reads as it did. -/
def fnExactJoinOkSpec : ChangeSpec := { name := "fnExactJoinOk", fn := fun _ => fun
  | [d] => { results := [.lit (.bool true)], args := [d] }
  | _ => none }
def fnExactJoinOkRow : OpenClaim := { program := "ytneolndbhklboaa", sum := "f440026b51af5d87f53d8214e411768b00a870fb18fdfe728f262105262e1c62", func := "loop.example/g00728/laws.FnExactJoinOk", spec := "fnExactJoinOk", unfollowed := true, recurses := true, apart := false }
def FnExactJoinOkSaid : Prop := fnExactJoinOkRow.holds Try.pinned (OpenSpec.ofChange fnExactJoinOkSpec)

/-- ITS FALSE NEIGHBOUR: 'it returns false'. Refute it at one input. -/
def fnExactJoinOkWrong : ChangeSpec := { name := "fnExactJoinOk", fn := fun _ => fun
  | [d] => { results := [.lit (.bool false)], args := [d] }
  | _ => none }
def FnExactJoinOkWrongFalsely : Prop := fnExactJoinOkRow.holds Try.pinned (OpenSpec.ofChange fnExactJoinOkWrong)

/-- 'laws.FnExactNewJoin': WHATEVER THE INPUT: true; the input reads as it did. -/
def fnExactNewJoinSpec : ChangeSpec := { name := "fnExactNewJoin", fn := fun _ => fun
  | [] => { results := [.lit (.bool true)], args := [] }
  | _ => none }
def fnExactNewJoinRow : OpenClaim := { program := "ytneolndbhklboaa", sum := "f440026b51af5d87f53d8214e411768b00a870fb18fdfe728f262105262e1c62", func := "loop.example/g00728/laws.FnExactNewJoin", spec := "fnExactNewJoin", apart := false }
def FnExactNewJoinSaid : Prop := fnExactNewJoinRow.holds Try.pinned (OpenSpec.ofChange fnExactNewJoinSpec)

/-- ITS FALSE NEIGHBOUR: 'it returns false'. Refute it at one input. -/
def fnExactNewJoinWrong : ChangeSpec := { name := "fnExactNewJoin", fn := fun _ => fun
  | [] => { results := [.lit (.bool false)], args := [] }
  | _ => none }
def FnExactNewJoinWrongFalsely : Prop := fnExactNewJoinRow.holds Try.pinned (OpenSpec.ofChange fnExactNewJoinWrong)

/-- 'laws.FnExactAddJoin': WHATEVER THE INPUT: true; the input reads as it did. -/
def fnExactAddJoinSpec : ChangeSpec := { name := "fnExactAddJoin", fn := fun _ => fun
  | [d1, d2, d3, d4] => { results := [.lit (.bool true)], args := [d1, d2, d3, d4] }
  | _ => none }
def fnExactAddJoinRow : OpenClaim := { program := "ytneolndbhklboaa", sum := "f440026b51af5d87f53d8214e411768b00a870fb18fdfe728f262105262e1c62", func := "loop.example/g00728/laws.FnExactAddJoin", spec := "fnExactAddJoin", unfollowed := true, recurses := true, apart := false }
def FnExactAddJoinSaid : Prop := fnExactAddJoinRow.holds Try.pinned (OpenSpec.ofChange fnExactAddJoinSpec)

/-- ITS FALSE NEIGHBOUR: 'it returns false'. Refute it at one input. -/
def fnExactAddJoinWrong : ChangeSpec := { name := "fnExactAddJoin", fn := fun _ => fun
  | [d1, d2, d3, d4] => { results := [.lit (.bool false)], args := [d1, d2, d3, d4] }
  | _ => none }
def FnExactAddJoinWrongFalsely : Prop := fnExactAddJoinRow.holds Try.pinned (OpenSpec.ofChange fnExactAddJoinWrong)

/-- 'laws.FnExactRaiseJoin': WHATEVER THE INPUT: true; the input reads as it did. -/
def fnExactRaiseJoinSpec : ChangeSpec := { name := "fnExactRaiseJoin", fn := fun _ => fun
  | [d1, d2, d3] => { results := [.lit (.bool true)], args := [d1, d2, d3] }
  | _ => none }
def fnExactRaiseJoinRow : OpenClaim := { program := "ytneolndbhklboaa", sum := "f440026b51af5d87f53d8214e411768b00a870fb18fdfe728f262105262e1c62", func := "loop.example/g00728/laws.FnExactRaiseJoin", spec := "fnExactRaiseJoin", unfollowed := true, recurses := true, apart := false }
def FnExactRaiseJoinSaid : Prop := fnExactRaiseJoinRow.holds Try.pinned (OpenSpec.ofChange fnExactRaiseJoinSpec)

/-- ITS FALSE NEIGHBOUR: 'it returns false'. Refute it at one input. -/
def fnExactRaiseJoinWrong : ChangeSpec := { name := "fnExactRaiseJoin", fn := fun _ => fun
  | [d1, d2, d3] => { results := [.lit (.bool false)], args := [d1, d2, d3] }
  | _ => none }
def FnExactRaiseJoinWrongFalsely : Prop := fnExactRaiseJoinRow.holds Try.pinned (OpenSpec.ofChange fnExactRaiseJoinWrong)

/- THE SECOND FORM. 'bulk': how many values and letters a reading holds, each counted each time it is reached (what is shared counts as often as it is met; a slice's spare places count too). A statement '..UptoSaid' is the law's where the arguments, and the package variables that the reading takes, are together of bulk at most 1048576: NARROWER than '..Said'. Prove '..Said' where nothing that the law and all that it calls make is longer than what came in: it says more and counts as full. Else prove '..UptoSaid'. A law counts once. -/
mutual
def uptoBulk {H : Type} : DataW H → Nat
  | .lit (.string bytes) => bytes.length + 1
  | .lit _ => 1
  | .nil => 1
  | .ptr d => uptoBulk d + 1
  | .slice elems spare => uptoBulkAll elems + uptoBulkAll spare + 1
  | .agg parts => uptoBulkAll parts + 1
  | .iface _ d => uptoBulk d + 1
  | .map entries => uptoBulkEntries entries + 1
  | .held _ => 1
def uptoBulkAll {H : Type} : List (DataW H) → Nat
  | [] => 0
  | d :: r => uptoBulk d + uptoBulkAll r
def uptoBulkEntries {H : Type} : List (Lit × DataW H) → Nat
  | [] => 0
  | x :: r => uptoBulkEntry x + uptoBulkEntries r
def uptoBulkEntry {H : Type} : Lit × DataW H → Nat
  | (.string bytes, d) => bytes.length + uptoBulk d + 1
  | (_, d) => uptoBulk d + 1
 end
def uptoSmall : (H : Type) → List (DataW H) → Bool := fun _ ds => decide (uptoBulkAll ds ≤ 1048576)
def OpenSpec.upto (s : _root_.Go.ChangeSpec) : _root_.Go.OpenSpec := { _root_.Go.OpenSpec.ofChange s with cond := some uptoSmall }

/-- 'laws.FnJoins', WHERE WHAT IT READS IS OF BULK AT MOST 1048576: true; the input reads as it did. -/
def fnJoinsUptoRow : OpenClaim := { program := "ytneolndbhklboaa", sum := "f440026b51af5d87f53d8214e411768b00a870fb18fdfe728f262105262e1c62", func := "loop.example/g00728/laws.FnJoins", spec := "fnJoins", unfollowed := true, recurses := true, apart := false, narrowed := true }
def FnJoinsUptoSaid : Prop := fnJoinsUptoRow.holds Try.pinned (OpenSpec.upto fnJoinsSpec)

/-- 'laws.FnExactJoinWithin', WHERE WHAT IT READS IS OF BULK AT MOST 1048576: true; the input reads as it did. -/
def fnExactJoinWithinUptoRow : OpenClaim := { program := "ytneolndbhklboaa", sum := "f440026b51af5d87f53d8214e411768b00a870fb18fdfe728f262105262e1c62", func := "loop.example/g00728/laws.FnExactJoinWithin", spec := "fnExactJoinWithin", unfollowed := true, recurses := true, apart := false, narrowed := true }
def FnExactJoinWithinUptoSaid : Prop := fnExactJoinWithinUptoRow.holds Try.pinned (OpenSpec.upto fnExactJoinWithinSpec)

/-- 'laws.FnExactUnmatched', WHERE WHAT IT READS IS OF BULK AT MOST 1048576: true; the input reads as it did. -/
def fnExactUnmatchedUptoRow : OpenClaim := { program := "ytneolndbhklboaa", sum := "f440026b51af5d87f53d8214e411768b00a870fb18fdfe728f262105262e1c62", func := "loop.example/g00728/laws.FnExactUnmatched", spec := "fnExactUnmatched", unfollowed := true, recurses := true, apart := false, narrowed := true }
def FnExactUnmatchedUptoSaid : Prop := fnExactUnmatchedUptoRow.holds Try.pinned (OpenSpec.upto fnExactUnmatchedSpec)

/-- 'laws.FnExactPairLess', WHERE WHAT IT READS IS OF BULK AT MOST 1048576: true; the input reads as it did. -/
def fnExactPairLessUptoRow : OpenClaim := { program := "ytneolndbhklboaa", sum := "f440026b51af5d87f53d8214e411768b00a870fb18fdfe728f262105262e1c62", func := "loop.example/g00728/laws.FnExactPairLess", spec := "fnExactPairLess", apart := false, narrowed := true }
def FnExactPairLessUptoSaid : Prop := fnExactPairLessUptoRow.holds Try.pinned (OpenSpec.upto fnExactPairLessSpec)

/-- 'laws.FnExactSortPairs', WHERE WHAT IT READS IS OF BULK AT MOST 1048576: true; the input reads as it did. -/
def fnExactSortPairsUptoRow : OpenClaim := { program := "ytneolndbhklboaa", sum := "f440026b51af5d87f53d8214e411768b00a870fb18fdfe728f262105262e1c62", func := "loop.example/g00728/laws.FnExactSortPairs", spec := "fnExactSortPairs", unfollowed := true, recurses := true, apart := false, narrowed := true }
def FnExactSortPairsUptoSaid : Prop := fnExactSortPairsUptoRow.holds Try.pinned (OpenSpec.upto fnExactSortPairsSpec)

/-- 'laws.FnExactSamePairs', WHERE WHAT IT READS IS OF BULK AT MOST 1048576: true; the input reads as it did. -/
def fnExactSamePairsUptoRow : OpenClaim := { program := "ytneolndbhklboaa", sum := "f440026b51af5d87f53d8214e411768b00a870fb18fdfe728f262105262e1c62", func := "loop.example/g00728/laws.FnExactSamePairs", spec := "fnExactSamePairs", unfollowed := true, recurses := true, apart := false, narrowed := true }
def FnExactSamePairsUptoSaid : Prop := fnExactSamePairsUptoRow.holds Try.pinned (OpenSpec.upto fnExactSamePairsSpec)

/-- 'laws.FnExactJoinOk', WHERE WHAT IT READS IS OF BULK AT MOST 1048576: true; the input reads as it did. -/
def fnExactJoinOkUptoRow : OpenClaim := { program := "ytneolndbhklboaa", sum := "f440026b51af5d87f53d8214e411768b00a870fb18fdfe728f262105262e1c62", func := "loop.example/g00728/laws.FnExactJoinOk", spec := "fnExactJoinOk", unfollowed := true, recurses := true, apart := false, narrowed := true }
def FnExactJoinOkUptoSaid : Prop := fnExactJoinOkUptoRow.holds Try.pinned (OpenSpec.upto fnExactJoinOkSpec)

/-- 'laws.FnExactNewJoin', WHERE WHAT IT READS IS OF BULK AT MOST 1048576: true; the input reads as it did. -/
def fnExactNewJoinUptoRow : OpenClaim := { program := "ytneolndbhklboaa", sum := "f440026b51af5d87f53d8214e411768b00a870fb18fdfe728f262105262e1c62", func := "loop.example/g00728/laws.FnExactNewJoin", spec := "fnExactNewJoin", apart := false, narrowed := true }
def FnExactNewJoinUptoSaid : Prop := fnExactNewJoinUptoRow.holds Try.pinned (OpenSpec.upto fnExactNewJoinSpec)

/-- 'laws.FnExactAddJoin', WHERE WHAT IT READS IS OF BULK AT MOST 1048576: true; the input reads as it did. -/
def fnExactAddJoinUptoRow : OpenClaim := { program := "ytneolndbhklboaa", sum := "f440026b51af5d87f53d8214e411768b00a870fb18fdfe728f262105262e1c62", func := "loop.example/g00728/laws.FnExactAddJoin", spec := "fnExactAddJoin", unfollowed := true, recurses := true, apart := false, narrowed := true }
def FnExactAddJoinUptoSaid : Prop := fnExactAddJoinUptoRow.holds Try.pinned (OpenSpec.upto fnExactAddJoinSpec)

/-- 'laws.FnExactRaiseJoin', WHERE WHAT IT READS IS OF BULK AT MOST 1048576: true; the input reads as it did. -/
def fnExactRaiseJoinUptoRow : OpenClaim := { program := "ytneolndbhklboaa", sum := "f440026b51af5d87f53d8214e411768b00a870fb18fdfe728f262105262e1c62", func := "loop.example/g00728/laws.FnExactRaiseJoin", spec := "fnExactRaiseJoin", unfollowed := true, recurses := true, apart := false, narrowed := true }
def FnExactRaiseJoinUptoSaid : Prop := fnExactRaiseJoinUptoRow.holds Try.pinned (OpenSpec.upto fnExactRaiseJoinSpec)

end Rows
end Go.Proofs.Ytneolndbhklboaa
