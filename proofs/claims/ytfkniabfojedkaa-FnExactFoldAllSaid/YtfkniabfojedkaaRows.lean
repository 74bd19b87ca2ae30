/-
  No cell of these rows narrows 'for every input' (looked for: loops, veiled, ifaces, maps, wideKeys, modest, calm, conditions, laid).
  DERIVED. THE GIVEN ROWS OF THIS SEAT. 8 by the template 'for every input the law returns true; each argument reads behind the call as it read before'; 0 by the template 'total and deterministic' (their statements: YtfkniabfojedkaaTotals.lean).
  GIVEN WITH THE SEED: the statements are not yours to turn. If you find one false, say at which input.
  Laid BY PROGRAM, IN A SANDBOX (cutbox-rows.mjs): the forced cells as the released guide's own fill.sh prints them over the translation 2e0bd7f703e59d93… (all of the seat's roots in one cut). By AI agents, Wed Nov 11 2026. No macro, syntax, notation, axiom, sorry.
-/
import Derived.Test.YtfkniabfojedkaaChecked
import GoSem.Claim
import GoSem.ClaimJoined
import GoSem.ClaimMapViews
import Derived.JoinedTies
import Derived.KernelRfl
namespace Go.Proofs.Ytfkniabfojedkaa
/- THE CELL 'sum', in the pinned program and in every row, IS THE sha256 OF THE DUMP (.gsa) THAT YtfkniabfojedkaaProg.lean LOADS. Nothing in Lean hashes anything: it is a label: what it is worth is what the hold of that sum in a sandbox is worth. -/
noncomputable def Try.pinned : Pinned := { name := "ytfkniabfojedkaa", sum := "2e0bd7f703e59d93c8ddb4dfc3654eb59d76c118504709d9fce3d0ab7cb63647", checked := Try.checked }
namespace Rows
def none {H : Type} : Left H := { results := [], args := [] }

/-- 'laws.FnExactTotalCount': WHATEVER THE INPUT: true; the input reads as it did. -/
def fnExactTotalCountSpec : ChangeSpec := { name := "fnExactTotalCount", fn := fun _ => fun
  | [d] => { results := [.lit (.bool true)], args := [d] }
  | _ => none }
def fnExactTotalCountRow : OpenClaim := { program := "ytfkniabfojedkaa", sum := "2e0bd7f703e59d93c8ddb4dfc3654eb59d76c118504709d9fce3d0ab7cb63647", func := "loop.example/g00728/laws.FnExactTotalCount", spec := "fnExactTotalCount", apart := false }
def FnExactTotalCountSaid : Prop := fnExactTotalCountRow.holds Try.pinned (OpenSpec.ofChange fnExactTotalCountSpec)

/-- ITS FALSE NEIGHBOUR: 'it returns false'. Refute it at one input. -/
def fnExactTotalCountWrong : ChangeSpec := { name := "fnExactTotalCount", fn := fun _ => fun
  | [d] => { results := [.lit (.bool false)], args := [d] }
  | _ => none }
def FnExactTotalCountWrongFalsely : Prop := fnExactTotalCountRow.holds Try.pinned (OpenSpec.ofChange fnExactTotalCountWrong)

/-- 'laws.FnExactSameAggs': WHATEVER THE INPUT: true; the input reads as it did. -/
def fnExactSameAggsSpec : ChangeSpec := { name := "fnExactSameAggs", fn := fun _ => fun
  | [d1, d2] => { results := [.lit (.bool true)], args := [d1, d2] }
  | _ => none }
def fnExactSameAggsRow : OpenClaim := { program := "ytfkniabfojedkaa", sum := "2e0bd7f703e59d93c8ddb4dfc3654eb59d76c118504709d9fce3d0ab7cb63647", func := "loop.example/g00728/laws.FnExactSameAggs", spec := "fnExactSameAggs", apart := false }
def FnExactSameAggsSaid : Prop := fnExactSameAggsRow.holds Try.pinned (OpenSpec.ofChange fnExactSameAggsSpec)

/-- ITS FALSE NEIGHBOUR: 'it returns false'. Refute it at one input. -/
def fnExactSameAggsWrong : ChangeSpec := { name := "fnExactSameAggs", fn := fun _ => fun
  | [d1, d2] => { results := [.lit (.bool false)], args := [d1, d2] }
  | _ => none }
def FnExactSameAggsWrongFalsely : Prop := fnExactSameAggsRow.holds Try.pinned (OpenSpec.ofChange fnExactSameAggsWrong)

/-- 'laws.FnExactMergeLists': WHATEVER THE INPUT: true; the input reads as it did. -/
def fnExactMergeListsSpec : ChangeSpec := { name := "fnExactMergeLists", fn := fun _ => fun
  | [d1, d2] => { results := [.lit (.bool true)], args := [d1, d2] }
  | _ => none }
def fnExactMergeListsRow : OpenClaim := { program := "ytfkniabfojedkaa", sum := "2e0bd7f703e59d93c8ddb4dfc3654eb59d76c118504709d9fce3d0ab7cb63647", func := "loop.example/g00728/laws.FnExactMergeLists", spec := "fnExactMergeLists", unfollowed := true, recurses := true, leaving := true, apart := false }
def FnExactMergeListsSaid : Prop := fnExactMergeListsRow.holds Try.pinned (OpenSpec.ofChange fnExactMergeListsSpec)

/-- ITS FALSE NEIGHBOUR: 'it returns false'. Refute it at one input. -/
def fnExactMergeListsWrong : ChangeSpec := { name := "fnExactMergeLists", fn := fun _ => fun
  | [d1, d2] => { results := [.lit (.bool false)], args := [d1, d2] }
  | _ => none }
def FnExactMergeListsWrongFalsely : Prop := fnExactMergeListsRow.holds Try.pinned (OpenSpec.ofChange fnExactMergeListsWrong)

/-- 'laws.FnExactKeyTotals': WHATEVER THE INPUT: true; the input reads as it did. -/
def fnExactKeyTotalsSpec : ChangeSpec := { name := "fnExactKeyTotals", fn := fun _ => fun
  | [d] => { results := [.lit (.bool true)], args := [d] }
  | _ => none }
def fnExactKeyTotalsRow : OpenClaim := { program := "ytfkniabfojedkaa", sum := "2e0bd7f703e59d93c8ddb4dfc3654eb59d76c118504709d9fce3d0ab7cb63647", func := "loop.example/g00728/laws.FnExactKeyTotals", spec := "fnExactKeyTotals", unfollowed := true, recurses := true, leaving := true, apart := false }
def FnExactKeyTotalsSaid : Prop := fnExactKeyTotalsRow.holds Try.pinned (OpenSpec.ofChange fnExactKeyTotalsSpec)

/-- ITS FALSE NEIGHBOUR: 'it returns false'. Refute it at one input. -/
def fnExactKeyTotalsWrong : ChangeSpec := { name := "fnExactKeyTotals", fn := fun _ => fun
  | [d] => { results := [.lit (.bool false)], args := [d] }
  | _ => none }
def FnExactKeyTotalsWrongFalsely : Prop := fnExactKeyTotalsRow.holds Try.pinned (OpenSpec.ofChange fnExactKeyTotalsWrong)

/-- 'laws.FnExactFoldAll': WHATEVER THE INPUT: true; the input reads as it did. -/
def fnExactFoldAllSpec : ChangeSpec := { name := "fnExactFoldAll", fn := fun _ => fun
  | [d1, d2] => { results := [.lit (.bool true)], args := [d1, d2] }
  | _ => none }
def fnExactFoldAllRow : OpenClaim := { program := "ytfkniabfojedkaa", sum := "2e0bd7f703e59d93c8ddb4dfc3654eb59d76c118504709d9fce3d0ab7cb63647", func := "loop.example/g00728/laws.FnExactFoldAll", spec := "fnExactFoldAll", unfollowed := true, recurses := true, leaving := true, apart := false }
def FnExactFoldAllSaid : Prop := fnExactFoldAllRow.holds Try.pinned (OpenSpec.ofChange fnExactFoldAllSpec)

/-- ITS FALSE NEIGHBOUR: 'it returns false'. Refute it at one input. -/
def fnExactFoldAllWrong : ChangeSpec := { name := "fnExactFoldAll", fn := fun _ => fun
  | [d1, d2] => { results := [.lit (.bool false)], args := [d1, d2] }
  | _ => none }
def FnExactFoldAllWrongFalsely : Prop := fnExactFoldAllRow.holds Try.pinned (OpenSpec.ofChange fnExactFoldAllWrong)

/-- 'laws.FnExactEmittedOnce': WHATEVER THE INPUT: true; the input reads as it did. -/
def fnExactEmittedOnceSpec : ChangeSpec := { name := "fnExactEmittedOnce", fn := fun _ => fun
  | [d] => { results := [.lit (.bool true)], args := [d] }
  | _ => none }
def fnExactEmittedOnceRow : OpenClaim := { program := "ytfkniabfojedkaa", sum := "2e0bd7f703e59d93c8ddb4dfc3654eb59d76c118504709d9fce3d0ab7cb63647", func := "loop.example/g00728/laws.FnExactEmittedOnce", spec := "fnExactEmittedOnce", inPlace := ["(*sync.WaitGroup).Add", "internal/race.ReleaseMerge", "internal/race.Disable", "internal/race.Enable", "internal/synctest.IsInBubble", "internal/synctest.Associate[sync.WaitGroup]", "sync.fatal", "sync/atomic.OrUint64", "sync/atomic.AddUint64", "internal/race.Read", "sync/atomic.LoadUint64", "sync/atomic.StoreUint64", "internal/synctest.Disassociate[sync.WaitGroup]", "sync.runtime_Semrelease", "(*sync.WaitGroup).Done", "(*sync.WaitGroup).Wait", "internal/race.Acquire", "internal/synctest.IsAssociated[sync.WaitGroup]", "sync/atomic.CompareAndSwapUint64", "internal/race.Write", "sync.runtime_SemacquireWaitGroup"], unfollowed := true, recurses := true, leaving := true, apart := false }
def FnExactEmittedOnceSaid : Prop := fnExactEmittedOnceRow.holds Try.pinned (OpenSpec.ofChange fnExactEmittedOnceSpec)

/-- ITS FALSE NEIGHBOUR: 'it returns false'. Refute it at one input. -/
def fnExactEmittedOnceWrong : ChangeSpec := { name := "fnExactEmittedOnce", fn := fun _ => fun
  | [d] => { results := [.lit (.bool false)], args := [d] }
  | _ => none }
def FnExactEmittedOnceWrongFalsely : Prop := fnExactEmittedOnceRow.holds Try.pinned (OpenSpec.ofChange fnExactEmittedOnceWrong)

/-- 'laws.FnExactEmittedInOrder': WHATEVER THE INPUT: true; the input reads as it did. -/
def fnExactEmittedInOrderSpec : ChangeSpec := { name := "fnExactEmittedInOrder", fn := fun _ => fun
  | [d1, d2] => { results := [.lit (.bool true)], args := [d1, d2] }
  | _ => none }
def fnExactEmittedInOrderRow : OpenClaim := { program := "ytfkniabfojedkaa", sum := "2e0bd7f703e59d93c8ddb4dfc3654eb59d76c118504709d9fce3d0ab7cb63647", func := "loop.example/g00728/laws.FnExactEmittedInOrder", spec := "fnExactEmittedInOrder", inPlace := ["(*sync.WaitGroup).Add", "internal/race.ReleaseMerge", "internal/race.Disable", "internal/race.Enable", "internal/synctest.IsInBubble", "internal/synctest.Associate[sync.WaitGroup]", "sync.fatal", "sync/atomic.OrUint64", "sync/atomic.AddUint64", "internal/race.Read", "sync/atomic.LoadUint64", "sync/atomic.StoreUint64", "internal/synctest.Disassociate[sync.WaitGroup]", "sync.runtime_Semrelease", "(*sync.WaitGroup).Done", "(*sync.WaitGroup).Wait", "internal/race.Acquire", "internal/synctest.IsAssociated[sync.WaitGroup]", "sync/atomic.CompareAndSwapUint64", "internal/race.Write", "sync.runtime_SemacquireWaitGroup"], unfollowed := true, recurses := true, leaving := true, apart := false }
def FnExactEmittedInOrderSaid : Prop := fnExactEmittedInOrderRow.holds Try.pinned (OpenSpec.ofChange fnExactEmittedInOrderSpec)

/-- ITS FALSE NEIGHBOUR: 'it returns false'. Refute it at one input. -/
def fnExactEmittedInOrderWrong : ChangeSpec := { name := "fnExactEmittedInOrder", fn := fun _ => fun
  | [d1, d2] => { results := [.lit (.bool false)], args := [d1, d2] }
  | _ => none }
def FnExactEmittedInOrderWrongFalsely : Prop := fnExactEmittedInOrderRow.holds Try.pinned (OpenSpec.ofChange fnExactEmittedInOrderWrong)

/-- 'laws.FnExactInTime': WHATEVER THE INPUT: true; the input reads as it did. -/
def fnExactInTimeSpec : ChangeSpec := { name := "fnExactInTime", fn := fun _ => fun
  | [d1, d2, d3] => { results := [.lit (.bool true)], args := [d1, d2, d3] }
  | _ => none }
def fnExactInTimeRow : OpenClaim := { program := "ytfkniabfojedkaa", sum := "2e0bd7f703e59d93c8ddb4dfc3654eb59d76c118504709d9fce3d0ab7cb63647", func := "loop.example/g00728/laws.FnExactInTime", spec := "fnExactInTime", inPlace := ["(*sync.WaitGroup).Add", "internal/race.ReleaseMerge", "internal/race.Disable", "internal/race.Enable", "internal/synctest.IsInBubble", "internal/synctest.Associate[sync.WaitGroup]", "sync.fatal", "sync/atomic.OrUint64", "sync/atomic.AddUint64", "internal/race.Read", "sync/atomic.LoadUint64", "sync/atomic.StoreUint64", "internal/synctest.Disassociate[sync.WaitGroup]", "sync.runtime_Semrelease", "(*sync.WaitGroup).Done", "(*sync.WaitGroup).Wait", "internal/race.Acquire", "internal/synctest.IsAssociated[sync.WaitGroup]", "sync/atomic.CompareAndSwapUint64", "internal/race.Write", "sync.runtime_SemacquireWaitGroup"], unfollowed := true, recurses := true, leaving := true, apart := false }
def FnExactInTimeSaid : Prop := fnExactInTimeRow.holds Try.pinned (OpenSpec.ofChange fnExactInTimeSpec)

/-- ITS FALSE NEIGHBOUR: 'it returns false'. Refute it at one input. -/
def fnExactInTimeWrong : ChangeSpec := { name := "fnExactInTime", fn := fun _ => fun
  | [d1, d2, d3] => { results := [.lit (.bool false)], args := [d1, d2, d3] }
  | _ => none }
def FnExactInTimeWrongFalsely : Prop := fnExactInTimeRow.holds Try.pinned (OpenSpec.ofChange fnExactInTimeWrong)

/- THE SECOND FORM. 'bulk': how many values and letters a reading holds, each counted each time it is reached (what is shared counts as often as it is met; a slice's spare places count too). A statement '..UptoSaid' is the law's where the arguments, and the package variables that the reading takes, are together of bulk at most 1048576: NARROWER than '..Said'. Prove '..Said' where nothing that the law and all that it calls make is longer than what came in: it says more and counts as full. Else prove '..UptoSaid'. A law counts once. -/
mutual
def uptoBulk {H : Type} : DataW H → Nat
  | .lit (.string bytes) => bytes.length + 1
  | .lit _ => 1
  | .nil => 1
  | .ptr d => uptoBulk d + 1
  | .slice elems spare => uptoBulkAll elems + uptoBulkAll spare + 1
  | .agg parts => uptoBulkAll parts + 1
  | .iface _ d => uptoBulk d + 1
  | .map entries => uptoBulkEntries entries + 1
  | .held _ => 1
def uptoBulkAll {H : Type} : List (DataW H) → Nat
  | [] => 0
  | d :: r => uptoBulk d + uptoBulkAll r
def uptoBulkEntries {H : Type} : List (Lit × DataW H) → Nat
  | [] => 0
  | x :: r => uptoBulkEntry x + uptoBulkEntries r
def uptoBulkEntry {H : Type} : Lit × DataW H → Nat
  | (.string bytes, d) => bytes.length + uptoBulk d + 1
  | (_, d) => uptoBulk d + 1
 end
def uptoSmall : (H : Type) → List (DataW H) → Bool := fun _ ds => decide (uptoBulkAll ds ≤ 1048576)
def OpenSpec.upto (s : _root_.Go.ChangeSpec) : _root_.Go.OpenSpec := { _root_.Go.OpenSpec.ofChange s with cond := some uptoSmall }

/-- 'laws.FnExactTotalCount', WHERE WHAT IT READS IS OF BULK AT MOST 1048576: true; the input reads as it did. -/
def fnExactTotalCountUptoRow : OpenClaim := { program := "ytfkniabfojedkaa", sum := "2e0bd7f703e59d93c8ddb4dfc3654eb59d76c118504709d9fce3d0ab7cb63647", func := "loop.example/g00728/laws.FnExactTotalCount", spec := "fnExactTotalCount", apart := false, narrowed := true }
def FnExactTotalCountUptoSaid : Prop := fnExactTotalCountUptoRow.holds Try.pinned (OpenSpec.upto fnExactTotalCountSpec)

/-- 'laws.FnExactSameAggs', WHERE WHAT IT READS IS OF BULK AT MOST 1048576: true; the input reads as it did. -/
def fnExactSameAggsUptoRow : OpenClaim := { program := "ytfkniabfojedkaa", sum := "2e0bd7f703e59d93c8ddb4dfc3654eb59d76c118504709d9fce3d0ab7cb63647", func := "loop.example/g00728/laws.FnExactSameAggs", spec := "fnExactSameAggs", apart := false, narrowed := true }
def FnExactSameAggsUptoSaid : Prop := fnExactSameAggsUptoRow.holds Try.pinned (OpenSpec.upto fnExactSameAggsSpec)

/-- 'laws.FnExactMergeLists', WHERE WHAT IT READS IS OF BULK AT MOST 1048576: true; the input reads as it did. -/
def fnExactMergeListsUptoRow : OpenClaim := { program := "ytfkniabfojedkaa", sum := "2e0bd7f703e59d93c8ddb4dfc3654eb59d76c118504709d9fce3d0ab7cb63647", func := "loop.example/g00728/laws.FnExactMergeLists", spec := "fnExactMergeLists", unfollowed := true, recurses := true, leaving := true, apart := false, narrowed := true }
def FnExactMergeListsUptoSaid : Prop := fnExactMergeListsUptoRow.holds Try.pinned (OpenSpec.upto fnExactMergeListsSpec)

/-- 'laws.FnExactKeyTotals', WHERE WHAT IT READS IS OF BULK AT MOST 1048576: true; the input reads as it did. -/
def fnExactKeyTotalsUptoRow : OpenClaim := { program := "ytfkniabfojedkaa", sum := "2e0bd7f703e59d93c8ddb4dfc3654eb59d76c118504709d9fce3d0ab7cb63647", func := "loop.example/g00728/laws.FnExactKeyTotals", spec := "fnExactKeyTotals", unfollowed := true, recurses := true, leaving := true, apart := false, narrowed := true }
def FnExactKeyTotalsUptoSaid : Prop := fnExactKeyTotalsUptoRow.holds Try.pinned (OpenSpec.upto fnExactKeyTotalsSpec)

/-- 'laws.FnExactFoldAll', WHERE WHAT IT READS IS OF BULK AT MOST 1048576: true; the input reads as it did. -/
def fnExactFoldAllUptoRow : OpenClaim := { program := "ytfkniabfojedkaa", sum := "2e0bd7f703e59d93c8ddb4dfc3654eb59d76c118504709d9fce3d0ab7cb63647", func := "loop.example/g00728/laws.FnExactFoldAll", spec := "fnExactFoldAll", unfollowed := true, recurses := true, leaving := true, apart := false, narrowed := true }
def FnExactFoldAllUptoSaid : Prop := fnExactFoldAllUptoRow.holds Try.pinned (OpenSpec.upto fnExactFoldAllSpec)

/-- 'laws.FnExactEmittedOnce', WHERE WHAT IT READS IS OF BULK AT MOST 1048576: true; the input reads as it did. -/
def fnExactEmittedOnceUptoRow : OpenClaim := { program := "ytfkniabfojedkaa", sum := "2e0bd7f703e59d93c8ddb4dfc3654eb59d76c118504709d9fce3d0ab7cb63647", func := "loop.example/g00728/laws.FnExactEmittedOnce", spec := "fnExactEmittedOnce", inPlace := ["(*sync.WaitGroup).Add", "internal/race.ReleaseMerge", "internal/race.Disable", "internal/race.Enable", "internal/synctest.IsInBubble", "internal/synctest.Associate[sync.WaitGroup]", "sync.fatal", "sync/atomic.OrUint64", "sync/atomic.AddUint64", "internal/race.Read", "sync/atomic.LoadUint64", "sync/atomic.StoreUint64", "internal/synctest.Disassociate[sync.WaitGroup]", "sync.runtime_Semrelease", "(*sync.WaitGroup).Done", "(*sync.WaitGroup).Wait", "internal/race.Acquire", "internal/synctest.IsAssociated[sync.WaitGroup]", "sync/atomic.CompareAndSwapUint64", "internal/race.Write", "sync.runtime_SemacquireWaitGroup"], unfollowed := true, recurses := true, leaving := true, apart := false, narrowed := true }
def FnExactEmittedOnceUptoSaid : Prop := fnExactEmittedOnceUptoRow.holds Try.pinned (OpenSpec.upto fnExactEmittedOnceSpec)

/-- 'laws.FnExactEmittedInOrder', WHERE WHAT IT READS IS OF BULK AT MOST 1048576: true; the input reads as it did. -/
def fnExactEmittedInOrderUptoRow : OpenClaim := { program := "ytfkniabfojedkaa", sum := "2e0bd7f703e59d93c8ddb4dfc3654eb59d76c118504709d9fce3d0ab7cb63647", func := "loop.example/g00728/laws.FnExactEmittedInOrder", spec := "fnExactEmittedInOrder", inPlace := ["(*sync.WaitGroup).Add", "internal/race.ReleaseMerge", "internal/race.Disable", "internal/race.Enable", "internal/synctest.IsInBubble", "internal/synctest.Associate[sync.WaitGroup]", "sync.fatal", "sync/atomic.OrUint64", "sync/atomic.AddUint64", "internal/race.Read", "sync/atomic.LoadUint64", "sync/atomic.StoreUint64", "internal/synctest.Disassociate[sync.WaitGroup]", "sync.runtime_Semrelease", "(*sync.WaitGroup).Done", "(*sync.WaitGroup).Wait", "internal/race.Acquire", "internal/synctest.IsAssociated[sync.WaitGroup]", "sync/atomic.CompareAndSwapUint64", "internal/race.Write", "sync.runtime_SemacquireWaitGroup"], unfollowed := true, recurses := true, leaving := true, apart := false, narrowed := true }
def FnExactEmittedInOrderUptoSaid : Prop := fnExactEmittedInOrderUptoRow.holds Try.pinned (OpenSpec.upto fnExactEmittedInOrderSpec)

/-- 'laws.FnExactInTime', WHERE WHAT IT READS IS OF BULK AT MOST 1048576: true; the input reads as it did. -/
def fnExactInTimeUptoRow : OpenClaim := { program := "ytfkniabfojedkaa", sum := "2e0bd7f703e59d93c8ddb4dfc3654eb59d76c118504709d9fce3d0ab7cb63647", func := "loop.example/g00728/laws.FnExactInTime", spec := "fnExactInTime", inPlace := ["(*sync.WaitGroup).Add", "internal/race.ReleaseMerge", "internal/race.Disable", "internal/race.Enable", "internal/synctest.IsInBubble", "internal/synctest.Associate[sync.WaitGroup]", "sync.fatal", "sync/atomic.OrUint64", "sync/atomic.AddUint64", "internal/race.Read", "sync/atomic.LoadUint64", "sync/atomic.StoreUint64", "internal/synctest.Disassociate[sync.WaitGroup]", "sync.runtime_Semrelease", "(*sync.WaitGroup).Done", "(*sync.WaitGroup).Wait", "internal/race.Acquire", "internal/synctest.IsAssociated[sync.WaitGroup]", "sync/atomic.CompareAndSwapUint64", "internal/race.Write", "sync.runtime_SemacquireWaitGroup"], unfollowed := true, recurses := true, leaving := true, apart := false, narrowed := true }
def FnExactInTimeUptoSaid : Prop := fnExactInTimeUptoRow.holds Try.pinned (OpenSpec.upto fnExactInTimeSpec)

end Rows
end Go.Proofs.Ytfkniabfojedkaa
