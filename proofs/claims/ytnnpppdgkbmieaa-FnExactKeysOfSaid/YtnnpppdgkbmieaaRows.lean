/-
  No cell of these rows narrows 'for every input' (looked for: loops, veiled, ifaces, maps, wideKeys, modest, calm, conditions, laid).
  DERIVED. THE GIVEN ROWS OF THIS SEAT. 6 by the template 'for every input the law returns true; each argument reads behind the call as it read before'; 0 by the template 'total and deterministic' (their statements: YtnnpppdgkbmieaaTotals.lean).
  GIVEN WITH THE SEED: the statements are not yours to turn. If you find one false, say at which input.
  Laid BY PROGRAM, IN A SANDBOX (cutbox-rows.mjs): the forced cells as the released guide's own fill.sh prints them over the translation b76f4c8c735461d4… (all of the seat's roots in one cut). By AI agents, Wed Nov 11 2026. No macro, syntax, notation, axiom, sorry.
-/
import Derived.Test.YtnnpppdgkbmieaaChecked
import GoSem.Claim
import GoSem.ClaimJoined
import GoSem.ClaimMapViews
import Derived.JoinedTies
import Derived.KernelRfl
namespace Go.Proofs.Ytnnpppdgkbmieaa
/- THE CELL 'sum', in the pinned program and in every row, IS THE sha256 OF THE DUMP (.gsa) THAT YtnnpppdgkbmieaaProg.lean LOADS. Nothing in Lean hashes anything: it is a label: what it is worth is what the hold of that sum in a sandbox is worth. -/
noncomputable def Try.pinned : Pinned := { name := "ytnnpppdgkbmieaa", sum := "b76f4c8c735461d41a76ae5b0f801aa9b326f51c41138924f75b90f1112d5283", checked := Try.checked }
namespace Rows
def none {H : Type} : Left H := { results := [], args := [] }

/-- 'laws.FnExactAddEvent': WHATEVER THE INPUT: true; the input reads as it did. -/
def fnExactAddEventSpec : ChangeSpec := { name := "fnExactAddEvent", fn := fun _ => fun
  | [d1, d2, d3, d4] => { results := [.lit (.bool true)], args := [d1, d2, d3, d4] }
  | _ => none }
def fnExactAddEventRow : OpenClaim := { program := "ytnnpppdgkbmieaa", sum := "b76f4c8c735461d41a76ae5b0f801aa9b326f51c41138924f75b90f1112d5283", func := "loop.example/g00728/laws.FnExactAddEvent", spec := "fnExactAddEvent", inPlace := ["slices.overlaps[loop.example/g00728/impl.Agg]"], unfollowed := true, recurses := true, apart := false }
def FnExactAddEventSaid : Prop := fnExactAddEventRow.holds Try.pinned (OpenSpec.ofChange fnExactAddEventSpec)

/-- ITS FALSE NEIGHBOUR: 'it returns false'. Refute it at one input. -/
def fnExactAddEventWrong : ChangeSpec := { name := "fnExactAddEvent", fn := fun _ => fun
  | [d1, d2, d3, d4] => { results := [.lit (.bool false)], args := [d1, d2, d3, d4] }
  | _ => none }
def FnExactAddEventWrongFalsely : Prop := fnExactAddEventRow.holds Try.pinned (OpenSpec.ofChange fnExactAddEventWrong)

/-- 'laws.FnExactClosedOf': WHATEVER THE INPUT: true; the input reads as it did. -/
def fnExactClosedOfSpec : ChangeSpec := { name := "fnExactClosedOf", fn := fun _ => fun
  | [d1, d2] => { results := [.lit (.bool true)], args := [d1, d2] }
  | _ => none }
def fnExactClosedOfRow : OpenClaim := { program := "ytnnpppdgkbmieaa", sum := "b76f4c8c735461d41a76ae5b0f801aa9b326f51c41138924f75b90f1112d5283", func := "loop.example/g00728/laws.FnExactClosedOf", spec := "fnExactClosedOf", unfollowed := true, recurses := true, apart := false }
def FnExactClosedOfSaid : Prop := fnExactClosedOfRow.holds Try.pinned (OpenSpec.ofChange fnExactClosedOfSpec)

/-- ITS FALSE NEIGHBOUR: 'it returns false'. Refute it at one input. -/
def fnExactClosedOfWrong : ChangeSpec := { name := "fnExactClosedOf", fn := fun _ => fun
  | [d1, d2] => { results := [.lit (.bool false)], args := [d1, d2] }
  | _ => none }
def FnExactClosedOfWrongFalsely : Prop := fnExactClosedOfRow.holds Try.pinned (OpenSpec.ofChange fnExactClosedOfWrong)

/-- 'laws.FnExactTakeClosed': WHATEVER THE INPUT: true; the input reads as it did. -/
def fnExactTakeClosedSpec : ChangeSpec := { name := "fnExactTakeClosed", fn := fun _ => fun
  | [d1, d2, d3] => { results := [.lit (.bool true)], args := [d1, d2, d3] }
  | _ => none }
def fnExactTakeClosedRow : OpenClaim := { program := "ytnnpppdgkbmieaa", sum := "b76f4c8c735461d41a76ae5b0f801aa9b326f51c41138924f75b90f1112d5283", func := "loop.example/g00728/laws.FnExactTakeClosed", spec := "fnExactTakeClosed", unfollowed := true, recurses := true, apart := false }
def FnExactTakeClosedSaid : Prop := fnExactTakeClosedRow.holds Try.pinned (OpenSpec.ofChange fnExactTakeClosedSpec)

/-- ITS FALSE NEIGHBOUR: 'it returns false'. Refute it at one input. -/
def fnExactTakeClosedWrong : ChangeSpec := { name := "fnExactTakeClosed", fn := fun _ => fun
  | [d1, d2, d3] => { results := [.lit (.bool false)], args := [d1, d2, d3] }
  | _ => none }
def FnExactTakeClosedWrongFalsely : Prop := fnExactTakeClosedRow.holds Try.pinned (OpenSpec.ofChange fnExactTakeClosedWrong)

/-- 'laws.FnExactDefaultSetup': WHATEVER THE INPUT: true; the input reads as it did. -/
def fnExactDefaultSetupSpec : ChangeSpec := { name := "fnExactDefaultSetup", fn := fun _ => fun
  | [] => { results := [.lit (.bool true)], args := [] }
  | _ => none }
def fnExactDefaultSetupRow : OpenClaim := { program := "ytnnpppdgkbmieaa", sum := "b76f4c8c735461d41a76ae5b0f801aa9b326f51c41138924f75b90f1112d5283", func := "loop.example/g00728/laws.FnExactDefaultSetup", spec := "fnExactDefaultSetup", apart := false }
def FnExactDefaultSetupSaid : Prop := fnExactDefaultSetupRow.holds Try.pinned (OpenSpec.ofChange fnExactDefaultSetupSpec)

/-- ITS FALSE NEIGHBOUR: 'it returns false'. Refute it at one input. -/
def fnExactDefaultSetupWrong : ChangeSpec := { name := "fnExactDefaultSetup", fn := fun _ => fun
  | [] => { results := [.lit (.bool false)], args := [] }
  | _ => none }
def FnExactDefaultSetupWrongFalsely : Prop := fnExactDefaultSetupRow.holds Try.pinned (OpenSpec.ofChange fnExactDefaultSetupWrong)

/-- 'laws.FnExactShardOf': WHATEVER THE INPUT: true; the input reads as it did. -/
def fnExactShardOfSpec : ChangeSpec := { name := "fnExactShardOf", fn := fun _ => fun
  | [d1, d2] => { results := [.lit (.bool true)], args := [d1, d2] }
  | _ => none }
def fnExactShardOfRow : OpenClaim := { program := "ytnnpppdgkbmieaa", sum := "b76f4c8c735461d41a76ae5b0f801aa9b326f51c41138924f75b90f1112d5283", func := "loop.example/g00728/laws.FnExactShardOf", spec := "fnExactShardOf", apart := false }
def FnExactShardOfSaid : Prop := fnExactShardOfRow.holds Try.pinned (OpenSpec.ofChange fnExactShardOfSpec)

/-- ITS FALSE NEIGHBOUR: 'it returns false'. Refute it at one input. -/
def fnExactShardOfWrong : ChangeSpec := { name := "fnExactShardOf", fn := fun _ => fun
  | [d1, d2] => { results := [.lit (.bool false)], args := [d1, d2] }
  | _ => none }
def FnExactShardOfWrongFalsely : Prop := fnExactShardOfRow.holds Try.pinned (OpenSpec.ofChange fnExactShardOfWrong)

/-- 'laws.FnExactKeysOf': WHATEVER THE INPUT: true; the input reads as it did. -/
def fnExactKeysOfSpec : ChangeSpec := { name := "fnExactKeysOf", fn := fun _ => fun
  | [d1, d2, d3] => { results := [.lit (.bool true)], args := [d1, d2, d3] }
  | _ => none }
def fnExactKeysOfRow : OpenClaim := { program := "ytnnpppdgkbmieaa", sum := "b76f4c8c735461d41a76ae5b0f801aa9b326f51c41138924f75b90f1112d5283", func := "loop.example/g00728/laws.FnExactKeysOf", spec := "fnExactKeysOf", apart := false }
def FnExactKeysOfSaid : Prop := fnExactKeysOfRow.holds Try.pinned (OpenSpec.ofChange fnExactKeysOfSpec)

/-- ITS FALSE NEIGHBOUR: 'it returns false'. Refute it at one input. -/
def fnExactKeysOfWrong : ChangeSpec := { name := "fnExactKeysOf", fn := fun _ => fun
  | [d1, d2, d3] => { results := [.lit (.bool false)], args := [d1, d2, d3] }
  | _ => none }
def FnExactKeysOfWrongFalsely : Prop := fnExactKeysOfRow.holds Try.pinned (OpenSpec.ofChange fnExactKeysOfWrong)

/- THE SECOND FORM. 'bulk': how many values and letters a reading holds, each counted each time it is reached (what is shared counts as often as it is met; a slice's spare places count too). A statement '..UptoSaid' is the law's where the arguments, and the package variables that the reading takes, are together of bulk at most 1048576: NARROWER than '..Said'. Prove '..Said' where nothing that the law and all that it calls make is longer than what came in: it says more and counts as full. Else prove '..UptoSaid'. A law counts once. -/
mutual
def uptoBulk {H : Type} : DataW H → Nat
  | .lit (.string bytes) => bytes.length + 1
  | .lit _ => 1
  | .nil => 1
  | .ptr d => uptoBulk d + 1
  | .slice elems spare => uptoBulkAll elems + uptoBulkAll spare + 1
  | .agg parts => uptoBulkAll parts + 1
  | .iface _ d => uptoBulk d + 1
  | .map entries => uptoBulkEntries entries + 1
  | .held _ => 1
def uptoBulkAll {H : Type} : List (DataW H) → Nat
  | [] => 0
  | d :: r => uptoBulk d + uptoBulkAll r
def uptoBulkEntries {H : Type} : List (Lit × DataW H) → Nat
  | [] => 0
  | x :: r => uptoBulkEntry x + uptoBulkEntries r
def uptoBulkEntry {H : Type} : Lit × DataW H → Nat
  | (.string bytes, d) => bytes.length + uptoBulk d + 1
  | (_, d) => uptoBulk d + 1
 end
def uptoSmall : (H : Type) → List (DataW H) → Bool := fun _ ds => decide (uptoBulkAll ds ≤ 1048576)
def OpenSpec.upto (s : _root_.Go.ChangeSpec) : _root_.Go.OpenSpec := { _root_.Go.OpenSpec.ofChange s with cond := some uptoSmall }

/-- 'laws.FnExactAddEvent', WHERE WHAT IT READS IS OF BULK AT MOST 1048576: true; the input reads as it did. -/
def fnExactAddEventUptoRow : OpenClaim := { program := "ytnnpppdgkbmieaa", sum := "b76f4c8c735461d41a76ae5b0f801aa9b326f51c41138924f75b90f1112d5283", func := "loop.example/g00728/laws.FnExactAddEvent", spec := "fnExactAddEvent", inPlace := ["slices.overlaps[loop.example/g00728/impl.Agg]"], unfollowed := true, recurses := true, apart := false, narrowed := true }
def FnExactAddEventUptoSaid : Prop := fnExactAddEventUptoRow.holds Try.pinned (OpenSpec.upto fnExactAddEventSpec)

/-- 'laws.FnExactClosedOf', WHERE WHAT IT READS IS OF BULK AT MOST 1048576: true; the input reads as it did. -/
def fnExactClosedOfUptoRow : OpenClaim := { program := "ytnnpppdgkbmieaa", sum := "b76f4c8c735461d41a76ae5b0f801aa9b326f51c41138924f75b90f1112d5283", func := "loop.example/g00728/laws.FnExactClosedOf", spec := "fnExactClosedOf", unfollowed := true, recurses := true, apart := false, narrowed := true }
def FnExactClosedOfUptoSaid : Prop := fnExactClosedOfUptoRow.holds Try.pinned (OpenSpec.upto fnExactClosedOfSpec)

/-- 'laws.FnExactTakeClosed', WHERE WHAT IT READS IS OF BULK AT MOST 1048576: true; the input reads as it did. -/
def fnExactTakeClosedUptoRow : OpenClaim := { program := "ytnnpppdgkbmieaa", sum := "b76f4c8c735461d41a76ae5b0f801aa9b326f51c41138924f75b90f1112d5283", func := "loop.example/g00728/laws.FnExactTakeClosed", spec := "fnExactTakeClosed", unfollowed := true, recurses := true, apart := false, narrowed := true }
def FnExactTakeClosedUptoSaid : Prop := fnExactTakeClosedUptoRow.holds Try.pinned (OpenSpec.upto fnExactTakeClosedSpec)

/-- 'laws.FnExactDefaultSetup', WHERE WHAT IT READS IS OF BULK AT MOST 1048576: true; the input reads as it did. -/
def fnExactDefaultSetupUptoRow : OpenClaim := { program := "ytnnpppdgkbmieaa", sum := "b76f4c8c735461d41a76ae5b0f801aa9b326f51c41138924f75b90f1112d5283", func := "loop.example/g00728/laws.FnExactDefaultSetup", spec := "fnExactDefaultSetup", apart := false, narrowed := true }
def FnExactDefaultSetupUptoSaid : Prop := fnExactDefaultSetupUptoRow.holds Try.pinned (OpenSpec.upto fnExactDefaultSetupSpec)

/-- 'laws.FnExactShardOf', WHERE WHAT IT READS IS OF BULK AT MOST 1048576: true; the input reads as it did. -/
def fnExactShardOfUptoRow : OpenClaim := { program := "ytnnpppdgkbmieaa", sum := "b76f4c8c735461d41a76ae5b0f801aa9b326f51c41138924f75b90f1112d5283", func := "loop.example/g00728/laws.FnExactShardOf", spec := "fnExactShardOf", apart := false, narrowed := true }
def FnExactShardOfUptoSaid : Prop := fnExactShardOfUptoRow.holds Try.pinned (OpenSpec.upto fnExactShardOfSpec)

/-- 'laws.FnExactKeysOf', WHERE WHAT IT READS IS OF BULK AT MOST 1048576: true; the input reads as it did. -/
def fnExactKeysOfUptoRow : OpenClaim := { program := "ytnnpppdgkbmieaa", sum := "b76f4c8c735461d41a76ae5b0f801aa9b326f51c41138924f75b90f1112d5283", func := "loop.example/g00728/laws.FnExactKeysOf", spec := "fnExactKeysOf", apart := false, narrowed := true }
def FnExactKeysOfUptoSaid : Prop := fnExactKeysOfUptoRow.holds Try.pinned (OpenSpec.upto fnExactKeysOfSpec)

end Rows
end Go.Proofs.Ytnnpppdgkbmieaa
