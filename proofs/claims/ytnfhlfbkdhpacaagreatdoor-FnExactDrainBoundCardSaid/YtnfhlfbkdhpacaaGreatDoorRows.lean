/-
  NARROWER THAN 'FOR EVERY INPUT', by the rows' own cells (each row's printed sentence says how): FnExactRoundOps: ifaces, laid · FnExactFramesLeft: ifaces, laid · FnExactDrainBound: ifaces, laid · FnExactStuckAt: ifaces, laid · FnExactAtRest: ifaces, laid.
  DERIVED. THE GIVEN ROWS OF THIS SEAT. 5 by the template 'for every input the law returns true; each argument reads behind the call as it read before'; 0 by the template 'total and deterministic' (their statements: YtnfhlfbkdhpacaaGreatDoorTotals.lean).
  GIVEN WITH THE SEED: the statements are not yours to turn. If you find one false, say at which input.
  Laid BY PROGRAM, IN A SANDBOX (cutbox-rows.mjs): the forced cells as the released guide's own fill.sh prints them over the translation 1d93c30ab28b958f… (all of the seat's roots in one cut). By AI agents, Wed Nov 11 2026. No macro, syntax, notation, axiom, sorry.
-/
import Derived.Test.YtnfhlfbkdhpacaaGreatDoorChecked
import GoSem.Claim
import GoSem.ClaimJoined
import GoSem.ClaimMapViews
import Derived.JoinedTies
import Derived.KernelRfl
namespace Go.Proofs.YtnfhlfbkdhpacaaGreatDoor
/- THE CELL 'sum', in the pinned program and in every row, IS THE sha256 OF THE DUMP (.gsa) THAT YtnfhlfbkdhpacaaGreatDoorProg.lean LOADS. Nothing in Lean hashes anything: it is a label: what it is worth is what the hold of that sum in a sandbox is worth. -/
noncomputable def Tryz.pinned : Pinned := { name := "ytnfhlfbkdhpacaagreatdoor", sum := "1d93c30ab28b958f0f08df0a94aec007517f38ff4afd91847163a483cbd65d3c", checked := Tryz.checked }
namespace Rows
def none {H : Type} : Left H := { results := [], args := [] }

/- WHAT THE LISTED PACKAGE-LEVEL VARIABLES READ AS WHEN THE CALL BEGINS. Each datum BY PROGRAM (the guide's laid-datum.mjs) off the statement by which the dump's own 'gosem.cut.vars' lays the variable. In a bare row this is a premise. The card (YtnfhlfbkdhpacaaGreatDoorCards.lean) ties it to the program's text. -/
def laid_loop_example_g00728_impl_leastFields {H : Type} : DataW H := .agg [.lit (.int .i64 1), .lit (.int .i64 1), .lit (.int .i64 1), .lit (.int .i64 0), .lit (.int .i64 0), .lit (.int .i64 1), .lit (.int .i64 1), .lit (.int .i64 1), .lit (.int .i64 1)]
def laid_loop_example_g00728_impl_mostFields {H : Type} : DataW H := .agg [.lit (.int .i64 6), .lit (.int .i64 4), .lit (.int .i64 1000), .lit (.int .i64 1000), .lit (.int .i64 1000), .lit (.int .i64 20), .lit (.int .i64 20), .lit (.int .i64 20), .lit (.int .i64 40)]
def laid_loop_example_g00728_impl_errNoRound {H : Type} : DataW H := .iface "*errors.errorString" (.ptr (.agg [.lit (.string [110, 111, 32, 102, 97, 105, 114, 32, 114, 111, 117, 110, 100, 32, 99, 97, 110, 32, 98, 101, 32, 112, 108, 97, 121, 101, 100, 32, 104, 101, 114, 101])]))
def laid_loop_example_g00728_impl_errShort {H : Type} : DataW H := .iface "*errors.errorString" (.ptr (.agg [.lit (.string [116, 104, 101, 32, 98, 121, 116, 101, 115, 32, 101, 110, 100, 32, 105, 110, 115, 105, 100, 101, 32, 97, 32, 102, 114, 97, 109, 101])]))
def laid_loop_example_g00728_impl_errBent {H : Type} : DataW H := .iface "*errors.errorString" (.ptr (.agg [.lit (.string [110, 111, 32, 102, 114, 97, 109, 101, 32, 98, 101, 103, 105, 110, 115, 32, 119, 105, 116, 104, 32, 116, 104, 101, 115, 101, 32, 98, 121, 116, 101, 115])]))

/-- 'laws.FnExactRoundOps': WHATEVER THE INPUT: true; the input reads as it did. -/
def fnExactRoundOpsSpec : ChangeSpec := { name := "fnExactRoundOps", vars := ["loop.example/g00728/impl.errNoRound", "loop.example/g00728/impl.leastFields", "loop.example/g00728/impl.mostFields"], fn := fun _ => fun
  | [d, g1, g2, g3] => { results := [.lit (.bool true)], args := [d], vars := [g1, g2, g3] }
  | _ => none }
def fnExactRoundOpsRow : OpenClaim := { program := "ytnfhlfbkdhpacaagreatdoor", sum := "1d93c30ab28b958f0f08df0a94aec007517f38ff4afd91847163a483cbd65d3c", func := "loop.example/g00728/laws.FnExactRoundOps", spec := "fnExactRoundOps", unfollowed := true, recurses := true, named := ["loop.example/g00728/impl.errNoRound", "loop.example/g00728/impl.leastFields", "loop.example/g00728/impl.mostFields"], ifaces := true, apart := false, laid := [("loop.example/g00728/impl.leastFields", laid_loop_example_g00728_impl_leastFields), ("loop.example/g00728/impl.mostFields", laid_loop_example_g00728_impl_mostFields), ("loop.example/g00728/impl.errNoRound", laid_loop_example_g00728_impl_errNoRound)] }
def FnExactRoundOpsSaid : Prop := fnExactRoundOpsRow.holds Tryz.pinned (OpenSpec.ofChange fnExactRoundOpsSpec)

/-- ITS FALSE NEIGHBOUR: 'it returns false'. Refute it at one input. -/
def fnExactRoundOpsWrong : ChangeSpec := { name := "fnExactRoundOps", vars := ["loop.example/g00728/impl.errNoRound", "loop.example/g00728/impl.leastFields", "loop.example/g00728/impl.mostFields"], fn := fun _ => fun
  | [d, g1, g2, g3] => { results := [.lit (.bool false)], args := [d], vars := [g1, g2, g3] }
  | _ => none }
def FnExactRoundOpsWrongFalsely : Prop := fnExactRoundOpsRow.holds Tryz.pinned (OpenSpec.ofChange fnExactRoundOpsWrong)

/-- 'laws.FnExactFramesLeft': WHATEVER THE INPUT: true; the input reads as it did. -/
def fnExactFramesLeftSpec : ChangeSpec := { name := "fnExactFramesLeft", vars := ["loop.example/g00728/impl.errShort", "loop.example/g00728/impl.errBent"], fn := fun _ => fun
  | [d, g1, g2] => { results := [.lit (.bool true)], args := [d], vars := [g1, g2] }
  | _ => none }
def fnExactFramesLeftRow : OpenClaim := { program := "ytnfhlfbkdhpacaagreatdoor", sum := "1d93c30ab28b958f0f08df0a94aec007517f38ff4afd91847163a483cbd65d3c", func := "loop.example/g00728/laws.FnExactFramesLeft", spec := "fnExactFramesLeft", inPlace := ["internal/reflectlite.TypeOf"], unfollowed := true, recurses := true, named := ["loop.example/g00728/impl.errShort", "loop.example/g00728/impl.errBent"], ifaces := true, apart := false, laid := [("loop.example/g00728/impl.errShort", laid_loop_example_g00728_impl_errShort), ("loop.example/g00728/impl.errBent", laid_loop_example_g00728_impl_errBent)] }
def FnExactFramesLeftSaid : Prop := fnExactFramesLeftRow.holds Tryz.pinned (OpenSpec.ofChange fnExactFramesLeftSpec)

/-- ITS FALSE NEIGHBOUR: 'it returns false'. Refute it at one input. -/
def fnExactFramesLeftWrong : ChangeSpec := { name := "fnExactFramesLeft", vars := ["loop.example/g00728/impl.errShort", "loop.example/g00728/impl.errBent"], fn := fun _ => fun
  | [d, g1, g2] => { results := [.lit (.bool false)], args := [d], vars := [g1, g2] }
  | _ => none }
def FnExactFramesLeftWrongFalsely : Prop := fnExactFramesLeftRow.holds Tryz.pinned (OpenSpec.ofChange fnExactFramesLeftWrong)

/-- 'laws.FnExactDrainBound': WHATEVER THE INPUT: true; the input reads as it did. -/
def fnExactDrainBoundSpec : ChangeSpec := { name := "fnExactDrainBound", vars := ["loop.example/g00728/impl.leastFields", "loop.example/g00728/impl.mostFields", "loop.example/g00728/impl.errShort", "loop.example/g00728/impl.errBent"], fn := fun _ => fun
  | [d, g1, g2, g3, g4] => { results := [.lit (.bool true)], args := [d], vars := [g1, g2, g3, g4] }
  | _ => none }
def fnExactDrainBoundRow : OpenClaim := { program := "ytnfhlfbkdhpacaagreatdoor", sum := "1d93c30ab28b958f0f08df0a94aec007517f38ff4afd91847163a483cbd65d3c", func := "loop.example/g00728/laws.FnExactDrainBound", spec := "fnExactDrainBound", inPlace := ["internal/reflectlite.TypeOf"], unfollowed := true, recurses := true, named := ["loop.example/g00728/impl.leastFields", "loop.example/g00728/impl.mostFields", "loop.example/g00728/impl.errShort", "loop.example/g00728/impl.errBent"], ifaces := true, apart := false, laid := [("loop.example/g00728/impl.errShort", laid_loop_example_g00728_impl_errShort), ("loop.example/g00728/impl.errBent", laid_loop_example_g00728_impl_errBent), ("loop.example/g00728/impl.leastFields", laid_loop_example_g00728_impl_leastFields), ("loop.example/g00728/impl.mostFields", laid_loop_example_g00728_impl_mostFields)] }
def FnExactDrainBoundSaid : Prop := fnExactDrainBoundRow.holds Tryz.pinned (OpenSpec.ofChange fnExactDrainBoundSpec)

/-- ITS FALSE NEIGHBOUR: 'it returns false'. Refute it at one input. -/
def fnExactDrainBoundWrong : ChangeSpec := { name := "fnExactDrainBound", vars := ["loop.example/g00728/impl.leastFields", "loop.example/g00728/impl.mostFields", "loop.example/g00728/impl.errShort", "loop.example/g00728/impl.errBent"], fn := fun _ => fun
  | [d, g1, g2, g3, g4] => { results := [.lit (.bool false)], args := [d], vars := [g1, g2, g3, g4] }
  | _ => none }
def FnExactDrainBoundWrongFalsely : Prop := fnExactDrainBoundRow.holds Tryz.pinned (OpenSpec.ofChange fnExactDrainBoundWrong)

/-- 'laws.FnExactStuckAt': WHATEVER THE INPUT: true; the input reads as it did. -/
def fnExactStuckAtSpec : ChangeSpec := { name := "fnExactStuckAt", vars := ["loop.example/g00728/impl.errNoRound", "loop.example/g00728/impl.leastFields", "loop.example/g00728/impl.mostFields", "loop.example/g00728/impl.errShort", "loop.example/g00728/impl.errBent"], fn := fun _ => fun
  | [d, g1, g2, g3, g4, g5] => { results := [.lit (.bool true)], args := [d], vars := [g1, g2, g3, g4, g5] }
  | _ => none }
def fnExactStuckAtRow : OpenClaim := { program := "ytnfhlfbkdhpacaagreatdoor", sum := "1d93c30ab28b958f0f08df0a94aec007517f38ff4afd91847163a483cbd65d3c", func := "loop.example/g00728/laws.FnExactStuckAt", spec := "fnExactStuckAt", inPlace := ["(*internal/sync.Mutex).Lock", "internal/race.Disable", "sync/atomic.CompareAndSwapInt32", "internal/race.Enable", "internal/race.Acquire", "(*internal/sync.Mutex).lockSlow", "internal/sync.runtime_canSpin", "internal/sync.runtime_doSpin", "internal/sync.throw", "internal/sync.runtime_nanotime", "internal/sync.runtime_SemacquireMutex", "sync/atomic.AddInt32", "(*internal/sync.Mutex).Unlock", "internal/race.ReleaseMerge", "(*internal/sync.Mutex).unlockSlow", "internal/sync.fatal", "internal/sync.runtime_Semrelease", "math.Float64frombits", "math.Float64bits", "internal/reflectlite.TypeOf", "slices.overlaps[loop.example/g00728/impl.Agg]"], unfollowed := true, recurses := true, named := ["loop.example/g00728/impl.errNoRound", "loop.example/g00728/impl.leastFields", "loop.example/g00728/impl.mostFields", "loop.example/g00728/impl.errShort", "loop.example/g00728/impl.errBent"], ifaces := true, apart := false, laid := [("loop.example/g00728/impl.errShort", laid_loop_example_g00728_impl_errShort), ("loop.example/g00728/impl.errBent", laid_loop_example_g00728_impl_errBent), ("loop.example/g00728/impl.leastFields", laid_loop_example_g00728_impl_leastFields), ("loop.example/g00728/impl.mostFields", laid_loop_example_g00728_impl_mostFields), ("loop.example/g00728/impl.errNoRound", laid_loop_example_g00728_impl_errNoRound)] }
def FnExactStuckAtSaid : Prop := fnExactStuckAtRow.holds Tryz.pinned (OpenSpec.ofChange fnExactStuckAtSpec)

/-- ITS FALSE NEIGHBOUR: 'it returns false'. Refute it at one input. -/
def fnExactStuckAtWrong : ChangeSpec := { name := "fnExactStuckAt", vars := ["loop.example/g00728/impl.errNoRound", "loop.example/g00728/impl.leastFields", "loop.example/g00728/impl.mostFields", "loop.example/g00728/impl.errShort", "loop.example/g00728/impl.errBent"], fn := fun _ => fun
  | [d, g1, g2, g3, g4, g5] => { results := [.lit (.bool false)], args := [d], vars := [g1, g2, g3, g4, g5] }
  | _ => none }
def FnExactStuckAtWrongFalsely : Prop := fnExactStuckAtRow.holds Tryz.pinned (OpenSpec.ofChange fnExactStuckAtWrong)

/-- 'laws.FnExactAtRest': WHATEVER THE INPUT: true; the input reads as it did. -/
def fnExactAtRestSpec : ChangeSpec := { name := "fnExactAtRest", vars := ["loop.example/g00728/impl.leastFields", "loop.example/g00728/impl.mostFields", "loop.example/g00728/impl.errShort", "loop.example/g00728/impl.errBent"], fn := fun _ => fun
  | [d, g1, g2, g3, g4] => { results := [.lit (.bool true)], args := [d], vars := [g1, g2, g3, g4] }
  | _ => none }
def fnExactAtRestRow : OpenClaim := { program := "ytnfhlfbkdhpacaagreatdoor", sum := "1d93c30ab28b958f0f08df0a94aec007517f38ff4afd91847163a483cbd65d3c", func := "loop.example/g00728/laws.FnExactAtRest", spec := "fnExactAtRest", inPlace := ["internal/reflectlite.TypeOf"], unfollowed := true, recurses := true, named := ["loop.example/g00728/impl.leastFields", "loop.example/g00728/impl.mostFields", "loop.example/g00728/impl.errShort", "loop.example/g00728/impl.errBent"], ifaces := true, apart := false, laid := [("loop.example/g00728/impl.errShort", laid_loop_example_g00728_impl_errShort), ("loop.example/g00728/impl.errBent", laid_loop_example_g00728_impl_errBent), ("loop.example/g00728/impl.leastFields", laid_loop_example_g00728_impl_leastFields), ("loop.example/g00728/impl.mostFields", laid_loop_example_g00728_impl_mostFields)] }
def FnExactAtRestSaid : Prop := fnExactAtRestRow.holds Tryz.pinned (OpenSpec.ofChange fnExactAtRestSpec)

/-- ITS FALSE NEIGHBOUR: 'it returns false'. Refute it at one input. -/
def fnExactAtRestWrong : ChangeSpec := { name := "fnExactAtRest", vars := ["loop.example/g00728/impl.leastFields", "loop.example/g00728/impl.mostFields", "loop.example/g00728/impl.errShort", "loop.example/g00728/impl.errBent"], fn := fun _ => fun
  | [d, g1, g2, g3, g4] => { results := [.lit (.bool false)], args := [d], vars := [g1, g2, g3, g4] }
  | _ => none }
def FnExactAtRestWrongFalsely : Prop := fnExactAtRestRow.holds Tryz.pinned (OpenSpec.ofChange fnExactAtRestWrong)

/- THE SECOND FORM. 'bulk': how many values and letters a reading holds, each counted each time it is reached (what is shared counts as often as it is met; a slice's spare places count too). A statement '..UptoSaid' is the law's where the arguments, and the package variables that the reading takes, are together of bulk at most 1048576: NARROWER than '..Said'. Prove '..Said' where nothing that the law and all that it calls make is longer than what came in: it says more and counts as full. Else prove '..UptoSaid'. A law counts once. -/
mutual
def uptoBulk {H : Type} : DataW H → Nat
  | .lit (.string bytes) => bytes.length + 1
  | .lit _ => 1
  | .nil => 1
  | .ptr d => uptoBulk d + 1
  | .slice elems spare => uptoBulkAll elems + uptoBulkAll spare + 1
  | .agg parts => uptoBulkAll parts + 1
  | .iface _ d => uptoBulk d + 1
  | .map entries => uptoBulkEntries entries + 1
  | .held _ => 1
def uptoBulkAll {H : Type} : List (DataW H) → Nat
  | [] => 0
  | d :: r => uptoBulk d + uptoBulkAll r
def uptoBulkEntries {H : Type} : List (Lit × DataW H) → Nat
  | [] => 0
  | x :: r => uptoBulkEntry x + uptoBulkEntries r
def uptoBulkEntry {H : Type} : Lit × DataW H → Nat
  | (.string bytes, d) => bytes.length + uptoBulk d + 1
  | (_, d) => uptoBulk d + 1
 end
def uptoSmall : (H : Type) → List (DataW H) → Bool := fun _ ds => decide (uptoBulkAll ds ≤ 1048576)
def OpenSpec.upto (s : _root_.Go.ChangeSpec) : _root_.Go.OpenSpec := { _root_.Go.OpenSpec.ofChange s with cond := some uptoSmall }

/-- 'laws.FnExactRoundOps', WHERE WHAT IT READS IS OF BULK AT MOST 1048576: true; the input reads as it did. -/
def fnExactRoundOpsUptoRow : OpenClaim := { program := "ytnfhlfbkdhpacaagreatdoor", sum := "1d93c30ab28b958f0f08df0a94aec007517f38ff4afd91847163a483cbd65d3c", func := "loop.example/g00728/laws.FnExactRoundOps", spec := "fnExactRoundOps", unfollowed := true, recurses := true, named := ["loop.example/g00728/impl.errNoRound", "loop.example/g00728/impl.leastFields", "loop.example/g00728/impl.mostFields"], ifaces := true, apart := false, laid := [("loop.example/g00728/impl.leastFields", laid_loop_example_g00728_impl_leastFields), ("loop.example/g00728/impl.mostFields", laid_loop_example_g00728_impl_mostFields), ("loop.example/g00728/impl.errNoRound", laid_loop_example_g00728_impl_errNoRound)], narrowed := true }
def FnExactRoundOpsUptoSaid : Prop := fnExactRoundOpsUptoRow.holds Tryz.pinned (OpenSpec.upto fnExactRoundOpsSpec)

/-- 'laws.FnExactFramesLeft', WHERE WHAT IT READS IS OF BULK AT MOST 1048576: true; the input reads as it did. -/
def fnExactFramesLeftUptoRow : OpenClaim := { program := "ytnfhlfbkdhpacaagreatdoor", sum := "1d93c30ab28b958f0f08df0a94aec007517f38ff4afd91847163a483cbd65d3c", func := "loop.example/g00728/laws.FnExactFramesLeft", spec := "fnExactFramesLeft", inPlace := ["internal/reflectlite.TypeOf"], unfollowed := true, recurses := true, named := ["loop.example/g00728/impl.errShort", "loop.example/g00728/impl.errBent"], ifaces := true, apart := false, laid := [("loop.example/g00728/impl.errShort", laid_loop_example_g00728_impl_errShort), ("loop.example/g00728/impl.errBent", laid_loop_example_g00728_impl_errBent)], narrowed := true }
def FnExactFramesLeftUptoSaid : Prop := fnExactFramesLeftUptoRow.holds Tryz.pinned (OpenSpec.upto fnExactFramesLeftSpec)

/-- 'laws.FnExactDrainBound', WHERE WHAT IT READS IS OF BULK AT MOST 1048576: true; the input reads as it did. -/
def fnExactDrainBoundUptoRow : OpenClaim := { program := "ytnfhlfbkdhpacaagreatdoor", sum := "1d93c30ab28b958f0f08df0a94aec007517f38ff4afd91847163a483cbd65d3c", func := "loop.example/g00728/laws.FnExactDrainBound", spec := "fnExactDrainBound", inPlace := ["internal/reflectlite.TypeOf"], unfollowed := true, recurses := true, named := ["loop.example/g00728/impl.leastFields", "loop.example/g00728/impl.mostFields", "loop.example/g00728/impl.errShort", "loop.example/g00728/impl.errBent"], ifaces := true, apart := false, laid := [("loop.example/g00728/impl.errShort", laid_loop_example_g00728_impl_errShort), ("loop.example/g00728/impl.errBent", laid_loop_example_g00728_impl_errBent), ("loop.example/g00728/impl.leastFields", laid_loop_example_g00728_impl_leastFields), ("loop.example/g00728/impl.mostFields", laid_loop_example_g00728_impl_mostFields)], narrowed := true }
def FnExactDrainBoundUptoSaid : Prop := fnExactDrainBoundUptoRow.holds Tryz.pinned (OpenSpec.upto fnExactDrainBoundSpec)

/-- 'laws.FnExactStuckAt', WHERE WHAT IT READS IS OF BULK AT MOST 1048576: true; the input reads as it did. -/
def fnExactStuckAtUptoRow : OpenClaim := { program := "ytnfhlfbkdhpacaagreatdoor", sum := "1d93c30ab28b958f0f08df0a94aec007517f38ff4afd91847163a483cbd65d3c", func := "loop.example/g00728/laws.FnExactStuckAt", spec := "fnExactStuckAt", inPlace := ["(*internal/sync.Mutex).Lock", "internal/race.Disable", "sync/atomic.CompareAndSwapInt32", "internal/race.Enable", "internal/race.Acquire", "(*internal/sync.Mutex).lockSlow", "internal/sync.runtime_canSpin", "internal/sync.runtime_doSpin", "internal/sync.throw", "internal/sync.runtime_nanotime", "internal/sync.runtime_SemacquireMutex", "sync/atomic.AddInt32", "(*internal/sync.Mutex).Unlock", "internal/race.ReleaseMerge", "(*internal/sync.Mutex).unlockSlow", "internal/sync.fatal", "internal/sync.runtime_Semrelease", "math.Float64frombits", "math.Float64bits", "internal/reflectlite.TypeOf", "slices.overlaps[loop.example/g00728/impl.Agg]"], unfollowed := true, recurses := true, named := ["loop.example/g00728/impl.errNoRound", "loop.example/g00728/impl.leastFields", "loop.example/g00728/impl.mostFields", "loop.example/g00728/impl.errShort", "loop.example/g00728/impl.errBent"], ifaces := true, apart := false, laid := [("loop.example/g00728/impl.errShort", laid_loop_example_g00728_impl_errShort), ("loop.example/g00728/impl.errBent", laid_loop_example_g00728_impl_errBent), ("loop.example/g00728/impl.leastFields", laid_loop_example_g00728_impl_leastFields), ("loop.example/g00728/impl.mostFields", laid_loop_example_g00728_impl_mostFields), ("loop.example/g00728/impl.errNoRound", laid_loop_example_g00728_impl_errNoRound)], narrowed := true }
def FnExactStuckAtUptoSaid : Prop := fnExactStuckAtUptoRow.holds Tryz.pinned (OpenSpec.upto fnExactStuckAtSpec)

/-- 'laws.FnExactAtRest', WHERE WHAT IT READS IS OF BULK AT MOST 1048576: true; the input reads as it did. -/
def fnExactAtRestUptoRow : OpenClaim := { program := "ytnfhlfbkdhpacaagreatdoor", sum := "1d93c30ab28b958f0f08df0a94aec007517f38ff4afd91847163a483cbd65d3c", func := "loop.example/g00728/laws.FnExactAtRest", spec := "fnExactAtRest", inPlace := ["internal/reflectlite.TypeOf"], unfollowed := true, recurses := true, named := ["loop.example/g00728/impl.leastFields", "loop.example/g00728/impl.mostFields", "loop.example/g00728/impl.errShort", "loop.example/g00728/impl.errBent"], ifaces := true, apart := false, laid := [("loop.example/g00728/impl.errShort", laid_loop_example_g00728_impl_errShort), ("loop.example/g00728/impl.errBent", laid_loop_example_g00728_impl_errBent), ("loop.example/g00728/impl.leastFields", laid_loop_example_g00728_impl_leastFields), ("loop.example/g00728/impl.mostFields", laid_loop_example_g00728_impl_mostFields)], narrowed := true }
def FnExactAtRestUptoSaid : Prop := fnExactAtRestUptoRow.holds Tryz.pinned (OpenSpec.upto fnExactAtRestSpec)

end Rows
end Go.Proofs.YtnfhlfbkdhpacaaGreatDoor
