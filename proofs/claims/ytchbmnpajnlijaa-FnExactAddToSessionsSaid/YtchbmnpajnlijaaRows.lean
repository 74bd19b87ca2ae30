/-
  No cell of these rows narrows 'for every input' (looked for: loops, veiled, ifaces, maps, wideKeys, modest, calm, conditions, laid).
  DERIVED. THE GIVEN ROWS OF THIS SEAT. 11 by the template 'for every input the law returns true; each argument reads behind the call as it read before'; 0 by the template 'total and deterministic' (their statements: YtchbmnpajnlijaaTotals.lean).
  GIVEN WITH THE SEED: the statements are not yours to turn. If you find one false, say at which input.
  Laid BY PROGRAM, IN A SANDBOX (cutbox-rows.mjs): the forced cells as the released guide's own fill.sh prints them over the translation 90f405ddb72950f8… (all of the seat's roots in one cut). By AI agents, Wed Nov 11 2026. No macro, syntax, notation, axiom, sorry.
-/
import Derived.Test.YtchbmnpajnlijaaChecked
import GoSem.Claim
import GoSem.ClaimJoined
import GoSem.ClaimMapViews
import Derived.JoinedTies
import Derived.KernelRfl
namespace Go.Proofs.Ytchbmnpajnlijaa
/- THE CELL 'sum', in the pinned program and in every row, IS THE sha256 OF THE DUMP (.gsa) THAT YtchbmnpajnlijaaProg.lean LOADS. Nothing in Lean hashes anything: it is a label: what it is worth is what the hold of that sum in a sandbox is worth. -/
noncomputable def Try.pinned : Pinned := { name := "ytchbmnpajnlijaa", sum := "90f405ddb72950f83ad54731359f367e39c8805cabbc8fd887c74f3e44b7665f", checked := Try.checked }
namespace Rows
def none {H : Type} : Left H := { results := [], args := [] }

/-- 'laws.FnExactSlidesOf': WHATEVER THE INPUT: true; the input reads as it did. -/
def fnExactSlidesOfSpec : ChangeSpec := { name := "fnExactSlidesOf", fn := fun _ => fun
  | [d1, d2, d3] => { results := [.lit (.bool true)], args := [d1, d2, d3] }
  | _ => none }
def fnExactSlidesOfRow : OpenClaim := { program := "ytchbmnpajnlijaa", sum := "90f405ddb72950f83ad54731359f367e39c8805cabbc8fd887c74f3e44b7665f", func := "loop.example/g00728/laws.FnExactSlidesOf", spec := "fnExactSlidesOf", apart := false }
def FnExactSlidesOfSaid : Prop := fnExactSlidesOfRow.holds Try.pinned (OpenSpec.ofChange fnExactSlidesOfSpec)

/-- ITS FALSE NEIGHBOUR: 'it returns false'. Refute it at one input. -/
def fnExactSlidesOfWrong : ChangeSpec := { name := "fnExactSlidesOf", fn := fun _ => fun
  | [d1, d2, d3] => { results := [.lit (.bool false)], args := [d1, d2, d3] }
  | _ => none }
def FnExactSlidesOfWrongFalsely : Prop := fnExactSlidesOfRow.holds Try.pinned (OpenSpec.ofChange fnExactSlidesOfWrong)

/-- 'laws.FnExactSlideEnd': WHATEVER THE INPUT: true; the input reads as it did. -/
def fnExactSlideEndSpec : ChangeSpec := { name := "fnExactSlideEnd", fn := fun _ => fun
  | [d1, d2, d3] => { results := [.lit (.bool true)], args := [d1, d2, d3] }
  | _ => none }
def fnExactSlideEndRow : OpenClaim := { program := "ytchbmnpajnlijaa", sum := "90f405ddb72950f83ad54731359f367e39c8805cabbc8fd887c74f3e44b7665f", func := "loop.example/g00728/laws.FnExactSlideEnd", spec := "fnExactSlideEnd", apart := false }
def FnExactSlideEndSaid : Prop := fnExactSlideEndRow.holds Try.pinned (OpenSpec.ofChange fnExactSlideEndSpec)

/-- ITS FALSE NEIGHBOUR: 'it returns false'. Refute it at one input. -/
def fnExactSlideEndWrong : ChangeSpec := { name := "fnExactSlideEnd", fn := fun _ => fun
  | [d1, d2, d3] => { results := [.lit (.bool false)], args := [d1, d2, d3] }
  | _ => none }
def FnExactSlideEndWrongFalsely : Prop := fnExactSlideEndRow.holds Try.pinned (OpenSpec.ofChange fnExactSlideEndWrong)

/-- 'laws.FnExactCoverCount': WHATEVER THE INPUT: true; the input reads as it did. -/
def fnExactCoverCountSpec : ChangeSpec := { name := "fnExactCoverCount", fn := fun _ => fun
  | [d1, d2] => { results := [.lit (.bool true)], args := [d1, d2] }
  | _ => none }
def fnExactCoverCountRow : OpenClaim := { program := "ytchbmnpajnlijaa", sum := "90f405ddb72950f83ad54731359f367e39c8805cabbc8fd887c74f3e44b7665f", func := "loop.example/g00728/laws.FnExactCoverCount", spec := "fnExactCoverCount", apart := false }
def FnExactCoverCountSaid : Prop := fnExactCoverCountRow.holds Try.pinned (OpenSpec.ofChange fnExactCoverCountSpec)

/-- ITS FALSE NEIGHBOUR: 'it returns false'. Refute it at one input. -/
def fnExactCoverCountWrong : ChangeSpec := { name := "fnExactCoverCount", fn := fun _ => fun
  | [d1, d2] => { results := [.lit (.bool false)], args := [d1, d2] }
  | _ => none }
def FnExactCoverCountWrongFalsely : Prop := fnExactCoverCountRow.holds Try.pinned (OpenSpec.ofChange fnExactCoverCountWrong)

/-- 'laws.FnExactSessionOk': WHATEVER THE INPUT: true; the input reads as it did. -/
def fnExactSessionOkSpec : ChangeSpec := { name := "fnExactSessionOk", fn := fun _ => fun
  | [d] => { results := [.lit (.bool true)], args := [d] }
  | _ => none }
def fnExactSessionOkRow : OpenClaim := { program := "ytchbmnpajnlijaa", sum := "90f405ddb72950f83ad54731359f367e39c8805cabbc8fd887c74f3e44b7665f", func := "loop.example/g00728/laws.FnExactSessionOk", spec := "fnExactSessionOk", apart := false }
def FnExactSessionOkSaid : Prop := fnExactSessionOkRow.holds Try.pinned (OpenSpec.ofChange fnExactSessionOkSpec)

/-- ITS FALSE NEIGHBOUR: 'it returns false'. Refute it at one input. -/
def fnExactSessionOkWrong : ChangeSpec := { name := "fnExactSessionOk", fn := fun _ => fun
  | [d] => { results := [.lit (.bool false)], args := [d] }
  | _ => none }
def FnExactSessionOkWrongFalsely : Prop := fnExactSessionOkRow.holds Try.pinned (OpenSpec.ofChange fnExactSessionOkWrong)

/-- 'laws.FnExactLongestSession': WHATEVER THE INPUT: true; the input reads as it did. -/
def fnExactLongestSessionSpec : ChangeSpec := { name := "fnExactLongestSession", fn := fun _ => fun
  | [d] => { results := [.lit (.bool true)], args := [d] }
  | _ => none }
def fnExactLongestSessionRow : OpenClaim := { program := "ytchbmnpajnlijaa", sum := "90f405ddb72950f83ad54731359f367e39c8805cabbc8fd887c74f3e44b7665f", func := "loop.example/g00728/laws.FnExactLongestSession", spec := "fnExactLongestSession", apart := false }
def FnExactLongestSessionSaid : Prop := fnExactLongestSessionRow.holds Try.pinned (OpenSpec.ofChange fnExactLongestSessionSpec)

/-- ITS FALSE NEIGHBOUR: 'it returns false'. Refute it at one input. -/
def fnExactLongestSessionWrong : ChangeSpec := { name := "fnExactLongestSession", fn := fun _ => fun
  | [d] => { results := [.lit (.bool false)], args := [d] }
  | _ => none }
def FnExactLongestSessionWrongFalsely : Prop := fnExactLongestSessionRow.holds Try.pinned (OpenSpec.ofChange fnExactLongestSessionWrong)

/-- 'laws.FnExactFoldSlides': WHATEVER THE INPUT: true; the input reads as it did. -/
def fnExactFoldSlidesSpec : ChangeSpec := { name := "fnExactFoldSlides", fn := fun _ => fun
  | [d1, d2, d3] => { results := [.lit (.bool true)], args := [d1, d2, d3] }
  | _ => none }
def fnExactFoldSlidesRow : OpenClaim := { program := "ytchbmnpajnlijaa", sum := "90f405ddb72950f83ad54731359f367e39c8805cabbc8fd887c74f3e44b7665f", func := "loop.example/g00728/laws.FnExactFoldSlides", spec := "fnExactFoldSlides", unfollowed := true, recurses := true, leaving := true, apart := false }
def FnExactFoldSlidesSaid : Prop := fnExactFoldSlidesRow.holds Try.pinned (OpenSpec.ofChange fnExactFoldSlidesSpec)

/-- ITS FALSE NEIGHBOUR: 'it returns false'. Refute it at one input. -/
def fnExactFoldSlidesWrong : ChangeSpec := { name := "fnExactFoldSlides", fn := fun _ => fun
  | [d1, d2, d3] => { results := [.lit (.bool false)], args := [d1, d2, d3] }
  | _ => none }
def FnExactFoldSlidesWrongFalsely : Prop := fnExactFoldSlidesRow.holds Try.pinned (OpenSpec.ofChange fnExactFoldSlidesWrong)

/-- 'laws.FnExactTopKeys': WHATEVER THE INPUT: true; the input reads as it did. -/
def fnExactTopKeysSpec : ChangeSpec := { name := "fnExactTopKeys", fn := fun _ => fun
  | [d1, d2] => { results := [.lit (.bool true)], args := [d1, d2] }
  | _ => none }
def fnExactTopKeysRow : OpenClaim := { program := "ytchbmnpajnlijaa", sum := "90f405ddb72950f83ad54731359f367e39c8805cabbc8fd887c74f3e44b7665f", func := "loop.example/g00728/laws.FnExactTopKeys", spec := "fnExactTopKeys", unfollowed := true, recurses := true, leaving := true, apart := false }
def FnExactTopKeysSaid : Prop := fnExactTopKeysRow.holds Try.pinned (OpenSpec.ofChange fnExactTopKeysSpec)

/-- ITS FALSE NEIGHBOUR: 'it returns false'. Refute it at one input. -/
def fnExactTopKeysWrong : ChangeSpec := { name := "fnExactTopKeys", fn := fun _ => fun
  | [d1, d2] => { results := [.lit (.bool false)], args := [d1, d2] }
  | _ => none }
def FnExactTopKeysWrongFalsely : Prop := fnExactTopKeysRow.holds Try.pinned (OpenSpec.ofChange fnExactTopKeysWrong)

/-- 'laws.FnExactPeaks': WHATEVER THE INPUT: true; the input reads as it did. -/
def fnExactPeaksSpec : ChangeSpec := { name := "fnExactPeaks", fn := fun _ => fun
  | [d1, d2] => { results := [.lit (.bool true)], args := [d1, d2] }
  | _ => none }
def fnExactPeaksRow : OpenClaim := { program := "ytchbmnpajnlijaa", sum := "90f405ddb72950f83ad54731359f367e39c8805cabbc8fd887c74f3e44b7665f", func := "loop.example/g00728/laws.FnExactPeaks", spec := "fnExactPeaks", inPlace := ["(*sync.WaitGroup).Add", "internal/race.ReleaseMerge", "internal/race.Disable", "internal/race.Enable", "internal/synctest.IsInBubble", "internal/synctest.Associate[sync.WaitGroup]", "sync.fatal", "sync/atomic.OrUint64", "sync/atomic.AddUint64", "internal/race.Read", "sync/atomic.LoadUint64", "sync/atomic.StoreUint64", "internal/synctest.Disassociate[sync.WaitGroup]", "sync.runtime_Semrelease", "(*sync.WaitGroup).Done", "(*sync.WaitGroup).Wait", "internal/race.Acquire", "internal/synctest.IsAssociated[sync.WaitGroup]", "sync/atomic.CompareAndSwapUint64", "internal/race.Write", "sync.runtime_SemacquireWaitGroup"], unfollowed := true, recurses := true, leaving := true, apart := false }
def FnExactPeaksSaid : Prop := fnExactPeaksRow.holds Try.pinned (OpenSpec.ofChange fnExactPeaksSpec)

/-- ITS FALSE NEIGHBOUR: 'it returns false'. Refute it at one input. -/
def fnExactPeaksWrong : ChangeSpec := { name := "fnExactPeaks", fn := fun _ => fun
  | [d1, d2] => { results := [.lit (.bool false)], args := [d1, d2] }
  | _ => none }
def FnExactPeaksWrongFalsely : Prop := fnExactPeaksRow.holds Try.pinned (OpenSpec.ofChange fnExactPeaksWrong)

/-- 'laws.FnExactSessionsOf': WHATEVER THE INPUT: true; the input reads as it did. -/
def fnExactSessionsOfSpec : ChangeSpec := { name := "fnExactSessionsOf", fn := fun _ => fun
  | [d1, d2] => { results := [.lit (.bool true)], args := [d1, d2] }
  | _ => none }
def fnExactSessionsOfRow : OpenClaim := { program := "ytchbmnpajnlijaa", sum := "90f405ddb72950f83ad54731359f367e39c8805cabbc8fd887c74f3e44b7665f", func := "loop.example/g00728/laws.FnExactSessionsOf", spec := "fnExactSessionsOf", unfollowed := true, recurses := true, leaving := true, apart := false }
def FnExactSessionsOfSaid : Prop := fnExactSessionsOfRow.holds Try.pinned (OpenSpec.ofChange fnExactSessionsOfSpec)

/-- ITS FALSE NEIGHBOUR: 'it returns false'. Refute it at one input. -/
def fnExactSessionsOfWrong : ChangeSpec := { name := "fnExactSessionsOf", fn := fun _ => fun
  | [d1, d2] => { results := [.lit (.bool false)], args := [d1, d2] }
  | _ => none }
def FnExactSessionsOfWrongFalsely : Prop := fnExactSessionsOfRow.holds Try.pinned (OpenSpec.ofChange fnExactSessionsOfWrong)

/-- 'laws.FnExactAddToSessions': WHATEVER THE INPUT: true; the input reads as it did. -/
def fnExactAddToSessionsSpec : ChangeSpec := { name := "fnExactAddToSessions", fn := fun _ => fun
  | [d1, d2, d3] => { results := [.lit (.bool true)], args := [d1, d2, d3] }
  | _ => none }
def fnExactAddToSessionsRow : OpenClaim := { program := "ytchbmnpajnlijaa", sum := "90f405ddb72950f83ad54731359f367e39c8805cabbc8fd887c74f3e44b7665f", func := "loop.example/g00728/laws.FnExactAddToSessions", spec := "fnExactAddToSessions", unfollowed := true, recurses := true, leaving := true, apart := false }
def FnExactAddToSessionsSaid : Prop := fnExactAddToSessionsRow.holds Try.pinned (OpenSpec.ofChange fnExactAddToSessionsSpec)

/-- ITS FALSE NEIGHBOUR: 'it returns false'. Refute it at one input. -/
def fnExactAddToSessionsWrong : ChangeSpec := { name := "fnExactAddToSessions", fn := fun _ => fun
  | [d1, d2, d3] => { results := [.lit (.bool false)], args := [d1, d2, d3] }
  | _ => none }
def FnExactAddToSessionsWrongFalsely : Prop := fnExactAddToSessionsRow.holds Try.pinned (OpenSpec.ofChange fnExactAddToSessionsWrong)

/-- 'laws.FnSlides': WHATEVER THE INPUT: true; the input reads as it did. -/
def fnSlidesSpec : ChangeSpec := { name := "fnSlides", fn := fun _ => fun
  | [d] => { results := [.lit (.bool true)], args := [d] }
  | _ => none }
def fnSlidesRow : OpenClaim := { program := "ytchbmnpajnlijaa", sum := "90f405ddb72950f83ad54731359f367e39c8805cabbc8fd887c74f3e44b7665f", func := "loop.example/g00728/laws.FnSlides", spec := "fnSlides", unfollowed := true, recurses := true, leaving := true, apart := false }
def FnSlidesSaid : Prop := fnSlidesRow.holds Try.pinned (OpenSpec.ofChange fnSlidesSpec)

/-- ITS FALSE NEIGHBOUR: 'it returns false'. Refute it at one input. -/
def fnSlidesWrong : ChangeSpec := { name := "fnSlides", fn := fun _ => fun
  | [d] => { results := [.lit (.bool false)], args := [d] }
  | _ => none }
def FnSlidesWrongFalsely : Prop := fnSlidesRow.holds Try.pinned (OpenSpec.ofChange fnSlidesWrong)

/- THE SECOND FORM. 'bulk': how many values and letters a reading holds, each counted each time it is reached (what is shared counts as often as it is met; a slice's spare places count too). A statement '..UptoSaid' is the law's where the arguments, and the package variables that the reading takes, are together of bulk at most 1048576: NARROWER than '..Said'. Prove '..Said' where nothing that the law and all that it calls make is longer than what came in: it says more and counts as full. Else prove '..UptoSaid'. A law counts once. -/
mutual
def uptoBulk {H : Type} : DataW H → Nat
  | .lit (.string bytes) => bytes.length + 1
  | .lit _ => 1
  | .nil => 1
  | .ptr d => uptoBulk d + 1
  | .slice elems spare => uptoBulkAll elems + uptoBulkAll spare + 1
  | .agg parts => uptoBulkAll parts + 1
  | .iface _ d => uptoBulk d + 1
  | .map entries => uptoBulkEntries entries + 1
  | .held _ => 1
def uptoBulkAll {H : Type} : List (DataW H) → Nat
  | [] => 0
  | d :: r => uptoBulk d + uptoBulkAll r
def uptoBulkEntries {H : Type} : List (Lit × DataW H) → Nat
  | [] => 0
  | x :: r => uptoBulkEntry x + uptoBulkEntries r
def uptoBulkEntry {H : Type} : Lit × DataW H → Nat
  | (.string bytes, d) => bytes.length + uptoBulk d + 1
  | (_, d) => uptoBulk d + 1
 end
def uptoSmall : (H : Type) → List (DataW H) → Bool := fun _ ds => decide (uptoBulkAll ds ≤ 1048576)
def OpenSpec.upto (s : _root_.Go.ChangeSpec) : _root_.Go.OpenSpec := { _root_.Go.OpenSpec.ofChange s with cond := some uptoSmall }

/-- 'laws.FnExactSlidesOf', WHERE WHAT IT READS IS OF BULK AT MOST 1048576: true; the input reads as it did. -/
def fnExactSlidesOfUptoRow : OpenClaim := { program := "ytchbmnpajnlijaa", sum := "90f405ddb72950f83ad54731359f367e39c8805cabbc8fd887c74f3e44b7665f", func := "loop.example/g00728/laws.FnExactSlidesOf", spec := "fnExactSlidesOf", apart := false, narrowed := true }
def FnExactSlidesOfUptoSaid : Prop := fnExactSlidesOfUptoRow.holds Try.pinned (OpenSpec.upto fnExactSlidesOfSpec)

/-- 'laws.FnExactSlideEnd', WHERE WHAT IT READS IS OF BULK AT MOST 1048576: true; the input reads as it did. -/
def fnExactSlideEndUptoRow : OpenClaim := { program := "ytchbmnpajnlijaa", sum := "90f405ddb72950f83ad54731359f367e39c8805cabbc8fd887c74f3e44b7665f", func := "loop.example/g00728/laws.FnExactSlideEnd", spec := "fnExactSlideEnd", apart := false, narrowed := true }
def FnExactSlideEndUptoSaid : Prop := fnExactSlideEndUptoRow.holds Try.pinned (OpenSpec.upto fnExactSlideEndSpec)

/-- 'laws.FnExactCoverCount', WHERE WHAT IT READS IS OF BULK AT MOST 1048576: true; the input reads as it did. -/
def fnExactCoverCountUptoRow : OpenClaim := { program := "ytchbmnpajnlijaa", sum := "90f405ddb72950f83ad54731359f367e39c8805cabbc8fd887c74f3e44b7665f", func := "loop.example/g00728/laws.FnExactCoverCount", spec := "fnExactCoverCount", apart := false, narrowed := true }
def FnExactCoverCountUptoSaid : Prop := fnExactCoverCountUptoRow.holds Try.pinned (OpenSpec.upto fnExactCoverCountSpec)

/-- 'laws.FnExactSessionOk', WHERE WHAT IT READS IS OF BULK AT MOST 1048576: true; the input reads as it did. -/
def fnExactSessionOkUptoRow : OpenClaim := { program := "ytchbmnpajnlijaa", sum := "90f405ddb72950f83ad54731359f367e39c8805cabbc8fd887c74f3e44b7665f", func := "loop.example/g00728/laws.FnExactSessionOk", spec := "fnExactSessionOk", apart := false, narrowed := true }
def FnExactSessionOkUptoSaid : Prop := fnExactSessionOkUptoRow.holds Try.pinned (OpenSpec.upto fnExactSessionOkSpec)

/-- 'laws.FnExactLongestSession', WHERE WHAT IT READS IS OF BULK AT MOST 1048576: true; the input reads as it did. -/
def fnExactLongestSessionUptoRow : OpenClaim := { program := "ytchbmnpajnlijaa", sum := "90f405ddb72950f83ad54731359f367e39c8805cabbc8fd887c74f3e44b7665f", func := "loop.example/g00728/laws.FnExactLongestSession", spec := "fnExactLongestSession", apart := false, narrowed := true }
def FnExactLongestSessionUptoSaid : Prop := fnExactLongestSessionUptoRow.holds Try.pinned (OpenSpec.upto fnExactLongestSessionSpec)

/-- 'laws.FnExactFoldSlides', WHERE WHAT IT READS IS OF BULK AT MOST 1048576: true; the input reads as it did. -/
def fnExactFoldSlidesUptoRow : OpenClaim := { program := "ytchbmnpajnlijaa", sum := "90f405ddb72950f83ad54731359f367e39c8805cabbc8fd887c74f3e44b7665f", func := "loop.example/g00728/laws.FnExactFoldSlides", spec := "fnExactFoldSlides", unfollowed := true, recurses := true, leaving := true, apart := false, narrowed := true }
def FnExactFoldSlidesUptoSaid : Prop := fnExactFoldSlidesUptoRow.holds Try.pinned (OpenSpec.upto fnExactFoldSlidesSpec)

/-- 'laws.FnExactTopKeys', WHERE WHAT IT READS IS OF BULK AT MOST 1048576: true; the input reads as it did. -/
def fnExactTopKeysUptoRow : OpenClaim := { program := "ytchbmnpajnlijaa", sum := "90f405ddb72950f83ad54731359f367e39c8805cabbc8fd887c74f3e44b7665f", func := "loop.example/g00728/laws.FnExactTopKeys", spec := "fnExactTopKeys", unfollowed := true, recurses := true, leaving := true, apart := false, narrowed := true }
def FnExactTopKeysUptoSaid : Prop := fnExactTopKeysUptoRow.holds Try.pinned (OpenSpec.upto fnExactTopKeysSpec)

/-- 'laws.FnExactPeaks', WHERE WHAT IT READS IS OF BULK AT MOST 1048576: true; the input reads as it did. -/
def fnExactPeaksUptoRow : OpenClaim := { program := "ytchbmnpajnlijaa", sum := "90f405ddb72950f83ad54731359f367e39c8805cabbc8fd887c74f3e44b7665f", func := "loop.example/g00728/laws.FnExactPeaks", spec := "fnExactPeaks", inPlace := ["(*sync.WaitGroup).Add", "internal/race.ReleaseMerge", "internal/race.Disable", "internal/race.Enable", "internal/synctest.IsInBubble", "internal/synctest.Associate[sync.WaitGroup]", "sync.fatal", "sync/atomic.OrUint64", "sync/atomic.AddUint64", "internal/race.Read", "sync/atomic.LoadUint64", "sync/atomic.StoreUint64", "internal/synctest.Disassociate[sync.WaitGroup]", "sync.runtime_Semrelease", "(*sync.WaitGroup).Done", "(*sync.WaitGroup).Wait", "internal/race.Acquire", "internal/synctest.IsAssociated[sync.WaitGroup]", "sync/atomic.CompareAndSwapUint64", "internal/race.Write", "sync.runtime_SemacquireWaitGroup"], unfollowed := true, recurses := true, leaving := true, apart := false, narrowed := true }
def FnExactPeaksUptoSaid : Prop := fnExactPeaksUptoRow.holds Try.pinned (OpenSpec.upto fnExactPeaksSpec)

/-- 'laws.FnExactSessionsOf', WHERE WHAT IT READS IS OF BULK AT MOST 1048576: true; the input reads as it did. -/
def fnExactSessionsOfUptoRow : OpenClaim := { program := "ytchbmnpajnlijaa", sum := "90f405ddb72950f83ad54731359f367e39c8805cabbc8fd887c74f3e44b7665f", func := "loop.example/g00728/laws.FnExactSessionsOf", spec := "fnExactSessionsOf", unfollowed := true, recurses := true, leaving := true, apart := false, narrowed := true }
def FnExactSessionsOfUptoSaid : Prop := fnExactSessionsOfUptoRow.holds Try.pinned (OpenSpec.upto fnExactSessionsOfSpec)

/-- 'laws.FnExactAddToSessions', WHERE WHAT IT READS IS OF BULK AT MOST 1048576: true; the input reads as it did. -/
def fnExactAddToSessionsUptoRow : OpenClaim := { program := "ytchbmnpajnlijaa", sum := "90f405ddb72950f83ad54731359f367e39c8805cabbc8fd887c74f3e44b7665f", func := "loop.example/g00728/laws.FnExactAddToSessions", spec := "fnExactAddToSessions", unfollowed := true, recurses := true, leaving := true, apart := false, narrowed := true }
def FnExactAddToSessionsUptoSaid : Prop := fnExactAddToSessionsUptoRow.holds Try.pinned (OpenSpec.upto fnExactAddToSessionsSpec)

/-- 'laws.FnSlides', WHERE WHAT IT READS IS OF BULK AT MOST 1048576: true; the input reads as it did. -/
def fnSlidesUptoRow : OpenClaim := { program := "ytchbmnpajnlijaa", sum := "90f405ddb72950f83ad54731359f367e39c8805cabbc8fd887c74f3e44b7665f", func := "loop.example/g00728/laws.FnSlides", spec := "fnSlides", unfollowed := true, recurses := true, leaving := true, apart := false, narrowed := true }
def FnSlidesUptoSaid : Prop := fnSlidesUptoRow.holds Try.pinned (OpenSpec.upto fnSlidesSpec)

end Rows
end Go.Proofs.Ytchbmnpajnlijaa
