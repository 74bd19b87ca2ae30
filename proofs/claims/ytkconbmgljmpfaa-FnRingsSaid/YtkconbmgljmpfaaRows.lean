/-
  No cell of these rows narrows 'for every input' (looked for: loops, veiled, ifaces, maps, wideKeys, modest, calm, conditions, laid).
  DERIVED. THE GIVEN ROWS OF THIS SEAT. 7 by the template 'for every input the law returns true; each argument reads behind the call as it read before'; 0 by the template 'total and deterministic' (their statements: YtkconbmgljmpfaaTotals.lean).
  GIVEN WITH THE SEED: the statements are not yours to turn. If you find one false, say at which input.
  Laid BY PROGRAM, IN A SANDBOX (cutbox-rows.mjs): the forced cells as the released guide's own fill.sh prints them over the translation c8f6129a5ee7c53b… (all of the seat's roots in one cut). By AI agents, Wed Nov 11 2026. No macro, syntax, notation, axiom, sorry.
-/
import Derived.Test.YtkconbmgljmpfaaChecked
import GoSem.Claim
import GoSem.ClaimJoined
import GoSem.ClaimMapViews
import Derived.JoinedTies
import Derived.KernelRfl
namespace Go.Proofs.Ytkconbmgljmpfaa
/- THE CELL 'sum', in the pinned program and in every row, IS THE sha256 OF THE DUMP (.gsa) THAT YtkconbmgljmpfaaProg.lean LOADS. Nothing in Lean hashes anything: it is a label: what it is worth is what the hold of that sum in a sandbox is worth. -/
noncomputable def Try.pinned : Pinned := { name := "ytkconbmgljmpfaa", sum := "c8f6129a5ee7c53bc550633addcf36b08f79081fd897374671f809bdc8f0d0b6", checked := Try.checked }
namespace Rows
def none {H : Type} : Left H := { results := [], args := [] }

/-- 'laws.FnRings': WHATEVER THE INPUT: true; the input reads as it did. -/
def fnRingsSpec : ChangeSpec := { name := "fnRings", fn := fun _ => fun
  | [d] => { results := [.lit (.bool true)], args := [d] }
  | _ => none }
def fnRingsRow : OpenClaim := { program := "ytkconbmgljmpfaa", sum := "c8f6129a5ee7c53bc550633addcf36b08f79081fd897374671f809bdc8f0d0b6", func := "loop.example/g00728/laws.FnRings", spec := "fnRings", inPlace := ["sync/atomic.StoreInt64", "sync/atomic.AddInt64", "sync/atomic.LoadInt64"], apart := false }
def FnRingsSaid : Prop := fnRingsRow.holds Try.pinned (OpenSpec.ofChange fnRingsSpec)

/-- ITS FALSE NEIGHBOUR: 'it returns false'. Refute it at one input. -/
def fnRingsWrong : ChangeSpec := { name := "fnRings", fn := fun _ => fun
  | [d] => { results := [.lit (.bool false)], args := [d] }
  | _ => none }
def FnRingsWrongFalsely : Prop := fnRingsRow.holds Try.pinned (OpenSpec.ofChange fnRingsWrong)

/-- 'laws.FnExactRingOk': WHATEVER THE INPUT: true; the input reads as it did. -/
def fnExactRingOkSpec : ChangeSpec := { name := "fnExactRingOk", fn := fun _ => fun
  | [d] => { results := [.lit (.bool true)], args := [d] }
  | _ => none }
def fnExactRingOkRow : OpenClaim := { program := "ytkconbmgljmpfaa", sum := "c8f6129a5ee7c53bc550633addcf36b08f79081fd897374671f809bdc8f0d0b6", func := "loop.example/g00728/laws.FnExactRingOk", spec := "fnExactRingOk", apart := false }
def FnExactRingOkSaid : Prop := fnExactRingOkRow.holds Try.pinned (OpenSpec.ofChange fnExactRingOkSpec)

/-- ITS FALSE NEIGHBOUR: 'it returns false'. Refute it at one input. -/
def fnExactRingOkWrong : ChangeSpec := { name := "fnExactRingOk", fn := fun _ => fun
  | [d] => { results := [.lit (.bool false)], args := [d] }
  | _ => none }
def FnExactRingOkWrongFalsely : Prop := fnExactRingOkRow.holds Try.pinned (OpenSpec.ofChange fnExactRingOkWrong)

/-- 'laws.FnExactNewRing': WHATEVER THE INPUT: true; the input reads as it did. -/
def fnExactNewRingSpec : ChangeSpec := { name := "fnExactNewRing", fn := fun _ => fun
  | [d] => { results := [.lit (.bool true)], args := [d] }
  | _ => none }
def fnExactNewRingRow : OpenClaim := { program := "ytkconbmgljmpfaa", sum := "c8f6129a5ee7c53bc550633addcf36b08f79081fd897374671f809bdc8f0d0b6", func := "loop.example/g00728/laws.FnExactNewRing", spec := "fnExactNewRing", apart := false }
def FnExactNewRingSaid : Prop := fnExactNewRingRow.holds Try.pinned (OpenSpec.ofChange fnExactNewRingSpec)

/-- ITS FALSE NEIGHBOUR: 'it returns false'. Refute it at one input. -/
def fnExactNewRingWrong : ChangeSpec := { name := "fnExactNewRing", fn := fun _ => fun
  | [d] => { results := [.lit (.bool false)], args := [d] }
  | _ => none }
def FnExactNewRingWrongFalsely : Prop := fnExactNewRingRow.holds Try.pinned (OpenSpec.ofChange fnExactNewRingWrong)

/-- 'laws.FnExactPushRing': WHATEVER THE INPUT: true; the input reads as it did. -/
def fnExactPushRingSpec : ChangeSpec := { name := "fnExactPushRing", fn := fun _ => fun
  | [d1, d2] => { results := [.lit (.bool true)], args := [d1, d2] }
  | _ => none }
def fnExactPushRingRow : OpenClaim := { program := "ytkconbmgljmpfaa", sum := "c8f6129a5ee7c53bc550633addcf36b08f79081fd897374671f809bdc8f0d0b6", func := "loop.example/g00728/laws.FnExactPushRing", spec := "fnExactPushRing", apart := false }
def FnExactPushRingSaid : Prop := fnExactPushRingRow.holds Try.pinned (OpenSpec.ofChange fnExactPushRingSpec)

/-- ITS FALSE NEIGHBOUR: 'it returns false'. Refute it at one input. -/
def fnExactPushRingWrong : ChangeSpec := { name := "fnExactPushRing", fn := fun _ => fun
  | [d1, d2] => { results := [.lit (.bool false)], args := [d1, d2] }
  | _ => none }
def FnExactPushRingWrongFalsely : Prop := fnExactPushRingRow.holds Try.pinned (OpenSpec.ofChange fnExactPushRingWrong)

/-- 'laws.FnExactPopRing': WHATEVER THE INPUT: true; the input reads as it did. -/
def fnExactPopRingSpec : ChangeSpec := { name := "fnExactPopRing", fn := fun _ => fun
  | [d] => { results := [.lit (.bool true)], args := [d] }
  | _ => none }
def fnExactPopRingRow : OpenClaim := { program := "ytkconbmgljmpfaa", sum := "c8f6129a5ee7c53bc550633addcf36b08f79081fd897374671f809bdc8f0d0b6", func := "loop.example/g00728/laws.FnExactPopRing", spec := "fnExactPopRing", apart := false }
def FnExactPopRingSaid : Prop := fnExactPopRingRow.holds Try.pinned (OpenSpec.ofChange fnExactPopRingSpec)

/-- ITS FALSE NEIGHBOUR: 'it returns false'. Refute it at one input. -/
def fnExactPopRingWrong : ChangeSpec := { name := "fnExactPopRing", fn := fun _ => fun
  | [d] => { results := [.lit (.bool false)], args := [d] }
  | _ => none }
def FnExactPopRingWrongFalsely : Prop := fnExactPopRingRow.holds Try.pinned (OpenSpec.ofChange fnExactPopRingWrong)

/-- 'laws.FnExactListRing': WHATEVER THE INPUT: true; the input reads as it did. -/
def fnExactListRingSpec : ChangeSpec := { name := "fnExactListRing", fn := fun _ => fun
  | [d] => { results := [.lit (.bool true)], args := [d] }
  | _ => none }
def fnExactListRingRow : OpenClaim := { program := "ytkconbmgljmpfaa", sum := "c8f6129a5ee7c53bc550633addcf36b08f79081fd897374671f809bdc8f0d0b6", func := "loop.example/g00728/laws.FnExactListRing", spec := "fnExactListRing", apart := false }
def FnExactListRingSaid : Prop := fnExactListRingRow.holds Try.pinned (OpenSpec.ofChange fnExactListRingSpec)

/-- ITS FALSE NEIGHBOUR: 'it returns false'. Refute it at one input. -/
def fnExactListRingWrong : ChangeSpec := { name := "fnExactListRing", fn := fun _ => fun
  | [d] => { results := [.lit (.bool false)], args := [d] }
  | _ => none }
def FnExactListRingWrongFalsely : Prop := fnExactListRingRow.holds Try.pinned (OpenSpec.ofChange fnExactListRingWrong)

/-- 'laws.FnExactGrowRing': WHATEVER THE INPUT: true; the input reads as it did. -/
def fnExactGrowRingSpec : ChangeSpec := { name := "fnExactGrowRing", fn := fun _ => fun
  | [d1, d2] => { results := [.lit (.bool true)], args := [d1, d2] }
  | _ => none }
def fnExactGrowRingRow : OpenClaim := { program := "ytkconbmgljmpfaa", sum := "c8f6129a5ee7c53bc550633addcf36b08f79081fd897374671f809bdc8f0d0b6", func := "loop.example/g00728/laws.FnExactGrowRing", spec := "fnExactGrowRing", apart := false }
def FnExactGrowRingSaid : Prop := fnExactGrowRingRow.holds Try.pinned (OpenSpec.ofChange fnExactGrowRingSpec)

/-- ITS FALSE NEIGHBOUR: 'it returns false'. Refute it at one input. -/
def fnExactGrowRingWrong : ChangeSpec := { name := "fnExactGrowRing", fn := fun _ => fun
  | [d1, d2] => { results := [.lit (.bool false)], args := [d1, d2] }
  | _ => none }
def FnExactGrowRingWrongFalsely : Prop := fnExactGrowRingRow.holds Try.pinned (OpenSpec.ofChange fnExactGrowRingWrong)

/- THE SECOND FORM. 'bulk': how many values and letters a reading holds, each counted each time it is reached (what is shared counts as often as it is met; a slice's spare places count too). A statement '..UptoSaid' is the law's where the arguments, and the package variables that the reading takes, are together of bulk at most 1048576: NARROWER than '..Said'. Prove '..Said' where nothing that the law and all that it calls make is longer than what came in: it says more and counts as full. Else prove '..UptoSaid'. A law counts once. -/
mutual
def uptoBulk {H : Type} : DataW H → Nat
  | .lit (.string bytes) => bytes.length + 1
  | .lit _ => 1
  | .nil => 1
  | .ptr d => uptoBulk d + 1
  | .slice elems spare => uptoBulkAll elems + uptoBulkAll spare + 1
  | .agg parts => uptoBulkAll parts + 1
  | .iface _ d => uptoBulk d + 1
  | .map entries => uptoBulkEntries entries + 1
  | .held _ => 1
def uptoBulkAll {H : Type} : List (DataW H) → Nat
  | [] => 0
  | d :: r => uptoBulk d + uptoBulkAll r
def uptoBulkEntries {H : Type} : List (Lit × DataW H) → Nat
  | [] => 0
  | x :: r => uptoBulkEntry x + uptoBulkEntries r
def uptoBulkEntry {H : Type} : Lit × DataW H → Nat
  | (.string bytes, d) => bytes.length + uptoBulk d + 1
  | (_, d) => uptoBulk d + 1
 end
def uptoSmall : (H : Type) → List (DataW H) → Bool := fun _ ds => decide (uptoBulkAll ds ≤ 1048576)
def OpenSpec.upto (s : _root_.Go.ChangeSpec) : _root_.Go.OpenSpec := { _root_.Go.OpenSpec.ofChange s with cond := some uptoSmall }

/-- 'laws.FnRings', WHERE WHAT IT READS IS OF BULK AT MOST 1048576: true; the input reads as it did. -/
def fnRingsUptoRow : OpenClaim := { program := "ytkconbmgljmpfaa", sum := "c8f6129a5ee7c53bc550633addcf36b08f79081fd897374671f809bdc8f0d0b6", func := "loop.example/g00728/laws.FnRings", spec := "fnRings", inPlace := ["sync/atomic.StoreInt64", "sync/atomic.AddInt64", "sync/atomic.LoadInt64"], apart := false, narrowed := true }
def FnRingsUptoSaid : Prop := fnRingsUptoRow.holds Try.pinned (OpenSpec.upto fnRingsSpec)

/-- 'laws.FnExactRingOk', WHERE WHAT IT READS IS OF BULK AT MOST 1048576: true; the input reads as it did. -/
def fnExactRingOkUptoRow : OpenClaim := { program := "ytkconbmgljmpfaa", sum := "c8f6129a5ee7c53bc550633addcf36b08f79081fd897374671f809bdc8f0d0b6", func := "loop.example/g00728/laws.FnExactRingOk", spec := "fnExactRingOk", apart := false, narrowed := true }
def FnExactRingOkUptoSaid : Prop := fnExactRingOkUptoRow.holds Try.pinned (OpenSpec.upto fnExactRingOkSpec)

/-- 'laws.FnExactNewRing', WHERE WHAT IT READS IS OF BULK AT MOST 1048576: true; the input reads as it did. -/
def fnExactNewRingUptoRow : OpenClaim := { program := "ytkconbmgljmpfaa", sum := "c8f6129a5ee7c53bc550633addcf36b08f79081fd897374671f809bdc8f0d0b6", func := "loop.example/g00728/laws.FnExactNewRing", spec := "fnExactNewRing", apart := false, narrowed := true }
def FnExactNewRingUptoSaid : Prop := fnExactNewRingUptoRow.holds Try.pinned (OpenSpec.upto fnExactNewRingSpec)

/-- 'laws.FnExactPushRing', WHERE WHAT IT READS IS OF BULK AT MOST 1048576: true; the input reads as it did. -/
def fnExactPushRingUptoRow : OpenClaim := { program := "ytkconbmgljmpfaa", sum := "c8f6129a5ee7c53bc550633addcf36b08f79081fd897374671f809bdc8f0d0b6", func := "loop.example/g00728/laws.FnExactPushRing", spec := "fnExactPushRing", apart := false, narrowed := true }
def FnExactPushRingUptoSaid : Prop := fnExactPushRingUptoRow.holds Try.pinned (OpenSpec.upto fnExactPushRingSpec)

/-- 'laws.FnExactPopRing', WHERE WHAT IT READS IS OF BULK AT MOST 1048576: true; the input reads as it did. -/
def fnExactPopRingUptoRow : OpenClaim := { program := "ytkconbmgljmpfaa", sum := "c8f6129a5ee7c53bc550633addcf36b08f79081fd897374671f809bdc8f0d0b6", func := "loop.example/g00728/laws.FnExactPopRing", spec := "fnExactPopRing", apart := false, narrowed := true }
def FnExactPopRingUptoSaid : Prop := fnExactPopRingUptoRow.holds Try.pinned (OpenSpec.upto fnExactPopRingSpec)

/-- 'laws.FnExactListRing', WHERE WHAT IT READS IS OF BULK AT MOST 1048576: true; the input reads as it did. -/
def fnExactListRingUptoRow : OpenClaim := { program := "ytkconbmgljmpfaa", sum := "c8f6129a5ee7c53bc550633addcf36b08f79081fd897374671f809bdc8f0d0b6", func := "loop.example/g00728/laws.FnExactListRing", spec := "fnExactListRing", apart := false, narrowed := true }
def FnExactListRingUptoSaid : Prop := fnExactListRingUptoRow.holds Try.pinned (OpenSpec.upto fnExactListRingSpec)

/-- 'laws.FnExactGrowRing', WHERE WHAT IT READS IS OF BULK AT MOST 1048576: true; the input reads as it did. -/
def fnExactGrowRingUptoRow : OpenClaim := { program := "ytkconbmgljmpfaa", sum := "c8f6129a5ee7c53bc550633addcf36b08f79081fd897374671f809bdc8f0d0b6", func := "loop.example/g00728/laws.FnExactGrowRing", spec := "fnExactGrowRing", apart := false, narrowed := true }
def FnExactGrowRingUptoSaid : Prop := fnExactGrowRingUptoRow.holds Try.pinned (OpenSpec.upto fnExactGrowRingSpec)

end Rows
end Go.Proofs.Ytkconbmgljmpfaa
