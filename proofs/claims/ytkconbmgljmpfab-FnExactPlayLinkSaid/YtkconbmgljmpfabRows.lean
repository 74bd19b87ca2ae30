/-
  No cell of these rows narrows 'for every input' (looked for: loops, veiled, ifaces, maps, wideKeys, modest, calm, conditions, laid).
  DERIVED. THE GIVEN ROWS OF THIS SEAT. 4 by the template 'for every input the law returns true; each argument reads behind the call as it read before'; 0 by the template 'total and deterministic' (their statements: YtkconbmgljmpfabTotals.lean).
  GIVEN WITH THE SEED: the statements are not yours to turn. If you find one false, say at which input.
  Laid BY PROGRAM, IN A SANDBOX (cutbox-rows.mjs): the forced cells as the released guide's own fill.sh prints them over the translation 98aa79409ef3c7e4… (all of the seat's roots in one cut). By AI agents, Wed Nov 11 2026. No macro, syntax, notation, axiom, sorry.
-/
import Derived.Test.YtkconbmgljmpfabChecked
import GoSem.Claim
import GoSem.ClaimJoined
import GoSem.ClaimMapViews
import Derived.JoinedTies
import Derived.KernelRfl
namespace Go.Proofs.Ytkconbmgljmpfab
/- THE CELL 'sum', in the pinned program and in every row, IS THE sha256 OF THE DUMP (.gsa) THAT YtkconbmgljmpfabProg.lean LOADS. Nothing in Lean hashes anything: it is a label: what it is worth is what the hold of that sum in a sandbox is worth. -/
noncomputable def Try.pinned : Pinned := { name := "ytkconbmgljmpfab", sum := "98aa79409ef3c7e458e82ece6deabae87f6088c9aa68c0696a7748ca506c75ad", checked := Try.checked }
namespace Rows
def none {H : Type} : Left H := { results := [], args := [] }

/-- 'laws.FnExactSpendCredit': WHATEVER THE INPUT: true; the input reads as it did. -/
def fnExactSpendCreditSpec : ChangeSpec := { name := "fnExactSpendCredit", fn := fun _ => fun
  | [d] => { results := [.lit (.bool true)], args := [d] }
  | _ => none }
def fnExactSpendCreditRow : OpenClaim := { program := "ytkconbmgljmpfab", sum := "98aa79409ef3c7e458e82ece6deabae87f6088c9aa68c0696a7748ca506c75ad", func := "loop.example/g00728/laws.FnExactSpendCredit", spec := "fnExactSpendCredit", inPlace := ["sync/atomic.StoreInt64", "sync/atomic.AddInt64", "sync/atomic.LoadInt64"], apart := false }
def FnExactSpendCreditSaid : Prop := fnExactSpendCreditRow.holds Try.pinned (OpenSpec.ofChange fnExactSpendCreditSpec)

/-- ITS FALSE NEIGHBOUR: 'it returns false'. Refute it at one input. -/
def fnExactSpendCreditWrong : ChangeSpec := { name := "fnExactSpendCredit", fn := fun _ => fun
  | [d] => { results := [.lit (.bool false)], args := [d] }
  | _ => none }
def FnExactSpendCreditWrongFalsely : Prop := fnExactSpendCreditRow.holds Try.pinned (OpenSpec.ofChange fnExactSpendCreditWrong)

/-- 'laws.FnExactReturnCredit': WHATEVER THE INPUT: true; the input reads as it did. -/
def fnExactReturnCreditSpec : ChangeSpec := { name := "fnExactReturnCredit", fn := fun _ => fun
  | [d] => { results := [.lit (.bool true)], args := [d] }
  | _ => none }
def fnExactReturnCreditRow : OpenClaim := { program := "ytkconbmgljmpfab", sum := "98aa79409ef3c7e458e82ece6deabae87f6088c9aa68c0696a7748ca506c75ad", func := "loop.example/g00728/laws.FnExactReturnCredit", spec := "fnExactReturnCredit", inPlace := ["sync/atomic.StoreInt64", "sync/atomic.AddInt64", "sync/atomic.LoadInt64"], apart := false }
def FnExactReturnCreditSaid : Prop := fnExactReturnCreditRow.holds Try.pinned (OpenSpec.ofChange fnExactReturnCreditSpec)

/-- ITS FALSE NEIGHBOUR: 'it returns false'. Refute it at one input. -/
def fnExactReturnCreditWrong : ChangeSpec := { name := "fnExactReturnCredit", fn := fun _ => fun
  | [d] => { results := [.lit (.bool false)], args := [d] }
  | _ => none }
def FnExactReturnCreditWrongFalsely : Prop := fnExactReturnCreditRow.holds Try.pinned (OpenSpec.ofChange fnExactReturnCreditWrong)

/-- 'laws.FnExactLinkOk': WHATEVER THE INPUT: true; the input reads as it did. -/
def fnExactLinkOkSpec : ChangeSpec := { name := "fnExactLinkOk", fn := fun _ => fun
  | [d1, d2] => { results := [.lit (.bool true)], args := [d1, d2] }
  | _ => none }
def fnExactLinkOkRow : OpenClaim := { program := "ytkconbmgljmpfab", sum := "98aa79409ef3c7e458e82ece6deabae87f6088c9aa68c0696a7748ca506c75ad", func := "loop.example/g00728/laws.FnExactLinkOk", spec := "fnExactLinkOk", apart := false }
def FnExactLinkOkSaid : Prop := fnExactLinkOkRow.holds Try.pinned (OpenSpec.ofChange fnExactLinkOkSpec)

/-- ITS FALSE NEIGHBOUR: 'it returns false'. Refute it at one input. -/
def fnExactLinkOkWrong : ChangeSpec := { name := "fnExactLinkOk", fn := fun _ => fun
  | [d1, d2] => { results := [.lit (.bool false)], args := [d1, d2] }
  | _ => none }
def FnExactLinkOkWrongFalsely : Prop := fnExactLinkOkRow.holds Try.pinned (OpenSpec.ofChange fnExactLinkOkWrong)

/-- 'laws.FnExactPlayLink': WHATEVER THE INPUT: true; the input reads as it did. -/
def fnExactPlayLinkSpec : ChangeSpec := { name := "fnExactPlayLink", fn := fun _ => fun
  | [d1, d2] => { results := [.lit (.bool true)], args := [d1, d2] }
  | _ => none }
def fnExactPlayLinkRow : OpenClaim := { program := "ytkconbmgljmpfab", sum := "98aa79409ef3c7e458e82ece6deabae87f6088c9aa68c0696a7748ca506c75ad", func := "loop.example/g00728/laws.FnExactPlayLink", spec := "fnExactPlayLink", inPlace := ["sync/atomic.StoreInt64", "sync/atomic.AddInt64", "sync/atomic.LoadInt64"], apart := false }
def FnExactPlayLinkSaid : Prop := fnExactPlayLinkRow.holds Try.pinned (OpenSpec.ofChange fnExactPlayLinkSpec)

/-- ITS FALSE NEIGHBOUR: 'it returns false'. Refute it at one input. -/
def fnExactPlayLinkWrong : ChangeSpec := { name := "fnExactPlayLink", fn := fun _ => fun
  | [d1, d2] => { results := [.lit (.bool false)], args := [d1, d2] }
  | _ => none }
def FnExactPlayLinkWrongFalsely : Prop := fnExactPlayLinkRow.holds Try.pinned (OpenSpec.ofChange fnExactPlayLinkWrong)

/- THE SECOND FORM. 'bulk': how many values and letters a reading holds, each counted each time it is reached (what is shared counts as often as it is met; a slice's spare places count too). A statement '..UptoSaid' is the law's where the arguments, and the package variables that the reading takes, are together of bulk at most 1048576: NARROWER than '..Said'. Prove '..Said' where nothing that the law and all that it calls make is longer than what came in: it says more and counts as full. Else prove '..UptoSaid'. A law counts once. -/
mutual
def uptoBulk {H : Type} : DataW H → Nat
  | .lit (.string bytes) => bytes.length + 1
  | .lit _ => 1
  | .nil => 1
  | .ptr d => uptoBulk d + 1
  | .slice elems spare => uptoBulkAll elems + uptoBulkAll spare + 1
  | .agg parts => uptoBulkAll parts + 1
  | .iface _ d => uptoBulk d + 1
  | .map entries => uptoBulkEntries entries + 1
  | .held _ => 1
def uptoBulkAll {H : Type} : List (DataW H) → Nat
  | [] => 0
  | d :: r => uptoBulk d + uptoBulkAll r
def uptoBulkEntries {H : Type} : List (Lit × DataW H) → Nat
  | [] => 0
  | x :: r => uptoBulkEntry x + uptoBulkEntries r
def uptoBulkEntry {H : Type} : Lit × DataW H → Nat
  | (.string bytes, d) => bytes.length + uptoBulk d + 1
  | (_, d) => uptoBulk d + 1
 end
def uptoSmall : (H : Type) → List (DataW H) → Bool := fun _ ds => decide (uptoBulkAll ds ≤ 1048576)
def OpenSpec.upto (s : _root_.Go.ChangeSpec) : _root_.Go.OpenSpec := { _root_.Go.OpenSpec.ofChange s with cond := some uptoSmall }

/-- 'laws.FnExactSpendCredit', WHERE WHAT IT READS IS OF BULK AT MOST 1048576: true; the input reads as it did. -/
def fnExactSpendCreditUptoRow : OpenClaim := { program := "ytkconbmgljmpfab", sum := "98aa79409ef3c7e458e82ece6deabae87f6088c9aa68c0696a7748ca506c75ad", func := "loop.example/g00728/laws.FnExactSpendCredit", spec := "fnExactSpendCredit", inPlace := ["sync/atomic.StoreInt64", "sync/atomic.AddInt64", "sync/atomic.LoadInt64"], apart := false, narrowed := true }
def FnExactSpendCreditUptoSaid : Prop := fnExactSpendCreditUptoRow.holds Try.pinned (OpenSpec.upto fnExactSpendCreditSpec)

/-- 'laws.FnExactReturnCredit', WHERE WHAT IT READS IS OF BULK AT MOST 1048576: true; the input reads as it did. -/
def fnExactReturnCreditUptoRow : OpenClaim := { program := "ytkconbmgljmpfab", sum := "98aa79409ef3c7e458e82ece6deabae87f6088c9aa68c0696a7748ca506c75ad", func := "loop.example/g00728/laws.FnExactReturnCredit", spec := "fnExactReturnCredit", inPlace := ["sync/atomic.StoreInt64", "sync/atomic.AddInt64", "sync/atomic.LoadInt64"], apart := false, narrowed := true }
def FnExactReturnCreditUptoSaid : Prop := fnExactReturnCreditUptoRow.holds Try.pinned (OpenSpec.upto fnExactReturnCreditSpec)

/-- 'laws.FnExactLinkOk', WHERE WHAT IT READS IS OF BULK AT MOST 1048576: true; the input reads as it did. -/
def fnExactLinkOkUptoRow : OpenClaim := { program := "ytkconbmgljmpfab", sum := "98aa79409ef3c7e458e82ece6deabae87f6088c9aa68c0696a7748ca506c75ad", func := "loop.example/g00728/laws.FnExactLinkOk", spec := "fnExactLinkOk", apart := false, narrowed := true }
def FnExactLinkOkUptoSaid : Prop := fnExactLinkOkUptoRow.holds Try.pinned (OpenSpec.upto fnExactLinkOkSpec)

/-- 'laws.FnExactPlayLink', WHERE WHAT IT READS IS OF BULK AT MOST 1048576: true; the input reads as it did. -/
def fnExactPlayLinkUptoRow : OpenClaim := { program := "ytkconbmgljmpfab", sum := "98aa79409ef3c7e458e82ece6deabae87f6088c9aa68c0696a7748ca506c75ad", func := "loop.example/g00728/laws.FnExactPlayLink", spec := "fnExactPlayLink", inPlace := ["sync/atomic.StoreInt64", "sync/atomic.AddInt64", "sync/atomic.LoadInt64"], apart := false, narrowed := true }
def FnExactPlayLinkUptoSaid : Prop := fnExactPlayLinkUptoRow.holds Try.pinned (OpenSpec.upto fnExactPlayLinkSpec)

end Rows
end Go.Proofs.Ytkconbmgljmpfab
