/-
  No cell of these rows narrows 'for every input' (looked for: loops, veiled, ifaces, maps, wideKeys, modest, calm, conditions, laid).
  DERIVED. THE GIVEN ROWS OF THIS SEAT. 5 by the template 'for every input the law returns true; each argument reads behind the call as it read before'; 0 by the template 'total and deterministic' (their statements: YtmiapmgeacleoaaTotals.lean).
  GIVEN WITH THE SEED: the statements are not yours to turn. If you find one false, say at which input.
  Laid BY PROGRAM, IN A SANDBOX (cutbox-rows.mjs): the forced cells as the released guide's own fill.sh prints them over the translation c5138d55b38a1a80… (all of the seat's roots in one cut). By AI agents, Wed Nov 11 2026. No macro, syntax, notation, axiom, sorry.
-/
import Derived.Test.YtmiapmgeacleoaaChecked
import GoSem.Claim
import GoSem.ClaimJoined
import GoSem.ClaimMapViews
import Derived.JoinedTies
import Derived.KernelRfl
namespace Go.Proofs.Ytmiapmgeacleoaa
/- THE CELL 'sum', in the pinned program and in every row, IS THE sha256 OF THE DUMP (.gsa) THAT YtmiapmgeacleoaaProg.lean LOADS. Nothing in Lean hashes anything: it is a label: what it is worth is what the hold of that sum in a sandbox is worth. -/
noncomputable def Try.pinned : Pinned := { name := "ytmiapmgeacleoaa", sum := "c5138d55b38a1a80974f083f452e77d4c7bfff3b46c2cffd0c2055f2c893b3bd", checked := Try.checked }
namespace Rows
def none {H : Type} : Left H := { results := [], args := [] }

/-- 'laws.FnExactFrameOk': WHATEVER THE INPUT: true; the input reads as it did. -/
def fnExactFrameOkSpec : ChangeSpec := { name := "fnExactFrameOk", fn := fun _ => fun
  | [d] => { results := [.lit (.bool true)], args := [d] }
  | _ => none }
def fnExactFrameOkRow : OpenClaim := { program := "ytmiapmgeacleoaa", sum := "c5138d55b38a1a80974f083f452e77d4c7bfff3b46c2cffd0c2055f2c893b3bd", func := "loop.example/g00728/laws.FnExactFrameOk", spec := "fnExactFrameOk", unfollowed := true, recurses := true, apart := false }
def FnExactFrameOkSaid : Prop := fnExactFrameOkRow.holds Try.pinned (OpenSpec.ofChange fnExactFrameOkSpec)

/-- ITS FALSE NEIGHBOUR: 'it returns false'. Refute it at one input. -/
def fnExactFrameOkWrong : ChangeSpec := { name := "fnExactFrameOk", fn := fun _ => fun
  | [d] => { results := [.lit (.bool false)], args := [d] }
  | _ => none }
def FnExactFrameOkWrongFalsely : Prop := fnExactFrameOkRow.holds Try.pinned (OpenSpec.ofChange fnExactFrameOkWrong)

/-- 'laws.FnExactCheck': WHATEVER THE INPUT: true; the input reads as it did. -/
def fnExactCheckSpec : ChangeSpec := { name := "fnExactCheck", fn := fun _ => fun
  | [d] => { results := [.lit (.bool true)], args := [d] }
  | _ => none }
def fnExactCheckRow : OpenClaim := { program := "ytmiapmgeacleoaa", sum := "c5138d55b38a1a80974f083f452e77d4c7bfff3b46c2cffd0c2055f2c893b3bd", func := "loop.example/g00728/laws.FnExactCheck", spec := "fnExactCheck", apart := false }
def FnExactCheckSaid : Prop := fnExactCheckRow.holds Try.pinned (OpenSpec.ofChange fnExactCheckSpec)

/-- ITS FALSE NEIGHBOUR: 'it returns false'. Refute it at one input. -/
def fnExactCheckWrong : ChangeSpec := { name := "fnExactCheck", fn := fun _ => fun
  | [d] => { results := [.lit (.bool false)], args := [d] }
  | _ => none }
def FnExactCheckWrongFalsely : Prop := fnExactCheckRow.holds Try.pinned (OpenSpec.ofChange fnExactCheckWrong)

/-- 'laws.FnExactPutFrame': WHATEVER THE INPUT: true; the input reads as it did. -/
def fnExactPutFrameSpec : ChangeSpec := { name := "fnExactPutFrame", fn := fun _ => fun
  | [d] => { results := [.lit (.bool true)], args := [d] }
  | _ => none }
def fnExactPutFrameRow : OpenClaim := { program := "ytmiapmgeacleoaa", sum := "c5138d55b38a1a80974f083f452e77d4c7bfff3b46c2cffd0c2055f2c893b3bd", func := "loop.example/g00728/laws.FnExactPutFrame", spec := "fnExactPutFrame", unfollowed := true, recurses := true, apart := false }
def FnExactPutFrameSaid : Prop := fnExactPutFrameRow.holds Try.pinned (OpenSpec.ofChange fnExactPutFrameSpec)

/-- ITS FALSE NEIGHBOUR: 'it returns false'. Refute it at one input. -/
def fnExactPutFrameWrong : ChangeSpec := { name := "fnExactPutFrame", fn := fun _ => fun
  | [d] => { results := [.lit (.bool false)], args := [d] }
  | _ => none }
def FnExactPutFrameWrongFalsely : Prop := fnExactPutFrameRow.holds Try.pinned (OpenSpec.ofChange fnExactPutFrameWrong)

/-- 'laws.FnExactDecoderOk': WHATEVER THE INPUT: true; the input reads as it did. -/
def fnExactDecoderOkSpec : ChangeSpec := { name := "fnExactDecoderOk", fn := fun _ => fun
  | [d] => { results := [.lit (.bool true)], args := [d] }
  | _ => none }
def fnExactDecoderOkRow : OpenClaim := { program := "ytmiapmgeacleoaa", sum := "c5138d55b38a1a80974f083f452e77d4c7bfff3b46c2cffd0c2055f2c893b3bd", func := "loop.example/g00728/laws.FnExactDecoderOk", spec := "fnExactDecoderOk", apart := false }
def FnExactDecoderOkSaid : Prop := fnExactDecoderOkRow.holds Try.pinned (OpenSpec.ofChange fnExactDecoderOkSpec)

/-- ITS FALSE NEIGHBOUR: 'it returns false'. Refute it at one input. -/
def fnExactDecoderOkWrong : ChangeSpec := { name := "fnExactDecoderOk", fn := fun _ => fun
  | [d] => { results := [.lit (.bool false)], args := [d] }
  | _ => none }
def FnExactDecoderOkWrongFalsely : Prop := fnExactDecoderOkRow.holds Try.pinned (OpenSpec.ofChange fnExactDecoderOkWrong)

/-- 'laws.FnExactFeedBytes': WHATEVER THE INPUT: true; the input reads as it did. -/
def fnExactFeedBytesSpec : ChangeSpec := { name := "fnExactFeedBytes", fn := fun _ => fun
  | [d1, d2] => { results := [.lit (.bool true)], args := [d1, d2] }
  | _ => none }
def fnExactFeedBytesRow : OpenClaim := { program := "ytmiapmgeacleoaa", sum := "c5138d55b38a1a80974f083f452e77d4c7bfff3b46c2cffd0c2055f2c893b3bd", func := "loop.example/g00728/laws.FnExactFeedBytes", spec := "fnExactFeedBytes", apart := false }
def FnExactFeedBytesSaid : Prop := fnExactFeedBytesRow.holds Try.pinned (OpenSpec.ofChange fnExactFeedBytesSpec)

/-- ITS FALSE NEIGHBOUR: 'it returns false'. Refute it at one input. -/
def fnExactFeedBytesWrong : ChangeSpec := { name := "fnExactFeedBytes", fn := fun _ => fun
  | [d1, d2] => { results := [.lit (.bool false)], args := [d1, d2] }
  | _ => none }
def FnExactFeedBytesWrongFalsely : Prop := fnExactFeedBytesRow.holds Try.pinned (OpenSpec.ofChange fnExactFeedBytesWrong)

/- THE SECOND FORM. 'bulk': how many values and letters a reading holds, each counted each time it is reached (what is shared counts as often as it is met; a slice's spare places count too). A statement '..UptoSaid' is the law's where the arguments, and the package variables that the reading takes, are together of bulk at most 1048576: NARROWER than '..Said'. Prove '..Said' where nothing that the law and all that it calls make is longer than what came in: it says more and counts as full. Else prove '..UptoSaid'. A law counts once. -/
mutual
def uptoBulk {H : Type} : DataW H → Nat
  | .lit (.string bytes) => bytes.length + 1
  | .lit _ => 1
  | .nil => 1
  | .ptr d => uptoBulk d + 1
  | .slice elems spare => uptoBulkAll elems + uptoBulkAll spare + 1
  | .agg parts => uptoBulkAll parts + 1
  | .iface _ d => uptoBulk d + 1
  | .map entries => uptoBulkEntries entries + 1
  | .held _ => 1
def uptoBulkAll {H : Type} : List (DataW H) → Nat
  | [] => 0
  | d :: r => uptoBulk d + uptoBulkAll r
def uptoBulkEntries {H : Type} : List (Lit × DataW H) → Nat
  | [] => 0
  | x :: r => uptoBulkEntry x + uptoBulkEntries r
def uptoBulkEntry {H : Type} : Lit × DataW H → Nat
  | (.string bytes, d) => bytes.length + uptoBulk d + 1
  | (_, d) => uptoBulk d + 1
 end
def uptoSmall : (H : Type) → List (DataW H) → Bool := fun _ ds => decide (uptoBulkAll ds ≤ 1048576)
def OpenSpec.upto (s : _root_.Go.ChangeSpec) : _root_.Go.OpenSpec := { _root_.Go.OpenSpec.ofChange s with cond := some uptoSmall }

/-- 'laws.FnExactFrameOk', WHERE WHAT IT READS IS OF BULK AT MOST 1048576: true; the input reads as it did. -/
def fnExactFrameOkUptoRow : OpenClaim := { program := "ytmiapmgeacleoaa", sum := "c5138d55b38a1a80974f083f452e77d4c7bfff3b46c2cffd0c2055f2c893b3bd", func := "loop.example/g00728/laws.FnExactFrameOk", spec := "fnExactFrameOk", unfollowed := true, recurses := true, apart := false, narrowed := true }
def FnExactFrameOkUptoSaid : Prop := fnExactFrameOkUptoRow.holds Try.pinned (OpenSpec.upto fnExactFrameOkSpec)

/-- 'laws.FnExactCheck', WHERE WHAT IT READS IS OF BULK AT MOST 1048576: true; the input reads as it did. -/
def fnExactCheckUptoRow : OpenClaim := { program := "ytmiapmgeacleoaa", sum := "c5138d55b38a1a80974f083f452e77d4c7bfff3b46c2cffd0c2055f2c893b3bd", func := "loop.example/g00728/laws.FnExactCheck", spec := "fnExactCheck", apart := false, narrowed := true }
def FnExactCheckUptoSaid : Prop := fnExactCheckUptoRow.holds Try.pinned (OpenSpec.upto fnExactCheckSpec)

/-- 'laws.FnExactPutFrame', WHERE WHAT IT READS IS OF BULK AT MOST 1048576: true; the input reads as it did. -/
def fnExactPutFrameUptoRow : OpenClaim := { program := "ytmiapmgeacleoaa", sum := "c5138d55b38a1a80974f083f452e77d4c7bfff3b46c2cffd0c2055f2c893b3bd", func := "loop.example/g00728/laws.FnExactPutFrame", spec := "fnExactPutFrame", unfollowed := true, recurses := true, apart := false, narrowed := true }
def FnExactPutFrameUptoSaid : Prop := fnExactPutFrameUptoRow.holds Try.pinned (OpenSpec.upto fnExactPutFrameSpec)

/-- 'laws.FnExactDecoderOk', WHERE WHAT IT READS IS OF BULK AT MOST 1048576: true; the input reads as it did. -/
def fnExactDecoderOkUptoRow : OpenClaim := { program := "ytmiapmgeacleoaa", sum := "c5138d55b38a1a80974f083f452e77d4c7bfff3b46c2cffd0c2055f2c893b3bd", func := "loop.example/g00728/laws.FnExactDecoderOk", spec := "fnExactDecoderOk", apart := false, narrowed := true }
def FnExactDecoderOkUptoSaid : Prop := fnExactDecoderOkUptoRow.holds Try.pinned (OpenSpec.upto fnExactDecoderOkSpec)

/-- 'laws.FnExactFeedBytes', WHERE WHAT IT READS IS OF BULK AT MOST 1048576: true; the input reads as it did. -/
def fnExactFeedBytesUptoRow : OpenClaim := { program := "ytmiapmgeacleoaa", sum := "c5138d55b38a1a80974f083f452e77d4c7bfff3b46c2cffd0c2055f2c893b3bd", func := "loop.example/g00728/laws.FnExactFeedBytes", spec := "fnExactFeedBytes", apart := false, narrowed := true }
def FnExactFeedBytesUptoSaid : Prop := fnExactFeedBytesUptoRow.holds Try.pinned (OpenSpec.upto fnExactFeedBytesSpec)

end Rows
end Go.Proofs.Ytmiapmgeacleoaa
