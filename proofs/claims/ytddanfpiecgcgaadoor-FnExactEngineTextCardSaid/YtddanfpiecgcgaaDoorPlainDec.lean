/- Plain: when a decoder is one. No program. -/
import Derived.Test.YtddanfpiecgcgaaDoorMark
namespace Go.Proofs.YtddanfpiecgcgaaDoor
open Go.RowKit

def dOk (n : Nat) (b : Bool) : Bool := decide (n ≤ 400) && (!b || decide (n = 0))
theorem dOk_long {n : Nat} {b : Bool} (h : ¬ n ≤ 400) : dOk n b = false := by simp [dOk, h]
theorem dOk_good {n : Nat} (h : n ≤ 400) : dOk n false = true := by simp [dOk, h]
theorem dOk_bad0 : dOk 0 true = true := by simp [dOk]
theorem dOk_bad {n : Nat} (h0 : n ≠ 0) : dOk n true = false := by simp [dOk, h0]

/-- A decoder in memory of the call's own. -/
def FreshDec (T : TypeId) (xs : List Int) (b : Bool) (w : World) (e : Ending) (w' : World) : Prop :=
  ∃ a c, e = .returned (.agg #[.slice a xs.length c, .bool b]) ∧ w'.ownsRow w.heap.size T 1 (.slice a xs.length c) xs.length (xs.map (Value.int .u8)) ∧ Below w.heap.size w w'

end Go.Proofs.YtddanfpiecgcgaaDoor
