/- The contract of spec.l01Num: the decimal numeral of every int. -/
import Derived.Test.YtalelcloppbhcaaDoorProg
import Derived.Test.YtalelcloppbhcaaDoorPlainNum
import Derived.WalkKit
import Derived.ProofKit
import Derived.Below
import Derived.Outline
import Derived.Lib.Hide
namespace Go.Proofs.YtalelcloppbhcaaDoor
open Go.RowKit

theorem digs_len (u : Nat) (h : u < 18446744073709551616) : (digs u).length ≤ 20 := by
  unfold digs
  split
  · simp
  · rw [Lib.decDigits_length]; exact Lib.nDigits_le20 u h

end Go.Proofs.YtalelcloppbhcaaDoor
