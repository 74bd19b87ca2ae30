/- The contract of spec.l01Read: what a word reads as. -/
import Derived.Test.YtalelcloppbhcaaDoorPlainRead
import Derived.Test.YtalelcloppbhcaaDoorNum
import Derived.Test.YtalelcloppbhcaaDoorTick1
import Derived.WalkSpells
import Derived.IntWalk
namespace Go.Proofs.YtalelcloppbhcaaDoor
open Go.RowKit

/-- What a read of a word ends in. -/
def ReadPost (l : List UInt8) (w : World) (e : Ending) (w' : World) : Prop := ∃ v ok, e = .returned (.tuple #[.int .i64 v, .bool ok]) ∧ ReadIs l v ok ∧ Below w.heap.size w w'

end Go.Proofs.YtalelcloppbhcaaDoor
