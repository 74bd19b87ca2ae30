/- The contract of spec.l01Parts: a text parted at each byte of one kind. -/
import Derived.Test.YtalelcloppbhcaaDoorPlainRead
import Derived.Test.YtalelcloppbhcaaDoorProg
import Derived.WalkKit
import Derived.WalkSpells
import Derived.ProofKit
import Derived.Below
import Derived.Outline
import Derived.Lib.Hide
import Derived.OwnWalk
import Derived.Laws.OwnMore
import Derived.Maps.AppendAt
namespace Go.Proofs.YtalelcloppbhcaaDoor
open Go.RowKit

theorem infoS : (Tryd.prog.info? 9).map (fun i => (i.zero, i.size, i.bytes)) = some (some (.string ⟨#[]⟩), 1, 16) := by kernel_rfl

end Go.Proofs.YtalelcloppbhcaaDoor
