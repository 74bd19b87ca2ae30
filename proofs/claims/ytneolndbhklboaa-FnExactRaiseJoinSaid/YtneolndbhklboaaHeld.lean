/- What the laws' walks import beside the contracts. -/
import Derived.Test.YtneolndbhklboaaMem
import Derived.Deep.RegionHeld3
import Derived.Deep.RegionWith
namespace Go.Proofs.Ytneolndbhklboaa
open Go.RowKit
theorem size_drew_ (w : World) : w.drew.heap.size = w.heap.size := rfl
end Go.Proofs.Ytneolndbhklboaa
