/- The tactics for a drawn region with loads beside calls, and for cuts. No program. -/
import Derived.Deep.RegionWith
import Derived.Deep.CutRange
import Derived.Deep.LoopGhost
import Derived.Deep.RegionHeld3
import Derived.StillTailTactics
namespace Go.Proofs.Ytneolndbhklboaa

end Go.Proofs.Ytneolndbhklboaa
