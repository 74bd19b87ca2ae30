/- What the laws' walks import beside the contracts. -/
import Derived.Test.YtmiapmgeacleoaaMem
import Derived.Deep.RegionHeld3
import Derived.Deep.RegionWith
namespace Go.Proofs.Ytmiapmgeacleoaa
end Go.Proofs.Ytmiapmgeacleoaa
