/- Plain: what a frame is, no program. -/
import Derived.Test.YtneolndbhklboaaTick1
import Derived.Test.YtneolndbhklboaaMem
namespace Go.Proofs.Ytneolndbhklboaa

def fOk (k y t v : Int) : Bool := (k == 1 && inB y 0 65535 && inB t 0 1000000 && inB v (-1000000) 1000000) || (k == 2 && y == 0 && inB t 0 1000000 && v == 0) || (k == 3 && y == 0 && t == 0 && v == 0)
theorem fOk_event (y t v : Int) : fOk 1 y t v = (inB y 0 65535 && inB t 0 1000000 && inB v (-1000000) 1000000) := by simp [fOk]
theorem fOk_mark (y t v : Int) : fOk 2 y t v = (y == 0 && inB t 0 1000000 && v == 0) := by simp [fOk]
theorem fOk_bye (y t v : Int) : fOk 3 y t v = (y == 0 && t == 0 && v == 0) := by simp [fOk]
theorem fOk_none {k : Int} (y t v : Int) (h1 : (k == 1) = false) (h2 : (k == 2) = false) (h3 : (k == 3) = false) : fOk k y t v = false := by simp [fOk, h1, h2, h3]

end Go.Proofs.Ytneolndbhklboaa
