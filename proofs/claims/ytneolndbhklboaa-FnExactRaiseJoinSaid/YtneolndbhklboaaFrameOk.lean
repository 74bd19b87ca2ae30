/- impl.FrameOk tells what is a frame. -/
import Derived.Test.YtneolndbhklboaaFrameOk1
import Derived.Test.YtneolndbhklboaaFrameOk2
namespace Go.Proofs.Ytneolndbhklboaa
open Go.RowKit

theorem implFrameOk_any (k y t v : Int) (w : World) :
    Calls Try.prog 93 #[(.agg #[.int .i64 k, .int .i64 y, .int .i64 t, .int .i64 v])] w fun e w' => e = .returned (.bool (fOk k y t v)) ∧ Below w.heap.size w w' := by
  by_cases h1 : k = 1
  · subst h1; exact implFrameOk_event y t v w
  by_cases h2 : k = 2
  · subst h2; exact implFrameOk_mark y t v w
  by_cases h3 : k = 3
  · subst h3; exact implFrameOk_bye y t v w
  exact implFrameOk_none k y t v (by simp [h1]) (by simp [h2]) (by simp [h3]) w

end Go.Proofs.Ytneolndbhklboaa
