/- Contracts of the laws' own helpers over frames. -/
import Derived.Test.YtpigollgjpkflaaDoorFrameS
import Derived.Test.YtpigollgjpkflaaDoorTakeImpl
import Derived.Test.YtpigollgjpkflaaDoorDecS
namespace Go.Proofs.YtpigollgjpkflaaDoor
open Go.RowKit

theorem tkF_fr (xs : List Int) : ∃ k y t v, tkF xs = (.agg #[.int .i64 k, .int .i64 y, .int .i64 t, .int .i64 v]) := by
  unfold tkF
  split
  · exact ⟨_, _, _, _, rfl⟩
  · exact ⟨_, _, _, _, rfl⟩


end Go.Proofs.YtpigollgjpkflaaDoor
