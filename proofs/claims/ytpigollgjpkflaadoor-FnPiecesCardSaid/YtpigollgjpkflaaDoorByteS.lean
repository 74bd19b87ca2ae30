/- Contracts of the laws' own helpers over slices of bytes: the copy, the comparison, the marks and what is held. The slice reads as a list (Nums), at most 1048576 long. -/
import Derived.Test.YtpigollgjpkflaaDoorProg
import Derived.Test.YtpigollgjpkflaaDoorMem
import Derived.WalkKit
import Derived.ProofKit
import Derived.Lib.Hide
import Derived.Deep.OwnRows
import Derived.Deep.QuietTactic
import Derived.BigQuiet
namespace Go.Proofs.YtpigollgjpkflaaDoor
open Go.RowKit

theorem infoU8 : (Tryd.prog.info? 5).map (fun i => (i.zero, i.size, i.bytes)) = some (some (.int .u8 0), 1, 1) := by kernel_rfl



/-- What marking a row does: its numbers are the marks; of the rest nothing has turned. -/
def MarkPost (T : TypeId) (k : IntKind) (lo : Nat) (a : Option Addr) (c m n : Nat) (w : World) (e : Ending) (w' : World) : Prop :=
  e = .returned (.int .i64 ((m + n : Nat) : Int)) ∧ w'.ownsRow lo T 1 (.slice a n c) n ((marks m n).map (Value.int k)) ∧ w.grownBy w' (Value.slice a n c).ownBlock




end Go.Proofs.YtpigollgjpkflaaDoor
