/- laws.szAggS with whatever is left; a call that returns alone leaves nobody behind. -/
import Derived.Test.YtchbmnpajnlijaaAggS
namespace Go.Proofs.Ytchbmnpajnlijaa
open Go.RowKit
theorem szAggS_at (a : Option Addr) (n c m : Nat) (w : World) (hn : n ≤ 9223372036854775807) (hm : m ≤ 1048576) :
    Calls Try.prog 40 #[.slice a n c, .int .i64 (m : Int)] w fun e w' => e = .returned (.int .i64 (if (m : Int) - (n : Int) < 0 then -1 else (m : Int) - (n : Int))) ∧ w = w' := by
  by_cases h : (m : Int) - (n : Int) < 0
  · rw [if_pos h]
    go_enter Try.func40, Try.ntmps40
    go_wp2
    go_ret
    exact ⟨rfl, rfl⟩
  · rw [if_neg h]
    go_enter Try.func40, Try.ntmps40
    go_wp2
    go_ret
    exact ⟨rfl, rfl⟩
end Go.Proofs.Ytchbmnpajnlijaa
