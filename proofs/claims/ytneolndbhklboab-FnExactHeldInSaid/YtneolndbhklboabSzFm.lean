/- laws.szFrameS and laws.szPairS with whatever is left. -/
import Derived.Test.YtneolndbhklboabFmRow
import Derived.Test.YtneolndbhklboabPairS
namespace Go.Proofs.Ytneolndbhklboab
open Go.RowKit
theorem szFrameS_at (a : Option Addr) (n c m : Nat) (w : World) (hn : n ≤ 9223372036854775807) (hm : m ≤ 1048576) :
    Calls Try.prog 10 #[.slice a n c, .int .i64 (m : Int)] w fun e w' => e = .returned (.int .i64 (if (m : Int) - (n : Int) < 0 then -1 else (m : Int) - (n : Int))) ∧ w = w' := by
  by_cases h : (m : Int) - (n : Int) < 0
  · rw [if_pos h]
    go_enter Try.func10, Try.ntmps10
    go_wp2
    go_ret
    exact ⟨rfl, rfl⟩
  · rw [if_neg h]
    go_enter Try.func10, Try.ntmps10
    go_wp2
    go_ret
    exact ⟨rfl, rfl⟩
end Go.Proofs.Ytneolndbhklboab
