/- laws.szFrameS and laws.szPairS with whatever is left. -/
import Derived.Test.YtneolndbhklboaaFmRow
import Derived.Test.YtneolndbhklboaaPairS
namespace Go.Proofs.Ytneolndbhklboaa
open Go.RowKit
theorem szFrameS_at (a : Option Addr) (n c m : Nat) (w : World) (hn : n ≤ 9223372036854775807) (hm : m ≤ 1048576) :
    Calls Try.prog 22 #[.slice a n c, .int .i64 (m : Int)] w fun e w' => e = .returned (.int .i64 (if (m : Int) - (n : Int) < 0 then -1 else (m : Int) - (n : Int))) ∧ w = w' := by
  by_cases h : (m : Int) - (n : Int) < 0
  · rw [if_pos h]
    go_enter Try.func22, Try.ntmps22
    go_wp2
    go_ret
    exact ⟨rfl, rfl⟩
  · rw [if_neg h]
    go_enter Try.func22, Try.ntmps22
    go_wp2
    go_ret
    exact ⟨rfl, rfl⟩
theorem szPairS_at (a : Option Addr) (n c m : Nat) (w : World) (hn : n ≤ 9223372036854775807) (hm : m ≤ 1048576) :
    Calls Try.prog 38 #[.slice a n c, .int .i64 (m : Int)] w fun e w' => e = .returned (.int .i64 (if (m : Int) - (n : Int) < 0 then -1 else (m : Int) - (n : Int))) ∧ w = w' := by
  by_cases h : (m : Int) - (n : Int) < 0
  · rw [if_pos h]
    go_enter Try.func38, Try.ntmps38
    go_wp2
    go_ret
    exact ⟨rfl, rfl⟩
  · rw [if_neg h]
    go_enter Try.func38, Try.ntmps38
    go_wp2
    go_ret
    exact ⟨rfl, rfl⟩
end Go.Proofs.Ytneolndbhklboaa
