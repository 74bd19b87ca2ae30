/- Contracts of chapter 5: spec.MergeAggs with what it calls; closedAt, aggOf. (made by tools/mkwin5.py) -/
import Derived.Test.YtnfhlfbkdhpacaaWin4
namespace Go.Proofs.Ytnfhlfbkdhpacaa
open Go.RowKit

set_option maxHeartbeats 2000000 in
theorem specAhead_x (u0 u1 u2 u3 u4 u5 v0 v1 v2 v3 v4 v5 : Int) (w : World) : Calls Try.prog 32 #[(.agg #[.int .i64 u0, .int .i64 u1, .int .i64 u2, .int .i64 u3, .int .i64 u4, .int .i64 u5]), (.agg #[.int .i64 v0, .int .i64 v1, .int .i64 v2, .int .i64 v3, .int .i64 v4, .int .i64 v5])] w fun e w' => e = .returned (.bool (aheadA ⟨u0, u1, u2, u3, u4, u5⟩ ⟨v0, v1, v2, v3, v4, v5⟩)) ∧ Below w.heap.size w w' := by
  have BB := Lib.hid (boxed2 w 37 37 #[.int .i64 u0, .int .i64 u1, .int .i64 u2, .int .i64 u3, .int .i64 u4, .int .i64 u5] #[.int .i64 v0, .int .i64 v1, .int .i64 v2, .int .i64 v3, .int .i64 v4, .int .i64 v5]).2.2.2
  by_cases h0 : u0 < v0
  · rw [show aheadA ⟨u0, u1, u2, u3, u4, u5⟩ ⟨v0, v1, v2, v3, v4, v5⟩ = true by simp [aheadA, h0]]
    go_enter Try.func32, Try.ntmps32
    go_wp2
    go_ret
    exact ⟨by simp [go_sem], BB.out⟩
  · by_cases h1 : u0 = v0
    · subst h1
      by_cases h2 : u1 < v1
      · rw [show aheadA ⟨u0, u1, u2, u3, u4, u5⟩ ⟨u0, v1, v2, v3, v4, v5⟩ = true by simp [aheadA, h2]]
        go_enter Try.func32, Try.ntmps32
        go_wp2
        go_ret
        exact ⟨by simp [go_sem], BB.out⟩
      · rw [show aheadA ⟨u0, u1, u2, u3, u4, u5⟩ ⟨u0, v1, v2, v3, v4, v5⟩ = false by simp [aheadA, h2]]
        go_enter Try.func32, Try.ntmps32
        go_wp2
        go_ret
        exact ⟨by simp [go_sem], BB.out⟩
    · rw [show aheadA ⟨u0, u1, u2, u3, u4, u5⟩ ⟨v0, v1, v2, v3, v4, v5⟩ = false by simp [aheadA, h0, h1]]
      go_enter Try.func32, Try.ntmps32
      go_wp2
      go_ret
      exact ⟨by simp [go_sem], BB.out⟩
end Go.Proofs.Ytnfhlfbkdhpacaa
