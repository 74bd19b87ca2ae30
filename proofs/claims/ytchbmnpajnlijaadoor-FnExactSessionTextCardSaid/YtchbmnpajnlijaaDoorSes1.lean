/- Chapter 11, spec's side: SessionOk, ClosedSessions, LongestSession. (made by tools/mksess.py) -/
import Derived.Test.YtchbmnpajnlijaaDoorPlainSess
import Derived.Test.YtchbmnpajnlijaaDoorSessionA
import Derived.Deep.RegionWith
import Derived.Deep.QuietTactic
import Derived.BigQuiet
import Derived.StillTailTactics
import Derived.OwnWalk
import Derived.IntWalk
namespace Go.Proofs.YtchbmnpajnlijaaDoor
open Go.RowKit

set_option maxHeartbeats 4000000 in
theorem specSesOk_x (u0 u1 u2 u3 u4 : Int) (w : World) : Calls Tryd.prog 7 #[(.agg #[.int .i64 u0, .int .i64 u1, .int .i64 u2, .int .i64 u3, .int .i64 u4])] w fun e w' => e = .returned (.bool (sesOk ⟨u0, u1, u2, u3, u4⟩)) ∧ Below w.heap.size w w' := by
  have BB := Lib.hid ((Below.refl w.heap.size w).alloc (Nat.le_refl _) (.cells #[.int .i64 u0, .int .i64 u1, .int .i64 u2, .int .i64 u3, .int .i64 u4] 25))
  cases h0 : inB u0 0 65535 with
  | false =>
    rw [show sesOk ⟨u0, u1, u2, u3, u4⟩ = false by simp [sesOk, h0]]
    go_enter Tryd.func7, Tryd.ntmps7
    go_wp2_with (go_at_call 11; refine (specIn_any _ _ _ _).mono ?_; rintro e w' ⟨rfl, rfl⟩)
    go_ret
    exact ⟨rfl, BB.out⟩
  | true =>
    cases h1 : inB u2 0 1000000 with
    | false =>
      rw [show sesOk ⟨u0, u1, u2, u3, u4⟩ = false by simp [sesOk, h1]]
      go_enter Tryd.func7, Tryd.ntmps7
      go_wp2_with (go_at_call 11; refine (specIn_any _ _ _ _).mono ?_; rintro e w' ⟨rfl, rfl⟩)
      go_ret
      exact ⟨rfl, BB.out⟩
    | true =>
      cases h2 : inB u1 0 u2 with
      | false =>
        rw [show sesOk ⟨u0, u1, u2, u3, u4⟩ = false by simp [sesOk, h2]]
        go_enter Tryd.func7, Tryd.ntmps7
        go_wp2_with (go_at_call 11; refine (specIn_any _ _ _ _).mono ?_; rintro e w' ⟨rfl, rfl⟩)
        go_ret
        exact ⟨rfl, BB.out⟩
      | true =>
        cases h3 : inB u3 1 1000000000 with
        | false =>
          rw [show sesOk ⟨u0, u1, u2, u3, u4⟩ = false by simp [sesOk, h3]]
          go_enter Tryd.func7, Tryd.ntmps7
          go_wp2_with (go_at_call 11; refine (specIn_any _ _ _ _).mono ?_; rintro e w' ⟨rfl, rfl⟩)
          go_ret
          exact ⟨rfl, BB.out⟩
        | true =>
          cases h4 : inB u4 (-1000000000) 1000000000 with
          | false =>
            rw [show sesOk ⟨u0, u1, u2, u3, u4⟩ = false by simp [sesOk, h4]]
            go_enter Tryd.func7, Tryd.ntmps7
            go_wp2_with (go_at_call 11; refine (specIn_any _ _ _ _).mono ?_; rintro e w' ⟨rfl, rfl⟩)
            go_ret
            exact ⟨rfl, BB.out⟩
          | true =>
            rw [show sesOk ⟨u0, u1, u2, u3, u4⟩ = true by simp [sesOk, h0, h1, h2, h3, h4]]
            go_enter Tryd.func7, Tryd.ntmps7
            go_wp2_with (go_at_call 11; refine (specIn_any _ _ _ _).mono ?_; rintro e w' ⟨rfl, rfl⟩)
            go_ret
            exact ⟨rfl, BB.out⟩
end Go.Proofs.YtchbmnpajnlijaaDoor
