/- Chapter 11, impl's side: SessionOk, Session.length, LongestSession. (made by tools/mksessi.py) -/
import Derived.Test.YtchbmnpajnlijaaDoorPlainSess
import Derived.Test.YtchbmnpajnlijaaDoorSessionA
import Derived.Test.YtchbmnpajnlijaaDoorWin1
import Derived.Deep.RegionWith
import Derived.Deep.QuietTactic
import Derived.BigQuiet
import Derived.StillTailTactics
import Derived.OwnWalk
import Derived.IntWalk
import Derived.Deep.RegionHeld3
namespace Go.Proofs.YtchbmnpajnlijaaDoor
open Go.RowKit
theorem sesOk_alt (S : Ss) : sesOk S = (inB S.ky 0 65535 && inB S.fr 0 1000000 && inB S.tt 0 1000000 && decide (S.fr ≤ S.tt) && inB S.ct 1 1000000000 && inB S.sm (-1000000000) 1000000000) := by
  unfold sesOk inB
  congr 2
  rw [Bool.eq_iff_iff]
  simp only [Bool.and_eq_true, decide_eq_true_eq]
  omega
set_option maxHeartbeats 4000000 in
theorem implSesOk_x (u0 u1 u2 u3 u4 : Int) (w : World) : Calls Tryd.prog 9 #[(.agg #[.int .i64 u0, .int .i64 u1, .int .i64 u2, .int .i64 u3, .int .i64 u4])] w fun e w' => e = .returned (.bool (sesOk ⟨u0, u1, u2, u3, u4⟩)) ∧ Below w.heap.size w w' := by
  have BB := Lib.hid ((Below.refl w.heap.size w).alloc (Nat.le_refl _) (.cells #[.int .i64 u0, .int .i64 u1, .int .i64 u2, .int .i64 u3, .int .i64 u4] 25))
  rw [sesOk_alt]
  simp only
  cases h0 : inB u0 0 65535 with
  | false =>
    go_enter Tryd.func9, Tryd.ntmps9
    go_wp2_with (first | (go_at_call 12; refine (iKey_any _ _).mono ?_; rintro e w' ⟨rfl, rfl⟩) | (go_at_call 13; refine (iTime_any _ _).mono ?_; rintro e w' ⟨rfl, rfl⟩) | (go_at_call 14; refine (iw_any _ _ _ _).mono ?_; rintro e w' ⟨rfl, rfl⟩) | (go_at_call 15; refine (iSum_any _ _).mono ?_; rintro e w' ⟨rfl, rfl⟩))
    go_ret
    exact ⟨by simp [go_sem], BB.out⟩
  | true =>
    cases h1 : inB u1 0 1000000 with
    | false =>
      go_enter Tryd.func9, Tryd.ntmps9
      go_wp2_with (first | (go_at_call 12; refine (iKey_any _ _).mono ?_; rintro e w' ⟨rfl, rfl⟩) | (go_at_call 13; refine (iTime_any _ _).mono ?_; rintro e w' ⟨rfl, rfl⟩) | (go_at_call 14; refine (iw_any _ _ _ _).mono ?_; rintro e w' ⟨rfl, rfl⟩) | (go_at_call 15; refine (iSum_any _ _).mono ?_; rintro e w' ⟨rfl, rfl⟩))
      go_ret
      exact ⟨by simp [go_sem], BB.out⟩
    | true =>
      cases h2 : inB u2 0 1000000 with
      | false =>
        go_enter Tryd.func9, Tryd.ntmps9
        go_wp2_with (first | (go_at_call 12; refine (iKey_any _ _).mono ?_; rintro e w' ⟨rfl, rfl⟩) | (go_at_call 13; refine (iTime_any _ _).mono ?_; rintro e w' ⟨rfl, rfl⟩) | (go_at_call 14; refine (iw_any _ _ _ _).mono ?_; rintro e w' ⟨rfl, rfl⟩) | (go_at_call 15; refine (iSum_any _ _).mono ?_; rintro e w' ⟨rfl, rfl⟩))
        go_ret
        exact ⟨by simp [go_sem], BB.out⟩
      | true =>
        cases h3 : decide (u1 ≤ u2) with
        | false =>
          have h3p := of_decide_eq_false h3
          clear h3
          go_enter Tryd.func9, Tryd.ntmps9
          go_wp2_with (first | (go_at_call 12; refine (iKey_any _ _).mono ?_; rintro e w' ⟨rfl, rfl⟩) | (go_at_call 13; refine (iTime_any _ _).mono ?_; rintro e w' ⟨rfl, rfl⟩) | (go_at_call 14; refine (iw_any _ _ _ _).mono ?_; rintro e w' ⟨rfl, rfl⟩) | (go_at_call 15; refine (iSum_any _ _).mono ?_; rintro e w' ⟨rfl, rfl⟩))
          go_ret
          exact ⟨by simp [go_sem], BB.out⟩
        | true =>
          have h3p := of_decide_eq_true h3
          clear h3
          cases h4 : inB u3 1 1000000000 with
          | false =>
            go_enter Tryd.func9, Tryd.ntmps9
            go_wp2_with (first | (go_at_call 12; refine (iKey_any _ _).mono ?_; rintro e w' ⟨rfl, rfl⟩) | (go_at_call 13; refine (iTime_any _ _).mono ?_; rintro e w' ⟨rfl, rfl⟩) | (go_at_call 14; refine (iw_any _ _ _ _).mono ?_; rintro e w' ⟨rfl, rfl⟩) | (go_at_call 15; refine (iSum_any _ _).mono ?_; rintro e w' ⟨rfl, rfl⟩))
            go_ret
            exact ⟨by simp [go_sem], BB.out⟩
          | true =>
            cases h5 : inB u4 (-1000000000) 1000000000 with
            | false =>
              go_enter Tryd.func9, Tryd.ntmps9
              go_wp2_with (first | (go_at_call 12; refine (iKey_any _ _).mono ?_; rintro e w' ⟨rfl, rfl⟩) | (go_at_call 13; refine (iTime_any _ _).mono ?_; rintro e w' ⟨rfl, rfl⟩) | (go_at_call 14; refine (iw_any _ _ _ _).mono ?_; rintro e w' ⟨rfl, rfl⟩) | (go_at_call 15; refine (iSum_any _ _).mono ?_; rintro e w' ⟨rfl, rfl⟩))
              go_ret
              exact ⟨by simp [go_sem], BB.out⟩
            | true =>
              skip
              go_enter Tryd.func9, Tryd.ntmps9
              go_wp2_with (first | (go_at_call 12; refine (iKey_any _ _).mono ?_; rintro e w' ⟨rfl, rfl⟩) | (go_at_call 13; refine (iTime_any _ _).mono ?_; rintro e w' ⟨rfl, rfl⟩) | (go_at_call 14; refine (iw_any _ _ _ _).mono ?_; rintro e w' ⟨rfl, rfl⟩) | (go_at_call 15; refine (iSum_any _ _).mono ?_; rintro e w' ⟨rfl, rfl⟩))
              go_ret
              exact ⟨by simp [go_sem], BB.out⟩
end Go.Proofs.YtchbmnpajnlijaaDoor
