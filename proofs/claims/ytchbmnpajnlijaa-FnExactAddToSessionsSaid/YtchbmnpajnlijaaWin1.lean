/- Contracts of chapter 5's small functions, impl and spec: bounds, WindowOf, WindowEnd, IsLateFor, AggOk. (made by tools/mkwin1.py) -/
import Derived.Test.YtchbmnpajnlijaaAggS
import Derived.Test.YtchbmnpajnlijaaTick1
import Derived.IntWalk
namespace Go.Proofs.Ytchbmnpajnlijaa
open Go.RowKit

theorem iw_any (x a b : Int) (w : World) : Calls Try.prog 67 #[.int .i64 x, .int .i64 a, .int .i64 b] w fun e w' => e = .returned (.bool (inB x a b)) ∧ w = w' := by
  by_cases h1 : a ≤ x
  · by_cases h2 : x ≤ b
    · go_enter Try.func67, Try.ntmps67
      go_wp2
      go_ret
      exact ⟨by rw [inB_yes h1 h2]; rfl, rfl⟩
    · go_enter Try.func67, Try.ntmps67
      go_wp2
      go_ret
      exact ⟨by rw [inB_no (by omega)]; rfl, rfl⟩
  · go_enter Try.func67, Try.ntmps67
    go_wp2
    go_ret
    exact ⟨by rw [inB_no (by omega)]; rfl, rfl⟩
theorem iTime_any (x : Int) (w : World) : Calls Try.prog 63 #[.int .i64 x] w fun e w' => e = .returned (.bool (inB x 0 1000000)) ∧ w = w' := by
  go_enter Try.func63, Try.ntmps63
  go_wp2_with (go_at_call 67; refine (iw_any _ _ _ _).mono ?_; rintro e w' ⟨rfl, rfl⟩)
  go_ret
  exact ⟨rfl, rfl⟩
theorem iKey_any (x : Int) (w : World) : Calls Try.prog 66 #[.int .i64 x] w fun e w' => e = .returned (.bool (inB x 0 65535)) ∧ w = w' := by
  go_enter Try.func66, Try.ntmps66
  go_wp2_with (go_at_call 67; refine (iw_any _ _ _ _).mono ?_; rintro e w' ⟨rfl, rfl⟩)
  go_ret
  exact ⟨rfl, rfl⟩
theorem iSum_any (x : Int) (w : World) : Calls Try.prog 68 #[.int .i64 x] w fun e w' => e = .returned (.bool (inB x (-1000000000) 1000000000)) ∧ w = w' := by
  go_enter Try.func68, Try.ntmps68
  go_wp2_with (go_at_call 67; refine (iw_any _ _ _ _).mono ?_; rintro e w' ⟨rfl, rfl⟩)
  go_ret
  exact ⟨rfl, rfl⟩
theorem iValue_any (x : Int) (w : World) : Calls Try.prog 131 #[.int .i64 x] w fun e w' => e = .returned (.bool (inB x (-1000000) 1000000)) ∧ w = w' := by
  go_enter Try.func131, Try.ntmps131
  go_wp2_with (go_at_call 67; refine (iw_any _ _ _ _).mono ?_; rintro e w' ⟨rfl, rfl⟩)
  go_ret
  exact ⟨rfl, rfl⟩
theorem iSize_any (x : Int) (w : World) : Calls Try.prog 103 #[.int .i64 x] w fun e w' => e = .returned (.bool (inB x 1 1000000)) ∧ w = w' := by
  go_enter Try.func103, Try.ntmps103
  go_wp2_with (go_at_call 67; refine (iw_any _ _ _ _).mono ?_; rintro e w' ⟨rfl, rfl⟩)
  go_ret
  exact ⟨rfl, rfl⟩
theorem sValue_any (x : Int) (w : World) : Calls Try.prog 112 #[.int .i64 x] w fun e w' => e = .returned (.bool (inB x (-1000000) 1000000)) ∧ w = w' := by
  go_enter Try.func112, Try.ntmps112
  go_wp2_with (go_at_call 59; refine (specIn_any _ _ _ _).mono ?_; rintro e w' ⟨rfl, rfl⟩)
  go_ret
  exact ⟨rfl, rfl⟩

def windowOf (t s : Int) : Int := if inB t 0 1000000 = true ∧ inB s 1 1000000 = true then t / s else -1
theorem windowOf_no1 {t s : Int} (h : inB t 0 1000000 = false) : windowOf t s = -1 := by simp [windowOf, h]
theorem windowOf_no2 {t s : Int} (h : inB s 1 1000000 = false) : windowOf t s = -1 := by simp [windowOf, h]
theorem windowOf_yes {t s : Int} (h : inB t 0 1000000 = true) (h2 : inB s 1 1000000 = true) : windowOf t s = t / s := by simp [windowOf, h, h2]
def windowEnd (v s : Int) : Int := if inB v 0 1000000 = true ∧ inB s 1 1000000 = true then (v + 1) * s - 1 else -1
theorem windowEnd_no1 {t s : Int} (h : inB t 0 1000000 = false) : windowEnd t s = -1 := by simp [windowEnd, h]
theorem windowEnd_no2 {t s : Int} (h : inB s 1 1000000 = false) : windowEnd t s = -1 := by simp [windowEnd, h]
theorem windowEnd_yes {t s : Int} (h : inB t 0 1000000 = true) (h2 : inB s 1 1000000 = true) : windowEnd t s = (t + 1) * s - 1 := by simp [windowEnd, h, h2]
theorem prod_bd {v s : Int} (h : inB v 0 1000000 = true) (h2 : inB s 1 1000000 = true) : 0 ≤ (v + 1) * s ∧ (v + 1) * s ≤ 1000001000000 := by
  have a := inB_bd h
  have b := inB_bd h2
  refine ⟨Int.mul_nonneg (by omega) (by omega), ?_⟩
  have : (v + 1) * s ≤ 1000001 * 1000000 := Int.mul_le_mul (by omega) (by omega) (by omega) (by omega)
  omega

set_option maxHeartbeats 1000000 in
theorem implWinOf_any (t s : Int) (w : World) : Calls Try.prog 105 #[.int .i64 t, .int .i64 s] w fun e w' => e = .returned (.int .i64 (windowOf t s)) ∧ w = w' := by
  cases h1 : inB t 0 1000000 with
  | false =>
    rw [windowOf_no1 h1]
    go_enter Try.func105, Try.ntmps105
    go_wp2_with (first | (go_at_call 63; refine (iTime_any _ _).mono ?_; rintro e w' ⟨rfl, rfl⟩) | (go_at_call 103; refine (iSize_any _ _).mono ?_; rintro e w' ⟨rfl, rfl⟩))
    go_ret
    exact ⟨rfl, rfl⟩
  | true =>
    cases h2 : inB s 1 1000000 with
    | false =>
      rw [windowOf_no2 h2]
      go_enter Try.func105, Try.ntmps105
      go_wp2_with (first | (go_at_call 63; refine (iTime_any _ _).mono ?_; rintro e w' ⟨rfl, rfl⟩) | (go_at_call 103; refine (iSize_any _ _).mono ?_; rintro e w' ⟨rfl, rfl⟩))
      go_ret
      exact ⟨rfl, rfl⟩
    | true =>
      rw [windowOf_yes h1 h2]
      have b1 := inB_bd h1
      have b2 := inB_bd h2
      have hq : t.tdiv s = t / s := Int.tdiv_eq_ediv_of_nonneg b1.1
      have hs0 : ¬ s = 0 := by omega
      have hq1 : 0 ≤ t / s := Int.ediv_nonneg b1.1 (by omega)
      have hq2 : t / s ≤ t := Int.ediv_le_self _ b1.1
      go_enter Try.func105, Try.ntmps105
      go_wp2_with (first | (go_at_call 63; refine (iTime_any _ _).mono ?_; rintro e w' ⟨rfl, rfl⟩) | (go_at_call 103; refine (iSize_any _ _).mono ?_; rintro e w' ⟨rfl, rfl⟩))
      go_ret
      exact ⟨rfl, rfl⟩

/-- AggOk, on the record. -/
def aggOk (S : Ag) : Bool := inB S.win 0 1000000 && inB S.key 0 65535 && inB S.cnt 1 1000000000 && inB S.sum (-1000000000) 1000000000 && inB S.mn (-1000000) 1000000 && inB S.mx (-1000000) 1000000 && decide (S.mn ≤ S.mx)
theorem aggOk_mk (win key cnt sum mn mx : Int) : aggOk ⟨win, key, cnt, sum, mn, mx⟩ = (inB win 0 1000000 && inB key 0 65535 && inB cnt 1 1000000000 && inB sum (-1000000000) 1000000000 && inB mn (-1000000) 1000000 && inB mx (-1000000) 1000000 && decide (mn ≤ mx)) := rfl
set_option maxHeartbeats 4000000 in
theorem specAggOk_x (win key cnt sum mn mx : Int) (w : World) : Calls Try.prog 86 #[(.agg #[.int .i64 win, .int .i64 key, .int .i64 cnt, .int .i64 sum, .int .i64 mn, .int .i64 mx])] w fun e w' => e = .returned (.bool (aggOk ⟨win, key, cnt, sum, mn, mx⟩)) ∧ Below w.heap.size w w' := by
  have BB := Lib.hid ((Below.refl w.heap.size w).alloc (Nat.le_refl _) (.cells #[.int .i64 win, .int .i64 key, .int .i64 cnt, .int .i64 sum, .int .i64 mn, .int .i64 mx] 86))
  cases h0 : inB win 0 1000000 with
  | false =>
    rw [show aggOk ⟨win, key, cnt, sum, mn, mx⟩ = false by simp [aggOk, h0]]
    go_enter Try.func86, Try.ntmps86
    go_wp2_with (first | (go_at_call 59; refine (specIn_any _ _ _ _).mono ?_; rintro e w' ⟨rfl, rfl⟩) | (go_at_call 112; refine (sValue_any _ _).mono ?_; rintro e w' ⟨rfl, rfl⟩))
    go_ret
    exact ⟨rfl, BB.out⟩
  | true =>
    cases h1 : inB key 0 65535 with
    | false =>
      rw [show aggOk ⟨win, key, cnt, sum, mn, mx⟩ = false by simp [aggOk, h1]]
      go_enter Try.func86, Try.ntmps86
      go_wp2_with (first | (go_at_call 59; refine (specIn_any _ _ _ _).mono ?_; rintro e w' ⟨rfl, rfl⟩) | (go_at_call 112; refine (sValue_any _ _).mono ?_; rintro e w' ⟨rfl, rfl⟩))
      go_ret
      exact ⟨rfl, BB.out⟩
    | true =>
      cases h2 : inB cnt 1 1000000000 with
      | false =>
        rw [show aggOk ⟨win, key, cnt, sum, mn, mx⟩ = false by simp [aggOk, h2]]
        go_enter Try.func86, Try.ntmps86
        go_wp2_with (first | (go_at_call 59; refine (specIn_any _ _ _ _).mono ?_; rintro e w' ⟨rfl, rfl⟩) | (go_at_call 112; refine (sValue_any _ _).mono ?_; rintro e w' ⟨rfl, rfl⟩))
        go_ret
        exact ⟨rfl, BB.out⟩
      | true =>
        cases h3 : inB sum (-1000000000) 1000000000 with
        | false =>
          rw [show aggOk ⟨win, key, cnt, sum, mn, mx⟩ = false by simp [aggOk, h3]]
          go_enter Try.func86, Try.ntmps86
          go_wp2_with (first | (go_at_call 59; refine (specIn_any _ _ _ _).mono ?_; rintro e w' ⟨rfl, rfl⟩) | (go_at_call 112; refine (sValue_any _ _).mono ?_; rintro e w' ⟨rfl, rfl⟩))
          go_ret
          exact ⟨rfl, BB.out⟩
        | true =>
          cases h4 : inB mn (-1000000) 1000000 with
          | false =>
            rw [show aggOk ⟨win, key, cnt, sum, mn, mx⟩ = false by simp [aggOk, h4]]
            go_enter Try.func86, Try.ntmps86
            go_wp2_with (first | (go_at_call 59; refine (specIn_any _ _ _ _).mono ?_; rintro e w' ⟨rfl, rfl⟩) | (go_at_call 112; refine (sValue_any _ _).mono ?_; rintro e w' ⟨rfl, rfl⟩))
            go_ret
            exact ⟨rfl, BB.out⟩
          | true =>
            cases h5 : inB mx (-1000000) 1000000 with
            | false =>
              rw [show aggOk ⟨win, key, cnt, sum, mn, mx⟩ = false by simp [aggOk, h5]]
              go_enter Try.func86, Try.ntmps86
              go_wp2_with (first | (go_at_call 59; refine (specIn_any _ _ _ _).mono ?_; rintro e w' ⟨rfl, rfl⟩) | (go_at_call 112; refine (sValue_any _ _).mono ?_; rintro e w' ⟨rfl, rfl⟩))
              go_ret
              exact ⟨rfl, BB.out⟩
            | true =>
              by_cases h9 : mn ≤ mx
              · rw [show aggOk ⟨win, key, cnt, sum, mn, mx⟩ = true by simp [aggOk, h0, h1, h2, h3, h4, h5, h9]]
                go_enter Try.func86, Try.ntmps86
                go_wp2_with (first | (go_at_call 59; refine (specIn_any _ _ _ _).mono ?_; rintro e w' ⟨rfl, rfl⟩) | (go_at_call 112; refine (sValue_any _ _).mono ?_; rintro e w' ⟨rfl, rfl⟩))
                go_ret
                exact ⟨by simp [go_sem], BB.out⟩
              · rw [show aggOk ⟨win, key, cnt, sum, mn, mx⟩ = false by simp [aggOk, h9]]
                go_enter Try.func86, Try.ntmps86
                go_wp2_with (first | (go_at_call 59; refine (specIn_any _ _ _ _).mono ?_; rintro e w' ⟨rfl, rfl⟩) | (go_at_call 112; refine (sValue_any _ _).mono ?_; rintro e w' ⟨rfl, rfl⟩))
                go_ret
                exact ⟨by simp [go_sem, h9], BB.out⟩
set_option maxHeartbeats 4000000 in
theorem implAggOk_x (win key cnt sum mn mx : Int) (w : World) : Calls Try.prog 101 #[(.agg #[.int .i64 win, .int .i64 key, .int .i64 cnt, .int .i64 sum, .int .i64 mn, .int .i64 mx])] w fun e w' => e = .returned (.bool (aggOk ⟨win, key, cnt, sum, mn, mx⟩)) ∧ Below w.heap.size w w' := by
  have BB := Lib.hid ((Below.refl w.heap.size w).alloc (Nat.le_refl _) (.cells #[.int .i64 win, .int .i64 key, .int .i64 cnt, .int .i64 sum, .int .i64 mn, .int .i64 mx] 86))
  cases h0 : inB win 0 1000000 with
  | false =>
    rw [show aggOk ⟨win, key, cnt, sum, mn, mx⟩ = false by simp [aggOk, h0]]
    go_enter Try.func101, Try.ntmps101
    go_wp2_with (first | (go_at_call 63; refine (iTime_any _ _).mono ?_; rintro e w' ⟨rfl, rfl⟩) | (go_at_call 66; refine (iKey_any _ _).mono ?_; rintro e w' ⟨rfl, rfl⟩) | (go_at_call 67; refine (iw_any _ _ _ _).mono ?_; rintro e w' ⟨rfl, rfl⟩) | (go_at_call 68; refine (iSum_any _ _).mono ?_; rintro e w' ⟨rfl, rfl⟩) | (go_at_call 131; refine (iValue_any _ _).mono ?_; rintro e w' ⟨rfl, rfl⟩))
    go_ret
    exact ⟨rfl, BB.out⟩
  | true =>
    cases h1 : inB key 0 65535 with
    | false =>
      rw [show aggOk ⟨win, key, cnt, sum, mn, mx⟩ = false by simp [aggOk, h1]]
      go_enter Try.func101, Try.ntmps101
      go_wp2_with (first | (go_at_call 63; refine (iTime_any _ _).mono ?_; rintro e w' ⟨rfl, rfl⟩) | (go_at_call 66; refine (iKey_any _ _).mono ?_; rintro e w' ⟨rfl, rfl⟩) | (go_at_call 67; refine (iw_any _ _ _ _).mono ?_; rintro e w' ⟨rfl, rfl⟩) | (go_at_call 68; refine (iSum_any _ _).mono ?_; rintro e w' ⟨rfl, rfl⟩) | (go_at_call 131; refine (iValue_any _ _).mono ?_; rintro e w' ⟨rfl, rfl⟩))
      go_ret
      exact ⟨rfl, BB.out⟩
    | true =>
      cases h2 : inB cnt 1 1000000000 with
      | false =>
        rw [show aggOk ⟨win, key, cnt, sum, mn, mx⟩ = false by simp [aggOk, h2]]
        go_enter Try.func101, Try.ntmps101
        go_wp2_with (first | (go_at_call 63; refine (iTime_any _ _).mono ?_; rintro e w' ⟨rfl, rfl⟩) | (go_at_call 66; refine (iKey_any _ _).mono ?_; rintro e w' ⟨rfl, rfl⟩) | (go_at_call 67; refine (iw_any _ _ _ _).mono ?_; rintro e w' ⟨rfl, rfl⟩) | (go_at_call 68; refine (iSum_any _ _).mono ?_; rintro e w' ⟨rfl, rfl⟩) | (go_at_call 131; refine (iValue_any _ _).mono ?_; rintro e w' ⟨rfl, rfl⟩))
        go_ret
        exact ⟨rfl, BB.out⟩
      | true =>
        cases h3 : inB sum (-1000000000) 1000000000 with
        | false =>
          rw [show aggOk ⟨win, key, cnt, sum, mn, mx⟩ = false by simp [aggOk, h3]]
          go_enter Try.func101, Try.ntmps101
          go_wp2_with (first | (go_at_call 63; refine (iTime_any _ _).mono ?_; rintro e w' ⟨rfl, rfl⟩) | (go_at_call 66; refine (iKey_any _ _).mono ?_; rintro e w' ⟨rfl, rfl⟩) | (go_at_call 67; refine (iw_any _ _ _ _).mono ?_; rintro e w' ⟨rfl, rfl⟩) | (go_at_call 68; refine (iSum_any _ _).mono ?_; rintro e w' ⟨rfl, rfl⟩) | (go_at_call 131; refine (iValue_any _ _).mono ?_; rintro e w' ⟨rfl, rfl⟩))
          go_ret
          exact ⟨rfl, BB.out⟩
        | true =>
          cases h4 : inB mn (-1000000) 1000000 with
          | false =>
            rw [show aggOk ⟨win, key, cnt, sum, mn, mx⟩ = false by simp [aggOk, h4]]
            go_enter Try.func101, Try.ntmps101
            go_wp2_with (first | (go_at_call 63; refine (iTime_any _ _).mono ?_; rintro e w' ⟨rfl, rfl⟩) | (go_at_call 66; refine (iKey_any _ _).mono ?_; rintro e w' ⟨rfl, rfl⟩) | (go_at_call 67; refine (iw_any _ _ _ _).mono ?_; rintro e w' ⟨rfl, rfl⟩) | (go_at_call 68; refine (iSum_any _ _).mono ?_; rintro e w' ⟨rfl, rfl⟩) | (go_at_call 131; refine (iValue_any _ _).mono ?_; rintro e w' ⟨rfl, rfl⟩))
            go_ret
            exact ⟨rfl, BB.out⟩
          | true =>
            cases h5 : inB mx (-1000000) 1000000 with
            | false =>
              rw [show aggOk ⟨win, key, cnt, sum, mn, mx⟩ = false by simp [aggOk, h5]]
              go_enter Try.func101, Try.ntmps101
              go_wp2_with (first | (go_at_call 63; refine (iTime_any _ _).mono ?_; rintro e w' ⟨rfl, rfl⟩) | (go_at_call 66; refine (iKey_any _ _).mono ?_; rintro e w' ⟨rfl, rfl⟩) | (go_at_call 67; refine (iw_any _ _ _ _).mono ?_; rintro e w' ⟨rfl, rfl⟩) | (go_at_call 68; refine (iSum_any _ _).mono ?_; rintro e w' ⟨rfl, rfl⟩) | (go_at_call 131; refine (iValue_any _ _).mono ?_; rintro e w' ⟨rfl, rfl⟩))
              go_ret
              exact ⟨rfl, BB.out⟩
            | true =>
              by_cases h9 : mn ≤ mx
              · rw [show aggOk ⟨win, key, cnt, sum, mn, mx⟩ = true by simp [aggOk, h0, h1, h2, h3, h4, h5, h9]]
                go_enter Try.func101, Try.ntmps101
                go_wp2_with (first | (go_at_call 63; refine (iTime_any _ _).mono ?_; rintro e w' ⟨rfl, rfl⟩) | (go_at_call 66; refine (iKey_any _ _).mono ?_; rintro e w' ⟨rfl, rfl⟩) | (go_at_call 67; refine (iw_any _ _ _ _).mono ?_; rintro e w' ⟨rfl, rfl⟩) | (go_at_call 68; refine (iSum_any _ _).mono ?_; rintro e w' ⟨rfl, rfl⟩) | (go_at_call 131; refine (iValue_any _ _).mono ?_; rintro e w' ⟨rfl, rfl⟩))
                go_ret
                exact ⟨by simp [go_sem], BB.out⟩
              · rw [show aggOk ⟨win, key, cnt, sum, mn, mx⟩ = false by simp [aggOk, h9]]
                go_enter Try.func101, Try.ntmps101
                go_wp2_with (first | (go_at_call 63; refine (iTime_any _ _).mono ?_; rintro e w' ⟨rfl, rfl⟩) | (go_at_call 66; refine (iKey_any _ _).mono ?_; rintro e w' ⟨rfl, rfl⟩) | (go_at_call 67; refine (iw_any _ _ _ _).mono ?_; rintro e w' ⟨rfl, rfl⟩) | (go_at_call 68; refine (iSum_any _ _).mono ?_; rintro e w' ⟨rfl, rfl⟩) | (go_at_call 131; refine (iValue_any _ _).mono ?_; rintro e w' ⟨rfl, rfl⟩))
                go_ret
                exact ⟨by simp [go_sem, h9], BB.out⟩
end Go.Proofs.Ytchbmnpajnlijaa
