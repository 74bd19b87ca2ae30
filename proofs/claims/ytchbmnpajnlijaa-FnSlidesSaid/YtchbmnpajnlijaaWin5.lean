/- Contracts of chapter 5: spec.MergeAggs with what it calls; closedAt, aggOf. (made by tools/mkwin5.py) -/
import Derived.Test.YtchbmnpajnlijaaWin4
namespace Go.Proofs.Ytchbmnpajnlijaa
open Go.RowKit

set_option maxHeartbeats 2000000 in
theorem specAhead_x (u0 u1 u2 u3 u4 u5 v0 v1 v2 v3 v4 v5 : Int) (w : World) : Calls Try.prog 87 #[(.agg #[.int .i64 u0, .int .i64 u1, .int .i64 u2, .int .i64 u3, .int .i64 u4, .int .i64 u5]), (.agg #[.int .i64 v0, .int .i64 v1, .int .i64 v2, .int .i64 v3, .int .i64 v4, .int .i64 v5])] w fun e w' => e = .returned (.bool (aheadA ⟨u0, u1, u2, u3, u4, u5⟩ ⟨v0, v1, v2, v3, v4, v5⟩)) ∧ Below w.heap.size w w' := by
  have BB := Lib.hid (boxed2 w 86 86 #[.int .i64 u0, .int .i64 u1, .int .i64 u2, .int .i64 u3, .int .i64 u4, .int .i64 u5] #[.int .i64 v0, .int .i64 v1, .int .i64 v2, .int .i64 v3, .int .i64 v4, .int .i64 v5]).2.2.2
  by_cases h0 : u0 < v0
  · rw [show aheadA ⟨u0, u1, u2, u3, u4, u5⟩ ⟨v0, v1, v2, v3, v4, v5⟩ = true by simp [aheadA, h0]]
    go_enter Try.func87, Try.ntmps87
    go_wp2
    go_ret
    exact ⟨by simp [go_sem], BB.out⟩
  · by_cases h1 : u0 = v0
    · subst h1
      by_cases h2 : u1 < v1
      · rw [show aheadA ⟨u0, u1, u2, u3, u4, u5⟩ ⟨u0, v1, v2, v3, v4, v5⟩ = true by simp [aheadA, h2]]
        go_enter Try.func87, Try.ntmps87
        go_wp2
        go_ret
        exact ⟨by simp [go_sem], BB.out⟩
      · rw [show aheadA ⟨u0, u1, u2, u3, u4, u5⟩ ⟨u0, v1, v2, v3, v4, v5⟩ = false by simp [aheadA, h2]]
        go_enter Try.func87, Try.ntmps87
        go_wp2
        go_ret
        exact ⟨by simp [go_sem], BB.out⟩
    · rw [show aheadA ⟨u0, u1, u2, u3, u4, u5⟩ ⟨v0, v1, v2, v3, v4, v5⟩ = false by simp [aheadA, h0, h1]]
      go_enter Try.func87, Try.ntmps87
      go_wp2
      go_ret
      exact ⟨by simp [go_sem], BB.out⟩
theorem cap_q (x : Int) (w : World) : Calls Try.prog 132 #[.int .i64 x] w fun e w' => e = .returned (.int .i64 (capS x)) ∧ w = w' := specCap_any x w
set_option maxHeartbeats 4000000 in
set_option maxRecDepth 100000 in
theorem specSum_x (u0 u1 u2 u3 u4 u5 v0 v1 v2 v3 v4 v5 : Int) (w : World) (b1 : -1000000000 ≤ u2 ∧ u2 ≤ 1000000000) (b2 : -1000000000 ≤ u3 ∧ u3 ≤ 1000000000) (b3 : -1000000000 ≤ v2 ∧ v2 ≤ 1000000000) (b4 : -1000000000 ≤ v3 ∧ v3 ≤ 1000000000) :
    Calls Try.prog 104 #[(.agg #[.int .i64 u0, .int .i64 u1, .int .i64 u2, .int .i64 u3, .int .i64 u4, .int .i64 u5]), (.agg #[.int .i64 v0, .int .i64 v1, .int .i64 v2, .int .i64 v3, .int .i64 v4, .int .i64 v5])] w fun e w' => e = .returned (agV (sumA ⟨u0, u1, u2, u3, u4, u5⟩ ⟨v0, v1, v2, v3, v4, v5⟩)) ∧ Below w.heap.size w w' := by
  have BB := Lib.hid (fun c d => ((three_new w 86 86 86 #[.int .i64 u0, .int .i64 u1, .int .i64 u2, .int .i64 u3, .int .i64 u4, .int .i64 u5] #[.int .i64 v0, .int .i64 v1, .int .i64 v2, .int .i64 v3, .int .i64 v4, .int .i64 v5] c).bel.alloc (by simp; omega) (.cells d 86)))
  have s2 : IntKind.i64.wrap (u2 + v2) = u2 + v2 := IntWalk.i64_in _ (by omega)
  have s3 : IntKind.i64.wrap (u3 + v3) = u3 + v3 := IntWalk.i64_in _ (by omega)
  have C2 := Lib.hid (fun W => specCap_any (u2 + v2) W)
  have C3 := Lib.hid (fun W => specCap_any (u3 + v3) W)
  rw [show agV (sumA ⟨u0, u1, u2, u3, u4, u5⟩ ⟨v0, v1, v2, v3, v4, v5⟩) = .agg #[.int .i64 u0, .int .i64 u1, .int .i64 (capS (u2 + v2)), .int .i64 (capS (u3 + v3)), .int .i64 (minI u4 v4), .int .i64 (maxI u5 v5)] from rfl]
  generalize capS (u2 + v2) = y2 at C2 ⊢
  generalize capS (u3 + v3) = y3 at C3 ⊢
  clear b1 b2 b3 b4
  by_cases h4 : v4 < u4
  · rw [show minI u4 v4 = v4 by simp [minI, h4]]
    by_cases h5 : u5 < v5
    · rw [show maxI u5 v5 = v5 by simp [maxI, h5]]
      go_enter Try.func104, Try.ntmps104
      go_wp2_with fail
      refine (C2.out _).mono ?_
      rintro e w' ⟨rfl, rfl⟩
      go_wp2_with fail
      refine (C3.out _).mono ?_
      rintro e w' ⟨rfl, rfl⟩
      go_wp2
      exact bodyPost_ret (v := .agg #[.int .i64 u0, .int .i64 u1, .int .i64 y2, .int .i64 y3, .int .i64 v4, .int .i64 v5]) (by simp [results, Try.results104, go_sem]) rfl ⟨rfl, BB.out _ _⟩
    · rw [show maxI u5 v5 = u5 by simp [maxI, h5]]
      go_enter Try.func104, Try.ntmps104
      go_wp2_with fail
      refine (C2.out _).mono ?_
      rintro e w' ⟨rfl, rfl⟩
      go_wp2_with fail
      refine (C3.out _).mono ?_
      rintro e w' ⟨rfl, rfl⟩
      go_wp2
      exact bodyPost_ret (v := .agg #[.int .i64 u0, .int .i64 u1, .int .i64 y2, .int .i64 y3, .int .i64 v4, .int .i64 u5]) (by simp [results, Try.results104, go_sem]) rfl ⟨rfl, BB.out _ _⟩
  · rw [show minI u4 v4 = u4 by simp [minI, h4]]
    by_cases h5 : u5 < v5
    · rw [show maxI u5 v5 = v5 by simp [maxI, h5]]
      go_enter Try.func104, Try.ntmps104
      go_wp2_with fail
      refine (C2.out _).mono ?_
      rintro e w' ⟨rfl, rfl⟩
      go_wp2_with fail
      refine (C3.out _).mono ?_
      rintro e w' ⟨rfl, rfl⟩
      go_wp2
      exact bodyPost_ret (v := .agg #[.int .i64 u0, .int .i64 u1, .int .i64 y2, .int .i64 y3, .int .i64 u4, .int .i64 v5]) (by simp [results, Try.results104, go_sem]) rfl ⟨rfl, BB.out _ _⟩
    · rw [show maxI u5 v5 = u5 by simp [maxI, h5]]
      go_enter Try.func104, Try.ntmps104
      go_wp2_with fail
      refine (C2.out _).mono ?_
      rintro e w' ⟨rfl, rfl⟩
      go_wp2_with fail
      refine (C3.out _).mono ?_
      rintro e w' ⟨rfl, rfl⟩
      go_wp2
      exact bodyPost_ret (v := .agg #[.int .i64 u0, .int .i64 u1, .int .i64 y2, .int .i64 y3, .int .i64 u4, .int .i64 u5]) (by simp [results, Try.results104, go_sem]) rfl ⟨rfl, BB.out _ _⟩
end Go.Proofs.Ytchbmnpajnlijaa
