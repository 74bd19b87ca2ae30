/- Contracts of chapter 5's small functions, impl and spec: bounds, WindowOf, WindowEnd, IsLateFor, AggOk. (made by tools/mkwin1.py) -/
import Derived.Test.YtchbmnpajnlijaaDoorAggS
import Derived.Test.YtchbmnpajnlijaaDoorTick1
import Derived.IntWalk
namespace Go.Proofs.YtchbmnpajnlijaaDoor
open Go.RowKit

theorem iw_any (x a b : Int) (w : World) : Calls Tryd.prog 14 #[.int .i64 x, .int .i64 a, .int .i64 b] w fun e w' => e = .returned (.bool (inB x a b)) ∧ w = w' := by
  by_cases h1 : a ≤ x
  · by_cases h2 : x ≤ b
    · go_enter Tryd.func14, Tryd.ntmps14
      go_wp2
      go_ret
      exact ⟨by rw [inB_yes h1 h2]; rfl, rfl⟩
    · go_enter Tryd.func14, Tryd.ntmps14
      go_wp2
      go_ret
      exact ⟨by rw [inB_no (by omega)]; rfl, rfl⟩
  · go_enter Tryd.func14, Tryd.ntmps14
    go_wp2
    go_ret
    exact ⟨by rw [inB_no (by omega)]; rfl, rfl⟩
theorem iTime_any (x : Int) (w : World) : Calls Tryd.prog 13 #[.int .i64 x] w fun e w' => e = .returned (.bool (inB x 0 1000000)) ∧ w = w' := by
  go_enter Tryd.func13, Tryd.ntmps13
  go_wp2_with (go_at_call 14; refine (iw_any _ _ _ _).mono ?_; rintro e w' ⟨rfl, rfl⟩)
  go_ret
  exact ⟨rfl, rfl⟩
theorem iKey_any (x : Int) (w : World) : Calls Tryd.prog 12 #[.int .i64 x] w fun e w' => e = .returned (.bool (inB x 0 65535)) ∧ w = w' := by
  go_enter Tryd.func12, Tryd.ntmps12
  go_wp2_with (go_at_call 14; refine (iw_any _ _ _ _).mono ?_; rintro e w' ⟨rfl, rfl⟩)
  go_ret
  exact ⟨rfl, rfl⟩
theorem iSum_any (x : Int) (w : World) : Calls Tryd.prog 15 #[.int .i64 x] w fun e w' => e = .returned (.bool (inB x (-1000000000) 1000000000)) ∧ w = w' := by
  go_enter Tryd.func15, Tryd.ntmps15
  go_wp2_with (go_at_call 14; refine (iw_any _ _ _ _).mono ?_; rintro e w' ⟨rfl, rfl⟩)
  go_ret
  exact ⟨rfl, rfl⟩

def windowOf (t s : Int) : Int := if inB t 0 1000000 = true ∧ inB s 1 1000000 = true then t / s else -1
theorem windowOf_no1 {t s : Int} (h : inB t 0 1000000 = false) : windowOf t s = -1 := by simp [windowOf, h]
theorem windowOf_no2 {t s : Int} (h : inB s 1 1000000 = false) : windowOf t s = -1 := by simp [windowOf, h]
theorem windowOf_yes {t s : Int} (h : inB t 0 1000000 = true) (h2 : inB s 1 1000000 = true) : windowOf t s = t / s := by simp [windowOf, h, h2]
def windowEnd (v s : Int) : Int := if inB v 0 1000000 = true ∧ inB s 1 1000000 = true then (v + 1) * s - 1 else -1
theorem windowEnd_no1 {t s : Int} (h : inB t 0 1000000 = false) : windowEnd t s = -1 := by simp [windowEnd, h]
theorem windowEnd_no2 {t s : Int} (h : inB s 1 1000000 = false) : windowEnd t s = -1 := by simp [windowEnd, h]
theorem windowEnd_yes {t s : Int} (h : inB t 0 1000000 = true) (h2 : inB s 1 1000000 = true) : windowEnd t s = (t + 1) * s - 1 := by simp [windowEnd, h, h2]
theorem prod_bd {v s : Int} (h : inB v 0 1000000 = true) (h2 : inB s 1 1000000 = true) : 0 ≤ (v + 1) * s ∧ (v + 1) * s ≤ 1000001000000 := by
  have a := inB_bd h
  have b := inB_bd h2
  refine ⟨Int.mul_nonneg (by omega) (by omega), ?_⟩
  have : (v + 1) * s ≤ 1000001 * 1000000 := Int.mul_le_mul (by omega) (by omega) (by omega) (by omega)
  omega


/-- AggOk, on the record. -/
def aggOk (S : Ag) : Bool := inB S.win 0 1000000 && inB S.key 0 65535 && inB S.cnt 1 1000000000 && inB S.sum (-1000000000) 1000000000 && inB S.mn (-1000000) 1000000 && inB S.mx (-1000000) 1000000 && decide (S.mn ≤ S.mx)
theorem aggOk_mk (win key cnt sum mn mx : Int) : aggOk ⟨win, key, cnt, sum, mn, mx⟩ = (inB win 0 1000000 && inB key 0 65535 && inB cnt 1 1000000000 && inB sum (-1000000000) 1000000000 && inB mn (-1000000) 1000000 && inB mx (-1000000) 1000000 && decide (mn ≤ mx)) := rfl
end Go.Proofs.YtchbmnpajnlijaaDoor
