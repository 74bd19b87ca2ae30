/- Contracts of chapter 4: when a source is one, whether it may be heard, on impl's and on spec's side. -/
import Derived.Test.YtddanfpiecgcgaaGreatDoorProg
import Derived.Test.YtddanfpiecgcgaaGreatDoorPlainSrc
import Derived.Test.YtddanfpiecgcgaaGreatDoorMem
import Derived.WalkKit
import Derived.WalkSpells
import Derived.ProofKit
import Derived.Lib.Hide
import Derived.Deep.RegionWith
namespace Go.Proofs.YtddanfpiecgcgaaGreatDoor
open Go.RowKit

theorem isW_any (x a b : Int) (w : World) : Calls Tryz.prog 30 #[.int .i64 x, .int .i64 a, .int .i64 b] w fun e w' => e = .returned (.bool (inB x a b)) ∧ w = w' := by
  by_cases h1 : a ≤ x
  · by_cases h2 : x ≤ b
    · rw [inB_yes h1 h2]
      go_enter Tryz.func30, Tryz.ntmps30
      go_wp2
      go_ret
      exact ⟨rfl, rfl⟩
    · rw [inB_no (by omega)]
      go_enter Tryz.func30, Tryz.ntmps30
      go_wp2
      go_ret
      exact ⟨rfl, rfl⟩
  · rw [inB_no (by omega)]
    go_enter Tryz.func30, Tryz.ntmps30
    go_wp2
    go_ret
    exact ⟨rfl, rfl⟩
theorem isMark_any (x : Int) (w : World) : Calls Tryz.prog 61 #[.int .i64 x] w fun e w' => e = .returned (.bool (isMk x)) ∧ w = w' := by
  go_enter Tryz.func61, Tryz.ntmps61
  go_wp2_with (go_at_call 30; refine (isW_any _ _ _ _).mono ?_; rintro e w' ⟨rfl, rfl⟩)
  go_ret
  exact ⟨rfl, rfl⟩
theorem isTime_any (x : Int) (w : World) : Calls Tryz.prog 82 #[.int .i64 x] w fun e w' => e = .returned (.bool (isTm x)) ∧ w = w' := by
  go_enter Tryz.func82, Tryz.ntmps82
  go_wp2_with (go_at_call 30; refine (isW_any _ _ _ _).mono ?_; rintro e w' ⟨rfl, rfl⟩)
  go_ret
  exact ⟨rfl, rfl⟩
theorem specMark_any (x : Int) (w : World) : Calls Tryz.prog 46 #[.int .i64 x] w fun e w' => e = .returned (.bool (isMk x)) ∧ w = w' := by
  go_enter Tryz.func46, Tryz.ntmps46
  go_wp2_with (go_at_call 16; refine (specIn_any _ _ _ _).mono ?_; rintro e w' ⟨rfl, rfl⟩)
  go_ret
  exact ⟨rfl, rfl⟩

theorem implSrcOk_any (S : Src) (w : World) : Calls Tryz.prog 59 #[(.agg #[.int .i64 S.x, .int .i64 S.m, .int .i64 S.s, .bool S.i, .bool S.o])] w fun e w' => e = .returned (.bool (sOk S)) ∧ Below w.heap.size w w' := by
  unfold sOk
  have B1 := Lib.hid ((Below.refl w.heap.size w).alloc (Nat.le_refl _) (.cells #[.int .i64 S.x, .int .i64 S.m, .int .i64 S.s, .bool S.i, .bool S.o] 69))
  cases h1 : isMk S.x with
  | false =>
    rw [Bool.false_and]
    go_enter Tryz.func59, Tryz.ntmps59
    go_wp2_with (first | (go_at_call 61; refine (isMark_any _ _).mono ?_; rintro e w' ⟨rfl, rfl⟩) | (go_at_call 74; refine (implTickOk_any _ _).mono ?_; rintro e w' ⟨rfl, rfl⟩))
    go_ret
    exact ⟨rfl, B1.out⟩
  | true =>
    rw [Bool.true_and]
    cases h2 : isMk S.m with
    | false =>
      rw [Bool.false_and]
      go_enter Tryz.func59, Tryz.ntmps59
      go_wp2_with (first | (go_at_call 61; refine (isMark_any _ _).mono ?_; rintro e w' ⟨rfl, rfl⟩) | (go_at_call 74; refine (implTickOk_any _ _).mono ?_; rintro e w' ⟨rfl, rfl⟩))
      go_ret
      exact ⟨rfl, B1.out⟩
    | true =>
      rw [Bool.true_and]
      go_enter Tryz.func59, Tryz.ntmps59
      go_wp2_with (first | (go_at_call 61; refine (isMark_any _ _).mono ?_; rintro e w' ⟨rfl, rfl⟩) | (go_at_call 74; refine (implTickOk_any _ _).mono ?_; rintro e w' ⟨rfl, rfl⟩))
      go_ret
      exact ⟨rfl, B1.out⟩

theorem specSrcOk_any (S : Src) (w : World) : Calls Tryz.prog 19 #[(.agg #[.int .i64 S.x, .int .i64 S.m, .int .i64 S.s, .bool S.i, .bool S.o])] w fun e w' => e = .returned (.bool (sOk S)) ∧ Below w.heap.size w w' := by
  unfold sOk
  have B1 := Lib.hid ((Below.refl w.heap.size w).alloc (Nat.le_refl _) (.cells #[.int .i64 S.x, .int .i64 S.m, .int .i64 S.s, .bool S.i, .bool S.o] 69))
  cases h1 : isMk S.x with
  | false =>
    rw [Bool.false_and]
    go_enter Tryz.func19, Tryz.ntmps19
    go_wp2_with (first | (go_at_call 46; refine (specMark_any _ _).mono ?_; rintro e w' ⟨rfl, rfl⟩) | (go_at_call 50; refine (specTickOk_any _ _).mono ?_; rintro e w' ⟨rfl, rfl⟩))
    go_ret
    exact ⟨rfl, B1.out⟩
  | true =>
    rw [Bool.true_and]
    cases h2 : isMk S.m with
    | false =>
      rw [Bool.false_and]
      go_enter Tryz.func19, Tryz.ntmps19
      go_wp2_with (first | (go_at_call 46; refine (specMark_any _ _).mono ?_; rintro e w' ⟨rfl, rfl⟩) | (go_at_call 50; refine (specTickOk_any _ _).mono ?_; rintro e w' ⟨rfl, rfl⟩))
      go_ret
      exact ⟨rfl, B1.out⟩
    | true =>
      rw [Bool.true_and]
      go_enter Tryz.func19, Tryz.ntmps19
      go_wp2_with (first | (go_at_call 46; refine (specMark_any _ _).mono ?_; rintro e w' ⟨rfl, rfl⟩) | (go_at_call 50; refine (specTickOk_any _ _).mono ?_; rintro e w' ⟨rfl, rfl⟩))
      go_ret
      exact ⟨rfl, B1.out⟩

end Go.Proofs.YtddanfpiecgcgaaGreatDoor
