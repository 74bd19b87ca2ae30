/- Contracts of the laws' own helpers over a frame, of spec.FrameOk and impl.FrameOk with what it calls. -/
import Derived.Test.YtneolndbhklboaaProg
import Derived.Test.YtneolndbhklboaaPlainFrame
import Derived.WalkKit
import Derived.WalkSpells
import Derived.ProofKit
import Derived.Lib.Hide
namespace Go.Proofs.Ytneolndbhklboaa
open Go.RowKit

theorem bcell {W w1 : World} (hb : Below W.heap.size W w1) : (∀ b o, b < W.heap.size → w1.cell? ⟨b, o, none⟩ = W.cell? ⟨b, o, none⟩) ∧ (∀ b o, b < W.heap.size → w1.frozen? ⟨b, o, none⟩ = W.frozen? ⟨b, o, none⟩) :=
  ⟨fun b o h => hb.cell (p := ⟨b, o, none⟩) h, fun b o h => hb.frozen (p := ⟨b, o, none⟩) h⟩

theorem toFrame_any (k y t v : Int) (w : World) :
    Calls Try.prog 53 #[(.agg #[.int .i64 k, .int .i64 y, .int .i64 t, .int .i64 v])] w fun e w' => e = .returned (.agg #[.int .i64 k, .int .i64 y, .int .i64 t, .int .i64 v]) ∧ Below w.heap.size w w' := by
  go_enter Try.func53, Try.ntmps53
  go_wp2
  exact bodyPost_ret (v := (.agg #[.int .i64 k, .int .i64 y, .int .i64 t, .int .i64 v])) (by simp [results, Try.results53, go_sem]) rfl ⟨rfl, (((Below.refl _ _).alloc (Nat.le_refl _) _).alloc (by simp) _).alloc (by simp; omega) _⟩

set_option maxHeartbeats 800000 in
theorem specFrameOk_any (k y t v : Int) (w : World) :
    Calls Try.prog 64 #[(.agg #[.int .i64 k, .int .i64 y, .int .i64 t, .int .i64 v])] w fun e w' => e = .returned (.bool (fOk k y t v)) ∧ Below w.heap.size w w' := by
  by_cases h1 : k = 1
  · subst h1
    rw [fOk_event]
    cases hy : inB y 0 65535 with
    | false =>
      rw [Bool.false_and, Bool.false_and]
      go_enter Try.func64, Try.ntmps64
      go_wp2_with (go_at_call 70; refine (specIn_any _ _ _ _).mono ?_; rintro e w' ⟨rfl, rfl⟩)
      go_ret
      exact ⟨rfl, (Below.refl _ _).alloc (Nat.le_refl _) _⟩
    | true =>
      cases ht : inB t 0 1000000 with
      | false =>
        rw [Bool.and_false, Bool.false_and]
        go_enter Try.func64, Try.ntmps64
        go_wp2_with (go_at_call 70; refine (specIn_any _ _ _ _).mono ?_; rintro e w' ⟨rfl, rfl⟩)
        go_ret
        exact ⟨rfl, (Below.refl _ _).alloc (Nat.le_refl _) _⟩
      | true =>
        rw [Bool.and_self, Bool.true_and]
        go_enter Try.func64, Try.ntmps64
        go_wp2_with (go_at_call 70; refine (specIn_any _ _ _ _).mono ?_; rintro e w' ⟨rfl, rfl⟩)
        go_ret
        exact ⟨rfl, (Below.refl _ _).alloc (Nat.le_refl _) _⟩
  by_cases h2 : k = 2
  · subst h2
    clear h1
    rw [fOk_mark]
    by_cases hy : y = 0
    · subst hy
      cases ht : inB t 0 1000000 with
      | false =>
        rw [Bool.and_false, Bool.false_and]
        go_enter Try.func64, Try.ntmps64
        go_wp2_with (go_at_call 70; refine (specIn_any _ _ _ _).mono ?_; rintro e w' ⟨rfl, rfl⟩)
        go_ret
        exact ⟨rfl, (Below.refl _ _).alloc (Nat.le_refl _) _⟩
      | true =>
        rw [Bool.and_true]
        go_enter Try.func64, Try.ntmps64
        go_wp2_with (go_at_call 70; refine (specIn_any _ _ _ _).mono ?_; rintro e w' ⟨rfl, rfl⟩)
        go_ret
        exact ⟨by simp, (Below.refl _ _).alloc (Nat.le_refl _) _⟩
    · have hy0 : (y == 0) = false := by simp [hy]
      rw [hy0, Bool.false_and, Bool.false_and]
      clear hy
      go_enter Try.func64, Try.ntmps64
      go_wp2_with (go_at_call 70; refine (specIn_any _ _ _ _).mono ?_; rintro e w' ⟨rfl, rfl⟩)
      go_ret
      exact ⟨rfl, (Below.refl _ _).alloc (Nat.le_refl _) _⟩
  by_cases h3 : k = 3
  · subst h3
    clear h1 h2
    rw [fOk_bye]
    by_cases hy : y = 0
    · subst hy
      by_cases ht : t = 0
      · subst ht
        go_enter Try.func64, Try.ntmps64
        go_wp2
        go_ret
        exact ⟨by simp, (Below.refl _ _).alloc (Nat.le_refl _) _⟩
      · have ht0 : (t == 0) = false := by simp [ht]
        rw [ht0, Bool.and_false, Bool.false_and]
        clear ht
        go_enter Try.func64, Try.ntmps64
        go_wp2
        go_ret
        exact ⟨rfl, (Below.refl _ _).alloc (Nat.le_refl _) _⟩
    · have hy0 : (y == 0) = false := by simp [hy]
      rw [hy0, Bool.false_and, Bool.false_and]
      clear hy
      go_enter Try.func64, Try.ntmps64
      go_wp2
      go_ret
      exact ⟨rfl, (Below.refl _ _).alloc (Nat.le_refl _) _⟩
  · have k1 : (k == 1) = false := by simp [h1]
    have k2 : (k == 2) = false := by simp [h2]
    have k3 : (k == 3) = false := by simp [h3]
    rw [fOk_none y t v k1 k2 k3]
    clear h1 h2 h3
    go_enter Try.func64, Try.ntmps64
    go_wp2
    go_ret
    exact ⟨rfl, (Below.refl _ _).alloc (Nat.le_refl _) _⟩

theorem isWithin_any (x a b : Int) (w : World) : Calls Try.prog 95 #[.int .i64 x, .int .i64 a, .int .i64 b] w fun e w' => e = .returned (.bool (inB x a b)) ∧ w = w' := by
  by_cases h1 : a ≤ x
  · by_cases h2 : x ≤ b
    · rw [inB_yes h1 h2]
      go_enter Try.func95, Try.ntmps95
      go_wp2
      go_ret
      exact ⟨rfl, rfl⟩
    · rw [inB_no (by omega)]
      go_enter Try.func95, Try.ntmps95
      go_wp2
      go_ret
      exact ⟨rfl, rfl⟩
  · rw [inB_no (by omega)]
    go_enter Try.func95, Try.ntmps95
    go_wp2
    go_ret
    exact ⟨rfl, rfl⟩

end Go.Proofs.Ytneolndbhklboaa
