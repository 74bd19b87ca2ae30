/- Contracts of the functions of chapter 1 that only reckon: what impl and spec answer, as one plain function each. No conditions beyond that the integers fit their kind. -/
import Derived.Test.YtneolndbhklboaaProg
import Derived.WalkKit
import Derived.ProofKit
import Derived.OpenShut
import Derived.Below
namespace Go.Proofs.Ytneolndbhklboaa
open Go.RowKit

def inB (x a b : Int) : Bool := decide (a ≤ x ∧ x ≤ b)
theorem inB_yes {x a b : Int} (h : a ≤ x) (h2 : x ≤ b) : inB x a b = true := by unfold inB; simp; omega
theorem inB_no {x a b : Int} (h : ¬ (a ≤ x ∧ x ≤ b)) : inB x a b = false := by unfold inB; simp; omega
def tickB (t : Int) : Bool := inB t 0 1000000000
theorem tickB_yes {t : Int} (h : 0 ≤ t) (h2 : t ≤ 1000000000) : tickB t = true := inB_yes h h2
theorem tickB_no {t : Int} (h : ¬ (0 ≤ t ∧ t ≤ 1000000000)) : tickB t = false := inB_no h

theorem specIn_any (x a b : Int) (w : World) : Calls Try.prog 70 #[.int .i64 x, .int .i64 a, .int .i64 b] w fun e w' => e = .returned (.bool (inB x a b)) ∧ w = w' := by
  by_cases h1 : a ≤ x
  · by_cases h2 : x ≤ b
    · go_enter Try.func70, Try.ntmps70
      go_wp2
      go_ret
      exact ⟨by rw [inB_yes h1 h2]; rfl, rfl⟩
    · go_enter Try.func70, Try.ntmps70
      go_wp2
      go_ret
      exact ⟨by rw [inB_no (by omega)]; rfl, rfl⟩
  · go_enter Try.func70, Try.ntmps70
    go_wp2
    go_ret
    exact ⟨by rw [inB_no (by omega)]; rfl, rfl⟩
theorem tickB_bd {t : Int} (h : tickB t = true) : 0 ≤ t ∧ t ≤ 1000000000 := by unfold tickB inB at h; simpa using h
theorem inB_bd {x a b : Int} (h : inB x a b = true) : a ≤ x ∧ x ≤ b := by unfold inB at h; simpa using h
def addTick (t d : Int) : Int := if tickB t = true ∧ inB d (-1000000000) 1000000000 = true then (if 1000000000 < t + d then 1000000000 else if t + d < 0 then 0 else t + d) else -1
theorem addTick_no1 {t d : Int} (h : tickB t = false) : addTick t d = -1 := by unfold addTick; simp [h]
theorem addTick_no2 {t d : Int} (h : inB d (-1000000000) 1000000000 = false) : addTick t d = -1 := by unfold addTick; simp [h]
theorem addTick_hi {t d : Int} (h : tickB t = true) (h2 : inB d (-1000000000) 1000000000 = true) (h3 : 1000000000 < t + d) : addTick t d = 1000000000 := by unfold addTick; simp [h, h2, h3]
theorem addTick_lo {t d : Int} (h : tickB t = true) (h2 : inB d (-1000000000) 1000000000 = true) (h3 : t + d < 0) : addTick t d = 0 := by unfold addTick; rw [if_pos ⟨h, h2⟩, if_neg (by omega), if_pos h3]
theorem addTick_mid {t d : Int} (h : tickB t = true) (h2 : inB d (-1000000000) 1000000000 = true) (h3 : ¬ t + d < 0) (h4 : ¬ 1000000000 < t + d) : addTick t d = t + d := by unfold addTick; rw [if_pos ⟨h, h2⟩, if_neg h4, if_neg h3]

def sinceT (f n : Int) : Int := if tickB f = true ∧ tickB n = true then (if n < f then 0 else n - f) else -1
theorem sinceT_no1 {f n : Int} (h : tickB f = false) : sinceT f n = -1 := by unfold sinceT; simp [h]
theorem sinceT_no2 {f n : Int} (h : tickB n = false) : sinceT f n = -1 := by unfold sinceT; simp [h]
theorem sinceT_lo {f n : Int} (h : tickB f = true) (h2 : tickB n = true) (h3 : n < f) : sinceT f n = 0 := by unfold sinceT; rw [if_pos ⟨h, h2⟩, if_pos h3]
theorem sinceT_mid {f n : Int} (h : tickB f = true) (h2 : tickB n = true) (h3 : ¬ n < f) : sinceT f n = n - f := by unfold sinceT; rw [if_pos ⟨h, h2⟩, if_neg h3]

def dueB (f a n : Int) : Bool := decide (tickB f = true ∧ tickB a = true ∧ tickB n = true ∧ 0 < a ∧ addTick f a ≤ n)
theorem dueB_no1 {f a n : Int} (h : tickB f = false) : dueB f a n = false := by unfold dueB; simp [h]
theorem dueB_no2 {f a n : Int} (h : tickB a = false) : dueB f a n = false := by unfold dueB; simp [h]
theorem dueB_no3 {f a n : Int} (h : tickB n = false) : dueB f a n = false := by unfold dueB; simp [h]
theorem dueB_no4 {f a n : Int} (h : ¬ 0 < a) : dueB f a n = false := by unfold dueB; simp [h]
theorem dueB_eq {f a n : Int} (h1 : tickB f = true) (h2 : tickB a = true) (h3 : tickB n = true) (h4 : 0 < a) : dueB f a n = decide (addTick f a ≤ n) := by unfold dueB; simp only [h1, h2, h3, h4, true_and]


end Go.Proofs.Ytneolndbhklboaa
