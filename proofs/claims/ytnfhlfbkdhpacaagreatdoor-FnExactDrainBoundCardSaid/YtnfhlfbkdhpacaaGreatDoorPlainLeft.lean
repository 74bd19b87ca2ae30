/- Plain: how many frames a decoder has, one behind the other, and all connections together. -/
import Derived.Test.YtnfhlfbkdhpacaaGreatDoorReadable
import Derived.Test.YtnfhlfbkdhpacaaGreatDoorJoint1
namespace Go.Proofs.YtnfhlfbkdhpacaaGreatDoor
open Go.RowKit

def frGo : Nat → List Int → Bool → Nat
  | 0, _, _ => 0
  | m + 1, xs, b => if (nxGood xs b && ((nx xs b).code != 1)) = true then 1 + frGo m (nx xs b).left (nx xs b).bad else 0
def frM (xs : List Int) (b : Bool) : Nat := xs.length + (if b = true then 0 else 1)
theorem nx_meas {xs : List Int} {b : Bool} (h : (nxGood xs b && ((nx xs b).code != 1)) = true) : frM (nx xs b).left (nx xs b).bad < frM xs b := by
  rw [Bool.and_eq_true] at h
  obtain ⟨hg, hc⟩ := h
  have hb : b = false := by cases b with | false => rfl | true => simp [nxGood] at hg
  subst hb
  cases h1 : tkHere xs with
  | true =>
    rw [nx_here hg h1]
    obtain ⟨p, q⟩ := here_len h1
    simp only [frM, List.length_drop]
    simp
    omega
  | false =>
    cases h2 : tkMore xs with
    | true => rw [nx_more hg h1 h2] at hc; cases hc
    | false =>
      rw [nx_bent hg h1 h2]
      simp [frM]
theorem frGo_fuel : ∀ (m m' : Nat) (xs : List Int) (b : Bool), frM xs b < m → frM xs b < m' → frGo m xs b = frGo m' xs b
  | 0, _, _, _, h, _ => by omega
  | _ + 1, 0, _, _, _, h => by omega
  | m + 1, m' + 1, xs, b, h, h' => by
    unfold frGo
    by_cases hc : (nxGood xs b && ((nx xs b).code != 1)) = true
    · rw [if_pos hc, if_pos hc]
      have := nx_meas hc
      rw [frGo_fuel m m' _ _ (by omega) (by omega)]
    · rw [if_neg hc, if_neg hc]
def frN (xs : List Int) (b : Bool) : Nat := frGo (frM xs b + 1) xs b
theorem frN_step {xs : List Int} {b : Bool} (h : (nxGood xs b && ((nx xs b).code != 1)) = true) : frN xs b = 1 + frN (nx xs b).left (nx xs b).bad := by
  have := nx_meas h
  unfold frN
  rw [show frGo (frM xs b + 1) xs b = 1 + frGo (frM xs b) (nx xs b).left (nx xs b).bad from by rw [frGo, if_pos h]]
  rw [frGo_fuel (frM xs b) _ _ _ (by omega) (Nat.lt_succ_self _)]
theorem frN_stop {xs : List Int} {b : Bool} (h : (nxGood xs b && ((nx xs b).code != 1)) = false) : frN xs b = 0 := by
  unfold frN
  rw [frGo, if_neg (by rw [h]; simp)]
theorem frGo_le : ∀ (m : Nat) (xs : List Int) (b : Bool), frGo m xs b ≤ frM xs b
  | 0, _, _ => Nat.zero_le _
  | m + 1, xs, b => by
    unfold frGo
    by_cases hc : (nxGood xs b && ((nx xs b).code != 1)) = true
    · rw [if_pos hc]
      have := nx_meas hc
      have := frGo_le m (nx xs b).left (nx xs b).bad
      omega
    · rw [if_neg hc]; exact Nat.zero_le _
theorem frN_le (xs : List Int) (b : Bool) : frN xs b ≤ xs.length + 1 := by
  have := frGo_le (frM xs b + 1) xs b
  have : frM xs b ≤ xs.length + 1 := by unfold frM; split <;> omega
  unfold frN
  omega
/-- Of the first connections together. -/
def frT (l : List Cn) : Nat → Nat
  | 0 => 0
  | j + 1 => frT l j + frN (rel cnD l j).l (rel cnD l j).bad
theorem frT_le (l : List Cn) (j : Nat) : frT l j ≤ totH hdCn cnD l j + j := by
  induction j with
  | zero => exact Nat.le_refl _
  | succ j ih =>
    have := frN_le (rel cnD l j).l (rel cnD l j).bad
    have e : hdCn.ln (rel cnD l j) = (rel cnD l j).l.length := rfl
    simp only [frT, totH]
    omega

end Go.Proofs.YtnfhlfbkdhpacaaGreatDoor
