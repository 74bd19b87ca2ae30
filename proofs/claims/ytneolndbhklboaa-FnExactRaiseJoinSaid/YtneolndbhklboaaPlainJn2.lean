/- Plain: chapter 12, the pairs of two lists. No program. -/
import Derived.Test.YtneolndbhklboaaPlainJn
namespace Go.Proofs.Ytneolndbhklboaa
open Go.RowKit
def rowJ (A : Fm) (R : List Fm) (by_ : Int) (k : Nat) : List Pr := ((R.take k).filter (fun B => meetB A B by_)).map (pairJ A)
def allJ (L R : List Fm) (by_ : Int) (i : Nat) : List Pr := (L.take i).flatMap (fun A => rowJ A R by_ R.length)
section
variable {L R : List Fm} {A : Fm} {by_ : Int} {k i : Nat}
theorem rowJ_yes (hk : k < R.length) (h : meetB A (qel R k) by_ = true) : rowJ A R by_ (k + 1) = rowJ A R by_ k ++ [pairJ A (qel R k)] := by
  unfold rowJ
  rw [qel_take hk, List.filter_append]
  simp [h]
theorem rowJ_no (hk : k < R.length) (h : meetB A (qel R k) by_ = false) : rowJ A R by_ (k + 1) = rowJ A R by_ k := by
  unfold rowJ
  rw [qel_take hk, List.filter_append]
  simp [h]
theorem rowJ_len : (rowJ A R by_ k).length ≤ k := by
  unfold rowJ
  rw [List.length_map]
  refine Nat.le_trans (List.length_filter_le _ _) ?_
  rw [List.length_take]; omega
theorem allJ_step (hi : i < L.length) : allJ L R by_ (i + 1) = allJ L R by_ i ++ rowJ (qel L i) R by_ R.length := by
  unfold allJ
  rw [qel_take hi]
  simp
theorem allJ_len (hR : R.length ≤ 40) : ∀ i, i ≤ L.length → (allJ L R by_ i).length ≤ 40 * i
  | 0, _ => Nat.le_refl _
  | i + 1, hi => by
    have := allJ_len hR i (by omega)
    rw [allJ_step (by omega), List.length_append]
    have := rowJ_len (A := qel L i) (R := R) (by_ := by_) (k := R.length)
    omega
end
def joinJ (L R : List Fm) (by_ : Int) : List Pr × Bool := if evsJ L = true ∧ evsJ R = true ∧ inB by_ 0 1000000 = true then (allJ L R by_ L.length, true) else ([], false)
theorem joinJ_no1 {L R : List Fm} {by_ : Int} (h : evsJ L = false) : joinJ L R by_ = ([], false) := if_neg (fun a => by rw [h] at a; cases a.1)
theorem joinJ_no2 {L R : List Fm} {by_ : Int} (h : evsJ R = false) : joinJ L R by_ = ([], false) := if_neg (fun a => by rw [h] at a; cases a.2.1)
theorem joinJ_no3 {L R : List Fm} {by_ : Int} (h : inB by_ 0 1000000 = false) : joinJ L R by_ = ([], false) := if_neg (fun a => by rw [h] at a; cases a.2.2)
theorem joinJ_yes {L R : List Fm} {by_ : Int} (h : evsJ L = true) (h2 : evsJ R = true) (h3 : inB by_ 0 1000000 = true) : joinJ L R by_ = (allJ L R by_ L.length, true) := if_pos ⟨h, h2, h3⟩
def JoinPost (Z : List Pr × Bool) (w : World) (e : Ending) (w' : World) : Prop :=
  ∃ a c, e = .returned (.tuple #[.slice a Z.1.length c, .bool Z.2]) ∧ w'.ownsRow w.heap.size 53 5 (.slice a Z.1.length c) Z.1.length (flatG Z.1) ∧ Below w.heap.size w w'
end Go.Proofs.Ytneolndbhklboaa
