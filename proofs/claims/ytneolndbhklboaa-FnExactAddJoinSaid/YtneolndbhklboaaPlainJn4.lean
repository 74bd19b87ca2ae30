/- Plain: chapter 12, the left events that meet none. No program. -/
import Derived.Test.YtneolndbhklboaaPlainJn3
namespace Go.Proofs.Ytneolndbhklboaa
open Go.RowKit
def metB (A : Fm) (R : List Fm) (by_ : Int) (k : Nat) : Bool := (R.take k).any (fun B => meetB A B by_)
def umTo (L R : List Fm) (by_ : Int) (k : Nat) : List Int := ((List.range k).filter (fun i => !metB (qel L i) R by_ R.length)).map (fun i : Nat => (i : Int))
def umJ (L R : List Fm) (by_ : Int) : List Int := if evsJ L = true ∧ evsJ R = true ∧ inB by_ 0 1000000 = true then umTo L R by_ L.length else []
section
variable {L R : List Fm} {A : Fm} {by_ : Int} {k : Nat}
theorem metB_step (hk : k < R.length) : metB A R by_ (k + 1) = (metB A R by_ k || meetB A (qel R k) by_) := by
  unfold metB
  rw [qel_take hk, List.any_append]
  simp
theorem metB_row : metB A R by_ k = !decide ((rowJ A R by_ k).length = 0) := by
  unfold metB rowJ
  rw [List.length_map, Bool.eq_iff_iff]
  simp [List.filter_eq_nil_iff, List.any_eq_true]
theorem umTo_yes (h : metB (qel L k) R by_ R.length = false) : umTo L R by_ (k + 1) = umTo L R by_ k ++ [(k : Int)] := by
  unfold umTo
  rw [List.range_succ, List.filter_append]
  simp [h]
theorem umTo_no (h : metB (qel L k) R by_ R.length = true) : umTo L R by_ (k + 1) = umTo L R by_ k := by
  unfold umTo
  rw [List.range_succ, List.filter_append]
  simp [h]
theorem umTo_len : (umTo L R by_ k).length ≤ k := by
  unfold umTo
  rw [List.length_map]
  refine Nat.le_trans (List.length_filter_le _ _) ?_
  simp
theorem umJ_no1 (h : (evsJ L && evsJ R) = false) : umJ L R by_ = [] := if_neg (fun a => by rw [a.1, a.2.1] at h; cases h)
theorem umJ_no2 (h : inB by_ 0 1000000 = false) : umJ L R by_ = [] := if_neg (fun a => by rw [h] at a; cases a.2.2)
theorem umJ_yes (h : evsJ L = true) (h2 : evsJ R = true) (h3 : inB by_ 0 1000000 = true) : umJ L R by_ = umTo L R by_ L.length := if_pos ⟨h, h2, h3⟩
theorem joinJ_no12 (h : (evsJ L && evsJ R) = false) : joinJ L R by_ = ([], false) := if_neg (fun a => by rw [a.1, a.2.1] at h; cases h)
end
theorem evsJ_one {F : Fm} (h : evJ F = true) : evsJ [F] = true := by simp [evsJ, h]
/-- A row of one event, just laid. -/
theorem fms_one (W : World) (T : TypeId) (F : Fm) : Fms (W.alloc (.cells (qC F).toArray T)) (W.heap.size + 1) (some ⟨W.heap.size, 0, none⟩) 1 [F] := by
  refine ⟨Nat.le_refl _, by omega, .inr ⟨W.heap.size, 0, rfl, by omega, fun i hi q hq => ?_⟩⟩
  obtain rfl : i = 0 := by simpa using hi
  rw [(Blk.new W T (qC F).toArray).cell]
  simp [rel]
end Go.Proofs.Ytneolndbhklboaa
