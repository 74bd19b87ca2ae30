/- Plain: chapter 12, events of two sides, when two meet, their pairs. No program. -/
import Derived.Test.YtneolndbhklboaaPlainFrame
import Derived.Test.YtneolndbhklboaaFmRow
import Derived.Test.YtneolndbhklboaaPairS
namespace Go.Proofs.Ytneolndbhklboaa
open Go.RowKit

/-- An event that is right. -/
def evJ (F : Fm) : Bool := fOk F.k F.y F.t F.v && decide (F.k = 1)
theorem evJ_bd {F : Fm} (h : evJ F = true) : (0 ≤ F.y ∧ F.y ≤ 65535) ∧ (0 ≤ F.t ∧ F.t ≤ 1000000) ∧ (-1000000 ≤ F.v ∧ F.v ≤ 1000000) := by
  unfold evJ at h
  simp only [Bool.and_eq_true, decide_eq_true_eq] at h
  obtain ⟨h2, h1⟩ := h
  rw [h1, fOk_event] at h2
  simp only [Bool.and_eq_true] at h2
  exact ⟨inB_bd h2.1.1, inB_bd h2.1.2, inB_bd h2.2⟩
def evsUp (L : List Fm) (k : Nat) : Prop := ∀ i, i < k → evJ (qel L i) = true
def evsJ (L : List Fm) : Bool := decide (L.length ≤ 40) && L.all evJ
theorem evsJ_no1 {L : List Fm} (h : ¬ L.length ≤ 40) : evsJ L = false := by simp [evsJ, h]
theorem evsJ_no2 {L : List Fm} {k : Nat} (hk : k < L.length) (h : evJ (qel L k) = false) : evsJ L = false := by
  have : L.all evJ = false := by
    rw [List.all_eq_false]
    exact ⟨qel L k, by rw [show qel L k = L[k] from rel_lt qD hk]; exact List.getElem_mem hk, by simp [h]⟩
  simp [evsJ, this]
theorem evsJ_yes {L : List Fm} (h : L.length ≤ 40) (h2 : evsUp L L.length) : evsJ L = true := by
  have : L.all evJ = true := by
    rw [List.all_eq_true]
    intro x hx
    obtain ⟨i, hi, rfl⟩ := List.getElem_of_mem hx
    have := h2 i hi
    rwa [show qel L i = L[i] from rel_lt qD hi] at this
  simp [evsJ, h, this]
theorem evsJ_bd {L : List Fm} (h : evsJ L = true) : L.length ≤ 40 ∧ evsUp L L.length := by
  unfold evsJ at h
  simp only [Bool.and_eq_true, decide_eq_true_eq, List.all_eq_true] at h
  exact ⟨h.1, fun i hi => h.2 _ (by rw [show qel L i = L[i] from rel_lt qD hi]; exact List.getElem_mem hi)⟩
/-- Two events meet. -/
def meetB (A B : Fm) (by_ : Int) : Bool := decide (A.y = B.y) && (decide (A.t - B.t ≤ by_) && decide (B.t - A.t ≤ by_))
def pairJ (A B : Fm) : Pr := ⟨A.y, A.t, B.t, A.v, B.v⟩
def joinOkJ (L R : List Fm) (mark : Int) : Bool := evsJ L && (evsJ R && inB mark (-1) 1000000)
def heldJ (L R : List Fm) (mark : Int) : Int := if joinOkJ L R mark = true then (L.length : Int) + (R.length : Int) else -1
end Go.Proofs.Ytneolndbhklboaa
