/- Plain: chapter 11, lists of sessions that are well, and such a list with one event more. No program. -/
import Derived.Test.YtchbmnpajnlijaaPlainSes3
namespace Go.Proofs.Ytchbmnpajnlijaa
open Go.RowKit

/-- Out of order, or too near. -/
def badP (gap : Int) (A B : Ss) : Bool := decide (B.ky < A.ky ∨ A.ky = B.ky ∧ B.fr ≤ A.tt + gap)
def goodAt (gap : Int) (l : List Ss) (i : Nat) : Bool := sesOk (zel l i) && (decide (i = 0) || !badP gap (zel l (i - 1)) (zel l i))
def goodTo (gap : Int) (l : List Ss) (k : Nat) : Prop := ∀ i, i < k → goodAt gap l i = true
def okS (l : List Ss) (gap : Int) : Bool := decide (l.length ≤ 200) && inB gap 0 1000000 && (List.range l.length).all (goodAt gap l)
theorem okS_no1 {l : List Ss} {gap : Int} (h : ¬ l.length ≤ 200) : okS l gap = false := by simp [okS, h]
theorem okS_no2 {l : List Ss} {gap : Int} (h : inB gap 0 1000000 = false) : okS l gap = false := by simp [okS, h]
theorem okS_no3 {l : List Ss} {gap : Int} {k : Nat} (hk : k < l.length) (h : goodAt gap l k = false) : okS l gap = false := by
  have : (List.range l.length).all (goodAt gap l) = false := by
    rw [Bool.eq_false_iff]
    intro e
    rw [List.all_eq_true] at e
    rw [e k (List.mem_range.2 hk)] at h
    cases h
  simp [okS, this]
theorem okS_yes {l : List Ss} {gap : Int} (h : l.length ≤ 200) (h2 : inB gap 0 1000000 = true) (h3 : goodTo gap l l.length) : okS l gap = true := by
  have : (List.range l.length).all (goodAt gap l) = true := List.all_eq_true.2 (fun i hi => h3 i (List.mem_range.1 hi))
  simp [okS, h, h2, this]
theorem okS_bd {l : List Ss} {gap : Int} (h : okS l gap = true) : l.length ≤ 200 ∧ inB gap 0 1000000 = true ∧ goodTo gap l l.length := by
  unfold okS at h
  simp only [Bool.and_eq_true, decide_eq_true_eq, List.all_eq_true, List.mem_range] at h
  exact ⟨h.1.1, h.1.2, h.2⟩
theorem goodTo_oks {l : List Ss} {gap : Int} (h : goodTo gap l l.length) : oks l := fun i hi => by
  have := h i hi
  unfold goodAt at this
  rw [Bool.and_eq_true] at this
  exact this.1
/-- What AddToSessions answers. -/
def addToZ (l : List Ss) (F : Fm) (gap : Int) : List Ss × Bool := if okS l gap = true ∧ evQ F = true ∧ (addZ F.y F.t F.v gap l).length ≤ 200 then (addZ F.y F.t F.v gap l, true) else (l, false)
theorem addToZ_no1 {l : List Ss} {F : Fm} {gap : Int} (h : okS l gap = false) : addToZ l F gap = (l, false) := if_neg (fun h2 => by rw [h] at h2; cases h2.1)
theorem addToZ_no2 {l : List Ss} {F : Fm} {gap : Int} (h : evQ F = false) : addToZ l F gap = (l, false) := if_neg (fun h2 => by rw [h] at h2; cases h2.2.1)
theorem addToZ_no3 {l : List Ss} {F : Fm} {gap : Int} (h : ¬ (addZ F.y F.t F.v gap l).length ≤ 200) : addToZ l F gap = (l, false) := if_neg (fun h2 => h h2.2.2)
theorem addToZ_yes {l : List Ss} {F : Fm} {gap : Int} (h : okS l gap = true) (h2 : evQ F = true) (h3 : (addZ F.y F.t F.v gap l).length ≤ 200) : addToZ l F gap = (addZ F.y F.t F.v gap l, true) := if_pos ⟨h, h2, h3⟩
def AddToPost (R : List Ss × Bool) (w : World) (e : Ending) (w' : World) : Prop :=
  ∃ a c, e = .returned (.tuple #[.slice a R.1.length c, .bool R.2]) ∧ w'.ownsRow w.heap.size 33 5 (.slice a R.1.length c) R.1.length (flatZ R.1) ∧ Below w.heap.size w w'
end Go.Proofs.Ytchbmnpajnlijaa
