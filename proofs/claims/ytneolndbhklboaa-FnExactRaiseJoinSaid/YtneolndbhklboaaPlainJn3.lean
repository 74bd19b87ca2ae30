/- Plain: chapter 12, a join: what adding and raising answer. No program. -/
import Derived.Test.YtneolndbhklboaaPlainJn2
namespace Go.Proofs.Ytneolndbhklboaa
open Go.RowKit
theorem meetB_comm (A B : Fm) (by_ : Int) : meetB A B by_ = meetB B A by_ := by
  unfold meetB
  rw [Bool.eq_iff_iff]
  simp only [Bool.and_eq_true, decide_eq_true_eq]
  constructor <;> (rintro ⟨h1, h2, h3⟩; exact ⟨h1.symm, h3, h2⟩)
/-- The pairs of what is on the left with one on the right. -/
def colJ (L : List Fm) (B : Fm) (by_ : Int) (k : Nat) : List Pr := ((L.take k).filter (fun A => meetB A B by_)).map (fun A => pairJ A B)
section
variable {L R : List Fm} {A B F : Fm} {by_ : Int} {k i : Nat}
theorem colJ_yes (hk : k < L.length) (h : meetB B (qel L k) by_ = true) : colJ L B by_ (k + 1) = colJ L B by_ k ++ [pairJ (qel L k) B] := by
  unfold colJ
  rw [meetB_comm] at h
  rw [qel_take hk, List.filter_append]
  simp [h]
theorem colJ_no (hk : k < L.length) (h : meetB B (qel L k) by_ = false) : colJ L B by_ (k + 1) = colJ L B by_ k := by
  unfold colJ
  rw [meetB_comm] at h
  rw [qel_take hk, List.filter_append]
  simp [h]
theorem colJ_len : (colJ L B by_ k).length ≤ k := by
  unfold colJ
  rw [List.length_map]
  refine Nat.le_trans (List.length_filter_le _ _) ?_
  rw [List.length_take]; omega
theorem allJ_one : allJ [F] R by_ 1 = rowJ F R by_ R.length := by simp [allJ]
theorem allJ_col : allJ L [F] by_ k = colJ L F by_ k := by
  unfold allJ colJ rowJ
  induction L.take k with
  | nil => rfl
  | cons A t ih =>
    rw [List.flatMap_cons, ih]
    cases h : meetB A F by_ <;> simp [h]
end
structure Jn where
  l : List Fm
  r : List Fm
  m : Int
def jOk (J : Jn) : Bool := joinOkJ J.l J.r J.m
theorem jOk_bd {J : Jn} (h : jOk J = true) : J.l.length ≤ 40 ∧ J.r.length ≤ 40 ∧ evsUp J.l J.l.length ∧ evsUp J.r J.r.length ∧ (-1 ≤ J.m ∧ J.m ≤ 1000000) := by
  unfold jOk joinOkJ at h
  simp only [Bool.and_eq_true] at h
  have h1 := evsJ_bd h.1
  have h2 := evsJ_bd h.2.1
  exact ⟨h1.1, h2.1, h1.2, h2.2, inB_bd h.2.2⟩
def addJ (J : Jn) (by_ : Int) (lf : Bool) (F : Fm) : Jn × List Pr × Int :=
  if jOk J = true ∧ evJ F = true ∧ inB by_ 0 1000000 = true then
    if F.t ≤ J.m then (J, [], 1)
    else if lf = true then (if J.l.length = 40 then (J, [], 2) else (⟨J.l ++ [F], J.r, J.m⟩, rowJ F J.r by_ J.r.length, 0))
    else (if J.r.length = 40 then (J, [], 2) else (⟨J.l, J.r ++ [F], J.m⟩, colJ J.l F by_ J.l.length, 0))
  else (J, [], 3)
section
variable {J : Jn} {by_ : Int} {lf : Bool} {F : Fm}
theorem addJ_bad1 (h : jOk J = false) : addJ J by_ lf F = (J, [], 3) := if_neg (fun a => by rw [h] at a; cases a.1)
theorem addJ_bad2 (h : evJ F = false) : addJ J by_ lf F = (J, [], 3) := if_neg (fun a => by rw [h] at a; cases a.2.1)
theorem addJ_bad3 (h : inB by_ 0 1000000 = false) : addJ J by_ lf F = (J, [], 3) := if_neg (fun a => by rw [h] at a; cases a.2.2)
theorem addJ_late (h1 : jOk J = true) (h2 : evJ F = true) (h3 : inB by_ 0 1000000 = true) (h4 : F.t ≤ J.m) : addJ J by_ lf F = (J, [], 1) := by
  unfold addJ; rw [if_pos ⟨h1, h2, h3⟩, if_pos h4]
theorem addJ_full (h1 : jOk J = true) (h2 : evJ F = true) (h3 : inB by_ 0 1000000 = true) (h4 : ¬ F.t ≤ J.m) (h5 : (if lf then J.l else J.r).length = 40) : addJ J by_ lf F = (J, [], 2) := by
  unfold addJ; rw [if_pos ⟨h1, h2, h3⟩, if_neg h4]
  cases lf <;> simp_all
theorem addJ_left (h1 : jOk J = true) (h2 : evJ F = true) (h3 : inB by_ 0 1000000 = true) (h4 : ¬ F.t ≤ J.m) (h5 : J.l.length ≠ 40) : addJ J by_ true F = (⟨J.l ++ [F], J.r, J.m⟩, rowJ F J.r by_ J.r.length, 0) := by
  unfold addJ; rw [if_pos ⟨h1, h2, h3⟩, if_neg h4, if_pos rfl, if_neg h5]
theorem addJ_right (h1 : jOk J = true) (h2 : evJ F = true) (h3 : inB by_ 0 1000000 = true) (h4 : ¬ F.t ≤ J.m) (h5 : J.r.length ≠ 40) : addJ J by_ false F = (⟨J.l, J.r ++ [F], J.m⟩, colJ J.l F by_ J.l.length, 0) := by
  unfold addJ; rw [if_pos ⟨h1, h2, h3⟩, if_neg h4, if_neg (by simp), if_neg h5]
theorem addJ_len (h : J.l.length ≤ 1000 ∧ J.r.length ≤ 1000) : (addJ J by_ lf F).1.l.length ≤ 1041 ∧ (addJ J by_ lf F).1.r.length ≤ 1041 ∧ (addJ J by_ lf F).2.1.length ≤ 40 := by
  by_cases h1 : jOk J = true ∧ evJ F = true ∧ inB by_ 0 1000000 = true
  · obtain ⟨b1, b2, _⟩ := jOk_bd h1.1
    unfold addJ
    rw [if_pos h1]
    have e1 := rowJ_len (A := F) (R := J.r) (by_ := by_) (k := J.r.length)
    have e2 := colJ_len (L := J.l) (B := F) (by_ := by_) (k := J.l.length)
    split
    · simp; omega
    · cases lf
      · split
        · exact absurd ‹_› (by simp)
        · split <;> simp <;> omega
      · rw [if_pos rfl]
        split <;> simp <;> omega
  · unfold addJ
    rw [if_neg h1]
    simp; omega
end
end Go.Proofs.Ytneolndbhklboaa
