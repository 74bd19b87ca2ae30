/- Plain: chapter 12, pairs in their order: sorting by insertion, and that there is one sorted list only. No program. -/
import Derived.Test.YtneolndbhklboaaCmpJ
import Derived.Sort.LotA
namespace Go.Proofs.Ytneolndbhklboaa
open Go.RowKit
theorem prLess_iff (A B : Pr) : prLess A B = true ↔ A.ky < B.ky ∨ (A.ky = B.ky ∧ (A.lt < B.lt ∨ (A.lt = B.lt ∧ (A.rt < B.rt ∨ (A.rt = B.rt ∧ (A.lv < B.lv ∨ (A.lv = B.lv ∧ A.rv < B.rv))))))) := by
  unfold prLess
  split
  · split
    · split
      · split <;> simp only [decide_eq_true_eq] <;> omega
      · simp only [decide_eq_true_eq]; omega
    · simp only [decide_eq_true_eq]; omega
  · simp only [decide_eq_true_eq]; omega
theorem prLess_not (A B : Pr) : prLess A B = false ↔ ¬ (A.ky < B.ky ∨ (A.ky = B.ky ∧ (A.lt < B.lt ∨ (A.lt = B.lt ∧ (A.rt < B.rt ∨ (A.rt = B.rt ∧ (A.lv < B.lv ∨ (A.lv = B.lv ∧ A.rv < B.rv)))))))) := by
  rw [← prLess_iff]; simp
theorem prLess_irrefl (A : Pr) : prLess A A = false := by rw [prLess_not]; omega
theorem prLess_trans {A B C : Pr} (h : prLess A B = true) (k : prLess B C = true) : prLess A C = true := by
  rw [prLess_iff] at *; omega
theorem prLess_ntrans {A B C : Pr} (h : prLess A B = false) (k : prLess B C = false) : prLess A C = false := by
  rw [prLess_not] at *; omega
theorem prLess_one {A B : Pr} (h : prLess A B = false) (k : prLess B A = false) : A = B := by
  rw [prLess_not] at *
  obtain ⟨a0, a1, a2, a3, a4⟩ := A
  obtain ⟨b0, b1, b2, b3, b4⟩ := B
  simp only at *
  have h0 : a0 = b0 := by omega
  have h1 : a1 = b1 := by omega
  have h2 : a2 = b2 := by omega
  have h3 : a3 = b3 := by omega
  have h4 : a4 = b4 := by omega
  subst h0 h1 h2 h3 h4
  rfl
/-- Sorted: no later one is less than an earlier one. -/
def Asc (l : List Pr) : Prop := l.Pairwise (fun a b => prLess b a = false)
theorem asc_one {l m : List Pr} (hl : Asc l) (hm : Asc m) (hp : l.Perm m) : l = m :=
  List.Perm.eq_of_pairwise (fun _ _ _ _ h1 h2 => prLess_one h2 h1) hl hm hp
def insP (x : Pr) : List Pr → List Pr
  | [] => [x]
  | o :: t => if prLess x o = true then x :: o :: t else o :: insP x t
theorem insP_perm (x : Pr) : ∀ l, (insP x l).Perm (x :: l)
  | [] => List.Perm.refl _
  | o :: t => by
    unfold insP
    split
    · exact List.Perm.refl _
    · exact ((insP_perm x t).cons o).trans (List.Perm.swap x o t)
theorem insP_len (x : Pr) (l : List Pr) : (insP x l).length = l.length + 1 := by have := (insP_perm x l).length_eq; simpa using this
theorem insP_asc (x : Pr) : ∀ l, Asc l → Asc (insP x l)
  | [], _ => by simp [insP, Asc]
  | o :: t, h => by
    have h' := List.pairwise_cons.1 h
    unfold insP
    split
    · rename_i hx
      refine List.pairwise_cons.2 ⟨fun b hb => ?_, h⟩
      rcases List.mem_cons.1 hb with rfl | hb
      · cases hh : prLess b x with
        | false => rfl
        | true => have := prLess_trans hx hh; rw [prLess_irrefl] at this; cases this
      · cases hh : prLess b x with
        | false => rfl
        | true =>
          have h1 := h'.1 b hb
          have := prLess_trans hh hx
          rw [h1] at this; cases this
    · rename_i hx
      refine List.pairwise_cons.2 ⟨fun b hb => ?_, insP_asc x t h'.2⟩
      rcases List.mem_cons.1 ((insP_perm x t).mem_iff.1 hb) with rfl | hb
      · simpa using hx
      · exact h'.1 b hb
def sortTo (l : List Pr) (i : Nat) : List Pr := (l.take i).foldl (fun out x => insP x out) []
def srtP (l : List Pr) : List Pr := sortTo l l.length
theorem sortTo_step {l : List Pr} {i : Nat} (hi : i < l.length) : sortTo l (i + 1) = insP (gel l i) (sortTo l i) := by
  unfold sortTo
  rw [gel_take hi, List.foldl_append]
  rfl
theorem sortTo_spec (l : List Pr) : ∀ i, i ≤ l.length → (sortTo l i).Perm (l.take i) ∧ Asc (sortTo l i)
  | 0, _ => by simp [sortTo, Asc]
  | i + 1, hi => by
    obtain ⟨h1, h2⟩ := sortTo_spec l i (by omega)
    rw [sortTo_step (by omega), gel_take (by omega)]
    refine ⟨(insP_perm _ _).trans ((h1.cons _).trans ?_), insP_asc _ _ h2⟩
    exact (List.perm_append_comm (l₁ := [gel l i]) (l₂ := l.take i))
theorem sortTo_len {l : List Pr} {i : Nat} (hi : i ≤ l.length) : (sortTo l i).length = i := by
  have := (sortTo_spec l i hi).1.length_eq
  rw [List.length_take] at this
  omega
theorem srtP_perm (l : List Pr) : (srtP l).Perm l := by
  have := (sortTo_spec l l.length (Nat.le_refl _)).1
  rwa [List.take_length] at this
theorem srtP_asc (l : List Pr) : Asc (srtP l) := (sortTo_spec l l.length (Nat.le_refl _)).2
theorem srtP_len (l : List Pr) : (srtP l).length = l.length := (srtP_perm l).length_eq
theorem srtP_one {l m : List Pr} (hm : Asc m) (hp : m.Perm l) : m = srtP l := asc_one hm (srtP_asc l) (hp.trans (srtP_perm l).symm)
/-- What a round of the inserting has behind k of the pairs that are there. -/
def pk (x : Pr) (out : List Pr) (k : Nat) : Bool := (out.take k).any (fun o => prLess x o)
def nk (x : Pr) (out : List Pr) (k : Nat) : List Pr := if pk x out k = true then insP x (out.take k) else out.take k
theorem insP_any (x o : Pr) : ∀ l : List Pr, l.any (fun o => prLess x o) = true → insP x (l ++ [o]) = insP x l ++ [o]
  | [], h => by simp at h
  | q :: t, h => by
    simp only [List.cons_append, insP]
    split
    · rfl
    · rename_i hq
      rw [insP_any x o t (by simpa [hq] using h)]
      rfl
theorem insP_none (x : Pr) (r : List Pr) : ∀ l : List Pr, l.any (fun o => prLess x o) = false → insP x (l ++ r) = l ++ insP x r
  | [], _ => rfl
  | q :: t, h => by
    simp only [List.any_cons, Bool.or_eq_false_iff] at h
    simp only [List.cons_append, insP]
    rw [if_neg (by rw [h.1]; simp), insP_none x r t h.2]
section
variable {x : Pr} {out : List Pr} {k : Nat}
theorem pk_step (hk : k < out.length) : pk x out (k + 1) = (pk x out k || prLess x (gel out k)) := by
  unfold pk
  rw [gel_take hk, List.any_append]
  simp
theorem nk_put (hk : k < out.length) (h : pk x out k = true) : nk x out (k + 1) = nk x out k ++ [gel out k] := by
  unfold nk
  rw [pk_step hk, h, Bool.true_or, if_pos rfl, if_pos rfl, gel_take hk]
  exact insP_any x _ _ h
theorem nk_now (hk : k < out.length) (h : pk x out k = false) (h2 : prLess x (gel out k) = true) : nk x out (k + 1) = nk x out k ++ [x] ++ [gel out k] := by
  unfold nk
  rw [pk_step hk, h, h2, Bool.false_or, if_pos rfl, if_neg (by simp), gel_take hk, insP_none x _ _ h]
  simp [insP, h2]
theorem nk_not (hk : k < out.length) (h : pk x out k = false) (h2 : prLess x (gel out k) = false) : nk x out (k + 1) = nk x out k ++ [gel out k] := by
  unfold nk
  rw [pk_step hk, h, h2, Bool.false_or, if_neg (by simp), if_neg (by simp), gel_take hk]
theorem nk_end1 (h : pk x out out.length = true) : nk x out out.length = insP x out := by
  unfold nk
  rw [if_pos h, List.take_length]
theorem nk_end2 (h : pk x out out.length = false) : nk x out out.length ++ [x] = insP x out := by
  unfold nk
  rw [h, if_neg (by simp), List.take_length]
  unfold pk at h
  rw [List.take_length] at h
  have := insP_none x [] out h
  rw [List.append_nil] at this
  rw [this]
  rfl
theorem nk_len (hk : k ≤ out.length) : (nk x out k).length ≤ k + 1 := by
  unfold nk
  split
  · rw [insP_len, List.length_take]; omega
  · rw [List.length_take]; omega
end
def srtJ (l : List Pr) : List Pr := if l.length ≤ 1600 then srtP l else []
def sameJ (a b : List Pr) : Bool := decide (a.length = b.length) && (decide (a.length ≤ 1600) && decide (srtP a = srtP b))
end Go.Proofs.Ytneolndbhklboaa
