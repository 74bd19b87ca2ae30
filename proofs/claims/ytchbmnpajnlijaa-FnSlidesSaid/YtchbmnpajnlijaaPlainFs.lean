/- Plain: chapter 11, events folded into windows that slide. No program. -/
import Derived.Test.YtchbmnpajnlijaaPlainSes3
import Derived.Test.YtchbmnpajnlijaaPlainSlide
import Derived.Test.YtchbmnpajnlijaaPut8
import Derived.Test.YtchbmnpajnlijaaAllOk
namespace Go.Proofs.Ytchbmnpajnlijaa
open Go.RowKit Stab
theorem foldP_ok_ {l : List Ag} (hl : ∀ x, x ∈ l → SumOk x) : ∀ {l0 : List Ag}, (∀ x, x ∈ l0 → SumOk x) → ∀ x, x ∈ foldP l0 l → SumOk x := by
  induction l with
  | nil => intro l0 h x hx; exact h x hx
  | cons a l ih =>
    intro l0 h
    rw [foldP_cons]
    exact ih (fun x hx => hl x (by simp [hx])) (put_ok h (hl a (by simp)))
/-- The aggs of an event, one for each of its windows. -/
def aggW (F : Fm) (k : Int) : Ag := ⟨k, F.y, 1, F.v, F.v, F.v⟩
def aggsW (s h : Int) (F : Fm) : List Ag := (slidesL F.t s h).map (aggW F)
theorem aggW_ok {F : Fm} (h : evQ F = true) (k : Int) : SumOk (aggW F k) := by
  have := evQ_bd h
  exact ⟨⟨by show (-1000000000 : Int) ≤ 1; decide, by show (1 : Int) ≤ 1000000000; decide⟩, ⟨by show (-1000000000 : Int) ≤ F.v; omega, by show F.v ≤ 1000000000; omega⟩⟩
theorem slides_le (t s h : Int) : (slidesL t s h).length ≤ 300 := by
  cases hg : slGood t s h with
  | true =>
    rw [slides_len hg]
    unfold slGood at hg
    simp only [Bool.and_eq_true, decide_eq_true_eq] at hg
    omega
  | false => simp [slidesL, hg]
def fsIn (s h : Int) (L : List Fm) (k : Nat) : List Ag := ((L.take k).filter evQ).flatMap (aggsW s h)
section
variable {s h : Int} {L : List Fm} {k : Nat}
theorem fsIn_yes (hk : k < L.length) (he : evQ (qel L k) = true) : fsIn s h L (k + 1) = fsIn s h L k ++ aggsW s h (qel L k) := by
  unfold fsIn
  rw [qel_take hk, List.filter_append]
  simp [he]
theorem fsIn_no (hk : k < L.length) (he : evQ (qel L k) = false) : fsIn s h L (k + 1) = fsIn s h L k := by
  unfold fsIn
  rw [qel_take hk, List.filter_append]
  simp [he]
theorem fsIn_len : ∀ k, k ≤ L.length → (fsIn s h L k).length ≤ 300 * k
  | 0, _ => Nat.le_refl _
  | k + 1, hk => by
    have := fsIn_len k (by omega)
    cases he : evQ (qel L k) with
    | true =>
      rw [fsIn_yes (by omega) he, List.length_append]
      unfold aggsW
      rw [List.length_map]
      have := slides_le (qel L k).t s h
      omega
    | false => rw [fsIn_no (by omega) he]; omega
theorem fsIn_ok : ∀ k, k ≤ L.length → ∀ x, x ∈ fsIn s h L k → SumOk x := fun k _ x hx => by
  unfold fsIn aggsW at hx
  obtain ⟨F, hF, hx⟩ := List.mem_flatMap.1 hx
  obtain ⟨q, _, rfl⟩ := List.mem_map.1 hx
  exact aggW_ok (List.mem_filter.1 hF).2 q
end
/-- None of the first k events has too many windows. -/
def fewTo (s h : Int) (L : List Fm) (k : Nat) : Prop := ∀ i, i < k → evQ (qel L i) = true → ¬ 300 < slNum (qel L i).t s h
open Classical in
noncomputable def fsL (L : List Fm) (s h : Int) : List Ag := if slFine s h = true ∧ L.length ≤ 300 ∧ fewTo s h L L.length then foldP [] (fsIn s h L L.length) else []
theorem fsL_no1 {L : List Fm} {s h : Int} (a : slFine s h = false) : fsL L s h = [] := if_neg (fun b => by rw [a] at b; cases b.1)
theorem fsL_no2 {L : List Fm} {s h : Int} (a : ¬ L.length ≤ 300) : fsL L s h = [] := if_neg (fun b => a b.2.1)
theorem fsL_no3 {L : List Fm} {s h : Int} {k : Nat} (hk : k < L.length) (he : evQ (qel L k) = true) (a : 300 < slNum (qel L k).t s h) : fsL L s h = [] := if_neg (fun b => b.2.2 k hk he a)
theorem fsL_yes {L : List Fm} {s h : Int} (a : slFine s h = true) (b : L.length ≤ 300) (c : fewTo s h L L.length) : fsL L s h = foldP [] (fsIn s h L L.length) := if_pos ⟨a, b, c⟩
/-- Behind some of an event's windows. -/
theorem fs_step (A : List Ag) (F : Fm) (W : List Int) {j : Nat} (hj : j < W.length) : foldP A ((W.map (aggW F)).take (j + 1)) = putA (foldP A ((W.map (aggW F)).take j)) (aggW F (el W j)) := by
  rw [List.take_succ_eq_append_getElem (by rw [List.length_map]; exact hj), foldP_snoc]
  congr 1
  simp [el, List.getD, hj]
end Go.Proofs.Ytchbmnpajnlijaa
