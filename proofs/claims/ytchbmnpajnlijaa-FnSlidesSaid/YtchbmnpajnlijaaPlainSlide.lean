/- Plain: chapter 11, windows that slide: which windows have a time, their ends, how many cover a time. No program. -/
import Derived.Test.YtchbmnpajnlijaaTick1
import Derived.Test.YtchbmnpajnlijaaPlain
import Derived.IntWalk
namespace Go.Proofs.Ytchbmnpajnlijaa
open Go.RowKit

def slFine (s h : Int) : Bool := inB s 1 1000000 && inB h 1 1000000
theorem slFine_bd {s h : Int} (k : slFine s h = true) : (1 ≤ s ∧ s ≤ 1000000) ∧ 1 ≤ h ∧ h ≤ 1000000 := by
  unfold slFine at k
  rw [Bool.and_eq_true] at k
  exact ⟨inB_bd k.1, inB_bd k.2⟩
/-- The first window that may have the time. -/
def slFirst (t s h : Int) : Int := if t < s then 0 else (t - s) / h + 1
theorem slFirst_lo {t s h : Int} (k : t < s) : slFirst t s h = 0 := if_pos k
theorem slFirst_hi {t s h : Int} (k : ¬ t < s) : slFirst t s h = (t - s) / h + 1 := if_neg k
def slNum (t s h : Int) : Int := t / h - slFirst t s h + 1
theorem sl_bds {t s h : Int} (kt : 0 ≤ t ∧ t ≤ 1000000) (k : slFine s h = true) : 0 ≤ t / h ∧ t / h ≤ 1000000 ∧ 0 ≤ slFirst t s h ∧ slFirst t s h ≤ t / h + 1 := by
  obtain ⟨⟨a1, a2⟩, b1, b2⟩ := slFine_bd k
  have q1 : 0 ≤ t / h := Int.ediv_nonneg kt.1 (by omega)
  have q2 : t / h ≤ t := Int.ediv_le_self _ kt.1
  refine ⟨q1, by omega, ?_⟩
  unfold slFirst
  split
  · omega
  · rename_i hh
    have q3 : 0 ≤ (t - s) / h := Int.ediv_nonneg (by omega) (by omega)
    have q4 : (t - s) / h ≤ t / h := Int.ediv_le_ediv (by omega) (by omega)
    omega
theorem slNum_bd {t s h : Int} (kt : 0 ≤ t ∧ t ≤ 1000000) (k : slFine s h = true) : 0 ≤ slNum t s h ∧ slNum t s h ≤ 1000001 := by
  have := sl_bds kt k
  unfold slNum
  omega
def slGood (t s h : Int) : Bool := inB t 0 1000000 && slFine s h && decide (slNum t s h ≤ 300)
/-- The windows that have the time. -/
def slidesL (t s h : Int) : List Int := if slGood t s h then (List.range (slNum t s h).toNat).map (fun (j : Nat) => slFirst t s h + (j : Int)) else []
theorem slides_no1 {t s h : Int} (k : inB t 0 1000000 = false) : slidesL t s h = [] := by simp [slidesL, slGood, k]
theorem slides_no2 {t s h : Int} (k : slFine s h = false) : slidesL t s h = [] := by simp [slidesL, slGood, k]
theorem slides_no3 {t s h : Int} (k : 300 < slNum t s h) : slidesL t s h = [] := by
  have : decide (slNum t s h ≤ 300) = false := by simp; omega
  simp [slidesL, slGood, this]
theorem slGood_yes {t s h : Int} (k : inB t 0 1000000 = true) (k2 : slFine s h = true) (k3 : ¬ 300 < slNum t s h) : slGood t s h = true := by
  have : decide (slNum t s h ≤ 300) = true := by simp; omega
  simp [slGood, k, k2, this]
theorem slides_yes {t s h : Int} (k : slGood t s h = true) : slidesL t s h = (List.range (slNum t s h).toNat).map (fun (j : Nat) => slFirst t s h + (j : Int)) := if_pos k
theorem slides_len {t s h : Int} (k : slGood t s h = true) : (slidesL t s h).length = (slNum t s h).toNat := by rw [slides_yes k]; simp
theorem slides_step {t s h : Int} (k : slGood t s h = true) {j : Nat} (hj : j < (slNum t s h).toNat) : (slidesL t s h).take (j + 1) = (slidesL t s h).take j ++ [slFirst t s h + (j : Int)] := by
  rw [List.take_succ_eq_append_getElem (by rw [slides_len k]; exact hj)]
  congr 1
  simp [slides_yes k]
def slideEnd (k s h : Int) : Int := if inB k 0 1000000 && slFine s h then k * h + s - 1 else -1
theorem slideEnd_no1 {k s h : Int} (a : inB k 0 1000000 = false) : slideEnd k s h = -1 := by simp [slideEnd, a]
theorem slideEnd_no2 {k s h : Int} (a : slFine s h = false) : slideEnd k s h = -1 := by simp [slideEnd, a]
theorem slideEnd_yes {k s h : Int} (a : inB k 0 1000000 = true) (b : slFine s h = true) : slideEnd k s h = k * h + s - 1 := by simp [slideEnd, a, b]
theorem slide_prod {k s h : Int} (a : inB k 0 1000000 = true) (b : slFine s h = true) : 0 ≤ k * h ∧ k * h ≤ 1000000000000 := by
  have a := inB_bd a
  obtain ⟨_, b1, b2⟩ := slFine_bd b
  refine ⟨Int.mul_nonneg (by omega) (by omega), ?_⟩
  have : k * h ≤ 1000000 * 1000000 := Int.mul_le_mul (by omega) (by omega) (by omega) (by omega)
  omega
def coverN (s h : Int) : Int := if slFine s h then (s + h - 1) / h else -1
theorem coverN_no {s h : Int} (a : slFine s h = false) : coverN s h = -1 := by simp [coverN, a]
theorem coverN_yes {s h : Int} (a : slFine s h = true) : coverN s h = (s + h - 1) / h := by simp [coverN, a]
end Go.Proofs.Ytchbmnpajnlijaa
