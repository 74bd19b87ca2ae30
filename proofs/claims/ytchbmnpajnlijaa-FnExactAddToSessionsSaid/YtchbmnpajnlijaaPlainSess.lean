/- Plain: chapter 11, sessions: which are well, which are closed, the longest. No program. -/
import Derived.Test.YtchbmnpajnlijaaSessionS
import Derived.Test.YtchbmnpajnlijaaTick1
namespace Go.Proofs.Ytchbmnpajnlijaa
open Go.RowKit

def sesOk (S : Ss) : Bool := inB S.ky 0 65535 && inB S.tt 0 1000000 && inB S.fr 0 S.tt && inB S.ct 1 1000000000 && inB S.sm (-1000000000) 1000000000
theorem sesOk_bd {S : Ss} (h : sesOk S = true) : (0 ≤ S.ky ∧ S.ky ≤ 65535) ∧ (0 ≤ S.tt ∧ S.tt ≤ 1000000) ∧ (0 ≤ S.fr ∧ S.fr ≤ S.tt) ∧ (1 ≤ S.ct ∧ S.ct ≤ 1000000000) ∧ (-1000000000 ≤ S.sm ∧ S.sm ≤ 1000000000) := by
  unfold sesOk at h
  simp only [Bool.and_eq_true] at h
  exact ⟨inB_bd h.1.1.1.1, inB_bd h.1.1.1.2, inB_bd h.1.1.2, inB_bd h.1.2, inB_bd h.2⟩
/-- Its end and the gap together are at most the mark (as 64 bits reckon). -/
def clsB (mark gap : Int) (S : Ss) : Bool := decide (wrap64 (S.tt + gap) ≤ mark)
def clsTo (l : List Ss) (mark gap : Int) (k : Nat) : List Ss := (l.take k).filter (clsB mark gap)
theorem clsTo_zero {l : List Ss} {mark gap : Int} : clsTo l mark gap 0 = [] := rfl
theorem clsTo_in {l : List Ss} {mark gap : Int} {k : Nat} (hk : k < l.length) (h : clsB mark gap (zel l k) = true) : clsTo l mark gap (k + 1) = clsTo l mark gap k ++ [zel l k] := by
  unfold clsTo
  rw [zel_take hk, List.filter_append]
  simp [h]
theorem clsTo_out {l : List Ss} {mark gap : Int} {k : Nat} (hk : k < l.length) (h : clsB mark gap (zel l k) = false) : clsTo l mark gap (k + 1) = clsTo l mark gap k := by
  unfold clsTo
  rw [zel_take hk, List.filter_append]
  simp [h]
theorem clsTo_le {l : List Ss} {mark gap : Int} {k : Nat} (hk : k ≤ l.length) : (clsTo l mark gap k).length ≤ k := by
  unfold clsTo
  refine Nat.le_trans (List.length_filter_le _ _) ?_
  rw [List.length_take]; omega
def closedZ (l : List Ss) (mark gap : Int) : List Ss := if decide (l.length ≤ 200) && inB gap 0 1000000 then l.filter (clsB mark gap) else []
theorem closedZ_no1 {l : List Ss} {mark gap : Int} (h : ¬ l.length ≤ 200) : closedZ l mark gap = [] := by simp [closedZ, h]
theorem closedZ_no2 {l : List Ss} {mark gap : Int} (h : inB gap 0 1000000 = false) : closedZ l mark gap = [] := by simp [closedZ, h]
theorem closedZ_yes {l : List Ss} {mark gap : Int} (h : l.length ≤ 200) (h2 : inB gap 0 1000000 = true) : closedZ l mark gap = clsTo l mark gap l.length := by simp [closedZ, h, h2, clsTo]
/-- The place of the longest among the first k, the first of several; -1 where there are none. -/
def lgTo (l : List Ss) : Nat → Int
  | 0 => -1
  | k + 1 => if lgTo l k < 0 ∨ (zel l (lgTo l k).toNat).tt - (zel l (lgTo l k).toNat).fr < (zel l k).tt - (zel l k).fr then (k : Int) else lgTo l k
theorem lgTo_bd (l : List Ss) : ∀ k, -1 ≤ lgTo l k ∧ lgTo l k < k
  | 0 => ⟨Int.le_refl _, by show (-1 : Int) < ((0 : Nat) : Int); omega⟩
  | k + 1 => by
    have := lgTo_bd l k
    unfold lgTo
    split
    · omega
    · omega
def oksZ (l : List Ss) (k : Nat) : Prop := ∀ i, i < k → sesOk (zel l i) = true
def longZ (l : List Ss) : Int := if decide (l.length ≤ 200) && l.all sesOk then lgTo l l.length else -1
theorem all_zel {l : List Ss} : l.all sesOk = true ↔ oksZ l l.length := by
  rw [List.all_eq_true]
  constructor
  · intro h i hi
    exact h _ (by rw [show zel l i = l[i] from rel_lt zD hi]; exact List.getElem_mem hi)
  · intro h x hx
    obtain ⟨i, hi, rfl⟩ := List.getElem_of_mem hx
    have := h i hi
    rwa [show zel l i = l[i] from rel_lt zD hi] at this
theorem longZ_no1 {l : List Ss} (h : ¬ l.length ≤ 200) : longZ l = -1 := by simp [longZ, h]
theorem longZ_no2 {l : List Ss} {k : Nat} (hk : k < l.length) (h : sesOk (zel l k) = false) : longZ l = -1 := by
  have : l.all sesOk = false := by
    rw [Bool.eq_false_iff]
    intro e
    rw [all_zel.1 e k hk] at h
    cases h
  simp [longZ, this]
theorem longZ_yes {l : List Ss} (h : l.length ≤ 200) (h2 : oksZ l l.length) : longZ l = lgTo l l.length := by simp only [longZ, h, all_zel.2 h2, decide_true, Bool.and_self, if_true]
end Go.Proofs.Ytchbmnpajnlijaa
