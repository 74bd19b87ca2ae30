/- Plain: a list as an agg is put into it, agg by agg. No program. -/
import Derived.Test.YtnnpppdgkbmieaaPlainAdd2
import Derived.Test.YtnnpppdgkbmieaaPlainHeap
namespace Go.Proofs.Ytnnpppdgkbmieaa

theorem placeN_post : ∀ {l : List Ag} {S : Ag}, placeN l S < l.length → ¬ cmpA (ael l (placeN l S)) S < 0
  | [], S, h => by simp [placeN] at h
  | T :: l, S, h => by
    by_cases hc : cmpA T S < 0
    · rw [placeN_cons_lt hc] at h ⊢
      have e : ael (T :: l) (placeN l S + 1) = ael l (placeN l S) := by simp [ael, rel]
      rw [e]
      exact placeN_post (by simpa using h)
    · rw [placeN_cons_ge hc]
      exact hc
theorem ahead_before {l : List Ag} {S : Ag} {t : Nat} (h : t < placeN l S) : aheadA S (ael l t) = false := ahead_asymm (cmpA_neg.1 (placeN_pre h))
theorem ahead_there {l : List Ag} {S : Ag} (h : placeN l S < l.length) (hF : foundB l S = false) : aheadA S (ael l (placeN l S)) = true := by
  have h1 := placeN_post h
  have h2 : ¬ cmpA (ael l (placeN l S)) S = 0 := fun e => by
    unfold foundB at hF
    simp [h, e] at hF
  have h3 : aheadA (ael l (placeN l S)) S = false := by
    cases hs : aheadA (ael l (placeN l S)) S with
    | false => rfl
    | true => exact absurd (cmpA_neg.2 hs) h1
  have h4 : sameA (ael l (placeN l S)) S = false := by
    cases hs : sameA (ael l (placeN l S)) S with
    | false => rfl
    | true => exact absurd (cmpA_zero.2 hs) h2
  unfold aheadA at h3 ⊢
  unfold sameA at h4
  simp only [decide_eq_true_eq, decide_eq_false_iff_not] at h3 h4 ⊢
  omega
/-- The list behind k aggs. -/
def partIn (l : List Ag) (N : Nat) (S : Ag) (k : Nat) : List Ag := if k ≤ N then l.take k else l.take N ++ S :: (l.drop N).take (k - N)
section
variable {l : List Ag} {N k : Nat} {S : Ag}
theorem partIn_zero : partIn l N S 0 = [] := by simp [partIn]
theorem partIn_lt (h : k < N) (hk : k < l.length) : partIn l N S (k + 1) = partIn l N S k ++ [ael l k] := by
  unfold partIn
  rw [if_pos (by omega), if_pos (by omega)]
  exact ael_take hk
theorem partIn_gt (h : N < k) (hk : k < l.length) : partIn l N S (k + 1) = partIn l N S k ++ [ael l k] := by
  unfold partIn
  rw [if_neg (by omega), if_neg (by omega), show k + 1 - N = (k - N) + 1 by omega]
  have h1 : k - N < (l.drop N).length := by simp; omega
  rw [ael_take h1]
  have e : ael (l.drop N) (k - N) = ael l k := by
    simp only [ael, rel, List.getD_eq_getElem?_getD, List.getElem?_drop]
    rw [show N + (k - N) = k by omega]
  rw [e]
  simp
theorem partIn_eq (hk : N < l.length) : partIn l N S (N + 1) = (partIn l N S N ++ [S]) ++ [ael l N] := by
  unfold partIn
  rw [if_neg (by omega), if_pos (Nat.le_refl _), show N + 1 - N = 0 + 1 by omega]
  have h1 : 0 < (l.drop N).length := by simp; omega
  rw [ael_take h1]
  have e : ael (l.drop N) 0 = ael l N := by
    simp only [ael, rel, List.getD_eq_getElem?_getD, List.getElem?_drop]
    simp
  rw [e]
  simp
theorem partIn_end (h : N < l.length) : partIn l N S l.length = putIn l N S := by
  unfold partIn putIn
  have e : (l.drop N).take (l.length - N) = l.drop N := List.take_of_length_le (by simp)
  rw [if_neg (by omega), e]
theorem partIn_last : partIn l l.length S l.length ++ [S] = putIn l l.length S := by
  unfold partIn putIn
  simp
theorem partIn_len_le (hk : k ≤ l.length) : (partIn l N S k).length ≤ l.length + 1 := by
  unfold partIn
  split
  · simp; omega
  · simp; omega
end
end Go.Proofs.Ytnnpppdgkbmieaa
