/- Plain: which aggs of an ascending list are like one. No program. -/
import Derived.Test.YtnnpppdgkbmieaaAddSpec2
namespace Go.Proofs.Ytnnpppdgkbmieaa
theorem placeN_pre : ∀ {l : List Ag} {S : Ag} {t : Nat}, t < placeN l S → cmpA (ael l t) S < 0
  | [], S, t, h => by simp [placeN] at h
  | T :: l, S, t, h => by
    by_cases hc : cmpA T S < 0
    · rw [placeN_cons_lt hc] at h
      cases t with
      | zero => exact hc
      | succ t =>
        have e : ael (T :: l) (t + 1) = ael l t := by simp [ael, rel]
        rw [e]
        exact placeN_pre (by omega)
    · rw [placeN_cons_ge hc] at h
      omega
theorem unlike_lt {l : List Ag} {S : Ag} {t : Nat} (h : t < placeN l S) : sameA (ael l t) S = false := by
  have h1 := placeN_pre h
  cases hs : sameA (ael l t) S with
  | false => rfl
  | true => have := cmpA_zero.2 hs; omega
theorem like_at {l : List Ag} {S : Ag} (h : foundB l S = true) : sameA (ael l (placeN l S)) S = true := cmpA_zero.1 (foundB_lt h).2
theorem unlike_all {l : List Ag} {S : Ag} (ho : okUp l l.length) (h : foundB l S = false) {t : Nat} (ht : t < l.length) : sameA (ael l t) S = false := by
  cases hs : sameA (ael l t) S with
  | false => rfl
  | true =>
    have h0 := cmpA_zero.2 hs
    have hp : placeN l S = t := placeN_eq (by omega) (fun j hj => by
      have h1 := okUp_ahead ho (t - j - 1) j (by omega)
      have e : j + (t - j - 1) + 1 = t := by omega
      rw [e] at h1
      refine cmpA_neg.2 ?_
      unfold sameA at hs
      unfold aheadA at h1 ⊢
      simp only [decide_eq_true_eq] at hs h1 ⊢
      omega) (fun _ => by omega)
    have : foundB l S = true := by
      unfold foundB
      rw [hp]
      simp [ht, h0]
    rw [this] at h
    cases h
theorem unlike_iff {S T : Ag} (h : sameA S T = false) : ¬ (S.win = T.win ∧ S.key = T.key) := by
  unfold sameA at h
  simpa using h
theorem like_iff {S T : Ag} (h : sameA S T = true) : S.win = T.win ∧ S.key = T.key := by
  unfold sameA at h
  simpa using h
end Go.Proofs.Ytnnpppdgkbmieaa
