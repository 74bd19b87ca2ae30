/- Plain: where an agg stands in an ascending list, or else where it would. No program. -/
import Derived.Test.YtnfhlfbkdhpacaaPlainShard
namespace Go.Proofs.Ytnfhlfbkdhpacaa

theorem aheadA_trans {R S T : Ag} (h : aheadA R S = true) (k : aheadA S T = true) : aheadA R T = true := by
  unfold aheadA at *
  simp only [decide_eq_true_eq] at *
  omega
theorem cmpA_less {R S T : Ag} (h : aheadA R S = true) (k : cmpA S T < 0) : cmpA R T < 0 := cmpA_neg.2 (aheadA_trans h (cmpA_neg.1 k))
theorem okUp_ahead {l : List Ag} (h : okUp l l.length) : ∀ (d a : Nat), a + d + 1 < l.length → aheadA (ael l a) (ael l (a + d + 1)) = true
  | 0, a, hb => by
    have := (h (a + 0 + 1) (by omega)).2 (by omega)
    simpa using this
  | d + 1, a, hb => aheadA_trans (okUp_ahead h d a (by omega)) (by
    have := (h (a + (d + 1) + 1) (by omega)).2 (by omega)
    have e : a + (d + 1) + 1 - 1 = a + d + 1 := by omega
    rwa [e] at this)
theorem okUp_mono {l : List Ag} (h : okUp l l.length) {S : Ag} {a b : Nat} (hab : a ≤ b) (hb : b < l.length) (k : cmpA (ael l b) S < 0) : cmpA (ael l a) S < 0 := by
  rcases Nat.lt_or_ge a b with h1 | h1
  · have := okUp_ahead h (b - a - 1) a (by omega)
    have e : a + (b - a - 1) + 1 = b := by omega
    rw [e] at this
    exact cmpA_less this k
  · obtain rfl : a = b := by omega
    exact k
/-- How many aggs stand ahead. -/
def placeN (l : List Ag) (S : Ag) : Nat := (l.takeWhile fun T => decide (cmpA T S < 0)).length
theorem placeN_cons_lt {T : Ag} {l : List Ag} {S : Ag} (h : cmpA T S < 0) : placeN (T :: l) S = placeN l S + 1 := by simp [placeN, h]
theorem placeN_cons_ge {T : Ag} {l : List Ag} {S : Ag} (h : ¬ cmpA T S < 0) : placeN (T :: l) S = 0 := by simp [placeN, h]
theorem placeN_eq : ∀ {l : List Ag} {S : Ag} {n : Nat}, n ≤ l.length → (∀ t, t < n → cmpA (ael l t) S < 0) → (n < l.length → 0 ≤ cmpA (ael l n) S) → placeN l S = n
  | [], S, n, hn, _, _ => by simp at hn; simp [hn, placeN]
  | T :: l, S, 0, _, _, h2 => placeN_cons_ge (by have := h2 (by simp); have e : ael (T :: l) 0 = T := rfl; rw [e] at this; omega)
  | T :: l, S, n + 1, hn, h1, h2 => by
    have e : ∀ i, ael (T :: l) (i + 1) = ael l i := fun i => by simp [ael, rel]
    rw [placeN_cons_lt (show cmpA T S < 0 from h1 0 (by omega)), placeN_eq (by simpa using hn) (fun t ht => by rw [← e]; exact h1 (t + 1) (by omega)) (fun hl => by rw [← e]; exact h2 (by simpa using hl))]
def foundB (l : List Ag) (S : Ag) : Bool := decide (placeN l S < l.length) && decide (cmpA (ael l (placeN l S)) S = 0)
end Go.Proofs.Ytnfhlfbkdhpacaa
