/- Plain: a heap of aggs as an array: what a swap, a way down and a pop leave. No program. -/
import Derived.Test.YtnfhlfbkdhpacaaPlainPlace
namespace Go.Proofs.Ytnfhlfbkdhpacaa

theorem ael_get {q : List Ag} {i : Nat} (h : i < q.length) : ael q i = q[i] := rel_lt aD h
theorem ael_set_eq {q : List Ag} {i : Nat} (h : i < q.length) (x : Ag) : ael (q.set i x) i = x := by
  rw [ael_get (by simpa using h)]; simp
theorem ael_set_ne {q : List Ag} {i k : Nat} (h : i ≠ k) (x : Ag) : ael (q.set i x) k = ael q k := by
  unfold ael rel
  rw [List.getD_eq_getElem?_getD, List.getD_eq_getElem?_getD, List.getElem?_set_ne h]
/-- The list with two places turned. -/
def swapN (q : List Ag) (i j : Nat) : List Ag := (q.set i (ael q j)).set j (ael q i)
theorem swapN_len (q : List Ag) (i j : Nat) : (swapN q i j).length = q.length := by simp [swapN]
theorem swapN_perm {q : List Ag} {i j : Nat} (hi : i < q.length) (hj : j < q.length) : (swapN q i j).Perm q := by
  unfold swapN
  rw [ael_get hi, ael_get hj]
  exact List.set_set_perm hi hj
theorem swapN_at_j {q : List Ag} {i j : Nat} (hj : j < q.length) : ael (swapN q i j) j = ael q i := ael_set_eq (by simpa using hj) _
theorem swapN_at_i {q : List Ag} {i j : Nat} (hi : i < q.length) (hj : j < q.length) : ael (swapN q i j) i = ael q j := by
  by_cases h : j = i
  · subst h; exact swapN_at_j hj
  · unfold swapN; rw [ael_set_ne h, ael_set_eq hi]
theorem swapN_at {q : List Ag} {i j k : Nat} (h1 : i ≠ k) (h2 : j ≠ k) : ael (swapN q i j) k = ael q k := by
  unfold swapN; rw [ael_set_ne h2, ael_set_ne h1]
theorem ahead_asymm {S T : Ag} (h : aheadA S T = true) : aheadA T S = false := by
  unfold aheadA at *
  simp only [decide_eq_true_eq, decide_eq_false_iff_not] at *
  omega
theorem ahead_not_trans {R S T : Ag} (h : aheadA R S = false) (k : aheadA S T = false) : aheadA R T = false := by
  unfold aheadA at *
  simp only [decide_eq_false_iff_not] at *
  omega
theorem ahead_irrefl (S : Ag) : aheadA S S = false := by
  unfold aheadA
  simp only [decide_eq_false_iff_not]
  omega
/-- None of the first n is ahead of its parent. -/
def HeapN (q : List Ag) (n : Nat) : Prop := ∀ k, 0 < k → k < n → aheadA (ael q k) (ael q ((k - 1) / 2)) = false
/-- The same, but for the children of i. -/
def HeapX (q : List Ag) (n i : Nat) : Prop := ∀ k, 0 < k → k < n → (k - 1) / 2 ≠ i → aheadA (ael q k) (ael q ((k - 1) / 2)) = false
/-- The children of i are none ahead of its parent. -/
def HeapG (q : List Ag) (n i : Nat) : Prop := ∀ k, 0 < i → 0 < k → k < n → (k - 1) / 2 = i → aheadA (ael q k) (ael q ((i - 1) / 2)) = false
structure HeapD (q0 q : List Ag) (n i : Nat) : Prop where
  perm : q.Perm q0
  x : HeapX q n i
  g : HeapG q n i
  last : ∀ k, n ≤ k → ael q k = ael q0 k
theorem HeapD.len {q0 q : List Ag} {n i : Nat} (h : HeapD q0 q n i) : q.length = q0.length := h.perm.length_eq
theorem HeapD.step {q0 q : List Ag} {n i j : Nat} (h : HeapD q0 q n i) (hn : n ≤ q.length) (hj0 : 0 < j) (hj : j < n) (hc : (j - 1) / 2 = i) (hl : ∀ k, 0 < k → k < n → (k - 1) / 2 = i → aheadA (ael q k) (ael q j) = false) (hs : aheadA (ael q j) (ael q i) = true) : HeapD q0 (swapN q i j) n j := by
  have hi : i < q.length := by omega
  have hjl : j < q.length := by omega
  have hij : i ≠ j := by omega
  refine ⟨(swapN_perm hi hjl).trans h.perm, fun k hk hkn hp => ?_, fun k _ hk hkn hp => ?_, fun k hk => ?_⟩
  · by_cases h1 : k = j
    · subst h1
      rw [hc, swapN_at_j hjl, swapN_at_i hi hjl]
      exact ahead_asymm hs
    · by_cases h2 : (k - 1) / 2 = i
      · rw [h2, swapN_at_i hi hjl, swapN_at (by omega) (by omega)]
        exact hl k hk hkn h2
      · by_cases h3 : k = i
        · subst h3
          rw [swapN_at_i hi hjl, swapN_at (k := (k - 1) / 2) (by omega) (by omega)]
          exact h.g j hk hj0 hj hc
        · rw [swapN_at (k := k) (by omega) (by omega), swapN_at (k := (k - 1) / 2) (by omega) (by omega)]
          exact h.x k hk hkn h2
  · rw [hc, swapN_at_i hi hjl, swapN_at (by omega) (by omega), ← hp]
    exact h.x k hk hkn (by omega)
  · rw [swapN_at (by omega) (by omega)]
    exact h.last k hk
/-- No child is there. -/
theorem HeapD.leaf {q0 q : List Ag} {n i : Nat} (h : HeapD q0 q n i) (hn : n ≤ 2 * i + 1) : HeapN q n := fun k hk hkn => h.x k hk hkn (by omega)
/-- The least child is not ahead. -/
theorem HeapD.rest {q0 q : List Ag} {n i j : Nat} (h : HeapD q0 q n i) (hl : ∀ k, 0 < k → k < n → (k - 1) / 2 = i → aheadA (ael q k) (ael q j) = false) (hs : aheadA (ael q j) (ael q i) = false) : HeapN q n := fun k hk hkn => by
  by_cases h2 : (k - 1) / 2 = i
  · rw [h2]
    exact ahead_not_trans (hl k hk hkn h2) hs
  · exact h.x k hk hkn h2
/-- The first and the last are turned. -/
theorem HeapN.begin {q : List Ag} {n : Nat} (h : HeapN q (n + 1)) : HeapD (swapN q 0 n) (swapN q 0 n) n 0 :=
  ⟨List.Perm.refl _, fun k hk hkn hp => by
    rw [swapN_at (k := k) (by omega) (by omega), swapN_at (k := (k - 1) / 2) (by omega) (by omega)]
    exact h k hk (by omega), fun k h0 => absurd h0 (by omega), fun _ _ => rfl⟩
theorem HeapN.least {q : List Ag} {n : Nat} (h : HeapN q n) : ∀ k, k < n → aheadA (ael q k) (ael q 0) = false := by
  intro k
  induction k using Nat.strongRecOn with
  | ind k ih =>
    intro hk
    rcases Nat.eq_zero_or_pos k with h0 | h0
    · subst h0; exact ahead_irrefl _
    · exact ahead_not_trans (h k h0 hk) (ih _ (by omega) (by omega))
/-- Each is ahead of all that follow. -/
def Rising (l : List Ag) : Prop := l.Pairwise fun S T => aheadA S T = true
theorem okUp_rising {l : List Ag} (h : okUp l l.length) : Rising l := by
  refine List.pairwise_iff_getElem.2 fun i j hi hj hij => ?_
  have := okUp_ahead h (j - i - 1) i (by omega)
  rw [show i + (j - i - 1) + 1 = j by omega, ael_get hi, ael_get hj] at this
  exact this
theorem Rising.at {l : List Ag} (h : Rising l) {i j : Nat} (hij : i < j) (hj : j < l.length) : aheadA (ael l i) (ael l j) = true := by
  rw [ael_get (by omega), ael_get hj]
  exact List.pairwise_iff_getElem.1 h i j (by omega) hj hij
theorem Rising.heap {l : List Ag} (h : Rising l) : HeapN l l.length := fun k hk hkn => ahead_asymm (h.at (by omega) hkn)
theorem Rising.filter {l : List Ag} (h : Rising l) (p : Ag → Bool) : Rising (l.filter p) := List.Pairwise.filter p h
theorem Rising.drop {l : List Ag} (h : Rising l) (k : Nat) : Rising (l.drop k) := List.Pairwise.drop h
theorem pop_least {q r : List Ag} {x : Ag} (hr : Rising (x :: r)) (hp : q.Perm (x :: r)) (hh : HeapN q q.length) : ael q 0 = x := by
  have hl : 0 < q.length := by rw [hp.length_eq]; simp
  have h0 : ael q 0 ∈ x :: r := hp.mem_iff.1 (by rw [ael_get hl]; exact List.getElem_mem hl)
  rcases List.mem_cons.1 h0 with h1 | h1
  · exact h1
  · exfalso
    have hx : x ∈ q := hp.mem_iff.2 (by simp)
    obtain ⟨k, hk, hkx⟩ := List.mem_iff_getElem.1 hx
    have a := hh.least k hk
    rw [ael_get hk, hkx] at a
    have b := (List.pairwise_cons.1 hr).1 _ h1
    rw [a] at b
    cases b
/-- What is left behind a pop. -/
theorem pop_rest {q q2 r : List Ag} {x : Ag} {n : Nat} (hp : q.Perm (x :: r)) (hq : q.length = n + 1) (h0 : ael q 0 = x) (h2 : q2.Perm (swapN q 0 n)) (hlast : ael q2 n = ael (swapN q 0 n) n) (hh : HeapN q2 n) : (q2.take n).Perm r ∧ HeapN (q2.take n) (q2.take n).length ∧ ael q2 n = x ∧ q2.length = n + 1 := by
  have hl : q2.length = n + 1 := by rw [h2.length_eq, swapN_len, hq]
  have hx : ael q2 n = x := by rw [hlast, swapN_at_j (by omega), h0]
  have e : q2 = q2.take n ++ [x] := by
    rw [← hx, ael_get (show n < q2.length by omega), ← List.take_succ_eq_append_getElem (show n < q2.length by omega), List.take_of_length_le (by omega)]
  have h3 : (q2.take n ++ [x]).Perm (x :: r) := by
    rw [← e]
    exact (h2.trans (swapN_perm (by omega) (by omega))).trans hp
  refine ⟨List.Perm.cons_inv ((List.perm_append_singleton x (q2.take n)).symm.trans h3), fun k hk hkn => ?_, hx, hl⟩
  have hkn' : k < n := by simp at hkn; omega
  have e2 : ∀ i, i < n → ael (q2.take n) i = ael q2 i := fun i hi => by
    rw [ael_get (by simp; omega), ael_get (by omega), List.getElem_take]
  rw [e2 k hkn', e2 _ (by omega)]
  exact hh k hk hkn'
end Go.Proofs.Ytnfhlfbkdhpacaa
