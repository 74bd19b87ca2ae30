/- Plain: when a shard is one, on its list of aggs. -/
import Derived.Test.YtnfhlfbkdhpacaaGreatDoorWin5
import Derived.Test.YtnfhlfbkdhpacaaGreatDoorShardS
namespace Go.Proofs.YtnfhlfbkdhpacaaGreatDoor
open Go.RowKit

/-- The first k aggs are sound and ascend. -/
def okUp (l : List Ag) (k : Nat) : Prop := ∀ i, i < k → aggOk (ael l i) = true ∧ (0 < i → aheadA (ael l (i - 1)) (ael l i) = true)
open Classical in
/-- ShardOk. -/
noncomputable def sokB (l : List Ag) (mk lt ov : Int) : Bool := decide (l.length ≤ 40 ∧ inB mk (-1) 1000000 = true ∧ inB lt 0 1000000000 = true ∧ inB ov 0 1000000000 = true ∧ okUp l l.length)
section
variable {l : List Ag} {mk lt ov : Int} {k : Nat}
theorem okUp_zero : okUp l 0 := fun i hi => absurd hi (by omega)
theorem okUp_step (h : okUp l k) (h1 : aggOk (ael l k) = true) (h2 : 0 < k → aheadA (ael l (k - 1)) (ael l k) = true) : okUp l (k + 1) := fun i hi => by
  by_cases he : i = k
  · subst he; exact ⟨h1, h2⟩
  · exact h i (by omega)
theorem sok_len (h : ¬ l.length ≤ 40) : sokB l mk lt ov = false := by unfold sokB; simp; intro h'; exact absurd h' h
theorem sok_mk (h : inB mk (-1) 1000000 = false) : sokB l mk lt ov = false := by unfold sokB; simp [h]
theorem sok_lt (h : inB lt 0 1000000000 = false) : sokB l mk lt ov = false := by unfold sokB; simp [h]
theorem sok_ov (h : inB ov 0 1000000000 = false) : sokB l mk lt ov = false := by unfold sokB; simp [h]
theorem sok_at (hk : k < l.length) (h : aggOk (ael l k) = false) : sokB l mk lt ov = false := by
  unfold sokB
  rw [decide_eq_false_iff_not]
  rintro ⟨_, _, _, _, ho⟩
  rw [(ho k hk).1] at h
  cases h
theorem sok_at2 (hk : k < l.length) (h0 : 0 < k) (h : aheadA (ael l (k - 1)) (ael l k) = false) : sokB l mk lt ov = false := by
  unfold sokB
  rw [decide_eq_false_iff_not]
  rintro ⟨_, _, _, _, ho⟩
  rw [(ho k hk).2 h0] at h
  cases h
theorem sok_yes (h : l.length ≤ 40) (h1 : inB mk (-1) 1000000 = true) (h2 : inB lt 0 1000000000 = true) (h3 : inB ov 0 1000000000 = true) (h4 : okUp l l.length) : sokB l mk lt ov = true := by
  unfold sokB
  simp only [decide_eq_true_eq]
  exact ⟨h, h1, h2, h3, h4⟩
theorem sok_bd (h : sokB l mk lt ov = true) : l.length ≤ 40 ∧ inB mk (-1) 1000000 = true ∧ inB lt 0 1000000000 = true ∧ inB ov 0 1000000000 = true ∧ okUp l l.length := by
  unfold sokB at h
  simpa only [decide_eq_true_eq] using h
end
end Go.Proofs.YtnfhlfbkdhpacaaGreatDoor
