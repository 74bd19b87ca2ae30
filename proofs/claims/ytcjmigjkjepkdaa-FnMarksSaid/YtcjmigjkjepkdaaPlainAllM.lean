/- Plain: the mark of all sources (chapter 4). No program. -/
import Derived.Test.YtcjmigjkjepkdaaPlainSrc
import Derived.Test.YtcjmigjkjepkdaaPlain
namespace Go.Proofs.Ytcjmigjkjepkdaa

def srD : Src := ⟨0, 0, 0, false, false⟩
def sl (l : List Src) (i : Nat) : Src := l.getD i srD
def actB (S : Src) : Bool := S.o && !S.i
/-- The least mark of the first k that are active. -/
def lsM (l : List Src) : Nat → Int
  | 0 => 1000001
  | k + 1 => if actB (sl l k) = true ∧ (sl l k).m < lsM l k then (sl l k).m else lsM l k
theorem lsM_take {l : List Src} {k : Nat} (h : actB (sl l k) = true) (h2 : (sl l k).m < lsM l k) : lsM l (k + 1) = (sl l k).m := by rw [lsM, if_pos ⟨h, h2⟩]
theorem lsM_idle {l : List Src} {k : Nat} (h : actB (sl l k) = false) : lsM l (k + 1) = lsM l k := by rw [lsM, if_neg (by simp [h])]
theorem lsM_more {l : List Src} {k : Nat} (h2 : ¬ (sl l k).m < lsM l k) : lsM l (k + 1) = lsM l k := by rw [lsM, if_neg (fun h => h2 h.2)]
/-- The first k are sources. -/
def okTo (l : List Src) (k : Nat) : Prop := ∀ i, i < k → sOk (sl l i) = true
theorem okTo_step {l : List Src} {k : Nat} (h : okTo l k) (h2 : sOk (sl l k) = true) : okTo l (k + 1) := fun i hi => by
  rcases Nat.lt_or_ge i k with h1 | h1
  · exact h i h1
  · obtain rfl : i = k := by omega
    exact h2
theorem lsM_bd {l : List Src} {k : Nat} (h : okTo l k) : -1 ≤ lsM l k ∧ lsM l k ≤ 1000001 := by
  induction k with
  | zero => simp [lsM]
  | succ k ih =>
    have h1 := ih (fun i hi => h i (by omega))
    have h2 := sOk_bd (h k (by omega))
    rw [lsM]
    split
    · omega
    · exact h1
open Classical in
/-- The mark of all. -/
noncomputable def allM (l : List Src) (last : Int) : Int :=
  if isMk last = true ∧ l.length ≤ 300 ∧ okTo l l.length then (if 1000000 < lsM l l.length ∨ lsM l l.length < last then last else lsM l l.length) else -2
theorem allM_no1 {l : List Src} {last : Int} (h : isMk last = false) : allM l last = -2 := by unfold allM; rw [if_neg (by simp [h])]
theorem allM_no2 {l : List Src} {last : Int} (h : ¬ l.length ≤ 300) : allM l last = -2 := by unfold allM; rw [if_neg (fun k => h k.2.1)]
theorem allM_no3 {l : List Src} {last : Int} {k : Nat} (hk : k < l.length) (h : sOk (sl l k) = false) : allM l last = -2 := by
  unfold allM; rw [if_neg]; rintro ⟨_, _, h2⟩
  have := h2 k hk
  rw [h] at this; cases this
theorem allM_last {l : List Src} {last : Int} (h : isMk last = true) (h2 : l.length ≤ 300) (h3 : okTo l l.length) (h4 : 1000000 < lsM l l.length ∨ lsM l l.length < last) : allM l last = last := by unfold allM; rw [if_pos ⟨h, h2, h3⟩, if_pos h4]
theorem allM_least {l : List Src} {last : Int} (h : isMk last = true) (h2 : l.length ≤ 300) (h3 : okTo l l.length) (h4 : ¬ 1000000 < lsM l l.length) (h5 : ¬ lsM l l.length < last) : allM l last = lsM l l.length := by
  unfold allM; rw [if_pos ⟨h, h2, h3⟩, if_neg (by omega)]
end Go.Proofs.Ytcjmigjkjepkdaa
