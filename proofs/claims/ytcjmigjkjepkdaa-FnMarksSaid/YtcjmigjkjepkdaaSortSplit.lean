/- The library's sort over lags: what the rounds of the partitions do to the plain functions. -/
import Derived.Test.YtcjmigjkjepkdaaSortPart
import Derived.Deep.CutBlock
namespace Go.Proofs.Ytcjmigjkjepkdaa
open Go.RowKit

section
variable {lt : Nat → Nat → Bool} {p : Nat → Bool} {d : Array Nat} {a b i j i2 j2 : Nat}
theorem up_go (h : i ≤ j) (hp : p d[i]! = true) : Sort.scanUp p d j i = Sort.scanUp p d j (i + 1) := by
  conv => lhs; rw [Sort.scanUp]
  rw [if_pos (by simp [h, hp])]
theorem up_stop (h : j < i ∨ p d[i]! = false) : Sort.scanUp p d j i = i := by
  rw [Sort.scanUp, if_neg]
  rcases h with h | h
  · simp; intro h2; omega
  · simp [h]
theorem dn_go (h : i ≤ j) (h0 : 1 ≤ j) (hp : p d[j]! = true) : Sort.scanDown p d i j = Sort.scanDown p d i (j - 1) := by
  obtain ⟨k, rfl⟩ : ∃ k, j = k + 1 := ⟨j - 1, by omega⟩
  conv => lhs; rw [Sort.scanDown]
  rw [if_pos (by simp [h, hp])]
  rfl
theorem dn_stop (h : j < i ∨ p d[j]! = false) : Sort.scanDown p d i j = j := by
  cases j with
  | zero => rfl
  | succ k =>
    rw [Sort.scanDown, if_neg]
    rcases h with h | h
    · simp; intro h2; omega
    · simp [h]
theorem pe_end (h1 : i2 = Sort.scanUp (fun x => !lt d[a]! x) d j i) (h2 : j2 = Sort.scanDown (fun x => lt d[a]! x) d i2 j) (h : j2 < i2) : Sort.partEqLoop lt a i j d = (i2, d) := by
  subst h1; subst h2
  rw [Sort.partEqLoop_eq, if_pos h]
theorem pe_on (h1 : i2 = Sort.scanUp (fun x => !lt d[a]! x) d j i) (h2 : j2 = Sort.scanDown (fun x => lt d[a]! x) d i2 j) (h : i2 ≤ j2) :
    Sort.partEqLoop lt a i j d = Sort.partEqLoop lt a (i2 + 1) (j2 - 1) (Sort.swp d i2 j2) := by
  subst h1; subst h2
  rw [Sort.partEqLoop_eq, if_neg (by omega)]
theorem pt_end (h1 : i2 = Sort.scanUp (fun x => lt x d[a]!) d j i) (h2 : j2 = Sort.scanDown (fun x => !lt x d[a]!) d i2 j) (h : j2 < i2) : Sort.partLoop lt a i j d = (j2, d) := by
  subst h1; subst h2
  rw [Sort.partLoop_eq, if_pos h]
theorem pt_on (h1 : i2 = Sort.scanUp (fun x => lt x d[a]!) d j i) (h2 : j2 = Sort.scanDown (fun x => !lt x d[a]!) d i2 j) (h : i2 ≤ j2) :
    Sort.partLoop lt a i j d = Sort.partLoop lt a (i2 + 1) (j2 - 1) (Sort.swp d i2 j2) := by
  subst h1; subst h2
  rw [Sort.partLoop_eq, if_neg (by omega)]
/-- The two scans never stop at one element: the test of the one is the other's, turned. -/
theorem scans_apart {q : Nat → Bool} (hq : ∀ x, q x = !p x) (hi : 1 ≤ i) (h1 : i2 = Sort.scanUp p d j i) (h2 : j2 = Sort.scanDown q d i2 j) (h : i2 ≤ j2) : i2 < j2 := by
  rcases Nat.lt_or_ge i2 j2 with h9 | h9
  · exact h9
  have he : j2 = i2 := by omega
  have hu := Sort.scanUp_spec p d j _ i rfl
  have hd := Sort.scanDown_spec q d i2 j
  rw [← h1] at hu
  rw [← h2] at hd
  have a1 : p d[i2]! = false := hu.2.2.2 (by omega)
  have a2 : q d[j2]! = false := hd.2.2.2 (by omega) (by omega)
  rw [he, hq, a1] at a2
  cases a2
theorem part_end {dk : Array Nat} (hk : dk = Sort.swp d a i) (h1 : i2 = Sort.scanUp (fun x => lt x dk[a]!) dk (b - 1) (a + 1)) (h2 : j2 = Sort.scanDown (fun x => !lt x dk[a]!) dk i2 (b - 1)) (h : j2 < i2) :
    Sort.partition lt d a b i = (j2, true, Sort.swp dk j2 a) := by
  subst hk; subst h1; subst h2
  unfold Sort.partition
  simp only []
  rw [if_pos h]
theorem part_on {dk D3 : Array Nat} {j3 : Nat} (hk : dk = Sort.swp d a i) (h1 : i2 = Sort.scanUp (fun x => lt x dk[a]!) dk (b - 1) (a + 1)) (h2 : j2 = Sort.scanDown (fun x => !lt x dk[a]!) dk i2 (b - 1)) (h : i2 ≤ j2)
    (h3 : Sort.partLoop lt a (i2 + 1) (j2 - 1) (Sort.swp dk i2 j2) = (j3, D3)) :
    Sort.partition lt d a b i = (j3, false, Sort.swp D3 j3 a) := by
  subst hk; subst h1; subst h2
  unfold Sort.partition
  simp only []
  rw [if_neg (by omega), h3]
end
end Go.Proofs.Ytcjmigjkjepkdaa
