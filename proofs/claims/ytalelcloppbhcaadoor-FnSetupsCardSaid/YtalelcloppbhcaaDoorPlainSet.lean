/- Plain: which shard a key has; the first keys of a shard. No program. -/
import Derived.Test.YtalelcloppbhcaaDoorTick1
namespace Go.Proofs.YtalelcloppbhcaaDoor
def shardOf (k s : Int) : Int := if inB k 0 65535 = true ∧ inB s 1 4 = true then k * 40503 % 65536 / 64 % s else -1
theorem shardOf_no1 {k s : Int} (h : inB k 0 65535 = false) : shardOf k s = -1 := by simp [shardOf, h]
theorem shardOf_no2 {k s : Int} (h : inB s 1 4 = false) : shardOf k s = -1 := by simp [shardOf, h]
theorem shardOf_yes {k s : Int} (h : inB k 0 65535 = true) (h2 : inB s 1 4 = true) : shardOf k s = k * 40503 % 65536 / 64 % s := by simp [shardOf, h, h2]
/-- The keys below k that shard sh has, n at the most. -/
def keysN (sh s : Int) (n : Nat) : Nat → List Int
  | 0 => []
  | k + 1 => if (keysN sh s n k).length = n then keysN sh s n k else if shardOf k s = sh then keysN sh s n k ++ [(k : Int)] else keysN sh s n k
section
variable {sh s : Int} {n : Nat}
theorem keysN_full {k : Nat} (h : (keysN sh s n k).length = n) : keysN sh s n (k + 1) = keysN sh s n k := by
  rw [keysN, if_pos h]
theorem keysN_in {k : Nat} (h : ¬ (keysN sh s n k).length = n) (h2 : shardOf k s = sh) : keysN sh s n (k + 1) = keysN sh s n k ++ [(k : Int)] := by
  rw [keysN, if_neg h, if_pos h2]
theorem keysN_out {k : Nat} (h2 : ¬ shardOf k s = sh) : keysN sh s n (k + 1) = keysN sh s n k := by
  rw [keysN]
  split
  · rfl
  · first | rfl | rw [if_neg h2]
theorem keysN_stop {k : Nat} (h : (keysN sh s n k).length = n) : ∀ d, keysN sh s n (k + d) = keysN sh s n k
  | 0 => rfl
  | d + 1 => by
    have ih := keysN_stop h d
    rw [← Nat.add_assoc, keysN_full (by rw [ih]; exact h), ih]
theorem keysN_le : ∀ k, (keysN sh s n k).length ≤ n
  | 0 => by simp [keysN]
  | k + 1 => by
    have ih := keysN_le k
    by_cases h : (keysN sh s n k).length = n
    · rw [keysN_full h]; exact ih
    · by_cases h2 : shardOf k s = sh
      · rw [keysN_in h h2, List.length_append]; simp; omega
      · rw [keysN_out h2]; exact ih
end
/-- What is asked of a shard, a number of shards and a number of keys. -/
def keysGood (sh s n : Int) : Bool := inB s 1 4 && inB sh 0 (s - 1) && inB n 0 300
def keysOf (sh s n : Int) : List Int := if keysGood sh s n = true then keysN sh s n.toNat 65536 else []
theorem keysOf_no {sh s n : Int} (h : keysGood sh s n = false) : keysOf sh s n = [] := by simp [keysOf, h]
theorem keysOf_len (sh s n : Int) : (keysOf sh s n).length ≤ 300 := by
  unfold keysOf
  split
  · rename_i h
    have h1 := keysN_le (sh := sh) (s := s) (n := n.toNat) 65536
    have h2 : n ≤ 300 := by
      unfold keysGood at h
      simp only [Bool.and_eq_true] at h
      exact (inB_bd h.2).2
    omega
  · simp
theorem keysOf_at {sh s n : Int} {k : Nat} (h : keysGood sh s n = true) (hk : k ≤ 65536) (h2 : (keysN sh s n.toNat k).length = n.toNat) : keysOf sh s n = keysN sh s n.toNat k := by
  unfold keysOf
  rw [if_pos h]
  have := keysN_stop h2 (65536 - k)
  rwa [show k + (65536 - k) = 65536 by omega] at this
theorem keysOf_end {sh s n : Int} (h : keysGood sh s n = true) : keysOf sh s n = keysN sh s n.toNat 65536 := by
  unfold keysOf
  rw [if_pos h]
end Go.Proofs.YtalelcloppbhcaaDoor
