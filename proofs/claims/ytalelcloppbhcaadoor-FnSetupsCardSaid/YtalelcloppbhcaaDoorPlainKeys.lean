/- Plain: the first twenty keys of a shard are twenty, ascending, and each has that shard. No program. -/
import Derived.Test.YtalelcloppbhcaaDoorPlainSet
import Derived.Test.YtalelcloppbhcaaDoorPlain
namespace Go.Proofs.YtalelcloppbhcaaDoor

theorem keysN_mem {sh s : Int} {n : Nat} : ∀ k, ∀ x ∈ keysN sh s n k, shardOf x s = sh ∧ x < (k : Int)
  | 0 => by simp [keysN]
  | k + 1 => by
    intro x hx
    have ih := keysN_mem (sh := sh) (s := s) (n := n) k
    by_cases h : (keysN sh s n k).length = n
    · rw [keysN_full h] at hx; have := ih x hx; exact ⟨this.1, by omega⟩
    · by_cases h2 : shardOf k s = sh
      · rw [keysN_in h h2, List.mem_append] at hx
        rcases hx with hx | hx
        · have := ih x hx; exact ⟨this.1, by omega⟩
        · simp only [List.mem_singleton] at hx
          subst hx
          exact ⟨h2, by omega⟩
      · rw [keysN_out h2] at hx; have := ih x hx; exact ⟨this.1, by omega⟩
theorem keysN_asc {sh s : Int} {n : Nat} : ∀ k, (keysN sh s n k).Pairwise (· < ·)
  | 0 => by simp [keysN]
  | k + 1 => by
    have ih := keysN_asc (sh := sh) (s := s) (n := n) k
    by_cases h : (keysN sh s n k).length = n
    · rw [keysN_full h]; exact ih
    · by_cases h2 : shardOf k s = sh
      · rw [keysN_in h h2, List.pairwise_append]
        refine ⟨ih, by simp, fun a ha b hb => ?_⟩
        simp only [List.mem_singleton] at hb
        subst hb
        exact (keysN_mem k a ha).2
      · rw [keysN_out h2]; exact ih
/-- How many keys below k a shard has. -/
def cntN (sh s : Int) : Nat → Nat
  | 0 => 0
  | k + 1 => cntN sh s k + (if shardOf k s = sh then 1 else 0)
theorem cntN_le {sh s : Int} : ∀ k d, cntN sh s k ≤ cntN sh s (k + d)
  | _, 0 => Nat.le_refl _
  | k, d + 1 => by
    have := cntN_le (sh := sh) (s := s) k d
    rw [← Nat.add_assoc, cntN]
    omega
theorem keysN_cnt {sh s : Int} {n : Nat} : ∀ k, (keysN sh s n k).length = min n (cntN sh s k)
  | 0 => by simp [keysN, cntN]
  | k + 1 => by
    have ih := keysN_cnt (sh := sh) (s := s) (n := n) k
    by_cases h : (keysN sh s n k).length = n
    · rw [keysN_full h, ih, cntN]
      rw [ih] at h
      omega
    · by_cases h2 : shardOf k s = sh
      · rw [keysN_in h h2, List.length_append, ih, cntN, if_pos h2]
        rw [ih] at h
        simp only [List.length_singleton]
        omega
      · rw [keysN_out h2, ih, cntN, if_neg h2]
        omega
theorem cnt_all : ∀ s ∈ [1, 2, 3, 4], ∀ sh ∈ List.range s, 20 ≤ cntN (sh : Int) (s : Int) 86 := by decide +kernel
theorem keys20 {sh s : Nat} (h1 : sh < s) (h2 : s ≤ 4) : (keysOf sh s 20).length = 20 := by
  have hg : keysGood (sh : Int) (s : Int) 20 = true := by
    unfold keysGood
    rw [inB_yes (by omega) (by omega), inB_yes (by omega) (by omega), inB_yes (by omega) (by omega)]
    rfl
  rw [keysOf_end hg, keysN_cnt]
  have hc := cnt_all s (by simp; omega) sh (by simpa using h1)
  have hm := cntN_le (sh := (sh : Int)) (s := (s : Int)) 86 (65536 - 86)
  show min (20 : Int).toNat _ = 20
  rw [show 86 + (65536 - 86) = 65536 by omega] at hm
  omega
theorem el_get (xs : List Int) (i : Nat) (h : i < xs.length) : el xs i = xs[i] := by simp [el, h]
/-- What FnSetups asks of each key of the list. -/
theorem keys_el {sh s : Nat} {i : Nat} (h : i < (keysOf sh s 20).length) : shardOf (el (keysOf sh s 20) i) s = sh ∧ ∀ j, j < i → el (keysOf sh s 20) j < el (keysOf sh s 20) i := by
  have e : keysOf (sh : Int) (s : Int) 20 = keysN sh s 20 65536 := by
    unfold keysOf at h ⊢
    split
    · rfl
    · rename_i hn
      rw [if_neg hn] at h
      simp at h
  rw [e] at h ⊢
  have hm := (keysN_mem (sh := (sh : Int)) (s := (s : Int)) (n := 20) 65536 _ (List.getElem_mem h)).1
  have ha := List.pairwise_iff_getElem.mp (keysN_asc (sh := (sh : Int)) (s := (s : Int)) (n := 20) 65536)
  refine ⟨?_, fun j hj => ?_⟩
  · rw [el_get _ _ h]; exact hm
  · rw [el_get _ _ h, el_get _ _ (by omega)]; exact ha j i (by omega) h hj
end Go.Proofs.YtalelcloppbhcaaDoor
