/- Plain facts on what a ring lists and on a grown one. No program. -/
import Derived.Test.YtkconbmgljmpfaaPlainRing
import Derived.Laws.CopyOwn
namespace Go.Proofs.Ytkconbmgljmpfaa

/-- What stands is one piece of the slots behind the head and one from their start. -/
theorem rList_split (xs : List Int) (p k : Nat) (hp : p < xs.length) (hk : k ≤ xs.length) : rList xs p k = (xs.drop p).take (min k (xs.length - p)) ++ xs.take (k - min k (xs.length - p)) := by
  apply List.ext_getElem
  · simp [rList]; omega
  · intro i h1 h2
    have hi : i < k := by simpa [rList] using h1
    have hm : (p + i) % xs.length < xs.length := Nat.mod_lt _ (by omega)
    have e1 : (rList xs p k)[i] = xs[(p + i) % xs.length] := by simp [rList, el, List.getD, hm]
    rw [e1, List.getElem_append]
    split
    · rename_i h
      simp only [List.length_take, List.length_drop] at h
      have e : (p + i) % xs.length = p + i := Nat.mod_eq_of_lt (by omega)
      simp [e]
    · rename_i h
      simp only [List.length_take, List.length_drop] at h
      have e : (p + i) % xs.length = i - (xs.length - p) := by
        rw [Nat.mod_eq_sub_mod (by omega), Nat.mod_eq_of_lt (by omega)]; omega
      have e2 : min k (xs.length - p) = xs.length - p := by omega
      simp [e, e2]
/-- Two pieces laid over noughts. -/
theorem splice_grow {α : Type} (z : α) (n m : Nat) (X1 X2 : List α) (hm : X1.length = m) (hn : m + X2.length ≤ n) : Go.splice (Go.splice (List.replicate n z) 0 X1) m X2 = X1 ++ X2 ++ List.replicate (n - (m + X2.length)) z := by
  subst hm
  have e1 : Go.splice (List.replicate n z) 0 X1 = X1 ++ List.replicate (n - X1.length) z := by simp [Go.splice]
  rw [e1]
  unfold Go.splice
  rw [List.take_left, List.drop_append]
  have e2 : X1.length + X2.length - X1.length = X2.length := by omega
  rw [List.drop_eq_nil_of_le (by omega), e2, List.nil_append, List.drop_replicate, ← List.append_assoc]
  congr 2
  omega

/-- The first i of L, then noughts: n in all. -/
def gRow (L : List Int) (n i : Nat) : List Int := L.take i ++ List.replicate (n - i) 0
theorem gRow_len {L : List Int} {n i : Nat} (h1 : i ≤ L.length) (h2 : i ≤ n) : (gRow L n i).length = n := by simp [gRow]; omega
theorem gRow_zero (L : List Int) (n : Nat) : gRow L n 0 = List.replicate n 0 := by simp [gRow]
theorem gRow_full (L : List Int) (n : Nat) : gRow L n L.length = L ++ List.replicate (n - L.length) 0 := by simp [gRow]
theorem gRow_free {L : List Int} {n i j : Nat} (h1 : i ≤ L.length) (hj : i ≤ j) : el (gRow L n i) j = 0 := by
  have e : min i L.length = i := by omega
  unfold gRow el
  rw [List.getD_eq_getElem?_getD, List.getElem?_append_right (by simp; omega)]
  simp only [List.length_take, e, List.getElem?_replicate]
  split <;> rfl
theorem gRow_ok {L : List Int} {n i : Nat} (h1 : i ≤ L.length) (h2 : i ≤ n) (n1 : 1 ≤ n) (n2 : n ≤ 20) : rOk (gRow L n i) 0 (i : Int) = true := by
  have hl := gRow_len h1 h2
  unfold rOk
  rw [hl, Bool.and_eq_true, rIn_iff]
  refine ⟨by omega, ?_⟩
  rw [freeN_iff]
  intro j hj
  rw [hl]
  have : ((0 : Int).toNat + ((i : Int).toNat + j)) % n = i + j := by
    rw [Nat.mod_eq_of_lt (by omega)]; omega
  rw [this]
  exact gRow_free h1 (by omega)
theorem gRow_push {L : List Int} {n i : Nat} (h1 : i < L.length) (h2 : i < n) (n2 : n ≤ 20) : pushL (gRow L n i) 0 (i : Int) (el L i) = gRow L n (i + 1) ∧ pushC (gRow L n i) 0 (i : Int) = ((i + 1 : Nat) : Int) ∧ pushOk (gRow L n i) 0 (i : Int) = true := by
  have hl := gRow_len (Nat.le_of_lt h1) (Nat.le_of_lt h2)
  have ho : pushOk (gRow L n i) 0 (i : Int) = true := by
    unfold pushOk
    rw [gRow_ok (by omega) (by omega) (by omega) n2, hl, Bool.true_and, decide_eq_true_eq]
    omega
  refine ⟨?_, by simp [pushC, ho], ho⟩
  unfold pushL
  rw [if_pos ho, hl]
  have e : ((0 : Int) + (i : Int)).toNat % n = i := by rw [Nat.mod_eq_of_lt (by omega)]; omega
  rw [e]
  obtain ⟨m, hm⟩ : ∃ m, n - i = m + 1 := ⟨n - i - 1, by omega⟩
  have hm' : n - (i + 1) = m := by omega
  unfold gRow
  rw [hm, hm', el_take L i h1, List.set_append_right _ _ (by simp; omega)]
  have e2 : i - (L.take i).length = 0 := by simp; omega
  rw [e2, List.replicate_succ, List.set_cons_zero]
  simp

theorem growL_le {xs : List Int} {hd ct n : Int} (h : xs.length ≤ 1048576) : (growL xs hd ct n).length ≤ 1048576 := by
  unfold growL
  split
  · rename_i h2
    simp only [growOk, Bool.and_eq_true, inB_iff, decide_eq_true_eq] at h2
    obtain ⟨p, k, rfl, rfl, h3⟩ := rOk_bd h2.1.1
    simp [rList_len]; omega
  · exact h
theorem list_at {xs : List Int} {p k : Nat} (h : rOk xs p k = true) : listL xs p k = rList xs p k := by simp [listL, h]
theorem list_no {xs : List Int} {hd ct : Int} (h : rOk xs hd ct = false) : listL xs hd ct = [] := by simp [listL, h]
theorem grow_no {xs : List Int} {hd ct n : Int} (h : growOk xs hd ct n = false) : growL xs hd ct n = xs ∧ growH xs hd ct n = hd := by simp [growL, growH, h]
theorem grow_at {xs : List Int} {p k n : Nat} (h : growOk xs p k n = true) : growL xs p k n = rList xs p k ++ List.replicate (n - k) 0 ∧ growH xs p k n = 0 := by simp [growL, growH, h]

end Go.Proofs.Ytkconbmgljmpfaa
