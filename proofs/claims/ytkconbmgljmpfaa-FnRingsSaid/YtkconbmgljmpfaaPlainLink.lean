/- Plain facts on a link that is played: what stands in it, what each op tells. No program. -/
import Derived.Test.YtkconbmgljmpfaaPlainRing2
namespace Go.Proofs.Ytkconbmgljmpfaa

structure Pl where
  xs : List Int
  p : Nat
  k : Nat
def plStep (s : Pl) (op : Int) : Pl :=
  if 0 ≤ op then (if s.k < s.xs.length then ⟨s.xs.set ((s.p + s.k) % s.xs.length) op, s.p, s.k + 1⟩ else s)
  else (if 0 < s.k then ⟨s.xs.set s.p 0, (s.p + 1) % s.xs.length, s.k - 1⟩ else s)
def plTold (s : Pl) (op : Int) : Int :=
  if 0 ≤ op then (if s.k < s.xs.length then 1 else 0) else (if 0 < s.k then el s.xs s.p else -1)
structure PlIn (n : Nat) (s : Pl) : Prop where
  len : s.xs.length = n
  p : s.p < n
  k : s.k ≤ n
  ok : rOk s.xs s.p s.k = true

theorem el_set_ne (xs : List Int) (i j : Nat) (v : Int) (h : i ≠ j) : el (xs.set i v) j = el xs j := by
  simp [el, List.getD, h]
theorem el_set_eq (xs : List Int) (i : Nat) (v : Int) (h : i < xs.length) : el (xs.set i v) i = v := by
  simp [el, List.getD, h]
theorem mod_ne {n p i j : Nat} (hij : i < j) (hj : j < i + n) : (p + i) % n ≠ (p + j) % n := by
  intro h
  have h1 := Nat.sub_mod_eq_zero_of_mod_eq h.symm
  rw [show p + j - (p + i) = j - i by omega, Nat.mod_eq_of_lt (by omega)] at h1
  omega
theorem rOk_nat {xs : List Int} {p k : Nat} (n1 : 1 ≤ xs.length) (n2 : xs.length ≤ 20) (hp : p < xs.length) (hk : k ≤ xs.length) : rOk xs p k = true ↔ ∀ j, j < xs.length - k → el xs ((p + (k + j)) % xs.length) = 0 := by
  unfold rOk
  rw [Bool.and_eq_true, rIn_iff]
  have e1 : (p : Int).toNat = p := by omega
  have e2 : (k : Int).toNat = k := by omega
  rw [e1, e2, freeN_iff]
  exact ⟨fun h => h.2, fun h => ⟨by omega, h⟩⟩
theorem PlIn.start (n : Nat) (n1 : 1 ≤ n) (n2 : n ≤ 20) : PlIn n ⟨List.replicate n 0, 0, 0⟩ := by
  refine ⟨by simp, n1, Nat.zero_le _, ?_⟩
  have h := gRow_ok (L := []) (n := n) (i := 0) (Nat.le_refl _) (Nat.zero_le _) n1 n2
  rw [gRow_zero] at h
  exact h
theorem PlIn.step {n : Nat} {s : Pl} (h : PlIn n s) (n1 : 1 ≤ n) (n2 : n ≤ 20) (op : Int) : PlIn n (plStep s op) := by
  obtain ⟨xs, p, k⟩ := s
  obtain ⟨hl, hp, hk, ho⟩ := h
  simp only at hl hp hk ho
  subst hl
  rw [rOk_nat n1 n2 hp hk] at ho
  unfold plStep
  split
  · split
    · rename_i hlt
      refine ⟨by simp, hp, by simp only at hlt ⊢; omega, ?_⟩
      simp only at hlt ⊢
      rw [rOk_nat (by simp; omega) (by simp; omega) (by simpa using hp) (by simp; omega)]
      intro j hj
      simp only [List.length_set] at hj ⊢
      have e : p + (k + 1 + j) = p + (k + (1 + j)) := by omega
      rw [e, el_set_ne]
      · exact ho (1 + j) (by omega)
      · exact mod_ne (by omega) (by omega)
    · exact ⟨rfl, hp, hk, (rOk_nat n1 n2 hp hk).2 ho⟩
  · split
    · rename_i hlt
      simp only at hlt
      have hp2 : (p + 1) % xs.length < xs.length := Nat.mod_lt _ (by omega)
      refine ⟨by simp, hp2, by simp only; omega, ?_⟩
      simp only
      rw [rOk_nat (by simp; omega) (by simp; omega) (by simpa using hp2) (by simp; omega)]
      intro j hj
      simp only [List.length_set] at hj ⊢
      have e : ((p + 1) % xs.length + (k - 1 + j)) % xs.length = (p + (k + j)) % xs.length := by
        rw [Nat.mod_add_mod]; congr 1; omega
      rw [e]
      by_cases hi : (p + (k + j)) % xs.length = p
      · rw [hi, el_set_eq _ _ _ hp]
      · rw [el_set_ne _ _ _ _ (fun h => hi h.symm)]
        by_cases hj2 : j < xs.length - k
        · exact ho j hj2
        · exfalso
          have : p + (k + j) = p + xs.length := by omega
          rw [this, Nat.add_mod_right, Nat.mod_eq_of_lt hp] at hi
          exact hi rfl
    · exact ⟨rfl, hp, hk, (rOk_nat n1 n2 hp hk).2 ho⟩

def plS (n : Nat) (ops : List Int) (i : Nat) : Pl := (ops.take i).foldl plStep ⟨List.replicate n 0, 0, 0⟩
theorem plS_zero (n : Nat) (ops : List Int) : plS n ops 0 = ⟨List.replicate n 0, 0, 0⟩ := by simp [plS]
theorem plS_succ (n : Nat) (ops : List Int) (i : Nat) (h : i < ops.length) : plS n ops (i + 1) = plStep (plS n ops i) (el ops i) := by
  unfold plS
  rw [el_take ops i h, List.foldl_append]
  rfl
theorem plS_in (n : Nat) (ops : List Int) (n1 : 1 ≤ n) (n2 : n ≤ 20) : ∀ i, i ≤ ops.length → PlIn n (plS n ops i)
  | 0, _ => by rw [plS_zero]; exact PlIn.start n n1 n2
  | i + 1, h => by rw [plS_succ n ops i (by omega)]; exact (plS_in n ops n1 n2 i (by omega)).step n1 n2 _
def plT (n : Nat) (ops : List Int) (i : Nat) : List Int := (List.range i).map fun j => plTold (plS n ops j) (el ops j)
theorem plT_zero (n : Nat) (ops : List Int) : plT n ops 0 = [] := rfl
theorem plT_succ (n : Nat) (ops : List Int) (i : Nat) : plT n ops (i + 1) = plT n ops i ++ [plTold (plS n ops i) (el ops i)] := by simp [plT, List.range_succ]
theorem plT_len (n : Nat) (ops : List Int) (i : Nat) : (plT n ops i).length = i := by simp [plT]
theorem plT_el (n : Nat) (ops : List Int) (i j : Nat) (h : j < i) : el (plT n ops i) j = plTold (plS n ops j) (el ops j) := by simp [plT, el, List.getD, h]

/-- What PlayLink answers. -/
def playOk (n : Int) (ops : List Int) : Bool := inB n 1 20 && decide (ops.length ≤ 300)
def plEnd (n : Int) (ops : List Int) : Pl := if playOk n ops = true then plS n.toNat ops ops.length else ⟨[], 0, 0⟩
def plHome (n : Int) (ops : List Int) : Int := if playOk n ops = true then n - (plS n.toNat ops ops.length).k else 0
def plAll (n : Int) (ops : List Int) : List Int := if playOk n ops = true then plT n.toNat ops ops.length else []
theorem play_no {n : Int} {ops : List Int} (h : playOk n ops = false) : plEnd n ops = ⟨[], 0, 0⟩ ∧ plHome n ops = 0 ∧ plAll n ops = [] := by simp [plEnd, plHome, plAll, h]
theorem play_at {n : Nat} {ops : List Int} (h : playOk n ops = true) : plEnd n ops = plS n ops ops.length ∧ plHome n ops = (n : Int) - (plS n ops ops.length).k ∧ plAll n ops = plT n ops ops.length := by simp [plEnd, plHome, plAll, h]

end Go.Proofs.Ytkconbmgljmpfaa
