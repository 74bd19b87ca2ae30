/- Plain facts on rings and credits: when they are one, and what each op makes of them. No program. -/
import Derived.Test.YtcjmigjkjepkdaaTick1
import Derived.Test.YtcjmigjkjepkdaaMem
namespace Go.Proofs.Ytcjmigjkjepkdaa

/-- From the k-th place behind p on, m places are 0. -/
def freeN (xs : List Int) (p : Nat) : Nat → Nat → Bool
  | _, 0 => true
  | k, m + 1 => (el xs ((p + k) % xs.length) == 0) && freeN xs p (k + 1) m
theorem freeN_zero (xs : List Int) (p k : Nat) : freeN xs p k 0 = true := rfl
theorem freeN_succ (xs : List Int) (p k m : Nat) : freeN xs p k (m + 1) = ((el xs ((p + k) % xs.length) == 0) && freeN xs p (k + 1) m) := rfl
theorem freeN_no {xs : List Int} {p k m : Nat} (hm : 0 < m) (h : (el xs ((p + k) % xs.length) == 0) = false) : freeN xs p k m = false := by
  obtain ⟨j, rfl⟩ : ∃ j, m = j + 1 := ⟨m - 1, by omega⟩
  rw [freeN_succ, h, Bool.false_and]
theorem freeN_go {xs : List Int} {p k m : Nat} (hm : 0 < m) (h : (el xs ((p + k) % xs.length) == 0) = true) : freeN xs p k m = freeN xs p (k + 1) (m - 1) := by
  obtain ⟨j, rfl⟩ : ∃ j, m = j + 1 := ⟨m - 1, by omega⟩
  rw [freeN_succ, h, Bool.true_and]; rfl
theorem freeN_iff (xs : List Int) (p : Nat) : ∀ (m k : Nat), freeN xs p k m = true ↔ ∀ j, j < m → el xs ((p + (k + j)) % xs.length) = 0
  | 0, k => by simp [freeN_zero]
  | m + 1, k => by
    rw [freeN_succ, Bool.and_eq_true, freeN_iff xs p m (k + 1), beq_iff_eq]
    constructor
    · rintro ⟨h0, h1⟩ j hj
      rcases j with _ | j
      · exact h0
      · have := h1 j (by omega)
        rw [show k + (j + 1) = k + 1 + j by omega]; exact this
    · intro h
      refine ⟨h 0 (by omega), fun j hj => ?_⟩
      have := h (j + 1) (by omega)
      rw [show k + 1 + j = k + (j + 1) by omega]; exact this

/-- Its numbers are in their bounds. -/
def rIn (n : Nat) (hd ct : Int) : Bool := inB n 1 20 && inB hd 0 ((n : Int) - 1) && inB ct 0 n
theorem inB_iff {x a b : Int} : inB x a b = true ↔ a ≤ x ∧ x ≤ b := by simp [inB]
theorem rIn_iff {n : Nat} {hd ct : Int} : rIn n hd ct = true ↔ 1 ≤ n ∧ n ≤ 20 ∧ 0 ≤ hd ∧ hd < n ∧ 0 ≤ ct ∧ ct ≤ n := by
  simp only [rIn, Bool.and_eq_true, inB_iff]; omega
/-- A ring is one. -/
def rOk (xs : List Int) (hd ct : Int) : Bool := rIn xs.length hd ct && freeN xs hd.toNat ct.toNat (xs.length - ct.toNat)
theorem rOk_out {xs : List Int} {hd ct : Int} (h : rIn xs.length hd ct = false) : rOk xs hd ct = false := by simp [rOk, h]
theorem rOk_in {xs : List Int} {p k : Nat} (h : rIn xs.length p k = true) : rOk xs p k = freeN xs p k (xs.length - k) := by simp [rOk, h]
theorem rOk_bd {xs : List Int} {hd ct : Int} (h : rOk xs hd ct = true) : ∃ p k : Nat, hd = p ∧ ct = k ∧ 1 ≤ xs.length ∧ xs.length ≤ 20 ∧ p < xs.length ∧ k ≤ xs.length := by
  unfold rOk at h
  rw [Bool.and_eq_true, rIn_iff] at h
  exact ⟨hd.toNat, ct.toNat, by omega, by omega, by omega, by omega, by omega, by omega⟩

/-- What stands, the first ahead. -/
def rList (xs : List Int) (p k : Nat) : List Int := (List.range k).map fun i => el xs ((p + i) % xs.length)
theorem rList_len (xs : List Int) (p k : Nat) : (rList xs p k).length = k := by simp [rList]
theorem rList_succ (xs : List Int) (p k : Nat) : rList xs p (k + 1) = rList xs p k ++ [el xs ((p + k) % xs.length)] := by simp [rList, List.range_succ]
theorem rList_zero (xs : List Int) (p : Nat) : rList xs p 0 = [] := rfl
theorem rList_el (xs : List Int) (p k i : Nat) (hi : i < k) : el (rList xs p k) i = el xs ((p + i) % xs.length) := by simp [rList, el, List.getD, hi]

def pushOk (xs : List Int) (hd ct : Int) : Bool := rOk xs hd ct && decide (ct < xs.length)
def pushL (xs : List Int) (hd ct x : Int) : List Int := if pushOk xs hd ct = true then xs.set ((hd + ct).toNat % xs.length) x else xs
def pushC (xs : List Int) (hd ct : Int) : Int := if pushOk xs hd ct = true then ct + 1 else ct
theorem pushL_len (xs : List Int) (hd ct x : Int) : (pushL xs hd ct x).length = xs.length := by unfold pushL; split <;> simp
def popOk (xs : List Int) (hd ct : Int) : Bool := rOk xs hd ct && decide (0 < ct)
def popL (xs : List Int) (hd ct : Int) : List Int := if popOk xs hd ct = true then xs.set hd.toNat 0 else xs
def popH (xs : List Int) (hd ct : Int) : Int := if popOk xs hd ct = true then (((hd.toNat + 1) % xs.length : Nat) : Int) else hd
def popC (xs : List Int) (hd ct : Int) : Int := if popOk xs hd ct = true then ct - 1 else ct
def popX (xs : List Int) (hd ct : Int) : Int := if popOk xs hd ct = true then el xs hd.toNat else 0
theorem popL_len (xs : List Int) (hd ct : Int) : (popL xs hd ct).length = xs.length := by unfold popL; split <;> simp
def listL (xs : List Int) (hd ct : Int) : List Int := if rOk xs hd ct = true then rList xs hd.toNat ct.toNat else []
def growOk (xs : List Int) (hd ct n : Int) : Bool := rOk xs hd ct && inB n 1 20 && decide (ct ≤ n)
def growL (xs : List Int) (hd ct n : Int) : List Int := if growOk xs hd ct n = true then rList xs hd.toNat ct.toNat ++ List.replicate (n.toNat - ct.toNat) 0 else xs
def growH (xs : List Int) (hd ct n : Int) : Int := if growOk xs hd ct n = true then 0 else hd
theorem listL_len (xs : List Int) (hd ct : Int) (h : xs.length ≤ 1048576) : (listL xs hd ct).length ≤ 1048576 := by
  unfold listL
  split
  · rename_i h2
    obtain ⟨p, k, rfl, rfl, h3⟩ := rOk_bd h2
    rw [rList_len]; simp; omega
  · simp

/-- A credit is one. -/
def cOk (h o : Int) : Bool := inB h 0 20 && inB o 0 (20 - h)
theorem cOk_iff {h o : Int} : cOk h o = true ↔ 0 ≤ h ∧ h ≤ 20 ∧ 0 ≤ o ∧ o ≤ 20 - h := by simp only [cOk, Bool.and_eq_true, inB_iff]; omega
def spendOk (h o : Int) : Bool := cOk h o && decide (0 < h)
def backOk (h o : Int) : Bool := cOk h o && decide (0 < o)
def lOk (xs : List Int) (hd ct h o : Int) : Bool := rOk xs hd ct && cOk h o && decide (o = ct) && decide (h + o = xs.length)

end Go.Proofs.Ytcjmigjkjepkdaa
