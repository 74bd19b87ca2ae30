/- Plain: frames read from the front of bytes. No program. -/
import Derived.Test.YtkconbmgljmpfaaDoorPlainPut
namespace Go.Proofs.YtkconbmgljmpfaaDoor

/-- Bytes as a number, the greatest first. -/
def readL (xs : List Int) : Int := xs.foldl (fun x b => x * 256 + b) 0
theorem readL_snoc (xs : List Int) (b : Int) : readL (xs ++ [b]) = readL xs * 256 + b := by simp [readL]
theorem readL_acc (ys : List Int) : ∀ (acc : Int) (m : Nat), IsB ys → 0 ≤ acc → acc < ((256 ^ m : Nat) : Int) → 0 ≤ ys.foldl (fun x b => x * 256 + b) acc ∧ ys.foldl (fun x b => x * 256 + b) acc < ((256 ^ (m + ys.length) : Nat) : Int) := by
  induction ys with
  | nil => intro acc m _ h0 h1; exact ⟨h0, h1⟩
  | cons b ys ih =>
    intro acc m hy h0 h1
    have hb := hy b (by simp)
    have e : m + (b :: ys).length = (m + 1) + ys.length := by simp; omega
    rw [e, List.foldl_cons]
    refine ih _ (m + 1) (fun x hx => hy x (by simp [hx])) (by omega) ?_
    rw [Nat.pow_succ]
    omega
theorem readL_bd {xs : List Int} (h : IsB xs) (n : Nat) (hn : xs.length ≤ n) : 0 ≤ readL xs ∧ readL xs < ((256 ^ n : Nat) : Int) := by
  have h1 := readL_acc xs 0 0 h (by omega) (by simp)
  refine ⟨h1.1, Int.lt_of_lt_of_le h1.2 ?_⟩
  exact_mod_cast Nat.pow_le_pow_right (by omega) (by omega)
/-- A number of so many bytes; what is not there counts as noughts. -/
def numL (n : Nat) (xs : List Int) : Int := readL (xs.take n) * ((256 ^ (n - min n xs.length) : Nat) : Int)
theorem numL_bd {xs : List Int} (h : IsB xs) (n : Nat) : 0 ≤ numL n xs ∧ numL n xs < ((256 ^ n : Nat) : Int) := by
  have h1 := readL_bd (h.take n) (min n xs.length) (by rw [List.length_take]; exact Nat.le_refl _)
  have h2 : 256 ^ n = 256 ^ (min n xs.length) * 256 ^ (n - min n xs.length) := by rw [← Nat.pow_add]; congr 1; omega
  have h3 : (0 : Int) < ((256 ^ (n - min n xs.length) : Nat) : Int) := by exact_mod_cast Nat.pow_pos (by omega)
  unfold numL
  refine ⟨Int.mul_nonneg h1.1 (Int.le_of_lt h3), ?_⟩
  rw [h2, Int.natCast_mul]
  exact Int.mul_lt_mul_of_pos_right h1.2 h3
theorem num1_bd {xs : List Int} (h : IsB xs) : 0 ≤ numL 1 xs ∧ numL 1 xs ≤ 255 := by
  have := numL_bd h 1
  have e : ((256 ^ 1 : Nat) : Int) = 256 := by decide
  omega
theorem num2_bd {xs : List Int} (h : IsB xs) : 0 ≤ numL 2 xs ∧ numL 2 xs ≤ 65535 := by
  have := numL_bd h 2
  have e : ((256 ^ 2 : Nat) : Int) = 65536 := by decide
  omega
theorem num3_bd {xs : List Int} (h : IsB xs) : 0 ≤ numL 3 xs ∧ numL 3 xs ≤ 16777215 := by
  have := numL_bd h 3
  have e : ((256 ^ 3 : Nat) : Int) = 16777216 := by decide
  omega

/-- The least frame that bytes allow: its kind, key, time, value. -/
def f0K (xs : List Int) : Int := if numL 1 xs = 9 then 1 else if numL 1 xs = 4 then 2 else if numL 1 xs = 1 then 3 else 0
def f0Y (xs : List Int) : Int := if numL 1 xs = 9 then numL 2 (xs.drop 2) else 0
def f0T (xs : List Int) : Int := if numL 1 xs = 9 then numL 3 (xs.drop 4) else if numL 1 xs = 4 then numL 3 (xs.drop 2) else 0
def f0V (xs : List Int) : Int := if numL 1 xs = 9 then numL 3 (xs.drop 7) - 1000000 else 0
/-- That frame as bytes; nothing where it is none. -/
def put0 (xs : List Int) : List Int := putL (f0K xs) (f0Y xs) (f0T xs) (f0V xs)
/-- A frame stands in front; it may still come. -/
def tkHere (xs : List Int) : Bool := decide (0 < (put0 xs).length) && (put0 xs).isPrefixOf xs
def tkMore (xs : List Int) : Bool := xs.isPrefixOf (put0 xs)

end Go.Proofs.YtkconbmgljmpfaaDoor
