/- Plain: a number in so many bytes, the greatest first. No program. -/
import Derived.Test.YtkconbmgljmpfaaDoorMem
import Derived.Laws.BitsAllLaws
import Derived.Laws.BitsLemmas
namespace Go.Proofs.YtkconbmgljmpfaaDoor

def wide : Nat → Int → List Int
  | 0, _ => []
  | n + 1, x => (x / ((256 ^ n : Nat) : Int) % 256) :: wide n x
theorem wide_len (n : Nat) (x : Int) : (wide n x).length = n := by induction n with | zero => rfl | succ n ih => simp [wide, ih]
theorem wide_isB (n : Nat) (x : Int) : IsB (wide n x) := by
  induction n with
  | zero => exact IsB.nil
  | succ n ih =>
    intro y hy
    simp only [wide, List.mem_cons] at hy
    rcases hy with rfl | hy
    · omega
    · exact ih y hy

theorem wide_drop (n : Nat) (x : Int) (j : Nat) (hj : j ≤ n) : (wide n x).drop j = wide (n - j) x := by
  induction j generalizing n with
  | zero => rfl
  | succ j ih =>
    obtain ⟨m, rfl⟩ : ∃ m, n = m + 1 := ⟨n - 1, by omega⟩
    simp only [wide, List.drop_succ_cons, Nat.add_sub_add_right]
    exact ih m (by omega)
/-- One byte more: i of them are still to come. -/
theorem wide_take (x : Int) (j i : Nat) : (wide (j + (i + 1)) x).take (j + 1) = (wide (j + (i + 1)) x).take j ++ [x / ((256 ^ i : Nat) : Int) % 256] := by
  rw [List.take_add_one]
  congr 1
  have h : (wide (j + (i + 1)) x)[j]? = ((wide (j + (i + 1)) x).drop j)[0]? := by simp
  rw [h, wide_drop _ _ _ (by omega), show j + (i + 1) - j = i + 1 from by omega]
  rfl
theorem wide_take0 (x : Int) (j : Nat) : (wide (j + 1) x).take (j + 1) = (wide (j + 1) x).take j ++ [x % 256] := by
  have h := wide_take x j 0
  simpa using h
theorem wide_take1 (x : Int) (j : Nat) : (wide (j + 2) x).take (j + 1) = (wide (j + 2) x).take j ++ [x / 256 % 256] := wide_take x j 1
theorem wide_take2 (x : Int) (j : Nat) : (wide (j + 3) x).take (j + 1) = (wide (j + 3) x).take j ++ [x / 65536 % 256] := wide_take x j 2
theorem wide_take3 (x : Int) (j : Nat) : (wide (j + 4) x).take (j + 1) = (wide (j + 4) x).take j ++ [x / 16777216 % 256] := wide_take x j 3
theorem wide_at0 {n j : Nat} (x : Int) (h : j + 1 = n) : (wide n x).take (j + 1) = (wide n x).take j ++ [x % 256] := by subst h; exact wide_take0 x j
theorem wide_at1 {n j : Nat} (x : Int) (h : j + 2 = n) : (wide n x).take (j + 1) = (wide n x).take j ++ [x / 256 % 256] := by subst h; exact wide_take1 x j
theorem wide_at2 {n j : Nat} (x : Int) (h : j + 3 = n) : (wide n x).take (j + 1) = (wide n x).take j ++ [x / 65536 % 256] := by subst h; exact wide_take2 x j
theorem wide_at3 {n j : Nat} (x : Int) (h : j + 4 = n) : (wide n x).take (j + 1) = (wide n x).take j ++ [x / 16777216 % 256] := by subst h; exact wide_take3 x j
theorem wide_top {n j : Nat} {x : Int} (h0 : 0 ≤ x) (h1 : x ≤ 4294967295) (h : j + 4 = n) : (wide n x).take (j + 1) = (wide n x).take j ++ [x / 16777216] := by
  rw [wide_at3 x h, Int.emod_eq_of_lt (show 0 ≤ x / 16777216 by omega) (show x / 16777216 < 256 by omega)]
theorem and_byte {q : Int} (h0 : 0 ≤ q) (h1 : q ≤ 4294967295) : bits .and .i64 q 255 = q % 256 := by
  obtain ⟨x, rfl⟩ := Int.eq_ofNat_of_zero_le h0
  show IntKind.i64.wrap ((BitVec.ofInt 64 (x : Int) &&& BitVec.ofInt 64 255).toNat : Int) = _
  rw [BitVec.toNat_and, BitVec.ofInt_natCast, BitVec.toNat_ofNat, Nat.mod_eq_of_lt (show x < 2 ^ 64 by omega)]
  have e : (BitVec.ofInt 64 255).toNat = 255 := by decide
  rw [e, Nat.and_two_pow_sub_one_eq_mod x 8, IntKind.wrap_i64]
  omega

end Go.Proofs.YtkconbmgljmpfaaDoor
