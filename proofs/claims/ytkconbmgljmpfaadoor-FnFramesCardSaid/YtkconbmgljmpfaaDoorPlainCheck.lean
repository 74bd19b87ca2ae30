/- Plain: the remainder that is written behind a body. No program. -/
import Derived.Test.YtkconbmgljmpfaaDoorMem
import Derived.Laws.BitsAllLaws
import Derived.Laws.BitsLemmas
namespace Go.Proofs.YtkconbmgljmpfaaDoor

def xorI (a b : Int) : Int := ((a.toNat ^^^ b.toNat : Nat) : Int)
theorem xorI_bd {a b : Int} (h0 : 0 ≤ a) (h1 : a ≤ 4294967295) (k0 : 0 ≤ b) (k1 : b ≤ 4294967295) : 0 ≤ xorI a b ∧ xorI a b ≤ 4294967295 := by
  have h : a.toNat ^^^ b.toNat < 2 ^ 32 := Nat.xor_lt_two_pow (by omega) (by omega)
  unfold xorI
  omega
theorem ofInt_i64 (a : Nat) (ha : a < 9223372036854775808) : (BitVec.ofInt 64 (a : Int)).toNat = a := by
  rw [BitVec.ofInt_natCast, BitVec.toNat_ofNat]; exact Nat.mod_eq_of_lt (by omega)
theorem xor_i64 {a b : Int} (h0 : 0 ≤ a) (h1 : a ≤ 4294967295) (k0 : 0 ≤ b) (k1 : b ≤ 4294967295) : bits .xor .i64 a b = xorI a b := by
  obtain ⟨x, rfl⟩ := Int.eq_ofNat_of_zero_le h0
  obtain ⟨y, rfl⟩ := Int.eq_ofNat_of_zero_le k0
  have hx : x ^^^ y < 2 ^ 32 := Nat.xor_lt_two_pow (by omega) (by omega)
  show IntKind.i64.wrap ((BitVec.ofInt 64 (x : Int) ^^^ BitVec.ofInt 64 (y : Int)).toNat : Int) = ((x ^^^ y : Nat) : Int)
  rw [BitVec.toNat_xor, ofInt_i64 x (by omega), ofInt_i64 y (by omega), IntKind.wrap_i64]
  omega
theorem xor_u32 {a b : Int} (h0 : 0 ≤ a) (h1 : a ≤ 4294967295) (k0 : 0 ≤ b) (k1 : b ≤ 4294967295) : bits .xor .u32 a b = xorI a b :=
  u32_xor a b h0 (by omega) k0 (by omega)
theorem and1_u32 {a : Int} (h0 : 0 ≤ a) (h1 : a ≤ 4294967295) : bits .and .u32 a 1 = a % 2 := by
  rw [u32_and a 1 h0 (by omega) (by omega) (by omega)]
  have e : a.toNat &&& (1 : Int).toNat = a.toNat % 2 := nat_mask1 a.toNat
  rw [e]
  omega

theorem not_u32 {a : Int} (h0 : 0 ≤ a) (h1 : a ≤ 4294967295) : bits .xor .u32 IntKind.u32.max a = 4294967295 - a := by
  obtain ⟨x, rfl⟩ := Int.eq_ofNat_of_zero_le h0
  show IntKind.u32.wrap ((BitVec.ofInt 32 IntKind.u32.max ^^^ BitVec.ofInt 32 (x : Int)).toNat : Int) = _
  have e : BitVec.ofInt 32 IntKind.u32.max = BitVec.allOnes 32 := by decide
  rw [e, BitVec.allOnes_xor, BitVec.toNat_not, ofInt_u32 x (by omega), IntKind.wrap_u32']
  omega

/-- One bit, so many bits, one byte. -/
def crcBit (c : Int) : Int := if c % 2 = 1 then xorI (c / 2) 3988292384 else c / 2
def crcBits (c : Int) : Nat → Int
  | 0 => c
  | j + 1 => crcBit (crcBits c j)
theorem crcBit_bd {c : Int} (h0 : 0 ≤ c) (h1 : c ≤ 4294967295) : 0 ≤ crcBit c ∧ crcBit c ≤ 4294967295 := by
  unfold crcBit
  split
  · exact xorI_bd (by omega) (by omega) (by omega) (by omega)
  · omega
theorem crcBits_bd {c : Int} (h0 : 0 ≤ c) (h1 : c ≤ 4294967295) (j : Nat) : 0 ≤ crcBits c j ∧ crcBits c j ≤ 4294967295 := by
  induction j with
  | zero => exact ⟨h0, h1⟩
  | succ j ih => exact crcBit_bd ih.1 ih.2
theorem crcBit_odd {c : Int} (h : (c % 2 == 1) = true) : crcBit c = xorI (c / 2) 3988292384 := by unfold crcBit; rw [if_pos (by simpa using h)]
theorem crcBit_even {c : Int} (h : (c % 2 == 1) = false) : crcBit c = c / 2 := by unfold crcBit; rw [if_neg (by simpa using h)]
def crcByte (c x : Int) : Int := crcBits (xorI c x) 8
theorem crcByte_bd {c x : Int} (h0 : 0 ≤ c) (h1 : c ≤ 4294967295) (k0 : 0 ≤ x) (k1 : x ≤ 255) : 0 ≤ crcByte c x ∧ crcByte c x ≤ 4294967295 :=
  crcBits_bd (xorI_bd h0 h1 k0 (by omega)).1 (xorI_bd h0 h1 k0 (by omega)).2 8
def crcTo (xs : List Int) (k : Nat) : Int := foldTo crcByte 4294967295 xs k
theorem crcTo_zero (xs : List Int) : crcTo xs 0 = 4294967295 := rfl
theorem crcTo_succ (xs : List Int) (k : Nat) (hk : k < xs.length) : crcTo xs (k + 1) = crcByte (crcTo xs k) (el xs k) := foldTo_succ _ _ _ _ hk
theorem crcTo_bd {xs : List Int} (h : IsB xs) (k : Nat) (hk : k ≤ xs.length) : 0 ≤ crcTo xs k ∧ crcTo xs k ≤ 4294967295 := by
  induction k with
  | zero => rw [crcTo_zero]; omega
  | succ k ih =>
    rw [crcTo_succ _ _ (by omega)]
    have h1 := ih (by omega)
    exact crcByte_bd h1.1 h1.2 (el_bd h k).1 (el_bd h k).2
def crc (xs : List Int) : Int := 4294967295 - crcTo xs xs.length
theorem crc_bd {xs : List Int} (h : IsB xs) : 0 ≤ crc xs ∧ crc xs ≤ 4294967295 := by
  have := crcTo_bd h xs.length (Nat.le_refl _)
  unfold crc; omega

end Go.Proofs.YtkconbmgljmpfaaDoor
