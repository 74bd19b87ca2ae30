/- Plain: the text of a tick. -/
import Derived.Test.YtghbdagpclhbfaaDoorPlainNum
import Derived.Test.YtghbdagpclhbfaaDoorTick1
import Derived.Lib.Repeat
namespace Go.Proofs.YtghbdagpclhbfaaDoor

def pad3 (r : Int) : List UInt8 := [byteOf (48 + r / 100), byteOf (48 + r / 10 % 10), byteOf (48 + r % 10)]
def tickL (t : Int) : List UInt8 := Lib.itoa (t / 1000) ++ [46] ++ pad3 (t % 1000)
def tickText (t : Int) : List UInt8 := if tickB t = true then tickL t else []
theorem tickText_no {t : Int} (h : tickB t = false) : tickText t = [] := by unfold tickText; simp [h]
theorem tickText_yes {t : Int} (h : tickB t = true) : tickText t = tickL t := by unfold tickText; rw [if_pos h]

theorem dig_eq (u : Nat) (x : Int) (h : x = ((48 + u : Nat) : Int)) : UInt8.ofNat (48 + u) = byteOf x := by
  subst h; rfl

/-- The rest of a tick, filled up with noughts to three places. -/
theorem pad_itoa (r : Nat) (hr : r < 1000) : (Lib.itoa (r : Int)).length ≤ 3 ∧ 1 ≤ (Lib.itoa (r : Int)).length ∧ Lib.repeatL [48] (3 - (Lib.itoa (r : Int)).length) ++ Lib.itoa (r : Int) = pad3 (r : Int) := by
  rw [Lib.itoa_nonneg]
  unfold pad3
  by_cases h1 : r < 10
  · rw [Lib.decDigits_one h1]
    refine ⟨by simp, by simp, ?_⟩
    rw [← dig_eq 0 _ (by omega), ← dig_eq 0 (48 + (r : Int) / 10 % 10) (by omega), ← dig_eq r (48 + (r : Int) % 10) (by omega)]
    rfl
  · by_cases h2 : r < 100
    · rw [Lib.decDigits_two h1 h2]
      refine ⟨by simp, by simp, ?_⟩
      rw [← dig_eq 0 _ (by omega), ← dig_eq (r / 10) (48 + (r : Int) / 10 % 10) (by omega), ← dig_eq (r % 10) (48 + (r : Int) % 10) (by omega)]
      rfl
    · have e : Lib.decDigits r = [UInt8.ofNat (48 + r / 100), UInt8.ofNat (48 + r / 10 % 10), UInt8.ofNat (48 + r % 10)] := by
        rw [Lib.decDigits, dif_neg (by omega), Lib.decDigits_two (by omega) (by omega)]
        have e1 : r / 10 / 10 = r / 100 := by omega
        rw [e1]
        rfl
      rw [e]
      refine ⟨by simp, by simp, ?_⟩
      rw [← dig_eq (r / 100) _ (by omega), ← dig_eq (r / 10 % 10) (48 + (r : Int) / 10 % 10) (by omega), ← dig_eq (r % 10) (48 + (r : Int) % 10) (by omega)]
      rfl

end Go.Proofs.YtghbdagpclhbfaaDoor
