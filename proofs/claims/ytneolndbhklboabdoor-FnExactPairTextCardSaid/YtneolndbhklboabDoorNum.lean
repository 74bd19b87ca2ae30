/- The contract of spec.l01Num: the decimal numeral of every int. -/
import Derived.Test.YtneolndbhklboabDoorProg
import Derived.Test.YtneolndbhklboabDoorPlainNum
import Derived.WalkKit
import Derived.ProofKit
import Derived.Below
import Derived.Outline
import Derived.Lib.Hide
namespace Go.Proofs.YtneolndbhklboabDoor
open Go.RowKit

theorem digs_len (u : Nat) (h : u < 18446744073709551616) : (digs u).length ≤ 20 := by
  unfold digs
  split
  · simp
  · rw [Lib.decDigits_length]; exact Lib.nDigits_le20 u h

set_option maxRecDepth 100000 in
set_option maxHeartbeats 400000 in
theorem num_pos (u0 : Nat) (hu : 0 < u0) (hb : (u0 : Int) ≤ 9223372036854775807) (w : World) :
    Calls Tryd.prog 7 #[.int .i64 (u0 : Int)] w fun e w' => e = .returned (.string (str (Lib.itoa u0))) ∧ Below w.heap.size w w' := by
  have h0 : ((u0 : Int) == 0) = false := by simp; omega
  have hn : decide ((u0 : Int) < 0) = false := by simp
  have hlen := digs_len u0 (by omega)
  rw [itoa_nat u0 hu]
  go_enter Tryd.func7, Tryd.ntmps7
  go_wp2
  go_loopw [0, 3] (fun x s wr => ∃ (u : Nat) (l : List UInt8), x = .int .i64 (u : Int) ∧ (u : Int) ≤ 9223372036854775807 ∧ s = .string (str l) ∧ Hid (digs u ++ l = digs u0) ∧ Below w.heap.size w wr) (fun x _ _ => (intOf x).toNat)
  case atStart => exact ⟨u0, [], rfl, hb, rfl, by simp [Hid], Below.refl _ _⟩
  case round =>
    obtain ⟨u, l, rfl, hub, rfl, hl, hbel⟩ := hrel
    have hll : l.length ≤ 20 := by have := congrArg List.length (show digs u ++ l = digs u0 from hl); simp at this; omega
    by_cases hz : 0 < u
    · have hne : ((u : Int) != 0) = true := by simp; omega
      have hd0 : decide ((u : Int) % 10 < 0) = false := by simp; omega
      have hcv := conv_one (P := Tryd.prog) 29 5 9 Tryd.underlying29 Tryd.underlying5 Tryd.underlying9 wr 5 (48 + (u : Int) % 10)
      have hst : Hid (digs (u / 10) ++ (byteOf (48 + (u : Int) % 10) :: l) = digs u0) := by
        rw [byteOf_digit]
        have h2 : digs u ++ l = digs u0 := hl
        rw [digs_step hz, List.append_assoc] at h2
        exact h2
      have hb2 := hbel.alloc hbel.size (.cells #[.int .u8 (48 + (u : Int) % 10)] 5)
      clear hl
      go_wp2
      go_roundw
      case rel => exact ⟨u / 10, _, by go_num, by omega, rfl, hst, hb2⟩
      case measure => simp [intOf]; omega
    · obtain rfl : u = 0 := by omega
      have hfin : Hid (l = digs u0) := by
        have h2 : digs 0 ++ l = digs u0 := hl
        rw [digs_zero, List.nil_append] at h2
        exact h2
      clear hl
      go_wp2
      go_ret
      exact ⟨by rw [hfin.out]; rfl, hbel⟩

set_option maxRecDepth 100000 in
set_option maxHeartbeats 400000 in
theorem num_neg (u0 : Nat) (hu : 0 < u0) (hb : (u0 : Int) ≤ 9223372036854775808) (w : World) :
    Calls Tryd.prog 7 #[.int .i64 (-(u0 : Int))] w fun e w' => e = .returned (.string (str (Lib.itoa (-(u0 : Int))))) ∧ Below w.heap.size w w' := by
  have h0 : ((-(u0 : Int)) == 0) = false := by simp; omega
  have hn : decide ((-(u0 : Int)) < 0) = true := by simp; omega
  have hlen := digs_len u0 (by omega)
  rw [itoa_minus u0 hu]
  go_enter Tryd.func7, Tryd.ntmps7
  go_wp2
  go_loopw [0, 3] (fun x s wr => ∃ (u : Nat) (l : List UInt8), x = .int .i64 (-(u : Int)) ∧ (u : Int) ≤ 9223372036854775808 ∧ s = .string (str l) ∧ Hid (digs u ++ l = digs u0) ∧ Below w.heap.size w wr) (fun x _ _ => (-(intOf x)).toNat)
  case atStart => exact ⟨u0, [], rfl, hb, rfl, by simp [Hid], Below.refl _ _⟩
  case round =>
    obtain ⟨u, l, rfl, hub, rfl, hl, hbel⟩ := hrel
    have hll : l.length ≤ 20 := by have := congrArg List.length (show digs u ++ l = digs u0 from hl); simp at this; omega
    by_cases hz : 0 < u
    · have hne : ((-(u : Int)) != 0) = true := by simp; omega
      have hcv := conv_one (P := Tryd.prog) 29 5 9 Tryd.underlying29 Tryd.underlying5 Tryd.underlying9 wr 5 (48 + (u : Int) % 10)
      have hst : Hid (digs (u / 10) ++ (byteOf (48 + (u : Int) % 10) :: l) = digs u0) := by
        rw [byteOf_digit]
        have h2 : digs u ++ l = digs u0 := hl
        rw [digs_step hz, List.append_assoc] at h2
        exact h2
      have hb2 := hbel.alloc hbel.size (.cells #[.int .u8 (48 + (u : Int) % 10)] 5)
      clear hl
      have hm : (-(u : Int)).tmod 10 = -((u : Int) % 10) := by rw [Int.neg_tmod]; rw [Int.tmod_eq_emod_of_nonneg (by omega)]
      have hq : (-(u : Int)).tdiv 10 = -((u : Int) / 10) := by rw [Int.neg_tdiv]; rw [Int.tdiv_eq_ediv_of_nonneg (by omega)]
      by_cases hd : (u : Int) % 10 = 0
      · rw [hd] at hm hcv hst hb2
        rw [Int.add_zero] at hcv hst hb2
        have hd1 : ¬ 0 < (u : Int) % 10 := by omega
        clear hd
        go_wp2
        go_roundw
        case rel => exact ⟨u / 10, _, by go_num, by omega, rfl, hst, hb2⟩
        case measure => simp [intOf]; omega
      · go_wp2
        go_roundw
        case rel => exact ⟨u / 10, _, by go_num, by omega, rfl, hst, hb2⟩
        case measure => simp [intOf]; omega
    · obtain rfl : u = 0 := by omega
      have hfin : Hid (l = digs u0) := by
        have h2 : digs 0 ++ l = digs u0 := hl
        rw [digs_zero, List.nil_append] at h2
        exact h2
      clear hl
      go_wp2
      go_ret
      exact ⟨by rw [hfin.out]; rfl, hbel⟩

theorem num_any (x : Int) (h1 : -9223372036854775808 ≤ x) (h2 : x ≤ 9223372036854775807) (w : World) :
    Calls Tryd.prog 7 #[.int .i64 x] w fun e w' => e = .returned (.string (str (Lib.itoa x))) ∧ Below w.heap.size w w' := by
  by_cases hp : 0 < x
  · obtain ⟨u, rfl⟩ := Int.eq_ofNat_of_zero_le (show 0 ≤ x by omega)
    exact num_pos u (by omega) (by omega) w
  · by_cases hz : x = 0
    · subst hz
      rw [itoa_zero]
      go_enter Tryd.func7, Tryd.ntmps7
      go_wp2
      go_ret
      exact ⟨rfl, Below.refl _ _⟩
    · obtain ⟨u, hu⟩ := Int.eq_ofNat_of_zero_le (show 0 ≤ -x by omega)
      obtain rfl : x = -(u : Int) := by omega
      exact num_neg u (by omega) (by omega) w

end Go.Proofs.YtneolndbhklboabDoor
