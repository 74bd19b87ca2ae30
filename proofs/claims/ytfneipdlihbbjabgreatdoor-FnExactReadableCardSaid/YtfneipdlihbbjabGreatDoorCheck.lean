/- Contracts of spec.Check and impl.Check: both are the one remainder (crc) of whatever bytes. -/
import Derived.Test.YtfneipdlihbbjabGreatDoorProg
import Derived.Test.YtfneipdlihbbjabGreatDoorPlains
import Derived.WalkKit
import Derived.WalkSpells
import Derived.ProofKit
import Derived.Lib.Hide
import Derived.Outline
namespace Go.Proofs.YtfneipdlihbbjabGreatDoor
open Go.RowKit

set_option maxRecDepth 100000 in
set_option maxHeartbeats 1000000 in
theorem specCheck_any (a : Option Addr) (n c : Nat) (xs : List Int) (hi : Nat) (w : World) (hr : Nums .u8 w hi a c xs) (hn : n = xs.length) (hx : IsB xs) :
    Calls Tryz.prog 79 #[.slice a n c] w fun e w' => e = .returned (.int .i64 (crc xs)) ∧ w = w' := by
  subst hn
  have hc1 := hr.cap
  have hc2 := hr.big
  rcases hr.lies with h0 | ⟨b, off, rfl, hb, hc⟩
  · subst h0
    have hz : Hid (crc [] = 0) := by unfold crc crcTo foldTo; rfl
    rw [hz.out]
    clear hr
    go_enter Tryz.func79, Tryz.ntmps79
    go_wp2
    go_loop [3, 4, 5] (fun c i _ => i = .int .i64 0 ∧ c = .int .i64 4294967295) (fun _ i _ => 0)
    case atStart => exact ⟨rfl, rfl⟩
    case round =>
      obtain ⟨rfl, rfl⟩ := hrel
      go_wp2
      go_ret
      exact ⟨rfl, rfl⟩
  · have HC := Lib.hid hc
    have HX := Lib.hid hx
    clear hc hr hx
    go_enter Tryz.func79, Tryz.ntmps79
    go_wp2
    go_loop [3, 4, 5] (fun c i _ => ∃ k : Nat, k ≤ xs.length ∧ i = .int .i64 k ∧ c = .int .i64 (crcTo xs k)) (fun _ i _ => xs.length - (intOf i).toNat)
    case atStart => exact ⟨0, Nat.zero_le _, rfl, rfl⟩
    case round =>
      obtain ⟨k, hk, rfl, rfl⟩ := hrel
      have hcb := crcTo_bd HX.out k hk
      by_cases hlt : k < xs.length
      · have hck := HC.out k hlt
        have hxb := el_bd HX.out k
        have HS := Lib.hid (crcTo_succ xs k hlt)
        generalize crcTo xs k = C at HS hcb ⊢
        generalize el xs k = x at HS hck hxb ⊢
        obtain ⟨hc0, hc1'⟩ := hcb
        obtain ⟨hx0, hx1⟩ := hxb
        have hdb := xorI_bd hc0 hc1' hx0 (show x ≤ 4294967295 by omega)
        have hxr := xor_i64 hc0 hc1' hx0 (show x ≤ 4294967295 by omega)
        have HS2 : Hid (crcTo xs (k + 1) = crcBits (xorI C x) 8) := HS.out
        generalize xorI C x = D at hdb hxr HS2
        obtain ⟨hd0, hd1⟩ := hdb
        go_wp2
        go_loop [3, 5] (fun c j => ∃ m : Nat, m ≤ 8 ∧ j = .int .i64 m ∧ c = .int .i64 (crcBits D m)) (fun _ j => 8 - (intOf j).toNat)
        case atStart => exact ⟨0, by omega, rfl, rfl⟩
        case round =>
          obtain ⟨m, hm, rfl, rfl⟩ := hrel
          have heb := crcBits_bd hd0 hd1 m
          by_cases hm8 : m < 8
          · have HT : Hid (crcBits D (m + 1) = crcBit (crcBits D m)) := rfl
            generalize crcBits D m = E at HT heb ⊢
            obtain ⟨he0, he1⟩ := heb
            have hq0 : 0 ≤ E / 2 := by omega
            have hq1 : E / 2 ≤ 4294967295 := by omega
            cases ho : (E % 2 == 1) with
            | true =>
              have hyr := xor_i64 hq0 hq1 (show (0 : Int) ≤ 3988292384 by omega) (by omega)
              have HO := Lib.hid (crcBit_odd ho)
              go_wp2
              go_round
              case rel => exact ⟨m + 1, by omega, by go_num, by rw [HT.out, HO.out]⟩
              case measure => simp [intOf]; omega
            | false =>
              have HO := Lib.hid (crcBit_even ho)
              go_wp2
              go_round
              case rel => exact ⟨m + 1, by omega, by go_num, by rw [HT.out, HO.out]⟩
              case measure => simp [intOf]; omega
          · obtain rfl : m = 8 := by omega
            go_wp2
            go_round
            case rel => exact ⟨k + 1, by omega, by go_num, by rw [HS2.out]⟩
            case measure => simp [intOf]; omega
      · obtain rfl : k = xs.length := by omega
        have HE : Hid (crc xs = 4294967295 - crcTo xs xs.length) := rfl
        generalize crcTo xs xs.length = C at hcb HE ⊢
        obtain ⟨hc0, hc1'⟩ := hcb
        go_wp2
        go_ret
        exact ⟨ret_int HE.out.symm, rfl⟩
set_option maxRecDepth 100000 in
set_option maxHeartbeats 1000000 in
theorem implCheck_any (a : Option Addr) (n c : Nat) (xs : List Int) (hi : Nat) (w : World) (hr : Nums .u8 w hi a c xs) (hn : n = xs.length) (hx : IsB xs) :
    Calls Tryz.prog 84 #[.slice a n c] w fun e w' => e = .returned (.int .i64 (crc xs)) ∧ w = w' := by
  subst hn
  have hc1 := hr.cap
  have hc2 := hr.big
  rcases hr.lies with h0 | ⟨b, off, rfl, hb, hc⟩
  · subst h0
    have hz : Hid (crc [] = 0) := by unfold crc crcTo foldTo; rfl
    rw [hz.out]
    clear hr
    have hnot := not_u32 (show (0 : Int) ≤ 4294967295 by omega) (by omega)
    have e0 : (4294967295 : Int) - 4294967295 = 0 := by omega
    rw [e0] at hnot
    clear e0
    go_enter Tryz.func84, Tryz.ntmps84
    go_wp2
    go_loop [3, 5, 6, 9, 17] (fun c _ _ i _ => i = .int .i64 0 ∧ c = .int .u32 4294967295) (fun _ _ _ i _ => 0)
    case atStart => exact ⟨rfl, rfl⟩
    case round =>
      obtain ⟨rfl, rfl⟩ := hrel
      go_wp2
      go_ret
      exact ⟨ret_int (a := wrap64 0) (by unfold wrap64; omega), rfl⟩
  · have HC := Lib.hid hc
    have HX := Lib.hid hx
    clear hc hr hx
    go_enter Tryz.func84, Tryz.ntmps84
    go_wp2
    go_loop [3, 5, 6, 9, 17] (fun c _ _ i _ => ∃ k : Nat, k ≤ xs.length ∧ i = .int .i64 k ∧ c = .int .u32 (crcTo xs k)) (fun _ _ _ i _ => xs.length - (intOf i).toNat)
    case atStart => exact ⟨0, Nat.zero_le _, rfl, rfl⟩
    case round =>
      obtain ⟨k, hk, rfl, rfl⟩ := hrel
      have hcb := crcTo_bd HX.out k hk
      by_cases hlt : k < xs.length
      · have hck := HC.out k hlt
        have hxb := el_bd HX.out k
        have HS := Lib.hid (crcTo_succ xs k hlt)
        generalize crcTo xs k = C at HS hcb ⊢
        generalize el xs k = x at HS hck hxb ⊢
        obtain ⟨hc0, hc1'⟩ := hcb
        obtain ⟨hx0, hx1⟩ := hxb
        have hdb := xorI_bd hc0 hc1' hx0 (show x ≤ 4294967295 by omega)
        have hxr := xor_u32 hc0 hc1' hx0 (show x ≤ 4294967295 by omega)
        have HS2 : Hid (crcTo xs (k + 1) = crcBits (xorI C x) 8) := HS.out
        generalize xorI C x = D at hdb hxr HS2
        obtain ⟨hd0, hd1⟩ := hdb
        go_wp2
        go_loop [3, 6, 17] (fun c _ j => ∃ m : Nat, m ≤ 8 ∧ j = .int .i64 m ∧ c = .int .u32 (crcBits D m)) (fun _ _ j => 8 - (intOf j).toNat)
        case atStart => exact ⟨0, by omega, rfl, rfl⟩
        case round =>
          obtain ⟨m, hm, rfl, rfl⟩ := hrel
          have heb := crcBits_bd hd0 hd1 m
          by_cases hm8 : m < 8
          · have HT : Hid (crcBits D (m + 1) = crcBit (crcBits D m)) := rfl
            generalize crcBits D m = E at HT heb ⊢
            obtain ⟨he0, he1⟩ := heb
            have hq0 : 0 ≤ E / 2 := by omega
            have hq1 : E / 2 ≤ 4294967295 := by omega
            have ha1 := and1_u32 he0 he1
            cases ho : (E % 2 == 1) with
            | true =>
              have hyr := xor_u32 hq0 hq1 (show (0 : Int) ≤ 3988292384 by omega) (by omega)
              have HO := Lib.hid (crcBit_odd ho)
              go_wp2
              go_round
              case rel => exact ⟨m + 1, by omega, by go_num, by rw [HT.out, HO.out]⟩
              case measure => simp [intOf]; omega
            | false =>
              have HO := Lib.hid (crcBit_even ho)
              go_wp2
              go_round
              case rel => exact ⟨m + 1, by omega, by go_num, by rw [HT.out, HO.out]⟩
              case measure => simp [intOf]; omega
          · obtain rfl : m = 8 := by omega
            go_wp2
            go_round
            case rel => exact ⟨k + 1, by omega, by go_num, by rw [HS2.out]⟩
            case measure => simp [intOf]; omega
      · obtain rfl : k = xs.length := by omega
        have HE : Hid (crc xs = 4294967295 - crcTo xs xs.length) := rfl
        generalize crcTo xs xs.length = C at hcb HE ⊢
        obtain ⟨hc0, hc1'⟩ := hcb
        have hnot := not_u32 hc0 hc1'
        go_wp2
        go_ret
        exact ⟨ret_int (by rw [HE.out]; unfold wrap64; omega), rfl⟩

end Go.Proofs.YtfneipdlihbbjabGreatDoor
