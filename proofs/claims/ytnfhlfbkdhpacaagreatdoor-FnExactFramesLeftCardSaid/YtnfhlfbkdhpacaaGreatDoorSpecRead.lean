/- Contracts of spec.l02Size and spec.l02Read. -/
import Derived.Test.YtnfhlfbkdhpacaaGreatDoorPlainSpec
import Derived.Test.YtnfhlfbkdhpacaaGreatDoorNext
namespace Go.Proofs.YtnfhlfbkdhpacaaGreatDoor
open Go.RowKit

set_option maxRecDepth 100000 in
theorem size_any (k : Int) (w : World) : Calls Tryz.prog 196 #[.int .i64 k] w fun e w' => e = .returned (.int .i64 (sizeK k)) ∧ w = w' := by
  cases h1 : (k == 1) with
  | true =>
    have e : Hid (sizeK k = 9) := Lib.hid (by simp at h1; subst h1; rfl)
    rw [e.out]
    go_enter Tryz.func196, Tryz.ntmps196
    go_wp2
    go_ret
    exact ⟨rfl, rfl⟩
  | false =>
    cases h2 : (k == 2) with
    | true =>
      have e : Hid (sizeK k = 4) := Lib.hid (by simp at h2; subst h2; rfl)
      rw [e.out]
      go_enter Tryz.func196, Tryz.ntmps196
      go_wp2
      go_ret
      exact ⟨rfl, rfl⟩
    | false =>
      cases h3 : (k == 3) with
      | true =>
        have e : Hid (sizeK k = 1) := Lib.hid (by simp at h3; subst h3; rfl)
        rw [e.out]
        go_enter Tryz.func196, Tryz.ntmps196
        go_wp2
        go_ret
        exact ⟨rfl, rfl⟩
      | false =>
        have e : Hid (sizeK k = 0) := Lib.hid (by simp at h1 h2 h3; unfold sizeK; rw [if_neg h1, if_neg h2, if_neg h3])
        rw [e.out]
        go_enter Tryz.func196, Tryz.ntmps196
        go_wp2
        go_ret
        exact ⟨rfl, rfl⟩
/-- The number of the first k bytes. -/
def readTo (xs : List Int) (k : Nat) : Int := readL (xs.take k)
theorem readTo_succ (xs : List Int) (k : Nat) (hk : k < xs.length) : readTo xs (k + 1) = 256 * readTo xs k + el xs k := by
  unfold readTo
  rw [el_take xs k hk, readL_snoc]; omega
theorem readTo_bd {xs : List Int} (hx : IsB xs) (k : Nat) (hk : k ≤ 2) : 0 ≤ readTo xs k ∧ readTo xs k ≤ 65535 := by
  have h := readL_bd (hx.take k) 2 (by rw [List.length_take]; omega)
  have e : ((256 ^ 2 : Nat) : Int) = 65536 := by decide
  unfold readTo
  omega

set_option maxRecDepth 100000 in
set_option maxHeartbeats 1000000 in
theorem read_any (a : Option Addr) (n c : Nat) (xs : List Int) (hi : Nat) (w : World) (hr : Nums .u8 w hi a c xs) (hn : n = xs.length) (hx : IsB xs) (hl : xs.length ≤ 3) :
    Calls Tryz.prog 198 #[.slice a n c] w fun e w' => e = .returned (.int .i64 (readL xs)) ∧ w = w' := by
  subst hn
  have hc1 := hr.cap
  have hc2 := hr.big
  rcases hr.lies with h0 | ⟨b, off, rfl, hb, hc⟩
  · subst h0
    have hz : Hid (readL [] = 0) := Lib.hid rfl
    rw [hz.out]
    clear hr
    go_enter Tryz.func198, Tryz.ntmps198
    go_wp2
    go_loop [3, 4] (fun x i => i = .int .i64 0 ∧ x = .int .i64 0) (fun _ i => 0)
    case atStart => exact ⟨rfl, rfl⟩
    case round =>
      obtain ⟨rfl, rfl⟩ := hrel
      go_wp2
      go_ret
      exact ⟨rfl, rfl⟩
  · have HC := Lib.hid hc
    have HX := Lib.hid hx
    clear hc hr hx
    go_enter Tryz.func198, Tryz.ntmps198
    go_wp2
    go_loop [3, 4] (fun x i => ∃ k : Nat, k ≤ xs.length ∧ i = .int .i64 k ∧ x = .int .i64 (readTo xs k)) (fun _ i => xs.length - (intOf i).toNat)
    case atStart => exact ⟨0, Nat.zero_le _, rfl, rfl⟩
    case round =>
      obtain ⟨k, hk, rfl, rfl⟩ := hrel
      by_cases hlt : k < xs.length
      · have hcb := readTo_bd HX.out k (by omega)
        have hck := HC.out k hlt
        have hxb := el_bd HX.out k
        have HS := Lib.hid (readTo_succ xs k hlt)
        generalize readTo xs k = C at HS hcb ⊢
        generalize el xs k = x at HS hck hxb ⊢
        obtain ⟨hc0, hc1'⟩ := hcb
        obtain ⟨hx0, hx1⟩ := hxb
        go_wp2
        go_round
        case rel => exact ⟨k + 1, by omega, by go_num, by rw [HS.out]⟩
        case measure => simp [intOf]; omega
      · obtain rfl : k = xs.length := by omega
        have HE : Hid (readL xs = readTo xs xs.length) := Lib.hid (by unfold readTo; rw [List.take_length])
        go_wp2
        go_ret
        exact ⟨ret_int HE.out.symm, rfl⟩

end Go.Proofs.YtnfhlfbkdhpacaaGreatDoor
