/- Contracts of impl's and spec's SoonestOf and SumTicks, each as one Lean function. Conditions: the slice reads as a list (Row), at most 1048576 long. -/
import Derived.Test.YtghbdagpclhbfaaDoorTick1
import Derived.Test.YtghbdagpclhbfaaDoorPlain
import Derived.Lib.Hide
namespace Go.Proofs.YtghbdagpclhbfaaDoor
open Go.RowKit

def soonStep (b x : Int) : Int := if tickB x = true ∧ (b < 0 ∨ x < b) then x else b
theorem soonStep_no {b x : Int} (h : tickB x = false) : soonStep b x = b := by unfold soonStep; simp [h]
theorem soonStep_new {b x : Int} (h : tickB x = true) (h2 : b < 0) : soonStep b x = x := by unfold soonStep; simp [h, h2]
theorem soonStep_less {b x : Int} (h : tickB x = true) (h2 : x < b) : soonStep b x = x := by unfold soonStep; simp [h, h2]
theorem soonStep_keep {b x : Int} (h1 : 0 ≤ b) (h2 : b ≤ x) : soonStep b x = b := by unfold soonStep; rw [if_neg (fun h => by rcases h.2 with h | h <;> omega)]
def soonest (xs : List Int) : Int := if 300 < xs.length then -1 else foldTo soonStep (-1) xs xs.length

theorem soonTo_ge (xs : List Int) (k : Nat) (hk : k ≤ xs.length) : -1 ≤ foldTo soonStep (-1) xs k := by
  induction k with
  | zero => exact Int.le_refl _
  | succ k ih =>
    rw [foldTo_succ _ _ _ _ (by omega)]
    have := ih (by omega)
    unfold soonStep
    split
    · rename_i h; have := tickB_bd h.1; omega
    · exact this

def sumT (xs : List Int) : Int := if 300 < xs.length then -1 else if xs.all tickB = true then foldTo addTick 0 xs xs.length else -1
def allTo (xs : List Int) (k : Nat) : Prop := (xs.take k).all tickB = true
theorem allTo_zero (xs : List Int) : allTo xs 0 := by simp [allTo]
theorem allTo_succ (xs : List Int) (k : Nat) (hk : k < xs.length) (h : allTo xs k) (ht : tickB (el xs k) = true) : allTo xs (k + 1) := by
  unfold allTo at *
  rw [List.take_succ_eq_append_getElem hk, List.all_append, h]
  simpa [el, List.getD, hk] using ht
theorem sumT_bad (xs : List Int) (k : Nat) (hk : k < xs.length) (ht : tickB (el xs k) = false) : sumT xs = -1 := by
  unfold sumT
  split
  · rfl
  · rw [if_neg]
    intro h
    have := List.all_eq_true.1 h (xs[k]) (List.getElem_mem hk)
    simp [el, List.getD, hk] at ht
    rw [ht] at this
    exact absurd this (by decide)
theorem sumT_good (xs : List Int) (h300 : ¬ 300 < xs.length) (h : allTo xs xs.length) : sumT xs = foldTo addTick 0 xs xs.length := by
  unfold sumT
  rw [if_neg h300, if_pos (by simpa [allTo] using h)]

set_option maxHeartbeats 400000 in
theorem specSoonest_any (a : Option Addr) (len cap : Nat) (xs : List Int) (w : World) (hr : Row w a len xs) (hlen : len ≤ 1048576) :
    Calls Tryd.prog 18 #[.slice a len cap] w fun e w' => e = .returned (.int .i64 (soonest xs)) ∧ w = w' := by
  obtain ⟨rfl, hl⟩ := hr
  by_cases h3 : 300 < xs.length
  · have hp : soonest xs = -1 := by unfold soonest; rw [if_pos h3]
    rw [hp]
    clear hp
    go_enter Tryd.func18, Tryd.ntmps18
    go_wp2
    go_ret
    exact ⟨rfl, rfl⟩
  have hp : soonest xs = foldTo soonStep (-1) xs xs.length := by unfold soonest; rw [if_neg h3]
  rw [hp]
  clear hp
  by_cases h0 : xs.length = 0
  · obtain rfl : xs = [] := List.length_eq_zero_iff.1 h0
    clear h0 hl
    go_enter Tryd.func18, Tryd.ntmps18
    go_wp2
    go_loop [3, 4] (fun b i => i = .int .i64 0 ∧ b = .int .i64 (-1)) (fun _ i => 0 - (intOf i).toNat)
    case atStart => exact ⟨rfl, rfl⟩
    case round =>
      obtain ⟨rfl, rfl⟩ := hrel
      go_wp2
      go_ret
      exact ⟨rfl, rfl⟩
  · rcases hl with hl | ⟨b1, o1, rfl, hb1, hc1⟩
    · exact absurd hl h0
    have Hc := Lib.hid hc1
    clear hc1 h0
    go_enter Tryd.func18, Tryd.ntmps18
    go_wp2_with (go_at_call 8; refine (specTickOk_any _ _).mono ?_; rintro e w' ⟨rfl, rfl⟩)
    go_loop [3, 4] (fun b i => ∃ k : Nat, k ≤ xs.length ∧ i = .int .i64 k ∧ b = .int .i64 (foldTo soonStep (-1) xs k)) (fun _ i => xs.length - (intOf i).toNat)
    case atStart => exact ⟨0, Nat.zero_le _, rfl, rfl⟩
    case round =>
      obtain ⟨k, hk, rfl, rfl⟩ := hrel
      by_cases hlt : k < xs.length
      · have hck := Hc.out k hlt
        have HS := Lib.hid (foldTo_succ soonStep (-1) xs k hlt)
        generalize foldTo soonStep (-1) xs k = b at HS ⊢
        cases ht : tickB (el xs k) with
        | false =>
          go_wp2_with (go_at_call 8; refine (specTickOk_any _ _).mono ?_; rintro e w' ⟨rfl, rfl⟩)
          go_round
          case rel => exact ⟨k + 1, by omega, by go_num, by rw [HS.out, soonStep_no ht]⟩
          case measure => simp [intOf]; omega
        | true =>
          by_cases hb0 : b < 0
          · go_wp2_with (go_at_call 8; refine (specTickOk_any _ _).mono ?_; rintro e w' ⟨rfl, rfl⟩)
            go_round
            case rel => exact ⟨k + 1, by omega, by go_num, by rw [HS.out, soonStep_new ht hb0]⟩
            case measure => simp [intOf]; omega
          · by_cases hx : el xs k < b
            · go_wp2_with (go_at_call 8; refine (specTickOk_any _ _).mono ?_; rintro e w' ⟨rfl, rfl⟩)
              go_round
              case rel => exact ⟨k + 1, by omega, by go_num, by rw [HS.out, soonStep_less ht hx]⟩
              case measure => simp [intOf]; omega
            · go_wp2_with (go_at_call 8; refine (specTickOk_any _ _).mono ?_; rintro e w' ⟨rfl, rfl⟩)
              go_round
              case rel => exact ⟨k + 1, by omega, by go_num, by rw [HS.out, soonStep_keep hb0 hx]⟩
              case measure => simp [intOf]; omega
      · obtain rfl : k = xs.length := by omega
        go_wp2
        go_ret
        exact ⟨rfl, rfl⟩
set_option maxHeartbeats 400000 in
theorem implSoonest_any (a : Option Addr) (len cap : Nat) (xs : List Int) (w : World) (hr : Row w a len xs) (hlen : len ≤ 1048576) :
    Calls Tryd.prog 17 #[.slice a len cap] w fun e w' => e = .returned (.int .i64 (soonest xs)) ∧ w = w' := by
  obtain ⟨rfl, hl⟩ := hr
  by_cases h3 : 300 < xs.length
  · have hp : soonest xs = -1 := by unfold soonest; rw [if_pos h3]
    rw [hp]
    clear hp
    go_enter Tryd.func17, Tryd.ntmps17
    go_wp2
    go_ret
    exact ⟨rfl, rfl⟩
  have hp : soonest xs = foldTo soonStep (-1) xs xs.length := by unfold soonest; rw [if_neg h3]
  rw [hp]
  clear hp
  by_cases h0 : xs.length = 0
  · obtain rfl : xs = [] := List.length_eq_zero_iff.1 h0
    clear h0 hl
    go_enter Tryd.func17, Tryd.ntmps17
    go_wp2
    go_loop [3, 12] (fun b i => i = .int .i64 0 ∧ b = .int .i64 (-1)) (fun _ i => 0 - (intOf i).toNat)
    case atStart => exact ⟨rfl, rfl⟩
    case round =>
      obtain ⟨rfl, rfl⟩ := hrel
      go_wp2
      go_ret
      exact ⟨rfl, rfl⟩
  · rcases hl with hl | ⟨b1, o1, rfl, hb1, hc1⟩
    · exact absurd hl h0
    have Hc := Lib.hid hc1
    clear hc1 h0
    go_enter Tryd.func17, Tryd.ntmps17
    go_wp2_with (go_at_call 25; refine (ok_any _ _).mono ?_; rintro e w' ⟨rfl, rfl⟩)
    go_loop [3, 12] (fun b i => ∃ k : Nat, k ≤ xs.length ∧ i = .int .i64 k ∧ b = .int .i64 (foldTo soonStep (-1) xs k)) (fun _ i => xs.length - (intOf i).toNat)
    case atStart => exact ⟨0, Nat.zero_le _, rfl, rfl⟩
    case round =>
      obtain ⟨k, hk, rfl, rfl⟩ := hrel
      by_cases hlt : k < xs.length
      · have hck := Hc.out k hlt
        have HS := Lib.hid (foldTo_succ soonStep (-1) xs k hlt)
        have hge := soonTo_ge xs k hk
        generalize foldTo soonStep (-1) xs k = b at HS hge ⊢
        cases ht : tickB (el xs k) with
        | false =>
          go_wp2_with (go_at_call 25; refine (ok_any _ _).mono ?_; rintro e w' ⟨rfl, rfl⟩)
          go_round
          case rel => exact ⟨k + 1, by omega, by go_num, by rw [HS.out, soonStep_no ht]⟩
          case measure => simp [intOf]; omega
        | true =>
          by_cases hb0 : b < 0
          · obtain rfl : b = -1 := by omega
            go_wp2_with (go_at_call 25; refine (ok_any _ _).mono ?_; rintro e w' ⟨rfl, rfl⟩)
            go_round
            case rel => exact ⟨k + 1, by omega, by go_num, by rw [HS.out, soonStep_new ht (by omega)]⟩
            case measure => simp [intOf]; omega
          · have hbe : (b == -1) = false := by simp; omega
            by_cases hx : el xs k < b
            · go_wp2_with (go_at_call 25; refine (ok_any _ _).mono ?_; rintro e w' ⟨rfl, rfl⟩)
              go_round
              case rel => exact ⟨k + 1, by omega, by go_num, by rw [HS.out, soonStep_less ht hx]⟩
              case measure => simp [intOf]; omega
            · go_wp2_with (go_at_call 25; refine (ok_any _ _).mono ?_; rintro e w' ⟨rfl, rfl⟩)
              go_round
              case rel => exact ⟨k + 1, by omega, by go_num, by rw [HS.out, soonStep_keep hb0 hx]⟩
              case measure => simp [intOf]; omega
      · obtain rfl : k = xs.length := by omega
        go_wp2
        go_ret
        exact ⟨rfl, rfl⟩
set_option maxHeartbeats 400000 in
set_option maxHeartbeats 400000 in
theorem sumOf_any (a : Option Addr) (len cap : Nat) (xs : List Int) (w : World) (hr : Row w a len xs) (hlen : len ≤ 1048576) :
    Calls Tryd.prog 31 #[.slice a len cap] w fun e w' => e = .returned (.int .i64 (sumT xs)) ∧ w = w' := by
  obtain ⟨rfl, hl⟩ := hr
  by_cases h3 : 300 < xs.length
  · have hp : sumT xs = -1 := by unfold sumT; rw [if_pos h3]
    rw [hp]
    clear hp
    go_enter Tryd.func31, Tryd.ntmps31
    go_wp2
    go_ret
    exact ⟨rfl, rfl⟩
  by_cases h0 : xs.length = 0
  · obtain rfl : xs = [] := List.length_eq_zero_iff.1 h0
    clear h0 hl
    go_enter Tryd.func31, Tryd.ntmps31
    go_wp2
    go_loop [3, 11] (fun b i => i = .int .i64 0 ∧ b = .int .i64 0) (fun _ i => 0 - (intOf i).toNat)
    case atStart => exact ⟨rfl, rfl⟩
    case round =>
      obtain ⟨rfl, rfl⟩ := hrel
      go_wp2
      go_ret
      exact ⟨rfl, rfl⟩
  · rcases hl with hl | ⟨b1, o1, rfl, hb1, hc1⟩
    · exact absurd hl h0
    have Hc := Lib.hid hc1
    clear hc1 h0
    go_enter Tryd.func31, Tryd.ntmps31
    go_wp2
    go_loop [3, 11] (fun b i => ∃ k : Nat, k ≤ xs.length ∧ i = .int .i64 k ∧ b = .int .i64 (foldTo addTick 0 xs k) ∧ allTo xs k) (fun _ i => xs.length - (intOf i).toNat)
    case atStart => exact ⟨0, Nat.zero_le _, rfl, rfl, allTo_zero xs⟩
    case round =>
      obtain ⟨k, hk, rfl, rfl, hall⟩ := hrel
      have HA := Lib.hid hall
      clear hall
      by_cases hlt : k < xs.length
      · have hck := Hc.out k hlt
        have HS := Lib.hid (foldTo_succ addTick 0 xs k hlt)
        generalize foldTo addTick 0 xs k = b at HS ⊢
        cases ht : tickB (el xs k) with
        | false =>
          have HB := Lib.hid (sumT_bad xs k hlt ht)
          go_wp2_with (go_at_call 25; refine (ok_any _ _).mono ?_; rintro e w' ⟨rfl, rfl⟩)
          go_ret
          exact ⟨by rw [HB.out]; rfl, rfl⟩
        | true =>
          have HN := Lib.hid (allTo_succ xs k hlt HA.out ht)
          go_wp2_with (first | (go_at_call 25; refine (ok_any _ _).mono ?_; rintro e w' ⟨rfl, rfl⟩) | (go_at_call 24; refine (plus_any _ _ _).mono ?_; rintro e w' ⟨rfl, rfl⟩))
          go_round
          case rel => exact ⟨k + 1, by omega, by go_num, by rw [HS.out], HN.out⟩
          case measure => simp [intOf]; omega
      · obtain rfl : k = xs.length := by omega
        have HG := Lib.hid (sumT_good xs (by omega) HA.out)
        go_wp2
        go_ret
        exact ⟨by rw [HG.out]; rfl, rfl⟩
theorem implSum_any (a : Option Addr) (len cap : Nat) (xs : List Int) (w : World) (hr : Row w a len xs) (hlen : len ≤ 1048576) :
    Calls Tryd.prog 16 #[.slice a len cap] w fun e w' => e = .returned (.int .i64 (sumT xs)) ∧ w = w' := by
  go_enter Tryd.func16, Tryd.ntmps16
  go_wp2_with (go_at_call 31; refine (sumOf_any a len cap xs _ hr hlen).mono ?_; rintro e w' ⟨rfl, rfl⟩)
  go_ret
  exact ⟨rfl, rfl⟩

end Go.Proofs.YtghbdagpclhbfaaDoor
