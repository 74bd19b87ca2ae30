/- Contract of impl.putNumber: a number in so many bytes behind a row of the call's own. -/
import Derived.Test.YtfneipdlihbbjabGreatDoorSpecBytes
namespace Go.Proofs.YtfneipdlihbbjabGreatDoor
open Go.RowKit

set_option maxHeartbeats 2000000 in
theorem putNumber_any (a : Option Addr) (m c : Nat) (xs : List Int) (x : Int) (n lo : Nat) (h0 : 0 ≤ x) (h1 : x ≤ 4294967295) (hn : n ≤ 4) (w : World) (hr : w.ownsRow lo 5 1 (.slice a m c) m (xs.map (Value.int .u8))) (hm : m = xs.length) (hlen : xs.length ≤ 1048576) (hlo : lo ≤ w.heap.size) :
    Calls Tryz.prog 83 #[.slice a m c, .int .i64 x, .int .i64 (n : Int)] w (OwnNums 5 .u8 lo (xs ++ wide n x) w) := by
  subst hm
  obtain ⟨i0, hi0, hz0, hz1, hz2⟩ := info_parts infoU8
  have HR := Lib.hid hr
  clear hr
  go_enter Tryz.func83, Tryz.ntmps83
  go_wp2
  go_loopw [0, 7] (fun v i wr => ∃ (j r : Nat) (I : Int) (a' : Option Addr) (c' : Nat), j + r = n ∧ I = (r : Int) - 1 ∧ i = .int .i64 I ∧ v = .slice a' (xs.length + j) c' ∧ wr.ownsRow lo 5 1 (.slice a' (xs.length + j) c') (xs.length + j) ((xs ++ (wide n x).take j).map (Value.int .u8)) ∧ Below lo w wr)
    (fun _ i _ => (intOf i + 1).toNat)
  case atStart => exact ⟨0, n, _, _, _, by omega, rfl, rfl, rfl, by simpa using HR.out, Below.refl _ _⟩
  case round =>
    obtain ⟨j, r, I, a', c', hjr, hI, rfl, rfl, hown, hb⟩ := hrel
    have hsz := hb.size
    by_cases hI0 : I = 0
    · subst hI0
      obtain rfl : r = 1 := by omega
      have HT := Lib.hid (wide_at0 x hjr)
      have HJ := Lib.hid hjr
      have hjn : j + 1 ≤ n := by omega
      clear hI hjr
      have HB := Lib.hid hb
      clear hb
      go_wp2_with (at_builtin; refine wpList_append_own _ rfl _ _ 55 rfl lo 5 i0 (.int .u8 0) 1 1 Tryz.underlying55 hi0 hz0 hz1 hz2 rfl (by decide) _ _ _ rfl (hown.alloc _) ⟨wr.heap.size, 0, none⟩ 1 1 [.int .u8 (x % 256)] rfl rfl (cell_one_new _ _ _) (one_u8 _) ?c3 ?c4 ?c5 ?_)
      case c3 => unfold maxLen; omega
      case c4 => omega
      case c5 => simp; omega
      intro v' w1 hown' hg _
      obtain ⟨a2, c2, rfl⟩ := owns_shape hown'
      have hb2 := (HB.out.alloc (Nat.le_trans hlo hsz) _).trans (below_own (hown.alloc _) hg (by simp; omega))
      have hown2 : w1.ownsRow lo 5 1 (.slice a2 (xs.length + (j + 1)) c2) (xs.length + (j + 1)) ((xs ++ (wide n x).take (j + 1)).map (Value.int .u8)) := by rw [HT.out]; simpa [Nat.add_assoc] using hown'
      have HO := Lib.hid hown2
      clear hown2
      have HB2 := Lib.hid hb2
      clear hown' hb2 hg hown
      go_wp2
      go_roundw
      case rel => exact ⟨j + 1, 0, _, _, _, by have := HJ.out; omega, by rfl, by go_num, by rfl, HO.out, HB2.out⟩
      case measure => simp [intOf]
    by_cases hI1 : I = 1
    · subst hI1
      obtain rfl : r = 2 := by omega
      have HT := Lib.hid (wide_at1 x hjr)
      have HJ := Lib.hid hjr
      have hjn : j + 2 ≤ n := by omega
      clear hI hjr
      have HB := Lib.hid hb
      clear hb
      go_wp2_with (at_builtin; refine wpList_append_own _ rfl _ _ 55 rfl lo 5 i0 (.int .u8 0) 1 1 Tryz.underlying55 hi0 hz0 hz1 hz2 rfl (by decide) _ _ _ rfl (hown.alloc _) ⟨wr.heap.size, 0, none⟩ 1 1 [.int .u8 (x / 256 % 256)] rfl rfl (cell_one_new _ _ _) (one_u8 _) ?c3 ?c4 ?c5 ?_)
      case c3 => unfold maxLen; omega
      case c4 => omega
      case c5 => simp; omega
      intro v' w1 hown' hg _
      obtain ⟨a2, c2, rfl⟩ := owns_shape hown'
      have hb2 := (HB.out.alloc (Nat.le_trans hlo hsz) _).trans (below_own (hown.alloc _) hg (by simp; omega))
      have hown2 : w1.ownsRow lo 5 1 (.slice a2 (xs.length + (j + 1)) c2) (xs.length + (j + 1)) ((xs ++ (wide n x).take (j + 1)).map (Value.int .u8)) := by rw [HT.out]; simpa [Nat.add_assoc] using hown'
      have HO := Lib.hid hown2
      clear hown2
      have HB2 := Lib.hid hb2
      clear hown' hb2 hg hown
      go_wp2
      go_roundw
      case rel => exact ⟨j + 1, 1, _, _, _, by have := HJ.out; omega, by rfl, by go_num, by rfl, HO.out, HB2.out⟩
      case measure => simp [intOf]
    by_cases hI2 : I = 2
    · subst hI2
      obtain rfl : r = 3 := by omega
      have HT := Lib.hid (wide_at2 x hjr)
      have HJ := Lib.hid hjr
      have hjn : j + 3 ≤ n := by omega
      clear hI hjr
      have HB := Lib.hid hb
      clear hb
      go_wp2_with (at_builtin; refine wpList_append_own _ rfl _ _ 55 rfl lo 5 i0 (.int .u8 0) 1 1 Tryz.underlying55 hi0 hz0 hz1 hz2 rfl (by decide) _ _ _ rfl (hown.alloc _) ⟨wr.heap.size, 0, none⟩ 1 1 [.int .u8 (x / 65536 % 256)] rfl rfl (cell_one_new _ _ _) (one_u8 _) ?c3 ?c4 ?c5 ?_)
      case c3 => unfold maxLen; omega
      case c4 => omega
      case c5 => simp; omega
      intro v' w1 hown' hg _
      obtain ⟨a2, c2, rfl⟩ := owns_shape hown'
      have hb2 := (HB.out.alloc (Nat.le_trans hlo hsz) _).trans (below_own (hown.alloc _) hg (by simp; omega))
      have hown2 : w1.ownsRow lo 5 1 (.slice a2 (xs.length + (j + 1)) c2) (xs.length + (j + 1)) ((xs ++ (wide n x).take (j + 1)).map (Value.int .u8)) := by rw [HT.out]; simpa [Nat.add_assoc] using hown'
      have HO := Lib.hid hown2
      clear hown2
      have HB2 := Lib.hid hb2
      clear hown' hb2 hg hown
      go_wp2
      go_roundw
      case rel => exact ⟨j + 1, 2, _, _, _, by have := HJ.out; omega, by rfl, by go_num, by rfl, HO.out, HB2.out⟩
      case measure => simp [intOf]
    by_cases hI3 : I = 3
    · subst hI3
      obtain rfl : r = 4 := by omega
      have HT := Lib.hid (wide_top h0 h1 hjr)
      have HJ := Lib.hid hjr
      have hjn : j + 4 ≤ n := by omega
      clear hI hjr
      have HB := Lib.hid hb
      clear hb
      go_wp2_with (at_builtin; refine wpList_append_own _ rfl _ _ 55 rfl lo 5 i0 (.int .u8 0) 1 1 Tryz.underlying55 hi0 hz0 hz1 hz2 rfl (by decide) _ _ _ rfl (hown.alloc _) ⟨wr.heap.size, 0, none⟩ 1 1 [.int .u8 (x / 16777216)] rfl rfl (cell_one_new _ _ _) (one_u8 _) ?c3 ?c4 ?c5 ?_)
      case c3 => unfold maxLen; omega
      case c4 => omega
      case c5 => simp; omega
      intro v' w1 hown' hg _
      obtain ⟨a2, c2, rfl⟩ := owns_shape hown'
      have hb2 := (HB.out.alloc (Nat.le_trans hlo hsz) _).trans (below_own (hown.alloc _) hg (by simp; omega))
      have hown2 : w1.ownsRow lo 5 1 (.slice a2 (xs.length + (j + 1)) c2) (xs.length + (j + 1)) ((xs ++ (wide n x).take (j + 1)).map (Value.int .u8)) := by rw [HT.out]; simpa [Nat.add_assoc] using hown'
      have HO := Lib.hid hown2
      clear hown2
      have HB2 := Lib.hid hb2
      clear hown' hb2 hg hown
      go_wp2
      go_roundw
      case rel => exact ⟨j + 1, 3, _, _, _, by have := HJ.out; omega, by rfl, by go_num, by rfl, HO.out, HB2.out⟩
      case measure => simp [intOf]
    obtain rfl : r = 0 := by omega
    obtain rfl : I = -1 := by omega
    obtain rfl : j = n := by omega
    have HP : Hid (OwnNums 5 .u8 lo (xs ++ wide j x) w (.returned (.slice a' (xs.length + j) c')) wr) := by
      have e : (wide j x).take j = wide j x := List.take_of_length_le (by rw [wide_len]; exact Nat.le_refl _)
      rw [e] at hown
      exact ⟨_, _, by rw [List.length_append, wide_len], by rw [List.length_append, wide_len]; exact hown, hb⟩
    clear hown hb hI hjr hI0 hI1 hI2 hI3
    go_wp2
    go_ret
    exact HP.out

end Go.Proofs.YtfneipdlihbbjabGreatDoor
