/- Contracts of spec's own words over bytes: the copy, two behind one another, a number in so many bytes. -/
import Derived.Test.YtfneipdlihbbjabGreatDoorPlains
import Derived.OwnWalk
import Derived.Maps.AppendAt
import Derived.IntWalk
import Derived.Outline
namespace Go.Proofs.YtfneipdlihbbjabGreatDoor
open Go.RowKit

theorem one_u8 (x : Int) : ∀ u ∈ [Value.int .u8 x], u.oneCell' = true := by intro u hu; simp at hu; subst hu; rfl

set_option maxHeartbeats 1000000 in
theorem specBytes_any (a : Option Addr) (n c : Nat) (xs : List Int) (hi : Nat) (w : World) (hr : Nums .u8 w hi a c xs) (hn : n = xs.length) (hB : hi ≤ w.heap.size) (hlen : xs.length ≤ 4194304) :
    Calls Tryz.prog 86 #[.slice a n c] w (FreshNums 5 .u8 xs w) := by
  subst hn
  obtain ⟨i0, hi0, hz0, hz1, hz2⟩ := info_parts infoU8
  have hc1 := hr.cap
  have hc2 := hr.big
  have HR := Lib.hid hr
  clear hr
  go_enter Tryz.func86, Tryz.ntmps86
  go_wp2
  go_loopw [3, 4] (fun v i wr => ∃ (k : Nat) (a' : Option Addr) (c' : Nat), k ≤ xs.length ∧ i = .int .i64 k ∧ v = .slice a' k c' ∧ wr.ownsRow w.heap.size 5 1 (.slice a' k c') k ((xs.take k).map (Value.int .u8)) ∧ Below w.heap.size w wr)
    (fun _ i _ => xs.length - (intOf i).toNat)
  case atStart => exact ⟨0, _, _, Nat.zero_le _, rfl, rfl, World.ownsRow_made w #[] 0 (Nat.le_refl _) (by unfold maxLen; omega) (by simp), (Below.refl _ _).alloc (Nat.le_refl _) _⟩
  case round =>
    obtain ⟨k, a', c', hk, rfl, rfl, hown, hb⟩ := hrel
    have hsz := hb.size
    by_cases hlt : k < xs.length
    · obtain ⟨b, off, rfl, hbh, hcell⟩ := HR.out.lies.resolve_left (by intro h; subst h; simp at hlt)
      have hck := (hb.cell (p := ⟨b, off + k, none⟩) (show b < w.heap.size by omega)).trans (hcell k hlt)
      have HT := Lib.hid (el_take xs k hlt)
      clear hcell
      have HB := Lib.hid hb
      clear hb
      go_wp2_with (at_builtin; refine wpList_append_own _ rfl _ _ 55 rfl w.heap.size 5 i0 (.int .u8 0) 1 1 Tryz.underlying55 hi0 hz0 hz1 hz2 rfl (by decide) _ _ _ rfl (hown.alloc _) ⟨wr.heap.size, 0, none⟩ 1 1 [.int .u8 (el xs k)] rfl rfl (cell_one_new _ _ _) (one_u8 _) ?c3 ?c4 ?c5 ?_)
      case c3 => unfold maxLen; omega
      case c4 => omega
      case c5 => simp; omega
      intro v' w1 hown' hg _
      obtain ⟨a2, c2, rfl⟩ := owns_shape hown'
      have hb2 := (HB.out.alloc hsz _).trans (below_own (hown.alloc _) hg (by simp; omega))
      have hown2 : w1.ownsRow w.heap.size 5 1 (.slice a2 (k + 1) c2) (k + 1) ((xs.take (k + 1)).map (Value.int .u8)) := by rw [HT.out]; simpa using hown'
      have HO := Lib.hid hown2
      clear hown2
      have HB2 := Lib.hid hb2
      clear hown' hb2 hg hown
      go_wp2
      go_roundw
      case rel => exact ⟨k + 1, _, _, by omega, by go_num, by rfl, HO.out, HB2.out⟩
      case measure => simp [intOf]; omega
    · obtain rfl : k = xs.length := by omega
      have HP : Hid (FreshNums 5 .u8 xs w (.returned (.slice a' xs.length c')) wr) := ⟨_, _, rfl, by rw [List.take_length] at hown; exact hown, hb⟩
      clear hown hb
      go_wp2
      go_ret
      exact HP.out
set_option maxHeartbeats 1000000 in
theorem specBytes2_any (a : Option Addr) (n c : Nat) (xs : List Int) (hi : Nat) (w : World) (hr : Nums .u8 w hi a c xs) (hn : n = xs.length) (hB : hi ≤ w.heap.size) (hlen : xs.length ≤ 4194304) :
    Calls Tryz.prog 40 #[.slice a n c] w (FreshNums 5 .u8 xs w) := by
  subst hn
  obtain ⟨i0, hi0, hz0, hz1, hz2⟩ := info_parts infoU8
  have hc1 := hr.cap
  have hc2 := hr.big
  have HR := Lib.hid hr
  clear hr
  go_enter Tryz.func40, Tryz.ntmps40
  go_wp2
  go_loopw [3, 4] (fun v i wr => ∃ (k : Nat) (a' : Option Addr) (c' : Nat), k ≤ xs.length ∧ i = .int .i64 k ∧ v = .slice a' k c' ∧ wr.ownsRow w.heap.size 5 1 (.slice a' k c') k ((xs.take k).map (Value.int .u8)) ∧ Below w.heap.size w wr)
    (fun _ i _ => xs.length - (intOf i).toNat)
  case atStart => exact ⟨0, _, _, Nat.zero_le _, rfl, rfl, World.ownsRow_made w #[] 0 (Nat.le_refl _) (by unfold maxLen; omega) (by simp), (Below.refl _ _).alloc (Nat.le_refl _) _⟩
  case round =>
    obtain ⟨k, a', c', hk, rfl, rfl, hown, hb⟩ := hrel
    have hsz := hb.size
    by_cases hlt : k < xs.length
    · obtain ⟨b, off, rfl, hbh, hcell⟩ := HR.out.lies.resolve_left (by intro h; subst h; simp at hlt)
      have hck := (hb.cell (p := ⟨b, off + k, none⟩) (show b < w.heap.size by omega)).trans (hcell k hlt)
      have HT := Lib.hid (el_take xs k hlt)
      clear hcell
      have HB := Lib.hid hb
      clear hb
      go_wp2_with (at_builtin; refine wpList_append_own _ rfl _ _ 55 rfl w.heap.size 5 i0 (.int .u8 0) 1 1 Tryz.underlying55 hi0 hz0 hz1 hz2 rfl (by decide) _ _ _ rfl (hown.alloc _) ⟨wr.heap.size, 0, none⟩ 1 1 [.int .u8 (el xs k)] rfl rfl (cell_one_new _ _ _) (one_u8 _) ?c3 ?c4 ?c5 ?_)
      case c3 => unfold maxLen; omega
      case c4 => omega
      case c5 => simp; omega
      intro v' w1 hown' hg _
      obtain ⟨a2, c2, rfl⟩ := owns_shape hown'
      have hb2 := (HB.out.alloc hsz _).trans (below_own (hown.alloc _) hg (by simp; omega))
      have hown2 : w1.ownsRow w.heap.size 5 1 (.slice a2 (k + 1) c2) (k + 1) ((xs.take (k + 1)).map (Value.int .u8)) := by rw [HT.out]; simpa using hown'
      have HO := Lib.hid hown2
      clear hown2
      have HB2 := Lib.hid hb2
      clear hown' hb2 hg hown
      go_wp2
      go_roundw
      case rel => exact ⟨k + 1, _, _, by omega, by go_num, by rfl, HO.out, HB2.out⟩
      case measure => simp [intOf]; omega
    · obtain rfl : k = xs.length := by omega
      have HP : Hid (FreshNums 5 .u8 xs w (.returned (.slice a' xs.length c')) wr) := ⟨_, _, rfl, by rw [List.take_length] at hown; exact hown, hb⟩
      clear hown hb
      go_wp2
      go_ret
      exact HP.out
set_option maxHeartbeats 1000000 in
theorem specJoin_any (a b : Option Addr) (n m c d : Nat) (xs ys : List Int) (hi hj : Nat) (w : World) (hr : Nums .u8 w hi a c xs) (hs : Nums .u8 w hj b d ys) (hn : n = xs.length) (hm : m = ys.length) (hB : hi ≤ w.heap.size) (hC : hj ≤ w.heap.size) (hlen : xs.length ≤ 4194304) (hlen2 : ys.length ≤ 4194304) :
    Calls Tryz.prog 77 #[.slice a n c, .slice b m d] w (FreshNums 5 .u8 (xs ++ ys) w) := by
  subst hm
  subst hn
  obtain ⟨i0, hi0, hz0, hz1, hz2⟩ := info_parts infoU8
  have hd1 := hs.cap
  have hd2 := hs.big
  have HS := Lib.hid hs
  have HR := Lib.hid hr
  clear hs hr
  go_enter Tryz.func77, Tryz.ntmps77
  go_wp2_with fail
  refine (specBytes_any a _ c xs hi _ HR.out rfl hB hlen).mono ?_
  rintro e w0 ⟨a0, c0, rfl, hown0, hb0⟩
  have H0 := Lib.hid (And.intro hown0 hb0)
  clear hown0 hb0
  go_wp2
  go_loopw [5, 6] (fun v i wr => ∃ (k : Nat) (a' : Option Addr) (c' : Nat), k ≤ ys.length ∧ i = .int .i64 k ∧ v = .slice a' (xs.length + k) c' ∧ wr.ownsRow w.heap.size 5 1 (.slice a' (xs.length + k) c') (xs.length + k) ((xs ++ ys.take k).map (Value.int .u8)) ∧ Below w.heap.size w wr)
    (fun _ i _ => ys.length - (intOf i).toNat)
  case atStart => exact ⟨0, _, _, Nat.zero_le _, rfl, rfl, by simpa using H0.out.1, H0.out.2⟩
  case round =>
    obtain ⟨k, a', c', hk, rfl, rfl, hown, hb⟩ := hrel
    have hsz := hb.size
    by_cases hlt : k < ys.length
    · obtain ⟨b1, off, rfl, hbh, hcell⟩ := HS.out.lies.resolve_left (by intro h; subst h; simp at hlt)
      have hck := (hb.cell (p := ⟨b1, off + k, none⟩) (show b1 < w.heap.size by omega)).trans (hcell k hlt)
      have HT := Lib.hid (el_take ys k hlt)
      clear hcell
      have HB := Lib.hid hb
      clear hb
      go_wp2_with (at_builtin; refine wpList_append_own _ rfl _ _ 55 rfl w.heap.size 5 i0 (.int .u8 0) 1 1 Tryz.underlying55 hi0 hz0 hz1 hz2 rfl (by decide) _ _ _ rfl (hown.alloc _) ⟨wr.heap.size, 0, none⟩ 1 1 [.int .u8 (el ys k)] rfl rfl (cell_one_new _ _ _) (one_u8 _) ?c3 ?c4 ?c5 ?_)
      case c3 => unfold maxLen; omega
      case c4 => omega
      case c5 => simp; omega
      intro v' w1 hown' hg _
      obtain ⟨a2, c2, rfl⟩ := owns_shape hown'
      have hb2 := (HB.out.alloc hsz _).trans (below_own (hown.alloc _) hg (by simp; omega))
      have hown2 : w1.ownsRow w.heap.size 5 1 (.slice a2 (xs.length + (k + 1)) c2) (xs.length + (k + 1)) ((xs ++ ys.take (k + 1)).map (Value.int .u8)) := by rw [HT.out]; simpa [Nat.add_assoc] using hown'
      have HO := Lib.hid hown2
      clear hown2
      have HB2 := Lib.hid hb2
      clear hown' hb2 hg hown
      go_wp2
      go_roundw
      case rel => exact ⟨k + 1, _, _, by omega, by go_num, by rfl, HO.out, HB2.out⟩
      case measure => simp [intOf]; omega
    · obtain rfl : k = ys.length := by omega
      have HP : Hid (FreshNums 5 .u8 (xs ++ ys) w (.returned (.slice a' (xs.length + ys.length) c')) wr) := ⟨_, _, by rw [List.length_append], by rw [List.take_length] at hown; rw [List.length_append]; exact hown, hb⟩
      clear hown hb
      go_wp2
      go_ret
      exact HP.out
set_option maxHeartbeats 2000000 in
theorem specWide_any (x : Int) (n : Nat) (h0 : 0 ≤ x) (h1 : x ≤ 4294967295) (hn : n ≤ 4) (w : World) :
    Calls Tryz.prog 78 #[.int .i64 x, .int .i64 (n : Int)] w (FreshNums 5 .u8 (wide n x) w) := by
  obtain ⟨i0, hi0, hz0, hz1, hz2⟩ := info_parts infoU8
  go_enter Tryz.func78, Tryz.ntmps78
  go_wp2
  go_loopw [5, 6] (fun v i wr => ∃ (j r : Nat) (I : Int) (a' : Option Addr) (c' : Nat), j + r = n ∧ I = (r : Int) - 1 ∧ i = .int .i64 I ∧ v = .slice a' j c' ∧ wr.ownsRow w.heap.size 5 1 (.slice a' j c') j (((wide n x).take j).map (Value.int .u8)) ∧ Below w.heap.size w wr)
    (fun _ i _ => (intOf i + 1).toNat)
  case atStart => exact ⟨0, n, _, _, _, by omega, rfl, rfl, rfl, World.ownsRow_made w #[] 0 (Nat.le_refl _) (by unfold maxLen; omega) (by simp), (Below.refl _ _).alloc (Nat.le_refl _) _⟩
  case round =>
    obtain ⟨j, r, I, a', c', hjr, hI, rfl, rfl, hown, hb⟩ := hrel
    have hsz := hb.size
    by_cases hI0 : I = 0
    · subst hI0
      obtain rfl : r = 1 := by omega
      have HT := Lib.hid (wide_at0 x hjr)
      have HJ := Lib.hid hjr
      have hjn : j + 1 ≤ n := by omega
      clear hI hjr
      have HB := Lib.hid hb
      have hby := and_byte (show 0 ≤ x by omega) (show x ≤ 4294967295 by omega)
      clear hb
      go_wp2_with (at_builtin; refine wpList_append_own _ rfl _ _ 55 rfl w.heap.size 5 i0 (.int .u8 0) 1 1 Tryz.underlying55 hi0 hz0 hz1 hz2 rfl (by decide) _ _ _ rfl (hown.alloc _) ⟨wr.heap.size, 0, none⟩ 1 1 [.int .u8 (x % 256)] rfl rfl (cell_one_new _ _ _) (one_u8 _) ?c3 ?c4 ?c5 ?_)
      case c3 => unfold maxLen; omega
      case c4 => omega
      case c5 => simp; omega
      intro v' w1 hown' hg _
      obtain ⟨a2, c2, rfl⟩ := owns_shape hown'
      have hb2 := (HB.out.alloc hsz _).trans (below_own (hown.alloc _) hg (by simp; omega))
      have hown2 : w1.ownsRow w.heap.size 5 1 (.slice a2 (j + 1) c2) (j + 1) (((wide n x).take (j + 1)).map (Value.int .u8)) := by rw [HT.out]; simpa using hown'
      have HO := Lib.hid hown2
      clear hown2
      have HB2 := Lib.hid hb2
      clear hown' hb2 hg hown hby
      go_wp2
      go_roundw
      case rel => exact ⟨j + 1, 0, _, _, _, by have := HJ.out; omega, by rfl, by go_num, by rfl, HO.out, HB2.out⟩
      case measure => simp [intOf]
    by_cases hI1 : I = 1
    · subst hI1
      obtain rfl : r = 2 := by omega
      have HT := Lib.hid (wide_at1 x hjr)
      have HJ := Lib.hid hjr
      have hjn : j + 2 ≤ n := by omega
      clear hI hjr
      have HB := Lib.hid hb
      have hby := and_byte (show 0 ≤ x / 256 by omega) (show x / 256 ≤ 4294967295 by omega)
      clear hb
      go_wp2_with (at_builtin; refine wpList_append_own _ rfl _ _ 55 rfl w.heap.size 5 i0 (.int .u8 0) 1 1 Tryz.underlying55 hi0 hz0 hz1 hz2 rfl (by decide) _ _ _ rfl (hown.alloc _) ⟨wr.heap.size, 0, none⟩ 1 1 [.int .u8 (x / 256 % 256)] rfl rfl (cell_one_new _ _ _) (one_u8 _) ?c3 ?c4 ?c5 ?_)
      case c3 => unfold maxLen; omega
      case c4 => omega
      case c5 => simp; omega
      intro v' w1 hown' hg _
      obtain ⟨a2, c2, rfl⟩ := owns_shape hown'
      have hb2 := (HB.out.alloc hsz _).trans (below_own (hown.alloc _) hg (by simp; omega))
      have hown2 : w1.ownsRow w.heap.size 5 1 (.slice a2 (j + 1) c2) (j + 1) (((wide n x).take (j + 1)).map (Value.int .u8)) := by rw [HT.out]; simpa using hown'
      have HO := Lib.hid hown2
      clear hown2
      have HB2 := Lib.hid hb2
      clear hown' hb2 hg hown hby
      go_wp2
      go_roundw
      case rel => exact ⟨j + 1, 1, _, _, _, by have := HJ.out; omega, by rfl, by go_num, by rfl, HO.out, HB2.out⟩
      case measure => simp [intOf]
    by_cases hI2 : I = 2
    · subst hI2
      obtain rfl : r = 3 := by omega
      have HT := Lib.hid (wide_at2 x hjr)
      have HJ := Lib.hid hjr
      have hjn : j + 3 ≤ n := by omega
      clear hI hjr
      have HB := Lib.hid hb
      have hby := and_byte (show 0 ≤ x / 65536 by omega) (show x / 65536 ≤ 4294967295 by omega)
      clear hb
      go_wp2_with (at_builtin; refine wpList_append_own _ rfl _ _ 55 rfl w.heap.size 5 i0 (.int .u8 0) 1 1 Tryz.underlying55 hi0 hz0 hz1 hz2 rfl (by decide) _ _ _ rfl (hown.alloc _) ⟨wr.heap.size, 0, none⟩ 1 1 [.int .u8 (x / 65536 % 256)] rfl rfl (cell_one_new _ _ _) (one_u8 _) ?c3 ?c4 ?c5 ?_)
      case c3 => unfold maxLen; omega
      case c4 => omega
      case c5 => simp; omega
      intro v' w1 hown' hg _
      obtain ⟨a2, c2, rfl⟩ := owns_shape hown'
      have hb2 := (HB.out.alloc hsz _).trans (below_own (hown.alloc _) hg (by simp; omega))
      have hown2 : w1.ownsRow w.heap.size 5 1 (.slice a2 (j + 1) c2) (j + 1) (((wide n x).take (j + 1)).map (Value.int .u8)) := by rw [HT.out]; simpa using hown'
      have HO := Lib.hid hown2
      clear hown2
      have HB2 := Lib.hid hb2
      clear hown' hb2 hg hown hby
      go_wp2
      go_roundw
      case rel => exact ⟨j + 1, 2, _, _, _, by have := HJ.out; omega, by rfl, by go_num, by rfl, HO.out, HB2.out⟩
      case measure => simp [intOf]
    by_cases hI3 : I = 3
    · subst hI3
      obtain rfl : r = 4 := by omega
      have HT := Lib.hid (wide_at3 x hjr)
      have HJ := Lib.hid hjr
      have hjn : j + 4 ≤ n := by omega
      clear hI hjr
      have HB := Lib.hid hb
      have hby := and_byte (show 0 ≤ x / 16777216 by omega) (show x / 16777216 ≤ 4294967295 by omega)
      clear hb
      go_wp2_with (at_builtin; refine wpList_append_own _ rfl _ _ 55 rfl w.heap.size 5 i0 (.int .u8 0) 1 1 Tryz.underlying55 hi0 hz0 hz1 hz2 rfl (by decide) _ _ _ rfl (hown.alloc _) ⟨wr.heap.size, 0, none⟩ 1 1 [.int .u8 (x / 16777216 % 256)] rfl rfl (cell_one_new _ _ _) (one_u8 _) ?c3 ?c4 ?c5 ?_)
      case c3 => unfold maxLen; omega
      case c4 => omega
      case c5 => simp; omega
      intro v' w1 hown' hg _
      obtain ⟨a2, c2, rfl⟩ := owns_shape hown'
      have hb2 := (HB.out.alloc hsz _).trans (below_own (hown.alloc _) hg (by simp; omega))
      have hown2 : w1.ownsRow w.heap.size 5 1 (.slice a2 (j + 1) c2) (j + 1) (((wide n x).take (j + 1)).map (Value.int .u8)) := by rw [HT.out]; simpa using hown'
      have HO := Lib.hid hown2
      clear hown2
      have HB2 := Lib.hid hb2
      clear hown' hb2 hg hown hby
      go_wp2
      go_roundw
      case rel => exact ⟨j + 1, 3, _, _, _, by have := HJ.out; omega, by rfl, by go_num, by rfl, HO.out, HB2.out⟩
      case measure => simp [intOf]
    obtain rfl : r = 0 := by omega
    obtain rfl : I = -1 := by omega
    obtain rfl : j = n := by omega
    have HP : Hid (FreshNums 5 .u8 (wide j x) w (.returned (.slice a' j c')) wr) := by
      have e : (wide j x).take j = wide j x := List.take_of_length_le (by rw [wide_len]; exact Nat.le_refl _)
      rw [e] at hown
      exact ⟨_, _, by rw [wide_len], by rw [wide_len]; exact hown, hb⟩
    clear hown hb hI hjr hI0 hI1 hI2 hI3
    go_wp2
    go_ret
    exact HP.out

end Go.Proofs.YtfneipdlihbbjabGreatDoor
