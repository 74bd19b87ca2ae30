/- Contract of the reader's number. -/
import Derived.Test.YtfneipdlihbbjabGreatDoorProg
import Derived.Test.YtfneipdlihbbjabGreatDoorPlains
import Derived.WalkKit
import Derived.WalkSpells
import Derived.ProofKit
import Derived.Lib.Hide
import Derived.Outline
import Derived.Deep.OwnRows
namespace Go.Proofs.YtfneipdlihbbjabGreatDoor
open Go.RowKit

theorem Blk.set_ {w : World} {g : Nat} {t : TypeId} {cs : Array Value} (h : Blk w g t cs) (i : Nat) (u : Value) : Blk (w.setCell ⟨g, i, none⟩ u) g t (cs.setIfInBounds i u) := by
  unfold Blk at h ⊢
  simp [World.setCell, Array.getElem?_modify, h]
/-- A reader at block r: what is left, and its fault. -/
structure Rd (w : World) (r : Nat) (a : Option Addr) (n c : Nat) (xs : List Int) (F : Value) : Prop where
  blk : Blk w r 125 #[.slice a n c, F]
  nums : Nums .u8 w r a c xs
  len : n = xs.length
def NumberPost (r : Nat) (x : Int) (xs : List Int) (F : Value) (w : World) (e : Ending) (w' : World) : Prop :=
  ∃ a n c, e = .returned (.int .i64 x) ∧ Rd w' r a n c xs F ∧ w.grownBy w' (some r)

theorem rd_same {w : World} {r n m c N : Nat} {a : Option Addr} {xs : List Int} {F : Value} (hb : Blk w r 125 #[.slice a n c, F]) (hn : Nums .u8 w r a c xs) (hl : n = xs.length) (hm : m ≤ xs.length) (hc : c = m) (hN : N = n - m) :
    Rd (w.setCell ⟨r, 0, none⟩ (.slice a N 0)) r a N 0 (xs.drop m) F := by
  subst hc
  subst hN
  have h := hn.drop c hm
  rw [if_pos rfl, Nat.sub_self] at h
  exact ⟨hb.set_ 0 _, h.below ((Below.refl r w).setCell (p := ⟨r, 0, none⟩) (Nat.le_refl _) _), by rw [List.length_drop, hl]⟩
theorem rd_diff {w : World} {r n m c N : Nat} {a : Option Addr} {xs : List Int} {F : Value} (hb : Blk w r 125 #[.slice a n c, F]) (hn : Nums .u8 w r a c xs) (hl : n = xs.length) (hm : m ≤ xs.length) (hc : ¬ c = m) (hN : N = n - m) :
    Rd (w.setCell ⟨r, 0, none⟩ (.slice (Option.map (fun x => x.add m) a) N (c - m))) r (Option.map (fun x => x.add m) a) N (c - m) (xs.drop m) F := by
  subst hN
  have h := hn.drop m hm
  rw [if_neg hc] at h
  simp only [Nat.mul_one] at h
  exact ⟨hb.set_ 0 _, h.below ((Below.refl r w).setCell (p := ⟨r, 0, none⟩) (Nat.le_refl _) _), by rw [List.length_drop, hl]⟩

set_option maxRecDepth 100000 in
theorem or_byte {x y : Int} (h0 : 0 ≤ x) (h1 : x ≤ 16777215) (k0 : 0 ≤ y) (k1 : y ≤ 255) : bits .or .i64 (x * 256) y = x * 256 + y := by
  obtain ⟨a, rfl⟩ := Int.eq_ofNat_of_zero_le h0
  obtain ⟨b, rfl⟩ := Int.eq_ofNat_of_zero_le k0
  show IntKind.i64.wrap ((BitVec.ofInt 64 ((a : Int) * 256) ||| BitVec.ofInt 64 (b : Int)).toNat : Int) = _
  have e : ((a : Int) * 256) = ((a * 256 : Nat) : Int) := by push_cast; rfl
  rw [e, BitVec.toNat_or, BitVec.ofInt_natCast, BitVec.toNat_ofNat, BitVec.ofInt_natCast, BitVec.toNat_ofNat, Nat.mod_eq_of_lt (by omega), Nat.mod_eq_of_lt (by omega), nat_join 8 (a * 256) b (by omega) (by omega), IntKind.wrap_i64]
  omega

set_option maxRecDepth 100000 in
set_option maxHeartbeats 2000000 in
theorem number_there (r : Nat) (a : Option Addr) (c : Nat) (size : Nat) (xs : List Int) (F : Value) (w : World) (hblk : Blk w r 125 #[.slice a xs.length c, F]) (hnums : Nums .u8 w r a c xs) (hx : IsB xs) (hs : size ≤ 3) (hle : size ≤ xs.length) :
    Calls Tryz.prog 80 #[.pointer (some ⟨r, 0, none⟩), .int .i64 (size : Int)] w (NumberPost r (numL size xs) (xs.drop size) F w) := by
  have hc1 := hnums.cap
  have hc2 := hnums.big
  have HX := Lib.hid hx
  have HN := Lib.hid hnums
  have HB := Lib.hid hblk
  have q := hblk.cell
  have f := hblk.frozen
  have hcs : size ≤ c := by omega
  clear hnums hblk hx
  go_enter Tryz.func80, Tryz.ntmps80
  go_wp2
  go_loop [6, 8, 24] (fun x _ i => ∃ k : Nat, k ≤ size ∧ i = .int .i64 k ∧ x = .int .i64 (readL (xs.take k))) (fun _ _ i => size - (intOf i).toNat)
  case atStart => exact ⟨0, Nat.zero_le _, rfl, rfl⟩
  case round =>
    obtain ⟨k, hk, rfl, rfl⟩ := hrel
    by_cases hlt2 : k < size
    · obtain ⟨b, off, rfl, hbr, hc⟩ := HN.out.lies.resolve_left (by intro h; subst h; simp at *; try omega)
      have hck := hc k (by omega)
      have hyb := el_bd HX.out k
      have hxb := readL_bd (HX.out.take k) 2 (by simp; omega)
      have HS : Hid (readL (xs.take (k + 1)) = readL (xs.take k) * 256 + el xs k) := by
        rw [el_take xs k (by omega)]; exact readL_snoc _ _
      generalize readL (xs.take k) = X at hxb HS ⊢
      generalize el xs k = y at hyb hck HS ⊢
      obtain ⟨hx0, hx1⟩ := hxb
      have hx2 : X ≤ 65535 := by
        have e2 : ((256 ^ 2 : Nat) : Int) = 65536 := by decide
        omega
      obtain ⟨hy0, hy1⟩ := hyb
      have hor := or_byte hx0 (show X ≤ 16777215 by omega) hy0 hy1
      clear hc hx1
      go_wp2
      go_round
      case rel => exact ⟨k + 1, by omega, by go_num, by rw [HS.out]⟩
      case measure => simp [intOf]; omega
    · obtain rfl : k = size := by omega
      have hxb := readL_bd (HX.out.take k) 3 (by simp; omega)
      have hnk : numL k xs = readL (xs.take k) := by unfold numL; rw [Nat.min_eq_left hle, Nat.sub_self]; simp
      have HM := Lib.hid hnk
      clear hnk
      generalize readL (xs.take k) = X at hxb HM ⊢
      obtain ⟨hx0, hx1⟩ := hxb
      have hx2 : X ≤ 16777215 := by
        have e2 : ((256 ^ 3 : Nat) : Int) = 16777216 := by decide
        omega
      clear hx1
      go_wp2
      all_goals
        go_ret
        first
          | exact ⟨_, _, _, ret_int HM.out.symm, rd_same HB.out HN.out rfl (by omega) (by assumption) (by omega), grown_setCell _ _ _ _⟩
          | exact ⟨_, _, _, ret_int HM.out.symm, rd_diff HB.out HN.out rfl (by omega) (by assumption) (by omega), grown_setCell _ _ _ _⟩
set_option maxRecDepth 100000 in
set_option maxHeartbeats 2000000 in
theorem number_short (r : Nat) (a : Option Addr) (c : Nat) (size : Nat) (xs : List Int) (F : Value) (w : World) (hblk : Blk w r 125 #[.slice a xs.length c, F]) (hnums : Nums .u8 w r a c xs) (hx : IsB xs) (hs : size ≤ 3) (hlt : xs.length < size) :
    Calls Tryz.prog 80 #[.pointer (some ⟨r, 0, none⟩), .int .i64 (size : Int)] w (NumberPost r (numL size xs) (xs.drop size) F w) := by
  have hc1 := hnums.cap
  have hc2 := hnums.big
  have HX := Lib.hid hx
  have HN := Lib.hid hnums
  have HB := Lib.hid hblk
  have q := hblk.cell
  have f := hblk.frozen
  clear hnums hblk hx
  go_enter Tryz.func80, Tryz.ntmps80
  go_wp2
  go_loop [6, 8, 24] (fun x _ i => ∃ k : Nat, k ≤ xs.length ∧ i = .int .i64 k ∧ x = .int .i64 (readL (xs.take k))) (fun _ _ i => xs.length - (intOf i).toNat)
  case atStart => exact ⟨0, Nat.zero_le _, rfl, rfl⟩
  case round =>
    obtain ⟨k, hk, rfl, rfl⟩ := hrel
    by_cases hlt2 : k < xs.length
    · obtain ⟨b, off, rfl, hbr, hc⟩ := HN.out.lies.resolve_left (by intro h; subst h; simp at *; try omega)
      have hck := hc k (by omega)
      have hyb := el_bd HX.out k
      have hxb := readL_bd (HX.out.take k) 2 (by simp; omega)
      have HS : Hid (readL (xs.take (k + 1)) = readL (xs.take k) * 256 + el xs k) := by
        rw [el_take xs k (by omega)]; exact readL_snoc _ _
      generalize readL (xs.take k) = X at hxb HS ⊢
      generalize el xs k = y at hyb hck HS ⊢
      obtain ⟨hx0, hx1⟩ := hxb
      have hx2 : X ≤ 65535 := by
        have e2 : ((256 ^ 2 : Nat) : Int) = 65536 := by decide
        omega
      obtain ⟨hy0, hy1⟩ := hyb
      have hor := or_byte hx0 (show X ≤ 16777215 by omega) hy0 hy1
      clear hc hx1
      go_wp2
      go_round
      case rel => exact ⟨k + 1, by omega, by go_num, by rw [HS.out]⟩
      case measure => simp [intOf]; omega
    · obtain rfl : k = xs.length := by omega
      have hxb := readL_bd (HX.out.take xs.length) xs.length (by simp)
      have e0 : xs.take xs.length = xs := List.take_length
      rw [e0] at hxb ⊢
      have hsz : size - xs.length = 1 ∨ size - xs.length = 2 ∨ size - xs.length = 3 := by omega
      have hdr : xs.drop size = xs.drop xs.length := by rw [List.drop_of_length_le (Nat.le_of_lt hlt), List.drop_of_length_le (Nat.le_refl _)]
      rcases hsz with hd | hd | hd
      · have hnk : numL size xs = readL xs * 256 := by unfold numL; rw [Nat.min_eq_right (Nat.le_of_lt hlt), List.take_of_length_le (Nat.le_of_lt hlt), hd]; rfl
        have HM := Lib.hid hnk
        have HDR := Lib.hid hdr
        have hsub : (size : Int) - (xs.length : Int) = 1 := by omega
        have hl2 : xs.length ≤ 2 := by omega
        have hx2 : readL xs ≤ 65535 := by
          have e2 : ((256 ^ 2 : Nat) : Int) = 65536 := by decide
          have e3 : ((256 ^ xs.length : Nat) : Int) ≤ ((256 ^ 2 : Nat) : Int) := by exact_mod_cast Nat.pow_le_pow_right (by omega) hl2
          omega
        have hx0 := hxb.1
        clear hnk hxb hd hdr
        generalize readL xs = X at HM hx0 hx2 ⊢
        go_wp2
        all_goals
          go_ret
          first
            | exact ⟨_, _, _, ret_int HM.out.symm, by rw [HDR.out]; exact rd_same HB.out HN.out rfl (Nat.le_refl _) (by assumption) (by omega), grown_setCell _ _ _ _⟩
            | exact ⟨_, _, _, ret_int HM.out.symm, by rw [HDR.out]; exact rd_diff HB.out HN.out rfl (Nat.le_refl _) (by assumption) (by omega), grown_setCell _ _ _ _⟩
      · have hnk : numL size xs = readL xs * 65536 := by unfold numL; rw [Nat.min_eq_right (Nat.le_of_lt hlt), List.take_of_length_le (Nat.le_of_lt hlt), hd]; rfl
        have HM := Lib.hid hnk
        have HDR := Lib.hid hdr
        have hsub : (size : Int) - (xs.length : Int) = 2 := by omega
        have hl2 : xs.length ≤ 1 := by omega
        have hx2 : readL xs ≤ 255 := by
          have e2 : ((256 ^ 1 : Nat) : Int) = 256 := by decide
          have e3 : ((256 ^ xs.length : Nat) : Int) ≤ ((256 ^ 1 : Nat) : Int) := by exact_mod_cast Nat.pow_le_pow_right (by omega) hl2
          omega
        have hx0 := hxb.1
        clear hnk hxb hd hdr
        generalize readL xs = X at HM hx0 hx2 ⊢
        go_wp2
        all_goals
          go_ret
          first
            | exact ⟨_, _, _, ret_int HM.out.symm, by rw [HDR.out]; exact rd_same HB.out HN.out rfl (Nat.le_refl _) (by assumption) (by omega), grown_setCell _ _ _ _⟩
            | exact ⟨_, _, _, ret_int HM.out.symm, by rw [HDR.out]; exact rd_diff HB.out HN.out rfl (Nat.le_refl _) (by assumption) (by omega), grown_setCell _ _ _ _⟩
      · have hnk : numL size xs = readL xs * 16777216 := by unfold numL; rw [Nat.min_eq_right (Nat.le_of_lt hlt), List.take_of_length_le (Nat.le_of_lt hlt), hd]; rfl
        have HM := Lib.hid hnk
        have HDR := Lib.hid hdr
        have hsub : (size : Int) - (xs.length : Int) = 3 := by omega
        have hl2 : xs.length ≤ 0 := by omega
        have hx2 : readL xs ≤ 0 := by
          have e2 : ((256 ^ 0 : Nat) : Int) = 1 := by decide
          have e3 : ((256 ^ xs.length : Nat) : Int) ≤ ((256 ^ 0 : Nat) : Int) := by exact_mod_cast Nat.pow_le_pow_right (by omega) hl2
          omega
        have hx0 := hxb.1
        clear hnk hxb hd hdr
        generalize readL xs = X at HM hx0 hx2 ⊢
        go_wp2
        all_goals
          go_ret
          first
            | exact ⟨_, _, _, ret_int HM.out.symm, by rw [HDR.out]; exact rd_same HB.out HN.out rfl (Nat.le_refl _) (by assumption) (by omega), grown_setCell _ _ _ _⟩
            | exact ⟨_, _, _, ret_int HM.out.symm, by rw [HDR.out]; exact rd_diff HB.out HN.out rfl (Nat.le_refl _) (by assumption) (by omega), grown_setCell _ _ _ _⟩
theorem number_any (r : Nat) (a : Option Addr) (n c : Nat) (size : Nat) (xs : List Int) (F : Value) (w : World) (hr : Rd w r a n c xs F) (hx : IsB xs) (hs : size ≤ 3) {M : Int} (hM : M = (size : Int)) :
    Calls Tryz.prog 80 #[.pointer (some ⟨r, 0, none⟩), .int .i64 M] w (NumberPost r (numL size xs) (xs.drop size) F w) := by
  subst hM
  obtain ⟨h1, h2, rfl⟩ := hr
  by_cases h : size ≤ xs.length
  · exact number_there r a c size xs F w h1 h2 hx hs h
  · exact number_short r a c size xs F w h1 h2 hx hs (by omega)

end Go.Proofs.YtfneipdlihbbjabGreatDoor
