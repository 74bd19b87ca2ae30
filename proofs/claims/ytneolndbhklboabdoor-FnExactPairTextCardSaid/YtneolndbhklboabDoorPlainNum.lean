/- Plain facts on decimal numerals: no program. -/
import Derived.Lib.ItoaLen
import Derived.Lib.ItoaMem
import Derived.Laws.BytesArg
import Derived.Laws.Concat
import Derived.WalkKit
namespace Go.Proofs.YtneolndbhklboabDoor
open Go.Lib (decDigits itoa)

/-- The digits of u, none for 0. -/
def digs (u : Nat) : List UInt8 := if u = 0 then [] else decDigits u
theorem digs_zero : digs 0 = [] := rfl
theorem digs_pos {u : Nat} (h : 0 < u) : digs u = decDigits u := by unfold digs; rw [if_neg (by omega)]
theorem digs_step {u : Nat} (h : 0 < u) : digs u = digs (u / 10) ++ [UInt8.ofNat (48 + u % 10)] := by
  rw [digs_pos h, decDigits]
  by_cases h10 : u < 10
  · rw [dif_pos h10]
    have e : u / 10 = 0 := by omega
    rw [e, digs_zero, Nat.mod_eq_of_lt h10]
    rfl
  · rw [dif_neg h10, digs_pos (by omega)]

/-- A list of bytes as a string of Go's. -/
def str (l : List UInt8) : ByteArray := ⟨l.toArray⟩
theorem str_data (l : List UInt8) : (str l).data.toList = l := by simp [str]
theorem str_size (l : List UInt8) : (str l).size = l.length := by simp [str, ByteArray.size]
theorem str_inj {a b : List UInt8} (h : str a = str b) : a = b := by rw [← str_data a, h, str_data]
theorem str_of (s : ByteArray) : str s.data.toList = s := rfl

attribute [go_sem] str_size
@[go_sem] theorem str_append (a b : List UInt8) : str a ++ str b = str (a ++ b) := Go.ByteArray.mk_append_mk a b
theorem str_nil : ByteArray.mk #[] = str [] := rfl
theorem str_one (b : UInt8) : ByteArray.mk #[b] = str [b] := rfl
attribute [go_sem] str_nil str_one

/-- The byte that a number in 0 .. 255 is (a name of its own: the walk leaves it as it stands). -/
def byteOf (x : Int) : UInt8 := UInt8.ofNat x.toNat
theorem byteOf_digit (u : Nat) : byteOf (48 + (u : Int) % 10) = UInt8.ofNat (48 + u % 10) := by
  have e : (48 + (u : Int) % 10).toNat = 48 + u % 10 := by omega
  rw [byteOf, e]

/-- 'string([]byte{..})': the new row read back. -/
theorem conv_one {P : Program} (src e dst : TypeId) (hs : P.underlying src = some (.slice e)) (he : P.underlying e = some (.int .u8)) (hd : P.underlying dst = some .string) (W : World) (t : TypeId) (x : Int) :
    (convert src dst (.slice (some ⟨W.heap.size, 0, none⟩) 1 1)).run P (W.alloc (.cells #[.int .u8 x] t)) = .ok (.string (str [byteOf x])) (W.alloc (.cells #[.int .u8 x] t)) := by
  rw [run_convert_bytes_arg (P := P) (W.alloc (.cells #[.int .u8 x] t)) src e hs he W.heap.size 0 1 1 [x] rfl (fun i hi => by
    obtain rfl : i = 0 := by omega
    rw [World.cell?_alloc_at _ _ _ _ rfl]
    rfl) dst hd]
  rfl
theorem conv_three {P : Program} (src e dst : TypeId) (hs : P.underlying src = some (.slice e)) (he : P.underlying e = some (.int .u8)) (hd : P.underlying dst = some .string) (W : World) (t : TypeId) (x y z : Int) :
    (convert src dst (.slice (some ⟨W.heap.size, 0, none⟩) 3 3)).run P (W.alloc (.cells #[.int .u8 x, .int .u8 y, .int .u8 z] t)) = .ok (.string (str [byteOf x, byteOf y, byteOf z])) (W.alloc (.cells #[.int .u8 x, .int .u8 y, .int .u8 z] t)) := by
  rw [run_convert_bytes_arg (P := P) (W.alloc (.cells #[.int .u8 x, .int .u8 y, .int .u8 z] t)) src e hs he W.heap.size 0 3 3 [x, y, z] rfl (fun i hi => by
    rw [World.cell?_alloc_at _ _ _ _ rfl]
    rcases i with _ | _ | _ | i
    · rfl
    · rfl
    · rfl
    · omega) dst hd]
  rfl

/-- .. behind a call that has left the row as it was. -/
theorem conv_three_at {P : Program} (src e dst : TypeId) (hs : P.underlying src = some (.slice e)) (he : P.underlying e = some (.int .u8)) (hd : P.underlying dst = some .string) (W : World) (b : Nat) (x y z : Int)
    (h0 : W.cell? ⟨b, 0, none⟩ = some (.int .u8 x)) (h1 : W.cell? ⟨b, 1, none⟩ = some (.int .u8 y)) (h2 : W.cell? ⟨b, 2, none⟩ = some (.int .u8 z)) :
    (convert src dst (.slice (some ⟨b, 0, none⟩) 3 3)).run P W = .ok (.string (str [byteOf x, byteOf y, byteOf z])) W := by
  rw [run_convert_bytes_arg (P := P) W src e hs he b 0 3 3 [x, y, z] rfl (fun i hi => by
    rcases i with _ | _ | _ | i
    · exact h0
    · exact h1
    · exact h2
    · omega) dst hd]
  rfl

theorem itoa_nat (u : Nat) (h : 0 < u) : itoa (u : Int) = digs u := by rw [Go.Lib.itoa_nonneg, digs_pos h]
theorem itoa_minus (u : Nat) (h : 0 < u) : itoa (-(u : Int)) = 45 :: digs u := by rw [Go.Lib.itoa_neg u h, digs_pos h]
theorem itoa_zero : itoa 0 = [48] := by
  have := Go.Lib.itoa_nonneg 0
  rw [show ((0 : Nat) : Int) = 0 from rfl] at this
  rw [this, Go.Lib.decDigits_one (by omega)]
  rfl

end Go.Proofs.YtneolndbhklboabDoor
