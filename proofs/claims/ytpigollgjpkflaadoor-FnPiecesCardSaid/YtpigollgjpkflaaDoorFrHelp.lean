/- What FnFrames asks beside the frames: its argument, the law's own helpers, a byte turned. -/
import Derived.Test.YtpigollgjpkflaaDoorDrawFrame
import Derived.Test.YtpigollgjpkflaaDoorBytesArg
import Derived.Test.YtpigollgjpkflaaDoorPlains
import Derived.Test.YtpigollgjpkflaaDoorByteS
namespace Go.Proofs.YtpigollgjpkflaaDoor
open Go.ChangeShapes Go.WideShapes Go.ChangeAt Go.RowKit

set_option maxRecDepth 100000 in
/-- The argument of a law that draws. -/
theorem arg_code {H : Type} {enc : TypeId × Value → H} {W : World} {base : Nat} {v : Value} {d : DataW H} {p : List MemPlace} (hv : Value.okWide Tryd.prog W .any base 22 v)
    (h : DataW.Trod enc Tryd.prog W 0 (fun _ => true) true 22 v d p) : ∃ a n c, v = .slice a n c ∧ (n ≤ 1048576 → Bytes W W.heap.size a n) := by
  obtain ⟨a, n, c, rfl⟩ := okWide_slice Tryd.underlying22 hv
  exact ⟨a, n, c, rfl, bytes_of h⟩
theorem big_any (a : Option Addr) (len cap : Nat) (w : World) : Calls Tryd.prog 4 #[.slice a len cap] w fun e w' => e = .returned (.bool (decide ((1048576 : Int) < (len : Int)))) ∧ w = w' := by
  go_enter Tryd.func4, Tryd.ntmps4
  go_wp2
  go_ret
  exact ⟨rfl, rfl⟩
theorem Bytes.below_ {w w' : World} {p : Nat} {a : Option Addr} {len : Nat} (h : Bytes w p a len) (hb : Below p w w') : Bytes w' p a len :=
  ⟨h.small, h.lies.imp id fun ⟨b, off, ha, hlt, hc⟩ => ⟨b, off, ha, hlt, fun i hi => by
    obtain ⟨x, h0, h1, hx⟩ := hc i hi
    exact ⟨x, h0, h1, (hb.cell (p := ⟨b, off + i, none⟩) hlt).trans hx⟩⟩⟩
/-- A byte of the code, or what stands for it. -/
theorem at_any (i : Nat) (a : Option Addr) (len cap : Nat) (B : Nat) (w : World) (hi : i ≤ 2) (hb : Bytes w B a len) :
    Calls Tryd.prog 9 #[.slice a len cap, .int .i64 (i : Int)] w fun e w' => (∃ x : Int, e = .returned (.int .i64 x) ∧ 0 ≤ x ∧ x ≤ 255) ∧ w = w' := by
  have hs := hb.small
  by_cases h : i < len
  · obtain ⟨b, off, rfl, hbB, hc⟩ := hb.lies.resolve_left (by omega)
    obtain ⟨x, h0, h1, hx⟩ := hc i h
    have hw : IntKind.i64.wrap x = x := IntWalk.i64_in _ (by omega)
    have h' : (i : Int) < (len : Int) := by omega
    clear hc hb
    go_enter Tryd.func9, Tryd.ntmps9
    go_wp2
    go_ret
    exact ⟨⟨_, rfl, h0, h1⟩, rfl⟩
  · have h' : ¬ ((i : Int) < (len : Int)) := by omega
    clear hb
    go_enter Tryd.func9, Tryd.ntmps9
    go_wp2
    go_ret
    exact ⟨⟨_, rfl, by omega, by omega⟩, rfl⟩
theorem xor_u8 {a b : Int} (h0 : 0 ≤ a) (h1 : a ≤ 255) (k0 : 0 ≤ b) (k1 : b ≤ 255) : bits .xor .u8 a b = xorI a b := by
  obtain ⟨x, rfl⟩ := Int.eq_ofNat_of_zero_le h0
  obtain ⟨y, rfl⟩ := Int.eq_ofNat_of_zero_le k0
  have hx : x ^^^ y < 2 ^ 8 := Nat.xor_lt_two_pow (by omega) (by omega)
  show IntKind.u8.wrap ((BitVec.ofInt 8 (x : Int) ^^^ BitVec.ofInt 8 (y : Int)).toNat : Int) = ((x ^^^ y : Nat) : Int)
  have e1 : (BitVec.ofInt 8 (x : Int)).toNat = x := by rw [BitVec.ofInt_natCast, BitVec.toNat_ofNat]; exact Nat.mod_eq_of_lt (by omega)
  have e2 : (BitVec.ofInt 8 (y : Int)).toNat = y := by rw [BitVec.ofInt_natCast, BitVec.toNat_ofNat]; exact Nat.mod_eq_of_lt (by omega)
  rw [BitVec.toNat_xor, e1, e2]
  have e3 : IntKind.u8.wrap ((x ^^^ y : Nat) : Int) = ((x ^^^ y : Nat) : Int) % 256 := by simp [IntKind.wrap, IntKind.signed, IntKind.bits]
  rw [e3]
  omega
theorem xor_turned {a b : Int} (h0 : 0 ≤ a) (h1 : a ≤ 255) (k0 : 1 ≤ b) (k1 : b ≤ 255) : 0 ≤ xorI a b ∧ xorI a b ≤ 255 ∧ xorI a b ≠ a := by
  obtain ⟨x, rfl⟩ := Int.eq_ofNat_of_zero_le h0
  obtain ⟨y, rfl⟩ := Int.eq_ofNat_of_zero_le (show 0 ≤ b by omega)
  have hx : x ^^^ y < 2 ^ 8 := Nat.xor_lt_two_pow (by omega) (by omega)
  have e : xorI (x : Int) (y : Int) = ((x ^^^ y : Nat) : Int) := by simp [xorI]
  rw [e]
  refine ⟨by omega, by omega, fun h => ?_⟩
  have h2 : x ^^^ y = x := by omega
  have h3 : x ^^^ (x ^^^ y) = x ^^^ x := by rw [h2]
  rw [← Nat.xor_assoc, Nat.xor_self, Nat.zero_xor] at h3
  omega
theorem set_other {xs : List Int} {k : Nat} {y : Int} (hk : k < xs.length) (hy : y ≠ el xs k) : xs.set k y ≠ xs := by
  intro h
  apply hy
  have : el (xs.set k y) k = el xs k := by rw [h]
  rw [← this]
  simp [el, List.getD, hk]
theorem set_isB {xs : List Int} (hx : IsB xs) (k : Nat) {y : Int} (h0 : 0 ≤ y) (h1 : y ≤ 255) : IsB (xs.set k y) := by
  intro z hz
  rcases List.mem_or_eq_of_mem_set hz with h | h
  · exact hx z h
  · rw [h]; exact ⟨h0, h1⟩
end Go.Proofs.YtpigollgjpkflaaDoor
