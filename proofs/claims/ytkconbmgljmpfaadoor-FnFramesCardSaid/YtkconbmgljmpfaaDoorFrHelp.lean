/- What FnFrames asks beside the frames: its argument, the law's own helpers, a byte turned. -/
import Derived.Test.YtkconbmgljmpfaaDoorDrawFrame
import Derived.Test.YtkconbmgljmpfaaDoorBytesArg
import Derived.Test.YtkconbmgljmpfaaDoorPlainCut
import Derived.Test.YtkconbmgljmpfaaDoorPlainCheck
import Derived.Test.YtkconbmgljmpfaaDoorByteS
namespace Go.Proofs.YtkconbmgljmpfaaDoor
open Go.ChangeShapes Go.WideShapes Go.ChangeAt Go.RowKit

set_option maxRecDepth 100000 in
/-- The argument of a law that draws. -/
theorem arg_code {H : Type} {enc : TypeId × Value → H} {W : World} {base : Nat} {v : Value} {d : DataW H} {p : List MemPlace} (hv : Value.okWide Tryd.prog W .any base 22 v)
    (h : DataW.Trod enc Tryd.prog W 0 (fun _ => true) true 22 v d p) : ∃ a n c, v = .slice a n c ∧ (n ≤ 1048576 → Bytes W W.heap.size a n) := by
  obtain ⟨a, n, c, rfl⟩ := okWide_slice Tryd.underlying22 hv
  exact ⟨a, n, c, rfl, bytes_of h⟩
theorem big_any (a : Option Addr) (len cap : Nat) (w : World) : Calls Tryd.prog 8 #[.slice a len cap] w fun e w' => e = .returned (.bool (decide ((1048576 : Int) < (len : Int)))) ∧ w = w' := by
  go_enter Tryd.func8, Tryd.ntmps8
  go_wp2
  go_ret
  exact ⟨rfl, rfl⟩
theorem Bytes.below_ {w w' : World} {p : Nat} {a : Option Addr} {len : Nat} (h : Bytes w p a len) (hb : Below p w w') : Bytes w' p a len :=
  ⟨h.small, h.lies.imp id fun ⟨b, off, ha, hlt, hc⟩ => ⟨b, off, ha, hlt, fun i hi => by
    obtain ⟨x, h0, h1, hx⟩ := hc i hi
    exact ⟨x, h0, h1, (hb.cell (p := ⟨b, off + i, none⟩) hlt).trans hx⟩⟩⟩
/-- A byte of the code, or what stands for it. -/
theorem at_any (i : Nat) (a : Option Addr) (len cap : Nat) (B : Nat) (w : World) (hi : i ≤ 2) (hb : Bytes w B a len) :
    Calls Tryd.prog 13 #[.slice a len cap, .int .i64 (i : Int)] w fun e w' => (∃ x : Int, e = .returned (.int .i64 x) ∧ 0 ≤ x ∧ x ≤ 255) ∧ w = w' := by
  have hs := hb.small
  by_cases h : i < len
  · obtain ⟨b, off, rfl, hbB, hc⟩ := hb.lies.resolve_left (by omega)
    obtain ⟨x, h0, h1, hx⟩ := hc i h
    have hw : IntKind.i64.wrap x = x := IntWalk.i64_in _ (by omega)
    have h' : (i : Int) < (len : Int) := by omega
    clear hc hb
    go_enter Tryd.func13, Tryd.ntmps13
    go_wp2
    go_ret
    exact ⟨⟨_, rfl, h0, h1⟩, rfl⟩
  · have h' : ¬ ((i : Int) < (len : Int)) := by omega
    clear hb
    go_enter Tryd.func13, Tryd.ntmps13
    go_wp2
    go_ret
    exact ⟨⟨_, rfl, by omega, by omega⟩, rfl⟩
theorem xor_u8 {a b : Int} (h0 : 0 ≤ a) (h1 : a ≤ 255) (k0 : 0 ≤ b) (k1 : b ≤ 255) : bits .xor .u8 a b = xorI a b := by
  obtain ⟨x, rfl⟩ := Int.eq_ofNat_of_zero_le h0
  obtain ⟨y, rfl⟩ := Int.eq_ofNat_of_zero_le k0
  have hx : x ^^^ y < 2 ^ 8 := Nat.xor_lt_two_pow (by omega) (by omega)
  show IntKind.u8.wrap ((BitVec.ofInt 8 (x : Int) ^^^ BitVec.ofInt 8 (y : Int)).toNat : Int) = ((x ^^^ y : Nat) : Int)
  have e1 : (BitVec.ofInt 8 (x : Int)).toNat = x := by rw [BitVec.ofInt_natCast, BitVec.toNat_ofNat]; exact Nat.mod_eq_of_lt (by omega)
  have e2 : (BitVec.ofInt 8 (y : Int)).toNat = y := by rw [BitVec.ofInt_natCast, BitVec.toNat_ofNat]; exact Nat.mod_eq_of_lt (by omega)
  rw [BitVec.toNat_xor, e1, e2]
  have e3 : IntKind.u8.wrap ((x ^^^ y : Nat) : Int) = ((x ^^^ y : Nat) : Int) % 256 := by simp [IntKind.wrap, IntKind.signed, IntKind.bits]
  rw [e3]
  omega
theorem xor_turned {a b : Int} (h0 : 0 ≤ a) (h1 : a ≤ 255) (k0 : 1 ≤ b) (k1 : b ≤ 255) : 0 ≤ xorI a b ∧ xorI a b ≤ 255 ∧ xorI a b ≠ a := by
  obtain ⟨x, rfl⟩ := Int.eq_ofNat_of_zero_le h0
  obtain ⟨y, rfl⟩ := Int.eq_ofNat_of_zero_le (show 0 ≤ b by omega)
  have hx : x ^^^ y < 2 ^ 8 := Nat.xor_lt_two_pow (by omega) (by omega)
  have e : xorI (x : Int) (y : Int) = ((x ^^^ y : Nat) : Int) := by simp [xorI]
  rw [e]
  refine ⟨by omega, by omega, fun h => ?_⟩
  have h2 : x ^^^ y = x := by omega
  have h3 : x ^^^ (x ^^^ y) = x ^^^ x := by rw [h2]
  rw [← Nat.xor_assoc, Nat.xor_self, Nat.zero_xor] at h3
  omega
theorem set_other {xs : List Int} {k : Nat} {y : Int} (hk : k < xs.length) (hy : y ≠ el xs k) : xs.set k y ≠ xs := by
  intro h
  apply hy
  have : el (xs.set k y) k = el xs k := by rw [h]
  rw [← this]
  simp [el, List.getD, hk]
theorem set_isB {xs : List Int} (hx : IsB xs) (k : Nat) {y : Int} (h0 : 0 ≤ y) (h1 : y ≤ 255) : IsB (xs.set k y) := by
  intro z hz
  rcases List.mem_or_eq_of_mem_set hz with h | h
  · exact hx z h
  · rw [h]; exact ⟨h0, h1⟩
set_option maxHeartbeats 400000 in
theorem sameBytes_any (a b : Option Addr) (n m ca cb : Nat) (xs : List Int) (ha hb : Nat) (w : World) (h1 : Nums .u8 w ha a ca xs) (h2 : Nums .u8 w hb b cb xs) (hn : n = xs.length) (hm : m = xs.length) :
    Calls Tryd.prog 19 #[.slice a n ca, .slice b m cb] w fun e w' => e = .returned (.bool true) ∧ ∃ n, w' = w.drewN n := by
  subst hn
  subst hm
  have hc1 := h1.cap
  have hc2 := h1.big
  have hc3 := h2.cap
  by_cases h0 : xs = []
  · subst h0
    clear h1 h2
    go_enter Tryd.func19, Tryd.ntmps19
    go_wp2
    go_loopw [5] (fun i wr => i = .int .i64 0 ∧ wr = w) (fun i _ => 0 - (intOf i).toNat)
    case atStart => exact ⟨rfl, rfl⟩
    case round =>
      obtain ⟨rfl, rfl⟩ := hrel
      go_wp2
      go_ret
      exact ⟨rfl, 0, rfl⟩
  · rcases h1.lies with hl | ⟨b1, o1, rfl, hb1, hk1⟩
    · exact absurd hl h0
    rcases h2.lies with hl | ⟨b2, o2, rfl, hb2, hk2⟩
    · exact absurd hl h0
    have H1 := Lib.hid hk1
    have H2 := Lib.hid hk2
    clear hk1 hk2 h1 h2 h0
    go_enter Tryd.func19, Tryd.ntmps19
    go_wp2
    go_loopw [5] (fun i wr => ∃ k n : Nat, k ≤ xs.length ∧ i = .int .i64 k ∧ wr = w.drewN n) (fun i _ => xs.length - (intOf i).toNat)
    case atStart => exact ⟨0, 0, Nat.zero_le _, rfl, rfl⟩
    case round =>
      obtain ⟨k, n, hk, rfl, rfl⟩ := hrel
      by_cases hlt : k < xs.length
      · have hk1 := H1.out k hlt
        have hk2 := H2.out k hlt
        have hlt' : (k : Int) < (xs.length : Int) := by omega
        go_wp2
        go_quiet (fail)
        go_wp2
        go_roundw
        case rel => exact ⟨k + 1, _, by omega, by go_num, rfl⟩
        case measure => simp [intOf]; omega
      · obtain rfl : k = xs.length := by omega
        go_wp2
        go_ret
        exact ⟨rfl, n, rfl⟩
theorem sameBytes_b (a b : Option Addr) (n m ca cb : Nat) (xs : List Int) (ha hb : Nat) (w : World) (h1 : Nums .u8 w ha a ca xs) (h2 : Nums .u8 w hb b cb xs) (hn : n = xs.length) (hm : m = xs.length) :
    Calls Tryd.prog 19 #[.slice a n ca, .slice b m cb] w fun e w' => e = .returned (.bool true) ∧ Below w.heap.size w w' :=
  (sameBytes_any a b n m ca cb xs ha hb w h1 h2 hn hm).mono fun e w' ⟨he, k, hw⟩ => ⟨he, by rw [hw]; exact below_drewN (Below.refl _ _) k⟩
end Go.Proofs.YtkconbmgljmpfaaDoor
