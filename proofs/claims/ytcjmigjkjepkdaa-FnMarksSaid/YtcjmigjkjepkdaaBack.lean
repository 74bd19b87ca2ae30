/- slices.Backward over lags: its closure's contract, for every loop's body. -/
import Derived.RangeFuncNested
import Derived.RangeFuncBound
import Derived.RangeFuncCalls
import Derived.RangeFuncLeaves
import Derived.Shelf.Abstract
import Derived.Shelf.RegionOpen
import Derived.WalkKit
import Derived.OwnWalkIn
import Derived.TacticsInMore
import Derived.LoopNIn
import Derived.LoopIn
import Derived.Test.YtcjmigjkjepkdaaCrowdOut
import Derived.Test.YtcjmigjkjepkdaaSortTop
namespace Go.Proofs.Ytcjmigjkjepkdaa
open Go.RowKit Go.Shelf
attribute [local go_sem] Oper.semAt_some

/-- The ranks of lags. -/
abbrev Rk := { r : Nat // r ≤ 1000001 }
/-- The slice at a holds the lags of z, below block n0. -/
def LagRow (L : Nat → Nat) (n0 : Nat) (W : World) (a : Option Addr) (len : Nat) (z : Nat → Rk) : Prop :=
  len = 0 ∨ ∃ b off, a = some ⟨b, off, none⟩ ∧ b < n0 ∧ ∀ j, j < len → W.cell? ⟨b, off + j, none⟩ = some (.float .f64 (L (z j).1))
theorem LagRow.below {L : Nat → Nat} {n0 len : Nat} {a : Option Addr} {z : Nat → Rk} {A B : World} (h : LagRow L n0 A a len z) (hb : Below n0 A B) : LagRow L n0 B a len z :=
  h.imp id fun ⟨b, off, e, hlt, hc⟩ => ⟨b, off, e, hlt, fun j hj => (hb.cell (p := ⟨b, off + j, none⟩) hlt).trans (hc j hj)⟩
/-- What a round keeps: what lies below block n0, and the slice's own box. -/
def KpB (n0 Bs : Nat) (A B : World) : Prop := Below n0 A B ∧ B.cell? ⟨Bs, 0, none⟩ = A.cell? ⟨Bs, 0, none⟩
/-- What has come behind k rounds. -/
def backs (z : Nat → Rk) (len k : Nat) : List (Rk × Nat) := (List.range k).map fun j => (z (len - 1 - j), len - 1 - j)
theorem backs_succ (z : Nat → Rk) (len k : Nat) : backs z len (k + 1) = backs z len k ++ [(z (len - 1 - k), len - 1 - k)] := by simp [backs, List.range_succ]
theorem backs_length (z : Nat → Rk) (len k : Nat) : (backs z len k).length = k := by simp [backs]

set_option maxRecDepth 100000 in
set_option maxHeartbeats 2000000 in
theorem back1_in {L : Nat → Nat} (F : Fence) (n : Nat) (h65 : F.fn 65) (hro : F.round = none) (hn : 1 ≤ n) (l Bs n0 len cap : Nat) (a : Option Addr) (z : Nat → Rk) (hreach : len ≤ 1048576) (J Jx : List (Rk × Nat) → World → Prop)
    (hY : ∀ pre x W, J pre W → pre.length < len → YieldAt F (n - 1) Try.prog l #[.int .i64 (x.2 : Nat), .float .f64 (L x.1.1)] W fun e W' =>
      (e = .returned (.bool true) ∧ J (pre ++ [x]) W' ∧ KpB n0 Bs W W') ∨ (e = .returned (.bool false) ∧ Jx (pre ++ [x]) W'))
    (W : World) (hBs : W.cell? ⟨Bs, 0, none⟩ = some (.slice a len cap)) (hc : LagRow L n0 W a len z) (h0 : J [] W) :
    CallsIn F n Try.prog 65 #[.func (.yield l) #[] #[], .pointer (some ⟨Bs, 0, none⟩)] W fun e W' => (∃ v, e = .returned v) ∧
      ((∃ ys, ys = backs z len len ∧ J ys W') ∨ (∃ pre, True ∧ Jx pre W')) := by
  have HC := Lib.hid hc
  have HBS := Lib.hid hBs
  clear hc
  refine callsIn_of_wp Try.func65 rfl h65 ?_ hro
  simp only [Try.ntmps65, List.size_toArray, List.length_cons, List.length_nil, Nat.reduceAdd, Nat.reduceSub, Array.replicate_succ, Array.replicate_zero, List.push_toArray, List.append_toArray, List.nil_append, List.cons_append]
  gi_wp2
  gi_loopw [3] (fun i wr => ∃ k : Nat, k ≤ len ∧ i = .int .i64 ((len : Int) - 1 - k) ∧ J (backs z len k) wr ∧ KpB n0 Bs W wr)
    (fun i _ => (intOf i + 1).toNat)
  case atStart => exact ⟨0, Nat.zero_le _, by congr 1; omega, h0, Below.refl _ _, rfl⟩
  case round =>
    obtain ⟨k, hk, hi, hJs, hnx⟩ := hrel
    obtain ⟨t, ht⟩ : ∃ t, t = len - 1 - k := ⟨_, rfl⟩
    have hBs2 : wr.cell? ⟨Bs, 0, none⟩ = some (.slice a len cap) := hnx.2.trans HBS.out
    by_cases hlt : k < len
    · have hti : ((len : Int) - 1 - k) = (t : Int) := by omega
      rw [hti] at hi
      subst hi
      obtain ⟨b, off, rfl, hbn, hcs⟩ := (HC.out.below hnx.1).resolve_left (by omega)
      have hcx := hcs t (by omega)
      obtain ⟨fn, tmps, assign, body, hy, hR⟩ := hY _ (z t, t) wr hJs (by rw [backs_length]; exact hlt)
      dsimp only at hy
      have htl : (t : Int) < (len : Int) := by omega
      have htl2 : t < len := by omega
      have HT := Lib.hid ht
      clear hcs ht hti
      gi_wp2
      refine hR.mono ?_
      rintro e W3 (⟨rfl, hJ3, hk3⟩ | ⟨rfl, hJx3⟩)
      · gi_wp2
        go_roundw
        case rel => exact ⟨k + 1, by omega, by have e1 := HT.out; congr 1; omega, by rw [backs_succ, ← HT.out]; exact hJ3, hnx.1.trans hk3.1, hk3.2.trans hnx.2⟩
        case measure => simp [intOf] <;> omega
      · gi_wp2
        refine bodyPost_ret (results_none rfl _ _ _) rfl ?_
        exact ⟨⟨_, rfl⟩, .inr ⟨_, trivial, hJx3⟩⟩
    · obtain rfl : k = len := by omega
      have hti : ((k : Int) - 1 - k) = -1 := by omega
      rw [hti] at hi
      subst hi
      gi_wp2
      go_end0
      exact ⟨⟨_, rfl⟩, .inl ⟨_, rfl, hJs⟩⟩
set_option maxHeartbeats 1000000 in
theorem back_any (a : Option Addr) (len cap : Nat) (w : World) :
    Calls Try.prog 54 #[.slice a len cap] w fun e w' => e = .returned (.func (.func 65) #[] #[.pointer (some ⟨w.heap.size, 0, none⟩)]) ∧ w' = w.alloc (.cells #[.slice a len cap] 72) := by
  go_enter Try.func54, Try.ntmps54
  go_wp2
  go_ret
  exact ⟨rfl, rfl⟩
theorem back_stops {L : Nat → Nat} (F : Fence) (n : Nat) (h65 : F.fn 65) (hro : F.round = none) (hn : 1 ≤ n) (Bs n0 len cap : Nat) (a : Option Addr) (z : Nat → Rk) (hreach : len ≤ 1048576) (w : World) (hBs : Bs < w.heap.size) (hn0 : n0 ≤ w.heap.size)
    (hc : w.cell? ⟨Bs, 0, none⟩ = some (.slice a len cap)) (hI : LagRow L n0 w a len z) :
    SeqStopsK F n Try.prog 65 #[.pointer (some ⟨Bs, 0, none⟩)] (fun x : Rk × Nat => #[.int .i64 (x.2 : Nat), .float .f64 (L x.1.1)]) (KpB n0 Bs) (fun ys => ys = backs z len len) (fun _ => True) len w := fun l J Jx W hW _ _ hY h0 =>
  back1_in F n h65 hro hn l Bs n0 len cap a z hreach J Jx hY W ((hW.cell (p := ⟨Bs, 0, none⟩) hBs).trans hc) (hI.below (hW.mono hn0)) h0
end Go.Proofs.Ytcjmigjkjepkdaa
