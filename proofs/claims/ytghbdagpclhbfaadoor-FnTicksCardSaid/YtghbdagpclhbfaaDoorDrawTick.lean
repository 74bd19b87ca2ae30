/- The draws of chapter 1, up to their bounds. -/
import Derived.Test.YtghbdagpclhbfaaDoorDraw
namespace Go.Proofs.YtghbdagpclhbfaaDoor
open Go.RowKit

theorem el_in (xs : List Int) (lo hi : Int) (h : ∀ x ∈ xs, lo ≤ x ∧ x ≤ hi) (k : Nat) (hk : k < xs.length) : lo ≤ el xs k ∧ el xs k ≤ hi := by
  have e : el xs k = xs[k] := by simp [el, List.getD, hk]
  rw [e]
  exact h _ (List.getElem_mem hk)

set_option maxRecDepth 100000 in
set_option maxHeartbeats 1000000 in
theorem drawTick_any (p : Nat) (a : Option Addr) (len cap : Nat) (w : World) (hc : Cur w p a len cap) :
    Calls Tryd.prog 37 #[.pointer (some ⟨p, 0, none⟩)] w (DrawPost 0 1000000000 p a len cap w) := by
  go_enter Tryd.func37, Tryd.ntmps37
  go_wp2_with fail
  refine (below_any p a len cap _ (by omega) (by omega) _ hc).mono ?_
  rintro e w1 ⟨x, rfl, hx0, hx1, hc1, hg1⟩
  go_wp2_with fail
  refine (below_any p a len cap _ (by omega) (by omega) _ hc1).mono ?_
  rintro e w2 ⟨y, rfl, hy0, hy1, hc2, hg2⟩
  have hin : ∀ z ∈ [0, 1, 999, 1000, x, y, 1000000000, 999999999], (0 : Int) ≤ z ∧ z ≤ 1000000000 := by
    intro z hz
    simp only [List.mem_cons, List.not_mem_nil, or_false] at hz
    omega
  have HI := Lib.hid hin
  clear hin
  go_wp2_with fail
  refine (pick_lit p a len cap [0, 1, 999, 1000, x, y, 1000000000, 999999999] 8 _ _ (by simp) (by simp) rfl rfl _ hc2).mono ?_
  rintro e w3 ⟨k, hk, rfl, hc3, hg3⟩
  have hk2 := el_in _ _ _ HI.out k hk
  go_wp2
  go_ret
  exact ⟨_, rfl, hk2.1, hk2.2, hc3, grown_trans (grown_trans hg1 hg2) hg3⟩

set_option maxRecDepth 100000 in
set_option maxHeartbeats 1000000 in
theorem drawAny_any (p : Nat) (a : Option Addr) (len cap : Nat) (w : World) (hc : Cur w p a len cap) :
    Calls Tryd.prog 22 #[.pointer (some ⟨p, 0, none⟩)] w (DrawPost (-9223372036854775808) 9223372036854775807 p a len cap w) := by
  go_enter Tryd.func22, Tryd.ntmps22
  go_wp2_with fail
  refine (once_any p a len cap _ (by omega) (by omega) _ hc).mono ?_
  rintro e w1 ⟨b, rfl, hc1, hg1⟩
  cases b with
  | true =>
    go_wp2_with fail
    refine (pick_lit p a len cap [-1, 1000000001, -1000000001, 9223372036854775807, -9223372036854775808] 5 _ _ (by simp) (by simp) rfl rfl _ hc1).mono ?_
    rintro e w3 ⟨k, hk, rfl, hc3, hg3⟩
    have hk2 := el_in [-1, 1000000001, -1000000001, 9223372036854775807, -9223372036854775808] (-9223372036854775808) 9223372036854775807 (by decide) k hk
    go_wp2
    go_ret
    exact ⟨_, rfl, hk2.1, hk2.2, hc3, grown_trans hg1 hg3⟩
  | false =>
    go_wp2_with fail
    refine (drawTick_any p a len cap _ hc1).mono ?_
    rintro e w3 ⟨x, rfl, hx0, hx1, hc3, hg3⟩
    go_wp2
    go_ret
    exact ⟨_, rfl, by omega, by omega, hc3, grown_trans hg1 hg3⟩

/-- Two numbers, and of what was there nothing has turned. -/
def TwoPost (w : World) (e : Ending) (w' : World) : Prop :=
  ∃ x y : Int, e = .returned (.tuple #[.int .i64 x, .int .i64 y]) ∧ -9223372036854775808 ≤ x ∧ x ≤ 9223372036854775807 ∧ -9223372036854775808 ≤ y ∧ y ≤ 9223372036854775807 ∧ Below w.heap.size w w'
theorem below_of_none {w w' : World} (h : w.grownBy w' none) : Below w.heap.size w w' := ⟨h.os, h.tape, h.output, h.size, fun k hk => h.block k hk (by simp)⟩
theorem below_of_own {w w' : World} {B p : Nat} (h : w.grownBy w' (some p)) (hp : B ≤ p) (hB : B ≤ w.heap.size) : Below B w w' := ⟨h.os, h.tape, h.output, h.size, fun k hk => h.block k (by omega) (fun e => by injection e with e; omega)⟩
set_option maxRecDepth 100000 in
set_option maxHeartbeats 1000000 in
theorem drawSince_any (a : Option Addr) (len cap : Nat) (w : World) (hb : Bytes w w.heap.size a len) :
    Calls Tryd.prog 7 #[.slice a len cap] w (TwoPost w) := by
  have HB := Lib.hid hb
  clear hb
  go_enter Tryd.func7, Tryd.ntmps7
  go_wp2_with fail
  refine (new_any a len cap _ HB.out).mono ?_
  rintro e w1 ⟨p, hp, rfl, hc1, hg1⟩
  have hs1 := hg1.size
  go_wp2_with fail
  refine (drawAny_any p a len cap _ hc1).mono ?_
  rintro e w2 ⟨x, rfl, hx0, hx1, hc2, hg2⟩
  have hs2 := hg2.size
  go_wp2_with fail
  refine (drawAny_any p a len cap _ hc2).mono ?_
  rintro e w3 ⟨y, rfl, hy0, hy1, hc3, hg3⟩
  have hbel : Hid (Below w.heap.size w w3) := ((below_of_none hg1).trans (below_of_own hg2 hp hs1)).trans (below_of_own hg3 hp (by omega))
  go_wp2
  go_ret2
  exact ⟨x, y, rfl, hx0, hx1, hy0, hy1, hbel⟩

end Go.Proofs.YtghbdagpclhbfaaDoor
