/- Chapter 12, impl's side: meetWithin and its closure, pairOf, meeting. (made by tools/mkmeet.py) -/
import Derived.Test.YtneolndbhklboaaPlainJn3
import Derived.Test.YtneolndbhklboaaJnI1
import Derived.StillTailTactics
namespace Go.Proofs.Ytneolndbhklboaa
open Go.RowKit
theorem meetB_in (A B : Fm) (by_ : Int) : meetB A B by_ = (decide (A.y = B.y) && inB (A.t - B.t) (-by_) by_) := by
  unfold meetB inB
  congr 1
  rw [Bool.eq_iff_iff]
  simp only [Bool.and_eq_true, decide_eq_true_eq]
  omega
set_option maxHeartbeats 2000000 in
set_option maxRecDepth 100000 in
theorem meetW1_x (k0 y0 t0 v0 k1 y1 t1 v1 by_ : Int) (bb : Nat) (w : World) (hc : w.cell? ⟨bb, 0, none⟩ = some (.int .i64 by_)) (hlt : bb < w.heap.size) (h0 : 0 ≤ t0 ∧ t0 ≤ 1000000) (h1 : 0 ≤ t1 ∧ t1 ≤ 1000000) (h2 : 0 ≤ by_ ∧ by_ ≤ 1000000) :
    Calls Try.prog 109 #[(.agg #[.int .i64 k0, .int .i64 y0, .int .i64 t0, .int .i64 v0]), (.agg #[.int .i64 k1, .int .i64 y1, .int .i64 t1, .int .i64 v1]), .pointer (some ⟨bb, 0, none⟩)] w fun e w' => e = .returned (.bool (meetB ⟨k0, y0, t0, v0⟩ ⟨k1, y1, t1, v1⟩ by_)) ∧ Below w.heap.size w w' := by
  have b1 := ((Below.refl w.heap.size w).alloc (Nat.le_refl _) (.cells #[.int .i64 k0, .int .i64 y0, .int .i64 t0, .int .i64 v0] 38)).alloc (by simp) (.cells #[.int .i64 k1, .int .i64 y1, .int .i64 t1, .int .i64 v1] 38)
  have q := (b1.cell (p := ⟨bb, 0, none⟩) hlt).trans hc
  have B1 := Lib.hid b1
  have HI := Lib.hid (fun W => isWithin_any (t0 - t1) (-by_) by_ W)
  rw [meetB_in]
  simp only
  clear b1 hc
  by_cases hy : y0 = y1
  · have hyb : (y0 == y1) = true := by simp [hy]
    rw [show decide (y0 = y1) = true by simp [hy], Bool.true_and]
    clear hy
    generalize inB (t0 - t1) (-by_) by_ = ok at HI ⊢
    go_enter Try.func109, Try.ntmps109
    go_wp2_with (go_at_call 95; refine (HI.out _).mono ?_; rintro e w' ⟨rfl, rfl⟩)
    go_ret
    exact ⟨by simp [go_sem], B1.out⟩
  · have hyb : (y0 == y1) = false := beq_eq_false_iff_ne.2 hy
    rw [show decide (y0 = y1) = false by simp [hy], Bool.false_and]
    clear hy HI
    go_enter Try.func109, Try.ntmps109
    go_wp2
    go_ret
    exact ⟨by simp [go_sem], B1.out⟩
theorem meetWithin_x (by_ : Int) (w : World) : Calls Try.prog 97 #[.int .i64 by_] w fun e w' => e = .returned (.func (.func 109) #[] #[.pointer (some ⟨w.heap.size, 0, none⟩)]) ∧ w' = w.alloc (.cells #[.int .i64 by_] 3) := by
  go_enter Try.func97, Try.ntmps97
  go_wp2
  go_ret
  exact ⟨rfl, rfl⟩
theorem meeting_x (a1 a2 : Option Addr) (n1 c1 n2 c2 bb : Nat) (w : World) : Calls Try.prog 96 #[.slice a1 n1 c1, .slice a2 n2 c2, .func (.func 109) #[] #[.pointer (some ⟨bb, 0, none⟩)]] w fun e w' => e = .returned (.func (.func 108) #[] #[.pointer (some ⟨w.heap.size, 0, none⟩), .pointer (some ⟨w.heap.size + 1, 0, none⟩), .pointer (some ⟨w.heap.size + 1 + 1, 0, none⟩)]) ∧ w' = ((w.alloc (.cells #[.slice a1 n1 c1] 97)).alloc (.cells #[.slice a2 n2 c2] 97)).alloc (.cells #[.func (.func 109) #[] #[.pointer (some ⟨bb, 0, none⟩)]] 96) := by
  go_enter Try.func96, Try.ntmps96
  go_wp2
  go_ret
  exact ⟨rfl, rfl⟩
set_option maxHeartbeats 2000000 in
theorem pairOf_x (k0 y0 t0 v0 k1 y1 t1 v1 : Int) (w : World) : Calls Try.prog 98 #[(.agg #[.int .i64 k0, .int .i64 y0, .int .i64 t0, .int .i64 v0]), (.agg #[.int .i64 k1, .int .i64 y1, .int .i64 t1, .int .i64 v1])] w fun e w' => e = .returned (.agg #[.int .i64 y0, .int .i64 t0, .int .i64 t1, .int .i64 v0, .int .i64 v1]) ∧ w' = ((w.alloc (.cells #[.int .i64 k0, .int .i64 y0, .int .i64 t0, .int .i64 v0] 38)).alloc (.cells #[.int .i64 k1, .int .i64 y1, .int .i64 t1, .int .i64 v1] 38)).alloc (.cells #[.int .i64 y0, .int .i64 t0, .int .i64 t1, .int .i64 v0, .int .i64 v1] 53) := by
  go_enter Try.func98, Try.ntmps98
  go_wp2
  exact bodyPost_ret (v := (.agg #[.int .i64 y0, .int .i64 t0, .int .i64 t1, .int .i64 v0, .int .i64 v1])) (by simp [results, Try.results98, go_sem]) rfl ⟨rfl, rfl⟩
end Go.Proofs.Ytneolndbhklboaa
