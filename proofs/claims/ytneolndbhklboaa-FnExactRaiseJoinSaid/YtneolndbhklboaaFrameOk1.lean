/- impl.FrameOk at events and marks. -/
import Derived.Test.YtneolndbhklboaaBody
namespace Go.Proofs.Ytneolndbhklboaa
open Go.RowKit

set_option maxHeartbeats 1600000 in
theorem implFrameOk_event (y t v : Int) (w : World) :
    Calls Try.prog 93 #[(.agg #[.int .i64 1, .int .i64 y, .int .i64 t, .int .i64 v])] w fun e w' => e = .returned (.bool (fOk 1 y t v)) ∧ Below w.heap.size w w' := by
  have hm := meth_eok
  have ey : (y == y) = true := by simp
  have et : (t == t) = true := by simp
  have ev : (v == v) = true := by simp
  have k0 := Blk.new w 38 #[.int .i64 1, .int .i64 y, .int .i64 t, .int .i64 v]
  have b0 := Lib.hid ((Below.refl w.heap.size w).alloc (Nat.le_refl _) (.cells #[.int .i64 1, .int .i64 y, .int .i64 t, .int .i64 v] 38))
  have K0 := Lib.hid k0
  clear k0
  cases hf : fOk 1 y t v with
  | true =>
    go_enter Try.func93, Try.ntmps93
    go_wp2_with fail
    refine (bodyOf_event y t v _).mono ?_
    rintro e w1 ⟨rfl, hb1⟩
    have k1 := K0.out.below hb1
    have B1 := Lib.hid (b0.out.trans (hb1.mono (by simp)))
    have q1 := k1.cell
    have K1 := Lib.hid k1
    clear hb1 k1
    go_wp2_with fail
    go_region_with (first
      | (go_at_call 142; refine (eventOk_any y t v _).mono ?_; rintro e w2 ⟨rfl, hb2⟩; have k2 := K1.out.drew.below hb2; have q2 := k2.cell; have K2 := Lib.hid k2; have B2 := Lib.hid (below_next B1.out.drew hb2); clear hb2 k2)
      | (go_at_call 107; refine (frameOf_event y t v _).mono ?_; rintro e w3 ⟨rfl, hb3⟩; have k3 := K2.out.below hb3; have q3 := k3.cell; have B3 := Lib.hid (below_next B2.out hb3); clear hb3 k3))
    all_goals
      go_wp2
      go_ret
      exact ⟨rfl, B3.out⟩
  | false =>
    have hok := fun W => eventOk_any y t v W
    rw [hf] at hok
    have HO := Lib.hid hok
    clear hok hf
    go_enter Try.func93, Try.ntmps93
    go_wp2_with fail
    refine (bodyOf_event y t v _).mono ?_
    rintro e w1 ⟨rfl, hb1⟩
    have k1 := K0.out.below hb1
    have B1 := Lib.hid (b0.out.trans (hb1.mono (by simp)))
    have q1 := k1.cell
    have K1 := Lib.hid k1
    clear hb1 k1
    go_wp2_with fail
    first | go_region_with (go_at_call 142; refine (HO.out _).mono ?_; rintro e w2 ⟨rfl, hb2⟩; have B2 := Lib.hid (below_next B1.out.drew hb2); clear hb2) | fail
    all_goals
      go_wp2
      go_ret
      exact ⟨rfl, B2.out⟩
set_option maxHeartbeats 1600000 in
theorem implFrameOk_mark (y t v : Int) (w : World) :
    Calls Try.prog 93 #[(.agg #[.int .i64 2, .int .i64 y, .int .i64 t, .int .i64 v])] w fun e w' => e = .returned (.bool (fOk 2 y t v)) ∧ Below w.heap.size w w' := by
  have hm := meth_mok
  have et : (t == t) = true := by simp
  rw [fOk_mark]
  have k0 := Blk.new w 38 #[.int .i64 2, .int .i64 y, .int .i64 t, .int .i64 v]
  have b0 := Lib.hid ((Below.refl w.heap.size w).alloc (Nat.le_refl _) (.cells #[.int .i64 2, .int .i64 y, .int .i64 t, .int .i64 v] 38))
  have K0 := Lib.hid k0
  clear k0
  cases hf : inB t 0 1000000 with
  | false =>
    rw [Bool.and_false, Bool.false_and]
    have hok := fun W => markOk_any t W
    rw [hf] at hok
    have HO := Lib.hid hok
    clear hok hf
    go_enter Try.func93, Try.ntmps93
    go_wp2_with fail
    refine (bodyOf_mark y t v _).mono ?_
    rintro e w1 ⟨rfl, hb1⟩
    have k1 := K0.out.below hb1
    have B1 := Lib.hid (b0.out.trans (hb1.mono (by simp)))
    have q1 := k1.cell
    have K1 := Lib.hid k1
    clear hb1 k1
    go_wp2_with fail
    first | go_region_with (go_at_call 144; refine (HO.out _).mono ?_; rintro e w2 ⟨rfl, hb2⟩; have B2 := Lib.hid (below_next B1.out.drew hb2); clear hb2) | fail
    all_goals
      go_wp2
      go_ret
      exact ⟨rfl, B2.out⟩
  | true =>
    rw [Bool.and_true]
    by_cases hy : y = 0
    · subst hy
      by_cases hv : v = 0
      · subst hv
        go_enter Try.func93, Try.ntmps93
        go_wp2_with fail
        refine (bodyOf_mark 0 t 0 _).mono ?_
        rintro e w1 ⟨rfl, hb1⟩
        have k1 := K0.out.below hb1
        have B1 := Lib.hid (b0.out.trans (hb1.mono (by simp)))
        have q1 := k1.cell
        have K1 := Lib.hid k1
        clear hb1 k1
        go_wp2_with fail
        go_region_with (first
          | (go_at_call 144; refine (markOk_any t _).mono ?_; rintro e w2 ⟨rfl, hb2⟩; have k2 := K1.out.drew.below hb2; have q2 := k2.cell; have K2 := Lib.hid k2; have B2 := Lib.hid (below_next B1.out.drew hb2); clear hb2 k2)
          | (go_at_call 107; refine (frameOf_mark t _).mono ?_; rintro e w3 ⟨rfl, hb3⟩; have k3 := K2.out.below hb3; have q3 := k3.cell; have B3 := Lib.hid (below_next B2.out hb3); clear hb3 k3))
        all_goals
          go_wp2
          go_ret
          exact ⟨rfl, B3.out⟩
      · have hv0 : (v == 0) = false := by simp [hv]
        have hv1 : ((0 : Int) == v) = false := by simp; omega
        rw [hv0, Bool.and_false]
        clear hv hv0
        go_enter Try.func93, Try.ntmps93
        go_wp2_with fail
        refine (bodyOf_mark 0 t v _).mono ?_
        rintro e w1 ⟨rfl, hb1⟩
        have k1 := K0.out.below hb1
        have B1 := Lib.hid (b0.out.trans (hb1.mono (by simp)))
        have q1 := k1.cell
        have K1 := Lib.hid k1
        clear hb1 k1
        go_wp2_with fail
        go_region_with (first
          | (go_at_call 144; refine (markOk_any t _).mono ?_; rintro e w2 ⟨rfl, hb2⟩; have k2 := K1.out.drew.below hb2; have q2 := k2.cell; have K2 := Lib.hid k2; have B2 := Lib.hid (below_next B1.out.drew hb2); clear hb2 k2)
          | (go_at_call 107; refine (frameOf_mark t _).mono ?_; rintro e w3 ⟨rfl, hb3⟩; have k3 := K2.out.below hb3; have q3 := k3.cell; have B3 := Lib.hid (below_next B2.out hb3); clear hb3 k3))
        all_goals
          go_wp2
          go_ret
          exact ⟨rfl, B3.out⟩
    · have hy0 : (y == 0) = false := by simp [hy]
      have hy1 : ((0 : Int) == y) = false := by simp; omega
      rw [hy0, Bool.false_and]
      clear hy hy0
      go_enter Try.func93, Try.ntmps93
      go_wp2_with fail
      refine (bodyOf_mark y t v _).mono ?_
      rintro e w1 ⟨rfl, hb1⟩
      have k1 := K0.out.below hb1
      have B1 := Lib.hid (b0.out.trans (hb1.mono (by simp)))
      have q1 := k1.cell
      have K1 := Lib.hid k1
      clear hb1 k1
      go_wp2_with fail
      go_region_with (first
        | (go_at_call 144; refine (markOk_any t _).mono ?_; rintro e w2 ⟨rfl, hb2⟩; have k2 := K1.out.drew.below hb2; have q2 := k2.cell; have K2 := Lib.hid k2; have B2 := Lib.hid (below_next B1.out.drew hb2); clear hb2 k2)
        | (go_at_call 107; refine (frameOf_mark t _).mono ?_; rintro e w3 ⟨rfl, hb3⟩; have k3 := K2.out.below hb3; have q3 := k3.cell; have B3 := Lib.hid (below_next B2.out hb3); clear hb3 k3))
      all_goals
        go_wp2
        go_ret
        exact ⟨rfl, B3.out⟩

end Go.Proofs.Ytneolndbhklboaa
