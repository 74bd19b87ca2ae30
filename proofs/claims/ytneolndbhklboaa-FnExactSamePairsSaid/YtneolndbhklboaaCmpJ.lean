/- Chapter 12, impl's side: two pairs compared; PairLess. (made by tools/mkcmpj.py) -/
import Derived.Test.YtneolndbhklboaaJn3
import Derived.LoopN
import Derived.Sort.Grow
import Derived.StillTailTactics
import Derived.Lib.Hide
namespace Go.Proofs.Ytneolndbhklboaa
open Go.RowKit
def cmpJ (a b : Int) : Int := if a < b then -1 else if b < a then 1 else 0
theorem cmpJ_lt {a b : Int} (h : a < b) : cmpJ a b = -1 := by simp [cmpJ, h]
theorem cmpJ_gt {a b : Int} (h : b < a) : cmpJ a b = 1 := by unfold cmpJ; rw [if_neg (by omega), if_pos h]
theorem cmpJ_eq {a b : Int} (h : ¬ a < b) (h2 : ¬ b < a) : cmpJ a b = 0 := by simp [cmpJ, h, h2]
def orJ (x y : Int) : Int := if x = 0 then y else x
/-- (Pair).compare, on records. -/
def cmpPr (S T : Pr) : Int := orJ (cmpJ S.ky T.ky) (orJ (orJ (cmpJ S.lt T.lt) (cmpJ S.rt T.rt)) (orJ (cmpJ S.lv T.lv) (cmpJ S.rv T.rv)))
theorem orJ_neg {x y : Int} : orJ x y < 0 ↔ x < 0 ∨ (x = 0 ∧ y < 0) := by unfold orJ; split <;> omega
theorem orJ_zero {x y : Int} : orJ x y = 0 ↔ x = 0 ∧ y = 0 := by unfold orJ; split <;> omega
theorem cmpJ_neg {a b : Int} : cmpJ a b < 0 ↔ a < b := by unfold cmpJ; split <;> (try split) <;> omega
theorem cmpJ_zero {a b : Int} : cmpJ a b = 0 ↔ a = b := by unfold cmpJ; split <;> (try split) <;> omega
theorem cmpPr_less (S T : Pr) : prLess S T = decide (cmpPr S T < 0) := by
  unfold prLess cmpPr
  rw [Bool.eq_iff_iff, decide_eq_true_eq, orJ_neg, orJ_neg, orJ_neg, orJ_neg, orJ_zero, cmpJ_neg, cmpJ_neg, cmpJ_neg, cmpJ_neg, cmpJ_neg, cmpJ_zero, cmpJ_zero, cmpJ_zero, cmpJ_zero]
  split
  · split
    · split
      · split <;> simp only [decide_eq_true_eq] <;> omega
      · simp only [decide_eq_true_eq]; omega
    · simp only [decide_eq_true_eq]; omega
  · simp only [decide_eq_true_eq]; omega
theorem isNaNJ_any (x : Int) (w : World) : Calls Try.prog 110 #[.int .i64 x] w fun e w' => e = .returned (.bool false) ∧ w = w' := by
  have h : (x != x) = false := by simp
  go_enter Try.func110, Try.ntmps110
  go_wp2
  go_ret
  exact ⟨rfl, rfl⟩
theorem compareJ_any (a b : Int) (w : World) : Calls Try.prog 100 #[.int .i64 a, .int .i64 b] w fun e w' => e = .returned (.int .i64 (cmpJ a b)) ∧ w' = w := by
  by_cases h : a < b
  · rw [cmpJ_lt h]
    go_enter Try.func100, Try.ntmps100
    go_wp2_with (go_at_call 110; refine (isNaNJ_any _ _).mono ?_; rintro e w' ⟨rfl, rfl⟩)
    go_ret
    exact ⟨rfl, rfl⟩
  · by_cases h2 : b < a
    · rw [cmpJ_gt h2]
      go_enter Try.func100, Try.ntmps100
      go_wp2_with (go_at_call 110; refine (isNaNJ_any _ _).mono ?_; rintro e w' ⟨rfl, rfl⟩)
      go_ret
      exact ⟨rfl, rfl⟩
    · rw [cmpJ_eq h h2]
      go_enter Try.func100, Try.ntmps100
      go_wp2_with (go_at_call 110; refine (isNaNJ_any _ _).mono ?_; rintro e w' ⟨rfl, rfl⟩)
      go_ret
      exact ⟨rfl, rfl⟩
theorem orJ_any (b : Nat) (x y : Int) (w : World) (h0 : w.cell? ⟨b, 0, none⟩ = some (.int .i64 x)) (h1 : w.cell? ⟨b, 1, none⟩ = some (.int .i64 y)) :
    Calls Try.prog 99 #[.slice (some ⟨b, 0, none⟩) 2 2] w fun e w' => e = .returned (.int .i64 (orJ x y)) ∧ w = w' := by
  by_cases hx : x = 0
  · subst hx
    rw [show orJ 0 y = y from rfl]
    by_cases hy : y = 0
    · subst hy
      go_enter Try.func99, Try.ntmps99
      go_wp2
      refine wp_loop_rounds 3 ?_
      repeat any_goals (rw [rounds_succ]; go_wp2)
      go_ret
      exact ⟨rfl, rfl⟩
    · go_enter Try.func99, Try.ntmps99
      go_wp2
      refine wp_loop_rounds 3 ?_
      repeat any_goals (rw [rounds_succ]; go_wp2)
      go_ret
      exact ⟨rfl, rfl⟩
  · rw [show orJ x y = x by simp [orJ, hx]]
    go_enter Try.func99, Try.ntmps99
    go_wp2
    refine wp_loop_rounds 3 ?_
    repeat any_goals (rw [rounds_succ]; go_wp2)
    go_ret
    exact ⟨rfl, rfl⟩
theorem orJ3_any (b : Nat) (x y z : Int) (w : World) (h0 : w.cell? ⟨b, 0, none⟩ = some (.int .i64 x)) (h1 : w.cell? ⟨b, 1, none⟩ = some (.int .i64 y)) (h2 : w.cell? ⟨b, 2, none⟩ = some (.int .i64 z)) :
    Calls Try.prog 99 #[.slice (some ⟨b, 0, none⟩) 3 3] w fun e w' => e = .returned (.int .i64 (orJ x (orJ y z))) ∧ w = w' := by
  by_cases hx : x = 0
  · subst hx
    rw [show orJ 0 (orJ y z) = orJ y z from rfl]
    by_cases hy : y = 0
    · subst hy
      rw [show orJ 0 z = z from rfl]
      by_cases hz : z = 0
      · subst hz
        go_enter Try.func99, Try.ntmps99
        go_wp2
        refine wp_loop_rounds 4 ?_
        repeat any_goals (rw [rounds_succ]; go_wp2)
        go_ret
        exact ⟨rfl, rfl⟩
      · go_enter Try.func99, Try.ntmps99
        go_wp2
        refine wp_loop_rounds 4 ?_
        repeat any_goals (rw [rounds_succ]; go_wp2)
        go_ret
        exact ⟨rfl, rfl⟩
    · rw [show orJ y z = y by simp [orJ, hy]]
      go_enter Try.func99, Try.ntmps99
      go_wp2
      refine wp_loop_rounds 4 ?_
      repeat any_goals (rw [rounds_succ]; go_wp2)
      go_ret
      exact ⟨rfl, rfl⟩
  · rw [show orJ x (orJ y z) = x by simp [orJ, hx]]
    go_enter Try.func99, Try.ntmps99
    go_wp2
    refine wp_loop_rounds 4 ?_
    repeat any_goals (rw [rounds_succ]; go_wp2)
    go_ret
    exact ⟨rfl, rfl⟩
/-- W has drawn, and blocks were laid; nothing else. -/
def Lain (w w' : World) : Prop := ∃ q os, w' = Sort.grow (w.drewN q) os
theorem Lain.refl (w : World) : Lain w w := ⟨0, #[], by simp [Sort.grow]; rfl⟩
theorem Lain.alloc {w w' : World} (h : Lain w w') (o : Obj) : Lain w (w'.alloc o) := by
  obtain ⟨q, os, rfl⟩ := h
  exact ⟨q, os.push o, by simp [Sort.grow, World.alloc]⟩
theorem Lain.drew {w w' : World} (h : Lain w w') : Lain w w'.drew := by
  obtain ⟨q, os, rfl⟩ := h
  exact ⟨q + 1, os, rfl⟩
theorem Lain.below {w w' : World} (h : Lain w w') : Below w.heap.size w w' := by
  obtain ⟨q, os, rfl⟩ := h
  refine ⟨rfl, rfl, rfl, by simp [Sort.grow], fun k hk => ?_⟩
  show (w.heap ++ os)[k]? = _
  rw [Array.getElem?_append_left hk]
set_option maxHeartbeats 1000000 in
set_option maxRecDepth 100000 in
theorem cmpPr_x (u0 u1 u2 u3 u4 v0 v1 v2 v3 v4 : Int) (w : World) : Calls Try.prog 75 #[(.agg #[.int .i64 u0, .int .i64 u1, .int .i64 u2, .int .i64 u3, .int .i64 u4]), (.agg #[.int .i64 v0, .int .i64 v1, .int .i64 v2, .int .i64 v3, .int .i64 v4])] w fun e w' => e = .returned (.int .i64 (cmpPr ⟨u0, u1, u2, u3, u4⟩ ⟨v0, v1, v2, v3, v4⟩)) ∧ Lain w w' := by
  have k0 := (Blk.new w 53 #[.int .i64 u0, .int .i64 u1, .int .i64 u2, .int .i64 u3, .int .i64 u4]).alloc (.cells #[.int .i64 v0, .int .i64 v1, .int .i64 v2, .int .i64 v3, .int .i64 v4] 53)
  have k1 := Blk.new (w.alloc (.cells #[.int .i64 u0, .int .i64 u1, .int .i64 u2, .int .i64 u3, .int .i64 u4] 53)) 53 #[.int .i64 v0, .int .i64 v1, .int .i64 v2, .int .i64 v3, .int .i64 v4]
  rw [World.size_alloc] at k1
  have L0 := Lib.hid (((Lain.refl w).alloc (.cells #[.int .i64 u0, .int .i64 u1, .int .i64 u2, .int .i64 u3, .int .i64 u4] 53)).alloc (.cells #[.int .i64 v0, .int .i64 v1, .int .i64 v2, .int .i64 v3, .int .i64 v4] 53))
  rw [show cmpPr ⟨u0, u1, u2, u3, u4⟩ ⟨v0, v1, v2, v3, v4⟩ = orJ (cmpJ u0 v0) (orJ (orJ (cmpJ u1 v1) (cmpJ u2 v2)) (orJ (cmpJ u3 v3) (cmpJ u4 v4))) from rfl]
  have C0 := Lib.hid (fun W => compareJ_any u0 v0 W)
  have C1 := Lib.hid (fun W => compareJ_any u1 v1 W)
  have C2 := Lib.hid (fun W => compareJ_any u2 v2 W)
  have C3 := Lib.hid (fun W => compareJ_any u3 v3 W)
  have C4 := Lib.hid (fun W => compareJ_any u4 v4 W)
  generalize cmpJ u0 v0 = X0 at C0 ⊢
  generalize cmpJ u1 v1 = X1 at C1 ⊢
  generalize cmpJ u2 v2 = X2 at C2 ⊢
  generalize cmpJ u3 v3 = X3 at C3 ⊢
  generalize cmpJ u4 v4 = X4 at C4 ⊢
  go_enter Try.func75, Try.ntmps75
  go_wp2_with fail
  generalize hW : World.alloc _ _ = W at k0 k1 L0 ⊢
  have K0 := Lib.hid k0
  have K1 := Lib.hid k1
  have a1 := k0.cell 1
  have a2 := k0.cell 2
  have c1 := k1.cell 1
  have c2 := k1.cell 2
  clear hW k0 k1
  go_still_tail 10, (by kernel_rfl)
  still_call (C1.out _)
  repeat still_step
  still_call (C2.out _)
  repeat still_step
  refine wpStill_nil ?_
  change wpList _ _ _ _ _ W.drew
  have K0 := Lib.hid K0.out.drew
  have K1 := Lib.hid K1.out.drew
  have L0 := Lib.hid L0.out.drew
  generalize W.drew = W2 at K0 K1 L0 ⊢
  clear a1 a2 c1 c2
  go_wp2_with (go_at_call 99; refine (orJ_any _ X1 X2 _ (by simp [go_sem]) (by simp [go_sem])).mono ?_; rintro e w' ⟨rfl, rfl⟩)
  generalize hY1 : orJ X1 X2 = Y1
  have HY1 := Lib.hid hY1
  clear hY1
  have K0 := Lib.hid (K0.out.alloc (.cells #[.int .i64 X1, .int .i64 X2] 3))
  have K1 := Lib.hid (K1.out.alloc (.cells #[.int .i64 X1, .int .i64 X2] 3))
  have L0 := Lib.hid (L0.out.alloc (.cells #[.int .i64 X1, .int .i64 X2] 3))
  generalize hW : World.alloc _ _ = W3 at K0 K1 L0 ⊢
  have a3 := K0.out.cell 3
  have a4 := K0.out.cell 4
  have c3 := K1.out.cell 3
  have c4 := K1.out.cell 4
  clear hW
  go_still_tail 10, (by kernel_rfl)
  still_call (C3.out _)
  repeat still_step
  still_call (C4.out _)
  repeat still_step
  refine wpStill_nil ?_
  change wpList _ _ _ _ _ W3.drew
  have K0 := Lib.hid K0.out.drew
  have K1 := Lib.hid K1.out.drew
  have L0 := Lib.hid L0.out.drew
  generalize W3.drew = W4 at K0 K1 L0 ⊢
  clear a3 a4 c3 c4
  go_wp2_with fail
  refine (orJ_any _ X3 X4 _ (by simp [go_sem]) (by simp [go_sem])).mono ?_
  rintro e w' ⟨rfl, rfl⟩
  generalize hY2 : orJ X3 X4 = Y2
  have HY2 := Lib.hid hY2
  clear hY2
  have K0 := Lib.hid (K0.out.alloc (.cells #[.int .i64 X3, .int .i64 X4] 3))
  have K1 := Lib.hid (K1.out.alloc (.cells #[.int .i64 X3, .int .i64 X4] 3))
  have L0 := Lib.hid (L0.out.alloc (.cells #[.int .i64 X3, .int .i64 X4] 3))
  generalize hW : World.alloc _ _ = W5 at K0 K1 L0 ⊢
  have p0 := K0.out.cell 0
  have r0 := K1.out.cell 0
  clear hW
  go_wp2_with (go_at_call 100; refine (C0.out _).mono ?_; rintro e w' ⟨rfl, rfl⟩)
  refine (orJ3_any _ X0 Y1 Y2 _ (by simp [go_sem]) (by simp [go_sem]) (by simp [go_sem])).mono ?_
  rintro e w' ⟨rfl, rfl⟩
  go_wp2
  go_ret
  exact ⟨by rw [HY1.out, HY2.out]; rfl, L0.out.alloc _⟩
set_option maxHeartbeats 2000000 in
set_option maxRecDepth 100000 in
theorem iPairLess_x (u0 u1 u2 u3 u4 v0 v1 v2 v3 v4 : Int) (w : World) : Calls Try.prog 37 #[(.agg #[.int .i64 u0, .int .i64 u1, .int .i64 u2, .int .i64 u3, .int .i64 u4]), (.agg #[.int .i64 v0, .int .i64 v1, .int .i64 v2, .int .i64 v3, .int .i64 v4])] w fun e w' => e = .returned (.bool (prLess ⟨u0, u1, u2, u3, u4⟩ ⟨v0, v1, v2, v3, v4⟩)) ∧ Below w.heap.size w w' := by
  have B0 := Lib.hid (((Below.refl w.heap.size w).alloc (Nat.le_refl _) (.cells #[.int .i64 u0, .int .i64 u1, .int .i64 u2, .int .i64 u3, .int .i64 u4] 53)).alloc (by simp) (.cells #[.int .i64 v0, .int .i64 v1, .int .i64 v2, .int .i64 v3, .int .i64 v4] 53))
  have CC := Lib.hid (fun W => cmpPr_x u0 u1 u2 u3 u4 v0 v1 v2 v3 v4 W)
  rw [cmpPr_less]
  generalize cmpPr ⟨u0, u1, u2, u3, u4⟩ ⟨v0, v1, v2, v3, v4⟩ = X at CC ⊢
  by_cases hX : X < 0
  · rw [show decide (X < 0) = true by simp [hX]]
    go_enter Try.func37, Try.ntmps37
    go_wp2_with fail
    refine (CC.out _).mono ?_
    rintro e w1 ⟨rfl, hb⟩
    have B1 := Lib.hid (B0.out.trans (hb.below.mono (by simp; omega)))
    clear hb
    go_wp2
    go_ret
    exact ⟨by simp [go_sem], B1.out⟩
  · rw [show decide (X < 0) = false by simp [hX]]
    go_enter Try.func37, Try.ntmps37
    go_wp2_with fail
    refine (CC.out _).mono ?_
    rintro e w1 ⟨rfl, hb⟩
    have B1 := Lib.hid (B0.out.trans (hb.below.mono (by simp; omega)))
    clear hb
    go_wp2
    go_ret
    exact ⟨by simp [go_sem]; omega, B1.out⟩
end Go.Proofs.Ytneolndbhklboaa
