/- Chapter 11, impl's side: sessionOf, Session.isAhead, (*Session).merge. (made by tools/mkcal1.py) -/
import Derived.Test.YtchbmnpajnlijaaPlainCal
import Derived.Test.YtchbmnpajnlijaaWin4
import Derived.Deep.RegionHeld3
import Derived.Deep.RegionWith
import Derived.StillTailTactics
import Derived.OwnWalk
import Derived.IntWalk
namespace Go.Proofs.Ytchbmnpajnlijaa
open Go.RowKit
theorem below_set5s {B g : Nat} {w w1 : World} (hb : Below B w w1) (hg : B ≤ g) (v0 v1 v2 v3 v4 : Value) : Below B w (((((w1.setCell ⟨g, 0, none⟩ v0).setCell ⟨g, 1, none⟩ v1).setCell ⟨g, 2, none⟩ v2).setCell ⟨g, 3, none⟩ v3).setCell ⟨g, 4, none⟩ v4) :=
  ((((hb.setCell (p := ⟨g, 0, none⟩) hg v0).setCell (p := ⟨g, 1, none⟩) hg v1).setCell (p := ⟨g, 2, none⟩) hg v2).setCell (p := ⟨g, 3, none⟩) hg v3).setCell (p := ⟨g, 4, none⟩) hg v4
set_option maxHeartbeats 2000000 in
set_option maxRecDepth 100000 in
theorem sesOf_x (k y t v : Int) (w : World) : Calls Try.prog 92 #[(.agg #[.int .i64 k, .int .i64 y, .int .i64 t, .int .i64 v])] w fun e w' => e = .returned (.agg #[.int .i64 y, .int .i64 t, .int .i64 t, .int .i64 1, .int .i64 v]) ∧ Below w.heap.size w w' := by
  obtain ⟨K0, K1, hsz, bb⟩ := boxed2 w 66 33 #[.int .i64 k, .int .i64 y, .int .i64 t, .int .i64 v] #[.int .i64 y, .int .i64 t, .int .i64 t, .int .i64 1, .int .i64 v]
  have c1 := K1.cell
  have BB := Lib.hid bb
  clear K0 K1 hsz bb
  go_enter Try.func92, Try.ntmps92
  go_wp2
  exact bodyPost_ret (v := (.agg #[.int .i64 y, .int .i64 t, .int .i64 t, .int .i64 1, .int .i64 v])) (by simp [results, Try.results92, go_sem, c1]) rfl ⟨rfl, BB.out⟩
set_option maxHeartbeats 2000000 in
theorem isAhead_x (u0 u1 u2 u3 u4 v0 v1 v2 v3 v4 gap : Int) (w : World) (h1 : 0 ≤ u2 ∧ u2 ≤ 1000000) (h2 : 0 ≤ gap ∧ gap ≤ 1000000) : Calls Try.prog 125 #[(.agg #[.int .i64 u0, .int .i64 u1, .int .i64 u2, .int .i64 u3, .int .i64 u4]), (.agg #[.int .i64 v0, .int .i64 v1, .int .i64 v2, .int .i64 v3, .int .i64 v4]), .int .i64 gap] w fun e w' => e = .returned (.bool (ahS gap ⟨u0, u1, u2, u3, u4⟩ ⟨v0, v1, v2, v3, v4⟩)) ∧ Below w.heap.size w w' := by
  have BB := Lib.hid (((Below.refl w.heap.size w).alloc (Nat.le_refl _) (.cells #[.int .i64 u0, .int .i64 u1, .int .i64 u2, .int .i64 u3, .int .i64 u4] 33)).alloc (by simp) (.cells #[.int .i64 v0, .int .i64 v1, .int .i64 v2, .int .i64 v3, .int .i64 v4] 33))
  have hw : IntKind.i64.wrap (u2 + gap) = u2 + gap := IntWalk.i64_in _ (by omega)
  by_cases c1 : u0 < v0
  · rw [show ahS gap ⟨u0, u1, u2, u3, u4⟩ ⟨v0, v1, v2, v3, v4⟩ = true from ahS_iff.2 (.inl c1)]
    go_enter Try.func125, Try.ntmps125
    go_wp2
    go_ret
    exact ⟨by simp [go_sem], BB.out⟩
  · by_cases c2 : u0 = v0
    · by_cases c3 : u2 + gap < v1
      · rw [show ahS gap ⟨u0, u1, u2, u3, u4⟩ ⟨v0, v1, v2, v3, v4⟩ = true from ahS_iff.2 (.inr ⟨c2, c3⟩)]
        have e2 : (u0 == v0) = true := by simp [c2]
        clear c2
        go_enter Try.func125, Try.ntmps125
        go_wp2
        go_ret
        exact ⟨by simp [go_sem], BB.out⟩
      · rw [show ahS gap ⟨u0, u1, u2, u3, u4⟩ ⟨v0, v1, v2, v3, v4⟩ = false from ahS_not.2 (by simp only; omega)]
        have e2 : (u0 == v0) = true := by simp [c2]
        clear c2
        go_enter Try.func125, Try.ntmps125
        go_wp2
        go_ret
        exact ⟨by simp [go_sem], BB.out⟩
    · rw [show ahS gap ⟨u0, u1, u2, u3, u4⟩ ⟨v0, v1, v2, v3, v4⟩ = false from ahS_not.2 (by simp only; omega)]
      have e2 : (u0 == v0) = false := beq_eq_false_iff_ne.2 c2
      clear c2
      go_enter Try.func125, Try.ntmps125
      go_wp2
      go_ret
      exact ⟨by simp [go_sem], BB.out⟩
theorem held_qq (x : Int) (w : World) : Calls Try.prog 102 #[.int .i64 x] w fun e w' => e = .returned (.int .i64 (capS x)) ∧ w' = w := (implHeld_any x w).mono fun _ _ ⟨h, h2⟩ => ⟨h, h2.symm⟩
set_option maxHeartbeats 8000000 in
set_option maxRecDepth 100000 in
theorem sesMerge_x (g : Nat) (u0 u1 u2 u3 u4 v0 v1 v2 v3 v4 : Int) (P : Value) (w : World) (hb : Blk w g 136 #[.int .i64 u0, .int .i64 u1, .int .i64 u2, .int .i64 u3, .int .i64 u4, P]) (b1 : -1000000000 ≤ u3 ∧ u3 ≤ 1000000000) (b2 : -1000000000 ≤ u4 ∧ u4 ≤ 1000000000) (b3 : -1000000000 ≤ v3 ∧ v3 ≤ 1000000000) (b4 : -1000000000 ≤ v4 ∧ v4 ≤ 1000000000) :
    Calls Try.prog 143 #[.pointer (some ⟨g, 0, none⟩), (.agg #[.int .i64 v0, .int .i64 v1, .int .i64 v2, .int .i64 v3, .int .i64 v4])] w fun e w' => e = .returned (.tuple #[]) ∧ Blk w' g 136 #[.int .i64 u0, .int .i64 (if v1 < u1 then v1 else u1), .int .i64 (if u2 < v2 then v2 else u2), .int .i64 (capS (u3 + v3)), .int .i64 (capS (u4 + v4)), P] ∧ w.grownBy w' (some g) := by
  have hg := hb.lt
  have hne : w.heap.size ≠ g := by omega
  have s3 : IntKind.i64.wrap (u3 + v3) = u3 + v3 := IntWalk.i64_in _ (by omega)
  have s4 : IntKind.i64.wrap (u4 + v4) = u4 + v4 := IntWalk.i64_in _ (by omega)
  have C3 := Lib.hid (fun W => held_qq (u3 + v3) W)
  have C4 := Lib.hid (fun W => held_qq (u4 + v4) W)
  generalize capS (u3 + v3) = y3 at C3 ⊢
  generalize capS (u4 + v4) = y4 at C4 ⊢
  have K1 := Lib.hid (Blk.new w 33 #[.int .i64 v0, .int .i64 v1, .int .i64 v2, .int .i64 v3, .int .i64 v4])
  have M1 := Lib.hid (hb.alloc (.cells #[.int .i64 v0, .int .i64 v1, .int .i64 v2, .int .i64 v3, .int .i64 v4] 33))
  have G1 := Lib.hid (World.grownBy_alloc w (.cells #[.int .i64 v0, .int .i64 v1, .int .i64 v2, .int .i64 v3, .int .i64 v4] 33) (some g))
  clear hb b1 b2 b3 b4
  by_cases c1 : v1 < u1
  · rw [if_pos c1]
    by_cases c2 : u2 < v2
    · rw [if_pos c2]
      go_enter Try.func143, Try.ntmps143
      go_wp2_with fail
      generalize hW : World.alloc _ _ = W1 at K1 M1 G1 ⊢
      clear hW
      have k1 := K1.out.cell 1
      have m1 := M1.out.cell 1
      have f1 := M1.out.frozen
      simp only [List.getElem?_toArray, List.getElem?_cons_zero, List.getElem?_cons_succ] at k1 m1
      go_still_tail 9, (by kernel_rfl)
      change wpList _ _ _ _ _ W1.drew
      have K2 := Lib.hid ((show Blk W1.drew _ _ _ from K1.out).far_ (p := ⟨g, 1, none⟩) hne (.int .i64 v1))
      have M2 : Hid (Blk (W1.drew.setCell ⟨g, 1, none⟩ (.int .i64 v1)) g 136 #[.int .i64 u0, .int .i64 v1, .int .i64 u2, .int .i64 u3, .int .i64 u4, P]) := Lib.hid (by simpa using (show Blk W1.drew _ _ _ from M1.out).put_ 1 (.int .i64 v1))
      have G2 := Lib.hid (grown_trans (grown_trans G1.out (grown_drewN W1 1 (some g))) (grown_setCell W1.drew g 1 (.int .i64 v1)))
      have n1 := (show Blk W1.drew _ _ _ from M1.out).cell 1
      have e1 := (show Blk W1.drew _ _ _ from M1.out).frozen
      simp only [List.getElem?_toArray, List.getElem?_cons_zero, List.getElem?_cons_succ] at n1
      clear k1 m1 f1
      change wpList _ _ _ _ _ W1.drew
      generalize hV1 : W1.drew = V1 at n1 e1 K2 M2 G2 ⊢
      clear hV1
      go_wp2_with fail
      clear n1 e1
      generalize hU1 : World.setCell _ _ _ = W2 at K2 M2 G2 ⊢
      clear hU1
      have k2 := K2.out.cell 2
      have m2 := M2.out.cell 2
      have f2 := M2.out.frozen
      simp only [List.getElem?_toArray, List.getElem?_cons_zero, List.getElem?_cons_succ] at k2 m2
      go_still_tail 9, (by kernel_rfl)
      change wpList _ _ _ _ _ W2.drew
      have K3 := Lib.hid ((show Blk W2.drew _ _ _ from K2.out).far_ (p := ⟨g, 2, none⟩) hne (.int .i64 v2))
      have M3 : Hid (Blk (W2.drew.setCell ⟨g, 2, none⟩ (.int .i64 v2)) g 136 #[.int .i64 u0, .int .i64 v1, .int .i64 v2, .int .i64 u3, .int .i64 u4, P]) := Lib.hid (by simpa using (show Blk W2.drew _ _ _ from M2.out).put_ 2 (.int .i64 v2))
      have G3 := Lib.hid (grown_trans (grown_trans G2.out (grown_drewN W2 1 (some g))) (grown_setCell W2.drew g 2 (.int .i64 v2)))
      have n2 := (show Blk W2.drew _ _ _ from M2.out).cell 2
      have e2 := (show Blk W2.drew _ _ _ from M2.out).frozen
      simp only [List.getElem?_toArray, List.getElem?_cons_zero, List.getElem?_cons_succ] at n2
      clear k2 m2 f2
      change wpList _ _ _ _ _ W2.drew
      generalize hV2 : W2.drew = V2 at n2 e2 K3 M3 G3 ⊢
      clear hV2
      go_wp2_with fail
      clear n2 e2
      generalize hU2 : World.setCell _ _ _ = W3 at K3 M3 G3 ⊢
      clear hU2
      have k3 := K3.out.cell 3
      have m3 := M3.out.cell 3
      have f3 := M3.out.frozen
      simp only [List.getElem?_toArray, List.getElem?_cons_zero, List.getElem?_cons_succ] at k3 m3
      go_still_tail 10, (by kernel_rfl)
      still_call (C3.out _)
      repeat still_step
      refine wpStill_nil ?_
      change wpList _ _ _ _ _ W3.drew
      have K4 := Lib.hid ((show Blk W3.drew _ _ _ from K3.out).far_ (p := ⟨g, 3, none⟩) hne (.int .i64 y3))
      have M4 : Hid (Blk (W3.drew.setCell ⟨g, 3, none⟩ (.int .i64 y3)) g 136 #[.int .i64 u0, .int .i64 v1, .int .i64 v2, .int .i64 y3, .int .i64 u4, P]) := Lib.hid (by simpa using (show Blk W3.drew _ _ _ from M3.out).put_ 3 (.int .i64 y3))
      have G4 := Lib.hid (grown_trans (grown_trans G3.out (grown_drewN W3 1 (some g))) (grown_setCell W3.drew g 3 (.int .i64 y3)))
      have n3 := (show Blk W3.drew _ _ _ from M3.out).cell 3
      have e3 := (show Blk W3.drew _ _ _ from M3.out).frozen
      simp only [List.getElem?_toArray, List.getElem?_cons_zero, List.getElem?_cons_succ] at n3
      clear k3 m3 f3
      change wpList _ _ _ _ _ W3.drew
      generalize hV3 : W3.drew = V3 at n3 e3 K4 M4 G4 ⊢
      clear hV3
      go_wp2_with fail
      clear n3 e3
      generalize hU3 : World.setCell _ _ _ = W4 at K4 M4 G4 ⊢
      clear hU3
      have k4 := K4.out.cell 4
      have m4 := M4.out.cell 4
      have f4 := M4.out.frozen
      simp only [List.getElem?_toArray, List.getElem?_cons_zero, List.getElem?_cons_succ] at k4 m4
      go_still_tail 10, (by kernel_rfl)
      still_call (C4.out _)
      repeat still_step
      refine wpStill_nil ?_
      change wpList _ _ _ _ _ W4.drew
      have K5 := Lib.hid ((show Blk W4.drew _ _ _ from K4.out).far_ (p := ⟨g, 4, none⟩) hne (.int .i64 y4))
      have M5 : Hid (Blk (W4.drew.setCell ⟨g, 4, none⟩ (.int .i64 y4)) g 136 #[.int .i64 u0, .int .i64 v1, .int .i64 v2, .int .i64 y3, .int .i64 y4, P]) := Lib.hid (by simpa using (show Blk W4.drew _ _ _ from M4.out).put_ 4 (.int .i64 y4))
      have G5 := Lib.hid (grown_trans (grown_trans G4.out (grown_drewN W4 1 (some g))) (grown_setCell W4.drew g 4 (.int .i64 y4)))
      have n4 := (show Blk W4.drew _ _ _ from M4.out).cell 4
      have e4 := (show Blk W4.drew _ _ _ from M4.out).frozen
      simp only [List.getElem?_toArray, List.getElem?_cons_zero, List.getElem?_cons_succ] at n4
      clear k4 m4 f4
      generalize hV4 : W4.drew = V4 at n4 e4 K5 M5 G5 ⊢
      clear hV4
      go_wp2
      go_end0
      exact ⟨rfl, M5.out, G5.out⟩
    · rw [if_neg c2]
      go_enter Try.func143, Try.ntmps143
      go_wp2_with fail
      generalize hW : World.alloc _ _ = W1 at K1 M1 G1 ⊢
      clear hW
      have k1 := K1.out.cell 1
      have m1 := M1.out.cell 1
      have f1 := M1.out.frozen
      simp only [List.getElem?_toArray, List.getElem?_cons_zero, List.getElem?_cons_succ] at k1 m1
      go_still_tail 9, (by kernel_rfl)
      change wpList _ _ _ _ _ W1.drew
      have K2 := Lib.hid ((show Blk W1.drew _ _ _ from K1.out).far_ (p := ⟨g, 1, none⟩) hne (.int .i64 v1))
      have M2 : Hid (Blk (W1.drew.setCell ⟨g, 1, none⟩ (.int .i64 v1)) g 136 #[.int .i64 u0, .int .i64 v1, .int .i64 u2, .int .i64 u3, .int .i64 u4, P]) := Lib.hid (by simpa using (show Blk W1.drew _ _ _ from M1.out).put_ 1 (.int .i64 v1))
      have G2 := Lib.hid (grown_trans (grown_trans G1.out (grown_drewN W1 1 (some g))) (grown_setCell W1.drew g 1 (.int .i64 v1)))
      have n1 := (show Blk W1.drew _ _ _ from M1.out).cell 1
      have e1 := (show Blk W1.drew _ _ _ from M1.out).frozen
      simp only [List.getElem?_toArray, List.getElem?_cons_zero, List.getElem?_cons_succ] at n1
      clear k1 m1 f1
      change wpList _ _ _ _ _ W1.drew
      generalize hV1 : W1.drew = V1 at n1 e1 K2 M2 G2 ⊢
      clear hV1
      go_wp2_with fail
      clear n1 e1
      generalize hU1 : World.setCell _ _ _ = W2 at K2 M2 G2 ⊢
      clear hU1
      have k2 := K2.out.cell 2
      have m2 := M2.out.cell 2
      have f2 := M2.out.frozen
      simp only [List.getElem?_toArray, List.getElem?_cons_zero, List.getElem?_cons_succ] at k2 m2
      go_still_tail 9, (by kernel_rfl)
      change wpList _ _ _ _ _ W2.drew
      have K3 := Lib.hid ((show Blk W2.drew _ _ _ from K2.out).far_ (p := ⟨g, 2, none⟩) hne (.int .i64 u2))
      have M3 : Hid (Blk (W2.drew.setCell ⟨g, 2, none⟩ (.int .i64 u2)) g 136 #[.int .i64 u0, .int .i64 v1, .int .i64 u2, .int .i64 u3, .int .i64 u4, P]) := Lib.hid (by simpa using (show Blk W2.drew _ _ _ from M2.out).put_ 2 (.int .i64 u2))
      have G3 := Lib.hid (grown_trans (grown_trans G2.out (grown_drewN W2 1 (some g))) (grown_setCell W2.drew g 2 (.int .i64 u2)))
      have n2 := (show Blk W2.drew _ _ _ from M2.out).cell 2
      have e2 := (show Blk W2.drew _ _ _ from M2.out).frozen
      simp only [List.getElem?_toArray, List.getElem?_cons_zero, List.getElem?_cons_succ] at n2
      clear k2 m2 f2
      change wpList _ _ _ _ _ W2.drew
      generalize hV2 : W2.drew = V2 at n2 e2 K3 M3 G3 ⊢
      clear hV2
      go_wp2_with fail
      clear n2 e2
      generalize hU2 : World.setCell _ _ _ = W3 at K3 M3 G3 ⊢
      clear hU2
      have k3 := K3.out.cell 3
      have m3 := M3.out.cell 3
      have f3 := M3.out.frozen
      simp only [List.getElem?_toArray, List.getElem?_cons_zero, List.getElem?_cons_succ] at k3 m3
      go_still_tail 10, (by kernel_rfl)
      still_call (C3.out _)
      repeat still_step
      refine wpStill_nil ?_
      change wpList _ _ _ _ _ W3.drew
      have K4 := Lib.hid ((show Blk W3.drew _ _ _ from K3.out).far_ (p := ⟨g, 3, none⟩) hne (.int .i64 y3))
      have M4 : Hid (Blk (W3.drew.setCell ⟨g, 3, none⟩ (.int .i64 y3)) g 136 #[.int .i64 u0, .int .i64 v1, .int .i64 u2, .int .i64 y3, .int .i64 u4, P]) := Lib.hid (by simpa using (show Blk W3.drew _ _ _ from M3.out).put_ 3 (.int .i64 y3))
      have G4 := Lib.hid (grown_trans (grown_trans G3.out (grown_drewN W3 1 (some g))) (grown_setCell W3.drew g 3 (.int .i64 y3)))
      have n3 := (show Blk W3.drew _ _ _ from M3.out).cell 3
      have e3 := (show Blk W3.drew _ _ _ from M3.out).frozen
      simp only [List.getElem?_toArray, List.getElem?_cons_zero, List.getElem?_cons_succ] at n3
      clear k3 m3 f3
      change wpList _ _ _ _ _ W3.drew
      generalize hV3 : W3.drew = V3 at n3 e3 K4 M4 G4 ⊢
      clear hV3
      go_wp2_with fail
      clear n3 e3
      generalize hU3 : World.setCell _ _ _ = W4 at K4 M4 G4 ⊢
      clear hU3
      have k4 := K4.out.cell 4
      have m4 := M4.out.cell 4
      have f4 := M4.out.frozen
      simp only [List.getElem?_toArray, List.getElem?_cons_zero, List.getElem?_cons_succ] at k4 m4
      go_still_tail 10, (by kernel_rfl)
      still_call (C4.out _)
      repeat still_step
      refine wpStill_nil ?_
      change wpList _ _ _ _ _ W4.drew
      have K5 := Lib.hid ((show Blk W4.drew _ _ _ from K4.out).far_ (p := ⟨g, 4, none⟩) hne (.int .i64 y4))
      have M5 : Hid (Blk (W4.drew.setCell ⟨g, 4, none⟩ (.int .i64 y4)) g 136 #[.int .i64 u0, .int .i64 v1, .int .i64 u2, .int .i64 y3, .int .i64 y4, P]) := Lib.hid (by simpa using (show Blk W4.drew _ _ _ from M4.out).put_ 4 (.int .i64 y4))
      have G5 := Lib.hid (grown_trans (grown_trans G4.out (grown_drewN W4 1 (some g))) (grown_setCell W4.drew g 4 (.int .i64 y4)))
      have n4 := (show Blk W4.drew _ _ _ from M4.out).cell 4
      have e4 := (show Blk W4.drew _ _ _ from M4.out).frozen
      simp only [List.getElem?_toArray, List.getElem?_cons_zero, List.getElem?_cons_succ] at n4
      clear k4 m4 f4
      generalize hV4 : W4.drew = V4 at n4 e4 K5 M5 G5 ⊢
      clear hV4
      go_wp2
      go_end0
      exact ⟨rfl, M5.out, G5.out⟩
  · rw [if_neg c1]
    by_cases c2 : u2 < v2
    · rw [if_pos c2]
      go_enter Try.func143, Try.ntmps143
      go_wp2_with fail
      generalize hW : World.alloc _ _ = W1 at K1 M1 G1 ⊢
      clear hW
      have k1 := K1.out.cell 1
      have m1 := M1.out.cell 1
      have f1 := M1.out.frozen
      simp only [List.getElem?_toArray, List.getElem?_cons_zero, List.getElem?_cons_succ] at k1 m1
      go_still_tail 9, (by kernel_rfl)
      change wpList _ _ _ _ _ W1.drew
      have K2 := Lib.hid ((show Blk W1.drew _ _ _ from K1.out).far_ (p := ⟨g, 1, none⟩) hne (.int .i64 u1))
      have M2 : Hid (Blk (W1.drew.setCell ⟨g, 1, none⟩ (.int .i64 u1)) g 136 #[.int .i64 u0, .int .i64 u1, .int .i64 u2, .int .i64 u3, .int .i64 u4, P]) := Lib.hid (by simpa using (show Blk W1.drew _ _ _ from M1.out).put_ 1 (.int .i64 u1))
      have G2 := Lib.hid (grown_trans (grown_trans G1.out (grown_drewN W1 1 (some g))) (grown_setCell W1.drew g 1 (.int .i64 u1)))
      have n1 := (show Blk W1.drew _ _ _ from M1.out).cell 1
      have e1 := (show Blk W1.drew _ _ _ from M1.out).frozen
      simp only [List.getElem?_toArray, List.getElem?_cons_zero, List.getElem?_cons_succ] at n1
      clear k1 m1 f1
      change wpList _ _ _ _ _ W1.drew
      generalize hV1 : W1.drew = V1 at n1 e1 K2 M2 G2 ⊢
      clear hV1
      go_wp2_with fail
      clear n1 e1
      generalize hU1 : World.setCell _ _ _ = W2 at K2 M2 G2 ⊢
      clear hU1
      have k2 := K2.out.cell 2
      have m2 := M2.out.cell 2
      have f2 := M2.out.frozen
      simp only [List.getElem?_toArray, List.getElem?_cons_zero, List.getElem?_cons_succ] at k2 m2
      go_still_tail 9, (by kernel_rfl)
      change wpList _ _ _ _ _ W2.drew
      have K3 := Lib.hid ((show Blk W2.drew _ _ _ from K2.out).far_ (p := ⟨g, 2, none⟩) hne (.int .i64 v2))
      have M3 : Hid (Blk (W2.drew.setCell ⟨g, 2, none⟩ (.int .i64 v2)) g 136 #[.int .i64 u0, .int .i64 u1, .int .i64 v2, .int .i64 u3, .int .i64 u4, P]) := Lib.hid (by simpa using (show Blk W2.drew _ _ _ from M2.out).put_ 2 (.int .i64 v2))
      have G3 := Lib.hid (grown_trans (grown_trans G2.out (grown_drewN W2 1 (some g))) (grown_setCell W2.drew g 2 (.int .i64 v2)))
      have n2 := (show Blk W2.drew _ _ _ from M2.out).cell 2
      have e2 := (show Blk W2.drew _ _ _ from M2.out).frozen
      simp only [List.getElem?_toArray, List.getElem?_cons_zero, List.getElem?_cons_succ] at n2
      clear k2 m2 f2
      change wpList _ _ _ _ _ W2.drew
      generalize hV2 : W2.drew = V2 at n2 e2 K3 M3 G3 ⊢
      clear hV2
      go_wp2_with fail
      clear n2 e2
      generalize hU2 : World.setCell _ _ _ = W3 at K3 M3 G3 ⊢
      clear hU2
      have k3 := K3.out.cell 3
      have m3 := M3.out.cell 3
      have f3 := M3.out.frozen
      simp only [List.getElem?_toArray, List.getElem?_cons_zero, List.getElem?_cons_succ] at k3 m3
      go_still_tail 10, (by kernel_rfl)
      still_call (C3.out _)
      repeat still_step
      refine wpStill_nil ?_
      change wpList _ _ _ _ _ W3.drew
      have K4 := Lib.hid ((show Blk W3.drew _ _ _ from K3.out).far_ (p := ⟨g, 3, none⟩) hne (.int .i64 y3))
      have M4 : Hid (Blk (W3.drew.setCell ⟨g, 3, none⟩ (.int .i64 y3)) g 136 #[.int .i64 u0, .int .i64 u1, .int .i64 v2, .int .i64 y3, .int .i64 u4, P]) := Lib.hid (by simpa using (show Blk W3.drew _ _ _ from M3.out).put_ 3 (.int .i64 y3))
      have G4 := Lib.hid (grown_trans (grown_trans G3.out (grown_drewN W3 1 (some g))) (grown_setCell W3.drew g 3 (.int .i64 y3)))
      have n3 := (show Blk W3.drew _ _ _ from M3.out).cell 3
      have e3 := (show Blk W3.drew _ _ _ from M3.out).frozen
      simp only [List.getElem?_toArray, List.getElem?_cons_zero, List.getElem?_cons_succ] at n3
      clear k3 m3 f3
      change wpList _ _ _ _ _ W3.drew
      generalize hV3 : W3.drew = V3 at n3 e3 K4 M4 G4 ⊢
      clear hV3
      go_wp2_with fail
      clear n3 e3
      generalize hU3 : World.setCell _ _ _ = W4 at K4 M4 G4 ⊢
      clear hU3
      have k4 := K4.out.cell 4
      have m4 := M4.out.cell 4
      have f4 := M4.out.frozen
      simp only [List.getElem?_toArray, List.getElem?_cons_zero, List.getElem?_cons_succ] at k4 m4
      go_still_tail 10, (by kernel_rfl)
      still_call (C4.out _)
      repeat still_step
      refine wpStill_nil ?_
      change wpList _ _ _ _ _ W4.drew
      have K5 := Lib.hid ((show Blk W4.drew _ _ _ from K4.out).far_ (p := ⟨g, 4, none⟩) hne (.int .i64 y4))
      have M5 : Hid (Blk (W4.drew.setCell ⟨g, 4, none⟩ (.int .i64 y4)) g 136 #[.int .i64 u0, .int .i64 u1, .int .i64 v2, .int .i64 y3, .int .i64 y4, P]) := Lib.hid (by simpa using (show Blk W4.drew _ _ _ from M4.out).put_ 4 (.int .i64 y4))
      have G5 := Lib.hid (grown_trans (grown_trans G4.out (grown_drewN W4 1 (some g))) (grown_setCell W4.drew g 4 (.int .i64 y4)))
      have n4 := (show Blk W4.drew _ _ _ from M4.out).cell 4
      have e4 := (show Blk W4.drew _ _ _ from M4.out).frozen
      simp only [List.getElem?_toArray, List.getElem?_cons_zero, List.getElem?_cons_succ] at n4
      clear k4 m4 f4
      generalize hV4 : W4.drew = V4 at n4 e4 K5 M5 G5 ⊢
      clear hV4
      go_wp2
      go_end0
      exact ⟨rfl, M5.out, G5.out⟩
    · rw [if_neg c2]
      go_enter Try.func143, Try.ntmps143
      go_wp2_with fail
      generalize hW : World.alloc _ _ = W1 at K1 M1 G1 ⊢
      clear hW
      have k1 := K1.out.cell 1
      have m1 := M1.out.cell 1
      have f1 := M1.out.frozen
      simp only [List.getElem?_toArray, List.getElem?_cons_zero, List.getElem?_cons_succ] at k1 m1
      go_still_tail 9, (by kernel_rfl)
      change wpList _ _ _ _ _ W1.drew
      have K2 := Lib.hid ((show Blk W1.drew _ _ _ from K1.out).far_ (p := ⟨g, 1, none⟩) hne (.int .i64 u1))
      have M2 : Hid (Blk (W1.drew.setCell ⟨g, 1, none⟩ (.int .i64 u1)) g 136 #[.int .i64 u0, .int .i64 u1, .int .i64 u2, .int .i64 u3, .int .i64 u4, P]) := Lib.hid (by simpa using (show Blk W1.drew _ _ _ from M1.out).put_ 1 (.int .i64 u1))
      have G2 := Lib.hid (grown_trans (grown_trans G1.out (grown_drewN W1 1 (some g))) (grown_setCell W1.drew g 1 (.int .i64 u1)))
      have n1 := (show Blk W1.drew _ _ _ from M1.out).cell 1
      have e1 := (show Blk W1.drew _ _ _ from M1.out).frozen
      simp only [List.getElem?_toArray, List.getElem?_cons_zero, List.getElem?_cons_succ] at n1
      clear k1 m1 f1
      change wpList _ _ _ _ _ W1.drew
      generalize hV1 : W1.drew = V1 at n1 e1 K2 M2 G2 ⊢
      clear hV1
      go_wp2_with fail
      clear n1 e1
      generalize hU1 : World.setCell _ _ _ = W2 at K2 M2 G2 ⊢
      clear hU1
      have k2 := K2.out.cell 2
      have m2 := M2.out.cell 2
      have f2 := M2.out.frozen
      simp only [List.getElem?_toArray, List.getElem?_cons_zero, List.getElem?_cons_succ] at k2 m2
      go_still_tail 9, (by kernel_rfl)
      change wpList _ _ _ _ _ W2.drew
      have K3 := Lib.hid ((show Blk W2.drew _ _ _ from K2.out).far_ (p := ⟨g, 2, none⟩) hne (.int .i64 u2))
      have M3 : Hid (Blk (W2.drew.setCell ⟨g, 2, none⟩ (.int .i64 u2)) g 136 #[.int .i64 u0, .int .i64 u1, .int .i64 u2, .int .i64 u3, .int .i64 u4, P]) := Lib.hid (by simpa using (show Blk W2.drew _ _ _ from M2.out).put_ 2 (.int .i64 u2))
      have G3 := Lib.hid (grown_trans (grown_trans G2.out (grown_drewN W2 1 (some g))) (grown_setCell W2.drew g 2 (.int .i64 u2)))
      have n2 := (show Blk W2.drew _ _ _ from M2.out).cell 2
      have e2 := (show Blk W2.drew _ _ _ from M2.out).frozen
      simp only [List.getElem?_toArray, List.getElem?_cons_zero, List.getElem?_cons_succ] at n2
      clear k2 m2 f2
      change wpList _ _ _ _ _ W2.drew
      generalize hV2 : W2.drew = V2 at n2 e2 K3 M3 G3 ⊢
      clear hV2
      go_wp2_with fail
      clear n2 e2
      generalize hU2 : World.setCell _ _ _ = W3 at K3 M3 G3 ⊢
      clear hU2
      have k3 := K3.out.cell 3
      have m3 := M3.out.cell 3
      have f3 := M3.out.frozen
      simp only [List.getElem?_toArray, List.getElem?_cons_zero, List.getElem?_cons_succ] at k3 m3
      go_still_tail 10, (by kernel_rfl)
      still_call (C3.out _)
      repeat still_step
      refine wpStill_nil ?_
      change wpList _ _ _ _ _ W3.drew
      have K4 := Lib.hid ((show Blk W3.drew _ _ _ from K3.out).far_ (p := ⟨g, 3, none⟩) hne (.int .i64 y3))
      have M4 : Hid (Blk (W3.drew.setCell ⟨g, 3, none⟩ (.int .i64 y3)) g 136 #[.int .i64 u0, .int .i64 u1, .int .i64 u2, .int .i64 y3, .int .i64 u4, P]) := Lib.hid (by simpa using (show Blk W3.drew _ _ _ from M3.out).put_ 3 (.int .i64 y3))
      have G4 := Lib.hid (grown_trans (grown_trans G3.out (grown_drewN W3 1 (some g))) (grown_setCell W3.drew g 3 (.int .i64 y3)))
      have n3 := (show Blk W3.drew _ _ _ from M3.out).cell 3
      have e3 := (show Blk W3.drew _ _ _ from M3.out).frozen
      simp only [List.getElem?_toArray, List.getElem?_cons_zero, List.getElem?_cons_succ] at n3
      clear k3 m3 f3
      change wpList _ _ _ _ _ W3.drew
      generalize hV3 : W3.drew = V3 at n3 e3 K4 M4 G4 ⊢
      clear hV3
      go_wp2_with fail
      clear n3 e3
      generalize hU3 : World.setCell _ _ _ = W4 at K4 M4 G4 ⊢
      clear hU3
      have k4 := K4.out.cell 4
      have m4 := M4.out.cell 4
      have f4 := M4.out.frozen
      simp only [List.getElem?_toArray, List.getElem?_cons_zero, List.getElem?_cons_succ] at k4 m4
      go_still_tail 10, (by kernel_rfl)
      still_call (C4.out _)
      repeat still_step
      refine wpStill_nil ?_
      change wpList _ _ _ _ _ W4.drew
      have K5 := Lib.hid ((show Blk W4.drew _ _ _ from K4.out).far_ (p := ⟨g, 4, none⟩) hne (.int .i64 y4))
      have M5 : Hid (Blk (W4.drew.setCell ⟨g, 4, none⟩ (.int .i64 y4)) g 136 #[.int .i64 u0, .int .i64 u1, .int .i64 u2, .int .i64 y3, .int .i64 y4, P]) := Lib.hid (by simpa using (show Blk W4.drew _ _ _ from M4.out).put_ 4 (.int .i64 y4))
      have G5 := Lib.hid (grown_trans (grown_trans G4.out (grown_drewN W4 1 (some g))) (grown_setCell W4.drew g 4 (.int .i64 y4)))
      have n4 := (show Blk W4.drew _ _ _ from M4.out).cell 4
      have e4 := (show Blk W4.drew _ _ _ from M4.out).frozen
      simp only [List.getElem?_toArray, List.getElem?_cons_zero, List.getElem?_cons_succ] at n4
      clear k4 m4 f4
      generalize hV4 : W4.drew = V4 at n4 e4 K5 M5 G5 ⊢
      clear hV4
      go_wp2
      go_end0
      exact ⟨rfl, M5.out, G5.out⟩
end Go.Proofs.Ytchbmnpajnlijaa
