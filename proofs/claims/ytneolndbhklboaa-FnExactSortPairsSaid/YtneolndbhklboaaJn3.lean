/- Chapter 12, spec's side: PairLess. (made by tools/mkjoin3.py) -/
import Derived.Test.YtneolndbhklboaaPairS
import Derived.Deep.QuietTactic
import Derived.BigQuiet
import Derived.StillTailTactics
import Derived.IntWalk
namespace Go.Proofs.Ytneolndbhklboaa
open Go.RowKit
def prLess (A B : Pr) : Bool := if A.ky = B.ky then if A.lt = B.lt then if A.rt = B.rt then if A.lv = B.lv then decide (A.rv < B.rv) else decide (A.lv < B.lv) else decide (A.rt < B.rt) else decide (A.lt < B.lt) else decide (A.ky < B.ky)
set_option maxHeartbeats 4000000 in
set_option maxRecDepth 100000 in
theorem sPairLess_x (a0 a1 a2 a3 a4 b0 b1 b2 b3 b4 : Int) (w : World) : Calls Try.prog 35 #[(.agg #[.int .i64 a0, .int .i64 a1, .int .i64 a2, .int .i64 a3, .int .i64 a4]), (.agg #[.int .i64 b0, .int .i64 b1, .int .i64 b2, .int .i64 b3, .int .i64 b4])] w fun e w' => e = .returned (.bool (prLess ⟨a0, a1, a2, a3, a4⟩ ⟨b0, b1, b2, b3, b4⟩)) ∧ Below w.heap.size w w' := by
  have bb := ((((Below.refl w.heap.size w).alloc (Nat.le_refl _) (.cells #[.int .i64 a0, .int .i64 a1, .int .i64 a2, .int .i64 a3, .int .i64 a4] 53)).alloc (by simp) (.cells #[.int .i64 b0, .int .i64 b1, .int .i64 b2, .int .i64 b3, .int .i64 b4] 53)).alloc (by simp; omega) (.cells #[.int .i64 a0, .int .i64 a1, .int .i64 a2, .int .i64 a3, .int .i64 a4] 3)).alloc (by simp; omega) (.cells #[.int .i64 b0, .int .i64 b1, .int .i64 b2, .int .i64 b3, .int .i64 b4] 3)
  have kx := (Blk.new ((w.alloc (.cells #[.int .i64 a0, .int .i64 a1, .int .i64 a2, .int .i64 a3, .int .i64 a4] 53)).alloc (.cells #[.int .i64 b0, .int .i64 b1, .int .i64 b2, .int .i64 b3, .int .i64 b4] 53)) 3 #[.int .i64 a0, .int .i64 a1, .int .i64 a2, .int .i64 a3, .int .i64 a4]).alloc (.cells #[.int .i64 b0, .int .i64 b1, .int .i64 b2, .int .i64 b3, .int .i64 b4] 3)
  have ky := Blk.new (((w.alloc (.cells #[.int .i64 a0, .int .i64 a1, .int .i64 a2, .int .i64 a3, .int .i64 a4] 53)).alloc (.cells #[.int .i64 b0, .int .i64 b1, .int .i64 b2, .int .i64 b3, .int .i64 b4] 53)).alloc (.cells #[.int .i64 a0, .int .i64 a1, .int .i64 a2, .int .i64 a3, .int .i64 a4] 3)) 3 #[.int .i64 b0, .int .i64 b1, .int .i64 b2, .int .i64 b3, .int .i64 b4]
  simp only [World.size_alloc] at kx ky
  have BB0 := Lib.hid bb
  have KX := Lib.hid kx
  have KY := Lib.hid ky
  have HP : Hid (prLess ⟨a0, a1, a2, a3, a4⟩ ⟨b0, b1, b2, b3, b4⟩ = if a0 = b0 then if a1 = b1 then if a2 = b2 then if a3 = b3 then decide (a4 < b4) else decide (a3 < b3) else decide (a2 < b2) else decide (a1 < b1) else decide (a0 < b0)) := Lib.hid rfl
  generalize prLess ⟨a0, a1, a2, a3, a4⟩ ⟨b0, b1, b2, b3, b4⟩ = R at HP ⊢
  clear bb kx ky
  go_enter Try.func35, Try.ntmps35
  go_wp2
  generalize (((w.alloc (.cells #[.int .i64 a0, .int .i64 a1, .int .i64 a2, .int .i64 a3, .int .i64 a4] 53)).alloc (.cells #[.int .i64 b0, .int .i64 b1, .int .i64 b2, .int .i64 b3, .int .i64 b4] 53)).alloc (.cells #[.int .i64 a0, .int .i64 a1, .int .i64 a2, .int .i64 a3, .int .i64 a4] 3)).alloc (.cells #[.int .i64 b0, .int .i64 b1, .int .i64 b2, .int .i64 b3, .int .i64 b4] 3) = w4 at KX KY BB0 ⊢
  go_loopw [7] (fun i wr => ∃ q : Nat, q ≤ 5 ∧ i = .int .i64 (q : Int) ∧ (0 < q → a0 = b0) ∧ (1 < q → a1 = b1) ∧ (2 < q → a2 = b2) ∧ (3 < q → a3 = b3) ∧ (4 < q → a4 = b4) ∧ Below w4.heap.size w4 wr) (fun i _ => 5 - (intOf i).toNat)
  case atStart => exact ⟨0, by omega, rfl, fun h => by omega, fun h => by omega, fun h => by omega, fun h => by omega, fun h => by omega,  Below.refl _ _⟩
  case round =>
    obtain ⟨q, hq, rfl, h0, h1, h2, h3, h4, hb⟩ := hrel
    have WB := Lib.hid hb
    clear hb
    have KX2 := Lib.hid (fun (W : World) (h : Below w4.heap.size w4 W) => KX.out.below h)
    have KY2 := Lib.hid (fun (W : World) (h : Below w4.heap.size w4 W) => KY.out.below h)
    rcases (show q = 0 ∨ q = 1 ∨ q = 2 ∨ q = 3 ∨ q = 4 ∨ q = 5 by omega) with rfl | rfl | rfl | rfl | rfl | rfl
    · have p := (KX2.out wr WB.out).cell 0
      have r := (KY2.out wr WB.out).cell 0
      simp only [List.getElem?_toArray, List.getElem?_cons_zero] at p r
      by_cases he : a0 = b0
      · have hne : (a0 != b0) = false := by simp [he]
        have H9 := Lib.hid he
        clear he HP h0 h1 h2 h3 h4
        go_wp2_with fail
        go_quiet (fail)
        clear p r
        have WB := Lib.hid (below_drewN WB.out nq)
        generalize wr.drewN nq = w7 at WB ⊢
        go_wp2
        go_roundw
        case rel => exact ⟨1, by omega, by go_num, fun _ => H9.out, fun h => by omega, fun h => by omega, fun h => by omega, fun h => by omega, WB.out⟩
        case measure => simp [intOf]
      · have hne : (a0 != b0) = true := by simp [he]
        have HX : Hid (R = decide (a0 < b0)) := Lib.hid (by rw [HP.out]; simp [he])
        clear he HP h0 h1 h2 h3 h4
        go_wp2_with fail
        go_quiet (fail)
        clear p r
        have WB := Lib.hid (below_drewN WB.out nq)
        generalize wr.drewN nq = w7 at WB ⊢
        have p := (KX2.out w7 WB.out).cell 0
        have r := (KY2.out w7 WB.out).cell 0
        simp only [List.getElem?_toArray, List.getElem?_cons_zero] at p r
        go_wp2_with fail
        go_quiet (fail)
        go_wp2
        go_ret
        exact ⟨by rw [HX.out]; rfl, BB0.out.trans (below_drewN (WB.out.mono BB0.out.size) nq)⟩
    · have e0 := h0 (by omega)
      have p := (KX2.out wr WB.out).cell 1
      have r := (KY2.out wr WB.out).cell 1
      simp only [List.getElem?_toArray, List.getElem?_cons_zero, List.getElem?_cons_succ] at p r
      by_cases he : a1 = b1
      · have hne : (a1 != b1) = false := by simp [he]
        have E0 := Lib.hid e0
        have H9 := Lib.hid he
        clear he HP h0 h1 h2 h3 h4 e0
        go_wp2_with fail
        go_quiet (fail)
        clear p r
        have WB := Lib.hid (below_drewN WB.out nq)
        generalize wr.drewN nq = w7 at WB ⊢
        go_wp2
        go_roundw
        case rel => exact ⟨2, by omega, by go_num, fun _ => E0.out, fun _ => H9.out, fun h => by omega, fun h => by omega, fun h => by omega, WB.out⟩
        case measure => simp [intOf]
      · have hne : (a1 != b1) = true := by simp [he]
        have HX : Hid (R = decide (a1 < b1)) := Lib.hid (by rw [HP.out]; simp [e0, he])
        clear he HP h0 h1 h2 h3 h4 e0
        go_wp2_with fail
        go_quiet (fail)
        clear p r
        have WB := Lib.hid (below_drewN WB.out nq)
        generalize wr.drewN nq = w7 at WB ⊢
        have p := (KX2.out w7 WB.out).cell 1
        have r := (KY2.out w7 WB.out).cell 1
        simp only [List.getElem?_toArray, List.getElem?_cons_zero, List.getElem?_cons_succ] at p r
        go_wp2_with fail
        go_quiet (fail)
        go_wp2
        go_ret
        exact ⟨by rw [HX.out]; rfl, BB0.out.trans (below_drewN (WB.out.mono BB0.out.size) nq)⟩
    · have e0 := h0 (by omega)
      have e1 := h1 (by omega)
      have p := (KX2.out wr WB.out).cell 2
      have r := (KY2.out wr WB.out).cell 2
      simp only [List.getElem?_toArray, List.getElem?_cons_zero, List.getElem?_cons_succ] at p r
      by_cases he : a2 = b2
      · have hne : (a2 != b2) = false := by simp [he]
        have E0 := Lib.hid e0
        have E1 := Lib.hid e1
        have H9 := Lib.hid he
        clear he HP h0 h1 h2 h3 h4 e0 e1
        go_wp2_with fail
        go_quiet (fail)
        clear p r
        have WB := Lib.hid (below_drewN WB.out nq)
        generalize wr.drewN nq = w7 at WB ⊢
        go_wp2
        go_roundw
        case rel => exact ⟨3, by omega, by go_num, fun _ => E0.out, fun _ => E1.out, fun _ => H9.out, fun h => by omega, fun h => by omega, WB.out⟩
        case measure => simp [intOf]
      · have hne : (a2 != b2) = true := by simp [he]
        have HX : Hid (R = decide (a2 < b2)) := Lib.hid (by rw [HP.out]; simp [e0, e1, he])
        clear he HP h0 h1 h2 h3 h4 e0 e1
        go_wp2_with fail
        go_quiet (fail)
        clear p r
        have WB := Lib.hid (below_drewN WB.out nq)
        generalize wr.drewN nq = w7 at WB ⊢
        have p := (KX2.out w7 WB.out).cell 2
        have r := (KY2.out w7 WB.out).cell 2
        simp only [List.getElem?_toArray, List.getElem?_cons_zero, List.getElem?_cons_succ] at p r
        go_wp2_with fail
        go_quiet (fail)
        go_wp2
        go_ret
        exact ⟨by rw [HX.out]; rfl, BB0.out.trans (below_drewN (WB.out.mono BB0.out.size) nq)⟩
    · have e0 := h0 (by omega)
      have e1 := h1 (by omega)
      have e2 := h2 (by omega)
      have p := (KX2.out wr WB.out).cell 3
      have r := (KY2.out wr WB.out).cell 3
      simp only [List.getElem?_toArray, List.getElem?_cons_zero, List.getElem?_cons_succ] at p r
      by_cases he : a3 = b3
      · have hne : (a3 != b3) = false := by simp [he]
        have E0 := Lib.hid e0
        have E1 := Lib.hid e1
        have E2 := Lib.hid e2
        have H9 := Lib.hid he
        clear he HP h0 h1 h2 h3 h4 e0 e1 e2
        go_wp2_with fail
        go_quiet (fail)
        clear p r
        have WB := Lib.hid (below_drewN WB.out nq)
        generalize wr.drewN nq = w7 at WB ⊢
        go_wp2
        go_roundw
        case rel => exact ⟨4, by omega, by go_num, fun _ => E0.out, fun _ => E1.out, fun _ => E2.out, fun _ => H9.out, fun h => by omega, WB.out⟩
        case measure => simp [intOf]
      · have hne : (a3 != b3) = true := by simp [he]
        have HX : Hid (R = decide (a3 < b3)) := Lib.hid (by rw [HP.out]; simp [e0, e1, e2, he])
        clear he HP h0 h1 h2 h3 h4 e0 e1 e2
        go_wp2_with fail
        go_quiet (fail)
        clear p r
        have WB := Lib.hid (below_drewN WB.out nq)
        generalize wr.drewN nq = w7 at WB ⊢
        have p := (KX2.out w7 WB.out).cell 3
        have r := (KY2.out w7 WB.out).cell 3
        simp only [List.getElem?_toArray, List.getElem?_cons_zero, List.getElem?_cons_succ] at p r
        go_wp2_with fail
        go_quiet (fail)
        go_wp2
        go_ret
        exact ⟨by rw [HX.out]; rfl, BB0.out.trans (below_drewN (WB.out.mono BB0.out.size) nq)⟩
    · have e0 := h0 (by omega)
      have e1 := h1 (by omega)
      have e2 := h2 (by omega)
      have e3 := h3 (by omega)
      have p := (KX2.out wr WB.out).cell 4
      have r := (KY2.out wr WB.out).cell 4
      simp only [List.getElem?_toArray, List.getElem?_cons_zero, List.getElem?_cons_succ] at p r
      by_cases he : a4 = b4
      · have hne : (a4 != b4) = false := by simp [he]
        have E0 := Lib.hid e0
        have E1 := Lib.hid e1
        have E2 := Lib.hid e2
        have E3 := Lib.hid e3
        have H9 := Lib.hid he
        clear he HP h0 h1 h2 h3 h4 e0 e1 e2 e3
        go_wp2_with fail
        go_quiet (fail)
        clear p r
        have WB := Lib.hid (below_drewN WB.out nq)
        generalize wr.drewN nq = w7 at WB ⊢
        go_wp2
        go_roundw
        case rel => exact ⟨5, by omega, by go_num, fun _ => E0.out, fun _ => E1.out, fun _ => E2.out, fun _ => E3.out, fun _ => H9.out, WB.out⟩
        case measure => simp [intOf]
      · have hne : (a4 != b4) = true := by simp [he]
        have HX : Hid (R = decide (a4 < b4)) := Lib.hid (by rw [HP.out]; simp [e0, e1, e2, e3])
        clear he HP h0 h1 h2 h3 h4 e0 e1 e2 e3
        go_wp2_with fail
        go_quiet (fail)
        clear p r
        have WB := Lib.hid (below_drewN WB.out nq)
        generalize wr.drewN nq = w7 at WB ⊢
        have p := (KX2.out w7 WB.out).cell 4
        have r := (KY2.out w7 WB.out).cell 4
        simp only [List.getElem?_toArray, List.getElem?_cons_zero, List.getElem?_cons_succ] at p r
        go_wp2_with fail
        go_quiet (fail)
        go_wp2
        go_ret
        exact ⟨by rw [HX.out]; rfl, BB0.out.trans (below_drewN (WB.out.mono BB0.out.size) nq)⟩
    · have HX : Hid (R = false) := Lib.hid (by rw [HP.out]; simp [h0 (by omega), h1 (by omega), h2 (by omega), h3 (by omega), h4 (by omega)])
      clear HP h0 h1 h2 h3 h4
      go_wp2
      go_ret
      exact ⟨by rw [HX.out]; rfl, BB0.out.trans (WB.out.mono BB0.out.size)⟩
end Go.Proofs.Ytneolndbhklboaa
