/- Contracts of chapter 5: AggText on both sides. (made by tools/mkaggtext.py) -/
import Derived.Test.YtjbhcjfifkfmbaaDoorWin1
import Derived.Test.YtjbhcjfifkfmbaaDoorNum
import Derived.Test.YtjbhcjfifkfmbaaDoorLib
import Derived.Deep.RegionHeld3
namespace Go.Proofs.YtjbhcjfifkfmbaaDoor
open Go.RowKit

/-- AggText. -/
def aggT (S : Ag) : List UInt8 := if aggOk S = true then Lib.itoa S.win ++ ([47] ++ (Lib.itoa S.key ++ ([58] ++ (Lib.itoa S.cnt ++ ([32] ++ (Lib.itoa S.sum ++ ([32] ++ (Lib.itoa S.mn ++ ([32] ++ Lib.itoa S.mx))))))))) else []
theorem aggT_no {S : Ag} (h : aggOk S = false) : aggT S = [] := by simp [aggT, h]
theorem aggT_yes {S : Ag} (h : aggOk S = true) : aggT S = Lib.itoa S.win ++ ([47] ++ (Lib.itoa S.key ++ ([58] ++ (Lib.itoa S.cnt ++ ([32] ++ (Lib.itoa S.sum ++ ([32] ++ (Lib.itoa S.mn ++ ([32] ++ Lib.itoa S.mx))))))))) := by simp [aggT, h]
theorem aggOk_in {win key cnt sum mn mx : Int} (h : aggOk ⟨win, key, cnt, sum, mn, mx⟩ = true) : (-9223372036854775808 ≤ win ∧ win ≤ 9223372036854775807) ∧ (-9223372036854775808 ≤ key ∧ key ≤ 9223372036854775807) ∧ (-9223372036854775808 ≤ cnt ∧ cnt ≤ 9223372036854775807) ∧ (-9223372036854775808 ≤ sum ∧ sum ≤ 9223372036854775807) ∧ (-9223372036854775808 ≤ mn ∧ mn ≤ 9223372036854775807) ∧ (-9223372036854775808 ≤ mx ∧ mx ≤ 9223372036854775807) := by
  unfold aggOk at h
  simp only [Bool.and_eq_true, decide_eq_true_eq] at h
  obtain ⟨⟨⟨⟨⟨⟨h0, h1⟩, h2⟩, h3⟩, h4⟩, h5⟩, h6⟩ := h
  have a := inB_bd h0
  have b := inB_bd h1
  have c := inB_bd h2
  have d := inB_bd h3
  have e := inB_bd h4
  have f := inB_bd h5
  omega

set_option maxHeartbeats 4000000 in
set_option maxRecDepth 100000 in
theorem implAggText_x (win key cnt sum mn mx : Int) (w : World) (hp : Pow w) : Calls Tryd.prog 6 #[(.agg #[.int .i64 win, .int .i64 key, .int .i64 cnt, .int .i64 sum, .int .i64 mn, .int .i64 mx])] w fun e w' => e = .returned (.string (str (aggT ⟨win, key, cnt, sum, mn, mx⟩))) ∧ Below w.heap.size w w' := by
  have K0 := Lib.hid (Blk.new w 25 #[.int .i64 win, .int .i64 key, .int .i64 cnt, .int .i64 sum, .int .i64 mn, .int .i64 mx])
  have B0 := Lib.hid ((Below.refl w.heap.size w).alloc (Nat.le_refl _) (.cells #[.int .i64 win, .int .i64 key, .int .i64 cnt, .int .i64 sum, .int .i64 mn, .int .i64 mx] 25))
  have CA := Lib.hid (fun W => implAggOk_x win key cnt sum mn mx W)
  have P0 := Lib.hid (hp.below ((Below.refl w.heap.size w).alloc (Nat.le_refl _) (.cells #[.int .i64 win, .int .i64 key, .int .i64 cnt, .int .i64 sum, .int .i64 mn, .int .i64 mx] 25)))
  clear hp
  cases hS : aggOk ⟨win, key, cnt, sum, mn, mx⟩ with
  | false =>
    rw [aggT_no hS]
    rw [hS] at CA
    clear hS
    go_enter Tryd.func6, Tryd.ntmps6
    go_wp2_with fail
    refine (CA.out _).mono ?_
    rintro e w1 ⟨rfl, hb⟩
    have K := Lib.hid (K0.out.below hb)
    have B := Lib.hid (B0.out.trans (hb.mono (by simp)))
    have PW := Lib.hid (P0.out.below hb)
    clear hb
    go_wp2
    go_ret
    exact ⟨rfl, B.out⟩
  | true =>
    obtain ⟨b0, b1, b2, b3, b4, b5⟩ := aggOk_in hS
    rw [aggT_yes hS]
    rw [hS] at CA
    clear hS
    simp only
    have N0 := Lib.hid (fun (W : World) (h : Pow W) => itoa_any win b0.1 b0.2 W h)
    have N1 := Lib.hid (fun (W : World) (h : Pow W) => itoa_any key b1.1 b1.2 W h)
    have N2 := Lib.hid (fun (W : World) (h : Pow W) => itoa_any cnt b2.1 b2.2 W h)
    have N3 := Lib.hid (fun (W : World) (h : Pow W) => itoa_any sum b3.1 b3.2 W h)
    have N4 := Lib.hid (fun (W : World) (h : Pow W) => itoa_any mn b4.1 b4.2 W h)
    have N5 := Lib.hid (fun (W : World) (h : Pow W) => itoa_any mx b5.1 b5.2 W h)
    have z0 := Lib.itoa_length_le win b0.1 b0.2
    have z1 := Lib.itoa_length_le key b1.1 b1.2
    have z2 := Lib.itoa_length_le cnt b2.1 b2.2
    have z3 := Lib.itoa_length_le sum b3.1 b3.2
    have z4 := Lib.itoa_length_le mn b4.1 b4.2
    have z5 := Lib.itoa_length_le mx b5.1 b5.2
    clear b0 b1 b2 b3 b4 b5
    generalize Lib.itoa win = t0 at N0 z0 ⊢
    generalize Lib.itoa key = t1 at N1 z1 ⊢
    generalize Lib.itoa cnt = t2 at N2 z2 ⊢
    generalize Lib.itoa sum = t3 at N3 z3 ⊢
    generalize Lib.itoa mn = t4 at N4 z4 ⊢
    generalize Lib.itoa mx = t5 at N5 z5 ⊢
    have k0 : ¬ (9223372036854775807 < t0.length + 1) := by omega
    have k1 : ¬ (9223372036854775807 < t0.length + 1 + t1.length) := by omega
    have k2 : ¬ (9223372036854775807 < t2.length + 1) := by omega
    have k3 : ¬ (9223372036854775807 < t2.length + 1 + t3.length) := by omega
    have k4 : ¬ (9223372036854775807 < t4.length + 1) := by omega
    have k5 : ¬ (9223372036854775807 < t4.length + 1 + t5.length) := by omega
    go_enter Tryd.func6, Tryd.ntmps6
    go_wp2_with fail
    refine (CA.out _).mono ?_
    rintro e w1 ⟨rfl, hb⟩
    have K := Lib.hid (K0.out.below hb)
    have B := Lib.hid (B0.out.trans (hb.mono (by simp)))
    have PW := Lib.hid (P0.out.below hb)
    clear hb
    go_wp2_with fail
    have K := Lib.hid K.out.drew
    have B := Lib.hid B.out.drew
    have hs := B.out.size
    have PW := Lib.hid (PW.out.below ((Below.refl _ _).drew))
    have q0 : w1.drew.cell? ⟨w.heap.size, 0, none⟩ = some (.int .i64 win) := K.out.cell 0
    have q1 : w1.drew.cell? ⟨w.heap.size, 1, none⟩ = some (.int .i64 key) := K.out.cell 1
    go_region_held3 (fun W => W.cell? ⟨w.heap.size, 0, none⟩ = some (.int .i64 win) ∧ W.cell? ⟨w.heap.size, 1, none⟩ = some (.int .i64 key))
      (exact ⟨q0, q1⟩)
      (first | (go_at_call 10; (first | ((with_reducible refine (N0.out _ PW.out).mono ?_); rintro e w2 ⟨rfl, hb⟩; have K := Lib.hid (K.out.below hb); have B := Lib.hid (B.out.trans (hb.mono hs)); have hs := B.out.size; have PW := Lib.hid (PW.out.below hb); have q0 : w2.cell? ⟨w.heap.size, 0, none⟩ = some (.int .i64 win) := K.out.cell 0; have q1 : w2.cell? ⟨w.heap.size, 1, none⟩ = some (.int .i64 key) := K.out.cell 1; clear hb) | ((with_reducible refine (N1.out _ PW.out).mono ?_); rintro e w2 ⟨rfl, hb⟩; have K := Lib.hid (K.out.below hb); have B := Lib.hid (B.out.trans (hb.mono hs)); have hs := B.out.size; have PW := Lib.hid (PW.out.below hb); have q0 : w2.cell? ⟨w.heap.size, 0, none⟩ = some (.int .i64 win) := K.out.cell 0; have q1 : w2.cell? ⟨w.heap.size, 1, none⟩ = some (.int .i64 key) := K.out.cell 1; clear hb))))
    clear q0 q1
    go_wp2_with fail
    have K := Lib.hid K.out.drew
    have B := Lib.hid B.out.drew
    have hs := B.out.size
    have PW := Lib.hid (PW.out.below ((Below.refl _ _).drew))
    have q2 : w2.drew.cell? ⟨w.heap.size, 2, none⟩ = some (.int .i64 cnt) := K.out.cell 2
    have q3 : w2.drew.cell? ⟨w.heap.size, 3, none⟩ = some (.int .i64 sum) := K.out.cell 3
    go_region_held3 (fun W => W.cell? ⟨w.heap.size, 2, none⟩ = some (.int .i64 cnt) ∧ W.cell? ⟨w.heap.size, 3, none⟩ = some (.int .i64 sum))
      (exact ⟨q2, q3⟩)
      (first | (go_at_call 10; (first | ((with_reducible refine (N2.out _ PW.out).mono ?_); rintro e w2 ⟨rfl, hb⟩; have K := Lib.hid (K.out.below hb); have B := Lib.hid (B.out.trans (hb.mono hs)); have hs := B.out.size; have PW := Lib.hid (PW.out.below hb); have q2 : w2.cell? ⟨w.heap.size, 2, none⟩ = some (.int .i64 cnt) := K.out.cell 2; have q3 : w2.cell? ⟨w.heap.size, 3, none⟩ = some (.int .i64 sum) := K.out.cell 3; clear hb) | ((with_reducible refine (N3.out _ PW.out).mono ?_); rintro e w2 ⟨rfl, hb⟩; have K := Lib.hid (K.out.below hb); have B := Lib.hid (B.out.trans (hb.mono hs)); have hs := B.out.size; have PW := Lib.hid (PW.out.below hb); have q2 : w2.cell? ⟨w.heap.size, 2, none⟩ = some (.int .i64 cnt) := K.out.cell 2; have q3 : w2.cell? ⟨w.heap.size, 3, none⟩ = some (.int .i64 sum) := K.out.cell 3; clear hb))))
    clear q2 q3
    go_wp2_with fail
    have K := Lib.hid K.out.drew
    have B := Lib.hid B.out.drew
    have hs := B.out.size
    have PW := Lib.hid (PW.out.below ((Below.refl _ _).drew))
    have q4 : w2.drew.cell? ⟨w.heap.size, 4, none⟩ = some (.int .i64 mn) := K.out.cell 4
    have q5 : w2.drew.cell? ⟨w.heap.size, 5, none⟩ = some (.int .i64 mx) := K.out.cell 5
    go_region_held3 (fun W => W.cell? ⟨w.heap.size, 4, none⟩ = some (.int .i64 mn) ∧ W.cell? ⟨w.heap.size, 5, none⟩ = some (.int .i64 mx))
      (exact ⟨q4, q5⟩)
      (first | (go_at_call 10; (first | ((with_reducible refine (N4.out _ PW.out).mono ?_); rintro e w2 ⟨rfl, hb⟩; have K := Lib.hid (K.out.below hb); have B := Lib.hid (B.out.trans (hb.mono hs)); have hs := B.out.size; have PW := Lib.hid (PW.out.below hb); have q4 : w2.cell? ⟨w.heap.size, 4, none⟩ = some (.int .i64 mn) := K.out.cell 4; have q5 : w2.cell? ⟨w.heap.size, 5, none⟩ = some (.int .i64 mx) := K.out.cell 5; clear hb) | ((with_reducible refine (N5.out _ PW.out).mono ?_); rintro e w2 ⟨rfl, hb⟩; have K := Lib.hid (K.out.below hb); have B := Lib.hid (B.out.trans (hb.mono hs)); have hs := B.out.size; have PW := Lib.hid (PW.out.below hb); have q4 : w2.cell? ⟨w.heap.size, 4, none⟩ = some (.int .i64 mn) := K.out.cell 4; have q5 : w2.cell? ⟨w.heap.size, 5, none⟩ = some (.int .i64 mx) := K.out.cell 5; clear hb))))
    clear q4 q5
    go_wp2
    go_ret
    exact ⟨by simp, B.out⟩
set_option maxHeartbeats 4000000 in
set_option maxRecDepth 100000 in
theorem specAggText_x (win key cnt sum mn mx : Int) (w : World) : Calls Tryd.prog 4 #[(.agg #[.int .i64 win, .int .i64 key, .int .i64 cnt, .int .i64 sum, .int .i64 mn, .int .i64 mx])] w fun e w' => e = .returned (.string (str (aggT ⟨win, key, cnt, sum, mn, mx⟩))) ∧ Below w.heap.size w w' := by
  have K0 := Lib.hid (Blk.new w 25 #[.int .i64 win, .int .i64 key, .int .i64 cnt, .int .i64 sum, .int .i64 mn, .int .i64 mx])
  have B0 := Lib.hid ((Below.refl w.heap.size w).alloc (Nat.le_refl _) (.cells #[.int .i64 win, .int .i64 key, .int .i64 cnt, .int .i64 sum, .int .i64 mn, .int .i64 mx] 25))
  have CA := Lib.hid (fun W => specAggOk_x win key cnt sum mn mx W)
  cases hS : aggOk ⟨win, key, cnt, sum, mn, mx⟩ with
  | false =>
    rw [aggT_no hS]
    rw [hS] at CA
    clear hS
    go_enter Tryd.func4, Tryd.ntmps4
    go_wp2_with fail
    refine (CA.out _).mono ?_
    rintro e w1 ⟨rfl, hb⟩
    have K := Lib.hid (K0.out.below hb)
    have B := Lib.hid (B0.out.trans (hb.mono (by simp)))
    clear hb
    go_wp2
    go_ret
    exact ⟨rfl, B.out⟩
  | true =>
    obtain ⟨b0, b1, b2, b3, b4, b5⟩ := aggOk_in hS
    rw [aggT_yes hS]
    rw [hS] at CA
    clear hS
    simp only
    have N0 := Lib.hid (fun W => num_any win b0.1 b0.2 W)
    have N1 := Lib.hid (fun W => num_any key b1.1 b1.2 W)
    have N2 := Lib.hid (fun W => num_any cnt b2.1 b2.2 W)
    have N3 := Lib.hid (fun W => num_any sum b3.1 b3.2 W)
    have N4 := Lib.hid (fun W => num_any mn b4.1 b4.2 W)
    have N5 := Lib.hid (fun W => num_any mx b5.1 b5.2 W)
    have z0 := Lib.itoa_length_le win b0.1 b0.2
    have z1 := Lib.itoa_length_le key b1.1 b1.2
    have z2 := Lib.itoa_length_le cnt b2.1 b2.2
    have z3 := Lib.itoa_length_le sum b3.1 b3.2
    have z4 := Lib.itoa_length_le mn b4.1 b4.2
    have z5 := Lib.itoa_length_le mx b5.1 b5.2
    clear b0 b1 b2 b3 b4 b5
    generalize Lib.itoa win = t0 at N0 z0 ⊢
    generalize Lib.itoa key = t1 at N1 z1 ⊢
    generalize Lib.itoa cnt = t2 at N2 z2 ⊢
    generalize Lib.itoa sum = t3 at N3 z3 ⊢
    generalize Lib.itoa mn = t4 at N4 z4 ⊢
    generalize Lib.itoa mx = t5 at N5 z5 ⊢
    have k0 : ¬ (9223372036854775807 < t0.length + 1) := by omega
    have k1 : ¬ (9223372036854775807 < t0.length + 1 + t1.length) := by omega
    have k2 : ¬ (9223372036854775807 < t0.length + (t1.length + 1) + 1) := by omega
    have k3 : ¬ (9223372036854775807 < t0.length + (t1.length + 1 + 1) + t2.length) := by omega
    have k4 : ¬ (9223372036854775807 < t0.length + (t1.length + (t2.length + 1) + 1) + 1) := by omega
    have k5 : ¬ (9223372036854775807 < t0.length + (t1.length + (t2.length + 1 + 1) + 1) + t3.length) := by omega
    have k6 : ¬ (9223372036854775807 < t0.length + (t1.length + (t2.length + (t3.length + 1) + 1) + 1) + 1) := by omega
    have k7 : ¬ (9223372036854775807 < t0.length + (t1.length + (t2.length + (t3.length + 1 + 1) + 1) + 1) + t4.length) := by omega
    have k8 : ¬ (9223372036854775807 < t0.length + (t1.length + (t2.length + (t3.length + (t4.length + 1) + 1) + 1) + 1) + 1) := by omega
    have k9 : ¬ (9223372036854775807 < t0.length + (t1.length + (t2.length + (t3.length + (t4.length + 1 + 1) + 1) + 1) + 1) + t5.length) := by omega
    go_enter Tryd.func4, Tryd.ntmps4
    go_wp2_with fail
    refine (CA.out _).mono ?_
    rintro e w1 ⟨rfl, hb⟩
    have K := Lib.hid (K0.out.below hb)
    have B := Lib.hid (B0.out.trans (hb.mono (by simp)))
    clear hb
    go_wp2_with fail
    have K := Lib.hid K.out.drew
    have B := Lib.hid B.out.drew
    have hs := B.out.size
    have q0 : w1.drew.cell? ⟨w.heap.size, 0, none⟩ = some (.int .i64 win) := K.out.cell 0
    have q1 : w1.drew.cell? ⟨w.heap.size, 1, none⟩ = some (.int .i64 key) := K.out.cell 1
    have q2 : w1.drew.cell? ⟨w.heap.size, 2, none⟩ = some (.int .i64 cnt) := K.out.cell 2
    have q3 : w1.drew.cell? ⟨w.heap.size, 3, none⟩ = some (.int .i64 sum) := K.out.cell 3
    have q4 : w1.drew.cell? ⟨w.heap.size, 4, none⟩ = some (.int .i64 mn) := K.out.cell 4
    have q5 : w1.drew.cell? ⟨w.heap.size, 5, none⟩ = some (.int .i64 mx) := K.out.cell 5
    go_region_held3 (fun W => W.cell? ⟨w.heap.size, 0, none⟩ = some (.int .i64 win) ∧ W.cell? ⟨w.heap.size, 1, none⟩ = some (.int .i64 key) ∧ W.cell? ⟨w.heap.size, 2, none⟩ = some (.int .i64 cnt) ∧ W.cell? ⟨w.heap.size, 3, none⟩ = some (.int .i64 sum) ∧ W.cell? ⟨w.heap.size, 4, none⟩ = some (.int .i64 mn) ∧ W.cell? ⟨w.heap.size, 5, none⟩ = some (.int .i64 mx))
      (exact ⟨q0, q1, q2, q3, q4, q5⟩)
      (first | (go_at_call 8; (first | ((with_reducible refine (N0.out _).mono ?_); rintro e w2 ⟨rfl, hb⟩; have K := Lib.hid (K.out.below hb); have B := Lib.hid (B.out.trans (hb.mono hs)); have hs := B.out.size; have q0 : w2.cell? ⟨w.heap.size, 0, none⟩ = some (.int .i64 win) := K.out.cell 0; have q1 : w2.cell? ⟨w.heap.size, 1, none⟩ = some (.int .i64 key) := K.out.cell 1; have q2 : w2.cell? ⟨w.heap.size, 2, none⟩ = some (.int .i64 cnt) := K.out.cell 2; have q3 : w2.cell? ⟨w.heap.size, 3, none⟩ = some (.int .i64 sum) := K.out.cell 3; have q4 : w2.cell? ⟨w.heap.size, 4, none⟩ = some (.int .i64 mn) := K.out.cell 4; have q5 : w2.cell? ⟨w.heap.size, 5, none⟩ = some (.int .i64 mx) := K.out.cell 5; clear hb) | ((with_reducible refine (N1.out _).mono ?_); rintro e w2 ⟨rfl, hb⟩; have K := Lib.hid (K.out.below hb); have B := Lib.hid (B.out.trans (hb.mono hs)); have hs := B.out.size; have q0 : w2.cell? ⟨w.heap.size, 0, none⟩ = some (.int .i64 win) := K.out.cell 0; have q1 : w2.cell? ⟨w.heap.size, 1, none⟩ = some (.int .i64 key) := K.out.cell 1; have q2 : w2.cell? ⟨w.heap.size, 2, none⟩ = some (.int .i64 cnt) := K.out.cell 2; have q3 : w2.cell? ⟨w.heap.size, 3, none⟩ = some (.int .i64 sum) := K.out.cell 3; have q4 : w2.cell? ⟨w.heap.size, 4, none⟩ = some (.int .i64 mn) := K.out.cell 4; have q5 : w2.cell? ⟨w.heap.size, 5, none⟩ = some (.int .i64 mx) := K.out.cell 5; clear hb) | ((with_reducible refine (N2.out _).mono ?_); rintro e w2 ⟨rfl, hb⟩; have K := Lib.hid (K.out.below hb); have B := Lib.hid (B.out.trans (hb.mono hs)); have hs := B.out.size; have q0 : w2.cell? ⟨w.heap.size, 0, none⟩ = some (.int .i64 win) := K.out.cell 0; have q1 : w2.cell? ⟨w.heap.size, 1, none⟩ = some (.int .i64 key) := K.out.cell 1; have q2 : w2.cell? ⟨w.heap.size, 2, none⟩ = some (.int .i64 cnt) := K.out.cell 2; have q3 : w2.cell? ⟨w.heap.size, 3, none⟩ = some (.int .i64 sum) := K.out.cell 3; have q4 : w2.cell? ⟨w.heap.size, 4, none⟩ = some (.int .i64 mn) := K.out.cell 4; have q5 : w2.cell? ⟨w.heap.size, 5, none⟩ = some (.int .i64 mx) := K.out.cell 5; clear hb) | ((with_reducible refine (N3.out _).mono ?_); rintro e w2 ⟨rfl, hb⟩; have K := Lib.hid (K.out.below hb); have B := Lib.hid (B.out.trans (hb.mono hs)); have hs := B.out.size; have q0 : w2.cell? ⟨w.heap.size, 0, none⟩ = some (.int .i64 win) := K.out.cell 0; have q1 : w2.cell? ⟨w.heap.size, 1, none⟩ = some (.int .i64 key) := K.out.cell 1; have q2 : w2.cell? ⟨w.heap.size, 2, none⟩ = some (.int .i64 cnt) := K.out.cell 2; have q3 : w2.cell? ⟨w.heap.size, 3, none⟩ = some (.int .i64 sum) := K.out.cell 3; have q4 : w2.cell? ⟨w.heap.size, 4, none⟩ = some (.int .i64 mn) := K.out.cell 4; have q5 : w2.cell? ⟨w.heap.size, 5, none⟩ = some (.int .i64 mx) := K.out.cell 5; clear hb) | ((with_reducible refine (N4.out _).mono ?_); rintro e w2 ⟨rfl, hb⟩; have K := Lib.hid (K.out.below hb); have B := Lib.hid (B.out.trans (hb.mono hs)); have hs := B.out.size; have q0 : w2.cell? ⟨w.heap.size, 0, none⟩ = some (.int .i64 win) := K.out.cell 0; have q1 : w2.cell? ⟨w.heap.size, 1, none⟩ = some (.int .i64 key) := K.out.cell 1; have q2 : w2.cell? ⟨w.heap.size, 2, none⟩ = some (.int .i64 cnt) := K.out.cell 2; have q3 : w2.cell? ⟨w.heap.size, 3, none⟩ = some (.int .i64 sum) := K.out.cell 3; have q4 : w2.cell? ⟨w.heap.size, 4, none⟩ = some (.int .i64 mn) := K.out.cell 4; have q5 : w2.cell? ⟨w.heap.size, 5, none⟩ = some (.int .i64 mx) := K.out.cell 5; clear hb) | ((with_reducible refine (N5.out _).mono ?_); rintro e w2 ⟨rfl, hb⟩; have K := Lib.hid (K.out.below hb); have B := Lib.hid (B.out.trans (hb.mono hs)); have hs := B.out.size; have q0 : w2.cell? ⟨w.heap.size, 0, none⟩ = some (.int .i64 win) := K.out.cell 0; have q1 : w2.cell? ⟨w.heap.size, 1, none⟩ = some (.int .i64 key) := K.out.cell 1; have q2 : w2.cell? ⟨w.heap.size, 2, none⟩ = some (.int .i64 cnt) := K.out.cell 2; have q3 : w2.cell? ⟨w.heap.size, 3, none⟩ = some (.int .i64 sum) := K.out.cell 3; have q4 : w2.cell? ⟨w.heap.size, 4, none⟩ = some (.int .i64 mn) := K.out.cell 4; have q5 : w2.cell? ⟨w.heap.size, 5, none⟩ = some (.int .i64 mx) := K.out.cell 5; clear hb))))
    clear q0 q1 q2 q3 q4 q5
    go_wp2
    go_ret
    exact ⟨by simp, B.out⟩
end Go.Proofs.YtjbhcjfifkfmbaaDoor
