/- SessionText, spec's side. (made by tools/mksestext.py) -/
import Derived.Test.YtchbmnpajnlijaaDoorSes1
import Derived.Test.YtchbmnpajnlijaaDoorNum
import Derived.Deep.RegionHeld3
namespace Go.Proofs.YtchbmnpajnlijaaDoor
open Go.RowKit

/-- SessionText. -/
def sesT (S : Ss) : List UInt8 := if sesOk S = true then Lib.itoa S.ky ++ ([64] ++ (Lib.itoa S.fr ++ ([45] ++ (Lib.itoa S.tt ++ ([58] ++ (Lib.itoa S.ct ++ ([32] ++ (Lib.itoa S.sm)))))))) else []
theorem sesT_no {S : Ss} (h : sesOk S = false) : sesT S = [] := by simp [sesT, h]
theorem sesT_yes {S : Ss} (h : sesOk S = true) : sesT S = Lib.itoa S.ky ++ ([64] ++ (Lib.itoa S.fr ++ ([45] ++ (Lib.itoa S.tt ++ ([58] ++ (Lib.itoa S.ct ++ ([32] ++ (Lib.itoa S.sm)))))))) := by simp [sesT, h]
theorem sesOk_in {ky fr tt ct sm : Int} (h : sesOk ⟨ky, fr, tt, ct, sm⟩ = true) : (-9223372036854775808 ≤ ky ∧ ky ≤ 9223372036854775807) ∧ (-9223372036854775808 ≤ fr ∧ fr ≤ 9223372036854775807) ∧ (-9223372036854775808 ≤ tt ∧ tt ≤ 9223372036854775807) ∧ (-9223372036854775808 ≤ ct ∧ ct ≤ 9223372036854775807) ∧ (-9223372036854775808 ≤ sm ∧ sm ≤ 9223372036854775807) := by
  have := sesOk_bd h
  simp only at this
  omega

set_option maxHeartbeats 4000000 in
set_option maxRecDepth 100000 in
theorem specSesText_x (ky fr tt ct sm : Int) (w : World) : Calls Tryd.prog 4 #[(.agg #[.int .i64 ky, .int .i64 fr, .int .i64 tt, .int .i64 ct, .int .i64 sm])] w fun e w' => e = .returned (.string (str (sesT ⟨ky, fr, tt, ct, sm⟩))) ∧ Below w.heap.size w w' := by
  have K0 := Lib.hid (Blk.new w 25 #[.int .i64 ky, .int .i64 fr, .int .i64 tt, .int .i64 ct, .int .i64 sm])
  have B0 := Lib.hid ((Below.refl w.heap.size w).alloc (Nat.le_refl _) (.cells #[.int .i64 ky, .int .i64 fr, .int .i64 tt, .int .i64 ct, .int .i64 sm] 25))
  have CA := Lib.hid (fun W => specSesOk_x ky fr tt ct sm W)
  cases hS : sesOk ⟨ky, fr, tt, ct, sm⟩ with
  | false =>
    rw [sesT_no hS]
    rw [hS] at CA
    clear hS
    go_enter Tryd.func4, Tryd.ntmps4
    go_wp2_with fail
    refine (CA.out _).mono ?_
    rintro e w1 ⟨rfl, hb⟩
    have K := Lib.hid (K0.out.below hb)
    have B := Lib.hid (B0.out.trans (hb.mono (by simp)))
    clear hb
    go_wp2
    go_ret
    exact ⟨rfl, B.out⟩
  | true =>
    obtain ⟨b0, b1, b2, b3, b4⟩ := sesOk_in hS
    rw [sesT_yes hS]
    rw [hS] at CA
    clear hS
    simp only
    have N0 := Lib.hid (fun W => num_any ky b0.1 b0.2 W)
    have N1 := Lib.hid (fun W => num_any fr b1.1 b1.2 W)
    have N2 := Lib.hid (fun W => num_any tt b2.1 b2.2 W)
    have N3 := Lib.hid (fun W => num_any ct b3.1 b3.2 W)
    have N4 := Lib.hid (fun W => num_any sm b4.1 b4.2 W)
    have z0 := Lib.itoa_length_le ky b0.1 b0.2
    have z1 := Lib.itoa_length_le fr b1.1 b1.2
    have z2 := Lib.itoa_length_le tt b2.1 b2.2
    have z3 := Lib.itoa_length_le ct b3.1 b3.2
    have z4 := Lib.itoa_length_le sm b4.1 b4.2
    clear b0 b1 b2 b3 b4
    generalize Lib.itoa ky = t0 at N0 z0 ⊢
    generalize Lib.itoa fr = t1 at N1 z1 ⊢
    generalize Lib.itoa tt = t2 at N2 z2 ⊢
    generalize Lib.itoa ct = t3 at N3 z3 ⊢
    generalize Lib.itoa sm = t4 at N4 z4 ⊢
    have k0 : ¬ (9223372036854775807 < t0.length + 1) := by omega
    have k1 : ¬ (9223372036854775807 < t0.length + 1 + t1.length) := by omega
    have k2 : ¬ (9223372036854775807 < t0.length + (t1.length + 1) + 1) := by omega
    have k3 : ¬ (9223372036854775807 < t0.length + (t1.length + 1 + 1) + t2.length) := by omega
    have k4 : ¬ (9223372036854775807 < t0.length + (t1.length + (t2.length + 1) + 1) + 1) := by omega
    have k5 : ¬ (9223372036854775807 < t0.length + (t1.length + (t2.length + 1 + 1) + 1) + t3.length) := by omega
    have k6 : ¬ (9223372036854775807 < t0.length + (t1.length + (t2.length + (t3.length + 1) + 1) + 1) + 1) := by omega
    have k7 : ¬ (9223372036854775807 < t0.length + (t1.length + (t2.length + (t3.length + 1 + 1) + 1) + 1) + t4.length) := by omega
    go_enter Tryd.func4, Tryd.ntmps4
    go_wp2_with fail
    refine (CA.out _).mono ?_
    rintro e w1 ⟨rfl, hb⟩
    have K := Lib.hid (K0.out.below hb)
    have B := Lib.hid (B0.out.trans (hb.mono (by simp)))
    clear hb
    go_wp2_with fail
    have K := Lib.hid K.out.drew
    have B := Lib.hid B.out.drew
    have hs := B.out.size
    have q0 : w1.drew.cell? ⟨w.heap.size, 0, none⟩ = some (.int .i64 ky) := K.out.cell 0
    have q1 : w1.drew.cell? ⟨w.heap.size, 1, none⟩ = some (.int .i64 fr) := K.out.cell 1
    have q2 : w1.drew.cell? ⟨w.heap.size, 2, none⟩ = some (.int .i64 tt) := K.out.cell 2
    have q3 : w1.drew.cell? ⟨w.heap.size, 3, none⟩ = some (.int .i64 ct) := K.out.cell 3
    have q4 : w1.drew.cell? ⟨w.heap.size, 4, none⟩ = some (.int .i64 sm) := K.out.cell 4
    go_region_held3 (fun W => W.cell? ⟨w.heap.size, 0, none⟩ = some (.int .i64 ky) ∧ W.cell? ⟨w.heap.size, 1, none⟩ = some (.int .i64 fr) ∧ W.cell? ⟨w.heap.size, 2, none⟩ = some (.int .i64 tt) ∧ W.cell? ⟨w.heap.size, 3, none⟩ = some (.int .i64 ct) ∧ W.cell? ⟨w.heap.size, 4, none⟩ = some (.int .i64 sm))
      (exact ⟨q0, q1, q2, q3, q4⟩)
      (first | (go_at_call 8; (first | ((with_reducible refine (N0.out _).mono ?_); rintro e w2 ⟨rfl, hb⟩; have K := Lib.hid (K.out.below hb); have B := Lib.hid (B.out.trans (hb.mono hs)); have hs := B.out.size; have q0 : w2.cell? ⟨w.heap.size, 0, none⟩ = some (.int .i64 ky) := K.out.cell 0; have q1 : w2.cell? ⟨w.heap.size, 1, none⟩ = some (.int .i64 fr) := K.out.cell 1; have q2 : w2.cell? ⟨w.heap.size, 2, none⟩ = some (.int .i64 tt) := K.out.cell 2; have q3 : w2.cell? ⟨w.heap.size, 3, none⟩ = some (.int .i64 ct) := K.out.cell 3; have q4 : w2.cell? ⟨w.heap.size, 4, none⟩ = some (.int .i64 sm) := K.out.cell 4; clear hb) | ((with_reducible refine (N1.out _).mono ?_); rintro e w2 ⟨rfl, hb⟩; have K := Lib.hid (K.out.below hb); have B := Lib.hid (B.out.trans (hb.mono hs)); have hs := B.out.size; have q0 : w2.cell? ⟨w.heap.size, 0, none⟩ = some (.int .i64 ky) := K.out.cell 0; have q1 : w2.cell? ⟨w.heap.size, 1, none⟩ = some (.int .i64 fr) := K.out.cell 1; have q2 : w2.cell? ⟨w.heap.size, 2, none⟩ = some (.int .i64 tt) := K.out.cell 2; have q3 : w2.cell? ⟨w.heap.size, 3, none⟩ = some (.int .i64 ct) := K.out.cell 3; have q4 : w2.cell? ⟨w.heap.size, 4, none⟩ = some (.int .i64 sm) := K.out.cell 4; clear hb) | ((with_reducible refine (N2.out _).mono ?_); rintro e w2 ⟨rfl, hb⟩; have K := Lib.hid (K.out.below hb); have B := Lib.hid (B.out.trans (hb.mono hs)); have hs := B.out.size; have q0 : w2.cell? ⟨w.heap.size, 0, none⟩ = some (.int .i64 ky) := K.out.cell 0; have q1 : w2.cell? ⟨w.heap.size, 1, none⟩ = some (.int .i64 fr) := K.out.cell 1; have q2 : w2.cell? ⟨w.heap.size, 2, none⟩ = some (.int .i64 tt) := K.out.cell 2; have q3 : w2.cell? ⟨w.heap.size, 3, none⟩ = some (.int .i64 ct) := K.out.cell 3; have q4 : w2.cell? ⟨w.heap.size, 4, none⟩ = some (.int .i64 sm) := K.out.cell 4; clear hb) | ((with_reducible refine (N3.out _).mono ?_); rintro e w2 ⟨rfl, hb⟩; have K := Lib.hid (K.out.below hb); have B := Lib.hid (B.out.trans (hb.mono hs)); have hs := B.out.size; have q0 : w2.cell? ⟨w.heap.size, 0, none⟩ = some (.int .i64 ky) := K.out.cell 0; have q1 : w2.cell? ⟨w.heap.size, 1, none⟩ = some (.int .i64 fr) := K.out.cell 1; have q2 : w2.cell? ⟨w.heap.size, 2, none⟩ = some (.int .i64 tt) := K.out.cell 2; have q3 : w2.cell? ⟨w.heap.size, 3, none⟩ = some (.int .i64 ct) := K.out.cell 3; have q4 : w2.cell? ⟨w.heap.size, 4, none⟩ = some (.int .i64 sm) := K.out.cell 4; clear hb) | ((with_reducible refine (N4.out _).mono ?_); rintro e w2 ⟨rfl, hb⟩; have K := Lib.hid (K.out.below hb); have B := Lib.hid (B.out.trans (hb.mono hs)); have hs := B.out.size; have q0 : w2.cell? ⟨w.heap.size, 0, none⟩ = some (.int .i64 ky) := K.out.cell 0; have q1 : w2.cell? ⟨w.heap.size, 1, none⟩ = some (.int .i64 fr) := K.out.cell 1; have q2 : w2.cell? ⟨w.heap.size, 2, none⟩ = some (.int .i64 tt) := K.out.cell 2; have q3 : w2.cell? ⟨w.heap.size, 3, none⟩ = some (.int .i64 ct) := K.out.cell 3; have q4 : w2.cell? ⟨w.heap.size, 4, none⟩ = some (.int .i64 sm) := K.out.cell 4; clear hb))))
    clear q0 q1 q2 q3 q4
    go_wp2
    go_ret
    exact ⟨by simp, B.out⟩
end Go.Proofs.YtchbmnpajnlijaaDoor
