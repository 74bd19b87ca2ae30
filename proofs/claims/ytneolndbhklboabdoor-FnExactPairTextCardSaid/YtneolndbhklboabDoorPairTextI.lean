/- PairText, impl's side. (made by tools/mkpti.py) -/
import Derived.Test.YtneolndbhklboabDoorPairText
import Derived.Test.YtneolndbhklboabDoorLib
namespace Go.Proofs.YtneolndbhklboabDoor
open Go.RowKit
set_option maxHeartbeats 4000000 in
set_option maxRecDepth 100000 in
theorem implPairText_x (ky lt rt lv rv : Int) (w : World) (hp : Pow w) (b0 : -9223372036854775808 ≤ ky ∧ ky ≤ 9223372036854775807) (b1 : -9223372036854775808 ≤ lt ∧ lt ≤ 9223372036854775807) (b2 : -9223372036854775808 ≤ lv ∧ lv ≤ 9223372036854775807) (b3 : -9223372036854775808 ≤ rt ∧ rt ≤ 9223372036854775807) (b4 : -9223372036854775808 ≤ rv ∧ rv ≤ 9223372036854775807) : Calls Tryd.prog 6 #[(.agg #[.int .i64 ky, .int .i64 lt, .int .i64 rt, .int .i64 lv, .int .i64 rv])] w fun e w' => e = .returned (.string (str (pairT ⟨ky, lt, rt, lv, rv⟩))) ∧ Below w.heap.size w w' := by
  have K := Lib.hid (Blk.new w 25 #[.int .i64 ky, .int .i64 lt, .int .i64 rt, .int .i64 lv, .int .i64 rv])
  have B := Lib.hid ((Below.refl w.heap.size w).alloc (Nat.le_refl _) (.cells #[.int .i64 ky, .int .i64 lt, .int .i64 rt, .int .i64 lv, .int .i64 rv] 25))
  have PW := Lib.hid (hp.below ((Below.refl w.heap.size w).alloc (Nat.le_refl _) (.cells #[.int .i64 ky, .int .i64 lt, .int .i64 rt, .int .i64 lv, .int .i64 rv] 25)))
  rw [pairT_eq]
  simp only
  have N0 := Lib.hid (fun (W : World) (h : Pow W) => itoa_any ky b0.1 b0.2 W h)
  have N1 := Lib.hid (fun (W : World) (h : Pow W) => itoa_any lt b1.1 b1.2 W h)
  have N2 := Lib.hid (fun (W : World) (h : Pow W) => itoa_any lv b2.1 b2.2 W h)
  have N3 := Lib.hid (fun (W : World) (h : Pow W) => itoa_any rt b3.1 b3.2 W h)
  have N4 := Lib.hid (fun (W : World) (h : Pow W) => itoa_any rv b4.1 b4.2 W h)
  have z0 := Lib.itoa_length_le ky b0.1 b0.2
  have z1 := Lib.itoa_length_le lt b1.1 b1.2
  have z2 := Lib.itoa_length_le lv b2.1 b2.2
  have z3 := Lib.itoa_length_le rt b3.1 b3.2
  have z4 := Lib.itoa_length_le rv b4.1 b4.2
  clear b0 b1 b2 b3 b4 hp
  generalize Lib.itoa ky = t0 at N0 z0 ⊢
  generalize Lib.itoa lt = t1 at N1 z1 ⊢
  generalize Lib.itoa lv = t2 at N2 z2 ⊢
  generalize Lib.itoa rt = t3 at N3 z3 ⊢
  generalize Lib.itoa rv = t4 at N4 z4 ⊢
  have k1 : ¬ (9223372036854775807 < t1.length + 1) := by omega
  have k2 : ¬ (9223372036854775807 < t1.length + 1 + t2.length) := by omega
  have k3 : ¬ (9223372036854775807 < t3.length + 1) := by omega
  have k4 : ¬ (9223372036854775807 < t3.length + 1 + t4.length) := by omega
  go_enter Tryd.func6, Tryd.ntmps6
  go_wp2_with fail
  generalize hW : World.alloc _ _ = W0 at K B PW ⊢
  clear hW
  have K := Lib.hid K.out.drew
  have B := Lib.hid B.out.drew
  have PW := Lib.hid (show Pow W0.drew from PW.out)
  have hs := B.out.size
  have q0 : W0.drew.cell? ⟨w.heap.size, 0, none⟩ = some (.int .i64 ky) := K.out.cell 0; have q1 : W0.drew.cell? ⟨w.heap.size, 1, none⟩ = some (.int .i64 lt) := K.out.cell 1; have q2 : W0.drew.cell? ⟨w.heap.size, 2, none⟩ = some (.int .i64 rt) := K.out.cell 2; have q3 : W0.drew.cell? ⟨w.heap.size, 3, none⟩ = some (.int .i64 lv) := K.out.cell 3; have q4 : W0.drew.cell? ⟨w.heap.size, 4, none⟩ = some (.int .i64 rv) := K.out.cell 4
  go_region_held3 (fun W => W.cell? ⟨w.heap.size, 0, none⟩ = some (.int .i64 ky) ∧ W.cell? ⟨w.heap.size, 1, none⟩ = some (.int .i64 lt) ∧ W.cell? ⟨w.heap.size, 2, none⟩ = some (.int .i64 rt) ∧ W.cell? ⟨w.heap.size, 3, none⟩ = some (.int .i64 lv) ∧ W.cell? ⟨w.heap.size, 4, none⟩ = some (.int .i64 rv))
    (exact ⟨q0, q1, q2, q3, q4⟩)
    (first | (go_at_call 8; (first | ((with_reducible refine (N1.out _ PW.out).mono ?_); rintro e w2 ⟨rfl, hb⟩; have K := Lib.hid (K.out.below hb); have B := Lib.hid (B.out.trans (hb.mono hs)); have PW := Lib.hid (PW.out.below hb); have hs := B.out.size; have q0 : w2.cell? ⟨w.heap.size, 0, none⟩ = some (.int .i64 ky) := K.out.cell 0; have q1 : w2.cell? ⟨w.heap.size, 1, none⟩ = some (.int .i64 lt) := K.out.cell 1; have q2 : w2.cell? ⟨w.heap.size, 2, none⟩ = some (.int .i64 rt) := K.out.cell 2; have q3 : w2.cell? ⟨w.heap.size, 3, none⟩ = some (.int .i64 lv) := K.out.cell 3; have q4 : w2.cell? ⟨w.heap.size, 4, none⟩ = some (.int .i64 rv) := K.out.cell 4; clear hb) | ((with_reducible refine (N2.out _ PW.out).mono ?_); rintro e w2 ⟨rfl, hb⟩; have K := Lib.hid (K.out.below hb); have B := Lib.hid (B.out.trans (hb.mono hs)); have PW := Lib.hid (PW.out.below hb); have hs := B.out.size; have q0 : w2.cell? ⟨w.heap.size, 0, none⟩ = some (.int .i64 ky) := K.out.cell 0; have q1 : w2.cell? ⟨w.heap.size, 1, none⟩ = some (.int .i64 lt) := K.out.cell 1; have q2 : w2.cell? ⟨w.heap.size, 2, none⟩ = some (.int .i64 rt) := K.out.cell 2; have q3 : w2.cell? ⟨w.heap.size, 3, none⟩ = some (.int .i64 lv) := K.out.cell 3; have q4 : w2.cell? ⟨w.heap.size, 4, none⟩ = some (.int .i64 rv) := K.out.cell 4; clear hb))))
  clear q0 q1 q2 q3 q4
  go_wp2_with fail
  generalize w2 = W1 at K B PW ⊢
  clear hs
  have K := Lib.hid K.out.drew
  have B := Lib.hid B.out.drew
  have PW := Lib.hid (show Pow W1.drew from PW.out)
  have hs := B.out.size
  have q0 : W1.drew.cell? ⟨w.heap.size, 0, none⟩ = some (.int .i64 ky) := K.out.cell 0; have q1 : W1.drew.cell? ⟨w.heap.size, 1, none⟩ = some (.int .i64 lt) := K.out.cell 1; have q2 : W1.drew.cell? ⟨w.heap.size, 2, none⟩ = some (.int .i64 rt) := K.out.cell 2; have q3 : W1.drew.cell? ⟨w.heap.size, 3, none⟩ = some (.int .i64 lv) := K.out.cell 3; have q4 : W1.drew.cell? ⟨w.heap.size, 4, none⟩ = some (.int .i64 rv) := K.out.cell 4
  go_region_held3 (fun W => W.cell? ⟨w.heap.size, 0, none⟩ = some (.int .i64 ky) ∧ W.cell? ⟨w.heap.size, 1, none⟩ = some (.int .i64 lt) ∧ W.cell? ⟨w.heap.size, 2, none⟩ = some (.int .i64 rt) ∧ W.cell? ⟨w.heap.size, 3, none⟩ = some (.int .i64 lv) ∧ W.cell? ⟨w.heap.size, 4, none⟩ = some (.int .i64 rv))
    (exact ⟨q0, q1, q2, q3, q4⟩)
    (first | (go_at_call 8; (first | ((with_reducible refine (N3.out _ PW.out).mono ?_); rintro e w2 ⟨rfl, hb⟩; have K := Lib.hid (K.out.below hb); have B := Lib.hid (B.out.trans (hb.mono hs)); have PW := Lib.hid (PW.out.below hb); have hs := B.out.size; have q0 : w2.cell? ⟨w.heap.size, 0, none⟩ = some (.int .i64 ky) := K.out.cell 0; have q1 : w2.cell? ⟨w.heap.size, 1, none⟩ = some (.int .i64 lt) := K.out.cell 1; have q2 : w2.cell? ⟨w.heap.size, 2, none⟩ = some (.int .i64 rt) := K.out.cell 2; have q3 : w2.cell? ⟨w.heap.size, 3, none⟩ = some (.int .i64 lv) := K.out.cell 3; have q4 : w2.cell? ⟨w.heap.size, 4, none⟩ = some (.int .i64 rv) := K.out.cell 4; clear hb) | ((with_reducible refine (N4.out _ PW.out).mono ?_); rintro e w2 ⟨rfl, hb⟩; have K := Lib.hid (K.out.below hb); have B := Lib.hid (B.out.trans (hb.mono hs)); have PW := Lib.hid (PW.out.below hb); have hs := B.out.size; have q0 : w2.cell? ⟨w.heap.size, 0, none⟩ = some (.int .i64 ky) := K.out.cell 0; have q1 : w2.cell? ⟨w.heap.size, 1, none⟩ = some (.int .i64 lt) := K.out.cell 1; have q2 : w2.cell? ⟨w.heap.size, 2, none⟩ = some (.int .i64 rt) := K.out.cell 2; have q3 : w2.cell? ⟨w.heap.size, 3, none⟩ = some (.int .i64 lv) := K.out.cell 3; have q4 : w2.cell? ⟨w.heap.size, 4, none⟩ = some (.int .i64 rv) := K.out.cell 4; clear hb))))
  clear q0 q1 q2 q3 q4
  have q0 := K.out.cell 0
  have PX := Lib.hid (PW.out)
  go_wp2_with fail
  refine (N0.out _ PX.out).mono ?_
  rintro e w3 ⟨rfl, hb⟩
  have B := Lib.hid (B.out.trans (hb.mono hs))
  clear hb q0
  have k5 : ¬ (9223372036854775807 < t0.length + 1) := by omega
  have k6 : ¬ (9223372036854775807 < t0.length + 1 + (t1.length + (t2.length + 1))) := by omega
  have k7 : ¬ (9223372036854775807 < t0.length + (t1.length + (t2.length + 1) + 1) + 1) := by omega
  have k8 : ¬ (9223372036854775807 < t0.length + (t1.length + (t2.length + 1 + 1) + 1) + (t3.length + (t4.length + 1))) := by omega
  go_wp2
  go_ret
  exact ⟨by simp, B.out⟩
end Go.Proofs.YtneolndbhklboabDoor
