/- The contracts of spec.TickText and impl.TickText: both the same text. -/
import Derived.Test.YtghbdagpclhbfaaDoorPlainTick
import Derived.Test.YtghbdagpclhbfaaDoorNum
import Derived.Test.YtghbdagpclhbfaaDoorLib
import Derived.Deep.RegionWith
import Derived.RegionTactic
import Derived.IntWalk
namespace Go.Proofs.YtghbdagpclhbfaaDoor
open Go.RowKit

theorem later3 {w w' : World} {x y z : Int} (hb : Below ((w.alloc (.cells #[.int .u8 x, .int .u8 y, .int .u8 z] 5)).drew).heap.size ((w.alloc (.cells #[.int .u8 x, .int .u8 y, .int .u8 z] 5)).drew) w') :
    (convert 22 9 (.slice (some ⟨w.heap.size, 0, none⟩) 3 3)).run Tryd.prog w' = .ok (.string (str [byteOf x, byteOf y, byteOf z])) w' :=
  conv_three_at 22 5 9 Tryd.underlying22 Tryd.underlying5 Tryd.underlying9 w' w.heap.size x y z
    ((hb.cell (p := ⟨w.heap.size, 0, none⟩) (by simp)).trans (by simp [World.cell?_alloc_at])) ((hb.cell (p := ⟨w.heap.size, 1, none⟩) (by simp)).trans (by simp [World.cell?_alloc_at])) ((hb.cell (p := ⟨w.heap.size, 2, none⟩) (by simp)).trans (by simp [World.cell?_alloc_at]))

set_option maxRecDepth 100000 in
set_option maxHeartbeats 1000000 in
theorem specText_any (t : Int) (w : World) :
    Calls Tryd.prog 19 #[.int .i64 t] w fun e w' => e = .returned (.string (str (tickText t))) ∧ Below w.heap.size w w' := by
  cases ht : tickB t with
  | false =>
    rw [tickText_no ht]
    go_enter Tryd.func19, Tryd.ntmps19
    go_wp2_with (go_at_call 8; refine (specTickOk_any _ _).mono ?_; rintro e w' ⟨rfl, rfl⟩)
    go_ret
    exact ⟨rfl, Below.refl _ _⟩
  | true =>
    have hb := tickB_bd ht
    rw [tickText_yes ht]
    obtain ⟨r, hr⟩ : ∃ r : Int, r = t % 1000 := ⟨_, rfl⟩
    have hr0 : 0 ≤ r := by omega
    have hr1 : r < 1000 := by omega
    have hq1 : -9223372036854775808 ≤ t / 1000 := by omega
    have hq2 : t / 1000 ≤ 9223372036854775807 := by omega
    have hrt := Lib.hid hr
    have hrm : t % 1000 = r := hr.symm
    have hsz : (Lib.itoa (t / 1000)).length ≤ 21 := Lib.itoa_length_le _ hq1 hq2
    have d1 : t.tdiv 1000 = t / 1000 := Int.tdiv_eq_ediv_of_nonneg (by omega)
    have d2 : r.tdiv 100 = r / 100 := Int.tdiv_eq_ediv_of_nonneg (by omega)
    have d3 : r.tdiv 10 = r / 10 := Int.tdiv_eq_ediv_of_nonneg (by omega)
    have d4 : (r / 10).tmod 10 = r / 10 % 10 := Int.tmod_eq_emod_of_nonneg (by omega)
    have d5 : r.tmod 10 = r % 10 := Int.tmod_eq_emod_of_nonneg (by omega)
    have w1 : IntKind.i64.wrap (t / 1000) = t / 1000 := IntWalk.i64_in _ (by omega)
    have w2 : IntKind.i64.wrap (r / 100) = r / 100 := IntWalk.i64_in _ (by omega)
    have w3 : IntKind.i64.wrap (48 + r / 100) = 48 + r / 100 := IntWalk.i64_in _ (by omega)
    have w4 : IntKind.i64.wrap (r / 10) = r / 10 := IntWalk.i64_in _ (by omega)
    have w5 : IntKind.i64.wrap (48 + r / 10 % 10) = 48 + r / 10 % 10 := IntWalk.i64_in _ (by omega)
    have w6 : IntKind.i64.wrap (48 + r % 10) = 48 + r % 10 := IntWalk.i64_in _ (by omega)
    have w7 : IntKind.u8.wrap (48 + r / 100) = 48 + r / 100 := by rw [IntKind.wrap_u8]; omega
    have w8 : IntKind.u8.wrap (48 + r / 10 % 10) = 48 + r / 10 % 10 := by rw [IntKind.wrap_u8]; omega
    have w9 : IntKind.u8.wrap (48 + r % 10) = 48 + r % 10 := by rw [IntKind.wrap_u8]; omega
    have hcv := fun W => conv_three (P := Tryd.prog) 22 5 9 Tryd.underlying22 Tryd.underlying5 Tryd.underlying9 W 5 (48 + r / 100) (48 + r / 10 % 10) (48 + r % 10)
    have hcvd := fun W : World => conv_three_at (P := Tryd.prog) 22 5 9 Tryd.underlying22 Tryd.underlying5 Tryd.underlying9 ((W.alloc (.cells #[.int .u8 (48 + r / 100), .int .u8 (48 + r / 10 % 10), .int .u8 (48 + r % 10)] 5)).drew) W.heap.size (48 + r / 100) (48 + r / 10 % 10) (48 + r % 10)
      (by simp [World.cell?_alloc_at]) (by simp [World.cell?_alloc_at]) (by simp [World.cell?_alloc_at])
    have hfin : Hid (tickL t = Lib.itoa (t / 1000) ++ [46, byteOf (48 + r / 100), byteOf (48 + r / 10 % 10), byteOf (48 + r % 10)]) := by unfold tickL pad3; rw [← hr, List.append_assoc]; rfl
    clear hr
    go_enter Tryd.func19, Tryd.ntmps19
    go_wp2_with (go_at_call 8; refine (specTickOk_any _ _).mono ?_; rintro e w' ⟨rfl, rfl⟩)
    go_region_with (go_at_call 32; refine (num_any _ hq1 hq2 _).mono ?_; rintro e w' ⟨rfl, hb1⟩; (first | (have hcv2 := later3 hb1) | skip))
    all_goals clear d1 d2 d3 d4 d5 w1 w2 w3 w4 w5 w6 w7 w8 w9 hcv hcvd hrm
    all_goals go_wp2
    all_goals go_ret
    all_goals refine ⟨by rw [hfin.out]; rfl, ?_⟩
    all_goals first
      | exact ((Below.refl w.heap.size w).drew.trans hb1).alloc hb1.size _
      | exact ((Below.refl w.heap.size w).alloc (Nat.le_refl _) _).drew.trans (hb1.mono (by simp))

set_option maxRecDepth 100000 in
set_option maxHeartbeats 1000000 in
theorem text_any (t : Int) (w : World) (hp : Pow w) :
    Calls Tryd.prog 30 #[.int .i64 t] w fun e w' => e = .returned (.string (str (tickText t))) ∧ Below w.heap.size w w' := by
  cases ht : tickB t with
  | false =>
    rw [tickText_no ht]
    go_enter Tryd.func30, Tryd.ntmps30
    go_wp2_with (go_at_call 25; refine (ok_any _ _).mono ?_; rintro e w' ⟨rfl, rfl⟩)
    go_ret
    exact ⟨rfl, Below.refl _ _⟩
  | true =>
    have hb := tickB_bd ht
    rw [tickText_yes ht]
    obtain ⟨r, hr⟩ := Int.eq_ofNat_of_zero_le (show 0 ≤ t % 1000 by omega)
    have hpad := pad_itoa r (by omega)
    have hq1 : -9223372036854775808 ≤ t / 1000 := by omega
    have hq2 : t / 1000 ≤ 9223372036854775807 := by omega
    have hsz : (Lib.itoa (t / 1000)).length ≤ 21 := Lib.itoa_length_le _ hq1 hq2
    have hfin : Hid (tickL t = Lib.itoa (t / 1000) ++ (46 :: (Lib.repeatL [48] (3 - (Lib.itoa (r : Int)).length) ++ Lib.itoa (r : Int)))) := by
      rw [hpad.2.2, ← hr]; unfold tickL; rw [List.append_assoc]; rfl
    have hL1 := hpad.1
    have hL2 := hpad.2.1
    have hrep : (Lib.repeatL [48] (3 - (Lib.itoa (r : Int)).length)).length ≤ 3 := by rw [Lib.repeatL_length]; show _ * 1 ≤ 3; omega
    have hr9 : (r : Int) ≤ 1000 := by omega
    clear hpad
    have hr0 : -9223372036854775808 ≤ (r : Int) := by omega
    have hr8 : (r : Int) ≤ 9223372036854775807 := by omega
    have hi0 := fun W hW => itoa_any (r : Int) hr0 hr8 W hW
    generalize Lib.itoa (r : Int) = lr at *
    have Hi := Lib.hid hi0
    have HR := Lib.hid hr
    clear hi0
    go_enter Tryd.func30, Tryd.ntmps30
    go_wp2_with (go_at_call 25; refine (ok_any _ _).mono ?_; rintro e w' ⟨rfl, rfl⟩)
    refine (Hi.out _ hp).mono ?_
    rintro e w1 ⟨rfl, hb1⟩
    have hp1 := hp.below hb1
    go_wp2_with fail
    refine (repeat_any [48] _ (by omega) (by omega) (by simp) _).mono ?_
    rintro e w2 ⟨rfl, hb2⟩
    have hp2 := hp1.below hb2
    have ec : ((3 : Int) - (lr.length : Int)).toNat = 3 - lr.length := by omega
    rw [ec]
    clear ec
    go_wp2_with fail
    refine (itoa_any _ hq1 hq2 _ hp2).mono ?_
    rintro e w3 ⟨rfl, hb3⟩
    go_wp2
    go_ret
    exact ⟨by rw [hfin.out]; simp, (hb1.trans (hb2.mono hb1.size)).trans (hb3.mono (Nat.le_trans hb1.size hb2.size))⟩

theorem implText_any (t : Int) (w : World) (hp : Pow w) :
    Calls Tryd.prog 15 #[.int .i64 t] w fun e w' => e = .returned (.string (str (tickText t))) ∧ Below w.heap.size w w' := by
  go_enter Tryd.func15, Tryd.ntmps15
  go_wp2_with (go_at_call 30; refine (text_any _ _ hp).mono ?_; rintro e w' ⟨rfl, hb⟩)
  go_ret
  exact ⟨rfl, hb⟩

end Go.Proofs.YtghbdagpclhbfaaDoor
