/- Contracts of the bodies' put. -/
import Derived.Test.YtnfhlfbkdhpacaaGreatDoorJoint1
namespace Go.Proofs.YtnfhlfbkdhpacaaGreatDoor
open Go.RowKit

set_option maxHeartbeats 1000000 in
theorem eventPut_any (y t v : Int) (hy0 : 0 ≤ y) (hy1 : y ≤ 65535) (ht0 : 0 ≤ t) (ht1 : t ≤ 1000000) (hv0 : -1000000 ≤ v) (hv1 : v ≤ 1000000) (w : World) :
    Calls Tryz.prog 367 #[(.agg #[.int .i64 y, .int .i64 t, .int .i64 v])] w (FreshNums 5 .u8 (bodyL 1 y t v) w) := by
  have K0 := Lib.hid (Blk.new w 251 #[.int .i64 y, .int .i64 t, .int .i64 v])
  have HE := Lib.hid (bodyL_event y t v)
  go_enter Tryz.func367, Tryz.ntmps367
  go_wp2_with fail
  refine (putNumber_any _ 1 1 [1] y 2 (w.heap.size + 1) hy0 (by omega) (by omega) _ ?ho rfl ?hl ?hlo).mono ?_
  case ho => exact own_one _ _ _ _ _ _ (by simp) (by simp)
  case hl => simp
  case hlo => simp
  rintro e w1 ⟨a1, c1, rfl, ho1, hb1⟩
  have k1 := (K0.out.alloc (.cells #[.int .u8 1] 5)).belowB hb1 (by omega)
  have q1 := k1.cell
  have K1 := Lib.hid k1
  have B1 := Lib.hid (((((Below.refl (w.heap.size + 1) w).mono (Nat.le_succ _)).alloc (Nat.le_refl _) (.cells #[.int .i64 y, .int .i64 t, .int .i64 v] 251)).alloc (by simp) (.cells #[.int .u8 1] 5)).trans (hb1.mono (Nat.le_succ _)))
  have O1 := Lib.hid ho1
  have S1 := hb1.size
  simp only [World.size_alloc] at S1
  clear hb1 ho1 k1
  go_wp2_with fail
  refine (putNumber_any _ _ _ ([1] ++ wide 2 y) t 3 (w.heap.size + 1) ht0 (by omega) (by omega) _ O1.out rfl ?hl2 ?hlo2).mono ?_
  case hl2 => simp [wide_len]
  case hlo2 => omega
  rintro e w2 ⟨a2, c2, rfl, ho2, hb2⟩
  have k2 := K1.out.belowB hb2 (by omega)
  have q2 := k2.cell
  have K2 := Lib.hid k2
  have B2 := Lib.hid (B1.out.trans (hb2.mono (Nat.le_succ _)))
  have O2 := Lib.hid ho2
  have S2 := hb2.size
  clear hb2 ho2 k2
  go_wp2_with fail
  refine (putNumber_any _ _ _ (([1] ++ wide 2 y) ++ wide 3 t) (v + 1000000) 3 (w.heap.size + 1) (by omega) (by omega) (by omega) _ O2.out rfl ?hl3 ?hlo3).mono ?_
  case hl3 => simp [wide_len]
  case hlo3 => omega
  rintro e w3 ⟨a3, c3, rfl, ho3, hb3⟩
  have HP : Hid (FreshNums 5 .u8 (bodyL 1 y t v) w (.returned (.slice a3 ((([1] ++ wide 2 y) ++ wide 3 t) ++ wide 3 (v + 1000000)).length c3)) w3) := by
    unfold FreshNums
    rw [HE.out]
    exact ⟨a3, c3, rfl, owns_less ho3 (Nat.le_succ _), B2.out.trans (hb3.mono (Nat.le_succ _))⟩
  clear ho3 hb3
  go_wp2
  go_ret
  exact HP.out
set_option maxHeartbeats 1000000 in
theorem markPut_any (y t v : Int) (ht0 : 0 ≤ t) (ht1 : t ≤ 1000000) (w : World) :
    Calls Tryz.prog 369 #[(.agg #[.int .i64 t])] w (FreshNums 5 .u8 (bodyL 2 y t v) w) := by
  have HE := Lib.hid (bodyL_mark y t v)
  go_enter Tryz.func369, Tryz.ntmps369
  go_wp2_with fail
  refine (putNumber_any _ 1 1 [2] t 3 (w.heap.size + 1) ht0 (by omega) (by omega) _ ?ho rfl ?hl ?hlo).mono ?_
  case ho => exact own_one _ _ _ _ _ _ (by simp) (by simp)
  case hl => simp
  case hlo => simp
  rintro e w1 ⟨a1, c1, rfl, ho1, hb1⟩
  have HP : Hid (FreshNums 5 .u8 (bodyL 2 y t v) w (.returned (.slice a1 ([2] ++ wide 3 t).length c1)) w1) := by
    unfold FreshNums
    rw [HE.out]
    exact ⟨a1, c1, rfl, owns_less ho1 (Nat.le_succ _), ((((Below.refl w.heap.size w)).alloc (Nat.le_refl _) (.cells #[.int .i64 t] 253)).alloc (by simp) (.cells #[.int .u8 2] 5)).trans (hb1.mono (Nat.le_succ _))⟩
  clear ho1 hb1
  go_wp2
  go_ret
  exact HP.out
theorem byePut_any (y t v : Int) (w : World) :
    Calls Tryz.prog 371 #[.agg #[]] w (FreshNums 5 .u8 (bodyL 3 y t v) w) := by
  have HP : Hid (FreshNums 5 .u8 (bodyL 3 y t v) w (.returned (.slice (some ⟨w.heap.size + 1, 0, none⟩) 1 1)) ((w.alloc (.cells #[] 254)).alloc (.cells #[.int .u8 3] 5))) := by
    unfold FreshNums
    rw [bodyL_bye]
    exact ⟨_, _, rfl, own_one _ _ _ _ _ _ (by simp) (by simp), (((Below.refl w.heap.size w)).alloc (Nat.le_refl _) _).alloc (by simp) _⟩
  go_enter Tryz.func371, Tryz.ntmps371
  go_wp2
  go_ret
  exact HP.out

end Go.Proofs.YtnfhlfbkdhpacaaGreatDoor
