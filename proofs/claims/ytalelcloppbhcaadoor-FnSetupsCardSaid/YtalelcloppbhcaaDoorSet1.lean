/- Contracts of chapter 6: ShardOf and KeysOf, impl and spec. -/
import Derived.Test.YtalelcloppbhcaaDoorPlainSet
import Derived.Test.YtalelcloppbhcaaDoorTick1
import Derived.Test.YtalelcloppbhcaaDoorIntS
import Derived.IntWalk
import Derived.OwnWalk
import Derived.Laws.MakeOwn
import Derived.Laws.OwnMore
import Derived.Lib.AppendZeros
namespace Go.Proofs.YtalelcloppbhcaaDoor
open Go.RowKit

theorem iWith_any (x a b : Int) (w : World) : Calls Tryd.prog 38 #[.int .i64 x, .int .i64 a, .int .i64 b] w fun e w' => e = .returned (.bool (inB x a b)) ∧ w = w' := by
  by_cases h1 : a ≤ x
  · by_cases h2 : x ≤ b
    · go_enter Tryd.func38, Tryd.ntmps38
      go_wp2
      go_ret
      exact ⟨by rw [inB_yes h1 h2]; rfl, rfl⟩
    · go_enter Tryd.func38, Tryd.ntmps38
      go_wp2
      go_ret
      exact ⟨by rw [inB_no (by omega)]; rfl, rfl⟩
  · go_enter Tryd.func38, Tryd.ntmps38
    go_wp2
    go_ret
    exact ⟨by rw [inB_no (by omega)]; rfl, rfl⟩
theorem iShards_any (x : Int) (w : World) : Calls Tryd.prog 37 #[.int .i64 x] w fun e w' => e = .returned (.bool (inB x 1 4)) ∧ w = w' := by
  go_enter Tryd.func37, Tryd.ntmps37
  go_wp2_with (go_at_call 38; refine (iWith_any _ _ _ _).mono ?_; rintro e w' ⟨rfl, rfl⟩)
  go_ret
  exact ⟨rfl, rfl⟩
theorem iKey2_any (x : Int) (w : World) : Calls Tryd.prog 39 #[.int .i64 x] w fun e w' => e = .returned (.bool (inB x 0 65535)) ∧ w = w' := by
  go_enter Tryd.func39, Tryd.ntmps39
  go_wp2_with (go_at_call 38; refine (iWith_any _ _ _ _).mono ?_; rintro e w' ⟨rfl, rfl⟩)
  go_ret
  exact ⟨rfl, rfl⟩
set_option maxHeartbeats 1000000 in
theorem implShardOf_any (k s : Int) (w : World) : Calls Tryd.prog 14 #[.int .i64 k, .int .i64 s] w fun e w' => e = .returned (.int .i64 (shardOf k s)) ∧ w = w' := by
  cases h1 : inB k 0 65535 with
  | false =>
    rw [shardOf_no1 h1]
    go_enter Tryd.func14, Tryd.ntmps14
    go_wp2_with (first | (go_at_call 39; refine (iKey2_any _ _).mono ?_; rintro e w' ⟨rfl, rfl⟩) | (go_at_call 37; refine (iShards_any _ _).mono ?_; rintro e w' ⟨rfl, rfl⟩))
    go_ret
    exact ⟨rfl, rfl⟩
  | true =>
    cases h2 : inB s 1 4 with
    | false =>
      rw [shardOf_no2 h2]
      go_enter Tryd.func14, Tryd.ntmps14
      go_wp2_with (first | (go_at_call 39; refine (iKey2_any _ _).mono ?_; rintro e w' ⟨rfl, rfl⟩) | (go_at_call 37; refine (iShards_any _ _).mono ?_; rintro e w' ⟨rfl, rfl⟩))
      go_ret
      exact ⟨rfl, rfl⟩
    | true =>
      rw [shardOf_yes h1 h2]
      have b1 := inB_bd h1
      have b2 := inB_bd h2
      have hs0 : ¬ s = 0 := by omega
      have hw1 : IntKind.i64.wrap (k * 40503) = k * 40503 := IntWalk.i64_in _ (by omega)
      have hm : (k * 40503).tmod 65536 = k * 40503 % 65536 := Int.tmod_eq_emod_of_nonneg (by omega)
      have hm2 : IntKind.i64.wrap (k * 40503 % 65536) = k * 40503 % 65536 := IntWalk.i64_in _ (by omega)
      have hd : (k * 40503 % 65536).tdiv 64 = k * 40503 % 65536 / 64 := Int.tdiv_eq_ediv_of_nonneg (by omega)
      have hd2 : IntKind.i64.wrap (k * 40503 % 65536 / 64) = k * 40503 % 65536 / 64 := IntWalk.i64_in _ (by omega)
      have he : (k * 40503 % 65536 / 64).tmod s = k * 40503 % 65536 / 64 % s := Int.tmod_eq_emod_of_nonneg (by omega)
      have hr1 : 0 ≤ k * 40503 % 65536 / 64 % s := Int.emod_nonneg _ hs0
      have hr2 : k * 40503 % 65536 / 64 % s < s := Int.emod_lt_of_pos _ (by omega)
      have he2 : IntKind.i64.wrap (k * 40503 % 65536 / 64 % s) = k * 40503 % 65536 / 64 % s := IntWalk.i64_in _ (by omega)
      go_enter Tryd.func14, Tryd.ntmps14
      go_wp2_with (first | (go_at_call 39; refine (iKey2_any _ _).mono ?_; rintro e w' ⟨rfl, rfl⟩) | (go_at_call 37; refine (iShards_any _ _).mono ?_; rintro e w' ⟨rfl, rfl⟩))
      go_ret
      exact ⟨rfl, rfl⟩
end Go.Proofs.YtalelcloppbhcaaDoor
