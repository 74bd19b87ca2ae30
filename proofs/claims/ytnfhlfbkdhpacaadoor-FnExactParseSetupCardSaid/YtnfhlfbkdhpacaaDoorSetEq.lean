/- laws.eqSetup at one setup twice. -/
import Derived.Test.YtnfhlfbkdhpacaaDoorSetup1
namespace Go.Proofs.YtnfhlfbkdhpacaaDoor
open Go.RowKit

set_option maxHeartbeats 1000000 in
theorem eqSetup_z (s0 s1 s2 s3 s4 s5 s6 s7 s8 : Int) (w : World) : Calls Tryd.prog 17 #[.agg #[.int .i64 s0, .int .i64 s1, .int .i64 s2, .int .i64 s3, .int .i64 s4, .int .i64 s5, .int .i64 s6, .int .i64 s7, .int .i64 s8], .agg #[.int .i64 s0, .int .i64 s1, .int .i64 s2, .int .i64 s3, .int .i64 s4, .int .i64 s5, .int .i64 s6, .int .i64 s7, .int .i64 s8]] w fun e w' => e = .returned (.bool true) ∧ Below w.heap.size w w' := by
  have BB := Lib.hid (((Below.refl w.heap.size w).alloc (Nat.le_refl _) (.cells #[.int .i64 s0, .int .i64 s1, .int .i64 s2, .int .i64 s3, .int .i64 s4, .int .i64 s5, .int .i64 s6, .int .i64 s7, .int .i64 s8] 25)).alloc (by simp) (.cells #[.int .i64 s0, .int .i64 s1, .int .i64 s2, .int .i64 s3, .int .i64 s4, .int .i64 s5, .int .i64 s6, .int .i64 s7, .int .i64 s8] 25))
  have hs0 : (s0 != s0) = false := by simp
  have hs1 : (s1 != s1) = false := by simp
  have hs2 : (s2 != s2) = false := by simp
  have hs3 : (s3 != s3) = false := by simp
  have hs4 : (s4 != s4) = false := by simp
  have hs5 : (s5 != s5) = false := by simp
  have hs6 : (s6 != s6) = false := by simp
  have hs7 : (s7 != s7) = false := by simp
  have hs8 : (s8 != s8) = false := by simp
  go_enter Tryd.func17, Tryd.ntmps17
  go_wp2
  go_ret
  exact ⟨rfl, BB.out⟩
end Go.Proofs.YtnfhlfbkdhpacaaDoor
