/- The laws' own comparison of two frames, alone. -/
import Derived.Test.YtddanfpiecgcgaaDoorFrameS
namespace Go.Proofs.YtddanfpiecgcgaaDoor
open Go.RowKit

theorem eqFrame_x (k y t v : Int) (w : World) :
    Calls Tryd.prog 119 #[(.agg #[.int .i64 k, .int .i64 y, .int .i64 t, .int .i64 v]), (.agg #[.int .i64 k, .int .i64 y, .int .i64 t, .int .i64 v])] w fun e w' => e = .returned (.bool true) ∧ Below w.heap.size w w' := by
  have b1 := (Below.refl w.heap.size w).alloc (Nat.le_refl _) (.cells #[.int .i64 k, .int .i64 y, .int .i64 t, .int .i64 v] 136)
  have b2 := Lib.hid (b1.alloc (by simp) (.cells #[.int .i64 k, .int .i64 y, .int .i64 t, .int .i64 v] 136))
  have h1 : (k != k) = false := by simp
  have h2 : (y != y) = false := by simp
  have h3 : (t != t) = false := by simp
  have h4 : (v != v) = false := by simp
  clear b1
  go_enter Tryd.func119, Tryd.ntmps119
  go_wp2
  go_ret
  exact ⟨rfl, b2.out⟩
end Go.Proofs.YtddanfpiecgcgaaDoor
