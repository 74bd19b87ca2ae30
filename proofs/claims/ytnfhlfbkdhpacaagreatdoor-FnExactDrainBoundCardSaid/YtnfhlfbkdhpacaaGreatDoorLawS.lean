/- Contracts of the laws' own helpers over frames. -/
import Derived.Test.YtnfhlfbkdhpacaaGreatDoorJoint1
import Derived.Test.YtnfhlfbkdhpacaaGreatDoorTakeImpl
namespace Go.Proofs.YtnfhlfbkdhpacaaGreatDoor
open Go.RowKit

theorem tkF_fr (xs : List Int) : ∃ k y t v, tkF xs = (.agg #[.int .i64 k, .int .i64 y, .int .i64 t, .int .i64 v]) := by
  unfold tkF
  split
  · exact ⟨_, _, _, _, rfl⟩
  · exact ⟨_, _, _, _, rfl⟩
/-- The comparison, its world by Below. -/
theorem eqBytes_b (a b : Option Addr) (n m ca cb : Nat) (xs : List Int) (ha hb : Nat) (w : World) (h1 : Nums .u8 w ha a ca xs) (h2 : Nums .u8 w hb b cb xs) (hn : n = xs.length) (hm : m = xs.length) :
    Calls Tryz.prog 97 #[.slice a n ca, .slice b m cb] w fun e w' => e = .returned (.bool true) ∧ Below w.heap.size w w' :=
  (eqBytes_any a b n m ca cb xs ha hb w h1 h2 hn hm).mono fun e w' ⟨he, k, hw⟩ => ⟨he, by rw [hw]; exact below_drewN (Below.refl _ _) k⟩

theorem eqFrame_any (k y t v : Int) (w : World) :
    Calls Tryz.prog 153 #[(.agg #[.int .i64 k, .int .i64 y, .int .i64 t, .int .i64 v]), (.agg #[.int .i64 k, .int .i64 y, .int .i64 t, .int .i64 v])] w fun e w' => e = .returned (.bool true) ∧ Below w.heap.size w w' := by
  have b1 := (Below.refl w.heap.size w).alloc (Nat.le_refl _) (.cells #[.int .i64 k, .int .i64 y, .int .i64 t, .int .i64 v] 97)
  have b2 := Lib.hid (b1.alloc (by simp) (.cells #[.int .i64 k, .int .i64 y, .int .i64 t, .int .i64 v] 97))
  have h1 : (k != k) = false := by simp
  have h2 : (y != y) = false := by simp
  have h3 : (t != t) = false := by simp
  have h4 : (v != v) = false := by simp
  clear b1
  go_enter Tryz.func153, Tryz.ntmps153
  go_wp2
  go_ret
  exact ⟨rfl, b2.out⟩

end Go.Proofs.YtnfhlfbkdhpacaaGreatDoor
