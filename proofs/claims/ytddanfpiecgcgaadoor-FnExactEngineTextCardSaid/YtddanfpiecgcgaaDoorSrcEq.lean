/- The laws' own helpers over one source, alone: a source copied, two compared. -/
import Derived.Test.YtddanfpiecgcgaaDoorProg
import Derived.Test.YtddanfpiecgcgaaDoorMem
import Derived.WalkKit
import Derived.WalkSpells
import Derived.ProofKit
import Derived.Lib.Hide
namespace Go.Proofs.YtddanfpiecgcgaaDoor
open Go.RowKit

theorem toSource_y (x m s : Int) (i o : Bool) (w : World) : Calls Tryd.prog 114 #[(.agg #[.int .i64 x, .int .i64 m, .int .i64 s, .bool i, .bool o])] w fun e w' => e = .returned (.agg #[.int .i64 x, .int .i64 m, .int .i64 s, .bool i, .bool o]) ∧ Below w.heap.size w w' := by
  have BB := Lib.hid fun a b c d e : Value => ((((Below.refl w.heap.size w).alloc (Nat.le_refl _) (.cells #[.int .i64 x, .int .i64 m, .int .i64 s, .bool i, .bool o] 124)).alloc (by simp) (.cells #[.int .i64 x, .int .i64 m, .int .i64 s, .bool i, .bool o] 131)).alloc (by simp; omega) (.cells #[a, b, c, d, e] 131))
  go_enter Tryd.func114, Tryd.ntmps114
  go_wp2
  exact bodyPost_ret (v := (.agg #[.int .i64 x, .int .i64 m, .int .i64 s, .bool i, .bool o])) (by simp [results, Tryd.results114, go_sem]) rfl ⟨rfl, BB.out _ _ _ _ _⟩
theorem eqSource_y (x m s : Int) (i o : Bool) (w : World) : Calls Tryd.prog 118 #[(.agg #[.int .i64 x, .int .i64 m, .int .i64 s, .bool i, .bool o]), (.agg #[.int .i64 x, .int .i64 m, .int .i64 s, .bool i, .bool o])] w fun e w' => e = .returned (.bool true) ∧ Below w.heap.size w w' := by
  have BB := Lib.hid (((Below.refl w.heap.size w).alloc (Nat.le_refl _) (.cells #[.int .i64 x, .int .i64 m, .int .i64 s, .bool i, .bool o] 131)).alloc (by simp) (.cells #[.int .i64 x, .int .i64 m, .int .i64 s, .bool i, .bool o] 131))
  have hi : (i != i) = false := by simp
  have ho : (o != o) = false := by simp
  have hx : (x != x) = false := by simp
  have hm : (m != m) = false := by simp
  have hs : (s != s) = false := by simp
  go_enter Tryd.func118, Tryd.ntmps118
  go_wp2
  go_ret
  exact ⟨rfl, BB.out⟩
end Go.Proofs.YtddanfpiecgcgaaDoor
