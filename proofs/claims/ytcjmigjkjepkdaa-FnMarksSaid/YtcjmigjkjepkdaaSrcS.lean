/- The laws' own helpers of chapter 4: a source copied, two compared. -/
import Derived.Test.YtcjmigjkjepkdaaSrc4
namespace Go.Proofs.Ytcjmigjkjepkdaa
open Go.RowKit

theorem toSource_x (x m s : Int) (i o : Bool) (w : World) : Calls Try.prog 37 #[(.agg #[.int .i64 x, .int .i64 m, .int .i64 s, .bool i, .bool o])] w fun e w' => e = .returned (.agg #[.int .i64 x, .int .i64 m, .int .i64 s, .bool i, .bool o]) ∧ Below w.heap.size w w' := by
  have BB := Lib.hid fun a b c d e : Value => ((((Below.refl w.heap.size w).alloc (Nat.le_refl _) (.cells #[.int .i64 x, .int .i64 m, .int .i64 s, .bool i, .bool o] 63)).alloc (by simp) (.cells #[.int .i64 x, .int .i64 m, .int .i64 s, .bool i, .bool o] 28)).alloc (by simp; omega) (.cells #[a, b, c, d, e] 28))
  go_enter Try.func37, Try.ntmps37
  go_wp2
  exact bodyPost_ret (v := (.agg #[.int .i64 x, .int .i64 m, .int .i64 s, .bool i, .bool o])) (by simp [results, Try.results37, go_sem]) rfl ⟨rfl, BB.out _ _ _ _ _⟩
theorem toSource_any (S : Src) (w : World) : Calls Try.prog 37 #[(.agg #[.int .i64 S.x, .int .i64 S.m, .int .i64 S.s, .bool S.i, .bool S.o])] w fun e w' => e = .returned (.agg #[.int .i64 S.x, .int .i64 S.m, .int .i64 S.s, .bool S.i, .bool S.o]) ∧ Below w.heap.size w w' := toSource_x S.x S.m S.s S.i S.o w

theorem eqSource_x (x m s : Int) (i o : Bool) (w : World) : Calls Try.prog 38 #[(.agg #[.int .i64 x, .int .i64 m, .int .i64 s, .bool i, .bool o]), (.agg #[.int .i64 x, .int .i64 m, .int .i64 s, .bool i, .bool o])] w fun e w' => e = .returned (.bool true) ∧ Below w.heap.size w w' := by
  have BB := Lib.hid (((Below.refl w.heap.size w).alloc (Nat.le_refl _) (.cells #[.int .i64 x, .int .i64 m, .int .i64 s, .bool i, .bool o] 28)).alloc (by simp) (.cells #[.int .i64 x, .int .i64 m, .int .i64 s, .bool i, .bool o] 28))
  have hi : (i != i) = false := by simp
  have ho : (o != o) = false := by simp
  have hx : (x != x) = false := by simp
  have hm : (m != m) = false := by simp
  have hs : (s != s) = false := by simp
  go_enter Try.func38, Try.ntmps38
  go_wp2
  go_ret
  exact ⟨rfl, BB.out⟩
theorem eqSource_any (S : Src) (w : World) : Calls Try.prog 38 #[(.agg #[.int .i64 S.x, .int .i64 S.m, .int .i64 S.s, .bool S.i, .bool S.o]), (.agg #[.int .i64 S.x, .int .i64 S.m, .int .i64 S.s, .bool S.i, .bool S.o])] w fun e w' => e = .returned (.bool true) ∧ Below w.heap.size w w' := eqSource_x S.x S.m S.s S.i S.o w
end Go.Proofs.Ytcjmigjkjepkdaa
