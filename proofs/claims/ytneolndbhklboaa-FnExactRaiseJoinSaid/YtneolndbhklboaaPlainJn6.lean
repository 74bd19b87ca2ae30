/- Plain: chapter 12, raising a join. No program. -/
import Derived.Test.YtneolndbhklboaaPlainJn3
import Derived.Test.YtneolndbhklboaaJn4
import Derived.Test.YtneolndbhklboaaJoinS
namespace Go.Proofs.Ytneolndbhklboaa
open Go.RowKit
def raiseOkJ (L R : List Fm) (mk by_ x : Int) : Bool := joinOkJ L R mk && (inB x (-1) 1000000 && inB by_ 0 1000000)
def leastJ (mk by_ x : Int) : Int := max mk x + 1 - by_
def raiseJ (J : Jn) (by_ x : Int) : Jn × Int :=
  if raiseOkJ J.l J.r J.m by_ x = true then (⟨ltTo J.l (leastJ J.m by_ x) J.l.length, ltTo J.r (leastJ J.m by_ x) J.r.length, max J.m x⟩, (J.l.length : Int) + (J.r.length : Int) - ((ltTo J.l (leastJ J.m by_ x) J.l.length).length : Int) - ((ltTo J.r (leastJ J.m by_ x) J.r.length).length : Int))
  else (J, -1)
/-- What RaiseJoin hands back. -/
def RaisePost (L R : List Fm) (mk n : Int) (w : World) (e : Ending) (w' : World) : Prop :=
  ∃ a c b d, e = .returned (.tuple #[.agg #[.slice a L.length c, .slice b R.length d, .int .i64 mk], .int .i64 n]) ∧ Many w.heap.size w'.heap.size [rQ a c L, rQ b d R] w' ∧ Below w.heap.size w w'
theorem moreJ_any (x y : Int) (w : World) : Calls Try.prog 86 #[.int .i64 x, .int .i64 y] w fun e w' => e = .returned (.int .i64 (max x y)) ∧ w = w' := by
  by_cases h : x < y
  · rw [Int.max_eq_right (by omega)]
    go_enter Try.func86, Try.ntmps86
    go_wp2
    go_ret
    exact ⟨rfl, rfl⟩
  · rw [Int.max_eq_left (by omega)]
    go_enter Try.func86, Try.ntmps86
    go_wp2
    go_ret
    exact ⟨rfl, rfl⟩
end Go.Proofs.Ytneolndbhklboaa
