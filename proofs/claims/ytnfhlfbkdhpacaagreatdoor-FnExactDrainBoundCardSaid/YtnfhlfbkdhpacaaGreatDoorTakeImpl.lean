/- Contract of impl.TakeFrame. -/
import Derived.Test.YtnfhlfbkdhpacaaGreatDoorNext
import Derived.Test.YtnfhlfbkdhpacaaGreatDoorJoint1
namespace Go.Proofs.YtnfhlfbkdhpacaaGreatDoor
open Go.RowKit

/-- What TakeFrame answers: the count, the frame. -/
def tkN (xs : List Int) : Int := if tkHere xs = true then (put0 xs).length else if tkMore xs = true then 0 else -1
def tkF (xs : List Int) : Value := if tkHere xs = true then (.agg #[.int .i64 (f0K xs), .int .i64 (f0Y xs), .int .i64 (f0T xs), .int .i64 (f0V xs)]) else (.agg #[.int .i64 0, .int .i64 0, .int .i64 0, .int .i64 0])
def TakePost (xs : List Int) (w : World) (e : Ending) (w' : World) : Prop := e = .returned (.tuple #[tkF xs, .int .i64 (tkN xs)]) ∧ Below w.heap.size w w'
theorem Flt.more {w : World} {B B' : Nat} {aB aS : Addr} (h : Flt w B aB aS) (hb : B ≤ B') : Flt w B' aB aS := ⟨h.bent, h.short, h.ne, h.rows, by have := h.low; omega⟩

theorem take_here {xs : List Int} {w w' : World} (hh : tkHere xs = true) (hb : Below w.heap.size w w') : TakePost xs w (.returned (.tuple #[(.agg #[.int .i64 (f0K xs), .int .i64 (f0Y xs), .int .i64 (f0T xs), .int .i64 (f0V xs)]), .int .i64 ((put0 xs).length : Int)])) w' := ⟨by simp [tkF, tkN, hh], hb⟩
theorem take_more {xs : List Int} {w w' : World} (hh : tkHere xs = false) (hm : tkMore xs = true) (hb : Below w.heap.size w w') : TakePost xs w (.returned (.tuple #[(.agg #[.int .i64 0, .int .i64 0, .int .i64 0, .int .i64 0]), .int .i64 0])) w' := ⟨by simp [tkF, tkN, hh, hm], hb⟩
theorem take_bad {xs : List Int} {w w' : World} (hh : tkHere xs = false) (hm : tkMore xs = false) (hb : Below w.heap.size w w') : TakePost xs w (.returned (.tuple #[(.agg #[.int .i64 0, .int .i64 0, .int .i64 0, .int .i64 0]), .int .i64 (-1)])) w' := ⟨by simp [tkF, tkN, hh, hm], hb⟩


end Go.Proofs.YtnfhlfbkdhpacaaGreatDoor
