/- Contracts of the laws' own helpers over a ring and over a credit. -/
import Derived.Test.YtcjmigjkjepkdaaProg
import Derived.Test.YtcjmigjkjepkdaaIntS
import Derived.Test.YtcjmigjkjepkdaaRow
import Derived.WalkKit
import Derived.WalkSpells
import Derived.ProofKit
import Derived.Lib.Hide
import Derived.Outline
namespace Go.Proofs.Ytcjmigjkjepkdaa
open Go.RowKit

/-- Marking ints leaves all that lies below the row's own base, and every row of another block. -/
structure MarkedI (T : TypeId) (lo : Nat) (a : Option Addr) (c m n : Nat) (w w' : World) : Prop where
  own : w'.ownsRow lo T 1 (.slice a n c) n ((marksI m n).map (Value.int .i64))
  below : Below lo w w'
  grown : w.grownBy w' (Value.slice a n c).ownBlock
theorem Rw.markedI {T : TypeId} {lo up : Nat} {a : Option Addr} {c m n : Nat} {ys : List Value} {w1 w w' : World} (h : Rw T 1 lo up a n c ys w1) (hm : MarkedI T lo a c m n w w') : Rw T 1 lo up a n c ((marksI m n).map (Value.int .i64)) w' := ⟨hm.own, h.up⟩
theorem Nums.of_marksI {T : TypeId} {lo : Nat} {a : Option Addr} {c m n : Nat} {w w' : World} (h : MarkedI T lo a c m n w w') : Nums .i64 w' w'.heap.size a c (marksI m n) := (Nums.of_own h.own).2

/-- A ring by value. -/
def rv (a : Option Addr) (n c : Nat) (hd ct : Int) : Value := .agg #[.slice a n c, .int .i64 hd, .int .i64 ct]
/-- A call that hands back a ring in memory of its own. -/
def FreshRing (T : TypeId) (xs : List Int) (hd ct : Int) (w : World) (e : Ending) (w' : World) : Prop :=
  ∃ a c, e = .returned (.agg #[.slice a xs.length c, .int .i64 hd, .int .i64 ct]) ∧ w'.ownsRow w.heap.size T 1 (.slice a xs.length c) xs.length (xs.map (Value.int .i64)) ∧ Below w.heap.size w w'







end Go.Proofs.Ytcjmigjkjepkdaa
