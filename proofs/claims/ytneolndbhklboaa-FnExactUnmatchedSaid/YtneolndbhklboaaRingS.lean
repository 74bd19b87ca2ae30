/- Contracts of the laws' own helpers over a ring and over a credit. -/
import Derived.Test.YtneolndbhklboaaProg
import Derived.Test.YtneolndbhklboaaIntS
import Derived.Test.YtneolndbhklboaaRow
import Derived.WalkKit
import Derived.WalkSpells
import Derived.ProofKit
import Derived.Lib.Hide
import Derived.Outline
namespace Go.Proofs.Ytneolndbhklboaa
open Go.RowKit

/-- Marking ints leaves all that lies below the row's own base, and every row of another block. -/
structure MarkedI (T : TypeId) (lo : Nat) (a : Option Addr) (c m n : Nat) (w w' : World) : Prop where
  own : w'.ownsRow lo T 1 (.slice a n c) n ((marksI m n).map (Value.int .i64))
  below : Below lo w w'
  grown : w.grownBy w' (Value.slice a n c).ownBlock
theorem markInts_m (a : Option Addr) (n c m : Nat) (M : Int) (xs : List Int) (lo : Nat) (w : World) (hr : w.ownsRow lo 3 1 (.slice a n c) n (xs.map (Value.int .i64))) (hM : M = (m : Int)) (hn : n = xs.length) (hlo : lo ≤ w.heap.size) (hlen : n ≤ 1048576) (hm : m ≤ 1073741824) :
    Calls Try.prog 33 #[.slice a n c, .int .i64 M] w fun e w' => e = .returned (.int .i64 (M + (n : Int))) ∧ MarkedI 3 lo a c m n w w' := by
  subst hM
  subst hn
  exact (markInts_n a c m xs lo w hr hlen hm).mono fun e w' ⟨he, ho, hg⟩ => ⟨by rw [he]; exact ret_int (by omega), ho, below_own hr hg hlo, hg⟩
theorem heldInts_m (a : Option Addr) (n c m : Nat) (M : Int) (hi : Nat) (w : World) (hr : Nums .i64 w hi a c (marksI m n)) (hM : M = (m : Int)) (hlen : n ≤ 1048576) (hm : m ≤ 1073741824) :
    Calls Try.prog 34 #[.slice a n c, .int .i64 M] w fun e w' => e = .returned (.int .i64 (M + (n : Int))) ∧ Below w.heap.size w w' := by
  subst hM
  exact (heldInts_n a c m n hi w hr hlen hm).mono fun e w' ⟨he, hw⟩ => ⟨by rw [he]; exact ret_int (by omega), hw ▸ Below.refl _ _⟩
theorem Rw.markedI {T : TypeId} {lo up : Nat} {a : Option Addr} {c m n : Nat} {ys : List Value} {w1 w w' : World} (h : Rw T 1 lo up a n c ys w1) (hm : MarkedI T lo a c m n w w') : Rw T 1 lo up a n c ((marksI m n).map (Value.int .i64)) w' := ⟨hm.own, h.up⟩
theorem Nums.of_marksI {T : TypeId} {lo : Nat} {a : Option Addr} {c m n : Nat} {w w' : World} (h : MarkedI T lo a c m n w w') : Nums .i64 w' w'.heap.size a c (marksI m n) := (Nums.of_own h.own).2
theorem eqInts_b (a b : Option Addr) (n m ca cb : Nat) (xs : List Int) (ha hb : Nat) (w : World) (h1 : Nums .i64 w ha a ca xs) (h2 : Nums .i64 w hb b cb xs) (hn : n = xs.length) (hm : m = xs.length) :
    Calls Try.prog 32 #[.slice a n ca, .slice b m cb] w fun e w' => e = .returned (.bool true) ∧ Below w.heap.size w w' :=
  (eqInts_n a b n m ca cb xs ha hb w h1 h2 hn hm).mono fun e w' ⟨he, k, hw⟩ => ⟨he, by rw [hw]; exact below_drewN (Below.refl _ _) k⟩

/-- A ring by value. -/
def rv (a : Option Addr) (n c : Nat) (hd ct : Int) : Value := .agg #[.slice a n c, .int .i64 hd, .int .i64 ct]
/-- A call that hands back a ring in memory of its own. -/
def FreshRing (T : TypeId) (xs : List Int) (hd ct : Int) (w : World) (e : Ending) (w' : World) : Prop :=
  ∃ a c, e = .returned (.agg #[.slice a xs.length c, .int .i64 hd, .int .i64 ct]) ∧ w'.ownsRow w.heap.size T 1 (.slice a xs.length c) xs.length (xs.map (Value.int .i64)) ∧ Below w.heap.size w w'







end Go.Proofs.Ytneolndbhklboaa
