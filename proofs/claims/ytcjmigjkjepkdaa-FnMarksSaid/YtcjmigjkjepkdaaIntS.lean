/- Contracts of the laws' own helpers over slices of ints: the copy, the comparison, the marksI and what is held. The slice reads as a list (Nums), at most 1048576 long. -/
import Derived.Test.YtcjmigjkjepkdaaProg
import Derived.Test.YtcjmigjkjepkdaaMem
import Derived.WalkKit
import Derived.ProofKit
import Derived.Lib.Hide
import Derived.Deep.OwnRows
import Derived.Deep.QuietTactic
import Derived.BigQuiet
namespace Go.Proofs.Ytcjmigjkjepkdaa
open Go.RowKit

theorem infoI64 : (Try.prog.info? 3).map (fun i => (i.zero, i.size, i.bytes)) = some (some (.int .i64 0), 1, 8) := by kernel_rfl

/-- The marks that a caller writes into ints. -/
def marksI (m : Nat) (n : Nat) : List Int := (List.range n).map fun i : Nat => ((m : Int) + (i : Int))
theorem marksI_len (m n : Nat) : (marksI m n).length = n := by simp [marksI]
theorem marksI_el (m n i : Nat) (hi : i < n) : el (marksI m n) i = ((m : Int) + (i : Int)) := by simp [marksI, el, List.getD, hi]
/-- The row behind k marksI. -/
def markToI (m : Nat) (xs : List Int) (j : Nat) : List Int := (marksI m j) ++ xs.drop j
theorem markToI_zero (m : Nat) (xs : List Int) : markToI m xs 0 = xs := by simp [markToI, marksI]
theorem markToI_len (m : Nat) (xs : List Int) (j : Nat) (hj : j ≤ xs.length) : (markToI m xs j).length = xs.length := by simp [markToI, marksI_len]; omega
theorem markToI_all (m : Nat) (xs : List Int) : markToI m xs xs.length = marksI m xs.length := by simp [markToI]
theorem markToI_step (m : Nat) (xs : List Int) (j : Nat) (hj : j < xs.length) : (markToI m xs j).set j ((m : Int) + (j : Int)) = markToI m xs (j + 1) := by
  unfold markToI
  rw [List.set_append_right _ _ (by rw [marksI_len]; exact Nat.le_refl _), marksI_len, Nat.sub_self]
  rw [List.drop_eq_getElem_cons hj, List.set_cons_zero]
  simp [marksI, List.range_succ]



/-- What marking a row does: its numbers are the marksI; of the rest nothing has turned. -/
def MarkPostI (T : TypeId) (k : IntKind) (lo : Nat) (a : Option Addr) (c m n : Nat) (w : World) (e : Ending) (w' : World) : Prop :=
  e = .returned (.int .i64 ((m + n : Nat) : Int)) ∧ w'.ownsRow lo T 1 (.slice a n c) n ((marksI m n).map (Value.int k)) ∧ w.grownBy w' (Value.slice a n c).ownBlock




end Go.Proofs.Ytcjmigjkjepkdaa
