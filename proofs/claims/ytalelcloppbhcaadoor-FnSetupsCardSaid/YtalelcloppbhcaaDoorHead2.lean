/- What a block holds behind a store of several cells, as a list. No program. -/
import Derived.Test.YtalelcloppbhcaaDoorHead
namespace Go.Proofs.YtalelcloppbhcaaDoor
open Go.RowKit

theorem setFrom_list (vs : List Value) (CS : Array Value) (o : Nat) (h : o + vs.length ≤ CS.size) : setFrom CS o vs = (CS.toList.take o ++ vs ++ CS.toList.drop (o + vs.length)).toArray := by
  have hl : (CS.toList.take o).length = o := by simp; omega
  apply Array.ext_getElem?
  intro i
  have e : (CS.toList.take o ++ vs ++ CS.toList.drop (o + vs.length)).toArray[i]? = (CS.toList.take o ++ vs ++ CS.toList.drop (o + vs.length))[i]? := by simp only [List.getElem?_toArray]
  rw [e]
  clear e
  rcases Nat.lt_or_ge i o with h1 | h1
  · rw [setFrom_out _ _ _ _ (.inl h1), List.getElem?_append_left (by simp; omega), List.getElem?_append_left (by omega), List.getElem?_take_of_lt h1, Array.getElem?_toList]
  · rcases Nat.lt_or_ge i (o + vs.length) with h2 | h2
    · obtain ⟨q, rfl⟩ : ∃ q, i = o + q := ⟨i - o, by omega⟩
      rw [setFrom_in _ _ _ _ (by omega) (by omega), List.getElem?_append_left (by simp; omega), List.getElem?_append_right (by omega), hl, Nat.add_sub_cancel_left]
    · rw [setFrom_out _ _ _ _ (.inr h2), List.getElem?_append_right (by simp; omega), List.getElem?_drop, Array.getElem?_toList]
      congr 1
      simp
      omega
theorem blk_setL {w : World} {g : Nat} {T : TypeId} {CS : List Value} (vs : List Value) (o : Nat) (h : Blk w g T CS.toArray) (ho : o + vs.length ≤ CS.length) : Blk (w.setCells g o vs) g T (CS.take o ++ vs ++ CS.drop (o + vs.length)).toArray := by
  have z := blk_setCells vs o h
  rw [setFrom_list _ _ _ (by simpa using ho)] at z
  exact z
/-- A store of several cells, its world by a letter. -/
theorem wpList_store_to {P : Program} {ops : Array Oper} {rest : List Oper} {op : Oper} {a : Act} {w W : World} {Q : Exit → Act → World → Prop} (hgd : op.guard = none) (ty : TypeId) (x y : Operand) (ho : op.op = .store ty x y)
    (b o : Nat) (cells : Array Value) (hx : a.eval x = .pointer (some ⟨b, o, none⟩)) (hy : a.eval y = .agg cells)
    (ht : w.there b o cells.size) (hi : (P.info? ty).map (·.size) = some cells.size) (h1 : cells.all (·.oneCell') = true) (hW : w.setCells b o cells.toList = W)
    (h : wpList P ops Q rest (a.put op.dst undef) W) : wpList P ops Q (op :: rest) a w := by
  subst hW
  exact wpList_store_mid hgd ty x y ho b o cells hx hy ht hi h1 h
end Go.Proofs.YtalelcloppbhcaaDoor
