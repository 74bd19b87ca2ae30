/- How a pile's methods are found through heap.Interface. -/
import Derived.Test.YtnfhlfbkdhpacaaHeap2
namespace Go.Proofs.Ytnfhlfbkdhpacaa
open Go.RowKit
theorem meth_less (pb n c : Nat) (a : Option Addr) (W : World) (h : W.cell? ⟨pb, 0, none⟩ = some (.slice a n c)) : (Go.method 197 60 (.pointer (some ⟨pb, 0, none⟩)) "Less").run Try.prog W = .ok (74, .slice a n c) W := by
  have e : (Go.method 197 60 (.pointer (some ⟨pb, 0, none⟩)) "Less").run Try.prog W = ((do let v ← loadVar 69 ⟨pb, 0, none⟩; pure (74, v) : Sem (FuncId × Value))).run Try.prog W := by kernel_rfl
  rw [e]
  simp [go_sem, h, Result.andThen]
theorem meth_swap (pb n c : Nat) (a : Option Addr) (W : World) (h : W.cell? ⟨pb, 0, none⟩ = some (.slice a n c)) : (Go.method 197 60 (.pointer (some ⟨pb, 0, none⟩)) "Swap").run Try.prog W = .ok (77, .slice a n c) W := by
  have e : (Go.method 197 60 (.pointer (some ⟨pb, 0, none⟩)) "Swap").run Try.prog W = ((do let v ← loadVar 69 ⟨pb, 0, none⟩; pure (77, v) : Sem (FuncId × Value))).run Try.prog W := by kernel_rfl
  rw [e]
  simp [go_sem, h, Result.andThen]
theorem meth_len (pb n c : Nat) (a : Option Addr) (W : World) (h : W.cell? ⟨pb, 0, none⟩ = some (.slice a n c)) : (Go.method 197 60 (.pointer (some ⟨pb, 0, none⟩)) "Len").run Try.prog W = .ok (40, .slice a n c) W := by
  have e : (Go.method 197 60 (.pointer (some ⟨pb, 0, none⟩)) "Len").run Try.prog W = ((do let v ← loadVar 69 ⟨pb, 0, none⟩; pure (40, v) : Sem (FuncId × Value))).run Try.prog W := by kernel_rfl
  rw [e]
  simp [go_sem, h, Result.andThen]
theorem meth_push (pb : Nat) (W : World) : (Go.method 197 60 (.pointer (some ⟨pb, 0, none⟩)) "Push").run Try.prog W = .ok (76, .pointer (some ⟨pb, 0, none⟩)) W := by kernel_rfl
theorem meth_pop (pb : Nat) (W : World) : (Go.method 197 60 (.pointer (some ⟨pb, 0, none⟩)) "Pop").run Try.prog W = .ok (75, .pointer (some ⟨pb, 0, none⟩)) W := by kernel_rfl
end Go.Proofs.Ytnfhlfbkdhpacaa
