/- Contracts of what frames are made of: bodies behind an interface. -/
import Derived.Test.YtneolndbhklboaaFrameS
import Derived.Deep.QuietTactic
import Derived.BigQuiet
import Derived.Deep.RegionWith
import Derived.Outline
import Derived.LaidEql
namespace Go.Proofs.Ytneolndbhklboaa
open Go.RowKit

theorem assert_ee (v : Value) (w : World) : (Instr.typeAssert (.iface 138 v) 122 138 true).run Try.prog w = .ok (.tuple #[v, .bool true]) w := by kernel_rfl
theorem assert_me (v : Value) (w : World) : (Instr.typeAssert (.iface 140 v) 122 138 true).run Try.prog w = .ok (.tuple #[(.agg #[.int .i64 0, .int .i64 0, .int .i64 0]), .bool false]) w := by kernel_rfl
theorem assert_be (v : Value) (w : World) : (Instr.typeAssert (.iface 142 v) 122 138 true).run Try.prog w = .ok (.tuple #[(.agg #[.int .i64 0, .int .i64 0, .int .i64 0]), .bool false]) w := by kernel_rfl
theorem assert_ne (w : World) : (Instr.typeAssert .nilIface 122 138 true).run Try.prog w = .ok (.tuple #[(.agg #[.int .i64 0, .int .i64 0, .int .i64 0]), .bool false]) w := by kernel_rfl
theorem assert_mm (v : Value) (w : World) : (Instr.typeAssert (.iface 140 v) 122 140 true).run Try.prog w = .ok (.tuple #[v, .bool true]) w := by kernel_rfl
theorem assert_bm (v : Value) (w : World) : (Instr.typeAssert (.iface 142 v) 122 140 true).run Try.prog w = .ok (.tuple #[(.agg #[.int .i64 0]), .bool false]) w := by kernel_rfl
theorem assert_nm (w : World) : (Instr.typeAssert .nilIface 122 140 true).run Try.prog w = .ok (.tuple #[(.agg #[.int .i64 0]), .bool false]) w := by kernel_rfl
theorem assert_bb (v : Value) (w : World) : (Instr.typeAssert (.iface 142 v) 122 142 true).run Try.prog w = .ok (.tuple #[v, .bool true]) w := by kernel_rfl
theorem assert_nb (w : World) : (Instr.typeAssert .nilIface 122 142 true).run Try.prog w = .ok (.tuple #[.agg #[], .bool false]) w := by kernel_rfl
theorem meth_eok (v : Value) (w : World) : (Go.method 269 138 v "loop.example/g00728/impl.ok").run Try.prog w = .ok (142, v) w := by kernel_rfl
theorem meth_mok (v : Value) (w : World) : (Go.method 269 140 v "loop.example/g00728/impl.ok").run Try.prog w = .ok (144, v) w := by kernel_rfl
theorem meth_bok (v : Value) (w : World) : (Go.method 269 142 v "loop.example/g00728/impl.ok").run Try.prog w = .ok (146, v) w := by kernel_rfl
theorem bodyOf_event (y t v : Int) (w : World) :
    Calls Try.prog 106 #[(.agg #[.int .i64 1, .int .i64 y, .int .i64 t, .int .i64 v])] w fun e w' => e = .returned (.iface 138 (.agg #[.int .i64 y, .int .i64 t, .int .i64 v])) ∧ Below w.heap.size w w' := by
  go_enter Try.func106, Try.ntmps106
  go_wp2
  go_ret
  exact ⟨rfl, (Below.refl _ _).alloc (Nat.le_refl _) _⟩
theorem bodyOf_mark (y t v : Int) (w : World) :
    Calls Try.prog 106 #[(.agg #[.int .i64 2, .int .i64 y, .int .i64 t, .int .i64 v])] w fun e w' => e = .returned (.iface 140 (.agg #[.int .i64 t])) ∧ Below w.heap.size w w' := by
  go_enter Try.func106, Try.ntmps106
  go_wp2
  go_ret
  exact ⟨rfl, (Below.refl _ _).alloc (Nat.le_refl _) _⟩
theorem bodyOf_bye (y t v : Int) (w : World) :
    Calls Try.prog 106 #[(.agg #[.int .i64 3, .int .i64 y, .int .i64 t, .int .i64 v])] w fun e w' => e = .returned (.iface 142 (.agg #[])) ∧ Below w.heap.size w w' := by
  go_enter Try.func106, Try.ntmps106
  go_wp2
  go_ret
  exact ⟨rfl, (Below.refl _ _).alloc (Nat.le_refl _) _⟩
theorem bodyOf_none (k y t v : Int) (h1 : (k == 1) = false) (h2 : (k == 2) = false) (h3 : (k == 3) = false) (w : World) :
    Calls Try.prog 106 #[(.agg #[.int .i64 k, .int .i64 y, .int .i64 t, .int .i64 v])] w fun e w' => e = .returned .nilIface ∧ Below w.heap.size w w' := by
  go_enter Try.func106, Try.ntmps106
  go_wp2
  go_ret
  exact ⟨rfl, (Below.refl _ _).alloc (Nat.le_refl _) _⟩
theorem frameOf_event (y t v : Int) (w : World) :
    Calls Try.prog 107 #[.iface 138 (.agg #[.int .i64 y, .int .i64 t, .int .i64 v])] w fun e w' => e = .returned (.agg #[.int .i64 1, .int .i64 y, .int .i64 t, .int .i64 v]) ∧ Below w.heap.size w w' := by
  have h0 := assert_ee
  go_enter Try.func107, Try.ntmps107
  go_wp2
  exact bodyPost_ret (v := (.agg #[.int .i64 1, .int .i64 y, .int .i64 t, .int .i64 v])) (by simp [results, Try.results107, go_sem]) rfl ⟨rfl, ((Below.refl _ _).alloc (Nat.le_refl _) _).alloc (by simp) _⟩
theorem frameOf_mark (t : Int) (w : World) :
    Calls Try.prog 107 #[.iface 140 (.agg #[.int .i64 t])] w fun e w' => e = .returned (.agg #[.int .i64 2, .int .i64 0, .int .i64 t, .int .i64 0]) ∧ Below w.heap.size w w' := by
  have h0 := assert_me
  have h1 := assert_mm
  go_enter Try.func107, Try.ntmps107
  go_wp2
  exact bodyPost_ret (v := (.agg #[.int .i64 2, .int .i64 0, .int .i64 t, .int .i64 0])) (by simp [results, Try.results107, go_sem]) rfl ⟨rfl, ((Below.refl _ _).alloc (Nat.le_refl _) _).alloc (by simp) _⟩
theorem frameOf_bye (w : World) :
    Calls Try.prog 107 #[.iface 142 (.agg #[])] w fun e w' => e = .returned (.agg #[.int .i64 3, .int .i64 0, .int .i64 0, .int .i64 0]) ∧ Below w.heap.size w w' := by
  have h0 := assert_be
  have h1 := assert_bm
  have h2 := assert_bb
  go_enter Try.func107, Try.ntmps107
  go_wp2
  exact bodyPost_ret (v := (.agg #[.int .i64 3, .int .i64 0, .int .i64 0, .int .i64 0])) (by simp [results, Try.results107, go_sem]) rfl ⟨rfl, ((Below.refl _ _).alloc (Nat.le_refl _) _).alloc (by simp) _⟩
theorem frameOf_none (w : World) :
    Calls Try.prog 107 #[.nilIface] w fun e w' => e = .returned (.agg #[.int .i64 0, .int .i64 0, .int .i64 0, .int .i64 0]) ∧ Below w.heap.size w w' := by
  have h0 := assert_ne
  have h1 := assert_nm
  have h2 := assert_nb
  go_enter Try.func107, Try.ntmps107
  go_wp2
  exact bodyPost_ret (v := (.agg #[.int .i64 0, .int .i64 0, .int .i64 0, .int .i64 0])) (by simp [results, Try.results107, go_sem]) rfl ⟨rfl, (Below.refl _ _).alloc (Nat.le_refl _) _⟩

theorem eventOk_any (y t v : Int) (w : World) :
    Calls Try.prog 142 #[(.agg #[.int .i64 y, .int .i64 t, .int .i64 v])] w fun e w' => e = .returned (.bool (fOk 1 y t v)) ∧ Below w.heap.size w w' := by
  rw [fOk_event]
  cases hy : inB y 0 65535 with
  | false =>
    rw [Bool.false_and, Bool.false_and]
    go_enter Try.func142, Try.ntmps142
    go_wp2_with (go_at_call 95; refine (isWithin_any _ _ _ _).mono ?_; rintro e w' ⟨rfl, rfl⟩)
    go_ret
    exact ⟨rfl, (Below.refl _ _).alloc (Nat.le_refl _) _⟩
  | true =>
    cases ht : inB t 0 1000000 with
    | false =>
      rw [Bool.and_false, Bool.false_and]
      go_enter Try.func142, Try.ntmps142
      go_wp2_with (go_at_call 95; refine (isWithin_any _ _ _ _).mono ?_; rintro e w' ⟨rfl, rfl⟩)
      go_ret
      exact ⟨rfl, (Below.refl _ _).alloc (Nat.le_refl _) _⟩
    | true =>
      rw [Bool.and_self, Bool.true_and]
      go_enter Try.func142, Try.ntmps142
      go_wp2_with (go_at_call 95; refine (isWithin_any _ _ _ _).mono ?_; rintro e w' ⟨rfl, rfl⟩)
      go_ret
      exact ⟨rfl, (Below.refl _ _).alloc (Nat.le_refl _) _⟩
theorem markOk_any (t : Int) (w : World) :
    Calls Try.prog 144 #[(.agg #[.int .i64 t])] w fun e w' => e = .returned (.bool (inB t 0 1000000)) ∧ Below w.heap.size w w' := by
  go_enter Try.func144, Try.ntmps144
  go_wp2_with (go_at_call 95; refine (isWithin_any _ _ _ _).mono ?_; rintro e w' ⟨rfl, rfl⟩)
  go_ret
  exact ⟨rfl, (Below.refl _ _).alloc (Nat.le_refl _) _⟩
theorem byeOk_any (w : World) :
    Calls Try.prog 146 #[.agg #[]] w fun e w' => e = .returned (.bool true) ∧ Below w.heap.size w w' := by
  go_enter Try.func146, Try.ntmps146
  go_wp2
  go_ret
  exact ⟨rfl, (Below.refl _ _).alloc (Nat.le_refl _) _⟩

end Go.Proofs.Ytneolndbhklboaa
