/- Several texts of this proof in one: Held3, Plain, Vars, Is, Tick1, PlainSrc, Mem, Held, PlainFrame, OpenBase, SrcEq, Row, PlainWide, PlainCheck, PlainPut, PlainTake, Src1, FrameS, FrEq, PlainAll, Body, FrameOk2, FrameOk1, FrameOk, Check, Recs, IntS, ByteS, Mark, PlainDec, DecS, Reader, Head, Head2, SpecBytes, PutNum. -/
import Derived.Deep.RegionWith
import Derived.Deep.CutRange
import Derived.Deep.LoopGhost
import Derived.Deep.RegionHeld3
import Derived.StillTailTactics
import Derived.WalkKit
import Derived.Below
import Derived.Laws.MakeOwn
import Derived.Lib.Hide
import Derived.OpenVars
import Derived.Test.YtnfhlfbkdhpacaaGreatDoorProg
import Derived.LaidEql
import Derived.Stop.Asserts
import Derived.RowKitTokens
import Derived.ProofKit
import Derived.OpenShut
import Derived.Laws.OwnMore
import Derived.OwnWalk
import Derived.WalkSmall
import Derived.Test.YtnfhlfbkdhpacaaGreatDoorRows
import Derived.Lib.SmallJoins
import Derived.Laws.Rows
import Derived.Deep.Matrix
import Derived.WalkSpells
import Derived.Laws.BitsAllLaws
import Derived.Laws.BitsLemmas
import Derived.Deep.QuietTactic
import Derived.BigQuiet
import Derived.Outline
import Derived.Deep.OwnRows
import Derived.Deep.MidRow
import Derived.Maps.AppendAt
import Derived.IntWalk
/- The tactics for a drawn region with loads beside calls, and for cuts. No program. -/
namespace Go.Proofs.YtnfhlfbkdhpacaaGreatDoor

end Go.Proofs.YtnfhlfbkdhpacaaGreatDoor

/- Plain facts on lists and cells: no program. What a slice of ints reads as, how its copy is filled cell by cell, folds over a list's beginning. -/
namespace Go.Proofs.YtnfhlfbkdhpacaaGreatDoor
open Go.RowKit

/-- Element i of a list of numbers, 0 behind its end (a name of its own: the walk leaves it as it stands). -/
def el (xs : List Int) (i : Nat) : Int := xs.getD i 0

/-- What a slice value of ints reads as: its numbers, where they lie. -/
structure Row (w : World) (a : Option Addr) (len : Nat) (xs : List Int) : Prop where
  size : xs.length = len
  lies : len = 0 ∨ ∃ b off, a = some ⟨b, off, none⟩ ∧ b < w.heap.size ∧ ∀ i, i < len → w.cell? ⟨b, off + i, none⟩ = some (.int .i64 (el xs i))

theorem Row.below {w w' : World} {a : Option Addr} {len : Nat} {xs : List Int} (h : Row w a len xs) (hb : Below w.heap.size w w') : Row w' a len xs :=
  ⟨h.size, h.lies.imp id fun ⟨b, off, ha, hlt, hc⟩ => ⟨b, off, ha, Nat.lt_of_lt_of_le hlt hb.size, fun i hi => (hb.cell (p := ⟨b, off + i, none⟩) hlt).trans (hc i hi)⟩⟩

/-- The cells of the copy behind k rounds. -/
def part (xs : List Int) (k : Nat) : Array Value := ((xs.take k).map (Value.int .i64) ++ List.replicate (xs.length - k) (Value.int .i64 0)).toArray
def full (xs : List Int) : Array Value := (xs.map (Value.int .i64)).toArray

theorem part_size (xs : List Int) (k : Nat) (hk : k ≤ xs.length) : (part xs k).size = xs.length := by
  simp only [part, List.size_toArray, List.length_append, List.length_map, List.length_take, List.length_replicate]; omega
theorem part_full (xs : List Int) : part xs xs.length = full xs := by simp [part, full]
theorem part_zero (xs : List Int) : madeCells #[Value.int .i64 0] xs.length = part xs 0 := by
  apply Array.ext
  · rw [size_madeCells, part_size _ _ (Nat.zero_le _)]
  · intro i h1 h2
    simp [madeCells, part]
    rw [Nat.mod_one]
    rfl
theorem part_here (xs : List Int) (k : Nat) (hk : k < xs.length) : (part xs k)[k]? = some (.int .i64 0) := by
  simp only [part, List.getElem?_toArray]
  rw [List.getElem?_append_right (by simp; omega)]
  simp only [List.length_map, List.length_take]
  rw [List.getElem?_replicate, if_pos (by omega)]
theorem part_step (xs : List Int) (k : Nat) (hk : k < xs.length) : (part xs k).setIfInBounds k (.int .i64 (el xs k)) = part xs (k + 1) := by
  apply Array.ext_getElem?
  intro i
  rw [Array.getElem?_setIfInBounds, part_size _ _ (by omega)]
  simp only [part, List.getElem?_toArray]
  by_cases h : k = i
  · subst h
    rw [if_pos rfl, if_pos hk, List.getElem?_append_left (by simp; omega)]
    simp [el, List.getD, hk]
  · rw [if_neg h]
    by_cases h2 : i < k
    · rw [List.getElem?_append_left (by simp; omega), List.getElem?_append_left (by simp; omega)]
      simp only [List.getElem?_map, List.getElem?_take]
      rw [if_pos h2, if_pos (by omega)]
    · rw [List.getElem?_append_right (by simp; omega), List.getElem?_append_right (by simp; omega)]
      simp only [List.length_map, List.length_take, List.getElem?_replicate]
      by_cases h3 : i < xs.length
      · rw [if_pos (by omega), if_pos (by omega)]
      · rw [if_neg (by omega), if_neg (by omega)]
theorem full_at (xs : List Int) (i : Nat) (hi : i < xs.length) : (full xs)[i]? = some (.int .i64 (el xs i)) := by
  simp [full, el, List.getD, hi]

/-- The copy reads as the list. -/
theorem Row.copy (w : World) (xs : List Int) (t : TypeId) : Row (w.alloc (.cells (full xs) t)) (some ⟨w.heap.size, 0, none⟩) xs.length xs :=
  ⟨rfl, .inr ⟨_, 0, rfl, by simp, fun i hi => by rw [Nat.zero_add, World.cell?_alloc_at _ _ _ _ rfl]; exact full_at xs i hi⟩⟩

/-- A fold over a list's first k numbers. -/
def foldTo {β : Type} (f : β → Int → β) (b : β) (xs : List Int) (k : Nat) : β := (xs.take k).foldl f b
theorem foldTo_zero {β : Type} (f : β → Int → β) (b : β) (xs : List Int) : foldTo f b xs 0 = b := rfl
theorem foldTo_succ {β : Type} (f : β → Int → β) (b : β) (xs : List Int) (k : Nat) (hk : k < xs.length) : foldTo f b xs (k + 1) = f (foldTo f b xs k) (el xs k) := by
  unfold foldTo
  rw [List.take_succ_eq_append_getElem hk, List.foldl_append]
  simp [el, List.getD, hk]

end Go.Proofs.YtnfhlfbkdhpacaaGreatDoor

/- The shape of several listed variables' readings. No program. -/
namespace Go.Proofs.YtnfhlfbkdhpacaaGreatDoor
open Go.RowKit

theorem vars_two {H : Type} {enc : TypeId × Value → H} {P : Program} {w : World} {sp : Nat → Bool} {n0 n1 : String} {gs : List (DataW H)} {ps : List MemPlace} (h : DataW.TrodVars enc P w sp [n0, n1] gs ps) : ∃ a b, gs = [a, b] := by
  rcases gs with _ | ⟨a, _ | ⟨b, _ | ⟨c, r⟩⟩⟩
  · exact h.elim
  · obtain ⟨_, _, _, _, _, _, _, _, _, _, h2, _⟩ := h; exact h2.elim
  · exact ⟨a, b, rfl⟩
  · obtain ⟨_, _, _, _, _, _, _, _, _, _, ⟨_, _, _, _, _, _, _, _, _, _, h3, _⟩, _⟩ := h; exact h3.elim

theorem vars_cons {H : Type} {enc : TypeId × Value → H} {P : Program} {w : World} {sp : Nat → Bool} {n : String} {ns : List String} {gs : List (DataW H)} {ps : List MemPlace} (h : DataW.TrodVars enc P w sp (n :: ns) gs ps) : ∃ a gs' ps', gs = a :: gs' ∧ DataW.TrodVars enc P w sp ns gs' ps' := by
  cases gs with
  | nil => exact h.elim
  | cons a r => obtain ⟨_, _, _, _, _, _, _, _, _, _, h2, _⟩ := h; exact ⟨a, r, _, rfl, h2⟩
theorem vars_nil {H : Type} {enc : TypeId × Value → H} {P : Program} {w : World} {sp : Nat → Bool} {gs : List (DataW H)} {ps : List MemPlace} (h : DataW.TrodVars enc P w sp [] gs ps) : gs = [] := by
  cases gs with
  | nil => rfl
  | cons a r => exact h.elim
theorem vars_four {H : Type} {enc : TypeId × Value → H} {P : Program} {w : World} {sp : Nat → Bool} {n0 n1 n2 n3 : String} {gs : List (DataW H)} {ps : List MemPlace} (h : DataW.TrodVars enc P w sp [n0, n1, n2, n3] gs ps) : ∃ a b c d, gs = [a, b, c, d] := by
  obtain ⟨a, g1, _, rfl, h1⟩ := vars_cons h
  obtain ⟨b, g2, _, rfl, h2⟩ := vars_cons h1
  obtain ⟨c, g3, _, rfl, h3⟩ := vars_cons h2
  obtain ⟨d, g4, _, rfl, h4⟩ := vars_cons h3
  obtain rfl := vars_nil h4
  exact ⟨a, b, c, d, rfl⟩
theorem vars_three {H : Type} {enc : TypeId × Value → H} {P : Program} {w : World} {sp : Nat → Bool} {n0 n1 n2 : String} {gs : List (DataW H)} {ps : List MemPlace} (h : DataW.TrodVars enc P w sp [n0, n1, n2] gs ps) : ∃ a b c, gs = [a, b, c] := by
  obtain ⟨a, g1, _, rfl, h1⟩ := vars_cons h
  obtain ⟨b, g2, _, rfl, h2⟩ := vars_cons h1
  obtain ⟨c, g3, _, rfl, h3⟩ := vars_cons h2
  obtain rfl := vars_nil h3
  exact ⟨a, b, c, rfl⟩
end Go.Proofs.YtnfhlfbkdhpacaaGreatDoor

/- errors.Is by its contracts, for the program's two faults. -/
namespace Go.Proofs.YtnfhlfbkdhpacaaGreatDoor
open Go.RowKit Go.Extern.Stop Go.Stop Go.Extern

theorem isTypeOf (v : Value) (w : World) : (Extern.ReflectliteType.typeOf #[.iface 363 v]).run Tryz.prog w = .ok (.iface 259 (.agg #[.pointer (some ⟨6, 363, none⟩)])) w := by kernel_rfl
/-- What the model runs for (rtype).Comparable. -/
def cmpFn : Array Value → Sem Value := Extern.ReflectliteType.method fun t => do Go.Extern.Rtype.noPackHeld "Comparable" t; pure (.bool (← typeInfo t).comparable)
theorem isComparable (w : World) : (cmpFn #[.agg #[.pointer (some ⟨6, 363, none⟩)]]).run Tryz.prog w = .ok (.bool true) w := by kernel_rfl
theorem isMethodComparable (v : Value) (w : World) : (Go.method 498 259 v "Comparable").run Tryz.prog w = .ok (375, v) w := by kernel_rfl
theorem isComp : (Tryz.prog.info? 363).map (·.comparable) = some true := by kernel_rfl
theorem isSize : (Tryz.prog.info? 387).map (·.size) = some 1 := by kernel_rfl
theorem noIsE (v : Value) (xT : TypeId) (w : World) : (Instr.typeAssert (.iface 363 v) xT 261 true).run Tryz.prog w = .ok (.tuple #[.nilIface, .bool false]) w := run_typeAssert_lacksB Tryz.underlying261 (by kernel_rfl) (by kernel_rfl) v xT w
theorem noUnwrapE (v : Value) (xT : TypeId) (w : World) : (Instr.typeAssert (.iface 363 v) xT 264 true).run Tryz.prog w = .ok (.tuple #[.nilIface, .bool false]) w := run_typeAssert_lacksB Tryz.underlying264 (by kernel_rfl) (by kernel_rfl) v xT w
theorem noUnwrapsE (v : Value) (xT : TypeId) (w : World) : (Instr.typeAssert (.iface 363 v) xT 266 true).run Tryz.prog w = .ok (.tuple #[.nilIface, .bool false]) w := run_typeAssert_lacksB Tryz.underlying266 (by kernel_rfl) (by kernel_rfl) v xT w

/-- errors.Is(x, x), x one of errors.New's make. -/
theorem is_same (a : Addr) (w : World) :
    Calls Tryz.prog 108 #[.iface 363 (.pointer (some a)), .iface 363 (.pointer (some a))] w fun e w' => e = .returned (.bool true) ∧ w = w' := by
  obtain ⟨i, hi, hcmp⟩ := Option.map_eq_some_iff.1 isComp
  obtain ⟨j, hj, hjs⟩ := Option.map_eq_some_iff.1 isSize
  have h8 := @run_callFunc_extern Tryz.prog 160 _ Extern.ReflectliteType.typeOf Tryz.func160 (by kernel_rfl) (by kernel_rfl) (by kernel_rfl) (by kernel_rfl)
  have h32 := @run_callFunc_extern Tryz.prog 375 _ cmpFn Tryz.func375 (by kernel_rfl) (by kernel_rfl) (by kernel_rfl) (by kernel_rfl)
  have tT := isTypeOf
  have cT := isComparable
  have mR := isMethodComparable
  have heq := run_eql_iface_ptr_same (P := Tryz.prog) w a Tryz.underlying140 Tryz.underlying363 hi hcmp hj
  go_enter Tryz.func108, Tryz.ntmps108
  go_wp2
  refine wp_loop_rounds 1 ?_
  rw [rounds_succ]
  go_wp2
  go_ret
  exact ⟨rfl, rfl⟩

/-- errors.Is(nil, x). -/
theorem is_nil (b : Addr) (w : World) :
    Calls Tryz.prog 108 #[.nilIface, .iface 363 (.pointer (some b))] w fun e w' => e = .returned (.bool false) ∧ w = w' := by
  have hn := run_eql_iface_nil_left (P := Tryz.prog) w 363 (.pointer (some b)) Tryz.underlying140
  go_enter Tryz.func108, Tryz.ntmps108
  go_wp2
  go_ret
  exact ⟨rfl, rfl⟩

/-- errors.Is(x, y), two of errors.New's make that are different pointers. -/
theorem is_other (a b : Addr) (ca cb : Array Value) (ta tb : TypeId) (w : World) (hne : a ≠ b) (ha : w.heap[a.block]? = some (.cells ca ta (0, 0))) (hb : w.heap[b.block]? = some (.cells cb tb (0, 0))) :
    Calls Tryz.prog 108 #[.iface 363 (.pointer (some a)), .iface 363 (.pointer (some b))] w fun e w' => e = .returned (.bool false) ∧ w = w' := by
  obtain ⟨i, hi, hcmp⟩ := Option.map_eq_some_iff.1 isComp
  obtain ⟨j, hj, hjs⟩ := Option.map_eq_some_iff.1 isSize
  have h8 := @run_callFunc_extern Tryz.prog 160 _ Extern.ReflectliteType.typeOf Tryz.func160 (by kernel_rfl) (by kernel_rfl) (by kernel_rfl) (by kernel_rfl)
  have h32 := @run_callFunc_extern Tryz.prog 375 _ cmpFn Tryz.func375 (by kernel_rfl) (by kernel_rfl) (by kernel_rfl) (by kernel_rfl)
  have tT := isTypeOf
  have cT := isComparable
  have mR := isMethodComparable
  have nE := noIsE
  have uE := noUnwrapE
  have vE := noUnwrapsE
  have heq := run_eql_iface_ptr_other (P := Tryz.prog) w Tryz.underlying140 Tryz.underlying363 hi hcmp hj (by rw [hjs]; decide) hne ha hb
  go_enter Tryz.func108, Tryz.ntmps108
  go_wp2
  refine wp_loop_rounds 1 ?_
  rw [rounds_succ]
  go_wp2
  go_ret
  exact ⟨rfl, rfl⟩

end Go.Proofs.YtnfhlfbkdhpacaaGreatDoor

/- Contracts of the functions of chapter 1 that only reckon: what impl and spec answer, as one plain function each. No conditions beyond that the integers fit their kind. -/
namespace Go.Proofs.YtnfhlfbkdhpacaaGreatDoor
open Go.RowKit

def inB (x a b : Int) : Bool := decide (a ≤ x ∧ x ≤ b)
theorem inB_yes {x a b : Int} (h : a ≤ x) (h2 : x ≤ b) : inB x a b = true := by unfold inB; simp; omega
theorem inB_no {x a b : Int} (h : ¬ (a ≤ x ∧ x ≤ b)) : inB x a b = false := by unfold inB; simp; omega
def tickB (t : Int) : Bool := inB t 0 1000000000
theorem tickB_yes {t : Int} (h : 0 ≤ t) (h2 : t ≤ 1000000000) : tickB t = true := inB_yes h h2
theorem tickB_no {t : Int} (h : ¬ (0 ≤ t ∧ t ≤ 1000000000)) : tickB t = false := inB_no h

theorem specIn_any (x a b : Int) (w : World) : Calls Tryz.prog 82 #[.int .i64 x, .int .i64 a, .int .i64 b] w fun e w' => e = .returned (.bool (inB x a b)) ∧ w = w' := by
  by_cases h1 : a ≤ x
  · by_cases h2 : x ≤ b
    · go_enter Tryz.func82, Tryz.ntmps82
      go_wp2
      go_ret
      exact ⟨by rw [inB_yes h1 h2]; rfl, rfl⟩
    · go_enter Tryz.func82, Tryz.ntmps82
      go_wp2
      go_ret
      exact ⟨by rw [inB_no (by omega)]; rfl, rfl⟩
  · go_enter Tryz.func82, Tryz.ntmps82
    go_wp2
    go_ret
    exact ⟨by rw [inB_no (by omega)]; rfl, rfl⟩
theorem specTickOk_any (x : Int) (w : World) : Calls Tryz.prog 142 #[.int .i64 x] w fun e w' => e = .returned (.bool (tickB x)) ∧ w = w' := by
  go_enter Tryz.func142, Tryz.ntmps142
  go_wp2_with (go_at_call 82; refine (specIn_any _ _ _ _).mono ?_; rintro e w' ⟨rfl, rfl⟩)
  go_ret
  exact ⟨rfl, rfl⟩
theorem ok_any (x : Int) (w : World) : Calls Tryz.prog 233 #[.int .i64 x] w fun e w' => e = .returned (.bool (tickB x)) ∧ w = w' := by
  by_cases h1 : 0 ≤ x
  · by_cases h2 : x ≤ 1000000000
    · rw [tickB_yes h1 h2]
      go_enter Tryz.func233, Tryz.ntmps233
      go_wp2
      go_ret
      exact ⟨rfl, rfl⟩
    · rw [tickB_no (by omega)]
      go_enter Tryz.func233, Tryz.ntmps233
      go_wp2
      go_ret
      exact ⟨rfl, rfl⟩
  · rw [tickB_no (by omega)]
    go_enter Tryz.func233, Tryz.ntmps233
    go_wp2
    go_ret
    exact ⟨rfl, rfl⟩
theorem implTickOk_any (x : Int) (w : World) : Calls Tryz.prog 204 #[.int .i64 x] w fun e w' => e = .returned (.bool (tickB x)) ∧ w = w' := by
  go_enter Tryz.func204, Tryz.ntmps204
  go_wp2_with (go_at_call 233; refine (ok_any _ _).mono ?_; rintro e w' ⟨rfl, rfl⟩)
  go_ret
  exact ⟨rfl, rfl⟩
theorem tickB_bd {t : Int} (h : tickB t = true) : 0 ≤ t ∧ t ≤ 1000000000 := by unfold tickB inB at h; simpa using h
theorem inB_bd {x a b : Int} (h : inB x a b = true) : a ≤ x ∧ x ≤ b := by unfold inB at h; simpa using h
def addTick (t d : Int) : Int := if tickB t = true ∧ inB d (-1000000000) 1000000000 = true then (if 1000000000 < t + d then 1000000000 else if t + d < 0 then 0 else t + d) else -1
theorem addTick_no1 {t d : Int} (h : tickB t = false) : addTick t d = -1 := by unfold addTick; simp [h]
theorem addTick_no2 {t d : Int} (h : inB d (-1000000000) 1000000000 = false) : addTick t d = -1 := by unfold addTick; simp [h]
theorem addTick_hi {t d : Int} (h : tickB t = true) (h2 : inB d (-1000000000) 1000000000 = true) (h3 : 1000000000 < t + d) : addTick t d = 1000000000 := by unfold addTick; simp [h, h2, h3]
theorem addTick_lo {t d : Int} (h : tickB t = true) (h2 : inB d (-1000000000) 1000000000 = true) (h3 : t + d < 0) : addTick t d = 0 := by unfold addTick; rw [if_pos ⟨h, h2⟩, if_neg (by omega), if_pos h3]
theorem addTick_mid {t d : Int} (h : tickB t = true) (h2 : inB d (-1000000000) 1000000000 = true) (h3 : ¬ t + d < 0) (h4 : ¬ 1000000000 < t + d) : addTick t d = t + d := by unfold addTick; rw [if_pos ⟨h, h2⟩, if_neg h4, if_neg h3]

set_option maxHeartbeats 400000 in
theorem specAdd_any (t d : Int) (w : World) : Calls Tryz.prog 120 #[.int .i64 t, .int .i64 d] w fun e w' => e = .returned (.int .i64 (addTick t d)) ∧ w = w' := by
  cases ht : tickB t with
  | false =>
    rw [addTick_no1 ht]
    go_enter Tryz.func120, Tryz.ntmps120
    go_wp2_with (first | (go_at_call 82; refine (specIn_any _ _ _ _).mono ?_; rintro e w' ⟨rfl, rfl⟩) | (go_at_call 142; refine (specTickOk_any _ _).mono ?_; rintro e w' ⟨rfl, rfl⟩))
    go_ret
    exact ⟨rfl, rfl⟩
  | true =>
    have hb := tickB_bd ht
    cases hd : inB d (-1000000000) 1000000000 with
    | false =>
      rw [addTick_no2 hd]
      go_enter Tryz.func120, Tryz.ntmps120
      go_wp2_with (first | (go_at_call 82; refine (specIn_any _ _ _ _).mono ?_; rintro e w' ⟨rfl, rfl⟩) | (go_at_call 142; refine (specTickOk_any _ _).mono ?_; rintro e w' ⟨rfl, rfl⟩))
      go_ret
      exact ⟨rfl, rfl⟩
    | true =>
      have hc := inB_bd hd
      by_cases h1 : 1000000000 < t + d
      · rw [addTick_hi ht hd h1]
        go_enter Tryz.func120, Tryz.ntmps120
        go_wp2_with (first | (go_at_call 82; refine (specIn_any _ _ _ _).mono ?_; rintro e w' ⟨rfl, rfl⟩) | (go_at_call 142; refine (specTickOk_any _ _).mono ?_; rintro e w' ⟨rfl, rfl⟩))
        go_ret
        exact ⟨rfl, rfl⟩
      · by_cases h2 : t + d < 0
        · rw [addTick_lo ht hd h2]
          go_enter Tryz.func120, Tryz.ntmps120
          go_wp2_with (first | (go_at_call 82; refine (specIn_any _ _ _ _).mono ?_; rintro e w' ⟨rfl, rfl⟩) | (go_at_call 142; refine (specTickOk_any _ _).mono ?_; rintro e w' ⟨rfl, rfl⟩))
          go_ret
          exact ⟨rfl, rfl⟩
        · rw [addTick_mid ht hd h2 h1]
          go_enter Tryz.func120, Tryz.ntmps120
          go_wp2_with (first | (go_at_call 82; refine (specIn_any _ _ _ _).mono ?_; rintro e w' ⟨rfl, rfl⟩) | (go_at_call 142; refine (specTickOk_any _ _).mono ?_; rintro e w' ⟨rfl, rfl⟩))
          go_ret
          exact ⟨rfl, rfl⟩
set_option maxHeartbeats 400000 in
theorem plus_any (t d : Int) (w : World) : Calls Tryz.prog 277 #[.int .i64 t, .int .i64 d] w fun e w' => e = .returned (.int .i64 (addTick t d)) ∧ w = w' := by
  cases ht : tickB t with
  | false =>
    rw [addTick_no1 ht]
    go_enter Tryz.func277, Tryz.ntmps277
    go_wp2_with (go_at_call 233; refine (ok_any _ _).mono ?_; rintro e w' ⟨rfl, rfl⟩)
    go_ret
    exact ⟨rfl, rfl⟩
  | true =>
    have hb := tickB_bd ht
    by_cases hd1 : d < -1000000000
    · rw [addTick_no2 (inB_no (by omega))]
      go_enter Tryz.func277, Tryz.ntmps277
      go_wp2_with (go_at_call 233; refine (ok_any _ _).mono ?_; rintro e w' ⟨rfl, rfl⟩)
      go_ret
      exact ⟨rfl, rfl⟩
    · by_cases hd2 : 1000000000 < d
      · rw [addTick_no2 (inB_no (by omega))]
        go_enter Tryz.func277, Tryz.ntmps277
        go_wp2_with (go_at_call 233; refine (ok_any _ _).mono ?_; rintro e w' ⟨rfl, rfl⟩)
        go_ret
        exact ⟨rfl, rfl⟩
      · by_cases h1 : 1000000000 < t + d
        · rw [addTick_hi ht (inB_yes (by omega) (by omega)) h1]
          go_enter Tryz.func277, Tryz.ntmps277
          go_wp2_with (go_at_call 233; refine (ok_any _ _).mono ?_; rintro e w' ⟨rfl, rfl⟩)
          go_ret
          exact ⟨rfl, rfl⟩
        · by_cases h2 : t + d < 0
          · rw [addTick_lo ht (inB_yes (by omega) (by omega)) h2]
            go_enter Tryz.func277, Tryz.ntmps277
            go_wp2_with (go_at_call 233; refine (ok_any _ _).mono ?_; rintro e w' ⟨rfl, rfl⟩)
            go_ret
            exact ⟨rfl, rfl⟩
          · rw [addTick_mid ht (inB_yes (by omega) (by omega)) h2 h1]
            go_enter Tryz.func277, Tryz.ntmps277
            go_wp2_with (go_at_call 233; refine (ok_any _ _).mono ?_; rintro e w' ⟨rfl, rfl⟩)
            go_ret
            exact ⟨rfl, rfl⟩
theorem implAdd_any (t d : Int) (w : World) : Calls Tryz.prog 242 #[.int .i64 t, .int .i64 d] w fun e w' => e = .returned (.int .i64 (addTick t d)) ∧ w = w' := by
  go_enter Tryz.func242, Tryz.ntmps242
  go_wp2_with (go_at_call 277; refine (plus_any _ _ _).mono ?_; rintro e w' ⟨rfl, rfl⟩)
  go_ret
  exact ⟨rfl, rfl⟩
def sinceT (f n : Int) : Int := if tickB f = true ∧ tickB n = true then (if n < f then 0 else n - f) else -1
theorem sinceT_no1 {f n : Int} (h : tickB f = false) : sinceT f n = -1 := by unfold sinceT; simp [h]
theorem sinceT_no2 {f n : Int} (h : tickB n = false) : sinceT f n = -1 := by unfold sinceT; simp [h]
theorem sinceT_lo {f n : Int} (h : tickB f = true) (h2 : tickB n = true) (h3 : n < f) : sinceT f n = 0 := by unfold sinceT; rw [if_pos ⟨h, h2⟩, if_pos h3]
theorem sinceT_mid {f n : Int} (h : tickB f = true) (h2 : tickB n = true) (h3 : ¬ n < f) : sinceT f n = n - f := by unfold sinceT; rw [if_pos ⟨h, h2⟩, if_neg h3]

def dueB (f a n : Int) : Bool := decide (tickB f = true ∧ tickB a = true ∧ tickB n = true ∧ 0 < a ∧ addTick f a ≤ n)
theorem dueB_no1 {f a n : Int} (h : tickB f = false) : dueB f a n = false := by unfold dueB; simp [h]
theorem dueB_no2 {f a n : Int} (h : tickB a = false) : dueB f a n = false := by unfold dueB; simp [h]
theorem dueB_no3 {f a n : Int} (h : tickB n = false) : dueB f a n = false := by unfold dueB; simp [h]
theorem dueB_no4 {f a n : Int} (h : ¬ 0 < a) : dueB f a n = false := by unfold dueB; simp [h]
theorem dueB_eq {f a n : Int} (h1 : tickB f = true) (h2 : tickB a = true) (h3 : tickB n = true) (h4 : 0 < a) : dueB f a n = decide (addTick f a ≤ n) := by unfold dueB; simp only [h1, h2, h3, h4, true_and]

set_option maxHeartbeats 400000 in
theorem specDue_any (f a n : Int) (w : World) : Calls Tryz.prog 168 #[.int .i64 f, .int .i64 a, .int .i64 n] w fun e w' => e = .returned (.bool (dueB f a n)) ∧ w = w' := by
  cases hf : tickB f with
  | false =>
    rw [dueB_no1 hf]
    cases hn : tickB n <;>
    · go_enter Tryz.func168, Tryz.ntmps168
      go_wp2_with (first | (go_at_call 142; refine (specTickOk_any _ _).mono ?_; rintro e w' ⟨rfl, rfl⟩) | (go_at_call 120; refine (specAdd_any _ _ _).mono ?_; rintro e w' ⟨rfl, rfl⟩))
      go_ret
      exact ⟨rfl, rfl⟩
  | true =>
    cases ha : tickB a with
    | false =>
      rw [dueB_no2 ha]
      cases hn : tickB n <;>
      · go_enter Tryz.func168, Tryz.ntmps168
        go_wp2_with (first | (go_at_call 142; refine (specTickOk_any _ _).mono ?_; rintro e w' ⟨rfl, rfl⟩) | (go_at_call 120; refine (specAdd_any _ _ _).mono ?_; rintro e w' ⟨rfl, rfl⟩))
        go_ret
        exact ⟨rfl, rfl⟩
    | true =>
      have hb := tickB_bd ha
      cases hn : tickB n with
      | false =>
        rw [dueB_no3 hn]
        go_enter Tryz.func168, Tryz.ntmps168
        go_wp2_with (first | (go_at_call 142; refine (specTickOk_any _ _).mono ?_; rintro e w' ⟨rfl, rfl⟩) | (go_at_call 120; refine (specAdd_any _ _ _).mono ?_; rintro e w' ⟨rfl, rfl⟩))
        go_ret
        exact ⟨rfl, rfl⟩
      | true =>
        by_cases h0 : 0 < a
        · have ha0 : (a == 0) = false := by simp; omega
          rw [dueB_eq hf ha hn h0]
          go_enter Tryz.func168, Tryz.ntmps168
          go_wp2_with (first | (go_at_call 142; refine (specTickOk_any _ _).mono ?_; rintro e w' ⟨rfl, rfl⟩) | (go_at_call 120; refine (specAdd_any _ _ _).mono ?_; rintro e w' ⟨rfl, rfl⟩))
          go_ret
          exact ⟨rfl, rfl⟩
        · rw [dueB_no4 h0]
          have ha0 : a = 0 := by omega
          subst ha0
          go_enter Tryz.func168, Tryz.ntmps168
          go_wp2_with (first | (go_at_call 142; refine (specTickOk_any _ _).mono ?_; rintro e w' ⟨rfl, rfl⟩) | (go_at_call 120; refine (specAdd_any _ _ _).mono ?_; rintro e w' ⟨rfl, rfl⟩))
          go_ret
          exact ⟨rfl, rfl⟩
set_option maxHeartbeats 400000 in
theorem reached_any (f a n : Int) (w : World) : Calls Tryz.prog 292 #[.int .i64 n, .int .i64 f, .int .i64 a] w fun e w' => e = .returned (.bool (dueB f a n)) ∧ w = w' := by
  cases hf : tickB f with
  | false =>
    rw [dueB_no1 hf]
    cases hn : tickB n <;>
    · go_enter Tryz.func292, Tryz.ntmps292
      go_wp2_with (first | (go_at_call 233; refine (ok_any _ _).mono ?_; rintro e w' ⟨rfl, rfl⟩) | (go_at_call 277; refine (plus_any _ _ _).mono ?_; rintro e w' ⟨rfl, rfl⟩))
      go_ret
      exact ⟨rfl, rfl⟩
  | true =>
    cases ha : tickB a with
    | false =>
      rw [dueB_no2 ha]
      cases hn : tickB n <;>
      · go_enter Tryz.func292, Tryz.ntmps292
        go_wp2_with (first | (go_at_call 233; refine (ok_any _ _).mono ?_; rintro e w' ⟨rfl, rfl⟩) | (go_at_call 277; refine (plus_any _ _ _).mono ?_; rintro e w' ⟨rfl, rfl⟩))
        go_ret
        exact ⟨rfl, rfl⟩
    | true =>
      have hb := tickB_bd ha
      cases hn : tickB n with
      | false =>
        rw [dueB_no3 hn]
        go_enter Tryz.func292, Tryz.ntmps292
        go_wp2_with (first | (go_at_call 233; refine (ok_any _ _).mono ?_; rintro e w' ⟨rfl, rfl⟩) | (go_at_call 277; refine (plus_any _ _ _).mono ?_; rintro e w' ⟨rfl, rfl⟩))
        go_ret
        exact ⟨rfl, rfl⟩
      | true =>
        by_cases h0 : 0 < a
        · have ha0 : (a == 0) = false := by simp; omega
          rw [dueB_eq hf ha hn h0]
          go_enter Tryz.func292, Tryz.ntmps292
          go_wp2_with (first | (go_at_call 233; refine (ok_any _ _).mono ?_; rintro e w' ⟨rfl, rfl⟩) | (go_at_call 277; refine (plus_any _ _ _).mono ?_; rintro e w' ⟨rfl, rfl⟩))
          go_ret
          exact ⟨rfl, rfl⟩
        · rw [dueB_no4 h0]
          have ha0 : a = 0 := by omega
          subst ha0
          go_enter Tryz.func292, Tryz.ntmps292
          go_wp2_with (first | (go_at_call 233; refine (ok_any _ _).mono ?_; rintro e w' ⟨rfl, rfl⟩) | (go_at_call 277; refine (plus_any _ _ _).mono ?_; rintro e w' ⟨rfl, rfl⟩))
          go_ret
          exact ⟨rfl, rfl⟩
theorem implDue_any (f a n : Int) (w : World) : Calls Tryz.prog 279 #[.int .i64 f, .int .i64 a, .int .i64 n] w fun e w' => e = .returned (.bool (dueB f a n)) ∧ w = w' := by
  go_enter Tryz.func279, Tryz.ntmps279
  go_wp2_with (go_at_call 292; refine (reached_any _ _ _ _).mono ?_; rintro e w' ⟨rfl, rfl⟩)
  go_ret
  exact ⟨rfl, rfl⟩

end Go.Proofs.YtnfhlfbkdhpacaaGreatDoor

/- Plain: a source of chapter 4 and what is done to it. No program. -/
namespace Go.Proofs.YtnfhlfbkdhpacaaGreatDoor

/-- A source: the latest time seen (x), its mark (m), when something came from it last (s), idle (i), open (o). -/
structure Src where
  x : Int
  m : Int
  s : Int
  i : Bool
  o : Bool

def isMk (t : Int) : Bool := inB t (-1) 1000000
def isTm (t : Int) : Bool := inB t 0 1000000
def sOk (S : Src) : Bool := isMk S.x && (isMk S.m && tickB S.s)
theorem sOk_bd {S : Src} (h : sOk S = true) : -1 ≤ S.x ∧ S.x ≤ 1000000 ∧ -1 ≤ S.m ∧ S.m ≤ 1000000 ∧ 0 ≤ S.s ∧ S.s ≤ 1000000000 := by
  simp only [sOk, isMk, Bool.and_eq_true] at h
  obtain ⟨h1, h2, h3⟩ := h
  have := inB_bd h1
  have := inB_bd h2
  have := tickB_bd h3
  omega
/-- It may be heard at 'now'. -/
def hearB (S : Src) (now : Int) : Bool := sOk S && (S.o && inB now S.s 1000000000)
def evOk (S : Src) (late t now : Int) : Bool := hearB S now && (isTm late && isTm t)
def mkOk (S : Src) (t now : Int) : Bool := hearB S now && isTm t
def ttOk (S : Src) (after now : Int) : Bool := sOk S && ((S.o && !S.i) && dueB S.s after now)
def clOk (S : Src) : Bool := sOk S && S.o
def evT (S : Src) (late t now : Int) : Src := if evOk S late t now = true then ⟨max S.x t, max S.m (max S.x t - late - 1), now, false, S.o⟩ else S
def mkT (S : Src) (t now : Int) : Src := if mkOk S t now = true then ⟨S.x, max S.m t, now, false, S.o⟩ else S
def ttT (S : Src) (after now : Int) : Src := if ttOk S after now = true then ⟨S.x, S.m, S.s, true, S.o⟩ else S
def clT (S : Src) : Src := if clOk S = true then ⟨S.x, S.m, S.s, false, false⟩ else S
def newT (now : Int) : Src := if tickB now = true then ⟨-1, -1, now, false, true⟩ else ⟨0, 0, 0, false, false⟩
theorem evT_no {S : Src} {late t now : Int} (h : evOk S late t now = false) : evT S late t now = S := by simp [evT, h]
theorem evT_yes {S : Src} {late t now : Int} (h : evOk S late t now = true) : evT S late t now = ⟨max S.x t, max S.m (max S.x t - late - 1), now, false, S.o⟩ := by simp [evT, h]
theorem mkT_no {S : Src} {t now : Int} (h : mkOk S t now = false) : mkT S t now = S := by simp [mkT, h]
theorem mkT_yes {S : Src} {t now : Int} (h : mkOk S t now = true) : mkT S t now = ⟨S.x, max S.m t, now, false, S.o⟩ := by simp [mkT, h]
theorem ttT_no {S : Src} {a now : Int} (h : ttOk S a now = false) : ttT S a now = S := by simp [ttT, h]
theorem ttT_yes {S : Src} {a now : Int} (h : ttOk S a now = true) : ttT S a now = ⟨S.x, S.m, S.s, true, S.o⟩ := by simp [ttT, h]
theorem clT_no {S : Src} (h : clOk S = false) : clT S = S := by simp [clT, h]
theorem clT_yes {S : Src} (h : clOk S = true) : clT S = ⟨S.x, S.m, S.s, false, false⟩ := by simp [clT, h]
theorem dueB_bd {f a n : Int} (h : dueB f a n = true) : tickB f = true ∧ tickB a = true ∧ tickB n = true := by
  refine ⟨?_, ?_, ?_⟩
  · cases k : tickB f with
    | false => rw [dueB_no1 k] at h; cases h
    | true => rfl
  · cases k : tickB a with
    | false => rw [dueB_no2 k] at h; cases h
    | true => rfl
  · cases k : tickB n with
    | false => rw [dueB_no3 k] at h; cases h
    | true => rfl
end Go.Proofs.YtnfhlfbkdhpacaaGreatDoor

/- Plain facts on memory: a slice of numbers that reads as a list (Nums), rows of the call's own (ownsRow) and how both are carried from world to world. No program. -/
namespace Go.Proofs.YtnfhlfbkdhpacaaGreatDoor
open Go.RowKit

def IsB (xs : List Int) : Prop := ∀ x ∈ xs, 0 ≤ x ∧ x ≤ 255
theorem el_bd {xs : List Int} (h : IsB xs) (i : Nat) : 0 ≤ el xs i ∧ el xs i ≤ 255 := by
  unfold el
  by_cases hi : i < xs.length
  · have e : xs.getD i 0 = xs[i] := by simp [List.getD, hi]
    rw [e]; exact h _ (List.getElem_mem hi)
  · have e : xs.getD i 0 = 0 := by simp [List.getD, Nat.le_of_not_lt hi]
    rw [e]; omega
theorem IsB.append {xs ys : List Int} (h : IsB xs) (k : IsB ys) : IsB (xs ++ ys) := fun x hx => by
  rcases List.mem_append.1 hx with hx | hx
  · exact h x hx
  · exact k x hx
theorem IsB.take {xs : List Int} (h : IsB xs) (n : Nat) : IsB (xs.take n) := fun x hx => h x (List.mem_of_mem_take hx)
theorem IsB.drop {xs : List Int} (h : IsB xs) (n : Nat) : IsB (xs.drop n) := fun x hx => h x (List.mem_of_mem_drop hx)
theorem IsB.nil : IsB [] := fun _ h => absurd h (by simp)
theorem IsB.one {x : Int} (h0 : 0 ≤ x) (h1 : x ≤ 255) : IsB [x] := fun y hy => by simp at hy; subst hy; exact ⟨h0, h1⟩
theorem el_take (xs : List Int) (k : Nat) (hk : k < xs.length) : xs.take (k + 1) = xs.take k ++ [el xs k] := by
  rw [List.take_succ_eq_append_getElem hk]; simp [el, List.getD, hk]
theorem el_cell (k : IntKind) (xs : List Int) (i : Nat) (hi : i < xs.length) : (xs.map (Value.int k))[i]? = some (.int k (el xs i)) := by
  simp [el, List.getD, hi]

/-- A slice of numbers of kind k, at or behind which nothing of interest lies from block hi on, reads as xs. -/
structure Nums (k : IntKind) (w : World) (hi : Nat) (a : Option Addr) (c : Nat) (xs : List Int) : Prop where
  cap : xs.length ≤ c
  big : c ≤ 9223372036854775807
  lies : xs = [] ∨ ∃ b off, a = some ⟨b, off, none⟩ ∧ b < hi ∧ ∀ i, i < xs.length → w.cell? ⟨b, off + i, none⟩ = some (.int k (el xs i))

section
variable {k : IntKind} {w w' : World} {hi hi' : Nat} {a : Option Addr} {c : Nat} {xs : List Int}
theorem Nums.below (h : Nums k w hi a c xs) (hb : Below hi w w') : Nums k w' hi a c xs :=
  ⟨h.cap, h.big, h.lies.imp id fun ⟨b, off, ha, hlt, hc⟩ => ⟨b, off, ha, hlt, fun i hi' => (hb.cell (p := ⟨b, off + i, none⟩) hlt).trans (hc i hi')⟩⟩
theorem Nums.more (h : Nums k w hi a c xs) (hh : hi ≤ hi') : Nums k w hi' a c xs :=
  ⟨h.cap, h.big, h.lies.imp id fun ⟨b, off, ha, hlt, hc⟩ => ⟨b, off, ha, Nat.lt_of_lt_of_le hlt hh, hc⟩⟩
theorem Nums.grown (h : Nums k w hi a c xs) (hh : hi ≤ w.heap.size) {row : Option Nat} (hg : w.grownBy w' row) (hr : ∀ g, row = some g → hi ≤ g) : Nums k w' hi a c xs :=
  ⟨h.cap, h.big, h.lies.imp id fun ⟨b, off, ha, hlt, hc⟩ => ⟨b, off, ha, hlt, fun i hi' => (World.cell?_of_block (a := ⟨b, off + i, none⟩) (hg.block b (by omega) (fun e => by have := hr _ e.symm; omega))).trans (hc i hi')⟩⟩
theorem Nums.none_ (k : IntKind) (w : World) (hi : Nat) : Nums k w hi none 0 [] := ⟨Nat.le_refl _, by omega, .inl rfl⟩
/-- The slice from m on. -/
theorem Nums.drop (h : Nums k w hi a c xs) (m : Nat) (hm : m ≤ xs.length) : Nums k w hi (if c = m then a else a.map (·.add (m * 1))) (c - m) (xs.drop m) := by
  have hcap := h.cap
  refine ⟨by simp; omega, by have := h.big; omega, ?_⟩
  by_cases he : xs.drop m = []
  · exact .inl he
  · have hlt : m < xs.length := by
      rcases Nat.lt_or_ge m xs.length with h | h
      · exact h
      · exact absurd (List.drop_eq_nil_iff.2 h) he
    rcases h.lies with h0 | ⟨b, off, rfl, hlt', hc⟩
    · subst h0; simp at hlt
    · refine .inr ⟨b, off + m, ?_, hlt', fun i hi' => ?_⟩
      · rw [if_neg (by omega)]
        simp only [Option.map, Addr.add, Nat.mul_one]
        by_cases h0 : m = 0
        · subst h0; simp
        · simp [h0]
      · have e : el (xs.drop m) i = el xs (m + i) := by simp [el, List.getD]
        rw [e, Nat.add_assoc]
        exact hc _ (by simp at hi'; omega)
/-- The slice up to m (its capacity may shrink to c'). -/
theorem Nums.take (h : Nums k w hi a c xs) (m c' : Nat) (hm : m ≤ xs.length) (hc' : m ≤ c') (hcc : c' ≤ c) : Nums k w hi a c' (xs.take m) := by
  refine ⟨by simp; omega, by have := h.big; omega, ?_⟩
  rcases h.lies with h0 | ⟨b, off, rfl, hlt', hc⟩
  · subst h0; exact .inl (by simp)
  · refine .inr ⟨b, off, rfl, hlt', fun i hi' => ?_⟩
    have hi2 : i < m := by simp at hi'; omega
    have e : el (xs.take m) i = el xs i := by simp [el, List.getD, hi2]
    rw [e]
    exact hc _ (by omega)
end

theorem grown_setCell (w : World) (p o : Nat) (v : Value) : w.grownBy (w.setCell ⟨p, o, none⟩ v) (some p) :=
  ⟨rfl, rfl, rfl, by simp, fun k _ hne => Below.heap_setCell _ _ _ _ (fun e => hne (by rw [e]))⟩
theorem grown_drewN (w : World) (n : Nat) (row : Option Nat) : w.grownBy (w.drewN n) row := ⟨rfl, rfl, rfl, Nat.le_refl _, fun _ _ _ => rfl⟩
theorem grown_trans {a b c : World} {row : Option Nat} (h : a.grownBy b row) (k : b.grownBy c row) : a.grownBy c row :=
  ⟨k.os.trans h.os, k.tape.trans h.tape, k.output.trans h.output, Nat.le_trans h.size k.size, fun i hi hne => (k.block i (Nat.lt_of_lt_of_le hi h.size) hne).trans (h.block i hi hne)⟩
theorem grown_alloc (w : World) (o : Obj) (row : Option Nat) : w.grownBy (w.alloc o) row := World.grownBy_alloc w o row
/-- A row of the call's own from lo on has grown. -/
theorem below_own {w w' : World} {lo : Nat} {T : TypeId} {sz n : Nat} {v : Value} {xs : List Value} (h : w.ownsRow lo T sz v n xs) (hg : w.grownBy w' v.ownBlock) (hlo : lo ≤ w.heap.size) : Below lo w w' :=
  ⟨hg.os, hg.tape, hg.output, hg.size, fun k hk => hg.block k (by omega) (fun e => by have := (h.lt k e.symm).1; omega)⟩
theorem grown_below {w w' : World} (h : Below w.heap.size w w') : w.grownBy w' none := ⟨h.os, h.tape, h.output, h.size, fun k hk _ => h.block k hk⟩
theorem below_grown {w w' : World} (h : w.grownBy w' none) : Below w.heap.size w w' := ⟨h.os, h.tape, h.output, h.size, fun k hk => h.block k hk (by simp)⟩
theorem below_grown_own {w w' : World} {B p : Nat} (h : w.grownBy w' (some p)) (hp : B ≤ p) (hB : B ≤ w.heap.size) : Below B w w' := ⟨h.os, h.tape, h.output, h.size, fun k hk => h.block k (by omega) (fun e => by injection e with e; omega)⟩

section
variable {w w' : World} {lo lo' : Nat} {T : TypeId} {sz : Nat} {v : Value} {n : Nat} {xs : List Value}
theorem owns_below (h : w.ownsRow lo T sz v n xs) (hb : Below w.heap.size w w') : w'.ownsRow lo T sz v n xs := h.kept (grown_below hb) (by cases hv : v.ownBlock <;> simp)
theorem owns_less (h : w.ownsRow lo T sz v n xs) (hl : lo' ≤ lo) : w.ownsRow lo' T sz v n xs :=
  ⟨h.1, h.2.imp id fun ⟨g, cap, cur, hv, hb, r⟩ => ⟨g, cap, cur, hv, by omega, r⟩⟩
theorem owns_drewN (h : w.ownsRow lo T sz v n xs) (m : Nat) : (w.drewN m).ownsRow lo T sz v n xs := h
/-- Its shape. -/
theorem owns_shape (h : w.ownsRow lo T sz v n xs) : ∃ a c, v = .slice a n c := by
  rcases h.2 with ⟨rfl, rfl⟩ | ⟨g, cap, cur, rfl, _⟩
  · exact ⟨_, _, rfl⟩
  · exact ⟨_, _, rfl⟩
end

/-- A row of one number, just built. -/
theorem own_one (W : World) (T : TypeId) (k : IntKind) (x : Int) (b lo : Nat) (hb : b = W.heap.size) (hlo : lo ≤ b) : (W.alloc (.cells #[.int k x] T)).ownsRow lo T 1 (.slice (some ⟨b, 0, none⟩) 1 1) 1 ([x].map (Value.int k)) := by
  subst hb
  exact World.ownsRow_lit (e := T) (size := 1) W #[.int k x] 1 hlo (by unfold maxLen; omega) (by simp)
/-- A row of the call's own reads as its list. -/
theorem Nums.of_own {k : IntKind} {w : World} {lo : Nat} {T : TypeId} {a : Option Addr} {n c : Nat} {xs : List Int} (h : w.ownsRow lo T 1 (.slice a n c) n (xs.map (Value.int k))) : n = xs.length ∧ Nums k w w.heap.size a c xs := by
  have hn : n = xs.length := by simpa using h.1.symm
  refine ⟨hn, ?_⟩
  subst hn
  rcases h.2 with ⟨hv, h0⟩ | ⟨g, cap, cur, hv, hlo, hh, hnc, hcm, hcs, htake⟩
  · simp only [Value.slice.injEq] at hv
    obtain ⟨rfl, hl, rfl⟩ := hv
    have : xs = [] := List.length_eq_zero_iff.1 hl
    subst this
    exact Nums.none_ _ _ _
  · simp only [Value.slice.injEq, true_and] at hv
    obtain ⟨rfl, rfl⟩ := hv
    unfold maxLen at hcm
    refine ⟨hnc, by omega, .inr ⟨g, 0, rfl, (Array.getElem?_eq_some_iff.1 hh).1, fun i hi => ?_⟩⟩
    rw [Nat.zero_add, h.cellAt i (by omega)]
    exact el_cell _ _ _ hi

/-- A call that hands back a new row of numbers: its memory is the call's own, of what was there nothing has turned. -/
def FreshNums (T : TypeId) (k : IntKind) (xs : List Int) (w : World) (e : Ending) (w' : World) : Prop :=
  ∃ a c, e = .returned (.slice a xs.length c) ∧ w'.ownsRow w.heap.size T 1 (.slice a xs.length c) xs.length (xs.map (Value.int k)) ∧ Below w.heap.size w w'

/-- A call that hands back a row of its own from block lo on; below lo nothing has turned. -/
def OwnNums (T : TypeId) (k : IntKind) (lo : Nat) (xs : List Int) (w : World) (e : Ending) (w' : World) : Prop :=
  ∃ a c, e = .returned (.slice a xs.length c) ∧ w'.ownsRow lo T 1 (.slice a xs.length c) xs.length (xs.map (Value.int k)) ∧ Below lo w w'
theorem OwnNums.fresh {T : TypeId} {k : IntKind} {xs : List Int} {w w' : World} {e : Ending} (h : OwnNums T k w.heap.size xs w e w') : FreshNums T k xs w e w' := h
theorem fresh_as {T : TypeId} {k : IntKind} {xs : List Int} {w w' : World} {a : Option Addr} {n m c : Nat} (h : FreshNums T k xs w (.returned (.slice a n c)) w') (hm : n = m) : FreshNums T k xs w (.returned (.slice a m c)) w' := hm ▸ h
theorem map_snoc (k : IntKind) (xs : List Int) (x : Int) : (xs ++ [x]).map (Value.int k) = xs.map (Value.int k) ++ [.int k x] := by simp

/-- The marks that a caller writes. -/
def marks (m : Nat) (n : Nat) : List Int := (List.range n).map fun i : Nat => ((m : Int) + (i : Int)) % 256
theorem marks_len (m n : Nat) : (marks m n).length = n := by simp [marks]
theorem marks_el (m n i : Nat) (hi : i < n) : el (marks m n) i = ((m : Int) + (i : Int)) % 256 := by simp [marks, el, List.getD, hi]
theorem marks_isB (m n : Nat) : IsB (marks m n) := fun x hx => by
  simp only [marks, List.mem_map] at hx
  obtain ⟨i, _, rfl⟩ := hx
  omega
/-- The row behind k marks. -/
def markTo (m : Nat) (xs : List Int) (j : Nat) : List Int := (marks m j) ++ xs.drop j
theorem markTo_zero (m : Nat) (xs : List Int) : markTo m xs 0 = xs := by simp [markTo, marks]
theorem markTo_len (m : Nat) (xs : List Int) (j : Nat) (hj : j ≤ xs.length) : (markTo m xs j).length = xs.length := by simp [markTo, marks_len]; omega
theorem markTo_all (m : Nat) (xs : List Int) : markTo m xs xs.length = marks m xs.length := by simp [markTo]
theorem markTo_step (m : Nat) (xs : List Int) (j : Nat) (hj : j < xs.length) : (markTo m xs j).set j (((m : Int) + (j : Int)) % 256) = markTo m xs (j + 1) := by
  unfold markTo
  rw [List.set_append_right _ _ (by rw [marks_len]; exact Nat.le_refl _), marks_len, Nat.sub_self]
  rw [List.drop_eq_getElem_cons hj, List.set_cons_zero]
  simp [marks, List.range_succ]
theorem markTo_here (m : Nat) (xs : List Int) (j : Nat) : el (markTo m xs j) j = el xs j := by
  unfold markTo el
  rw [List.getD_eq_getElem?_getD, List.getElem?_append_right (by rw [marks_len]; exact Nat.le_refl _), marks_len, Nat.sub_self]
  simp [List.getD]

theorem ret_int {k : IntKind} {a b : Int} (h : a = b) : Ending.returned (.int k a) = .returned (.int k b) := by rw [h]
theorem below_next {a b c : World} (h : Below a.heap.size a b) (k : Below b.heap.size b c) : Below a.heap.size a c := h.trans (k.mono h.size)

/-- A block that is known whole. -/
def Blk (w : World) (g : Nat) (t : TypeId) (cs : Array Value) : Prop := w.heap[g]? = some (.cells cs t (0, 0))
section
variable {w w' : World} {g : Nat} {t : TypeId} {cs : Array Value}
theorem Blk.lt (h : Blk w g t cs) : g < w.heap.size := (Array.getElem?_eq_some_iff.1 h).1
theorem Blk.cell (h : Blk w g t cs) (i : Nat) : w.cell? ⟨g, i, none⟩ = cs[i]? := cell_of_row w g i cs t (0, 0) h
theorem Blk.frozen (h : Blk w g t cs) (i : Nat) : w.frozen? ⟨g, i, none⟩ = false := frozen_of_row w g i cs t h
theorem Blk.new (w : World) (t : TypeId) (cs : Array Value) : Blk (w.alloc (.cells cs t)) w.heap.size t cs := heap_alloc_new w _
theorem Blk.below (h : Blk w g t cs) (hb : Below w.heap.size w w') : Blk w' g t cs := (hb.block g h.lt).trans h
theorem Blk.belowB {B : Nat} (h : Blk w g t cs) (hb : Below B w w') (hg : g < B) : Blk w' g t cs := (hb.block g hg).trans h
theorem Blk.grown (h : Blk w g t cs) {row : Option Nat} (hb : w.grownBy w' row) (hg : some g ≠ row) : Blk w' g t cs := (hb.block g h.lt hg).trans h
theorem Blk.drew (h : Blk w g t cs) : Blk w.drew g t cs := h
theorem Blk.alloc (h : Blk w g t cs) (o : Obj) : Blk (w.alloc o) g t cs := (Below.heap_alloc w o g h.lt).trans h
end

/-- The cells of a copy behind j rounds, of whatever kind. -/
def partK (k : IntKind) (xs : List Int) (j : Nat) : Array Value := ((xs.take j).map (Value.int k) ++ List.replicate (xs.length - j) (Value.int k 0)).toArray
def fullK (k : IntKind) (xs : List Int) : Array Value := (xs.map (Value.int k)).toArray
theorem partK_size (k : IntKind) (xs : List Int) (j : Nat) (hj : j ≤ xs.length) : (partK k xs j).size = xs.length := by
  simp only [partK, List.size_toArray, List.length_append, List.length_map, List.length_take, List.length_replicate]; omega
theorem partK_full (k : IntKind) (xs : List Int) : partK k xs xs.length = fullK k xs := by simp [partK, fullK]
theorem partK_zero (k : IntKind) (xs : List Int) : madeCells #[Value.int k 0] xs.length = partK k xs 0 := by
  apply Array.ext
  · rw [size_madeCells, partK_size _ _ _ (Nat.zero_le _)]
  · intro i h1 h2
    simp [madeCells, partK]
    rw [Nat.mod_one]
    rfl
theorem partK_here (k : IntKind) (xs : List Int) (j : Nat) (hj : j < xs.length) : (partK k xs j)[j]? = some (.int k 0) := by
  simp only [partK, List.getElem?_toArray]
  rw [List.getElem?_append_right (by simp; omega)]
  simp only [List.length_map, List.length_take]
  rw [List.getElem?_replicate, if_pos (by omega)]
theorem partK_step (k : IntKind) (xs : List Int) (j : Nat) (hj : j < xs.length) : (partK k xs j).setIfInBounds j (.int k (el xs j)) = partK k xs (j + 1) := by
  apply Array.ext_getElem?
  intro i
  rw [Array.getElem?_setIfInBounds, partK_size _ _ _ (by omega)]
  simp only [partK, List.getElem?_toArray]
  by_cases h : j = i
  · subst h
    rw [if_pos rfl, if_pos hj, List.getElem?_append_left (by simp; omega)]
    simp [el, List.getD, hj]
  · rw [if_neg h]
    by_cases h2 : i < j
    · rw [List.getElem?_append_left (by simp; omega), List.getElem?_append_left (by simp; omega)]
      simp only [List.getElem?_map, List.getElem?_take]
      rw [if_pos h2, if_pos (by omega)]
    · rw [List.getElem?_append_right (by simp; omega), List.getElem?_append_right (by simp; omega)]
      simp only [List.length_map, List.length_take, List.getElem?_replicate]
      by_cases h3 : i < xs.length
      · rw [if_pos (by omega), if_pos (by omega)]
      · rw [if_neg (by omega), if_neg (by omega)]
/-- A copy just made. -/
theorem fresh_copy (T : TypeId) (k : IntKind) (xs : List Int) (w : World) (hm : xs.length ≤ maxLen) :
    FreshNums T k xs w (.returned (.slice (some ⟨w.heap.size, 0, none⟩) xs.length xs.length)) (w.alloc (.cells (fullK k xs) T)) :=
  ⟨_, _, rfl, by have := World.ownsRow_lit (e := T) (size := 1) (base := w.heap.size) w (fullK k xs) xs.length (Nat.le_refl _) hm (by simp [fullK]); simpa [fullK] using this, (Below.refl _ _).alloc (Nat.le_refl _) _⟩

end Go.Proofs.YtnfhlfbkdhpacaaGreatDoor

/- What the laws' walks import beside the contracts. -/
namespace Go.Proofs.YtnfhlfbkdhpacaaGreatDoor
open Go.RowKit
theorem size_drew_ (w : World) : w.drew.heap.size = w.heap.size := rfl
end Go.Proofs.YtnfhlfbkdhpacaaGreatDoor

/- Plain: what a frame is, no program. -/
namespace Go.Proofs.YtnfhlfbkdhpacaaGreatDoor

def fOk (k y t v : Int) : Bool := (k == 1 && inB y 0 65535 && inB t 0 1000000 && inB v (-1000000) 1000000) || (k == 2 && y == 0 && inB t 0 1000000 && v == 0) || (k == 3 && y == 0 && t == 0 && v == 0)
theorem fOk_event (y t v : Int) : fOk 1 y t v = (inB y 0 65535 && inB t 0 1000000 && inB v (-1000000) 1000000) := by simp [fOk]
theorem fOk_mark (y t v : Int) : fOk 2 y t v = (y == 0 && inB t 0 1000000 && v == 0) := by simp [fOk]
theorem fOk_bye (y t v : Int) : fOk 3 y t v = (y == 0 && t == 0 && v == 0) := by simp [fOk]
theorem fOk_none {k : Int} (y t v : Int) (h1 : (k == 1) = false) (h2 : (k == 2) = false) (h3 : (k == 3) = false) : fOk k y t v = false := by simp [fOk, h1, h2, h3]

end Go.Proofs.YtnfhlfbkdhpacaaGreatDoor

/- What a number or a bool is as an argument, out of its reading; addresses. -/
namespace Go.Proofs.YtnfhlfbkdhpacaaGreatDoor
open Go.ChangeShapes Go.WideShapes Go.ChangeAt Go.RowKit Go.Joins Go.Deep

theorem i64_wf {n : Int} (h : (Lit.int .i64 n).wf = true) : -9223372036854775808 ≤ n ∧ n ≤ 9223372036854775807 := by simpa [Lit.wf, IntKind.min, IntKind.max, IntKind.signed, IntKind.bits] using h
def Is64 (x : Int) : Prop := -9223372036854775808 ≤ x ∧ x ≤ 9223372036854775807
set_option maxRecDepth 100000 in
theorem arg_int {H : Type} {enc : TypeId × Value → H} {W : World} {base : Nat} {v : Value} {d : DataW H} {p : List MemPlace} (hv : Value.okWide Tryz.prog W .any base 3 v)
    (h : DataW.Trod enc Tryz.prog W 0 (fun _ => true) true 3 v d p) : ∃ x : Int, v = .int .i64 x ∧ Is64 x := by
  obtain ⟨x, hx, _, _, hw⟩ := open_int Tryz.underlying3 hv h
  exact ⟨x, hx, i64_wf hw⟩
set_option maxRecDepth 100000 in
theorem arg_bool {H : Type} {enc : TypeId × Value → H} {W : World} {base : Nat} {v : Value} {d : DataW H} {p : List MemPlace} (hv : Value.okWide Tryz.prog W .any base 4 v)
    (h : DataW.Trod enc Tryz.prog W 0 (fun _ => true) true 4 v d p) : ∃ x : Bool, v = .bool x := by
  obtain ⟨x, hx, _⟩ := open_bool Tryz.underlying4 hv h
  exact ⟨x, hx⟩
theorem addr_add_ {b off i : Nat} : (⟨b, off, none⟩ : Addr).add i = ⟨b, off + i, none⟩ := by
  by_cases h0 : i = 0
  · subst h0; rfl
  · simp [Addr.add, h0]
theorem addr_add_any {ad : Addr} (hs : ad.spot = none) (i : Nat) : ad.add i = ⟨ad.block, ad.off + i, none⟩ := by
  obtain ⟨b, off, spot⟩ := ad
  simp only at hs
  subst hs
  exact addr_add_
end Go.Proofs.YtnfhlfbkdhpacaaGreatDoor

/- The laws' own helpers over one source, alone: a source copied, two compared. -/
namespace Go.Proofs.YtnfhlfbkdhpacaaGreatDoor
open Go.RowKit

theorem toSource_y (x m s : Int) (i o : Bool) (w : World) : Calls Tryz.prog 144 #[(.agg #[.int .i64 x, .int .i64 m, .int .i64 s, .bool i, .bool o])] w fun e w' => e = .returned (.agg #[.int .i64 x, .int .i64 m, .int .i64 s, .bool i, .bool o]) ∧ Below w.heap.size w w' := by
  have BB := Lib.hid fun a b c d e : Value => ((((Below.refl w.heap.size w).alloc (Nat.le_refl _) (.cells #[.int .i64 x, .int .i64 m, .int .i64 s, .bool i, .bool o] 116)).alloc (by simp) (.cells #[.int .i64 x, .int .i64 m, .int .i64 s, .bool i, .bool o] 93)).alloc (by simp; omega) (.cells #[a, b, c, d, e] 93))
  go_enter Tryz.func144, Tryz.ntmps144
  go_wp2
  exact bodyPost_ret (v := (.agg #[.int .i64 x, .int .i64 m, .int .i64 s, .bool i, .bool o])) (by simp [results, Tryz.results144, go_sem]) rfl ⟨rfl, BB.out _ _ _ _ _⟩
theorem eqSource_y (x m s : Int) (i o : Bool) (w : World) : Calls Tryz.prog 152 #[(.agg #[.int .i64 x, .int .i64 m, .int .i64 s, .bool i, .bool o]), (.agg #[.int .i64 x, .int .i64 m, .int .i64 s, .bool i, .bool o])] w fun e w' => e = .returned (.bool true) ∧ Below w.heap.size w w' := by
  have BB := Lib.hid (((Below.refl w.heap.size w).alloc (Nat.le_refl _) (.cells #[.int .i64 x, .int .i64 m, .int .i64 s, .bool i, .bool o] 93)).alloc (by simp) (.cells #[.int .i64 x, .int .i64 m, .int .i64 s, .bool i, .bool o] 93))
  have hi : (i != i) = false := by simp
  have ho : (o != o) = false := by simp
  have hx : (x != x) = false := by simp
  have hm : (m != m) = false := by simp
  have hs : (s != s) = false := by simp
  go_enter Tryz.func152, Tryz.ntmps152
  go_wp2
  go_ret
  exact ⟨rfl, BB.out⟩
end Go.Proofs.YtnfhlfbkdhpacaaGreatDoor

/- Rows of the call's own with the bounds between which their blocks lie; how they are carried. No program. -/
namespace Go.Proofs.YtnfhlfbkdhpacaaGreatDoor
open Go.RowKit

/-- A row of the call's own whose block, where it has one, lies in lo .. up - 1. -/
structure Rw (T : TypeId) (sz lo up : Nat) (a : Option Addr) (n c : Nat) (xs : List Value) (w : World) : Prop where
  own : w.ownsRow lo T sz (.slice a n c) n xs
  up : ∀ k, (Value.slice a n c).ownBlock = some k → k < up

section
variable {T : TypeId} {sz lo up n c : Nat} {a : Option Addr} {xs : List Value} {w w' : World}
theorem Rw.new (h : w.ownsRow lo T sz (.slice a n c) n xs) : Rw T sz lo w.heap.size a n c xs w := ⟨h, fun k hk => (h.lt k hk).2⟩
theorem Rw.below {B : Nat} (h : Rw T sz lo up a n c xs w) (hb : Below B w w') (hB : up ≤ B) : Rw T sz lo up a n c xs w' := by
  refine ⟨⟨h.own.1, ?_⟩, h.up⟩
  rcases h.own.2 with h2 | ⟨g, cap, cur, hv, hg, hh, r⟩
  · exact .inl h2
  · have hk := h.up g (by rw [hv]; rfl)
    exact .inr ⟨g, cap, cur, hv, hg, by rw [hb.block g (by omega)]; exact hh, r⟩
/-- It stays where a row of other blocks is written. -/
theorem Rw.other {T1 : TypeId} {sz1 lo1 up1 n1 c1 : Nat} {a1 : Option Addr} {ys : List Value} {w1 : World} (h : Rw T sz lo up a n c xs w) (h1 : Rw T1 sz1 lo1 up1 a1 n1 c1 ys w1) (hg : w.grownBy w' (Value.slice a1 n1 c1).ownBlock) (hd : up ≤ lo1 ∨ up1 ≤ lo) : Rw T sz lo up a n c xs w' := by
  refine ⟨h.own.kept hg ?_, h.up⟩
  by_cases hv : (Value.slice a n c).ownBlock = none
  · exact .inl hv
  · refine .inr fun e => ?_
    obtain ⟨k, hk⟩ := Option.ne_none_iff_exists'.1 hv
    have h2 := (h.own.lt k hk).1
    have h3 := h.up k hk
    have h4 := (h1.own.lt k (by rw [← e, hk])).1
    have h5 := h1.up k (by rw [← e, hk])
    omega
theorem Rw.nums {k : IntKind} {ys : List Int} (h : Rw T 1 lo up a n c (ys.map (Value.int k)) w) : Nums k w w.heap.size a c ys := (Nums.of_own h.own).2
theorem Rw.len {k : IntKind} {ys : List Int} (h : Rw T 1 lo up a n c (ys.map (Value.int k)) w) : n = ys.length := (Nums.of_own h.own).1
theorem Blk.far {g : Nat} {t : TypeId} {cs : Array Value} {T1 : TypeId} {sz1 lo1 up1 n1 c1 : Nat} {a1 : Option Addr} {ys : List Value} {w1 : World} (h : Blk w g t cs) (h1 : Rw T1 sz1 lo1 up1 a1 n1 c1 ys w1) (hg : w.grownBy w' (Value.slice a1 n1 c1).ownBlock) (hd : g < lo1 ∨ up1 ≤ g) : Blk w' g t cs :=
  h.grown hg fun e => by
    have h4 := (h1.own.lt g e.symm).1
    have h5 := h1.up g e.symm
    omega
end

end Go.Proofs.YtnfhlfbkdhpacaaGreatDoor

/- Plain: a number in so many bytes, the greatest first. No program. -/
namespace Go.Proofs.YtnfhlfbkdhpacaaGreatDoor

def wide : Nat → Int → List Int
  | 0, _ => []
  | n + 1, x => (x / ((256 ^ n : Nat) : Int) % 256) :: wide n x
theorem wide_len (n : Nat) (x : Int) : (wide n x).length = n := by induction n with | zero => rfl | succ n ih => simp [wide, ih]
theorem wide_isB (n : Nat) (x : Int) : IsB (wide n x) := by
  induction n with
  | zero => exact IsB.nil
  | succ n ih =>
    intro y hy
    simp only [wide, List.mem_cons] at hy
    rcases hy with rfl | hy
    · omega
    · exact ih y hy

theorem wide_drop (n : Nat) (x : Int) (j : Nat) (hj : j ≤ n) : (wide n x).drop j = wide (n - j) x := by
  induction j generalizing n with
  | zero => rfl
  | succ j ih =>
    obtain ⟨m, rfl⟩ : ∃ m, n = m + 1 := ⟨n - 1, by omega⟩
    simp only [wide, List.drop_succ_cons, Nat.add_sub_add_right]
    exact ih m (by omega)
/-- One byte more: i of them are still to come. -/
theorem wide_take (x : Int) (j i : Nat) : (wide (j + (i + 1)) x).take (j + 1) = (wide (j + (i + 1)) x).take j ++ [x / ((256 ^ i : Nat) : Int) % 256] := by
  rw [List.take_add_one]
  congr 1
  have h : (wide (j + (i + 1)) x)[j]? = ((wide (j + (i + 1)) x).drop j)[0]? := by simp
  rw [h, wide_drop _ _ _ (by omega), show j + (i + 1) - j = i + 1 from by omega]
  rfl
theorem wide_take0 (x : Int) (j : Nat) : (wide (j + 1) x).take (j + 1) = (wide (j + 1) x).take j ++ [x % 256] := by
  have h := wide_take x j 0
  simpa using h
theorem wide_take1 (x : Int) (j : Nat) : (wide (j + 2) x).take (j + 1) = (wide (j + 2) x).take j ++ [x / 256 % 256] := wide_take x j 1
theorem wide_take2 (x : Int) (j : Nat) : (wide (j + 3) x).take (j + 1) = (wide (j + 3) x).take j ++ [x / 65536 % 256] := wide_take x j 2
theorem wide_take3 (x : Int) (j : Nat) : (wide (j + 4) x).take (j + 1) = (wide (j + 4) x).take j ++ [x / 16777216 % 256] := wide_take x j 3
theorem wide_at0 {n j : Nat} (x : Int) (h : j + 1 = n) : (wide n x).take (j + 1) = (wide n x).take j ++ [x % 256] := by subst h; exact wide_take0 x j
theorem wide_at1 {n j : Nat} (x : Int) (h : j + 2 = n) : (wide n x).take (j + 1) = (wide n x).take j ++ [x / 256 % 256] := by subst h; exact wide_take1 x j
theorem wide_at2 {n j : Nat} (x : Int) (h : j + 3 = n) : (wide n x).take (j + 1) = (wide n x).take j ++ [x / 65536 % 256] := by subst h; exact wide_take2 x j
theorem wide_at3 {n j : Nat} (x : Int) (h : j + 4 = n) : (wide n x).take (j + 1) = (wide n x).take j ++ [x / 16777216 % 256] := by subst h; exact wide_take3 x j
theorem wide_top {n j : Nat} {x : Int} (h0 : 0 ≤ x) (h1 : x ≤ 4294967295) (h : j + 4 = n) : (wide n x).take (j + 1) = (wide n x).take j ++ [x / 16777216] := by
  rw [wide_at3 x h, Int.emod_eq_of_lt (show 0 ≤ x / 16777216 by omega) (show x / 16777216 < 256 by omega)]
theorem and_byte {q : Int} (h0 : 0 ≤ q) (h1 : q ≤ 4294967295) : bits .and .i64 q 255 = q % 256 := by
  obtain ⟨x, rfl⟩ := Int.eq_ofNat_of_zero_le h0
  show IntKind.i64.wrap ((BitVec.ofInt 64 (x : Int) &&& BitVec.ofInt 64 255).toNat : Int) = _
  rw [BitVec.toNat_and, BitVec.ofInt_natCast, BitVec.toNat_ofNat, Nat.mod_eq_of_lt (show x < 2 ^ 64 by omega)]
  have e : (BitVec.ofInt 64 255).toNat = 255 := by decide
  rw [e, Nat.and_two_pow_sub_one_eq_mod x 8, IntKind.wrap_i64]
  omega

end Go.Proofs.YtnfhlfbkdhpacaaGreatDoor

/- Plain: the remainder that is written behind a body. No program. -/
namespace Go.Proofs.YtnfhlfbkdhpacaaGreatDoor

def xorI (a b : Int) : Int := ((a.toNat ^^^ b.toNat : Nat) : Int)
theorem xorI_bd {a b : Int} (h0 : 0 ≤ a) (h1 : a ≤ 4294967295) (k0 : 0 ≤ b) (k1 : b ≤ 4294967295) : 0 ≤ xorI a b ∧ xorI a b ≤ 4294967295 := by
  have h : a.toNat ^^^ b.toNat < 2 ^ 32 := Nat.xor_lt_two_pow (by omega) (by omega)
  unfold xorI
  omega
theorem ofInt_i64 (a : Nat) (ha : a < 9223372036854775808) : (BitVec.ofInt 64 (a : Int)).toNat = a := by
  rw [BitVec.ofInt_natCast, BitVec.toNat_ofNat]; exact Nat.mod_eq_of_lt (by omega)
theorem xor_i64 {a b : Int} (h0 : 0 ≤ a) (h1 : a ≤ 4294967295) (k0 : 0 ≤ b) (k1 : b ≤ 4294967295) : bits .xor .i64 a b = xorI a b := by
  obtain ⟨x, rfl⟩ := Int.eq_ofNat_of_zero_le h0
  obtain ⟨y, rfl⟩ := Int.eq_ofNat_of_zero_le k0
  have hx : x ^^^ y < 2 ^ 32 := Nat.xor_lt_two_pow (by omega) (by omega)
  show IntKind.i64.wrap ((BitVec.ofInt 64 (x : Int) ^^^ BitVec.ofInt 64 (y : Int)).toNat : Int) = ((x ^^^ y : Nat) : Int)
  rw [BitVec.toNat_xor, ofInt_i64 x (by omega), ofInt_i64 y (by omega), IntKind.wrap_i64]
  omega
theorem xor_u32 {a b : Int} (h0 : 0 ≤ a) (h1 : a ≤ 4294967295) (k0 : 0 ≤ b) (k1 : b ≤ 4294967295) : bits .xor .u32 a b = xorI a b :=
  u32_xor a b h0 (by omega) k0 (by omega)
theorem and1_u32 {a : Int} (h0 : 0 ≤ a) (h1 : a ≤ 4294967295) : bits .and .u32 a 1 = a % 2 := by
  rw [u32_and a 1 h0 (by omega) (by omega) (by omega)]
  have e : a.toNat &&& (1 : Int).toNat = a.toNat % 2 := nat_mask1 a.toNat
  rw [e]
  omega

theorem not_u32 {a : Int} (h0 : 0 ≤ a) (h1 : a ≤ 4294967295) : bits .xor .u32 IntKind.u32.max a = 4294967295 - a := by
  obtain ⟨x, rfl⟩ := Int.eq_ofNat_of_zero_le h0
  show IntKind.u32.wrap ((BitVec.ofInt 32 IntKind.u32.max ^^^ BitVec.ofInt 32 (x : Int)).toNat : Int) = _
  have e : BitVec.ofInt 32 IntKind.u32.max = BitVec.allOnes 32 := by decide
  rw [e, BitVec.allOnes_xor, BitVec.toNat_not, ofInt_u32 x (by omega), IntKind.wrap_u32']
  omega

/-- One bit, so many bits, one byte. -/
def crcBit (c : Int) : Int := if c % 2 = 1 then xorI (c / 2) 3988292384 else c / 2
def crcBits (c : Int) : Nat → Int
  | 0 => c
  | j + 1 => crcBit (crcBits c j)
theorem crcBit_bd {c : Int} (h0 : 0 ≤ c) (h1 : c ≤ 4294967295) : 0 ≤ crcBit c ∧ crcBit c ≤ 4294967295 := by
  unfold crcBit
  split
  · exact xorI_bd (by omega) (by omega) (by omega) (by omega)
  · omega
theorem crcBits_bd {c : Int} (h0 : 0 ≤ c) (h1 : c ≤ 4294967295) (j : Nat) : 0 ≤ crcBits c j ∧ crcBits c j ≤ 4294967295 := by
  induction j with
  | zero => exact ⟨h0, h1⟩
  | succ j ih => exact crcBit_bd ih.1 ih.2
theorem crcBit_odd {c : Int} (h : (c % 2 == 1) = true) : crcBit c = xorI (c / 2) 3988292384 := by unfold crcBit; rw [if_pos (by simpa using h)]
theorem crcBit_even {c : Int} (h : (c % 2 == 1) = false) : crcBit c = c / 2 := by unfold crcBit; rw [if_neg (by simpa using h)]
def crcByte (c x : Int) : Int := crcBits (xorI c x) 8
theorem crcByte_bd {c x : Int} (h0 : 0 ≤ c) (h1 : c ≤ 4294967295) (k0 : 0 ≤ x) (k1 : x ≤ 255) : 0 ≤ crcByte c x ∧ crcByte c x ≤ 4294967295 :=
  crcBits_bd (xorI_bd h0 h1 k0 (by omega)).1 (xorI_bd h0 h1 k0 (by omega)).2 8
def crcTo (xs : List Int) (k : Nat) : Int := foldTo crcByte 4294967295 xs k
theorem crcTo_zero (xs : List Int) : crcTo xs 0 = 4294967295 := rfl
theorem crcTo_succ (xs : List Int) (k : Nat) (hk : k < xs.length) : crcTo xs (k + 1) = crcByte (crcTo xs k) (el xs k) := foldTo_succ _ _ _ _ hk
theorem crcTo_bd {xs : List Int} (h : IsB xs) (k : Nat) (hk : k ≤ xs.length) : 0 ≤ crcTo xs k ∧ crcTo xs k ≤ 4294967295 := by
  induction k with
  | zero => rw [crcTo_zero]; omega
  | succ k ih =>
    rw [crcTo_succ _ _ (by omega)]
    have h1 := ih (by omega)
    exact crcByte_bd h1.1 h1.2 (el_bd h k).1 (el_bd h k).2
def crc (xs : List Int) : Int := 4294967295 - crcTo xs xs.length
theorem crc_bd {xs : List Int} (h : IsB xs) : 0 ≤ crc xs ∧ crc xs ≤ 4294967295 := by
  have := crcTo_bd h xs.length (Nat.le_refl _)
  unfold crc; omega

end Go.Proofs.YtnfhlfbkdhpacaaGreatDoor

/- Plain: a frame as bytes. No program. -/
namespace Go.Proofs.YtnfhlfbkdhpacaaGreatDoor

def bodyL (k y t v : Int) : List Int := if k = 1 then (([1] ++ wide 2 y) ++ wide 3 t) ++ wide 3 (v + 1000000) else if k = 2 then [2] ++ wide 3 t else [3]
theorem bodyL_event (y t v : Int) : bodyL 1 y t v = (([1] ++ wide 2 y) ++ wide 3 t) ++ wide 3 (v + 1000000) := by simp [bodyL]
theorem bodyL_mark (y t v : Int) : bodyL 2 y t v = [2] ++ wide 3 t := by simp [bodyL]
theorem bodyL_bye (y t v : Int) : bodyL 3 y t v = [3] := by simp [bodyL]
theorem bodyL_isB (k y t v : Int) : IsB (bodyL k y t v) := by
  unfold bodyL
  split
  · exact (((IsB.one (by omega) (by omega)).append (wide_isB _ _)).append (wide_isB _ _)).append (wide_isB _ _)
  · split
    · exact (IsB.one (by omega) (by omega)).append (wide_isB _ _)
    · exact IsB.one (by omega) (by omega)
theorem bodyL_len (k y t v : Int) : (bodyL k y t v).length ≤ 9 ∧ 1 ≤ (bodyL k y t v).length := by
  unfold bodyL
  split
  · simp [wide_len]
  · split
    · simp [wide_len]
    · simp
def putL (k y t v : Int) : List Int := if fOk k y t v = true then ([((bodyL k y t v).length : Int)] ++ bodyL k y t v) ++ wide 4 (crc (bodyL k y t v)) else []
theorem putL_no {k y t v : Int} (h : fOk k y t v = false) : putL k y t v = [] := by unfold putL; simp [h]
theorem putL_yes {k y t v : Int} (h : fOk k y t v = true) : putL k y t v = ([((bodyL k y t v).length : Int)] ++ bodyL k y t v) ++ wide 4 (crc (bodyL k y t v)) := by unfold putL; rw [if_pos h]
theorem putL_len (k y t v : Int) : (putL k y t v).length ≤ 14 := by
  unfold putL
  split
  · have := bodyL_len k y t v
    simp [wide_len]; omega
  · simp
theorem putL_isB (k y t v : Int) : IsB (putL k y t v) := by
  unfold putL
  split
  · have := bodyL_len k y t v
    exact ((IsB.one (by omega) (by omega)).append (bodyL_isB k y t v)).append (wide_isB _ _)
  · exact IsB.nil
theorem wide_one {x : Int} (h0 : 0 ≤ x) (h1 : x ≤ 255) : wide 1 x = [x] := by
  simp [wide]
  omega
/-- What is known of a frame's numbers. -/
theorem fOk_bd {k y t v : Int} (h : fOk k y t v = true) : (k = 1 ∧ 0 ≤ y ∧ y ≤ 65535 ∧ 0 ≤ t ∧ t ≤ 1000000 ∧ -1000000 ≤ v ∧ v ≤ 1000000) ∨ (k = 2 ∧ y = 0 ∧ 0 ≤ t ∧ t ≤ 1000000 ∧ v = 0) ∨ (k = 3 ∧ y = 0 ∧ t = 0 ∧ v = 0) := by
  unfold fOk inB at h
  simp at h
  omega

end Go.Proofs.YtnfhlfbkdhpacaaGreatDoor

/- Plain: frames read from the front of bytes. No program. -/
namespace Go.Proofs.YtnfhlfbkdhpacaaGreatDoor

/-- Bytes as a number, the greatest first. -/
def readL (xs : List Int) : Int := xs.foldl (fun x b => x * 256 + b) 0
theorem readL_snoc (xs : List Int) (b : Int) : readL (xs ++ [b]) = readL xs * 256 + b := by simp [readL]
theorem readL_acc (ys : List Int) : ∀ (acc : Int) (m : Nat), IsB ys → 0 ≤ acc → acc < ((256 ^ m : Nat) : Int) → 0 ≤ ys.foldl (fun x b => x * 256 + b) acc ∧ ys.foldl (fun x b => x * 256 + b) acc < ((256 ^ (m + ys.length) : Nat) : Int) := by
  induction ys with
  | nil => intro acc m _ h0 h1; exact ⟨h0, h1⟩
  | cons b ys ih =>
    intro acc m hy h0 h1
    have hb := hy b (by simp)
    have e : m + (b :: ys).length = (m + 1) + ys.length := by simp; omega
    rw [e, List.foldl_cons]
    refine ih _ (m + 1) (fun x hx => hy x (by simp [hx])) (by omega) ?_
    rw [Nat.pow_succ]
    omega
theorem readL_bd {xs : List Int} (h : IsB xs) (n : Nat) (hn : xs.length ≤ n) : 0 ≤ readL xs ∧ readL xs < ((256 ^ n : Nat) : Int) := by
  have h1 := readL_acc xs 0 0 h (by omega) (by simp)
  refine ⟨h1.1, Int.lt_of_lt_of_le h1.2 ?_⟩
  exact_mod_cast Nat.pow_le_pow_right (by omega) (by omega)
/-- A number of so many bytes; what is not there counts as noughts. -/
def numL (n : Nat) (xs : List Int) : Int := readL (xs.take n) * ((256 ^ (n - min n xs.length) : Nat) : Int)
theorem numL_bd {xs : List Int} (h : IsB xs) (n : Nat) : 0 ≤ numL n xs ∧ numL n xs < ((256 ^ n : Nat) : Int) := by
  have h1 := readL_bd (h.take n) (min n xs.length) (by rw [List.length_take]; exact Nat.le_refl _)
  have h2 : 256 ^ n = 256 ^ (min n xs.length) * 256 ^ (n - min n xs.length) := by rw [← Nat.pow_add]; congr 1; omega
  have h3 : (0 : Int) < ((256 ^ (n - min n xs.length) : Nat) : Int) := by exact_mod_cast Nat.pow_pos (by omega)
  unfold numL
  refine ⟨Int.mul_nonneg h1.1 (Int.le_of_lt h3), ?_⟩
  rw [h2, Int.natCast_mul]
  exact Int.mul_lt_mul_of_pos_right h1.2 h3
theorem num1_bd {xs : List Int} (h : IsB xs) : 0 ≤ numL 1 xs ∧ numL 1 xs ≤ 255 := by
  have := numL_bd h 1
  have e : ((256 ^ 1 : Nat) : Int) = 256 := by decide
  omega
theorem num2_bd {xs : List Int} (h : IsB xs) : 0 ≤ numL 2 xs ∧ numL 2 xs ≤ 65535 := by
  have := numL_bd h 2
  have e : ((256 ^ 2 : Nat) : Int) = 65536 := by decide
  omega
theorem num3_bd {xs : List Int} (h : IsB xs) : 0 ≤ numL 3 xs ∧ numL 3 xs ≤ 16777215 := by
  have := numL_bd h 3
  have e : ((256 ^ 3 : Nat) : Int) = 16777216 := by decide
  omega

/-- The least frame that bytes allow: its kind, key, time, value. -/
def f0K (xs : List Int) : Int := if numL 1 xs = 9 then 1 else if numL 1 xs = 4 then 2 else if numL 1 xs = 1 then 3 else 0
def f0Y (xs : List Int) : Int := if numL 1 xs = 9 then numL 2 (xs.drop 2) else 0
def f0T (xs : List Int) : Int := if numL 1 xs = 9 then numL 3 (xs.drop 4) else if numL 1 xs = 4 then numL 3 (xs.drop 2) else 0
def f0V (xs : List Int) : Int := if numL 1 xs = 9 then numL 3 (xs.drop 7) - 1000000 else 0
/-- That frame as bytes; nothing where it is none. -/
def put0 (xs : List Int) : List Int := putL (f0K xs) (f0Y xs) (f0T xs) (f0V xs)
/-- A frame stands in front; it may still come. -/
def tkHere (xs : List Int) : Bool := decide (0 < (put0 xs).length) && (put0 xs).isPrefixOf xs
def tkMore (xs : List Int) : Bool := xs.isPrefixOf (put0 xs)

end Go.Proofs.YtnfhlfbkdhpacaaGreatDoor

/- Contracts of chapter 4: when a source is one, whether it may be heard, on impl's and on spec's side. -/
namespace Go.Proofs.YtnfhlfbkdhpacaaGreatDoor
open Go.RowKit

theorem isW_any (x a b : Int) (w : World) : Calls Tryz.prog 111 #[.int .i64 x, .int .i64 a, .int .i64 b] w fun e w' => e = .returned (.bool (inB x a b)) ∧ w = w' := by
  by_cases h1 : a ≤ x
  · by_cases h2 : x ≤ b
    · rw [inB_yes h1 h2]
      go_enter Tryz.func111, Tryz.ntmps111
      go_wp2
      go_ret
      exact ⟨rfl, rfl⟩
    · rw [inB_no (by omega)]
      go_enter Tryz.func111, Tryz.ntmps111
      go_wp2
      go_ret
      exact ⟨rfl, rfl⟩
  · rw [inB_no (by omega)]
    go_enter Tryz.func111, Tryz.ntmps111
    go_wp2
    go_ret
    exact ⟨rfl, rfl⟩
theorem isMark_any (x : Int) (w : World) : Calls Tryz.prog 166 #[.int .i64 x] w fun e w' => e = .returned (.bool (isMk x)) ∧ w = w' := by
  go_enter Tryz.func166, Tryz.ntmps166
  go_wp2_with (go_at_call 111; refine (isW_any _ _ _ _).mono ?_; rintro e w' ⟨rfl, rfl⟩)
  go_ret
  exact ⟨rfl, rfl⟩
theorem isTime_any (x : Int) (w : World) : Calls Tryz.prog 221 #[.int .i64 x] w fun e w' => e = .returned (.bool (isTm x)) ∧ w = w' := by
  go_enter Tryz.func221, Tryz.ntmps221
  go_wp2_with (go_at_call 111; refine (isW_any _ _ _ _).mono ?_; rintro e w' ⟨rfl, rfl⟩)
  go_ret
  exact ⟨rfl, rfl⟩
theorem specMark_any (x : Int) (w : World) : Calls Tryz.prog 138 #[.int .i64 x] w fun e w' => e = .returned (.bool (isMk x)) ∧ w = w' := by
  go_enter Tryz.func138, Tryz.ntmps138
  go_wp2_with (go_at_call 82; refine (specIn_any _ _ _ _).mono ?_; rintro e w' ⟨rfl, rfl⟩)
  go_ret
  exact ⟨rfl, rfl⟩

theorem implSrcOk_any (S : Src) (w : World) : Calls Tryz.prog 165 #[(.agg #[.int .i64 S.x, .int .i64 S.m, .int .i64 S.s, .bool S.i, .bool S.o])] w fun e w' => e = .returned (.bool (sOk S)) ∧ Below w.heap.size w w' := by
  unfold sOk
  have B1 := Lib.hid ((Below.refl w.heap.size w).alloc (Nat.le_refl _) (.cells #[.int .i64 S.x, .int .i64 S.m, .int .i64 S.s, .bool S.i, .bool S.o] 93))
  cases h1 : isMk S.x with
  | false =>
    rw [Bool.false_and]
    go_enter Tryz.func165, Tryz.ntmps165
    go_wp2_with (first | (go_at_call 166; refine (isMark_any _ _).mono ?_; rintro e w' ⟨rfl, rfl⟩) | (go_at_call 204; refine (implTickOk_any _ _).mono ?_; rintro e w' ⟨rfl, rfl⟩))
    go_ret
    exact ⟨rfl, B1.out⟩
  | true =>
    rw [Bool.true_and]
    cases h2 : isMk S.m with
    | false =>
      rw [Bool.false_and]
      go_enter Tryz.func165, Tryz.ntmps165
      go_wp2_with (first | (go_at_call 166; refine (isMark_any _ _).mono ?_; rintro e w' ⟨rfl, rfl⟩) | (go_at_call 204; refine (implTickOk_any _ _).mono ?_; rintro e w' ⟨rfl, rfl⟩))
      go_ret
      exact ⟨rfl, B1.out⟩
    | true =>
      rw [Bool.true_and]
      go_enter Tryz.func165, Tryz.ntmps165
      go_wp2_with (first | (go_at_call 166; refine (isMark_any _ _).mono ?_; rintro e w' ⟨rfl, rfl⟩) | (go_at_call 204; refine (implTickOk_any _ _).mono ?_; rintro e w' ⟨rfl, rfl⟩))
      go_ret
      exact ⟨rfl, B1.out⟩

theorem specSrcOk_any (S : Src) (w : World) : Calls Tryz.prog 85 #[(.agg #[.int .i64 S.x, .int .i64 S.m, .int .i64 S.s, .bool S.i, .bool S.o])] w fun e w' => e = .returned (.bool (sOk S)) ∧ Below w.heap.size w w' := by
  unfold sOk
  have B1 := Lib.hid ((Below.refl w.heap.size w).alloc (Nat.le_refl _) (.cells #[.int .i64 S.x, .int .i64 S.m, .int .i64 S.s, .bool S.i, .bool S.o] 93))
  cases h1 : isMk S.x with
  | false =>
    rw [Bool.false_and]
    go_enter Tryz.func85, Tryz.ntmps85
    go_wp2_with (first | (go_at_call 138; refine (specMark_any _ _).mono ?_; rintro e w' ⟨rfl, rfl⟩) | (go_at_call 142; refine (specTickOk_any _ _).mono ?_; rintro e w' ⟨rfl, rfl⟩))
    go_ret
    exact ⟨rfl, B1.out⟩
  | true =>
    rw [Bool.true_and]
    cases h2 : isMk S.m with
    | false =>
      rw [Bool.false_and]
      go_enter Tryz.func85, Tryz.ntmps85
      go_wp2_with (first | (go_at_call 138; refine (specMark_any _ _).mono ?_; rintro e w' ⟨rfl, rfl⟩) | (go_at_call 142; refine (specTickOk_any _ _).mono ?_; rintro e w' ⟨rfl, rfl⟩))
      go_ret
      exact ⟨rfl, B1.out⟩
    | true =>
      rw [Bool.true_and]
      go_enter Tryz.func85, Tryz.ntmps85
      go_wp2_with (first | (go_at_call 138; refine (specMark_any _ _).mono ?_; rintro e w' ⟨rfl, rfl⟩) | (go_at_call 142; refine (specTickOk_any _ _).mono ?_; rintro e w' ⟨rfl, rfl⟩))
      go_ret
      exact ⟨rfl, B1.out⟩

end Go.Proofs.YtnfhlfbkdhpacaaGreatDoor

/- Contracts of the laws' own helpers over a frame, of spec.FrameOk and impl.FrameOk with what it calls. -/
namespace Go.Proofs.YtnfhlfbkdhpacaaGreatDoor
open Go.RowKit

theorem bcell {W w1 : World} (hb : Below W.heap.size W w1) : (∀ b o, b < W.heap.size → w1.cell? ⟨b, o, none⟩ = W.cell? ⟨b, o, none⟩) ∧ (∀ b o, b < W.heap.size → w1.frozen? ⟨b, o, none⟩ = W.frozen? ⟨b, o, none⟩) :=
  ⟨fun b o h => hb.cell (p := ⟨b, o, none⟩) h, fun b o h => hb.frozen (p := ⟨b, o, none⟩) h⟩

theorem toFrame_any (k y t v : Int) (w : World) :
    Calls Tryz.prog 145 #[(.agg #[.int .i64 k, .int .i64 y, .int .i64 t, .int .i64 v])] w fun e w' => e = .returned (.agg #[.int .i64 k, .int .i64 y, .int .i64 t, .int .i64 v]) ∧ Below w.heap.size w w' := by
  go_enter Tryz.func145, Tryz.ntmps145
  go_wp2
  exact bodyPost_ret (v := (.agg #[.int .i64 k, .int .i64 y, .int .i64 t, .int .i64 v])) (by simp [results, Tryz.results145, go_sem]) rfl ⟨rfl, (((Below.refl _ _).alloc (Nat.le_refl _) _).alloc (by simp) _).alloc (by simp; omega) _⟩

set_option maxHeartbeats 800000 in
theorem specFrameOk_any (k y t v : Int) (w : World) :
    Calls Tryz.prog 141 #[(.agg #[.int .i64 k, .int .i64 y, .int .i64 t, .int .i64 v])] w fun e w' => e = .returned (.bool (fOk k y t v)) ∧ Below w.heap.size w w' := by
  by_cases h1 : k = 1
  · subst h1
    rw [fOk_event]
    cases hy : inB y 0 65535 with
    | false =>
      rw [Bool.false_and, Bool.false_and]
      go_enter Tryz.func141, Tryz.ntmps141
      go_wp2_with (go_at_call 82; refine (specIn_any _ _ _ _).mono ?_; rintro e w' ⟨rfl, rfl⟩)
      go_ret
      exact ⟨rfl, (Below.refl _ _).alloc (Nat.le_refl _) _⟩
    | true =>
      cases ht : inB t 0 1000000 with
      | false =>
        rw [Bool.and_false, Bool.false_and]
        go_enter Tryz.func141, Tryz.ntmps141
        go_wp2_with (go_at_call 82; refine (specIn_any _ _ _ _).mono ?_; rintro e w' ⟨rfl, rfl⟩)
        go_ret
        exact ⟨rfl, (Below.refl _ _).alloc (Nat.le_refl _) _⟩
      | true =>
        rw [Bool.and_self, Bool.true_and]
        go_enter Tryz.func141, Tryz.ntmps141
        go_wp2_with (go_at_call 82; refine (specIn_any _ _ _ _).mono ?_; rintro e w' ⟨rfl, rfl⟩)
        go_ret
        exact ⟨rfl, (Below.refl _ _).alloc (Nat.le_refl _) _⟩
  by_cases h2 : k = 2
  · subst h2
    clear h1
    rw [fOk_mark]
    by_cases hy : y = 0
    · subst hy
      cases ht : inB t 0 1000000 with
      | false =>
        rw [Bool.and_false, Bool.false_and]
        go_enter Tryz.func141, Tryz.ntmps141
        go_wp2_with (go_at_call 82; refine (specIn_any _ _ _ _).mono ?_; rintro e w' ⟨rfl, rfl⟩)
        go_ret
        exact ⟨rfl, (Below.refl _ _).alloc (Nat.le_refl _) _⟩
      | true =>
        rw [Bool.and_true]
        go_enter Tryz.func141, Tryz.ntmps141
        go_wp2_with (go_at_call 82; refine (specIn_any _ _ _ _).mono ?_; rintro e w' ⟨rfl, rfl⟩)
        go_ret
        exact ⟨by simp, (Below.refl _ _).alloc (Nat.le_refl _) _⟩
    · have hy0 : (y == 0) = false := by simp [hy]
      rw [hy0, Bool.false_and, Bool.false_and]
      clear hy
      go_enter Tryz.func141, Tryz.ntmps141
      go_wp2_with (go_at_call 82; refine (specIn_any _ _ _ _).mono ?_; rintro e w' ⟨rfl, rfl⟩)
      go_ret
      exact ⟨rfl, (Below.refl _ _).alloc (Nat.le_refl _) _⟩
  by_cases h3 : k = 3
  · subst h3
    clear h1 h2
    rw [fOk_bye]
    by_cases hy : y = 0
    · subst hy
      by_cases ht : t = 0
      · subst ht
        go_enter Tryz.func141, Tryz.ntmps141
        go_wp2
        go_ret
        exact ⟨by simp, (Below.refl _ _).alloc (Nat.le_refl _) _⟩
      · have ht0 : (t == 0) = false := by simp [ht]
        rw [ht0, Bool.and_false, Bool.false_and]
        clear ht
        go_enter Tryz.func141, Tryz.ntmps141
        go_wp2
        go_ret
        exact ⟨rfl, (Below.refl _ _).alloc (Nat.le_refl _) _⟩
    · have hy0 : (y == 0) = false := by simp [hy]
      rw [hy0, Bool.false_and, Bool.false_and]
      clear hy
      go_enter Tryz.func141, Tryz.ntmps141
      go_wp2
      go_ret
      exact ⟨rfl, (Below.refl _ _).alloc (Nat.le_refl _) _⟩
  · have k1 : (k == 1) = false := by simp [h1]
    have k2 : (k == 2) = false := by simp [h2]
    have k3 : (k == 3) = false := by simp [h3]
    rw [fOk_none y t v k1 k2 k3]
    clear h1 h2 h3
    go_enter Tryz.func141, Tryz.ntmps141
    go_wp2
    go_ret
    exact ⟨rfl, (Below.refl _ _).alloc (Nat.le_refl _) _⟩

theorem isWithin_any (x a b : Int) (w : World) : Calls Tryz.prog 111 #[.int .i64 x, .int .i64 a, .int .i64 b] w fun e w' => e = .returned (.bool (inB x a b)) ∧ w = w' := by
  by_cases h1 : a ≤ x
  · by_cases h2 : x ≤ b
    · rw [inB_yes h1 h2]
      go_enter Tryz.func111, Tryz.ntmps111
      go_wp2
      go_ret
      exact ⟨rfl, rfl⟩
    · rw [inB_no (by omega)]
      go_enter Tryz.func111, Tryz.ntmps111
      go_wp2
      go_ret
      exact ⟨rfl, rfl⟩
  · rw [inB_no (by omega)]
    go_enter Tryz.func111, Tryz.ntmps111
    go_wp2
    go_ret
    exact ⟨rfl, rfl⟩

end Go.Proofs.YtnfhlfbkdhpacaaGreatDoor

/- The laws' own comparison of two frames, alone. -/
namespace Go.Proofs.YtnfhlfbkdhpacaaGreatDoor
open Go.RowKit

theorem eqFrame_x (k y t v : Int) (w : World) :
    Calls Tryz.prog 153 #[(.agg #[.int .i64 k, .int .i64 y, .int .i64 t, .int .i64 v]), (.agg #[.int .i64 k, .int .i64 y, .int .i64 t, .int .i64 v])] w fun e w' => e = .returned (.bool true) ∧ Below w.heap.size w w' := by
  have b1 := (Below.refl w.heap.size w).alloc (Nat.le_refl _) (.cells #[.int .i64 k, .int .i64 y, .int .i64 t, .int .i64 v] 97)
  have b2 := Lib.hid (b1.alloc (by simp) (.cells #[.int .i64 k, .int .i64 y, .int .i64 t, .int .i64 v] 97))
  have h1 : (k != k) = false := by simp
  have h2 : (y != y) = false := by simp
  have h3 : (t != t) = false := by simp
  have h4 : (v != v) = false := by simp
  clear b1
  go_enter Tryz.func153, Tryz.ntmps153
  go_wp2
  go_ret
  exact ⟨rfl, b2.out⟩
end Go.Proofs.YtnfhlfbkdhpacaaGreatDoor

/- Plain: all frames from the front of bytes; lists of frames as cells. No program. -/
namespace Go.Proofs.YtnfhlfbkdhpacaaGreatDoor

structure Fr where
  k : Int
  y : Int
  t : Int
  v : Int
/-- The cells of a list of frames. -/
def flatF (l : List Fr) : List Value := l.flatMap fun f => [.int .i64 f.k, .int .i64 f.y, .int .i64 f.t, .int .i64 f.v]
theorem flatF_nil : flatF [] = [] := rfl
theorem flatF_snoc (l : List Fr) (f : Fr) : flatF (l ++ [f]) = flatF l ++ [.int .i64 f.k, .int .i64 f.y, .int .i64 f.t, .int .i64 f.v] := by simp [flatF]
theorem flatF_append (l m : List Fr) : flatF (l ++ m) = flatF l ++ flatF m := by simp [flatF]
theorem flatF_len (l : List Fr) : (flatF l).length = l.length * 4 := by
  induction l with
  | nil => rfl
  | cons f l ih =>
    have e : flatF (f :: l) = [.int .i64 f.k, .int .i64 f.y, .int .i64 f.t, .int .i64 f.v] ++ flatF l := rfl
    rw [e, List.length_append, ih]
    simp; omega
def frD : Fr := ⟨0, 0, 0, 0⟩
/-- The frame at i. -/
def fel (l : List Fr) (i : Nat) : Fr := l.getD i frD
theorem flatF_at (l : List Fr) (i : Nat) (hi : i < l.length) : (flatF l)[i * 4]? = some (.int .i64 (fel l i).k) ∧ (flatF l)[i * 4 + 1]? = some (.int .i64 (fel l i).y) ∧ (flatF l)[i * 4 + 2]? = some (.int .i64 (fel l i).t) ∧ (flatF l)[i * 4 + 3]? = some (.int .i64 (fel l i).v) := by
  induction l generalizing i with
  | nil => simp at hi
  | cons f l ih =>
    have e : flatF (f :: l) = [.int .i64 f.k, .int .i64 f.y, .int .i64 f.t, .int .i64 f.v] ++ flatF l := rfl
    rw [e]
    cases i with
    | zero => simp [fel]
    | succ i =>
      have h := ih i (by simpa using hi)
      have e2 : fel (f :: l) (i + 1) = fel l i := by simp [fel]
      rw [e2]
      have e4 : ∀ j, ([.int .i64 f.k, .int .i64 f.y, .int .i64 f.t, .int .i64 f.v] ++ flatF l)[(i + 1) * 4 + j]? = (flatF l)[i * 4 + j]? := fun j => by
        rw [List.getElem?_append_right (by simp; omega)]
        congr 1
        simp; omega
      exact ⟨(e4 0).trans h.1, (e4 1).trans h.2.1, (e4 2).trans h.2.2.1, (e4 3).trans h.2.2.2⟩
theorem fel_take (l : List Fr) (i : Nat) (hi : i < l.length) : l.take (i + 1) = l.take i ++ [fel l i] := by
  rw [List.take_add_one]
  simp [fel, List.getD, hi]

def fr0 (xs : List Int) : Fr := ⟨f0K xs, f0Y xs, f0T xs, f0V xs⟩
theorem here_len {xs : List Int} (h : tkHere xs = true) : 0 < (put0 xs).length ∧ (put0 xs).length ≤ xs.length := by
  unfold tkHere at h
  rw [Bool.and_eq_true, decide_eq_true_eq] at h
  exact ⟨h.1, (List.isPrefixOf_iff_prefix.1 h.2).length_le⟩
/-- The frames, how many bytes are left, whether what is left is bent. -/
def afGo : Nat → List Int → List Fr × Nat × Bool
  | 0, xs => ([], xs.length, false)
  | m + 1, xs => if tkHere xs = true then (fr0 xs :: (afGo m (xs.drop (put0 xs).length)).1, (afGo m (xs.drop (put0 xs).length)).2) else ([], xs.length, !tkMore xs)
theorem af_here {m : Nat} {xs : List Int} (h : tkHere xs = true) : afGo (m + 1) xs = (fr0 xs :: (afGo m (xs.drop (put0 xs).length)).1, (afGo m (xs.drop (put0 xs).length)).2) := by simp [afGo, h]
theorem af_stop {m : Nat} {xs : List Int} (h : tkHere xs = false) : afGo (m + 1) xs = ([], xs.length, !tkMore xs) := by simp [afGo, h]
/-- What AllFrames answers. -/
structure Af where
  list : List Fr
  n : Int
  bad : Bool
def af (xs : List Int) : Af := if xs.length ≤ 400 then ⟨(afGo (xs.length + 1) xs).1, (xs.length : Int) - ((afGo (xs.length + 1) xs).2.1 : Int), (afGo (xs.length + 1) xs).2.2⟩ else ⟨[], 0, true⟩
theorem af_big {xs : List Int} (h : ¬ xs.length ≤ 400) : af xs = ⟨[], 0, true⟩ := by simp [af, h]
theorem af_ok {xs : List Int} (h : xs.length ≤ 400) : af xs = ⟨(afGo (xs.length + 1) xs).1, (xs.length : Int) - ((afGo (xs.length + 1) xs).2.1 : Int), (afGo (xs.length + 1) xs).2.2⟩ := by simp [af, h]
theorem afGo_le : ∀ (m : Nat) (xs : List Int), (afGo m xs).1.length ≤ xs.length ∧ (afGo m xs).2.1 ≤ xs.length
  | 0, xs => by simp [afGo]
  | m + 1, xs => by
    cases h : tkHere xs with
    | true =>
      rw [af_here h]
      have h1 := here_len h
      have h2 := afGo_le m (xs.drop (put0 xs).length)
      simp only [List.length_drop] at h2
      simp only [List.length_cons]
      omega
    | false => rw [af_stop h]; simp
theorem af_len (xs : List Int) : (af xs).list.length ≤ 400 := by
  by_cases h : xs.length ≤ 400
  · rw [af_ok h]
    have := (afGo_le (xs.length + 1) xs).1
    simp only
    omega
  · rw [af_big h]; simp
/-- Where a round stands: what was told so far, and what is left. -/
structure AfAt (xs : List Int) (acc : List Fr) (rest : List Int) (m : Nat) : Prop where
  eq : afGo (xs.length + 1) xs = (acc ++ (afGo m rest).1, (afGo m rest).2)
  lt : rest.length < m
  le : acc.length + rest.length ≤ xs.length
theorem AfAt.start (xs : List Int) : AfAt xs [] xs (xs.length + 1) := ⟨by simp, by omega, by simp⟩
theorem AfAt.step {xs : List Int} {acc : List Fr} {rest : List Int} {m : Nat} (h : AfAt xs acc rest m) (hh : tkHere rest = true) : AfAt xs (acc ++ [fr0 rest]) (rest.drop (put0 rest).length) (m - 1) := by
  obtain ⟨he, hl, hle⟩ := h
  obtain ⟨j, rfl⟩ : ∃ j, m = j + 1 := ⟨m - 1, by omega⟩
  have hp := here_len hh
  refine ⟨?_, by rw [List.length_drop]; omega, by simp; omega⟩
  rw [he, af_here hh, Nat.add_sub_cancel]
  simp
theorem AfAt.stop {xs : List Int} {acc : List Fr} {rest : List Int} {m : Nat} (h : AfAt xs acc rest m) (hh : tkHere rest = false) (hx : xs.length ≤ 400) : af xs = ⟨acc, (xs.length : Int) - (rest.length : Int), !tkMore rest⟩ := by
  obtain ⟨he, hl, hle⟩ := h
  obtain ⟨j, rfl⟩ : ∃ j, m = j + 1 := ⟨m - 1, by omega⟩
  rw [af_ok hx, he, af_stop hh]
  simp

end Go.Proofs.YtnfhlfbkdhpacaaGreatDoor

/- Contracts of what frames are made of: bodies behind an interface. -/
namespace Go.Proofs.YtnfhlfbkdhpacaaGreatDoor
open Go.RowKit

theorem assert_ee (v : Value) (w : World) : (Instr.typeAssert (.iface 251 v) 213 251 true).run Tryz.prog w = .ok (.tuple #[v, .bool true]) w := by kernel_rfl
theorem assert_me (v : Value) (w : World) : (Instr.typeAssert (.iface 253 v) 213 251 true).run Tryz.prog w = .ok (.tuple #[(.agg #[.int .i64 0, .int .i64 0, .int .i64 0]), .bool false]) w := by kernel_rfl
theorem assert_be (v : Value) (w : World) : (Instr.typeAssert (.iface 254 v) 213 251 true).run Tryz.prog w = .ok (.tuple #[(.agg #[.int .i64 0, .int .i64 0, .int .i64 0]), .bool false]) w := by kernel_rfl
theorem assert_ne (w : World) : (Instr.typeAssert .nilIface 213 251 true).run Tryz.prog w = .ok (.tuple #[(.agg #[.int .i64 0, .int .i64 0, .int .i64 0]), .bool false]) w := by kernel_rfl
theorem assert_mm (v : Value) (w : World) : (Instr.typeAssert (.iface 253 v) 213 253 true).run Tryz.prog w = .ok (.tuple #[v, .bool true]) w := by kernel_rfl
theorem assert_bm (v : Value) (w : World) : (Instr.typeAssert (.iface 254 v) 213 253 true).run Tryz.prog w = .ok (.tuple #[(.agg #[.int .i64 0]), .bool false]) w := by kernel_rfl
theorem assert_nm (w : World) : (Instr.typeAssert .nilIface 213 253 true).run Tryz.prog w = .ok (.tuple #[(.agg #[.int .i64 0]), .bool false]) w := by kernel_rfl
theorem assert_bb (v : Value) (w : World) : (Instr.typeAssert (.iface 254 v) 213 254 true).run Tryz.prog w = .ok (.tuple #[v, .bool true]) w := by kernel_rfl
theorem assert_nb (w : World) : (Instr.typeAssert .nilIface 213 254 true).run Tryz.prog w = .ok (.tuple #[.agg #[], .bool false]) w := by kernel_rfl
theorem meth_eok (v : Value) (w : World) : (Go.method 498 251 v "loop.example/g00728/impl.ok").run Tryz.prog w = .ok (366, v) w := by kernel_rfl
theorem meth_mok (v : Value) (w : World) : (Go.method 498 253 v "loop.example/g00728/impl.ok").run Tryz.prog w = .ok (368, v) w := by kernel_rfl
theorem meth_bok (v : Value) (w : World) : (Go.method 498 254 v "loop.example/g00728/impl.ok").run Tryz.prog w = .ok (370, v) w := by kernel_rfl
theorem meth_eput (v : Value) (w : World) : (Go.method 498 251 v "loop.example/g00728/impl.put").run Tryz.prog w = .ok (367, v) w := by kernel_rfl
theorem meth_mput (v : Value) (w : World) : (Go.method 498 253 v "loop.example/g00728/impl.put").run Tryz.prog w = .ok (369, v) w := by kernel_rfl
theorem meth_bput (v : Value) (w : World) : (Go.method 498 254 v "loop.example/g00728/impl.put").run Tryz.prog w = .ok (371, v) w := by kernel_rfl
theorem bodyOf_event (y t v : Int) (w : World) :
    Calls Tryz.prog 200 #[(.agg #[.int .i64 1, .int .i64 y, .int .i64 t, .int .i64 v])] w fun e w' => e = .returned (.iface 251 (.agg #[.int .i64 y, .int .i64 t, .int .i64 v])) ∧ Below w.heap.size w w' := by
  go_enter Tryz.func200, Tryz.ntmps200
  go_wp2
  go_ret
  exact ⟨rfl, (Below.refl _ _).alloc (Nat.le_refl _) _⟩
theorem bodyOf_mark (y t v : Int) (w : World) :
    Calls Tryz.prog 200 #[(.agg #[.int .i64 2, .int .i64 y, .int .i64 t, .int .i64 v])] w fun e w' => e = .returned (.iface 253 (.agg #[.int .i64 t])) ∧ Below w.heap.size w w' := by
  go_enter Tryz.func200, Tryz.ntmps200
  go_wp2
  go_ret
  exact ⟨rfl, (Below.refl _ _).alloc (Nat.le_refl _) _⟩
theorem bodyOf_bye (y t v : Int) (w : World) :
    Calls Tryz.prog 200 #[(.agg #[.int .i64 3, .int .i64 y, .int .i64 t, .int .i64 v])] w fun e w' => e = .returned (.iface 254 (.agg #[])) ∧ Below w.heap.size w w' := by
  go_enter Tryz.func200, Tryz.ntmps200
  go_wp2
  go_ret
  exact ⟨rfl, (Below.refl _ _).alloc (Nat.le_refl _) _⟩
theorem bodyOf_none (k y t v : Int) (h1 : (k == 1) = false) (h2 : (k == 2) = false) (h3 : (k == 3) = false) (w : World) :
    Calls Tryz.prog 200 #[(.agg #[.int .i64 k, .int .i64 y, .int .i64 t, .int .i64 v])] w fun e w' => e = .returned .nilIface ∧ Below w.heap.size w w' := by
  go_enter Tryz.func200, Tryz.ntmps200
  go_wp2
  go_ret
  exact ⟨rfl, (Below.refl _ _).alloc (Nat.le_refl _) _⟩
theorem frameOf_event (y t v : Int) (w : World) :
    Calls Tryz.prog 156 #[.iface 251 (.agg #[.int .i64 y, .int .i64 t, .int .i64 v])] w fun e w' => e = .returned (.agg #[.int .i64 1, .int .i64 y, .int .i64 t, .int .i64 v]) ∧ Below w.heap.size w w' := by
  have h0 := assert_ee
  go_enter Tryz.func156, Tryz.ntmps156
  go_wp2
  exact bodyPost_ret (v := (.agg #[.int .i64 1, .int .i64 y, .int .i64 t, .int .i64 v])) (by simp [results, Tryz.results156, go_sem]) rfl ⟨rfl, ((Below.refl _ _).alloc (Nat.le_refl _) _).alloc (by simp) _⟩
theorem frameOf_mark (t : Int) (w : World) :
    Calls Tryz.prog 156 #[.iface 253 (.agg #[.int .i64 t])] w fun e w' => e = .returned (.agg #[.int .i64 2, .int .i64 0, .int .i64 t, .int .i64 0]) ∧ Below w.heap.size w w' := by
  have h0 := assert_me
  have h1 := assert_mm
  go_enter Tryz.func156, Tryz.ntmps156
  go_wp2
  exact bodyPost_ret (v := (.agg #[.int .i64 2, .int .i64 0, .int .i64 t, .int .i64 0])) (by simp [results, Tryz.results156, go_sem]) rfl ⟨rfl, ((Below.refl _ _).alloc (Nat.le_refl _) _).alloc (by simp) _⟩
theorem frameOf_bye (w : World) :
    Calls Tryz.prog 156 #[.iface 254 (.agg #[])] w fun e w' => e = .returned (.agg #[.int .i64 3, .int .i64 0, .int .i64 0, .int .i64 0]) ∧ Below w.heap.size w w' := by
  have h0 := assert_be
  have h1 := assert_bm
  have h2 := assert_bb
  go_enter Tryz.func156, Tryz.ntmps156
  go_wp2
  exact bodyPost_ret (v := (.agg #[.int .i64 3, .int .i64 0, .int .i64 0, .int .i64 0])) (by simp [results, Tryz.results156, go_sem]) rfl ⟨rfl, ((Below.refl _ _).alloc (Nat.le_refl _) _).alloc (by simp) _⟩
theorem frameOf_none (w : World) :
    Calls Tryz.prog 156 #[.nilIface] w fun e w' => e = .returned (.agg #[.int .i64 0, .int .i64 0, .int .i64 0, .int .i64 0]) ∧ Below w.heap.size w w' := by
  have h0 := assert_ne
  have h1 := assert_nm
  have h2 := assert_nb
  go_enter Tryz.func156, Tryz.ntmps156
  go_wp2
  exact bodyPost_ret (v := (.agg #[.int .i64 0, .int .i64 0, .int .i64 0, .int .i64 0])) (by simp [results, Tryz.results156, go_sem]) rfl ⟨rfl, (Below.refl _ _).alloc (Nat.le_refl _) _⟩

theorem eventOk_any (y t v : Int) (w : World) :
    Calls Tryz.prog 366 #[(.agg #[.int .i64 y, .int .i64 t, .int .i64 v])] w fun e w' => e = .returned (.bool (fOk 1 y t v)) ∧ Below w.heap.size w w' := by
  rw [fOk_event]
  cases hy : inB y 0 65535 with
  | false =>
    rw [Bool.false_and, Bool.false_and]
    go_enter Tryz.func366, Tryz.ntmps366
    go_wp2_with (go_at_call 111; refine (isWithin_any _ _ _ _).mono ?_; rintro e w' ⟨rfl, rfl⟩)
    go_ret
    exact ⟨rfl, (Below.refl _ _).alloc (Nat.le_refl _) _⟩
  | true =>
    cases ht : inB t 0 1000000 with
    | false =>
      rw [Bool.and_false, Bool.false_and]
      go_enter Tryz.func366, Tryz.ntmps366
      go_wp2_with (go_at_call 111; refine (isWithin_any _ _ _ _).mono ?_; rintro e w' ⟨rfl, rfl⟩)
      go_ret
      exact ⟨rfl, (Below.refl _ _).alloc (Nat.le_refl _) _⟩
    | true =>
      rw [Bool.and_self, Bool.true_and]
      go_enter Tryz.func366, Tryz.ntmps366
      go_wp2_with (go_at_call 111; refine (isWithin_any _ _ _ _).mono ?_; rintro e w' ⟨rfl, rfl⟩)
      go_ret
      exact ⟨rfl, (Below.refl _ _).alloc (Nat.le_refl _) _⟩
theorem markOk_any (t : Int) (w : World) :
    Calls Tryz.prog 368 #[(.agg #[.int .i64 t])] w fun e w' => e = .returned (.bool (inB t 0 1000000)) ∧ Below w.heap.size w w' := by
  go_enter Tryz.func368, Tryz.ntmps368
  go_wp2_with (go_at_call 111; refine (isWithin_any _ _ _ _).mono ?_; rintro e w' ⟨rfl, rfl⟩)
  go_ret
  exact ⟨rfl, (Below.refl _ _).alloc (Nat.le_refl _) _⟩
theorem byeOk_any (w : World) :
    Calls Tryz.prog 370 #[.agg #[]] w fun e w' => e = .returned (.bool true) ∧ Below w.heap.size w w' := by
  go_enter Tryz.func370, Tryz.ntmps370
  go_wp2
  go_ret
  exact ⟨rfl, (Below.refl _ _).alloc (Nat.le_refl _) _⟩

end Go.Proofs.YtnfhlfbkdhpacaaGreatDoor

/- impl.FrameOk at byes and at no kind. -/
namespace Go.Proofs.YtnfhlfbkdhpacaaGreatDoor
open Go.RowKit

set_option maxHeartbeats 1600000 in
theorem implFrameOk_bye (y t v : Int) (w : World) :
    Calls Tryz.prog 167 #[(.agg #[.int .i64 3, .int .i64 y, .int .i64 t, .int .i64 v])] w fun e w' => e = .returned (.bool (fOk 3 y t v)) ∧ Below w.heap.size w w' := by
  have hm := meth_bok
  rw [fOk_bye]
  have k0 := Blk.new w 97 #[.int .i64 3, .int .i64 y, .int .i64 t, .int .i64 v]
  have b0 := Lib.hid ((Below.refl w.heap.size w).alloc (Nat.le_refl _) (.cells #[.int .i64 3, .int .i64 y, .int .i64 t, .int .i64 v] 97))
  have K0 := Lib.hid k0
  clear k0
  by_cases hy : y = 0
  · subst hy
    by_cases ht : t = 0
    · subst ht
      by_cases hv : v = 0
      · subst hv
        go_enter Tryz.func167, Tryz.ntmps167
        go_wp2_with fail
        refine (bodyOf_bye 0 0 0 _).mono ?_
        rintro e w1 ⟨rfl, hb1⟩
        have k1 := K0.out.below hb1
        have B1 := Lib.hid (b0.out.trans (hb1.mono (by simp)))
        have q1 := k1.cell
        have K1 := Lib.hid k1
        clear hb1 k1
        go_wp2_with fail
        go_region_with (first
          | (go_at_call 370; refine (byeOk_any _).mono ?_; rintro e w2 ⟨rfl, hb2⟩; have k2 := K1.out.drew.below hb2; have q2 := k2.cell; have K2 := Lib.hid k2; have B2 := Lib.hid (below_next B1.out.drew hb2); clear hb2 k2)
          | (go_at_call 156; refine (frameOf_bye _).mono ?_; rintro e w3 ⟨rfl, hb3⟩; have k3 := K2.out.below hb3; have q3 := k3.cell; have B3 := Lib.hid (below_next B2.out hb3); clear hb3 k3))
        all_goals
          go_wp2
          go_ret
          exact ⟨rfl, B3.out⟩
      · have hv0 : (v == 0) = false := by simp [hv]
        have hv1 : ((0 : Int) == v) = false := by simp; omega
        rw [hv0, Bool.and_false]
        clear hv hv0
        go_enter Tryz.func167, Tryz.ntmps167
        go_wp2_with fail
        refine (bodyOf_bye 0 0 v _).mono ?_
        rintro e w1 ⟨rfl, hb1⟩
        have k1 := K0.out.below hb1
        have B1 := Lib.hid (b0.out.trans (hb1.mono (by simp)))
        have q1 := k1.cell
        have K1 := Lib.hid k1
        clear hb1 k1
        go_wp2_with fail
        go_region_with (first
          | (go_at_call 370; refine (byeOk_any _).mono ?_; rintro e w2 ⟨rfl, hb2⟩; have k2 := K1.out.drew.below hb2; have q2 := k2.cell; have K2 := Lib.hid k2; have B2 := Lib.hid (below_next B1.out.drew hb2); clear hb2 k2)
          | (go_at_call 156; refine (frameOf_bye _).mono ?_; rintro e w3 ⟨rfl, hb3⟩; have k3 := K2.out.below hb3; have q3 := k3.cell; have B3 := Lib.hid (below_next B2.out hb3); clear hb3 k3))
        all_goals
          go_wp2
          go_ret
          exact ⟨rfl, B3.out⟩
    · have ht0 : (t == 0) = false := by simp [ht]
      have ht1 : ((0 : Int) == t) = false := by simp; omega
      rw [ht0, Bool.and_false, Bool.false_and]
      clear ht ht0
      go_enter Tryz.func167, Tryz.ntmps167
      go_wp2_with fail
      refine (bodyOf_bye 0 t v _).mono ?_
      rintro e w1 ⟨rfl, hb1⟩
      have k1 := K0.out.below hb1
      have B1 := Lib.hid (b0.out.trans (hb1.mono (by simp)))
      have q1 := k1.cell
      have K1 := Lib.hid k1
      clear hb1 k1
      go_wp2_with fail
      go_region_with (first
        | (go_at_call 370; refine (byeOk_any _).mono ?_; rintro e w2 ⟨rfl, hb2⟩; have k2 := K1.out.drew.below hb2; have q2 := k2.cell; have K2 := Lib.hid k2; have B2 := Lib.hid (below_next B1.out.drew hb2); clear hb2 k2)
        | (go_at_call 156; refine (frameOf_bye _).mono ?_; rintro e w3 ⟨rfl, hb3⟩; have k3 := K2.out.below hb3; have q3 := k3.cell; have B3 := Lib.hid (below_next B2.out hb3); clear hb3 k3))
      all_goals
        go_wp2
        go_ret
        exact ⟨rfl, B3.out⟩
  · have hy0 : (y == 0) = false := by simp [hy]
    have hy1 : ((0 : Int) == y) = false := by simp; omega
    rw [hy0, Bool.false_and, Bool.false_and]
    clear hy hy0
    go_enter Tryz.func167, Tryz.ntmps167
    go_wp2_with fail
    refine (bodyOf_bye y t v _).mono ?_
    rintro e w1 ⟨rfl, hb1⟩
    have k1 := K0.out.below hb1
    have B1 := Lib.hid (b0.out.trans (hb1.mono (by simp)))
    have q1 := k1.cell
    have K1 := Lib.hid k1
    clear hb1 k1
    go_wp2_with fail
    go_region_with (first
      | (go_at_call 370; refine (byeOk_any _).mono ?_; rintro e w2 ⟨rfl, hb2⟩; have k2 := K1.out.drew.below hb2; have q2 := k2.cell; have K2 := Lib.hid k2; have B2 := Lib.hid (below_next B1.out.drew hb2); clear hb2 k2)
      | (go_at_call 156; refine (frameOf_bye _).mono ?_; rintro e w3 ⟨rfl, hb3⟩; have k3 := K2.out.below hb3; have q3 := k3.cell; have B3 := Lib.hid (below_next B2.out hb3); clear hb3 k3))
    all_goals
      go_wp2
      go_ret
      exact ⟨rfl, B3.out⟩
theorem implFrameOk_none (k y t v : Int) (h1 : (k == 1) = false) (h2 : (k == 2) = false) (h3 : (k == 3) = false) (w : World) :
    Calls Tryz.prog 167 #[(.agg #[.int .i64 k, .int .i64 y, .int .i64 t, .int .i64 v])] w fun e w' => e = .returned (.bool (fOk k y t v)) ∧ Below w.heap.size w w' := by
  rw [fOk_none y t v h1 h2 h3]
  have b0 := Lib.hid ((Below.refl w.heap.size w).alloc (Nat.le_refl _) (.cells #[.int .i64 k, .int .i64 y, .int .i64 t, .int .i64 v] 97))
  go_enter Tryz.func167, Tryz.ntmps167
  go_wp2_with fail
  refine (bodyOf_none k y t v h1 h2 h3 _).mono ?_
  rintro e w1 ⟨rfl, hb1⟩
  have B1 := Lib.hid (b0.out.trans (hb1.mono (by simp)))
  clear hb1
  go_wp2_with fail
  go_quiet (fail)
  go_wp2
  go_ret
  exact ⟨rfl, below_drewN B1.out _⟩

end Go.Proofs.YtnfhlfbkdhpacaaGreatDoor

/- impl.FrameOk at events and marks. -/
namespace Go.Proofs.YtnfhlfbkdhpacaaGreatDoor
open Go.RowKit

set_option maxHeartbeats 1600000 in
theorem implFrameOk_event (y t v : Int) (w : World) :
    Calls Tryz.prog 167 #[(.agg #[.int .i64 1, .int .i64 y, .int .i64 t, .int .i64 v])] w fun e w' => e = .returned (.bool (fOk 1 y t v)) ∧ Below w.heap.size w w' := by
  have hm := meth_eok
  have ey : (y == y) = true := by simp
  have et : (t == t) = true := by simp
  have ev : (v == v) = true := by simp
  have k0 := Blk.new w 97 #[.int .i64 1, .int .i64 y, .int .i64 t, .int .i64 v]
  have b0 := Lib.hid ((Below.refl w.heap.size w).alloc (Nat.le_refl _) (.cells #[.int .i64 1, .int .i64 y, .int .i64 t, .int .i64 v] 97))
  have K0 := Lib.hid k0
  clear k0
  cases hf : fOk 1 y t v with
  | true =>
    go_enter Tryz.func167, Tryz.ntmps167
    go_wp2_with fail
    refine (bodyOf_event y t v _).mono ?_
    rintro e w1 ⟨rfl, hb1⟩
    have k1 := K0.out.below hb1
    have B1 := Lib.hid (b0.out.trans (hb1.mono (by simp)))
    have q1 := k1.cell
    have K1 := Lib.hid k1
    clear hb1 k1
    go_wp2_with fail
    go_region_with (first
      | (go_at_call 366; refine (eventOk_any y t v _).mono ?_; rintro e w2 ⟨rfl, hb2⟩; have k2 := K1.out.drew.below hb2; have q2 := k2.cell; have K2 := Lib.hid k2; have B2 := Lib.hid (below_next B1.out.drew hb2); clear hb2 k2)
      | (go_at_call 156; refine (frameOf_event y t v _).mono ?_; rintro e w3 ⟨rfl, hb3⟩; have k3 := K2.out.below hb3; have q3 := k3.cell; have B3 := Lib.hid (below_next B2.out hb3); clear hb3 k3))
    all_goals
      go_wp2
      go_ret
      exact ⟨rfl, B3.out⟩
  | false =>
    have hok := fun W => eventOk_any y t v W
    rw [hf] at hok
    have HO := Lib.hid hok
    clear hok hf
    go_enter Tryz.func167, Tryz.ntmps167
    go_wp2_with fail
    refine (bodyOf_event y t v _).mono ?_
    rintro e w1 ⟨rfl, hb1⟩
    have k1 := K0.out.below hb1
    have B1 := Lib.hid (b0.out.trans (hb1.mono (by simp)))
    have q1 := k1.cell
    have K1 := Lib.hid k1
    clear hb1 k1
    go_wp2_with fail
    first | go_region_with (go_at_call 366; refine (HO.out _).mono ?_; rintro e w2 ⟨rfl, hb2⟩; have B2 := Lib.hid (below_next B1.out.drew hb2); clear hb2) | fail
    all_goals
      go_wp2
      go_ret
      exact ⟨rfl, B2.out⟩
set_option maxHeartbeats 1600000 in
theorem implFrameOk_mark (y t v : Int) (w : World) :
    Calls Tryz.prog 167 #[(.agg #[.int .i64 2, .int .i64 y, .int .i64 t, .int .i64 v])] w fun e w' => e = .returned (.bool (fOk 2 y t v)) ∧ Below w.heap.size w w' := by
  have hm := meth_mok
  have et : (t == t) = true := by simp
  rw [fOk_mark]
  have k0 := Blk.new w 97 #[.int .i64 2, .int .i64 y, .int .i64 t, .int .i64 v]
  have b0 := Lib.hid ((Below.refl w.heap.size w).alloc (Nat.le_refl _) (.cells #[.int .i64 2, .int .i64 y, .int .i64 t, .int .i64 v] 97))
  have K0 := Lib.hid k0
  clear k0
  cases hf : inB t 0 1000000 with
  | false =>
    rw [Bool.and_false, Bool.false_and]
    have hok := fun W => markOk_any t W
    rw [hf] at hok
    have HO := Lib.hid hok
    clear hok hf
    go_enter Tryz.func167, Tryz.ntmps167
    go_wp2_with fail
    refine (bodyOf_mark y t v _).mono ?_
    rintro e w1 ⟨rfl, hb1⟩
    have k1 := K0.out.below hb1
    have B1 := Lib.hid (b0.out.trans (hb1.mono (by simp)))
    have q1 := k1.cell
    have K1 := Lib.hid k1
    clear hb1 k1
    go_wp2_with fail
    first | go_region_with (go_at_call 368; refine (HO.out _).mono ?_; rintro e w2 ⟨rfl, hb2⟩; have B2 := Lib.hid (below_next B1.out.drew hb2); clear hb2) | fail
    all_goals
      go_wp2
      go_ret
      exact ⟨rfl, B2.out⟩
  | true =>
    rw [Bool.and_true]
    by_cases hy : y = 0
    · subst hy
      by_cases hv : v = 0
      · subst hv
        go_enter Tryz.func167, Tryz.ntmps167
        go_wp2_with fail
        refine (bodyOf_mark 0 t 0 _).mono ?_
        rintro e w1 ⟨rfl, hb1⟩
        have k1 := K0.out.below hb1
        have B1 := Lib.hid (b0.out.trans (hb1.mono (by simp)))
        have q1 := k1.cell
        have K1 := Lib.hid k1
        clear hb1 k1
        go_wp2_with fail
        go_region_with (first
          | (go_at_call 368; refine (markOk_any t _).mono ?_; rintro e w2 ⟨rfl, hb2⟩; have k2 := K1.out.drew.below hb2; have q2 := k2.cell; have K2 := Lib.hid k2; have B2 := Lib.hid (below_next B1.out.drew hb2); clear hb2 k2)
          | (go_at_call 156; refine (frameOf_mark t _).mono ?_; rintro e w3 ⟨rfl, hb3⟩; have k3 := K2.out.below hb3; have q3 := k3.cell; have B3 := Lib.hid (below_next B2.out hb3); clear hb3 k3))
        all_goals
          go_wp2
          go_ret
          exact ⟨rfl, B3.out⟩
      · have hv0 : (v == 0) = false := by simp [hv]
        have hv1 : ((0 : Int) == v) = false := by simp; omega
        rw [hv0, Bool.and_false]
        clear hv hv0
        go_enter Tryz.func167, Tryz.ntmps167
        go_wp2_with fail
        refine (bodyOf_mark 0 t v _).mono ?_
        rintro e w1 ⟨rfl, hb1⟩
        have k1 := K0.out.below hb1
        have B1 := Lib.hid (b0.out.trans (hb1.mono (by simp)))
        have q1 := k1.cell
        have K1 := Lib.hid k1
        clear hb1 k1
        go_wp2_with fail
        go_region_with (first
          | (go_at_call 368; refine (markOk_any t _).mono ?_; rintro e w2 ⟨rfl, hb2⟩; have k2 := K1.out.drew.below hb2; have q2 := k2.cell; have K2 := Lib.hid k2; have B2 := Lib.hid (below_next B1.out.drew hb2); clear hb2 k2)
          | (go_at_call 156; refine (frameOf_mark t _).mono ?_; rintro e w3 ⟨rfl, hb3⟩; have k3 := K2.out.below hb3; have q3 := k3.cell; have B3 := Lib.hid (below_next B2.out hb3); clear hb3 k3))
        all_goals
          go_wp2
          go_ret
          exact ⟨rfl, B3.out⟩
    · have hy0 : (y == 0) = false := by simp [hy]
      have hy1 : ((0 : Int) == y) = false := by simp; omega
      rw [hy0, Bool.false_and]
      clear hy hy0
      go_enter Tryz.func167, Tryz.ntmps167
      go_wp2_with fail
      refine (bodyOf_mark y t v _).mono ?_
      rintro e w1 ⟨rfl, hb1⟩
      have k1 := K0.out.below hb1
      have B1 := Lib.hid (b0.out.trans (hb1.mono (by simp)))
      have q1 := k1.cell
      have K1 := Lib.hid k1
      clear hb1 k1
      go_wp2_with fail
      go_region_with (first
        | (go_at_call 368; refine (markOk_any t _).mono ?_; rintro e w2 ⟨rfl, hb2⟩; have k2 := K1.out.drew.below hb2; have q2 := k2.cell; have K2 := Lib.hid k2; have B2 := Lib.hid (below_next B1.out.drew hb2); clear hb2 k2)
        | (go_at_call 156; refine (frameOf_mark t _).mono ?_; rintro e w3 ⟨rfl, hb3⟩; have k3 := K2.out.below hb3; have q3 := k3.cell; have B3 := Lib.hid (below_next B2.out hb3); clear hb3 k3))
      all_goals
        go_wp2
        go_ret
        exact ⟨rfl, B3.out⟩

end Go.Proofs.YtnfhlfbkdhpacaaGreatDoor

/- impl.FrameOk tells what is a frame. -/
namespace Go.Proofs.YtnfhlfbkdhpacaaGreatDoor
open Go.RowKit

theorem implFrameOk_any (k y t v : Int) (w : World) :
    Calls Tryz.prog 167 #[(.agg #[.int .i64 k, .int .i64 y, .int .i64 t, .int .i64 v])] w fun e w' => e = .returned (.bool (fOk k y t v)) ∧ Below w.heap.size w w' := by
  by_cases h1 : k = 1
  · subst h1; exact implFrameOk_event y t v w
  by_cases h2 : k = 2
  · subst h2; exact implFrameOk_mark y t v w
  by_cases h3 : k = 3
  · subst h3; exact implFrameOk_bye y t v w
  exact implFrameOk_none k y t v (by simp [h1]) (by simp [h2]) (by simp [h3]) w

end Go.Proofs.YtnfhlfbkdhpacaaGreatDoor

/- Contracts of spec.Check and impl.Check: both are the one remainder (crc) of whatever bytes. -/
namespace Go.Proofs.YtnfhlfbkdhpacaaGreatDoor
open Go.RowKit

set_option maxRecDepth 100000 in
set_option maxHeartbeats 1000000 in
theorem specCheck_any (a : Option Addr) (n c : Nat) (xs : List Int) (hi : Nat) (w : World) (hr : Nums .u8 w hi a c xs) (hn : n = xs.length) (hx : IsB xs) :
    Calls Tryz.prog 232 #[.slice a n c] w fun e w' => e = .returned (.int .i64 (crc xs)) ∧ w = w' := by
  subst hn
  have hc1 := hr.cap
  have hc2 := hr.big
  rcases hr.lies with h0 | ⟨b, off, rfl, hb, hc⟩
  · subst h0
    have hz : Hid (crc [] = 0) := by unfold crc crcTo foldTo; rfl
    rw [hz.out]
    clear hr
    go_enter Tryz.func232, Tryz.ntmps232
    go_wp2
    go_loop [3, 4, 5] (fun c i _ => i = .int .i64 0 ∧ c = .int .i64 4294967295) (fun _ i _ => 0)
    case atStart => exact ⟨rfl, rfl⟩
    case round =>
      obtain ⟨rfl, rfl⟩ := hrel
      go_wp2
      go_ret
      exact ⟨rfl, rfl⟩
  · have HC := Lib.hid hc
    have HX := Lib.hid hx
    clear hc hr hx
    go_enter Tryz.func232, Tryz.ntmps232
    go_wp2
    go_loop [3, 4, 5] (fun c i _ => ∃ k : Nat, k ≤ xs.length ∧ i = .int .i64 k ∧ c = .int .i64 (crcTo xs k)) (fun _ i _ => xs.length - (intOf i).toNat)
    case atStart => exact ⟨0, Nat.zero_le _, rfl, rfl⟩
    case round =>
      obtain ⟨k, hk, rfl, rfl⟩ := hrel
      have hcb := crcTo_bd HX.out k hk
      by_cases hlt : k < xs.length
      · have hck := HC.out k hlt
        have hxb := el_bd HX.out k
        have HS := Lib.hid (crcTo_succ xs k hlt)
        generalize crcTo xs k = C at HS hcb ⊢
        generalize el xs k = x at HS hck hxb ⊢
        obtain ⟨hc0, hc1'⟩ := hcb
        obtain ⟨hx0, hx1⟩ := hxb
        have hdb := xorI_bd hc0 hc1' hx0 (show x ≤ 4294967295 by omega)
        have hxr := xor_i64 hc0 hc1' hx0 (show x ≤ 4294967295 by omega)
        have HS2 : Hid (crcTo xs (k + 1) = crcBits (xorI C x) 8) := HS.out
        generalize xorI C x = D at hdb hxr HS2
        obtain ⟨hd0, hd1⟩ := hdb
        go_wp2
        go_loop [3, 5] (fun c j => ∃ m : Nat, m ≤ 8 ∧ j = .int .i64 m ∧ c = .int .i64 (crcBits D m)) (fun _ j => 8 - (intOf j).toNat)
        case atStart => exact ⟨0, by omega, rfl, rfl⟩
        case round =>
          obtain ⟨m, hm, rfl, rfl⟩ := hrel
          have heb := crcBits_bd hd0 hd1 m
          by_cases hm8 : m < 8
          · have HT : Hid (crcBits D (m + 1) = crcBit (crcBits D m)) := rfl
            generalize crcBits D m = E at HT heb ⊢
            obtain ⟨he0, he1⟩ := heb
            have hq0 : 0 ≤ E / 2 := by omega
            have hq1 : E / 2 ≤ 4294967295 := by omega
            cases ho : (E % 2 == 1) with
            | true =>
              have hyr := xor_i64 hq0 hq1 (show (0 : Int) ≤ 3988292384 by omega) (by omega)
              have HO := Lib.hid (crcBit_odd ho)
              go_wp2
              go_round
              case rel => exact ⟨m + 1, by omega, by go_num, by rw [HT.out, HO.out]⟩
              case measure => simp [intOf]; omega
            | false =>
              have HO := Lib.hid (crcBit_even ho)
              go_wp2
              go_round
              case rel => exact ⟨m + 1, by omega, by go_num, by rw [HT.out, HO.out]⟩
              case measure => simp [intOf]; omega
          · obtain rfl : m = 8 := by omega
            go_wp2
            go_round
            case rel => exact ⟨k + 1, by omega, by go_num, by rw [HS2.out]⟩
            case measure => simp [intOf]; omega
      · obtain rfl : k = xs.length := by omega
        have HE : Hid (crc xs = 4294967295 - crcTo xs xs.length) := rfl
        generalize crcTo xs xs.length = C at hcb HE ⊢
        obtain ⟨hc0, hc1'⟩ := hcb
        go_wp2
        go_ret
        exact ⟨ret_int HE.out.symm, rfl⟩
set_option maxRecDepth 100000 in
set_option maxHeartbeats 1000000 in
theorem implCheck_any (a : Option Addr) (n c : Nat) (xs : List Int) (hi : Nat) (w : World) (hr : Nums .u8 w hi a c xs) (hn : n = xs.length) (hx : IsB xs) :
    Calls Tryz.prog 202 #[.slice a n c] w fun e w' => e = .returned (.int .i64 (crc xs)) ∧ w = w' := by
  subst hn
  have hc1 := hr.cap
  have hc2 := hr.big
  rcases hr.lies with h0 | ⟨b, off, rfl, hb, hc⟩
  · subst h0
    have hz : Hid (crc [] = 0) := by unfold crc crcTo foldTo; rfl
    rw [hz.out]
    clear hr
    have hnot := not_u32 (show (0 : Int) ≤ 4294967295 by omega) (by omega)
    have e0 : (4294967295 : Int) - 4294967295 = 0 := by omega
    rw [e0] at hnot
    clear e0
    go_enter Tryz.func202, Tryz.ntmps202
    go_wp2
    go_loop [3, 5, 6, 9, 17] (fun c _ _ i _ => i = .int .i64 0 ∧ c = .int .u32 4294967295) (fun _ _ _ i _ => 0)
    case atStart => exact ⟨rfl, rfl⟩
    case round =>
      obtain ⟨rfl, rfl⟩ := hrel
      go_wp2
      go_ret
      exact ⟨ret_int (a := wrap64 0) (by unfold wrap64; omega), rfl⟩
  · have HC := Lib.hid hc
    have HX := Lib.hid hx
    clear hc hr hx
    go_enter Tryz.func202, Tryz.ntmps202
    go_wp2
    go_loop [3, 5, 6, 9, 17] (fun c _ _ i _ => ∃ k : Nat, k ≤ xs.length ∧ i = .int .i64 k ∧ c = .int .u32 (crcTo xs k)) (fun _ _ _ i _ => xs.length - (intOf i).toNat)
    case atStart => exact ⟨0, Nat.zero_le _, rfl, rfl⟩
    case round =>
      obtain ⟨k, hk, rfl, rfl⟩ := hrel
      have hcb := crcTo_bd HX.out k hk
      by_cases hlt : k < xs.length
      · have hck := HC.out k hlt
        have hxb := el_bd HX.out k
        have HS := Lib.hid (crcTo_succ xs k hlt)
        generalize crcTo xs k = C at HS hcb ⊢
        generalize el xs k = x at HS hck hxb ⊢
        obtain ⟨hc0, hc1'⟩ := hcb
        obtain ⟨hx0, hx1⟩ := hxb
        have hdb := xorI_bd hc0 hc1' hx0 (show x ≤ 4294967295 by omega)
        have hxr := xor_u32 hc0 hc1' hx0 (show x ≤ 4294967295 by omega)
        have HS2 : Hid (crcTo xs (k + 1) = crcBits (xorI C x) 8) := HS.out
        generalize xorI C x = D at hdb hxr HS2
        obtain ⟨hd0, hd1⟩ := hdb
        go_wp2
        go_loop [3, 6, 17] (fun c _ j => ∃ m : Nat, m ≤ 8 ∧ j = .int .i64 m ∧ c = .int .u32 (crcBits D m)) (fun _ _ j => 8 - (intOf j).toNat)
        case atStart => exact ⟨0, by omega, rfl, rfl⟩
        case round =>
          obtain ⟨m, hm, rfl, rfl⟩ := hrel
          have heb := crcBits_bd hd0 hd1 m
          by_cases hm8 : m < 8
          · have HT : Hid (crcBits D (m + 1) = crcBit (crcBits D m)) := rfl
            generalize crcBits D m = E at HT heb ⊢
            obtain ⟨he0, he1⟩ := heb
            have hq0 : 0 ≤ E / 2 := by omega
            have hq1 : E / 2 ≤ 4294967295 := by omega
            have ha1 := and1_u32 he0 he1
            cases ho : (E % 2 == 1) with
            | true =>
              have hyr := xor_u32 hq0 hq1 (show (0 : Int) ≤ 3988292384 by omega) (by omega)
              have HO := Lib.hid (crcBit_odd ho)
              go_wp2
              go_round
              case rel => exact ⟨m + 1, by omega, by go_num, by rw [HT.out, HO.out]⟩
              case measure => simp [intOf]; omega
            | false =>
              have HO := Lib.hid (crcBit_even ho)
              go_wp2
              go_round
              case rel => exact ⟨m + 1, by omega, by go_num, by rw [HT.out, HO.out]⟩
              case measure => simp [intOf]; omega
          · obtain rfl : m = 8 := by omega
            go_wp2
            go_round
            case rel => exact ⟨k + 1, by omega, by go_num, by rw [HS2.out]⟩
            case measure => simp [intOf]; omega
      · obtain rfl : k = xs.length := by omega
        have HE : Hid (crc xs = 4294967295 - crcTo xs xs.length) := rfl
        generalize crcTo xs xs.length = C at hcb HE ⊢
        obtain ⟨hc0, hc1'⟩ := hcb
        have hnot := not_u32 hc0 hc1'
        go_wp2
        go_ret
        exact ⟨ret_int (by rw [HE.out]; unfold wrap64; omega), rfl⟩

end Go.Proofs.YtnfhlfbkdhpacaaGreatDoor

/- Rows of records of one size, whatever the record: how they read, as an argument's row and as a row of the call's own; marks written through them. No program. -/
namespace Go.Proofs.YtnfhlfbkdhpacaaGreatDoor
open Go.RowKit

section
variable {α : Type} (enc : α → List Value) (sz : Nat) (d : α)
/-- The cells of a list of records. -/
def flatR (l : List α) : List Value := l.flatMap enc
theorem flatR_nil : flatR enc ([] : List α) = [] := rfl
theorem flatR_cons (x : α) (l : List α) : flatR enc (x :: l) = enc x ++ flatR enc l := rfl
theorem flatR_append (l m : List α) : flatR enc (l ++ m) = flatR enc l ++ flatR enc m := by simp [flatR]
theorem flatR_snoc (l : List α) (x : α) : flatR enc (l ++ [x]) = flatR enc l ++ enc x := by simp [flatR]
theorem flatR_len (hsz : ∀ x, (enc x).length = sz) (l : List α) : (flatR enc l).length = l.length * sz := by
  induction l with
  | nil => simp [flatR]
  | cons x l ih => rw [flatR_cons, List.length_append, ih, hsz, List.length_cons, Nat.succ_mul]; omega
/-- The record at i. -/
def rel (l : List α) (i : Nat) : α := l.getD i d
theorem rel_lt {l : List α} {i : Nat} (hi : i < l.length) : rel d l i = l[i] := by simp [rel, List.getD, hi]
theorem rel_cons_succ (x : α) (l : List α) (i : Nat) : rel d (x :: l) (i + 1) = rel d l i := by simp [rel]
theorem rel_take {l : List α} {i : Nat} (hi : i < l.length) : l.take (i + 1) = l.take i ++ [rel d l i] := by
  rw [List.take_succ_eq_append_getElem hi, rel_lt d hi]
theorem rel_drop {l : List α} {i : Nat} (hi : i < l.length) : l.drop i = rel d l i :: l.drop (i + 1) := by
  rw [List.drop_eq_getElem_cons hi, rel_lt d hi]
theorem rel_map {β : Type} (f : α → β) (e : β) {l : List α} {i : Nat} (hi : i < l.length) : rel e (l.map f) i = f (rel d l i) := by simp [rel, List.getD, hi]
theorem flatR_at (hsz : ∀ x, (enc x).length = sz) (l : List α) (i q : Nat) (hi : i < l.length) (hq : q < sz) : (flatR enc l)[i * sz + q]? = (enc (rel d l i))[q]? := by
  induction l generalizing i with
  | nil => simp at hi
  | cons x l ih =>
    rw [flatR_cons]
    cases i with
    | zero => rw [Nat.zero_mul, Nat.zero_add, List.getElem?_append_left (by rw [hsz]; exact hq)]; simp [rel]
    | succ i =>
      rw [List.getElem?_append_right (by rw [hsz, Nat.succ_mul]; omega), hsz, rel_cons_succ, show (i + 1) * sz + q - sz = i * sz + q by rw [Nat.succ_mul]; omega]
      exact ih i (by simpa using hi)

/-- A slice of records, all below block hi, reads as l. -/
structure Recs (w : World) (hi : Nat) (a : Option Addr) (c : Nat) (l : List α) : Prop where
  cap : l.length ≤ c
  big : c ≤ 9223372036854775807
  lies : l = [] ∨ ∃ b off, a = some ⟨b, off, none⟩ ∧ b < hi ∧ ∀ i, i < l.length → ∀ q, q < sz → w.cell? ⟨b, off + i * sz + q, none⟩ = (enc (rel d l i))[q]?
end
section
variable {α : Type} {enc : α → List Value} {sz : Nat} {d : α} {w w' : World} {hi hi' c : Nat} {a : Option Addr} {l : List α}
theorem Recs.below (h : Recs enc sz d w hi a c l) (hb : Below hi w w') : Recs enc sz d w' hi a c l :=
  ⟨h.cap, h.big, h.lies.imp id fun ⟨b, off, ha, hlt, hc⟩ => ⟨b, off, ha, hlt, fun i hi' q hq => (hb.cell (p := ⟨b, off + i * sz + q, none⟩) hlt).trans (hc i hi' q hq)⟩⟩
theorem Recs.more (h : Recs enc sz d w hi a c l) (hh : hi ≤ hi') : Recs enc sz d w hi' a c l :=
  ⟨h.cap, h.big, h.lies.imp id fun ⟨b, off, ha, hlt, hc⟩ => ⟨b, off, ha, Nat.lt_of_lt_of_le hlt hh, hc⟩⟩
theorem Recs.none_ (w : World) (hi : Nat) : Recs enc sz d w hi none 0 [] := ⟨Nat.le_refl _, by omega, .inl rfl⟩
theorem Recs.cells (h : Recs enc sz d w hi a c l) (hne : 0 < l.length) : ∃ b off, a = some ⟨b, off, none⟩ ∧ b < hi ∧ ∀ i, i < l.length → ∀ q, q < sz → w.cell? ⟨b, off + i * sz + q, none⟩ = (enc (rel d l i))[q]? :=
  h.lies.resolve_left (by intro h; subst h; simp at hne)
/-- A row of the call's own: its length, its capacity's bounds, where it lies. -/
theorem ownR_len {T : TypeId} {lo n : Nat} (hsz : ∀ x, (enc x).length = sz) (h0 : 0 < sz) (h : w.ownsRow lo T sz (.slice a n c) n (flatR enc l)) : n = l.length := by
  have h1 := h.1
  rw [flatR_len enc sz hsz] at h1
  exact (Nat.eq_of_mul_eq_mul_right h0 h1).symm
theorem ownR_cap {T : TypeId} {lo n : Nat} {xs : List Value} (h : w.ownsRow lo T sz (.slice a n c) n xs) : n ≤ c ∧ c ≤ 9223372036854775807 := by
  rcases h.2 with ⟨hv, h1⟩ | ⟨g, cap, cur, hv, hlo, hh, h1, h2, _⟩
  · simp only [Value.slice.injEq] at hv
    omega
  · simp only [Value.slice.injEq] at hv
    unfold maxLen at h2
    omega
theorem ownR_block {T : TypeId} {lo n : Nat} {xs : List Value} (h : w.ownsRow lo T sz (.slice a n c) n xs) (hn : 1 ≤ n) : ∃ g, a = some ⟨g, 0, none⟩ ∧ lo ≤ g ∧ g < w.heap.size := by
  rcases h.2 with ⟨hv, h1⟩ | ⟨g, cap, cur, hv, hlo, hh, _⟩
  · omega
  · simp only [Value.slice.injEq] at hv
    exact ⟨g, hv.1, hlo, (Array.getElem?_eq_some_iff.1 hh).1⟩
theorem Recs.of_own {T : TypeId} {lo n : Nat} (hsz : ∀ x, (enc x).length = sz) (h0 : 0 < sz) (h : w.ownsRow lo T sz (.slice a n c) n (flatR enc l)) : Recs enc sz d w w.heap.size a c l := by
  have hn := ownR_len hsz h0 h
  subst hn
  have hc := ownR_cap h
  refine ⟨hc.1, hc.2, ?_⟩
  rcases Nat.eq_zero_or_pos l.length with h1 | h1
  · exact .inl (List.length_eq_zero_iff.1 h1)
  · obtain ⟨g, rfl, hg, hlt⟩ := ownR_block h h1
    refine .inr ⟨g, 0, rfl, hlt, fun i hi q hq => ?_⟩
    rw [Nat.zero_add, h.cellAt (i * sz + q) (by
      have := Nat.mul_le_mul_right sz (show i + 1 ≤ l.length from hi)
      rw [Nat.succ_mul] at this
      omega)]
    exact flatR_at enc sz d hsz l i q hi hq
theorem Rw.recs {T : TypeId} {lo up n : Nat} (hsz : ∀ x, (enc x).length = sz) (h0 : 0 < sz) (h : Rw T sz lo up a n c (flatR enc l) w) : Recs enc sz d w w.heap.size a c l := Recs.of_own hsz h0 h.own
/-- The records from m on. -/
theorem Recs.drop (h : Recs enc sz d w hi a c l) (m : Nat) (hm : m ≤ l.length) : Recs enc sz d w hi (if c = m then a else a.map (·.add (m * sz))) (c - m) (l.drop m) := by
  have hcap := h.cap
  refine ⟨by simp; omega, by have := h.big; omega, ?_⟩
  by_cases he : m = l.length
  · exact .inl (by subst he; simp)
  · obtain ⟨b, off, rfl, hlt', hc⟩ := h.cells (by omega)
    refine .inr ⟨b, off + m * sz, ?_, hlt', fun i hi' q hq => ?_⟩
    · rw [if_neg (by omega)]
      simp only [Option.map, Addr.add]
      by_cases h0 : m * sz = 0
      · simp [h0]
      · simp [h0]
    · have e : rel d (l.drop m) i = rel d l (m + i) := by simp [rel, List.getD]
      rw [e]
      have := hc (m + i) (by simp at hi'; omega) q hq
      rw [Nat.add_mul] at this
      rw [← this]
      congr 2
      omega
/-- The records up to m (the capacity may shrink to c'). -/
theorem Recs.take {c' : Nat} (h : Recs enc sz d w hi a c l) (m : Nat) (hm : m ≤ l.length) (hc' : m ≤ c') (hcc : c' ≤ c) : Recs enc sz d w hi a c' (l.take m) := by
  refine ⟨by simp; omega, by have := h.big; omega, ?_⟩
  rcases Nat.eq_zero_or_pos m with rfl | h0
  · exact .inl (by simp)
  · obtain ⟨b, off, rfl, hlt', hc⟩ := h.cells (by omega)
    refine .inr ⟨b, off, rfl, hlt', fun i hi' q hq => ?_⟩
    have hi2 : i < m := by simp at hi'; omega
    have e : rel d (l.take m) i = rel d l i := by simp [rel, List.getD, hi2]
    rw [e]
    exact hc i (by omega) q hq
end
section
/-- Marking a row leaves all that lies below the row's own base, and every row of another block. -/
structure MarkedR (T : TypeId) (sz lo : Nat) (a : Option Addr) (c n : Nat) (xs : List Value) (w w' : World) : Prop where
  own : w'.ownsRow lo T sz (.slice a n c) n xs
  below : Below lo w w'
  grown : w.grownBy w' (Value.slice a n c).ownBlock
theorem Blk.put_ {w : World} {g : Nat} {t : TypeId} {cs : Array Value} (h : Blk w g t cs) (i : Nat) (u : Value) : Blk (w.setCell ⟨g, i, none⟩ u) g t (cs.setIfInBounds i u) := by
  unfold Blk at h ⊢
  simp [World.setCell, Array.getElem?_modify, h]
/-- A call that hands back a row of records of its own. -/
def FreshR {α : Type} (enc : α → List Value) (T : TypeId) (sz : Nat) (l : List α) (w : World) (e : Ending) (w' : World) : Prop :=
  ∃ a c, e = .returned (.slice a l.length c) ∧ w'.ownsRow w.heap.size T sz (.slice a l.length c) l.length (flatR enc l) ∧ Below w.heap.size w w'
end
end Go.Proofs.YtnfhlfbkdhpacaaGreatDoor

/- Contracts of the laws' own helpers over slices of ints: the copy, the comparison, the marksI and what is held. The slice reads as a list (Nums), at most 1048576 long. -/
namespace Go.Proofs.YtnfhlfbkdhpacaaGreatDoor
open Go.RowKit

theorem infoI64 : (Tryz.prog.info? 3).map (fun i => (i.zero, i.size, i.bytes)) = some (some (.int .i64 0), 1, 8) := by kernel_rfl

/-- The marks that a caller writes into ints. -/
def marksI (m : Nat) (n : Nat) : List Int := (List.range n).map fun i : Nat => ((m : Int) + (i : Int))
theorem marksI_len (m n : Nat) : (marksI m n).length = n := by simp [marksI]
theorem marksI_el (m n i : Nat) (hi : i < n) : el (marksI m n) i = ((m : Int) + (i : Int)) := by simp [marksI, el, List.getD, hi]
/-- The row behind k marksI. -/
def markToI (m : Nat) (xs : List Int) (j : Nat) : List Int := (marksI m j) ++ xs.drop j
theorem markToI_zero (m : Nat) (xs : List Int) : markToI m xs 0 = xs := by simp [markToI, marksI]
theorem markToI_len (m : Nat) (xs : List Int) (j : Nat) (hj : j ≤ xs.length) : (markToI m xs j).length = xs.length := by simp [markToI, marksI_len]; omega
theorem markToI_all (m : Nat) (xs : List Int) : markToI m xs xs.length = marksI m xs.length := by simp [markToI]
theorem markToI_step (m : Nat) (xs : List Int) (j : Nat) (hj : j < xs.length) : (markToI m xs j).set j ((m : Int) + (j : Int)) = markToI m xs (j + 1) := by
  unfold markToI
  rw [List.set_append_right _ _ (by rw [marksI_len]; exact Nat.le_refl _), marksI_len, Nat.sub_self]
  rw [List.drop_eq_getElem_cons hj, List.set_cons_zero]
  simp [marksI, List.range_succ]

set_option maxHeartbeats 400000 in
theorem toInts_n (a : Option Addr) (n c : Nat) (xs : List Int) (hi : Nat) (w : World) (hr : Nums .i64 w hi a c xs) (hn : n = xs.length) (hB : hi ≤ w.heap.size) (hlen : xs.length ≤ 1048576) :
    Calls Tryz.prog 38 #[.slice a n c] w (FreshNums 3 .i64 xs w) := by
  subst hn
  have HF := Lib.hid (fresh_copy 3 .i64 xs w (by unfold maxLen; omega))
  have hmk := fun W => run_make_row' (P := Tryz.prog) 29 3 (.int .i64 0) 8 Tryz.underlying29 infoI64 rfl .i64 .i64 xs.length (by omega) (by omega) W
  rw [partK_zero] at hmk
  have hc1 := hr.cap
  have hc2 := hr.big
  rcases hr.lies with h0 | ⟨b, off, rfl, hb, hc⟩
  · subst h0
    have hmk0 : ∀ W, (Instr.makeSlice 29 (.int .i64 0) (.int .i64 0)).run Tryz.prog W = .ok (.slice (some ⟨W.heap.size, 0, none⟩) 0 0) (W.alloc (.cells (fullK .i64 []) 3)) := hmk
    clear hmk hr
    go_enter Tryz.func38, Tryz.ntmps38
    go_wp2
    go_loopw [4] (fun i wr => i = .int .i64 0 ∧ wr = w.alloc (.cells (fullK .i64 []) 3)) (fun i _ => 0 - (intOf i).toNat)
    case atStart => exact ⟨rfl, rfl⟩
    case round =>
      obtain ⟨rfl, rfl⟩ := hrel
      go_wp2
      go_ret
      exact HF.out
  · have HC := Lib.hid hc
    clear hc hr
    go_enter Tryz.func38, Tryz.ntmps38
    go_wp2
    go_loopw [4] (fun i wr => ∃ k : Nat, k ≤ xs.length ∧ i = .int .i64 k ∧ wr = w.alloc (.cells (partK .i64 xs k) 3)) (fun i _ => xs.length - (intOf i).toNat)
    case atStart => exact ⟨0, Nat.zero_le _, rfl, rfl⟩
    case round =>
      obtain ⟨k, hk, rfl, rfl⟩ := hrel
      by_cases hlt : k < xs.length
      · have hck := HC.out k hlt
        have hph := partK_here .i64 xs k hlt
        have hps := partK_step .i64 xs k hlt
        have hbw : b < w.heap.size := by omega
        go_wp2
        go_roundw
        case rel => exact ⟨k + 1, by omega, by go_num, rfl⟩
        case measure => simp [intOf]; omega
      · obtain rfl : k = xs.length := by omega
        go_wp2
        go_ret
        rw [partK_full]
        exact HF.out

set_option maxHeartbeats 400000 in
theorem eqInts_n (a b : Option Addr) (n m ca cb : Nat) (xs : List Int) (ha hb : Nat) (w : World) (h1 : Nums .i64 w ha a ca xs) (h2 : Nums .i64 w hb b cb xs) (hn : n = xs.length) (hm : m = xs.length) :
    Calls Tryz.prog 51 #[.slice a n ca, .slice b m cb] w fun e w' => e = .returned (.bool true) ∧ ∃ n, w' = w.drewN n := by
  subst hn
  subst hm
  have hc1 := h1.cap
  have hc2 := h1.big
  have hc3 := h2.cap
  by_cases h0 : xs = []
  · subst h0
    clear h1 h2
    go_enter Tryz.func51, Tryz.ntmps51
    go_wp2
    go_loopw [5] (fun i wr => i = .int .i64 0 ∧ wr = w) (fun i _ => 0 - (intOf i).toNat)
    case atStart => exact ⟨rfl, rfl⟩
    case round =>
      obtain ⟨rfl, rfl⟩ := hrel
      go_wp2
      go_ret
      exact ⟨rfl, 0, rfl⟩
  · rcases h1.lies with hl | ⟨b1, o1, rfl, hb1, hk1⟩
    · exact absurd hl h0
    rcases h2.lies with hl | ⟨b2, o2, rfl, hb2, hk2⟩
    · exact absurd hl h0
    have H1 := Lib.hid hk1
    have H2 := Lib.hid hk2
    clear hk1 hk2 h1 h2 h0
    go_enter Tryz.func51, Tryz.ntmps51
    go_wp2
    go_loopw [5] (fun i wr => ∃ k n : Nat, k ≤ xs.length ∧ i = .int .i64 k ∧ wr = w.drewN n) (fun i _ => xs.length - (intOf i).toNat)
    case atStart => exact ⟨0, 0, Nat.zero_le _, rfl, rfl⟩
    case round =>
      obtain ⟨k, n, hk, rfl, rfl⟩ := hrel
      by_cases hlt : k < xs.length
      · have hk1 := H1.out k hlt
        have hk2 := H2.out k hlt
        have hlt' : (k : Int) < (xs.length : Int) := by omega
        go_wp2
        go_quiet (fail)
        go_wp2
        go_roundw
        case rel => exact ⟨k + 1, _, by omega, by go_num, rfl⟩
        case measure => simp [intOf]; omega
      · obtain rfl : k = xs.length := by omega
        go_wp2
        go_ret
        exact ⟨rfl, n, rfl⟩

/-- What marking a row does: its numbers are the marksI; of the rest nothing has turned. -/
def MarkPostI (T : TypeId) (k : IntKind) (lo : Nat) (a : Option Addr) (c m n : Nat) (w : World) (e : Ending) (w' : World) : Prop :=
  e = .returned (.int .i64 ((m + n : Nat) : Int)) ∧ w'.ownsRow lo T 1 (.slice a n c) n ((marksI m n).map (Value.int k)) ∧ w.grownBy w' (Value.slice a n c).ownBlock

set_option maxHeartbeats 400000 in
theorem markInts_n (a : Option Addr) (c m : Nat) (xs : List Int) (lo : Nat) (w : World) (hr : w.ownsRow lo 3 1 (.slice a xs.length c) xs.length (xs.map (Value.int .i64))) (hlen : xs.length ≤ 1048576) (hm : m ≤ 1073741824) :
    Calls Tryz.prog 58 #[.slice a xs.length c, .int .i64 (m : Int)] w (MarkPostI 3 .i64 lo a c m xs.length w) := by
  obtain ⟨_, hN⟩ := Nums.of_own hr
  have hc1 := hN.cap
  have hc2 := hN.big
  clear hN
  by_cases h0 : xs = []
  · subst h0
    have HR := Lib.hid (show MarkPostI 3 .i64 lo a c m 0 w (.returned (.int .i64 (m : Int))) w from ⟨by simp, hr, World.grownBy.refl _ _⟩)
    clear hr
    go_enter Tryz.func58, Tryz.ntmps58
    go_wp2
    go_loopw [1, 5] (fun k i wr => i = .int .i64 0 ∧ k = .int .i64 (m : Int) ∧ wr = w) (fun _ i _ => 0 - (intOf i).toNat)
    case atStart => exact ⟨rfl, rfl, rfl⟩
    case round =>
      obtain ⟨rfl, rfl, rfl⟩ := hrel
      go_wp2
      go_ret
      exact HR.out
  · obtain ⟨g, rfl⟩ : ∃ g, a = some ⟨g, 0, none⟩ := by
      rcases hr.2 with ⟨hv, h1⟩ | ⟨g, cap, cur, hv, _⟩
      · exact absurd (List.length_eq_zero_iff.1 h1) h0
      · simp only [Value.slice.injEq] at hv
        exact ⟨g, hv.1⟩
    have HR := Lib.hid hr
    clear hr
    go_enter Tryz.func58, Tryz.ntmps58
    go_wp2
    go_loopw [1, 5] (fun k i wr => ∃ j : Nat, j ≤ xs.length ∧ i = .int .i64 j ∧ k = .int .i64 ((m + j : Nat) : Int) ∧ wr.ownsRow lo 3 1 (.slice (some ⟨g, 0, none⟩) xs.length c) xs.length ((markToI m xs j).map (Value.int .i64)) ∧ w.grownBy wr (some g)) (fun _ i _ => xs.length - (intOf i).toNat)
    case atStart => exact ⟨0, Nat.zero_le _, rfl, by simp, by rw [markToI_zero]; exact HR.out, World.grownBy.refl _ _⟩
    case round =>
      obtain ⟨j, hj, rfl, rfl, hown, hg⟩ := hrel
      by_cases hlt : j < xs.length
      · have hcell : wr.cell? ⟨g, j, none⟩ = some (.int .i64 (el (markToI m xs j) j)) := by rw [hown.cellAt j (by omega)]; exact el_cell _ _ _ (by rw [markToI_len _ _ _ hj]; exact hlt)
        have hfz := hown.frozenAt j
        have hst := hown.stored j (.int .i64 ((m : Int) + (j : Int)))
        rw [← List.map_set, markToI_step _ _ _ hlt] at hst
        have HS := Lib.hid hst
        have HG := Lib.hid hg
        clear hst hown hg
        go_wp2
        go_roundw
        case rel => exact ⟨j + 1, by omega, by go_num, by go_num, HS.out.1, grown_trans HG.out HS.out.2⟩
        case measure => simp [intOf]; omega
      · obtain rfl : j = xs.length := by omega
        rw [markToI_all] at hown
        have HP : Hid (MarkPostI 3 .i64 lo (some ⟨g, 0, none⟩) c m xs.length w (.returned (.int .i64 ((m + xs.length : Nat) : Int))) wr) := ⟨rfl, hown, hg⟩
        clear hown hg
        go_wp2
        go_ret
        exact HP.out


theorem szInts_n (a : Option Addr) (n c : Nat) (left : Int) (w : World) (hl0 : 0 ≤ left) (hl1 : left ≤ 1048576) (hn : n ≤ 9223372036854775807) :
    Calls Tryz.prog 30 #[.slice a n c, .int .i64 left] w fun e w' => e = .returned (.int .i64 (if left - (n : Int) < 0 then -1 else left - (n : Int))) ∧ w = w' := by
  by_cases h : left - (n : Int) < 0
  · rw [if_pos h]
    go_enter Tryz.func30, Tryz.ntmps30
    go_wp2
    go_ret
    exact ⟨rfl, rfl⟩
  · rw [if_neg h]
    go_enter Tryz.func30, Tryz.ntmps30
    go_wp2
    go_ret
    exact ⟨rfl, rfl⟩

end Go.Proofs.YtnfhlfbkdhpacaaGreatDoor

/- Contracts of the laws' own helpers over slices of bytes: the copy, the comparison, the marks and what is held. The slice reads as a list (Nums), at most 1048576 long. -/
namespace Go.Proofs.YtnfhlfbkdhpacaaGreatDoor
open Go.RowKit

theorem infoU8 : (Tryz.prog.info? 5).map (fun i => (i.zero, i.size, i.bytes)) = some (some (.int .u8 0), 1, 1) := by kernel_rfl

set_option maxHeartbeats 400000 in
theorem toBytes_any (a : Option Addr) (n c : Nat) (xs : List Int) (hi : Nat) (w : World) (hr : Nums .u8 w hi a c xs) (hn : n = xs.length) (hB : hi ≤ w.heap.size) (hlen : xs.length ≤ 1048576) :
    Calls Tryz.prog 193 #[.slice a n c] w (FreshNums 5 .u8 xs w) := by
  subst hn
  have HF := Lib.hid (fresh_copy 5 .u8 xs w (by unfold maxLen; omega))
  have hmk := fun W => run_make_row' (P := Tryz.prog) 60 5 (.int .u8 0) 1 Tryz.underlying60 infoU8 rfl .i64 .i64 xs.length (by omega) (by omega) W
  rw [partK_zero] at hmk
  have hc1 := hr.cap
  have hc2 := hr.big
  rcases hr.lies with h0 | ⟨b, off, rfl, hb, hc⟩
  · subst h0
    have hmk0 : ∀ W, (Instr.makeSlice 60 (.int .i64 0) (.int .i64 0)).run Tryz.prog W = .ok (.slice (some ⟨W.heap.size, 0, none⟩) 0 0) (W.alloc (.cells (fullK .u8 []) 5)) := hmk
    clear hmk hr
    go_enter Tryz.func193, Tryz.ntmps193
    go_wp2
    go_loopw [4] (fun i wr => i = .int .i64 0 ∧ wr = w.alloc (.cells (fullK .u8 []) 5)) (fun i _ => 0 - (intOf i).toNat)
    case atStart => exact ⟨rfl, rfl⟩
    case round =>
      obtain ⟨rfl, rfl⟩ := hrel
      go_wp2
      go_ret
      exact HF.out
  · have HC := Lib.hid hc
    clear hc hr
    go_enter Tryz.func193, Tryz.ntmps193
    go_wp2
    go_loopw [4] (fun i wr => ∃ k : Nat, k ≤ xs.length ∧ i = .int .i64 k ∧ wr = w.alloc (.cells (partK .u8 xs k) 5)) (fun i _ => xs.length - (intOf i).toNat)
    case atStart => exact ⟨0, Nat.zero_le _, rfl, rfl⟩
    case round =>
      obtain ⟨k, hk, rfl, rfl⟩ := hrel
      by_cases hlt : k < xs.length
      · have hck := HC.out k hlt
        have hph := partK_here .u8 xs k hlt
        have hps := partK_step .u8 xs k hlt
        have hbw : b < w.heap.size := by omega
        go_wp2
        go_roundw
        case rel => exact ⟨k + 1, by omega, by go_num, rfl⟩
        case measure => simp [intOf]; omega
      · obtain rfl : k = xs.length := by omega
        go_wp2
        go_ret
        rw [partK_full]
        exact HF.out

set_option maxHeartbeats 400000 in
theorem eqBytes_any (a b : Option Addr) (n m ca cb : Nat) (xs : List Int) (ha hb : Nat) (w : World) (h1 : Nums .u8 w ha a ca xs) (h2 : Nums .u8 w hb b cb xs) (hn : n = xs.length) (hm : m = xs.length) :
    Calls Tryz.prog 97 #[.slice a n ca, .slice b m cb] w fun e w' => e = .returned (.bool true) ∧ ∃ n, w' = w.drewN n := by
  subst hn
  subst hm
  have hc1 := h1.cap
  have hc2 := h1.big
  have hc3 := h2.cap
  by_cases h0 : xs = []
  · subst h0
    clear h1 h2
    go_enter Tryz.func97, Tryz.ntmps97
    go_wp2
    go_loopw [5] (fun i wr => i = .int .i64 0 ∧ wr = w) (fun i _ => 0 - (intOf i).toNat)
    case atStart => exact ⟨rfl, rfl⟩
    case round =>
      obtain ⟨rfl, rfl⟩ := hrel
      go_wp2
      go_ret
      exact ⟨rfl, 0, rfl⟩
  · rcases h1.lies with hl | ⟨b1, o1, rfl, hb1, hk1⟩
    · exact absurd hl h0
    rcases h2.lies with hl | ⟨b2, o2, rfl, hb2, hk2⟩
    · exact absurd hl h0
    have H1 := Lib.hid hk1
    have H2 := Lib.hid hk2
    clear hk1 hk2 h1 h2 h0
    go_enter Tryz.func97, Tryz.ntmps97
    go_wp2
    go_loopw [5] (fun i wr => ∃ k n : Nat, k ≤ xs.length ∧ i = .int .i64 k ∧ wr = w.drewN n) (fun i _ => xs.length - (intOf i).toNat)
    case atStart => exact ⟨0, 0, Nat.zero_le _, rfl, rfl⟩
    case round =>
      obtain ⟨k, n, hk, rfl, rfl⟩ := hrel
      by_cases hlt : k < xs.length
      · have hk1 := H1.out k hlt
        have hk2 := H2.out k hlt
        have hlt' : (k : Int) < (xs.length : Int) := by omega
        go_wp2
        go_quiet (fail)
        go_wp2
        go_roundw
        case rel => exact ⟨k + 1, _, by omega, by go_num, rfl⟩
        case measure => simp [intOf]; omega
      · obtain rfl : k = xs.length := by omega
        go_wp2
        go_ret
        exact ⟨rfl, n, rfl⟩

/-- What marking a row does: its numbers are the marks; of the rest nothing has turned. -/
def MarkPost (T : TypeId) (k : IntKind) (lo : Nat) (a : Option Addr) (c m n : Nat) (w : World) (e : Ending) (w' : World) : Prop :=
  e = .returned (.int .i64 ((m + n : Nat) : Int)) ∧ w'.ownsRow lo T 1 (.slice a n c) n ((marks m n).map (Value.int k)) ∧ w.grownBy w' (Value.slice a n c).ownBlock

set_option maxHeartbeats 400000 in
theorem markBytes_any (a : Option Addr) (c m : Nat) (xs : List Int) (lo : Nat) (w : World) (hr : w.ownsRow lo 5 1 (.slice a xs.length c) xs.length (xs.map (Value.int .u8))) (hlen : xs.length ≤ 1048576) (hm : m ≤ 1073741824) :
    Calls Tryz.prog 59 #[.slice a xs.length c, .int .i64 (m : Int)] w (MarkPost 5 .u8 lo a c m xs.length w) := by
  obtain ⟨_, hN⟩ := Nums.of_own hr
  have hc1 := hN.cap
  have hc2 := hN.big
  clear hN
  by_cases h0 : xs = []
  · subst h0
    have HR := Lib.hid (show MarkPost 5 .u8 lo a c m 0 w (.returned (.int .i64 (m : Int))) w from ⟨by simp, hr, World.grownBy.refl _ _⟩)
    clear hr
    go_enter Tryz.func59, Tryz.ntmps59
    go_wp2
    go_loopw [1, 5] (fun k i wr => i = .int .i64 0 ∧ k = .int .i64 (m : Int) ∧ wr = w) (fun _ i _ => 0 - (intOf i).toNat)
    case atStart => exact ⟨rfl, rfl, rfl⟩
    case round =>
      obtain ⟨rfl, rfl, rfl⟩ := hrel
      go_wp2
      go_ret
      exact HR.out
  · obtain ⟨g, rfl⟩ : ∃ g, a = some ⟨g, 0, none⟩ := by
      rcases hr.2 with ⟨hv, h1⟩ | ⟨g, cap, cur, hv, _⟩
      · exact absurd (List.length_eq_zero_iff.1 h1) h0
      · simp only [Value.slice.injEq] at hv
        exact ⟨g, hv.1⟩
    have HR := Lib.hid hr
    clear hr
    go_enter Tryz.func59, Tryz.ntmps59
    go_wp2
    go_loopw [1, 5] (fun k i wr => ∃ j : Nat, j ≤ xs.length ∧ i = .int .i64 j ∧ k = .int .i64 ((m + j : Nat) : Int) ∧ wr.ownsRow lo 5 1 (.slice (some ⟨g, 0, none⟩) xs.length c) xs.length ((markTo m xs j).map (Value.int .u8)) ∧ w.grownBy wr (some g)) (fun _ i _ => xs.length - (intOf i).toNat)
    case atStart => exact ⟨0, Nat.zero_le _, rfl, by simp, by rw [markTo_zero]; exact HR.out, World.grownBy.refl _ _⟩
    case round =>
      obtain ⟨j, hj, rfl, rfl, hown, hg⟩ := hrel
      by_cases hlt : j < xs.length
      · have hcell : wr.cell? ⟨g, j, none⟩ = some (.int .u8 (el (markTo m xs j) j)) := by rw [hown.cellAt j (by omega)]; exact el_cell _ _ _ (by rw [markTo_len _ _ _ hj]; exact hlt)
        have hfz := hown.frozenAt j
        have hst := hown.stored j (.int .u8 (((m : Int) + (j : Int)) % 256))
        rw [← List.map_set, markTo_step _ _ _ hlt] at hst
        have HS := Lib.hid hst
        have HG := Lib.hid hg
        clear hst hown hg
        go_wp2
        go_roundw
        case rel => exact ⟨j + 1, by omega, by go_num, by go_num, HS.out.1, grown_trans HG.out HS.out.2⟩
        case measure => simp [intOf]; omega
      · obtain rfl : j = xs.length := by omega
        rw [markTo_all] at hown
        have HP : Hid (MarkPost 5 .u8 lo (some ⟨g, 0, none⟩) c m xs.length w (.returned (.int .i64 ((m + xs.length : Nat) : Int))) wr) := ⟨rfl, hown, hg⟩
        clear hown hg
        go_wp2
        go_ret
        exact HP.out

set_option maxHeartbeats 400000 in
theorem heldBytes_any (a : Option Addr) (c m n : Nat) (hi : Nat) (w : World) (hr : Nums .u8 w hi a c (marks m n)) (hlen : n ≤ 1048576) (hm : m ≤ 1073741824) :
    Calls Tryz.prog 60 #[.slice a n c, .int .i64 (m : Int)] w fun e w' => e = .returned (.int .i64 ((m + n : Nat) : Int)) ∧ w = w' := by
  have hc1 := hr.cap
  have hc2 := hr.big
  rw [marks_len] at hc1
  by_cases h0 : n = 0
  · subst h0
    clear hr
    go_enter Tryz.func60, Tryz.ntmps60
    go_wp2
    go_loop [1, 5] (fun k i => i = .int .i64 0 ∧ k = .int .i64 (m : Int)) (fun _ i => 0 - (intOf i).toNat)
    case atStart => exact ⟨rfl, rfl⟩
    case round =>
      obtain ⟨rfl, rfl⟩ := hrel
      go_wp2
      go_ret
      exact ⟨rfl, rfl⟩
  · rcases hr.lies with hl | ⟨b, off, rfl, hb, hc⟩
    · have := congrArg List.length hl
      rw [marks_len] at this
      exact absurd this h0
    rw [marks_len] at hc
    have HC := Lib.hid hc
    clear hc hr h0
    go_enter Tryz.func60, Tryz.ntmps60
    go_wp2
    go_loop [1, 5] (fun k i => ∃ j : Nat, j ≤ n ∧ i = .int .i64 j ∧ k = .int .i64 ((m + j : Nat) : Int)) (fun _ i => n - (intOf i).toNat)
    case atStart => exact ⟨0, Nat.zero_le _, rfl, by simp⟩
    case round =>
      obtain ⟨j, hj, rfl, rfl⟩ := hrel
      by_cases hlt : j < n
      · have hcell := HC.out j hlt
        rw [marks_el _ _ _ hlt] at hcell
        have hd : ((((m : Int) + (j : Int)) % 256) != (((m : Int) + (j : Int)) % 256)) = false := by simp
        go_wp2
        go_round
        case rel => exact ⟨j + 1, by omega, by go_num, by go_num⟩
        case measure => simp [intOf]; omega
      · obtain rfl : j = n := by omega
        go_wp2
        go_ret
        exact ⟨rfl, rfl⟩

theorem szBytes_any (a : Option Addr) (n c : Nat) (left : Int) (w : World) (hl0 : 0 ≤ left) (hl1 : left ≤ 1048576) (hn : n ≤ 9223372036854775807) :
    Calls Tryz.prog 191 #[.slice a n c, .int .i64 left] w fun e w' => e = .returned (.int .i64 (if left - (n : Int) < 0 then -1 else left - (n : Int))) ∧ w = w' := by
  by_cases h : left - (n : Int) < 0
  · rw [if_pos h]
    go_enter Tryz.func191, Tryz.ntmps191
    go_wp2
    go_ret
    exact ⟨rfl, rfl⟩
  · rw [if_neg h]
    go_enter Tryz.func191, Tryz.ntmps191
    go_wp2
    go_ret
    exact ⟨rfl, rfl⟩

end Go.Proofs.YtnfhlfbkdhpacaaGreatDoor

/- The marks once more, their number as whatever integer; what lies apart from a row stays. -/
namespace Go.Proofs.YtnfhlfbkdhpacaaGreatDoor
open Go.RowKit

/-- Marking leaves all that lies below the row's own base, and every row of another block. -/
structure Marked (T : TypeId) (lo : Nat) (a : Option Addr) (c m n : Nat) (w w' : World) : Prop where
  own : w'.ownsRow lo T 1 (.slice a n c) n ((marks m n).map (Value.int .u8))
  below : Below lo w w'
  grown : w.grownBy w' (Value.slice a n c).ownBlock
theorem markBytes_m (a : Option Addr) (n c m : Nat) (M : Int) (xs : List Int) (lo : Nat) (w : World) (hr : w.ownsRow lo 5 1 (.slice a n c) n (xs.map (Value.int .u8))) (hM : M = (m : Int)) (hn : n = xs.length) (hlo : lo ≤ w.heap.size) (hlen : n ≤ 1048576) (hm : m ≤ 1073741824) :
    Calls Tryz.prog 59 #[.slice a n c, .int .i64 M] w fun e w' => e = .returned (.int .i64 (M + (n : Int))) ∧ Marked 5 lo a c m n w w' := by
  subst hM
  subst hn
  exact (markBytes_any a c m xs lo w hr hlen hm).mono fun e w' ⟨he, ho, hg⟩ => ⟨by rw [he]; exact ret_int (by omega), ho, below_own hr hg hlo, hg⟩
theorem heldBytes_m (a : Option Addr) (n c m : Nat) (M : Int) (hi : Nat) (w : World) (hr : Nums .u8 w hi a c (marks m n)) (hM : M = (m : Int)) (hlen : n ≤ 1048576) (hm : m ≤ 1073741824) :
    Calls Tryz.prog 60 #[.slice a n c, .int .i64 M] w fun e w' => e = .returned (.int .i64 (M + (n : Int))) ∧ w = w' := by
  subst hM
  exact (heldBytes_any a c m n hi w hr hlen hm).mono fun e w' ⟨he, hw⟩ => ⟨by rw [he]; exact ret_int (by omega), hw⟩
/-- Behind draws. -/
theorem below_trans0 {B : Nat} {w w' : World} {n : Nat} (h : Below B (w.drewN n) w') : Below B w w' := (below_drewN (Below.refl B w) n).trans h
/-- A row whose blocks lie from B on stays where a row with a block below B is written. -/
theorem owns_apart {w w1 w' : World} {lo lo1 : Nat} {T T1 : TypeId} {sz sz1 n n1 : Nat} {v v1 : Value} {xs xs1 : List Value} (h : w.ownsRow lo T sz v n xs) (h1 : w1.ownsRow lo1 T1 sz1 v1 n1 xs1) (hB : w1.heap.size ≤ lo) (hg : w.grownBy w' v1.ownBlock) : w'.ownsRow lo T sz v n xs := by
  refine h.kept hg ?_
  by_cases hv : v.ownBlock = none
  · exact .inl hv
  · refine .inr fun e => ?_
    obtain ⟨k, hk⟩ := Option.ne_none_iff_exists'.1 hv
    have h2 := (h.lt k hk).1
    have h3 := (h1.lt k (by rw [← e, hk])).2
    omega
theorem Rw.marked {T : TypeId} {lo up : Nat} {a : Option Addr} {c m n : Nat} {ys : List Value} {w1 w w' : World} (h : Rw T 1 lo up a n c ys w1) (hm : Marked T lo a c m n w w') : Rw T 1 lo up a n c ((marks m n).map (Value.int .u8)) w' := ⟨hm.own, h.up⟩
theorem Nums.of_marks {T : TypeId} {lo : Nat} {a : Option Addr} {c m n : Nat} {w w' : World} (h : Marked T lo a c m n w w') : Nums .u8 w' w'.heap.size a c (marks m n) := (Nums.of_own h.own).2

end Go.Proofs.YtnfhlfbkdhpacaaGreatDoor

/- Plain: when a decoder is one. No program. -/
namespace Go.Proofs.YtnfhlfbkdhpacaaGreatDoor
open Go.RowKit

def dOk (n : Nat) (b : Bool) : Bool := decide (n ≤ 400) && (!b || decide (n = 0))
theorem dOk_long {n : Nat} {b : Bool} (h : ¬ n ≤ 400) : dOk n b = false := by simp [dOk, h]
theorem dOk_good {n : Nat} (h : n ≤ 400) : dOk n false = true := by simp [dOk, h]
theorem dOk_bad0 : dOk 0 true = true := by simp [dOk]
theorem dOk_bad {n : Nat} (h0 : n ≠ 0) : dOk n true = false := by simp [dOk, h0]

/-- A decoder in memory of the call's own. -/
def FreshDec (T : TypeId) (xs : List Int) (b : Bool) (w : World) (e : Ending) (w' : World) : Prop :=
  ∃ a c, e = .returned (.agg #[.slice a xs.length c, .bool b]) ∧ w'.ownsRow w.heap.size T 1 (.slice a xs.length c) xs.length (xs.map (Value.int .u8)) ∧ Below w.heap.size w w'

end Go.Proofs.YtnfhlfbkdhpacaaGreatDoor

/- Contracts of the laws' own helpers over a decoder; DecoderOk. -/
namespace Go.Proofs.YtnfhlfbkdhpacaaGreatDoor
open Go.RowKit

theorem szDecoder_any (a : Option Addr) (n c : Nat) (b : Bool) (w : World) (hn : n ≤ 9223372036854775807) :
    Calls Tryz.prog 137 #[.agg #[.slice a n c, .bool b], .int .i64 1048576] w fun e w' => e = .returned (.int .i64 (if (1048576 : Int) - (n : Int) < 0 then -1 else 1048576 - (n : Int))) ∧ Below w.heap.size w w' := by
  have hs := fun W => szBytes_any a n c 1048576 W (by omega) (by omega) hn
  by_cases h : (1048576 : Int) - (n : Int) < 0
  · rw [if_pos h] at hs ⊢
    have HS := Lib.hid hs
    clear hs
    go_enter Tryz.func137, Tryz.ntmps137
    go_wp2_with fail
    refine (HS.out _).mono ?_
    rintro e w' ⟨rfl, rfl⟩
    go_wp2
    go_ret
    exact ⟨rfl, (Below.refl _ _).alloc (Nat.le_refl _) _⟩
  · rw [if_neg h] at hs ⊢
    have HS := Lib.hid hs
    clear hs
    go_enter Tryz.func137, Tryz.ntmps137
    go_wp2_with fail
    refine (HS.out _).mono ?_
    rintro e w' ⟨rfl, rfl⟩
    go_wp2
    go_ret
    exact ⟨rfl, (Below.refl _ _).alloc (Nat.le_refl _) _⟩

set_option maxHeartbeats 1000000 in
theorem toDecoder_any (a : Option Addr) (n c : Nat) (b : Bool) (xs : List Int) (hi : Nat) (w : World) (hr : Nums .u8 w hi a c xs) (hn : n = xs.length) (hB : hi ≤ w.heap.size) (hlen : xs.length ≤ 1048576) :
    Calls Tryz.prog 143 #[.agg #[.slice a n c, .bool b]] w (FreshDec 5 xs b w) := by
  subst hn
  have b1 := (Below.refl w.heap.size w).alloc (Nat.le_refl _) (.cells #[.slice a xs.length c, .bool b] 115)
  have b2 := b1.alloc (by simp) (.cells #[.slice none 0 0, .bool false] 91)
  have b3 := b2.alloc (by simp; omega) (.cells #[.slice none 0 0, .bool false] 91)
  have HN := Lib.hid (hr.below (b3.mono hB))
  have K0 := Lib.hid (((Blk.new w 115 #[.slice a xs.length c, .bool b]).alloc (.cells #[.slice none 0 0, .bool false] 91)).alloc (.cells #[.slice none 0 0, .bool false] 91))
  have K1 := Lib.hid ((Blk.new (w.alloc (.cells #[.slice a xs.length c, .bool b] 115)) 91 #[.slice none 0 0, .bool false]).alloc (.cells #[.slice none 0 0, .bool false] 91))
  have K2 := Lib.hid (Blk.new ((w.alloc (.cells #[.slice a xs.length c, .bool b] 115)).alloc (.cells #[.slice none 0 0, .bool false] 91)) 91 #[.slice none 0 0, .bool false])
  have B3 := Lib.hid b3
  clear hr b1 b2 b3
  go_enter Tryz.func143, Tryz.ntmps143
  go_wp2_with fail
  refine (toBytes_any a _ c xs _ _ HN.out rfl (by simp; omega) hlen).mono ?_
  rintro e w1 ⟨a1, c1, rfl, ho, hb⟩
  have q0 := (K0.out.below hb).cell
  have q1 := (K1.out.below hb).cell
  have q2 := (K2.out.below hb).cell
  have f1 := (K1.out.below hb).frozen
  have f2 := (K2.out.below hb).frozen
  simp only [World.size_alloc] at q0 q1 q2 f1 f2
  have O1 := Lib.hid ho
  have B1 := Lib.hid (B3.out.trans (hb.mono (by simp; omega)))
  have HP : Hid (FreshDec 5 xs b w (.returned (.agg #[.slice a1 xs.length c1, .bool b])) ((((w1.setCell ⟨w.heap.size + 1 + 1, 0, none⟩ (.slice a1 xs.length c1)).setCell ⟨w.heap.size + 1 + 1, 1, none⟩ (.bool b)).setCell ⟨w.heap.size + 1, 0, none⟩ (.slice a1 xs.length c1)).setCell ⟨w.heap.size + 1, 1, none⟩ (.bool b))) := by
    simp only [World.size_alloc] at ho
    refine ⟨a1, c1, rfl, owns_less (ownsRow_setCell_below (ownsRow_setCell_below (ownsRow_setCell_below (ownsRow_setCell_below ho ?_ _) ?_ _) ?_ _) ?_ _) (by omega), ((((B1.out.setCell ?_ _).setCell ?_ _).setCell ?_ _).setCell ?_ _)⟩ <;> simp <;> omega
  clear ho hb
  go_wp2
  exact bodyPost_ret (v := .agg #[.slice a1 xs.length c1, .bool b]) (by simp [results, Tryz.results143, go_sem, q1]) rfl HP.out

set_option maxHeartbeats 1000000 in
theorem eqDecoder_any (a1 a2 : Option Addr) (n m c d : Nat) (b : Bool) (xs : List Int) (h1 h2 : Nat) (w : World) (hx : Nums .u8 w h1 a1 c xs) (hy : Nums .u8 w h2 a2 d xs) (hn : n = xs.length) (hm : m = xs.length) (hB : h1 ≤ w.heap.size) (hC : h2 ≤ w.heap.size) :
    Calls Tryz.prog 151 #[.agg #[.slice a1 n c, .bool b], .agg #[.slice a2 m d, .bool b]] w fun e w' => e = .returned (.bool true) ∧ Below w.heap.size w w' := by
  subst hn
  subst hm
  have b1 := (Below.refl w.heap.size w).alloc (Nat.le_refl _) (.cells #[.slice a1 xs.length c, .bool b] 91)
  have b2 := b1.alloc (by simp) (.cells #[.slice a2 xs.length d, .bool b] 91)
  have H1 := Lib.hid (hx.below (b2.mono hB))
  have H2 := Lib.hid (hy.below (b2.mono hC))
  have B2 := Lib.hid b2
  clear hx hy b1 b2
  have hbb : (b != b) = false := by simp
  go_enter Tryz.func151, Tryz.ntmps151
  go_wp2_with fail
  refine (eqBytes_any _ _ _ _ _ _ xs _ _ _ H1.out H2.out rfl rfl).mono ?_
  rintro e w' ⟨rfl, nd, rfl⟩
  go_wp2
  go_ret
  exact ⟨rfl, below_drewN B2.out nd⟩



theorem specDecOk_any (a : Option Addr) (n c : Nat) (b : Bool) (w : World) (hn : n ≤ 9223372036854775807) :
    Calls Tryz.prog 62 #[.agg #[.slice a n c, .bool b]] w fun e w' => e = .returned (.bool (dOk n b)) ∧ Below w.heap.size w w' := by
  have b1 := Lib.hid ((Below.refl w.heap.size w).alloc (Nat.le_refl _) (.cells #[.slice a n c, .bool b] 91))
  by_cases h4 : n ≤ 400
  · cases b with
    | false =>
      rw [dOk_good h4]
      go_enter Tryz.func62, Tryz.ntmps62
      go_wp2
      go_ret
      exact ⟨rfl, b1.out⟩
    | true =>
      by_cases h0 : n = 0
      · subst h0
        rw [dOk_bad0]
        go_enter Tryz.func62, Tryz.ntmps62
        go_wp2
        go_ret
        exact ⟨rfl, b1.out⟩
      · rw [dOk_bad h0]
        have h01 : ((n : Int) == 0) = false := by simp; omega
        go_enter Tryz.func62, Tryz.ntmps62
        go_wp2
        go_ret
        exact ⟨rfl, b1.out⟩
  · rw [dOk_long h4]
    go_enter Tryz.func62, Tryz.ntmps62
    go_wp2
    go_ret
    exact ⟨rfl, b1.out⟩
theorem implDecOk_any (a : Option Addr) (n c : Nat) (b : Bool) (w : World) (hn : n ≤ 9223372036854775807) :
    Calls Tryz.prog 105 #[.agg #[.slice a n c, .bool b]] w fun e w' => e = .returned (.bool (dOk n b)) ∧ Below w.heap.size w w' := by
  have b1 := Lib.hid ((Below.refl w.heap.size w).alloc (Nat.le_refl _) (.cells #[.slice a n c, .bool b] 91))
  by_cases h4 : n ≤ 400
  · cases b with
    | false =>
      rw [dOk_good h4]
      go_enter Tryz.func105, Tryz.ntmps105
      go_wp2
      go_ret
      exact ⟨rfl, b1.out⟩
    | true =>
      by_cases h0 : n = 0
      · subst h0
        rw [dOk_bad0]
        go_enter Tryz.func105, Tryz.ntmps105
        go_wp2
        go_ret
        exact ⟨rfl, b1.out⟩
      · rw [dOk_bad h0]
        have h01 : 0 < n := by omega
        go_enter Tryz.func105, Tryz.ntmps105
        go_wp2
        go_ret
        exact ⟨rfl, b1.out⟩
  · rw [dOk_long h4]
    go_enter Tryz.func105, Tryz.ntmps105
    go_wp2
    go_ret
    exact ⟨rfl, b1.out⟩

end Go.Proofs.YtnfhlfbkdhpacaaGreatDoor

/- Contract of the reader's number. -/
namespace Go.Proofs.YtnfhlfbkdhpacaaGreatDoor
open Go.RowKit

theorem Blk.set_ {w : World} {g : Nat} {t : TypeId} {cs : Array Value} (h : Blk w g t cs) (i : Nat) (u : Value) : Blk (w.setCell ⟨g, i, none⟩ u) g t (cs.setIfInBounds i u) := by
  unfold Blk at h ⊢
  simp [World.setCell, Array.getElem?_modify, h]
/-- A reader at block r: what is left, and its fault. -/
structure Rd (w : World) (r : Nat) (a : Option Addr) (n c : Nat) (xs : List Int) (F : Value) : Prop where
  blk : Blk w r 173 #[.slice a n c, F]
  nums : Nums .u8 w r a c xs
  len : n = xs.length
def NumberPost (r : Nat) (x : Int) (xs : List Int) (F : Value) (w : World) (e : Ending) (w' : World) : Prop :=
  ∃ a n c, e = .returned (.int .i64 x) ∧ Rd w' r a n c xs F ∧ w.grownBy w' (some r)

theorem rd_same {w : World} {r n m c N : Nat} {a : Option Addr} {xs : List Int} {F : Value} (hb : Blk w r 173 #[.slice a n c, F]) (hn : Nums .u8 w r a c xs) (hl : n = xs.length) (hm : m ≤ xs.length) (hc : c = m) (hN : N = n - m) :
    Rd (w.setCell ⟨r, 0, none⟩ (.slice a N 0)) r a N 0 (xs.drop m) F := by
  subst hc
  subst hN
  have h := hn.drop c hm
  rw [if_pos rfl, Nat.sub_self] at h
  exact ⟨hb.set_ 0 _, h.below ((Below.refl r w).setCell (p := ⟨r, 0, none⟩) (Nat.le_refl _) _), by rw [List.length_drop, hl]⟩
theorem rd_diff {w : World} {r n m c N : Nat} {a : Option Addr} {xs : List Int} {F : Value} (hb : Blk w r 173 #[.slice a n c, F]) (hn : Nums .u8 w r a c xs) (hl : n = xs.length) (hm : m ≤ xs.length) (hc : ¬ c = m) (hN : N = n - m) :
    Rd (w.setCell ⟨r, 0, none⟩ (.slice (Option.map (fun x => x.add m) a) N (c - m))) r (Option.map (fun x => x.add m) a) N (c - m) (xs.drop m) F := by
  subst hN
  have h := hn.drop m hm
  rw [if_neg hc] at h
  simp only [Nat.mul_one] at h
  exact ⟨hb.set_ 0 _, h.below ((Below.refl r w).setCell (p := ⟨r, 0, none⟩) (Nat.le_refl _) _), by rw [List.length_drop, hl]⟩

set_option maxRecDepth 100000 in
theorem or_byte {x y : Int} (h0 : 0 ≤ x) (h1 : x ≤ 16777215) (k0 : 0 ≤ y) (k1 : y ≤ 255) : bits .or .i64 (x * 256) y = x * 256 + y := by
  obtain ⟨a, rfl⟩ := Int.eq_ofNat_of_zero_le h0
  obtain ⟨b, rfl⟩ := Int.eq_ofNat_of_zero_le k0
  show IntKind.i64.wrap ((BitVec.ofInt 64 ((a : Int) * 256) ||| BitVec.ofInt 64 (b : Int)).toNat : Int) = _
  have e : ((a : Int) * 256) = ((a * 256 : Nat) : Int) := by push_cast; rfl
  rw [e, BitVec.toNat_or, BitVec.ofInt_natCast, BitVec.toNat_ofNat, BitVec.ofInt_natCast, BitVec.toNat_ofNat, Nat.mod_eq_of_lt (by omega), Nat.mod_eq_of_lt (by omega), nat_join 8 (a * 256) b (by omega) (by omega), IntKind.wrap_i64]
  omega

set_option maxRecDepth 100000 in
set_option maxHeartbeats 2000000 in
theorem number_there (r : Nat) (a : Option Addr) (c : Nat) (size : Nat) (xs : List Int) (F : Value) (w : World) (hblk : Blk w r 173 #[.slice a xs.length c, F]) (hnums : Nums .u8 w r a c xs) (hx : IsB xs) (hs : size ≤ 3) (hle : size ≤ xs.length) :
    Calls Tryz.prog 199 #[.pointer (some ⟨r, 0, none⟩), .int .i64 (size : Int)] w (NumberPost r (numL size xs) (xs.drop size) F w) := by
  have hc1 := hnums.cap
  have hc2 := hnums.big
  have HX := Lib.hid hx
  have HN := Lib.hid hnums
  have HB := Lib.hid hblk
  have q := hblk.cell
  have f := hblk.frozen
  have hcs : size ≤ c := by omega
  clear hnums hblk hx
  go_enter Tryz.func199, Tryz.ntmps199
  go_wp2
  go_loop [6, 8, 24] (fun x _ i => ∃ k : Nat, k ≤ size ∧ i = .int .i64 k ∧ x = .int .i64 (readL (xs.take k))) (fun _ _ i => size - (intOf i).toNat)
  case atStart => exact ⟨0, Nat.zero_le _, rfl, rfl⟩
  case round =>
    obtain ⟨k, hk, rfl, rfl⟩ := hrel
    by_cases hlt2 : k < size
    · obtain ⟨b, off, rfl, hbr, hc⟩ := HN.out.lies.resolve_left (by intro h; subst h; simp at *; try omega)
      have hck := hc k (by omega)
      have hyb := el_bd HX.out k
      have hxb := readL_bd (HX.out.take k) 2 (by simp; omega)
      have HS : Hid (readL (xs.take (k + 1)) = readL (xs.take k) * 256 + el xs k) := by
        rw [el_take xs k (by omega)]; exact readL_snoc _ _
      generalize readL (xs.take k) = X at hxb HS ⊢
      generalize el xs k = y at hyb hck HS ⊢
      obtain ⟨hx0, hx1⟩ := hxb
      have hx2 : X ≤ 65535 := by
        have e2 : ((256 ^ 2 : Nat) : Int) = 65536 := by decide
        omega
      obtain ⟨hy0, hy1⟩ := hyb
      have hor := or_byte hx0 (show X ≤ 16777215 by omega) hy0 hy1
      clear hc hx1
      go_wp2
      go_round
      case rel => exact ⟨k + 1, by omega, by go_num, by rw [HS.out]⟩
      case measure => simp [intOf]; omega
    · obtain rfl : k = size := by omega
      have hxb := readL_bd (HX.out.take k) 3 (by simp; omega)
      have hnk : numL k xs = readL (xs.take k) := by unfold numL; rw [Nat.min_eq_left hle, Nat.sub_self]; simp
      have HM := Lib.hid hnk
      clear hnk
      generalize readL (xs.take k) = X at hxb HM ⊢
      obtain ⟨hx0, hx1⟩ := hxb
      have hx2 : X ≤ 16777215 := by
        have e2 : ((256 ^ 3 : Nat) : Int) = 16777216 := by decide
        omega
      clear hx1
      go_wp2
      all_goals
        go_ret
        first
          | exact ⟨_, _, _, ret_int HM.out.symm, rd_same HB.out HN.out rfl (by omega) (by assumption) (by omega), grown_setCell _ _ _ _⟩
          | exact ⟨_, _, _, ret_int HM.out.symm, rd_diff HB.out HN.out rfl (by omega) (by assumption) (by omega), grown_setCell _ _ _ _⟩
set_option maxRecDepth 100000 in
set_option maxHeartbeats 2000000 in
theorem number_short (r : Nat) (a : Option Addr) (c : Nat) (size : Nat) (xs : List Int) (F : Value) (w : World) (hblk : Blk w r 173 #[.slice a xs.length c, F]) (hnums : Nums .u8 w r a c xs) (hx : IsB xs) (hs : size ≤ 3) (hlt : xs.length < size) :
    Calls Tryz.prog 199 #[.pointer (some ⟨r, 0, none⟩), .int .i64 (size : Int)] w (NumberPost r (numL size xs) (xs.drop size) F w) := by
  have hc1 := hnums.cap
  have hc2 := hnums.big
  have HX := Lib.hid hx
  have HN := Lib.hid hnums
  have HB := Lib.hid hblk
  have q := hblk.cell
  have f := hblk.frozen
  clear hnums hblk hx
  go_enter Tryz.func199, Tryz.ntmps199
  go_wp2
  go_loop [6, 8, 24] (fun x _ i => ∃ k : Nat, k ≤ xs.length ∧ i = .int .i64 k ∧ x = .int .i64 (readL (xs.take k))) (fun _ _ i => xs.length - (intOf i).toNat)
  case atStart => exact ⟨0, Nat.zero_le _, rfl, rfl⟩
  case round =>
    obtain ⟨k, hk, rfl, rfl⟩ := hrel
    by_cases hlt2 : k < xs.length
    · obtain ⟨b, off, rfl, hbr, hc⟩ := HN.out.lies.resolve_left (by intro h; subst h; simp at *; try omega)
      have hck := hc k (by omega)
      have hyb := el_bd HX.out k
      have hxb := readL_bd (HX.out.take k) 2 (by simp; omega)
      have HS : Hid (readL (xs.take (k + 1)) = readL (xs.take k) * 256 + el xs k) := by
        rw [el_take xs k (by omega)]; exact readL_snoc _ _
      generalize readL (xs.take k) = X at hxb HS ⊢
      generalize el xs k = y at hyb hck HS ⊢
      obtain ⟨hx0, hx1⟩ := hxb
      have hx2 : X ≤ 65535 := by
        have e2 : ((256 ^ 2 : Nat) : Int) = 65536 := by decide
        omega
      obtain ⟨hy0, hy1⟩ := hyb
      have hor := or_byte hx0 (show X ≤ 16777215 by omega) hy0 hy1
      clear hc hx1
      go_wp2
      go_round
      case rel => exact ⟨k + 1, by omega, by go_num, by rw [HS.out]⟩
      case measure => simp [intOf]; omega
    · obtain rfl : k = xs.length := by omega
      have hxb := readL_bd (HX.out.take xs.length) xs.length (by simp)
      have e0 : xs.take xs.length = xs := List.take_length
      rw [e0] at hxb ⊢
      have hsz : size - xs.length = 1 ∨ size - xs.length = 2 ∨ size - xs.length = 3 := by omega
      have hdr : xs.drop size = xs.drop xs.length := by rw [List.drop_of_length_le (Nat.le_of_lt hlt), List.drop_of_length_le (Nat.le_refl _)]
      rcases hsz with hd | hd | hd
      · have hnk : numL size xs = readL xs * 256 := by unfold numL; rw [Nat.min_eq_right (Nat.le_of_lt hlt), List.take_of_length_le (Nat.le_of_lt hlt), hd]; rfl
        have HM := Lib.hid hnk
        have HDR := Lib.hid hdr
        have hsub : (size : Int) - (xs.length : Int) = 1 := by omega
        have hl2 : xs.length ≤ 2 := by omega
        have hx2 : readL xs ≤ 65535 := by
          have e2 : ((256 ^ 2 : Nat) : Int) = 65536 := by decide
          have e3 : ((256 ^ xs.length : Nat) : Int) ≤ ((256 ^ 2 : Nat) : Int) := by exact_mod_cast Nat.pow_le_pow_right (by omega) hl2
          omega
        have hx0 := hxb.1
        clear hnk hxb hd hdr
        generalize readL xs = X at HM hx0 hx2 ⊢
        go_wp2
        all_goals
          go_ret
          first
            | exact ⟨_, _, _, ret_int HM.out.symm, by rw [HDR.out]; exact rd_same HB.out HN.out rfl (Nat.le_refl _) (by assumption) (by omega), grown_setCell _ _ _ _⟩
            | exact ⟨_, _, _, ret_int HM.out.symm, by rw [HDR.out]; exact rd_diff HB.out HN.out rfl (Nat.le_refl _) (by assumption) (by omega), grown_setCell _ _ _ _⟩
      · have hnk : numL size xs = readL xs * 65536 := by unfold numL; rw [Nat.min_eq_right (Nat.le_of_lt hlt), List.take_of_length_le (Nat.le_of_lt hlt), hd]; rfl
        have HM := Lib.hid hnk
        have HDR := Lib.hid hdr
        have hsub : (size : Int) - (xs.length : Int) = 2 := by omega
        have hl2 : xs.length ≤ 1 := by omega
        have hx2 : readL xs ≤ 255 := by
          have e2 : ((256 ^ 1 : Nat) : Int) = 256 := by decide
          have e3 : ((256 ^ xs.length : Nat) : Int) ≤ ((256 ^ 1 : Nat) : Int) := by exact_mod_cast Nat.pow_le_pow_right (by omega) hl2
          omega
        have hx0 := hxb.1
        clear hnk hxb hd hdr
        generalize readL xs = X at HM hx0 hx2 ⊢
        go_wp2
        all_goals
          go_ret
          first
            | exact ⟨_, _, _, ret_int HM.out.symm, by rw [HDR.out]; exact rd_same HB.out HN.out rfl (Nat.le_refl _) (by assumption) (by omega), grown_setCell _ _ _ _⟩
            | exact ⟨_, _, _, ret_int HM.out.symm, by rw [HDR.out]; exact rd_diff HB.out HN.out rfl (Nat.le_refl _) (by assumption) (by omega), grown_setCell _ _ _ _⟩
      · have hnk : numL size xs = readL xs * 16777216 := by unfold numL; rw [Nat.min_eq_right (Nat.le_of_lt hlt), List.take_of_length_le (Nat.le_of_lt hlt), hd]; rfl
        have HM := Lib.hid hnk
        have HDR := Lib.hid hdr
        have hsub : (size : Int) - (xs.length : Int) = 3 := by omega
        have hl2 : xs.length ≤ 0 := by omega
        have hx2 : readL xs ≤ 0 := by
          have e2 : ((256 ^ 0 : Nat) : Int) = 1 := by decide
          have e3 : ((256 ^ xs.length : Nat) : Int) ≤ ((256 ^ 0 : Nat) : Int) := by exact_mod_cast Nat.pow_le_pow_right (by omega) hl2
          omega
        have hx0 := hxb.1
        clear hnk hxb hd hdr
        generalize readL xs = X at HM hx0 hx2 ⊢
        go_wp2
        all_goals
          go_ret
          first
            | exact ⟨_, _, _, ret_int HM.out.symm, by rw [HDR.out]; exact rd_same HB.out HN.out rfl (Nat.le_refl _) (by assumption) (by omega), grown_setCell _ _ _ _⟩
            | exact ⟨_, _, _, ret_int HM.out.symm, by rw [HDR.out]; exact rd_diff HB.out HN.out rfl (Nat.le_refl _) (by assumption) (by omega), grown_setCell _ _ _ _⟩
theorem number_any (r : Nat) (a : Option Addr) (n c : Nat) (size : Nat) (xs : List Int) (F : Value) (w : World) (hr : Rd w r a n c xs F) (hx : IsB xs) (hs : size ≤ 3) {M : Int} (hM : M = (size : Int)) :
    Calls Tryz.prog 199 #[.pointer (some ⟨r, 0, none⟩), .int .i64 M] w (NumberPost r (numL size xs) (xs.drop size) F w) := by
  subst hM
  obtain ⟨h1, h2, rfl⟩ := hr
  by_cases h : size ≤ xs.length
  · exact number_there r a c size xs F w h1 h2 hx hs h
  · exact number_short r a c size xs F w h1 h2 hx hs (by omega)

end Go.Proofs.YtnfhlfbkdhpacaaGreatDoor

/- Rows of records that begin with a slice: how they read, and copies of the call's own. No program. -/
namespace Go.Proofs.YtnfhlfbkdhpacaaGreatDoor
open Go.RowKit

/-- How a record that begins with a slice reads: the slice's length, the cells behind it, what the slice holds below block hi, and the same as a row of the call's own. -/
structure Hd (α : Type) where
  ln : α → Nat
  tail : α → List Value
  rd : World → Nat → α → Option Addr → Nat → Prop
  ow : World → Nat → α → Option Addr → Nat → Prop
  rd_below : ∀ {w w' : World} {hi : Nat} {x : α} {a : Option Addr} {c : Nat}, rd w hi x a c → Below hi w w' → rd w' hi x a c
  rd_more : ∀ {w : World} {hi hi' : Nat} {x : α} {a : Option Addr} {c : Nat}, rd w hi x a c → hi ≤ hi' → rd w hi' x a c
  ow_rd : ∀ {w : World} {lo : Nat} {x : α} {a : Option Addr} {c : Nat}, ow w lo x a c → rd w w.heap.size x a c
  ow_below : ∀ {w w' : World} {lo : Nat} {x : α} {a : Option Addr} {c : Nat}, ow w lo x a c → Below w.heap.size w w' → ow w' lo x a c
  ow_set : ∀ {w : World} {lo : Nat} {x : α} {a : Option Addr} {c : Nat} {p : Addr} (v : Value), ow w lo x a c → p.block < lo → ow (w.setCell p v) lo x a c
  ow_less : ∀ {w : World} {lo lo' : Nat} {x : α} {a : Option Addr} {c : Nat}, ow w lo x a c → lo' ≤ lo → ow w lo' x a c

section
variable {α : Type} (H : Hd α) (k : Nat) (d : α)
/-- A slice of such records, all below block hi, reads as l. -/
structure HRow (w : World) (hi : Nat) (a : Option Addr) (c : Nat) (l : List α) : Prop where
  cap : l.length ≤ c
  big : c ≤ 9223372036854775807
  lies : l = [] ∨ ∃ b off, a = some ⟨b, off, none⟩ ∧ b < hi ∧ ∀ i, i < l.length → ∃ ai ci, w.cell? ⟨b, off + i * k, none⟩ = some (.slice ai (H.ln (rel d l i)) ci) ∧
    (∀ q, q + 1 < k → w.cell? ⟨b, off + i * k + (q + 1), none⟩ = (H.tail (rel d l i))[q]?) ∧ H.rd w hi (rel d l i) ai ci
/-- The same in memory of the call's own, from block lo on. -/
structure HOwn (T : TypeId) (w : World) (lo : Nat) (a : Option Addr) (c : Nat) (l : List α) : Prop where
  cap : l.length ≤ c
  big : c ≤ 9223372036854775807
  lies : l = [] ∨ ∃ b CS, a = some ⟨b, 0, none⟩ ∧ lo ≤ b ∧ Blk w b T CS ∧ ∀ i, i < l.length → ∃ ai ci, CS[i * k]? = some (.slice ai (H.ln (rel d l i)) ci) ∧
    (∀ q, q + 1 < k → CS[i * k + (q + 1)]? = (H.tail (rel d l i))[q]?) ∧ H.ow w lo (rel d l i) ai ci
/-- The first j records have been copied into block g. -/
structure HCop (T : TypeId) (g : Nat) (l : List α) (j : Nat) (w : World) : Prop where
  ex : ∃ CS, Blk w g T CS ∧ CS.size = l.length * k ∧ ∀ i, i < j → ∃ ai ci, CS[i * k]? = some (.slice ai (H.ln (rel d l i)) ci) ∧
    (∀ q, q + 1 < k → CS[i * k + (q + 1)]? = (H.tail (rel d l i))[q]?) ∧ H.ow w (g + 1) (rel d l i) ai ci
/-- What the slices of the first j records hold together. -/
def totH (l : List α) : Nat → Nat
  | 0 => 0
  | j + 1 => totH l j + H.ln (rel d l j)
/-- A call that hands back a copy of such a row. -/
def FreshH (T : TypeId) (l : List α) (w : World) (e : Ending) (w' : World) : Prop :=
  ∃ a c, e = .returned (.slice a l.length c) ∧ HOwn H k d T w' w.heap.size a c l ∧ Below w.heap.size w w'
end
section
variable {α : Type} {H : Hd α} {k : Nat} {d : α} {w w' : World} {hi hi' lo lo' c g : Nat} {T : TypeId} {a : Option Addr} {l : List α}
theorem totH_le {i j : Nat} (h : i ≤ j) : totH H d l i ≤ totH H d l j := by
  induction j with
  | zero => obtain rfl : i = 0 := by omega
            exact Nat.le_refl _
  | succ j ih =>
    rcases Nat.lt_or_ge i (j + 1) with h1 | h1
    · have := ih (by omega); simp only [totH]; omega
    · obtain rfl : i = j + 1 := by omega
      exact Nat.le_refl _
theorem head_le {i j : Nat} (h : i < j) : H.ln (rel d l i) ≤ totH H d l j := by
  have := totH_le (H := H) (d := d) (l := l) (show i + 1 ≤ j by omega)
  simp only [totH] at this
  omega
theorem HRow.below (h : HRow H k d w hi a c l) (hb : Below hi w w') : HRow H k d w' hi a c l :=
  ⟨h.cap, h.big, h.lies.imp id fun ⟨b, off, ha, hlt, hc⟩ => ⟨b, off, ha, hlt, fun i hi2 => by
    obtain ⟨ai, ci, h1, h2, h3⟩ := hc i hi2
    exact ⟨ai, ci, (hb.cell (p := ⟨b, off + i * k, none⟩) hlt).trans h1, fun q hq => (hb.cell (p := ⟨b, off + i * k + (q + 1), none⟩) hlt).trans (h2 q hq), H.rd_below h3 hb⟩⟩⟩
theorem HRow.more (h : HRow H k d w hi a c l) (hh : hi ≤ hi') : HRow H k d w hi' a c l :=
  ⟨h.cap, h.big, h.lies.imp id fun ⟨b, off, ha, hlt, hc⟩ => ⟨b, off, ha, by omega, fun i hi2 => by
    obtain ⟨ai, ci, h1, h2, h3⟩ := hc i hi2
    exact ⟨ai, ci, h1, h2, H.rd_more h3 hh⟩⟩⟩
theorem HRow.none_ (w : World) (hi : Nat) : HRow H k d w hi none 0 [] := ⟨Nat.le_refl _, by omega, .inl rfl⟩
theorem HRow.cells (h : HRow H k d w hi a c l) (hne : 0 < l.length) : ∃ b off, a = some ⟨b, off, none⟩ ∧ b < hi ∧ ∀ i, i < l.length → ∃ ai ci, w.cell? ⟨b, off + i * k, none⟩ = some (.slice ai (H.ln (rel d l i)) ci) ∧
    (∀ q, q + 1 < k → w.cell? ⟨b, off + i * k + (q + 1), none⟩ = (H.tail (rel d l i))[q]?) ∧ H.rd w hi (rel d l i) ai ci :=
  h.lies.resolve_left (by intro h; subst h; simp at hne)
theorem HOwn.row (h : HOwn H k d T w lo a c l) : HRow H k d w w.heap.size a c l :=
  ⟨h.cap, h.big, h.lies.imp id fun ⟨b, CS, ha, hlo, hB, hc⟩ => ⟨b, 0, ha, hB.lt, fun i hi2 => by
    obtain ⟨ai, ci, h1, h2, h3⟩ := hc i hi2
    exact ⟨ai, ci, by rw [Nat.zero_add, hB.cell]; exact h1, fun q hq => by rw [Nat.zero_add, hB.cell]; exact h2 q hq, H.ow_rd h3⟩⟩⟩
theorem HOwn.below (h : HOwn H k d T w lo a c l) (hb : Below w.heap.size w w') : HOwn H k d T w' lo a c l :=
  ⟨h.cap, h.big, h.lies.imp id fun ⟨b, CS, ha, hlo, hB, hc⟩ => ⟨b, CS, ha, hlo, hB.below hb, fun i hi2 => by
    obtain ⟨ai, ci, h1, h2, h3⟩ := hc i hi2
    exact ⟨ai, ci, h1, h2, H.ow_below h3 hb⟩⟩⟩
theorem HOwn.set (h : HOwn H k d T w lo a c l) {p : Addr} (hp : p.block < lo) (v : Value) : HOwn H k d T (w.setCell p v) lo a c l :=
  ⟨h.cap, h.big, h.lies.imp id fun ⟨b, CS, ha, hlo, hB, hc⟩ => ⟨b, CS, ha, hlo, (Below.heap_setCell w p v b (by omega)).trans hB, fun i hi2 => by
    obtain ⟨ai, ci, h1, h2, h3⟩ := hc i hi2
    exact ⟨ai, ci, h1, h2, H.ow_set v h3 hp⟩⟩⟩
theorem HOwn.less (h : HOwn H k d T w lo a c l) (hh : lo' ≤ lo) : HOwn H k d T w lo' a c l :=
  ⟨h.cap, h.big, h.lies.imp id fun ⟨b, CS, ha, hlo, hB, hc⟩ => ⟨b, CS, ha, by omega, hB, fun i hi2 => by
    obtain ⟨ai, ci, h1, h2, h3⟩ := hc i hi2
    exact ⟨ai, ci, h1, h2, H.ow_less h3 hh⟩⟩⟩
theorem HCop.start {CS : Array Value} (hB : Blk w g T CS) (hs : CS.size = l.length * k) : HCop H k d T g l 0 w := ⟨CS, hB, hs, fun i hi => by omega⟩
theorem HCop.below {j : Nat} (h : HCop H k d T g l j w) (hb : Below w.heap.size w w') : HCop H k d T g l j w' := by
  obtain ⟨CS, hB, hs, hc⟩ := h.ex
  refine ⟨CS, hB.below hb, hs, fun i hi => ?_⟩
  obtain ⟨ai, ci, h1, h2, h3⟩ := hc i hi
  exact ⟨ai, ci, h1, h2, H.ow_below h3 hb⟩
theorem HCop.done (h : HCop H k d T g l l.length w) (hl : l.length ≤ 1048576) (hlo : lo ≤ g) : HOwn H k d T w lo (some ⟨g, 0, none⟩) l.length l := by
  obtain ⟨CS, hB, hs, hc⟩ := h.ex
  refine ⟨Nat.le_refl _, by omega, .inr ⟨g, CS, rfl, hlo, hB, fun i hi => ?_⟩⟩
  obtain ⟨ai, ci, h1, h2, h3⟩ := hc i hi
  exact ⟨ai, ci, h1, h2, H.ow_less h3 (by omega)⟩
theorem hblk_far {t : TypeId} {cs : Array Value} (h : Blk w g t cs) {p : Addr} (hp : g ≠ p.block) (u : Value) : Blk (w.setCell p u) g t cs := (Below.heap_setCell w p u g hp).trans h
/-- Cells that are set from o on. -/
def setFrom (CS : Array Value) (o : Nat) : List Value → Array Value
  | [] => CS
  | v :: vs => setFrom (CS.setIfInBounds o v) (o + 1) vs
theorem setFrom_size (vs : List Value) : ∀ (CS : Array Value) (o : Nat), (setFrom CS o vs).size = CS.size := by
  induction vs with
  | nil => intro CS o; rfl
  | cons v vs ih => intro CS o; rw [setFrom, ih]; simp
theorem setFrom_out (vs : List Value) : ∀ (CS : Array Value) (o i : Nat), (i < o ∨ o + vs.length ≤ i) → (setFrom CS o vs)[i]? = CS[i]? := by
  induction vs with
  | nil => intro CS o i _; rfl
  | cons v vs ih =>
    intro CS o i h
    simp only [List.length_cons] at h
    rw [setFrom, ih _ _ _ (by omega), Array.getElem?_setIfInBounds_ne (by omega)]
theorem setFrom_in (vs : List Value) : ∀ (CS : Array Value) (o q : Nat), q < vs.length → o + q < CS.size → (setFrom CS o vs)[o + q]? = vs[q]? := by
  induction vs with
  | nil => intro CS o q h; simp at h
  | cons v vs ih =>
    intro CS o q h hs
    rw [setFrom]
    cases q with
    | zero =>
      rw [setFrom_out _ _ _ _ (by omega)]
      simp [show o < CS.size by omega]
    | succ q =>
      rw [show o + (q + 1) = o + 1 + q by omega, ih _ _ _ (by simpa using h) (by simp; omega)]
      simp
theorem blk_setCells (vs : List Value) : ∀ {w : World} {CS : Array Value} (o : Nat), Blk w g T CS → Blk (w.setCells g o vs) g T (setFrom CS o vs) := by
  induction vs with
  | nil => intro w CS o h; exact h
  | cons v vs ih =>
    intro w CS o h
    exact ih (o + 1) (Blk.put_ h o v)
theorem ow_setCells (vs : List Value) : ∀ {w : World} {x : α} {ai : Option Addr} {ci : Nat} (o : Nat), H.ow w (g + 1) x ai ci → H.ow (w.setCells g o vs) (g + 1) x ai ci := by
  induction vs with
  | nil => intro w x ai ci o h; exact h
  | cons v vs ih =>
    intro w x ai ci o h
    exact ih (o + 1) (H.ow_set v h (show g < g + 1 by omega))
theorem below_setCells (vs : List Value) {B : Nat} (hB : B ≤ g) : ∀ {w0 w : World} (o : Nat), Below B w0 w → Below B w0 (w.setCells g o vs) := by
  induction vs with
  | nil => intro w0 w o h; exact h
  | cons v vs ih =>
    intro w0 w o h
    exact ih (o + 1) (h.setCell (p := ⟨g, o, none⟩) hB v)
theorem size_setCells (vs : List Value) : ∀ {w : World} (o : Nat), (w.setCells g o vs).heap.size = w.heap.size := by
  induction vs with
  | nil => intro w o; rfl
  | cons v vs ih =>
    intro w o
    exact (ih (o + 1)).trans (by simp [World.setCell])
theorem far_setCells (vs : List Value) {b : Nat} {cs : Array Value} (hb : b ≠ g) : ∀ {w : World} (o : Nat), Blk w b T cs → Blk (w.setCells g o vs) b T cs := by
  induction vs with
  | nil => intro w o h; exact h
  | cons v vs ih =>
    intro w o h
    exact ih (o + 1) (hblk_far h (p := ⟨g, o, none⟩) hb v)
theorem blk_there {cs : Array Value} {n o : Nat} (h : Blk w g T cs) (hn : o + n ≤ cs.size) : w.there g o n := fun j hj => by
  refine ⟨?_, h.frozen _⟩
  rw [h.cell]
  simp
  omega
theorem HOwn.setCells (vs : List Value) (hg : g < lo) : ∀ {w : World} (o : Nat), HOwn H k d T w lo a c l → HOwn H k d T (w.setCells g o vs) lo a c l := by
  induction vs with
  | nil => intro w o h; exact h
  | cons v vs ih =>
    intro w o h
    exact ih (o + 1) (h.set (p := ⟨g, o, none⟩) hg v)
/-- One record more. -/
theorem HCop.step {j : Nat} {ai : Option Addr} {ci : Nat} (h : HCop H k d T g l j w) (hk : 0 < k) (ht : (H.tail (rel d l j)).length + 1 = k) (hj : j < l.length) (ho : H.ow w (g + 1) (rel d l j) ai ci) :
    HCop H k d T g l (j + 1) (w.setCells g (j * k) (.slice ai (H.ln (rel d l j)) ci :: H.tail (rel d l j))) := by
  obtain ⟨CS, hB, hs, hc⟩ := h.ex
  have hjk : j * k + k ≤ CS.size := by
    have := Nat.mul_le_mul_right k (show j + 1 ≤ l.length from hj)
    rw [Nat.succ_mul] at this
    omega
  refine ⟨_, blk_setCells _ _ hB, by rw [setFrom_size, hs], fun i hi => ?_⟩
  by_cases he : i = j
  · subst he
    refine ⟨ai, ci, ?_, fun q hq => ?_, ow_setCells _ _ ho⟩
    · have := setFrom_in (.slice ai (H.ln (rel d l i)) ci :: H.tail (rel d l i)) CS (i * k) 0 (by simp) (by omega)
      simpa using this
    · have := setFrom_in (.slice ai (H.ln (rel d l i)) ci :: H.tail (rel d l i)) CS (i * k) (q + 1) (by simp; omega) (by omega)
      simpa using this
  · have hik : i * k + k ≤ j * k := by
      have := Nat.mul_le_mul_right k (show i + 1 ≤ j by omega)
      rw [Nat.succ_mul] at this
      omega
    obtain ⟨a1, c1, h1, h2, h3⟩ := hc i (by omega)
    exact ⟨a1, c1, by rw [setFrom_out _ _ _ _ (by omega)]; exact h1, fun q hq => by rw [setFrom_out _ _ _ _ (by omega)]; exact h2 q hq, ow_setCells _ _ h3⟩
end
end Go.Proofs.YtnfhlfbkdhpacaaGreatDoor

/- What a block holds behind a store of several cells, as a list. No program. -/
namespace Go.Proofs.YtnfhlfbkdhpacaaGreatDoor
open Go.RowKit

theorem setFrom_list (vs : List Value) (CS : Array Value) (o : Nat) (h : o + vs.length ≤ CS.size) : setFrom CS o vs = (CS.toList.take o ++ vs ++ CS.toList.drop (o + vs.length)).toArray := by
  have hl : (CS.toList.take o).length = o := by simp; omega
  apply Array.ext_getElem?
  intro i
  have e : (CS.toList.take o ++ vs ++ CS.toList.drop (o + vs.length)).toArray[i]? = (CS.toList.take o ++ vs ++ CS.toList.drop (o + vs.length))[i]? := by simp only [List.getElem?_toArray]
  rw [e]
  clear e
  rcases Nat.lt_or_ge i o with h1 | h1
  · rw [setFrom_out _ _ _ _ (.inl h1), List.getElem?_append_left (by simp; omega), List.getElem?_append_left (by omega), List.getElem?_take_of_lt h1, Array.getElem?_toList]
  · rcases Nat.lt_or_ge i (o + vs.length) with h2 | h2
    · obtain ⟨q, rfl⟩ : ∃ q, i = o + q := ⟨i - o, by omega⟩
      rw [setFrom_in _ _ _ _ (by omega) (by omega), List.getElem?_append_left (by simp; omega), List.getElem?_append_right (by omega), hl, Nat.add_sub_cancel_left]
    · rw [setFrom_out _ _ _ _ (.inr h2), List.getElem?_append_right (by simp; omega), List.getElem?_drop, Array.getElem?_toList]
      congr 1
      simp
      omega
theorem blk_setL {w : World} {g : Nat} {T : TypeId} {CS : List Value} (vs : List Value) (o : Nat) (h : Blk w g T CS.toArray) (ho : o + vs.length ≤ CS.length) : Blk (w.setCells g o vs) g T (CS.take o ++ vs ++ CS.drop (o + vs.length)).toArray := by
  have z := blk_setCells vs o h
  rw [setFrom_list _ _ _ (by simpa using ho)] at z
  exact z
/-- A store of several cells, its world by a letter. -/
theorem wpList_store_to {P : Program} {ops : Array Oper} {rest : List Oper} {op : Oper} {a : Act} {w W : World} {Q : Exit → Act → World → Prop} (hgd : op.guard = none) (ty : TypeId) (x y : Operand) (ho : op.op = .store ty x y)
    (b o : Nat) (cells : Array Value) (hx : a.eval x = .pointer (some ⟨b, o, none⟩)) (hy : a.eval y = .agg cells)
    (ht : w.there b o cells.size) (hi : (P.info? ty).map (·.size) = some cells.size) (h1 : cells.all (·.oneCell') = true) (hW : w.setCells b o cells.toList = W)
    (h : wpList P ops Q rest (a.put op.dst undef) W) : wpList P ops Q (op :: rest) a w := by
  subst hW
  exact wpList_store_mid hgd ty x y ho b o cells hx hy ht hi h1 h
end Go.Proofs.YtnfhlfbkdhpacaaGreatDoor

/- Contracts of spec's own words over bytes: the copy, two behind one another, a number in so many bytes. -/
namespace Go.Proofs.YtnfhlfbkdhpacaaGreatDoor
open Go.RowKit

theorem one_u8 (x : Int) : ∀ u ∈ [Value.int .u8 x], u.oneCell' = true := by intro u hu; simp at hu; subst hu; rfl

set_option maxHeartbeats 1000000 in
theorem specBytes_any (a : Option Addr) (n c : Nat) (xs : List Int) (hi : Nat) (w : World) (hr : Nums .u8 w hi a c xs) (hn : n = xs.length) (hB : hi ≤ w.heap.size) (hlen : xs.length ≤ 4194304) :
    Calls Tryz.prog 269 #[.slice a n c] w (FreshNums 5 .u8 xs w) := by
  subst hn
  obtain ⟨i0, hi0, hz0, hz1, hz2⟩ := info_parts infoU8
  have hc1 := hr.cap
  have hc2 := hr.big
  have HR := Lib.hid hr
  clear hr
  go_enter Tryz.func269, Tryz.ntmps269
  go_wp2
  go_loopw [3, 4] (fun v i wr => ∃ (k : Nat) (a' : Option Addr) (c' : Nat), k ≤ xs.length ∧ i = .int .i64 k ∧ v = .slice a' k c' ∧ wr.ownsRow w.heap.size 5 1 (.slice a' k c') k ((xs.take k).map (Value.int .u8)) ∧ Below w.heap.size w wr)
    (fun _ i _ => xs.length - (intOf i).toNat)
  case atStart => exact ⟨0, _, _, Nat.zero_le _, rfl, rfl, World.ownsRow_made w #[] 0 (Nat.le_refl _) (by unfold maxLen; omega) (by simp), (Below.refl _ _).alloc (Nat.le_refl _) _⟩
  case round =>
    obtain ⟨k, a', c', hk, rfl, rfl, hown, hb⟩ := hrel
    have hsz := hb.size
    by_cases hlt : k < xs.length
    · obtain ⟨b, off, rfl, hbh, hcell⟩ := HR.out.lies.resolve_left (by intro h; subst h; simp at hlt)
      have hck := (hb.cell (p := ⟨b, off + k, none⟩) (show b < w.heap.size by omega)).trans (hcell k hlt)
      have HT := Lib.hid (el_take xs k hlt)
      clear hcell
      have HB := Lib.hid hb
      clear hb
      go_wp2_with (at_builtin; refine wpList_append_own _ rfl _ _ 60 rfl w.heap.size 5 i0 (.int .u8 0) 1 1 Tryz.underlying60 hi0 hz0 hz1 hz2 rfl (by decide) _ _ _ rfl (hown.alloc _) ⟨wr.heap.size, 0, none⟩ 1 1 [.int .u8 (el xs k)] rfl rfl (cell_one_new _ _ _) (one_u8 _) ?c3 ?c4 ?c5 ?_)
      case c3 => unfold maxLen; omega
      case c4 => omega
      case c5 => simp; omega
      intro v' w1 hown' hg _
      obtain ⟨a2, c2, rfl⟩ := owns_shape hown'
      have hb2 := (HB.out.alloc hsz _).trans (below_own (hown.alloc _) hg (by simp; omega))
      have hown2 : w1.ownsRow w.heap.size 5 1 (.slice a2 (k + 1) c2) (k + 1) ((xs.take (k + 1)).map (Value.int .u8)) := by rw [HT.out]; simpa using hown'
      have HO := Lib.hid hown2
      clear hown2
      have HB2 := Lib.hid hb2
      clear hown' hb2 hg hown
      go_wp2
      go_roundw
      case rel => exact ⟨k + 1, _, _, by omega, by go_num, by rfl, HO.out, HB2.out⟩
      case measure => simp [intOf]; omega
    · obtain rfl : k = xs.length := by omega
      have HP : Hid (FreshNums 5 .u8 xs w (.returned (.slice a' xs.length c')) wr) := ⟨_, _, rfl, by rw [List.take_length] at hown; exact hown, hb⟩
      clear hown hb
      go_wp2
      go_ret
      exact HP.out
set_option maxHeartbeats 1000000 in
theorem specBytes2_any (a : Option Addr) (n c : Nat) (xs : List Int) (hi : Nat) (w : World) (hr : Nums .u8 w hi a c xs) (hn : n = xs.length) (hB : hi ≤ w.heap.size) (hlen : xs.length ≤ 4194304) :
    Calls Tryz.prog 104 #[.slice a n c] w (FreshNums 5 .u8 xs w) := by
  subst hn
  obtain ⟨i0, hi0, hz0, hz1, hz2⟩ := info_parts infoU8
  have hc1 := hr.cap
  have hc2 := hr.big
  have HR := Lib.hid hr
  clear hr
  go_enter Tryz.func104, Tryz.ntmps104
  go_wp2
  go_loopw [3, 4] (fun v i wr => ∃ (k : Nat) (a' : Option Addr) (c' : Nat), k ≤ xs.length ∧ i = .int .i64 k ∧ v = .slice a' k c' ∧ wr.ownsRow w.heap.size 5 1 (.slice a' k c') k ((xs.take k).map (Value.int .u8)) ∧ Below w.heap.size w wr)
    (fun _ i _ => xs.length - (intOf i).toNat)
  case atStart => exact ⟨0, _, _, Nat.zero_le _, rfl, rfl, World.ownsRow_made w #[] 0 (Nat.le_refl _) (by unfold maxLen; omega) (by simp), (Below.refl _ _).alloc (Nat.le_refl _) _⟩
  case round =>
    obtain ⟨k, a', c', hk, rfl, rfl, hown, hb⟩ := hrel
    have hsz := hb.size
    by_cases hlt : k < xs.length
    · obtain ⟨b, off, rfl, hbh, hcell⟩ := HR.out.lies.resolve_left (by intro h; subst h; simp at hlt)
      have hck := (hb.cell (p := ⟨b, off + k, none⟩) (show b < w.heap.size by omega)).trans (hcell k hlt)
      have HT := Lib.hid (el_take xs k hlt)
      clear hcell
      have HB := Lib.hid hb
      clear hb
      go_wp2_with (at_builtin; refine wpList_append_own _ rfl _ _ 60 rfl w.heap.size 5 i0 (.int .u8 0) 1 1 Tryz.underlying60 hi0 hz0 hz1 hz2 rfl (by decide) _ _ _ rfl (hown.alloc _) ⟨wr.heap.size, 0, none⟩ 1 1 [.int .u8 (el xs k)] rfl rfl (cell_one_new _ _ _) (one_u8 _) ?c3 ?c4 ?c5 ?_)
      case c3 => unfold maxLen; omega
      case c4 => omega
      case c5 => simp; omega
      intro v' w1 hown' hg _
      obtain ⟨a2, c2, rfl⟩ := owns_shape hown'
      have hb2 := (HB.out.alloc hsz _).trans (below_own (hown.alloc _) hg (by simp; omega))
      have hown2 : w1.ownsRow w.heap.size 5 1 (.slice a2 (k + 1) c2) (k + 1) ((xs.take (k + 1)).map (Value.int .u8)) := by rw [HT.out]; simpa using hown'
      have HO := Lib.hid hown2
      clear hown2
      have HB2 := Lib.hid hb2
      clear hown' hb2 hg hown
      go_wp2
      go_roundw
      case rel => exact ⟨k + 1, _, _, by omega, by go_num, by rfl, HO.out, HB2.out⟩
      case measure => simp [intOf]; omega
    · obtain rfl : k = xs.length := by omega
      have HP : Hid (FreshNums 5 .u8 xs w (.returned (.slice a' xs.length c')) wr) := ⟨_, _, rfl, by rw [List.take_length] at hown; exact hown, hb⟩
      clear hown hb
      go_wp2
      go_ret
      exact HP.out
set_option maxHeartbeats 1000000 in
theorem specJoin_any (a b : Option Addr) (n m c d : Nat) (xs ys : List Int) (hi hj : Nat) (w : World) (hr : Nums .u8 w hi a c xs) (hs : Nums .u8 w hj b d ys) (hn : n = xs.length) (hm : m = ys.length) (hB : hi ≤ w.heap.size) (hC : hj ≤ w.heap.size) (hlen : xs.length ≤ 4194304) (hlen2 : ys.length ≤ 4194304) :
    Calls Tryz.prog 230 #[.slice a n c, .slice b m d] w (FreshNums 5 .u8 (xs ++ ys) w) := by
  subst hm
  subst hn
  obtain ⟨i0, hi0, hz0, hz1, hz2⟩ := info_parts infoU8
  have hd1 := hs.cap
  have hd2 := hs.big
  have HS := Lib.hid hs
  have HR := Lib.hid hr
  clear hs hr
  go_enter Tryz.func230, Tryz.ntmps230
  go_wp2_with fail
  refine (specBytes_any a _ c xs hi _ HR.out rfl hB hlen).mono ?_
  rintro e w0 ⟨a0, c0, rfl, hown0, hb0⟩
  have H0 := Lib.hid (And.intro hown0 hb0)
  clear hown0 hb0
  go_wp2
  go_loopw [5, 6] (fun v i wr => ∃ (k : Nat) (a' : Option Addr) (c' : Nat), k ≤ ys.length ∧ i = .int .i64 k ∧ v = .slice a' (xs.length + k) c' ∧ wr.ownsRow w.heap.size 5 1 (.slice a' (xs.length + k) c') (xs.length + k) ((xs ++ ys.take k).map (Value.int .u8)) ∧ Below w.heap.size w wr)
    (fun _ i _ => ys.length - (intOf i).toNat)
  case atStart => exact ⟨0, _, _, Nat.zero_le _, rfl, rfl, by simpa using H0.out.1, H0.out.2⟩
  case round =>
    obtain ⟨k, a', c', hk, rfl, rfl, hown, hb⟩ := hrel
    have hsz := hb.size
    by_cases hlt : k < ys.length
    · obtain ⟨b1, off, rfl, hbh, hcell⟩ := HS.out.lies.resolve_left (by intro h; subst h; simp at hlt)
      have hck := (hb.cell (p := ⟨b1, off + k, none⟩) (show b1 < w.heap.size by omega)).trans (hcell k hlt)
      have HT := Lib.hid (el_take ys k hlt)
      clear hcell
      have HB := Lib.hid hb
      clear hb
      go_wp2_with (at_builtin; refine wpList_append_own _ rfl _ _ 60 rfl w.heap.size 5 i0 (.int .u8 0) 1 1 Tryz.underlying60 hi0 hz0 hz1 hz2 rfl (by decide) _ _ _ rfl (hown.alloc _) ⟨wr.heap.size, 0, none⟩ 1 1 [.int .u8 (el ys k)] rfl rfl (cell_one_new _ _ _) (one_u8 _) ?c3 ?c4 ?c5 ?_)
      case c3 => unfold maxLen; omega
      case c4 => omega
      case c5 => simp; omega
      intro v' w1 hown' hg _
      obtain ⟨a2, c2, rfl⟩ := owns_shape hown'
      have hb2 := (HB.out.alloc hsz _).trans (below_own (hown.alloc _) hg (by simp; omega))
      have hown2 : w1.ownsRow w.heap.size 5 1 (.slice a2 (xs.length + (k + 1)) c2) (xs.length + (k + 1)) ((xs ++ ys.take (k + 1)).map (Value.int .u8)) := by rw [HT.out]; simpa [Nat.add_assoc] using hown'
      have HO := Lib.hid hown2
      clear hown2
      have HB2 := Lib.hid hb2
      clear hown' hb2 hg hown
      go_wp2
      go_roundw
      case rel => exact ⟨k + 1, _, _, by omega, by go_num, by rfl, HO.out, HB2.out⟩
      case measure => simp [intOf]; omega
    · obtain rfl : k = ys.length := by omega
      have HP : Hid (FreshNums 5 .u8 (xs ++ ys) w (.returned (.slice a' (xs.length + ys.length) c')) wr) := ⟨_, _, by rw [List.length_append], by rw [List.take_length] at hown; rw [List.length_append]; exact hown, hb⟩
      clear hown hb
      go_wp2
      go_ret
      exact HP.out
set_option maxHeartbeats 2000000 in
theorem specWide_any (x : Int) (n : Nat) (h0 : 0 ≤ x) (h1 : x ≤ 4294967295) (hn : n ≤ 4) (w : World) :
    Calls Tryz.prog 231 #[.int .i64 x, .int .i64 (n : Int)] w (FreshNums 5 .u8 (wide n x) w) := by
  obtain ⟨i0, hi0, hz0, hz1, hz2⟩ := info_parts infoU8
  go_enter Tryz.func231, Tryz.ntmps231
  go_wp2
  go_loopw [5, 6] (fun v i wr => ∃ (j r : Nat) (I : Int) (a' : Option Addr) (c' : Nat), j + r = n ∧ I = (r : Int) - 1 ∧ i = .int .i64 I ∧ v = .slice a' j c' ∧ wr.ownsRow w.heap.size 5 1 (.slice a' j c') j (((wide n x).take j).map (Value.int .u8)) ∧ Below w.heap.size w wr)
    (fun _ i _ => (intOf i + 1).toNat)
  case atStart => exact ⟨0, n, _, _, _, by omega, rfl, rfl, rfl, World.ownsRow_made w #[] 0 (Nat.le_refl _) (by unfold maxLen; omega) (by simp), (Below.refl _ _).alloc (Nat.le_refl _) _⟩
  case round =>
    obtain ⟨j, r, I, a', c', hjr, hI, rfl, rfl, hown, hb⟩ := hrel
    have hsz := hb.size
    by_cases hI0 : I = 0
    · subst hI0
      obtain rfl : r = 1 := by omega
      have HT := Lib.hid (wide_at0 x hjr)
      have HJ := Lib.hid hjr
      have hjn : j + 1 ≤ n := by omega
      clear hI hjr
      have HB := Lib.hid hb
      have hby := and_byte (show 0 ≤ x by omega) (show x ≤ 4294967295 by omega)
      clear hb
      go_wp2_with (at_builtin; refine wpList_append_own _ rfl _ _ 60 rfl w.heap.size 5 i0 (.int .u8 0) 1 1 Tryz.underlying60 hi0 hz0 hz1 hz2 rfl (by decide) _ _ _ rfl (hown.alloc _) ⟨wr.heap.size, 0, none⟩ 1 1 [.int .u8 (x % 256)] rfl rfl (cell_one_new _ _ _) (one_u8 _) ?c3 ?c4 ?c5 ?_)
      case c3 => unfold maxLen; omega
      case c4 => omega
      case c5 => simp; omega
      intro v' w1 hown' hg _
      obtain ⟨a2, c2, rfl⟩ := owns_shape hown'
      have hb2 := (HB.out.alloc hsz _).trans (below_own (hown.alloc _) hg (by simp; omega))
      have hown2 : w1.ownsRow w.heap.size 5 1 (.slice a2 (j + 1) c2) (j + 1) (((wide n x).take (j + 1)).map (Value.int .u8)) := by rw [HT.out]; simpa using hown'
      have HO := Lib.hid hown2
      clear hown2
      have HB2 := Lib.hid hb2
      clear hown' hb2 hg hown hby
      go_wp2
      go_roundw
      case rel => exact ⟨j + 1, 0, _, _, _, by have := HJ.out; omega, by rfl, by go_num, by rfl, HO.out, HB2.out⟩
      case measure => simp [intOf]
    by_cases hI1 : I = 1
    · subst hI1
      obtain rfl : r = 2 := by omega
      have HT := Lib.hid (wide_at1 x hjr)
      have HJ := Lib.hid hjr
      have hjn : j + 2 ≤ n := by omega
      clear hI hjr
      have HB := Lib.hid hb
      have hby := and_byte (show 0 ≤ x / 256 by omega) (show x / 256 ≤ 4294967295 by omega)
      clear hb
      go_wp2_with (at_builtin; refine wpList_append_own _ rfl _ _ 60 rfl w.heap.size 5 i0 (.int .u8 0) 1 1 Tryz.underlying60 hi0 hz0 hz1 hz2 rfl (by decide) _ _ _ rfl (hown.alloc _) ⟨wr.heap.size, 0, none⟩ 1 1 [.int .u8 (x / 256 % 256)] rfl rfl (cell_one_new _ _ _) (one_u8 _) ?c3 ?c4 ?c5 ?_)
      case c3 => unfold maxLen; omega
      case c4 => omega
      case c5 => simp; omega
      intro v' w1 hown' hg _
      obtain ⟨a2, c2, rfl⟩ := owns_shape hown'
      have hb2 := (HB.out.alloc hsz _).trans (below_own (hown.alloc _) hg (by simp; omega))
      have hown2 : w1.ownsRow w.heap.size 5 1 (.slice a2 (j + 1) c2) (j + 1) (((wide n x).take (j + 1)).map (Value.int .u8)) := by rw [HT.out]; simpa using hown'
      have HO := Lib.hid hown2
      clear hown2
      have HB2 := Lib.hid hb2
      clear hown' hb2 hg hown hby
      go_wp2
      go_roundw
      case rel => exact ⟨j + 1, 1, _, _, _, by have := HJ.out; omega, by rfl, by go_num, by rfl, HO.out, HB2.out⟩
      case measure => simp [intOf]
    by_cases hI2 : I = 2
    · subst hI2
      obtain rfl : r = 3 := by omega
      have HT := Lib.hid (wide_at2 x hjr)
      have HJ := Lib.hid hjr
      have hjn : j + 3 ≤ n := by omega
      clear hI hjr
      have HB := Lib.hid hb
      have hby := and_byte (show 0 ≤ x / 65536 by omega) (show x / 65536 ≤ 4294967295 by omega)
      clear hb
      go_wp2_with (at_builtin; refine wpList_append_own _ rfl _ _ 60 rfl w.heap.size 5 i0 (.int .u8 0) 1 1 Tryz.underlying60 hi0 hz0 hz1 hz2 rfl (by decide) _ _ _ rfl (hown.alloc _) ⟨wr.heap.size, 0, none⟩ 1 1 [.int .u8 (x / 65536 % 256)] rfl rfl (cell_one_new _ _ _) (one_u8 _) ?c3 ?c4 ?c5 ?_)
      case c3 => unfold maxLen; omega
      case c4 => omega
      case c5 => simp; omega
      intro v' w1 hown' hg _
      obtain ⟨a2, c2, rfl⟩ := owns_shape hown'
      have hb2 := (HB.out.alloc hsz _).trans (below_own (hown.alloc _) hg (by simp; omega))
      have hown2 : w1.ownsRow w.heap.size 5 1 (.slice a2 (j + 1) c2) (j + 1) (((wide n x).take (j + 1)).map (Value.int .u8)) := by rw [HT.out]; simpa using hown'
      have HO := Lib.hid hown2
      clear hown2
      have HB2 := Lib.hid hb2
      clear hown' hb2 hg hown hby
      go_wp2
      go_roundw
      case rel => exact ⟨j + 1, 2, _, _, _, by have := HJ.out; omega, by rfl, by go_num, by rfl, HO.out, HB2.out⟩
      case measure => simp [intOf]
    by_cases hI3 : I = 3
    · subst hI3
      obtain rfl : r = 4 := by omega
      have HT := Lib.hid (wide_at3 x hjr)
      have HJ := Lib.hid hjr
      have hjn : j + 4 ≤ n := by omega
      clear hI hjr
      have HB := Lib.hid hb
      have hby := and_byte (show 0 ≤ x / 16777216 by omega) (show x / 16777216 ≤ 4294967295 by omega)
      clear hb
      go_wp2_with (at_builtin; refine wpList_append_own _ rfl _ _ 60 rfl w.heap.size 5 i0 (.int .u8 0) 1 1 Tryz.underlying60 hi0 hz0 hz1 hz2 rfl (by decide) _ _ _ rfl (hown.alloc _) ⟨wr.heap.size, 0, none⟩ 1 1 [.int .u8 (x / 16777216 % 256)] rfl rfl (cell_one_new _ _ _) (one_u8 _) ?c3 ?c4 ?c5 ?_)
      case c3 => unfold maxLen; omega
      case c4 => omega
      case c5 => simp; omega
      intro v' w1 hown' hg _
      obtain ⟨a2, c2, rfl⟩ := owns_shape hown'
      have hb2 := (HB.out.alloc hsz _).trans (below_own (hown.alloc _) hg (by simp; omega))
      have hown2 : w1.ownsRow w.heap.size 5 1 (.slice a2 (j + 1) c2) (j + 1) (((wide n x).take (j + 1)).map (Value.int .u8)) := by rw [HT.out]; simpa using hown'
      have HO := Lib.hid hown2
      clear hown2
      have HB2 := Lib.hid hb2
      clear hown' hb2 hg hown hby
      go_wp2
      go_roundw
      case rel => exact ⟨j + 1, 3, _, _, _, by have := HJ.out; omega, by rfl, by go_num, by rfl, HO.out, HB2.out⟩
      case measure => simp [intOf]
    obtain rfl : r = 0 := by omega
    obtain rfl : I = -1 := by omega
    obtain rfl : j = n := by omega
    have HP : Hid (FreshNums 5 .u8 (wide j x) w (.returned (.slice a' j c')) wr) := by
      have e : (wide j x).take j = wide j x := List.take_of_length_le (by rw [wide_len]; exact Nat.le_refl _)
      rw [e] at hown
      exact ⟨_, _, by rw [wide_len], by rw [wide_len]; exact hown, hb⟩
    clear hown hb hI hjr hI0 hI1 hI2 hI3
    go_wp2
    go_ret
    exact HP.out

end Go.Proofs.YtnfhlfbkdhpacaaGreatDoor

/- Contract of impl.putNumber: a number in so many bytes behind a row of the call's own. -/
namespace Go.Proofs.YtnfhlfbkdhpacaaGreatDoor
open Go.RowKit

set_option maxHeartbeats 2000000 in
theorem putNumber_any (a : Option Addr) (m c : Nat) (xs : List Int) (x : Int) (n lo : Nat) (h0 : 0 ≤ x) (h1 : x ≤ 4294967295) (hn : n ≤ 4) (w : World) (hr : w.ownsRow lo 5 1 (.slice a m c) m (xs.map (Value.int .u8))) (hm : m = xs.length) (hlen : xs.length ≤ 1048576) (hlo : lo ≤ w.heap.size) :
    Calls Tryz.prog 201 #[.slice a m c, .int .i64 x, .int .i64 (n : Int)] w (OwnNums 5 .u8 lo (xs ++ wide n x) w) := by
  subst hm
  obtain ⟨i0, hi0, hz0, hz1, hz2⟩ := info_parts infoU8
  have HR := Lib.hid hr
  clear hr
  go_enter Tryz.func201, Tryz.ntmps201
  go_wp2
  go_loopw [0, 7] (fun v i wr => ∃ (j r : Nat) (I : Int) (a' : Option Addr) (c' : Nat), j + r = n ∧ I = (r : Int) - 1 ∧ i = .int .i64 I ∧ v = .slice a' (xs.length + j) c' ∧ wr.ownsRow lo 5 1 (.slice a' (xs.length + j) c') (xs.length + j) ((xs ++ (wide n x).take j).map (Value.int .u8)) ∧ Below lo w wr)
    (fun _ i _ => (intOf i + 1).toNat)
  case atStart => exact ⟨0, n, _, _, _, by omega, rfl, rfl, rfl, by simpa using HR.out, Below.refl _ _⟩
  case round =>
    obtain ⟨j, r, I, a', c', hjr, hI, rfl, rfl, hown, hb⟩ := hrel
    have hsz := hb.size
    by_cases hI0 : I = 0
    · subst hI0
      obtain rfl : r = 1 := by omega
      have HT := Lib.hid (wide_at0 x hjr)
      have HJ := Lib.hid hjr
      have hjn : j + 1 ≤ n := by omega
      clear hI hjr
      have HB := Lib.hid hb
      clear hb
      go_wp2_with (at_builtin; refine wpList_append_own _ rfl _ _ 60 rfl lo 5 i0 (.int .u8 0) 1 1 Tryz.underlying60 hi0 hz0 hz1 hz2 rfl (by decide) _ _ _ rfl (hown.alloc _) ⟨wr.heap.size, 0, none⟩ 1 1 [.int .u8 (x % 256)] rfl rfl (cell_one_new _ _ _) (one_u8 _) ?c3 ?c4 ?c5 ?_)
      case c3 => unfold maxLen; omega
      case c4 => omega
      case c5 => simp; omega
      intro v' w1 hown' hg _
      obtain ⟨a2, c2, rfl⟩ := owns_shape hown'
      have hb2 := (HB.out.alloc (Nat.le_trans hlo hsz) _).trans (below_own (hown.alloc _) hg (by simp; omega))
      have hown2 : w1.ownsRow lo 5 1 (.slice a2 (xs.length + (j + 1)) c2) (xs.length + (j + 1)) ((xs ++ (wide n x).take (j + 1)).map (Value.int .u8)) := by rw [HT.out]; simpa [Nat.add_assoc] using hown'
      have HO := Lib.hid hown2
      clear hown2
      have HB2 := Lib.hid hb2
      clear hown' hb2 hg hown
      go_wp2
      go_roundw
      case rel => exact ⟨j + 1, 0, _, _, _, by have := HJ.out; omega, by rfl, by go_num, by rfl, HO.out, HB2.out⟩
      case measure => simp [intOf]
    by_cases hI1 : I = 1
    · subst hI1
      obtain rfl : r = 2 := by omega
      have HT := Lib.hid (wide_at1 x hjr)
      have HJ := Lib.hid hjr
      have hjn : j + 2 ≤ n := by omega
      clear hI hjr
      have HB := Lib.hid hb
      clear hb
      go_wp2_with (at_builtin; refine wpList_append_own _ rfl _ _ 60 rfl lo 5 i0 (.int .u8 0) 1 1 Tryz.underlying60 hi0 hz0 hz1 hz2 rfl (by decide) _ _ _ rfl (hown.alloc _) ⟨wr.heap.size, 0, none⟩ 1 1 [.int .u8 (x / 256 % 256)] rfl rfl (cell_one_new _ _ _) (one_u8 _) ?c3 ?c4 ?c5 ?_)
      case c3 => unfold maxLen; omega
      case c4 => omega
      case c5 => simp; omega
      intro v' w1 hown' hg _
      obtain ⟨a2, c2, rfl⟩ := owns_shape hown'
      have hb2 := (HB.out.alloc (Nat.le_trans hlo hsz) _).trans (below_own (hown.alloc _) hg (by simp; omega))
      have hown2 : w1.ownsRow lo 5 1 (.slice a2 (xs.length + (j + 1)) c2) (xs.length + (j + 1)) ((xs ++ (wide n x).take (j + 1)).map (Value.int .u8)) := by rw [HT.out]; simpa [Nat.add_assoc] using hown'
      have HO := Lib.hid hown2
      clear hown2
      have HB2 := Lib.hid hb2
      clear hown' hb2 hg hown
      go_wp2
      go_roundw
      case rel => exact ⟨j + 1, 1, _, _, _, by have := HJ.out; omega, by rfl, by go_num, by rfl, HO.out, HB2.out⟩
      case measure => simp [intOf]
    by_cases hI2 : I = 2
    · subst hI2
      obtain rfl : r = 3 := by omega
      have HT := Lib.hid (wide_at2 x hjr)
      have HJ := Lib.hid hjr
      have hjn : j + 3 ≤ n := by omega
      clear hI hjr
      have HB := Lib.hid hb
      clear hb
      go_wp2_with (at_builtin; refine wpList_append_own _ rfl _ _ 60 rfl lo 5 i0 (.int .u8 0) 1 1 Tryz.underlying60 hi0 hz0 hz1 hz2 rfl (by decide) _ _ _ rfl (hown.alloc _) ⟨wr.heap.size, 0, none⟩ 1 1 [.int .u8 (x / 65536 % 256)] rfl rfl (cell_one_new _ _ _) (one_u8 _) ?c3 ?c4 ?c5 ?_)
      case c3 => unfold maxLen; omega
      case c4 => omega
      case c5 => simp; omega
      intro v' w1 hown' hg _
      obtain ⟨a2, c2, rfl⟩ := owns_shape hown'
      have hb2 := (HB.out.alloc (Nat.le_trans hlo hsz) _).trans (below_own (hown.alloc _) hg (by simp; omega))
      have hown2 : w1.ownsRow lo 5 1 (.slice a2 (xs.length + (j + 1)) c2) (xs.length + (j + 1)) ((xs ++ (wide n x).take (j + 1)).map (Value.int .u8)) := by rw [HT.out]; simpa [Nat.add_assoc] using hown'
      have HO := Lib.hid hown2
      clear hown2
      have HB2 := Lib.hid hb2
      clear hown' hb2 hg hown
      go_wp2
      go_roundw
      case rel => exact ⟨j + 1, 2, _, _, _, by have := HJ.out; omega, by rfl, by go_num, by rfl, HO.out, HB2.out⟩
      case measure => simp [intOf]
    by_cases hI3 : I = 3
    · subst hI3
      obtain rfl : r = 4 := by omega
      have HT := Lib.hid (wide_top h0 h1 hjr)
      have HJ := Lib.hid hjr
      have hjn : j + 4 ≤ n := by omega
      clear hI hjr
      have HB := Lib.hid hb
      clear hb
      go_wp2_with (at_builtin; refine wpList_append_own _ rfl _ _ 60 rfl lo 5 i0 (.int .u8 0) 1 1 Tryz.underlying60 hi0 hz0 hz1 hz2 rfl (by decide) _ _ _ rfl (hown.alloc _) ⟨wr.heap.size, 0, none⟩ 1 1 [.int .u8 (x / 16777216)] rfl rfl (cell_one_new _ _ _) (one_u8 _) ?c3 ?c4 ?c5 ?_)
      case c3 => unfold maxLen; omega
      case c4 => omega
      case c5 => simp; omega
      intro v' w1 hown' hg _
      obtain ⟨a2, c2, rfl⟩ := owns_shape hown'
      have hb2 := (HB.out.alloc (Nat.le_trans hlo hsz) _).trans (below_own (hown.alloc _) hg (by simp; omega))
      have hown2 : w1.ownsRow lo 5 1 (.slice a2 (xs.length + (j + 1)) c2) (xs.length + (j + 1)) ((xs ++ (wide n x).take (j + 1)).map (Value.int .u8)) := by rw [HT.out]; simpa [Nat.add_assoc] using hown'
      have HO := Lib.hid hown2
      clear hown2
      have HB2 := Lib.hid hb2
      clear hown' hb2 hg hown
      go_wp2
      go_roundw
      case rel => exact ⟨j + 1, 3, _, _, _, by have := HJ.out; omega, by rfl, by go_num, by rfl, HO.out, HB2.out⟩
      case measure => simp [intOf]
    obtain rfl : r = 0 := by omega
    obtain rfl : I = -1 := by omega
    obtain rfl : j = n := by omega
    have HP : Hid (OwnNums 5 .u8 lo (xs ++ wide j x) w (.returned (.slice a' (xs.length + j) c')) wr) := by
      have e : (wide j x).take j = wide j x := List.take_of_length_le (by rw [wide_len]; exact Nat.le_refl _)
      rw [e] at hown
      exact ⟨_, _, by rw [List.length_append, wide_len], by rw [List.length_append, wide_len]; exact hown, hb⟩
    clear hown hb hI hjr hI0 hI1 hI2 hI3
    go_wp2
    go_ret
    exact HP.out

end Go.Proofs.YtnfhlfbkdhpacaaGreatDoor
