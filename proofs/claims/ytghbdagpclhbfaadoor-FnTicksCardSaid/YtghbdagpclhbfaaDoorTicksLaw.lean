/- Adding ticks stays a tick, is the same in either order and grows; Since undoes it; texts are read as they were written; a list's sum and its least: the law FnTicks returns true for every slice of bytes that the draws are made of, and the slice reads as before. The row lists seven variables of Go's library, tied to the program's text. -/
import Derived.Test.YtghbdagpclhbfaaDoorCards
import Derived.Test.YtghbdagpclhbfaaDoorTie
import Derived.Test.YtghbdagpclhbfaaDoorLaid
import Derived.Test.YtghbdagpclhbfaaDoorParse
import Derived.Test.YtghbdagpclhbfaaDoorTick3
import Derived.Test.YtghbdagpclhbfaaDoorDrawTick
import Derived.Deep.DeepHandedRow
import Derived.Lay
import Derived.ChangeOld
import Derived.OpenShut
import Derived.WalkSmall
import Derived.Test.YtghbdagpclhbfaaDoorBytesArg
namespace Go.Proofs.YtghbdagpclhbfaaDoor.fnTicks
open Go.ChangeShapes Go.WideShapes Go.ChangeAt Go.RowKit

theorem own : ownKnob Tryd.prog.godebug = none := by kernel_rfl
theorem laidOut : laidOutB Tryd.prog = true := by kernel_rfl

theorem tick_of {t : Int} (h0 : 0 ≤ t) (h1 : t ≤ 1000000000) : tickB t = true := tickB_yes h0 h1
theorem add_eq {a b : Int} (ha : tickB a = true) (hb : tickB b = true) : addTick a b = (if 1000000000 < a + b then 1000000000 else a + b) := by
  have h1 := tickB_bd ha
  have h2 := tickB_bd hb
  unfold addTick
  rw [if_pos ⟨ha, inB_yes (by omega) (by omega)⟩]
  split
  · rfl
  · rw [if_neg (by omega)]
theorem add_neg {a b : Int} (ha : tickB a = true) (hb : tickB b = true) : addTick a (-b) = sinceT b a := by
  have h1 := tickB_bd ha
  have h2 := tickB_bd hb
  have e1 : addTick a (-b) = if a + -b < 0 then 0 else a + -b := by
    unfold addTick
    rw [if_pos ⟨ha, inB_yes (by omega) (by omega)⟩, if_neg (by omega)]
  have e2 : sinceT b a = if a < b then 0 else a - b := by
    unfold sinceT
    rw [if_pos ⟨hb, ha⟩]
  rw [e1, e2]
  by_cases h : a < b
  · rw [if_pos (by omega), if_pos h]
  · rw [if_neg (by omega), if_neg h]; omega
theorem sum3 {a b : Int} (ha : tickB a = true) (hb : tickB b = true) : sumT [a, b, 1] = addTick (addTick a b) 1 := by
  have h1 := tickB_bd ha
  have ht : tickB 1 = true := tick_of (by omega) (by omega)
  unfold sumT foldTo
  rw [if_neg (by simp), if_pos (by simp [ha, hb, ht])]
  have e : addTick 0 a = a := by
    rw [add_eq (tick_of (by omega) (by omega)) ha, if_neg (by omega)]; omega
  simp [e]
theorem soon3 (a b : Int) : soonest [-1, a, b] = soonest [a, b] := by
  unfold soonest foldTo
  have e : soonStep (-1) (-1) = -1 := soonStep_no (tickB_no (by omega))
  simp [e]

/-- All that the law asks of two ticks. -/
theorem facts {a b : Int} (ha : tickB a = true) (hb : tickB b = true) : ∃ X S : Int, addTick a b = X ∧ addTick b a = X ∧ tickB X = true ∧ a ≤ X ∧ 0 ≤ X ∧ X ≤ 1000000000 ∧ addTick a (-b) = S ∧ sinceT b a = S ∧
    (X < 1000000000 → sinceT a X = b) ∧ (0 < b → dueB a b X = true) ∧ (¬ 0 < b → dueB a b X = false) ∧ (0 < b → X < 1000000000 → dueB a b (X - 1) = false) ∧ sumT [a, b, 1] = addTick X 1 ∧ (0 < b → 0 < X) := by
  have h1 := tickB_bd ha
  have h2 := tickB_bd hb
  have hx := add_eq ha hb
  have hX0 : 0 ≤ addTick a b ∧ addTick a b ≤ 1000000000 ∧ a ≤ addTick a b := by rw [hx]; split <;> omega
  have ht : tickB (addTick a b) = true := tick_of hX0.1 hX0.2.1
  refine ⟨addTick a b, sinceT b a, rfl, ?_, ht, hX0.2.2, hX0.1, hX0.2.1, add_neg ha hb, rfl, ?_, ?_, ?_, ?_, sum3 ha hb, ?_⟩
  · rw [add_eq hb ha, hx, Int.add_comm]
  · intro hl
    have : addTick a b = a + b := by rw [hx] at hl ⊢; split <;> simp_all
    unfold sinceT
    rw [if_pos ⟨ha, ht⟩, if_neg (by omega), this]
    omega
  · intro hp
    rw [dueB_eq ha hb ht hp]
    simp
  · intro hp
    exact dueB_no4 hp
  · intro hp hl
    have : addTick a b = a + b := by rw [hx] at hl ⊢; split <;> simp_all
    have ht2 : tickB (addTick a b - 1) = true := tick_of (by omega) (by omega)
    rw [dueB_eq ha hb ht2 hp]
    simp
    omega
  · intro hp
    rw [hx]
    split <;> omega

theorem big_any (a : Option Addr) (len cap : Nat) (w : World) : Calls Tryd.prog 6 #[.slice a len cap] w fun e w' => e = .returned (.bool (decide ((1048576 : Int) < (len : Int)))) ∧ w = w' := by
  go_enter Tryd.func6, Tryd.ntmps6
  go_wp2
  go_ret
  exact ⟨rfl, rfl⟩

theorem sum_lit (xs : List Int) (n b : Nat) (cs : Array Value) (t : TypeId) (hmax : xs.length ≤ 1048576) (hn : xs.length = n) (hcs : cs = full xs) (w : World) (hb : b = w.heap.size) :
    Calls Tryd.prog 16 #[.slice (some ⟨b, 0, none⟩) n n] (w.alloc (.cells cs t)) fun e w' => e = .returned (.int .i64 (sumT xs)) ∧ w.alloc (.cells cs t) = w' := by
  subst hcs
  subst hn
  subst hb
  exact implSum_any _ _ _ xs _ (Row.copy w xs t) hmax
theorem soon_lit (xs : List Int) (n b : Nat) (cs : Array Value) (t : TypeId) (hmax : xs.length ≤ 1048576) (hn : xs.length = n) (hcs : cs = full xs) (w : World) (hb : b = w.heap.size) :
    Calls Tryd.prog 17 #[.slice (some ⟨b, 0, none⟩) n n] (w.alloc (.cells cs t)) fun e w' => e = .returned (.int .i64 (soonest xs)) ∧ w.alloc (.cells cs t) = w' := by
  subst hcs
  subst hn
  subst hb
  exact implSoonest_any _ _ _ xs _ (Row.copy w xs t) hmax
theorem soonS_lit (xs : List Int) (n b : Nat) (cs : Array Value) (t : TypeId) (hmax : xs.length ≤ 1048576) (hn : xs.length = n) (hcs : cs = full xs) (w : World) (hb : b = w.heap.size) :
    Calls Tryd.prog 18 #[.slice (some ⟨b, 0, none⟩) n n] (w.alloc (.cells cs t)) fun e w' => e = .returned (.int .i64 (soonest xs)) ∧ w.alloc (.cells cs t) = w' := by
  subst hcs
  subst hn
  subst hb
  exact specSoonest_any _ _ _ xs _ (Row.copy w xs t) hmax

def True' (w : World) (e : Ending) (w' : World) : Prop := e = .returned (.bool true) ∧ Below w.heap.size w w'

set_option maxRecDepth 100000 in
set_option maxHeartbeats 2000000 in
theorem core (a : Option Addr) (len cap : Nat) (w : World) (hb : Bytes w w.heap.size a len) (hp : Pow w) (he : Errs w) (hm : MaxLen w) :
    Calls Tryd.prog 3 #[.slice a len cap] w (True' w) := by
  have hs := hb.small
  have hd : decide ((1048576 : Int) < (len : Int)) = false := by simp; omega
  have HB := Lib.hid hb
  have HM := Lib.hid hm
  clear hb hm
  go_enter Tryd.func3, Tryd.ntmps3
  go_wp2_with fail
  refine (big_any a len cap _).mono ?_
  rintro e w' ⟨rfl, rfl⟩
  go_wp2_with fail
  refine (drawSince_any a len cap _ HB.out).mono ?_
  rintro e w1 ⟨x, y, rfl, hx0, hx1, hy0, hy1, hb1⟩
  have hp1 := hp.below hb1
  have he1 := he.below hb1
  have HM1 := Lib.hid (HM.out.below hb1)
  cases hx : tickB x with
  | false =>
    go_wp2_with (first | (go_at_call 8; refine (specTickOk_any _ _).mono ?_; rintro e w' ⟨rfl, rfl⟩) | (go_at_call 9; refine (implAdd_any _ _ _).mono ?_; rintro e w' ⟨rfl, rfl⟩) | (go_at_call 10; refine (specAdd_any _ _ _).mono ?_; rintro e w' ⟨rfl, rfl⟩) | (go_at_call 11; refine (implTickOk_any _ _).mono ?_; rintro e w' ⟨rfl, rfl⟩) | (go_at_call 12; refine (implSince_any _ _ _).mono ?_; rintro e w' ⟨rfl, rfl⟩) | (go_at_call 13; refine (implDue_any _ _ _ _).mono ?_; rintro e w' ⟨rfl, rfl⟩))
    go_ret
    exact ⟨rfl, hb1⟩
  | true =>
    cases hy : tickB y with
    | false =>
      go_wp2_with (first | (go_at_call 8; refine (specTickOk_any _ _).mono ?_; rintro e w' ⟨rfl, rfl⟩) | (go_at_call 9; refine (implAdd_any _ _ _).mono ?_; rintro e w' ⟨rfl, rfl⟩) | (go_at_call 10; refine (specAdd_any _ _ _).mono ?_; rintro e w' ⟨rfl, rfl⟩) | (go_at_call 11; refine (implTickOk_any _ _).mono ?_; rintro e w' ⟨rfl, rfl⟩) | (go_at_call 12; refine (implSince_any _ _ _).mono ?_; rintro e w' ⟨rfl, rfl⟩) | (go_at_call 13; refine (implDue_any _ _ _ _).mono ?_; rintro e w' ⟨rfl, rfl⟩))
      go_ret
      exact ⟨rfl, hb1⟩
    | true =>
      obtain ⟨X, S, e1, e2, e3, e4, e5, e6, e7, e8, e9, e10, e11, e12, e13, e14⟩ := facts hx hy
      have hbx := tickB_bd hx
      have hby := tickB_bd hy
      have E := Lib.hid (And.intro e9 (And.intro e10 (And.intro e11 (And.intro e12 e14))))
      have E13 := Lib.hid e13
      clear e9 e10 e11 e12 e13 e14
      have hti : IsTick (tickText x) x := ⟨hx, (tickText_yes hx).symm⟩
      have hlen : (tickText x).length ≤ 1048576 := by have := tick_len hti; omega
      have HT := Lib.hid (show ParseIs (tickText x) x true from .inl ⟨rfl, hti⟩)
      have HBE : Hid (∀ {w2 w3 : World} {o1 o2 o3 : Obj}, Below w1.heap.size w1 w2 → Below w2.heap.size w2 w3 → Below w.heap.size w (((w3.alloc o1).alloc o2).alloc o3)) := fun h2 h3 => by
        have h := (hb1.trans (h2.mono hb1.size)).trans (h3.mono (Nat.le_trans hb1.size h2.size))
        have hs := h.size
        exact ((h.alloc hs _).alloc (by simp; omega) _).alloc (by simp; omega) _
      clear hti
      by_cases hy0 : 0 < y
      · have f1 := E.out.2.1 hy0
        have f2 := E.out.2.2.2.2 hy0
        by_cases hX : X < 1000000000
        · have f3 := E.out.1 hX
          have f4 := E.out.2.2.2.1 hy0 hX
          go_wp2_with (first | (go_at_call 8; refine (specTickOk_any _ _).mono ?_; rintro e w' ⟨rfl, rfl⟩) | (go_at_call 9; refine (implAdd_any _ _ _).mono ?_; rintro e w' ⟨rfl, rfl⟩) | (go_at_call 10; refine (specAdd_any _ _ _).mono ?_; rintro e w' ⟨rfl, rfl⟩) | (go_at_call 11; refine (implTickOk_any _ _).mono ?_; rintro e w' ⟨rfl, rfl⟩) | (go_at_call 12; refine (implSince_any _ _ _).mono ?_; rintro e w' ⟨rfl, rfl⟩) | (go_at_call 13; refine (implDue_any _ _ _ _).mono ?_; rintro e w' ⟨rfl, rfl⟩))
          refine (implText_any x _ hp1).mono ?_
          rintro e w2 ⟨rfl, hb2⟩
          go_wp2_with fail
          refine (implParse_any (tickText x) hlen _ (hp1.below hb2) (he1.below hb2) (HM1.out.below hb2)).mono ?_
          rintro e w3 ⟨v, ok, rfl, hpi, hb3⟩
          obtain ⟨rfl, rfl⟩ := parse_unique hpi HT.out
          clear hpi
          go_wp2_with fail
          refine (sum_lit [v, y, 1] 3 _ _ _ (by simp) rfl rfl _ (by simp)).mono ?_
          rintro e w4 ⟨rfl, rfl⟩
          rw [E13.out]
          go_wp2_with fail
          refine (implAdd_any _ _ _).mono ?_
          rintro e w5 ⟨rfl, rfl⟩
          go_wp2_with fail
          refine (soon_lit [-1, v, y] 3 _ _ _ (by simp) rfl rfl _ (by simp)).mono ?_
          rintro e w6 ⟨rfl, rfl⟩
          rw [soon3]
          go_wp2_with fail
          refine (soonS_lit [v, y] 2 _ _ _ (by simp) rfl rfl _ (by simp)).mono ?_
          rintro e w7 ⟨rfl, rfl⟩
          go_wp2
          go_ret
          exact ⟨rfl, HBE.out hb2 hb3⟩
        · go_wp2_with (first | (go_at_call 8; refine (specTickOk_any _ _).mono ?_; rintro e w' ⟨rfl, rfl⟩) | (go_at_call 9; refine (implAdd_any _ _ _).mono ?_; rintro e w' ⟨rfl, rfl⟩) | (go_at_call 10; refine (specAdd_any _ _ _).mono ?_; rintro e w' ⟨rfl, rfl⟩) | (go_at_call 11; refine (implTickOk_any _ _).mono ?_; rintro e w' ⟨rfl, rfl⟩) | (go_at_call 12; refine (implSince_any _ _ _).mono ?_; rintro e w' ⟨rfl, rfl⟩) | (go_at_call 13; refine (implDue_any _ _ _ _).mono ?_; rintro e w' ⟨rfl, rfl⟩))
          refine (implText_any x _ hp1).mono ?_
          rintro e w2 ⟨rfl, hb2⟩
          go_wp2_with fail
          refine (implParse_any (tickText x) hlen _ (hp1.below hb2) (he1.below hb2) (HM1.out.below hb2)).mono ?_
          rintro e w3 ⟨v, ok, rfl, hpi, hb3⟩
          obtain ⟨rfl, rfl⟩ := parse_unique hpi HT.out
          clear hpi
          go_wp2_with fail
          refine (sum_lit [v, y, 1] 3 _ _ _ (by simp) rfl rfl _ (by simp)).mono ?_
          rintro e w4 ⟨rfl, rfl⟩
          rw [E13.out]
          go_wp2_with fail
          refine (implAdd_any _ _ _).mono ?_
          rintro e w5 ⟨rfl, rfl⟩
          go_wp2_with fail
          refine (soon_lit [-1, v, y] 3 _ _ _ (by simp) rfl rfl _ (by simp)).mono ?_
          rintro e w6 ⟨rfl, rfl⟩
          rw [soon3]
          go_wp2_with fail
          refine (soonS_lit [v, y] 2 _ _ _ (by simp) rfl rfl _ (by simp)).mono ?_
          rintro e w7 ⟨rfl, rfl⟩
          go_wp2
          go_ret
          exact ⟨rfl, HBE.out hb2 hb3⟩
      · have f1 := E.out.2.2.1 hy0
        by_cases hX0 : 0 < X
        · by_cases hX : X < 1000000000
          · have f3 := E.out.1 hX
            go_wp2_with (first | (go_at_call 8; refine (specTickOk_any _ _).mono ?_; rintro e w' ⟨rfl, rfl⟩) | (go_at_call 9; refine (implAdd_any _ _ _).mono ?_; rintro e w' ⟨rfl, rfl⟩) | (go_at_call 10; refine (specAdd_any _ _ _).mono ?_; rintro e w' ⟨rfl, rfl⟩) | (go_at_call 11; refine (implTickOk_any _ _).mono ?_; rintro e w' ⟨rfl, rfl⟩) | (go_at_call 12; refine (implSince_any _ _ _).mono ?_; rintro e w' ⟨rfl, rfl⟩) | (go_at_call 13; refine (implDue_any _ _ _ _).mono ?_; rintro e w' ⟨rfl, rfl⟩))
            refine (implText_any x _ hp1).mono ?_
            rintro e w2 ⟨rfl, hb2⟩
            go_wp2_with fail
            refine (implParse_any (tickText x) hlen _ (hp1.below hb2) (he1.below hb2) (HM1.out.below hb2)).mono ?_
            rintro e w3 ⟨v, ok, rfl, hpi, hb3⟩
            obtain ⟨rfl, rfl⟩ := parse_unique hpi HT.out
            clear hpi
            go_wp2_with fail
            refine (sum_lit [v, y, 1] 3 _ _ _ (by simp) rfl rfl _ (by simp)).mono ?_
            rintro e w4 ⟨rfl, rfl⟩
            rw [E13.out]
            go_wp2_with fail
            refine (implAdd_any _ _ _).mono ?_
            rintro e w5 ⟨rfl, rfl⟩
            go_wp2_with fail
            refine (soon_lit [-1, v, y] 3 _ _ _ (by simp) rfl rfl _ (by simp)).mono ?_
            rintro e w6 ⟨rfl, rfl⟩
            rw [soon3]
            go_wp2_with fail
            refine (soonS_lit [v, y] 2 _ _ _ (by simp) rfl rfl _ (by simp)).mono ?_
            rintro e w7 ⟨rfl, rfl⟩
            go_wp2
            go_ret
            exact ⟨rfl, HBE.out hb2 hb3⟩
          · go_wp2_with (first | (go_at_call 8; refine (specTickOk_any _ _).mono ?_; rintro e w' ⟨rfl, rfl⟩) | (go_at_call 9; refine (implAdd_any _ _ _).mono ?_; rintro e w' ⟨rfl, rfl⟩) | (go_at_call 10; refine (specAdd_any _ _ _).mono ?_; rintro e w' ⟨rfl, rfl⟩) | (go_at_call 11; refine (implTickOk_any _ _).mono ?_; rintro e w' ⟨rfl, rfl⟩) | (go_at_call 12; refine (implSince_any _ _ _).mono ?_; rintro e w' ⟨rfl, rfl⟩) | (go_at_call 13; refine (implDue_any _ _ _ _).mono ?_; rintro e w' ⟨rfl, rfl⟩))
            refine (implText_any x _ hp1).mono ?_
            rintro e w2 ⟨rfl, hb2⟩
            go_wp2_with fail
            refine (implParse_any (tickText x) hlen _ (hp1.below hb2) (he1.below hb2) (HM1.out.below hb2)).mono ?_
            rintro e w3 ⟨v, ok, rfl, hpi, hb3⟩
            obtain ⟨rfl, rfl⟩ := parse_unique hpi HT.out
            clear hpi
            go_wp2_with fail
            refine (sum_lit [v, y, 1] 3 _ _ _ (by simp) rfl rfl _ (by simp)).mono ?_
            rintro e w4 ⟨rfl, rfl⟩
            rw [E13.out]
            go_wp2_with fail
            refine (implAdd_any _ _ _).mono ?_
            rintro e w5 ⟨rfl, rfl⟩
            go_wp2_with fail
            refine (soon_lit [-1, v, y] 3 _ _ _ (by simp) rfl rfl _ (by simp)).mono ?_
            rintro e w6 ⟨rfl, rfl⟩
            rw [soon3]
            go_wp2_with fail
            refine (soonS_lit [v, y] 2 _ _ _ (by simp) rfl rfl _ (by simp)).mono ?_
            rintro e w7 ⟨rfl, rfl⟩
            go_wp2
            go_ret
            exact ⟨rfl, HBE.out hb2 hb3⟩
        · have hX : X < 1000000000 := by omega
          have f3 := E.out.1 hX
          go_wp2_with (first | (go_at_call 8; refine (specTickOk_any _ _).mono ?_; rintro e w' ⟨rfl, rfl⟩) | (go_at_call 9; refine (implAdd_any _ _ _).mono ?_; rintro e w' ⟨rfl, rfl⟩) | (go_at_call 10; refine (specAdd_any _ _ _).mono ?_; rintro e w' ⟨rfl, rfl⟩) | (go_at_call 11; refine (implTickOk_any _ _).mono ?_; rintro e w' ⟨rfl, rfl⟩) | (go_at_call 12; refine (implSince_any _ _ _).mono ?_; rintro e w' ⟨rfl, rfl⟩) | (go_at_call 13; refine (implDue_any _ _ _ _).mono ?_; rintro e w' ⟨rfl, rfl⟩))
          refine (implText_any x _ hp1).mono ?_
          rintro e w2 ⟨rfl, hb2⟩
          go_wp2_with fail
          refine (implParse_any (tickText x) hlen _ (hp1.below hb2) (he1.below hb2) (HM1.out.below hb2)).mono ?_
          rintro e w3 ⟨v, ok, rfl, hpi, hb3⟩
          obtain ⟨rfl, rfl⟩ := parse_unique hpi HT.out
          clear hpi
          go_wp2_with fail
          refine (sum_lit [v, y, 1] 3 _ _ _ (by simp) rfl rfl _ (by simp)).mono ?_
          rintro e w4 ⟨rfl, rfl⟩
          rw [E13.out]
          go_wp2_with fail
          refine (implAdd_any _ _ _).mono ?_
          rintro e w5 ⟨rfl, rfl⟩
          go_wp2_with fail
          refine (soon_lit [-1, v, y] 3 _ _ _ (by simp) rfl rfl _ (by simp)).mono ?_
          rintro e w6 ⟨rfl, rfl⟩
          rw [soon3]
          go_wp2_with fail
          refine (soonS_lit [v, y] 2 _ _ _ (by simp) rfl rfl _ (by simp)).mono ?_
          rintro e w7 ⟨rfl, rfl⟩
          go_wp2
          go_ret
          exact ⟨rfl, HBE.out hb2 hb3⟩

theorem walk (a : Option Addr) (len cap : Nat) (w : World) (hb : len ≤ 1048576 → Bytes w w.heap.size a len) (hp : Pow w) (he : Errs w) (hm : MaxLen w) :
    Calls Tryd.prog 3 #[.slice a len cap] w (True' w) := by
  by_cases hl : len ≤ 1048576
  · exact core a len cap w (hb hl) hp he hm
  · have hd : decide ((1048576 : Int) < (len : Int)) = true := by simp; omega
    clear hb
    go_enter Tryd.func3, Tryd.ntmps3
    go_wp2_with fail
    refine (big_any a len cap _).mono ?_
    rintro e w' ⟨rfl, rfl⟩
    go_wp2
    go_ret
    exact ⟨rfl, Below.refl _ _⟩

theorem plainList : (Rows.fnTicksRow.laid.all fun x => x.2.handleName?.isNone) = true := by kernel_rfl
noncomputable def world (os : Os) : World := World.laidAll Tryd.prog os Rows.fnTicksRow.laid
theorem world_shaped (os : Os) : ((world os).forCall (fun _ _ => 0) ⟨#[], #[.slice none 0 0], []⟩).Shaped Tryd.prog := World.shaped_of_ZipB (by kernel_rfl) (by kernel_rfl)
theorem world_laid (os : Os) : laidMetH Tryd.prog Rows.fnTicksRow.laid ((world os).forCall (fun _ _ => 0) ⟨#[], #[.slice none 0 0], []⟩).memory := by
  rw [MakeChecks.laidMetH_plain _ _ _ plainList]; exact laidMet_laidAll _ (by kernel_rfl) (by kernel_rfl)

set_option maxRecDepth 100000 in
theorem lifted (os : Os) (started : os.Started) (H : Type) (enc : TypeId × Value → H) (F : Stop.Interp) :
    ReturnsInHanded {} Tryd.checked os 3 .any ((OpenSpec.ofChange Rows.fnTicksSpec).preRow enc Tryd.prog Tryd.f3 Rows.fnTicksRow.domain false Rows.fnTicksRow.laid) (((OpenSpec.ofChange Rows.fnTicksSpec).at F).post enc Tryd.prog Tryd.f3 false true false false) := by
  refine returnsInHanded_of_row (C := Tryd.checked) (s := OpenSpec.ofChange Rows.fnTicksSpec) own started (by kernel_rfl) Tryd.func3 ?_ ?_
  · obtain ⟨w, tape, i, h1, h2, h3, h4, ⟨⟨h5, h6⟩, h7⟩, h8⟩ := ChangeSpec.witness_shaped (enc := enc) (C := Tryd.checked) (os := os) (f := 3) (fn := Tryd.f3) (s := Rows.fnTicksSpec) (conds := Rows.fnTicksRow.domain) (apart := false) (X := fun w _ => laidMetH Tryd.prog Rows.fnTicksRow.laid w) false (world os) #[.slice none 0 0] 8 (World.laidAll_os _ _ _)
      (world_shaped os) (by kernel_rfl) (by kernel_rfl) (by kernel_rfl) (world_laid os)
    exact ⟨w, tape, i, h1, h2, h3, h4, ⟨⟨h5, h6⟩, h7⟩, h8⟩
  intro W base args ds gs before hval0 hW _ _ _ hL hsh _
  have hval : ∀ (j : Nat) t v, Tryd.f3.params[j]? = some t → args[j]? = some v → Value.okWide Tryd.prog W .any base t v := hval0
  have hW' := hW
  obtain ⟨p, q, hA0, hV, rfl, hfz, hnd⟩ := hW
  have hA : DataW.TrodAll enc Tryd.prog W 0 (fun _ => true) true Tryd.f3.params.toList args.toList ds p := hA0
  rw [Tryd.params3] at hA hval
  obtain ⟨v0, vs0, d0, ds0, p0, q0, hargs, rfl, rfl, h0, r0⟩ := trodAll_cons hA
  obtain ⟨rfl, rfl, rfl⟩ := trodAll_nil r0
  obtain rfl : args = #[v0] := by cases args; simp_all
  obtain ⟨rfl, rfl⟩ := trodVars_none hV
  obtain ⟨a0, len0, cap0, rfl⟩ := okWide_slice Tryd.underlying22 (hval 0 22 v0 rfl rfl)
  have k0 := h0
  have lt0 : ∀ x ∈ p0, x.block < W.heap.size := by obtain ⟨m, hm⟩ := k0; exact DataW.trod_lt m _ _ _ hm
  clear hA0 hval0
  refine (walk a0 len0 cap0 W (bytes_of h0) (pow_of plainList hL (.tail _ (.tail _ (.head _)))) (errs_of plainList hL (.tail _ (.tail _ (.tail _ (.tail _ (.tail _ (.head _)))))) (.tail _ (.tail _ (.tail _ (.tail _ (.head _)))))) (maxLen_of hsh)).mono fun e W' ⟨he, bel⟩ => ?_
  subst he
  exact ⟨_, rfl, _, _, _, [], _, [], hW', trodAll_mk1 (shut_bool Tryd.underlying4 _), (trodAll_cons_mk (Below.trod laidOut (by kernel_rfl) (of_decide_eq_true (by kernel_rfl)) k0 bel lt0) trodAll_mk0), rfl, bel.frame _, fun h => by cases h⟩

theorem said : Rows.FnTicksSaid :=
  OpenClaim.holds_of_cond 3 Tryd.f3 rfl rfl rfl rfl rfl rfl rfl ⟨rfl, rfl, rfl, rfl, rfl⟩ rfl rfl rfl rfl rfl (by kernel_rfl) Tryd.func3 (by kernel_rfl)
    (of_decide_eq_true (by kernel_rfl)) (by unfold Func.isWrapper; first | (rw [if_pos (by decide +kernel)]; kernel_rfl) | (rw [if_neg (by decide +kernel)]; exact ⟨rfl, rfl⟩))
    (fun os started H enc _ F => by rw [OpenClaim.pre_eq_preRow]; exact lifted os started H enc F)

theorem plain (f : FuncId) (fn : Func) (hf : Tryd.pinned.checked.prog.funcNamed "loop.example/g00728/laws.FnTicks" = some f) (hfn : Tryd.pinned.checked.prog.funcs[f]? = some fn) :
    true = Tryd.pinned.checked.prog.looks [] ∧ ∀ (j : Nat) t, fn.params[j]? = some t → Tryd.pinned.checked.prog.wantsStandIn t = false := by
  obtain rfl : f = 3 := Option.some.inj ((show Tryd.prog.funcNamed "loop.example/g00728/laws.FnTicks" = some 3 by kernel_rfl).symm.trans hf) |>.symm
  obtain rfl : fn = Tryd.f3 := (Option.some.inj (Tryd.func3.symm.trans hfn)).symm
  refine ⟨by kernel_rfl, fun j t ht => ?_⟩
  rw [Tryd.params3] at ht
  obtain rfl : t = 22 := by simpa using Array.mem_of_getElem? ht
  exact (show Tryd.prog.wantsStandIn 22 = false by kernel_rfl)

theorem card : Rows.FnTicksCardSaid :=
  Claim7.holds_tied_plain_at .later [] _ _ _ _ said (fun _ h => by cases h) (by kernel_rfl) (fun _ h => by cases h) fnTicks_row_tie rfl ⟨rfl, rfl⟩ (by kernel_rfl) rfl plain (by kernel_rfl)
#print axioms card

end Go.Proofs.YtghbdagpclhbfaaDoor.fnTicks
