/- Contracts of PushRing and PopRing, on impl's and on spec's side. -/
import Derived.Test.YtkconbmgljmpfabPush
namespace Go.Proofs.Ytkconbmgljmpfab
open Go.RowKit

/-- A ring and whether, its length given apart. -/
theorem FreshRingOk.of {T : TypeId} {ys : List Int} {hd ct : Int} {ok : Bool} {w w' : World} {a : Option Addr} {n c : Nat} (hn : n = ys.length) (ho : w'.ownsRow w.heap.size T 1 (.slice a n c) n (ys.map (Value.int .i64))) (hb : Below w.heap.size w w') :
    FreshRingOk T ys hd ct ok w (.returned (.tuple #[.agg #[.slice a n c, .int .i64 hd, .int .i64 ct], .bool ok])) w' := by
  subst hn; exact ⟨a, c, rfl, ho, hb⟩
theorem push_no {xs : List Int} {hd ct : Int} (x : Int) (h : rOk xs hd ct = false) : pushL xs hd ct x = xs ∧ pushC xs hd ct = ct ∧ pushOk xs hd ct = false := by simp [pushL, pushC, pushOk, h]
theorem push_at {xs : List Int} {p k : Nat} (x : Int) (h : rOk xs p k = true) : pushL xs p k x = (if k < xs.length then xs.set ((p + k) % xs.length) x else xs) ∧ pushC xs p k = (if k < xs.length then (k : Int) + 1 else k) ∧ pushOk xs p k = decide (k < xs.length) := by
  have e : pushOk xs p k = decide (k < xs.length) := by simp [pushOk, h]
  refine ⟨?_, ?_, e⟩
  · unfold pushL; rw [e]; by_cases hk : k < xs.length <;> simp [hk]; rfl
  · unfold pushC; rw [e]; by_cases hk : k < xs.length <;> simp [hk]

theorem ringok_stored {T : TypeId} {ys : List Int} {a : Option Addr} {n c lo g : Nat} {hd ct : Int} {ok : Bool} {w w1 : World} (hn : n = ys.length) (ho : w1.ownsRow lo T 1 (.slice a n c) n (ys.map (Value.int .i64))) (hb : Below w.heap.size w w1) (hlo : w.heap.size ≤ g ∧ g < lo) :
    FreshRingOk T ys hd ct ok w (.returned (.tuple #[.agg #[.slice a n c, .int .i64 hd, .int .i64 ct], .bool ok])) (((w1.setCell ⟨g, 0, none⟩ (.slice a n c)).setCell ⟨g, 1, none⟩ (.int .i64 hd)).setCell ⟨g, 2, none⟩ (.int .i64 ct)) :=
  FreshRingOk.of hn (owns_less (ownsRow_setCell_below (ownsRow_setCell_below (ownsRow_setCell_below ho (show g < lo by omega) _) (show g < lo by omega) _) (show g < lo by omega) _) (by omega)) (((hb.setCell (p := ⟨g, 0, none⟩) hlo.1 _).setCell (p := ⟨g, 1, none⟩) hlo.1 _).setCell (p := ⟨g, 2, none⟩) hlo.1 _)


/-- A ring, a number and whether: of the call's own memory. -/
def FreshRingX (T : TypeId) (xs : List Int) (hd ct x : Int) (ok : Bool) (w : World) (e : Ending) (w' : World) : Prop :=
  ∃ a c, e = .returned (.tuple #[.agg #[.slice a xs.length c, .int .i64 hd, .int .i64 ct], .int .i64 x, .bool ok]) ∧ w'.ownsRow w.heap.size T 1 (.slice a xs.length c) xs.length (xs.map (Value.int .i64)) ∧ Below w.heap.size w w'
theorem ringx_stored {T : TypeId} {ys : List Int} {a : Option Addr} {n c lo g : Nat} {hd ct x : Int} {ok : Bool} {w w1 : World} (hn : n = ys.length) (ho : w1.ownsRow lo T 1 (.slice a n c) n (ys.map (Value.int .i64))) (hb : Below w.heap.size w w1) (hlo : w.heap.size ≤ g ∧ g < lo) :
    FreshRingX T ys hd ct x ok w (.returned (.tuple #[.agg #[.slice a n c, .int .i64 hd, .int .i64 ct], .int .i64 x, .bool ok])) (((w1.setCell ⟨g, 0, none⟩ (.slice a n c)).setCell ⟨g, 1, none⟩ (.int .i64 hd)).setCell ⟨g, 2, none⟩ (.int .i64 ct)) := by
  subst hn
  exact ⟨a, c, rfl, owns_less (ownsRow_setCell_below (ownsRow_setCell_below (ownsRow_setCell_below ho (show g < lo by omega) _) (show g < lo by omega) _) (show g < lo by omega) _) (by omega), ((hb.setCell (p := ⟨g, 0, none⟩) hlo.1 _).setCell (p := ⟨g, 1, none⟩) hlo.1 _).setCell (p := ⟨g, 2, none⟩) hlo.1 _⟩
theorem pop_no {xs : List Int} {hd ct : Int} (h : rOk xs hd ct = false) : popL xs hd ct = xs ∧ popH xs hd ct = hd ∧ popC xs hd ct = ct ∧ popX xs hd ct = 0 ∧ popOk xs hd ct = false := by simp [popL, popH, popC, popX, popOk, h]
theorem pop_at {xs : List Int} {p k : Nat} (h : rOk xs p k = true) : popL xs p k = (if 0 < k then xs.set p 0 else xs) ∧ popH xs p k = (if 0 < k then (((p + 1) % xs.length : Nat) : Int) else p) ∧ popC xs p k = (if 0 < k then (k : Int) - 1 else k) ∧ popX xs p k = (if 0 < k then el xs p else 0) ∧ popOk xs p k = decide (0 < k) := by
  have e : popOk xs p k = decide (0 < k) := by simp [popOk, h]
  refine ⟨?_, ?_, ?_, ?_, e⟩
  · unfold popL; rw [e]; by_cases hk : 0 < k <;> simp [hk]
  · unfold popH; rw [e]; by_cases hk : 0 < k <;> simp [hk]
  · unfold popC; rw [e]; by_cases hk : 0 < k <;> simp [hk]
  · unfold popX; rw [e]; by_cases hk : 0 < k <;> simp [hk]


end Go.Proofs.Ytkconbmgljmpfab
