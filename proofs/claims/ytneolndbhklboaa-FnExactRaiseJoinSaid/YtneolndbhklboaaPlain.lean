/- Plain facts on lists and cells: no program. What a slice of ints reads as, how its copy is filled cell by cell, folds over a list's beginning. -/
import Derived.WalkKit
import Derived.Below
import Derived.Laws.MakeOwn
import Derived.Lib.Hide
namespace Go.Proofs.Ytneolndbhklboaa
open Go.RowKit

/-- Element i of a list of numbers, 0 behind its end (a name of its own: the walk leaves it as it stands). -/
def el (xs : List Int) (i : Nat) : Int := xs.getD i 0

/-- What a slice value of ints reads as: its numbers, where they lie. -/
structure Row (w : World) (a : Option Addr) (len : Nat) (xs : List Int) : Prop where
  size : xs.length = len
  lies : len = 0 ∨ ∃ b off, a = some ⟨b, off, none⟩ ∧ b < w.heap.size ∧ ∀ i, i < len → w.cell? ⟨b, off + i, none⟩ = some (.int .i64 (el xs i))

theorem Row.below {w w' : World} {a : Option Addr} {len : Nat} {xs : List Int} (h : Row w a len xs) (hb : Below w.heap.size w w') : Row w' a len xs :=
  ⟨h.size, h.lies.imp id fun ⟨b, off, ha, hlt, hc⟩ => ⟨b, off, ha, Nat.lt_of_lt_of_le hlt hb.size, fun i hi => (hb.cell (p := ⟨b, off + i, none⟩) hlt).trans (hc i hi)⟩⟩

/-- The cells of the copy behind k rounds. -/
def part (xs : List Int) (k : Nat) : Array Value := ((xs.take k).map (Value.int .i64) ++ List.replicate (xs.length - k) (Value.int .i64 0)).toArray
def full (xs : List Int) : Array Value := (xs.map (Value.int .i64)).toArray

theorem part_size (xs : List Int) (k : Nat) (hk : k ≤ xs.length) : (part xs k).size = xs.length := by
  simp only [part, List.size_toArray, List.length_append, List.length_map, List.length_take, List.length_replicate]; omega
theorem part_full (xs : List Int) : part xs xs.length = full xs := by simp [part, full]
theorem part_zero (xs : List Int) : madeCells #[Value.int .i64 0] xs.length = part xs 0 := by
  apply Array.ext
  · rw [size_madeCells, part_size _ _ (Nat.zero_le _)]
  · intro i h1 h2
    simp [madeCells, part]
    rw [Nat.mod_one]
    rfl
theorem part_here (xs : List Int) (k : Nat) (hk : k < xs.length) : (part xs k)[k]? = some (.int .i64 0) := by
  simp only [part, List.getElem?_toArray]
  rw [List.getElem?_append_right (by simp; omega)]
  simp only [List.length_map, List.length_take]
  rw [List.getElem?_replicate, if_pos (by omega)]
theorem part_step (xs : List Int) (k : Nat) (hk : k < xs.length) : (part xs k).setIfInBounds k (.int .i64 (el xs k)) = part xs (k + 1) := by
  apply Array.ext_getElem?
  intro i
  rw [Array.getElem?_setIfInBounds, part_size _ _ (by omega)]
  simp only [part, List.getElem?_toArray]
  by_cases h : k = i
  · subst h
    rw [if_pos rfl, if_pos hk, List.getElem?_append_left (by simp; omega)]
    simp [el, List.getD, hk]
  · rw [if_neg h]
    by_cases h2 : i < k
    · rw [List.getElem?_append_left (by simp; omega), List.getElem?_append_left (by simp; omega)]
      simp only [List.getElem?_map, List.getElem?_take]
      rw [if_pos h2, if_pos (by omega)]
    · rw [List.getElem?_append_right (by simp; omega), List.getElem?_append_right (by simp; omega)]
      simp only [List.length_map, List.length_take, List.getElem?_replicate]
      by_cases h3 : i < xs.length
      · rw [if_pos (by omega), if_pos (by omega)]
      · rw [if_neg (by omega), if_neg (by omega)]
theorem full_at (xs : List Int) (i : Nat) (hi : i < xs.length) : (full xs)[i]? = some (.int .i64 (el xs i)) := by
  simp [full, el, List.getD, hi]

/-- The copy reads as the list. -/
theorem Row.copy (w : World) (xs : List Int) (t : TypeId) : Row (w.alloc (.cells (full xs) t)) (some ⟨w.heap.size, 0, none⟩) xs.length xs :=
  ⟨rfl, .inr ⟨_, 0, rfl, by simp, fun i hi => by rw [Nat.zero_add, World.cell?_alloc_at _ _ _ _ rfl]; exact full_at xs i hi⟩⟩

/-- A fold over a list's first k numbers. -/
def foldTo {β : Type} (f : β → Int → β) (b : β) (xs : List Int) (k : Nat) : β := (xs.take k).foldl f b
theorem foldTo_zero {β : Type} (f : β → Int → β) (b : β) (xs : List Int) : foldTo f b xs 0 = b := rfl
theorem foldTo_succ {β : Type} (f : β → Int → β) (b : β) (xs : List Int) (k : Nat) (hk : k < xs.length) : foldTo f b xs (k + 1) = f (foldTo f b xs k) (el xs k) := by
  unfold foldTo
  rw [List.take_succ_eq_append_getElem hk, List.foldl_append]
  simp [el, List.getD, hk]

end Go.Proofs.Ytneolndbhklboaa
