/- Contracts of the laws' own helpers over lists of frames. -/
import Derived.Test.YtpigollgjpkflaaDoorPlains
import Derived.Test.YtpigollgjpkflaaDoorLawS
import Derived.Test.YtpigollgjpkflaaDoorRow
import Derived.Deep.RegionWith
namespace Go.Proofs.YtpigollgjpkflaaDoor
open Go.RowKit

theorem own_blockF {w : World} {lo n c : Nat} {T : TypeId} {a : Option Addr} {xs : List Value} (h : w.ownsRow lo T 4 (.slice a n c) n xs) (hn : 1 ≤ n) : ∃ g, a = some ⟨g, 0, none⟩ ∧ lo ≤ g ∧ g < w.heap.size := by
  rcases h.2 with ⟨hv, h1⟩ | ⟨g, cap, cur, hv, hlo, hh, _⟩
  · omega
  · simp only [Value.slice.injEq] at hv
    exact ⟨g, hv.1, hlo, (Array.getElem?_eq_some_iff.1 hh).1⟩
theorem own_capF {w : World} {lo n c : Nat} {T : TypeId} {a : Option Addr} {xs : List Value} (h : w.ownsRow lo T 4 (.slice a n c) n xs) : n ≤ c ∧ c ≤ 9223372036854775807 := by
  rcases h.2 with ⟨hv, h1⟩ | ⟨g, cap, cur, hv, hlo, hh, h1, h2, _⟩
  · simp only [Value.slice.injEq] at hv
    omega
  · simp only [Value.slice.injEq] at hv
    unfold maxLen at h2
    omega
/-- The four cells of the frame at j. -/
theorem own_four {w : World} {lo g c : Nat} {T : TypeId} {l : List Fr} (h : w.ownsRow lo T 4 (.slice (some ⟨g, 0, none⟩) l.length c) l.length (flatF l)) (j : Nat) (hj : j < l.length) :
    w.cell? ⟨g, j * 4, none⟩ = some (.int .i64 (fel l j).k) ∧ w.cell? ⟨g, j * 4 + 1, none⟩ = some (.int .i64 (fel l j).y) ∧ w.cell? ⟨g, j * 4 + 2, none⟩ = some (.int .i64 (fel l j).t) ∧ w.cell? ⟨g, j * 4 + 3, none⟩ = some (.int .i64 (fel l j).v) := by
  have hf := flatF_at l j hj
  exact ⟨(h.cellAt (j * 4) (by omega)).trans hf.1, (h.cellAt (j * 4 + 1) (by omega)).trans hf.2.1, (h.cellAt (j * 4 + 2) (by omega)).trans hf.2.2.1, (h.cellAt (j * 4 + 3) (by omega)).trans hf.2.2.2⟩

/-- The marks of n frames from m on. -/
def markF (m i : Nat) : Fr := ⟨((m + 4 * i : Nat) : Int), ((m + 4 * i + 1 : Nat) : Int), ((m + 4 * i + 2 : Nat) : Int), ((m + 4 * i + 3 : Nat) : Int)⟩
def marksF (m n : Nat) : List Fr := (List.range n).map (markF m)
theorem marksF_len (m n : Nat) : (marksF m n).length = n := by simp [marksF]
theorem marksF_at (m n i : Nat) (hi : i < n) : fel (marksF m n) i = markF m i := by simp [marksF, fel, List.getD, hi]
def markToF (m : Nat) (l : List Fr) (j : Nat) : List Fr := marksF m j ++ l.drop j
theorem markToF_zero (m : Nat) (l : List Fr) : markToF m l 0 = l := by simp [markToF, marksF]
theorem markToF_len (m : Nat) (l : List Fr) (j : Nat) (hj : j ≤ l.length) : (markToF m l j).length = l.length := by simp [markToF, marksF_len]; omega
theorem markToF_all (m : Nat) (l : List Fr) : markToF m l l.length = marksF m l.length := by simp [markToF]
theorem markToF_step (m : Nat) (l : List Fr) (j : Nat) (hj : j < l.length) :
    ((((flatF (markToF m l j)).set (j * 4) (.int .i64 ((m + 4 * j : Nat) : Int))).set (j * 4 + 1) (.int .i64 ((m + 4 * j + 1 : Nat) : Int))).set (j * 4 + 2) (.int .i64 ((m + 4 * j + 2 : Nat) : Int))).set (j * 4 + 3) (.int .i64 ((m + 4 * j + 3 : Nat) : Int)) = flatF (markToF m l (j + 1)) := by
  have e1 : marksF m (j + 1) = marksF m j ++ [markF m j] := by simp [marksF, List.range_succ]
  have e2 : l.drop j = fel l j :: l.drop (j + 1) := by
    rw [List.drop_eq_getElem_cons hj]
    simp [fel, List.getD, hj]
  have hl : (flatF (marksF m j)).length = j * 4 := by rw [flatF_len, marksF_len]
  unfold markToF
  rw [e1, e2, flatF_append, flatF_append, flatF_append]
  have e3 : ∀ (f : Fr) (r : List Fr), flatF (f :: r) = [.int .i64 f.k, .int .i64 f.y, .int .i64 f.t, .int .i64 f.v] ++ flatF r := fun _ _ => rfl
  rw [e3, e3]
  rw [List.set_append_right _ _ (by omega), List.set_append_right _ _ (by omega), List.set_append_right _ _ (by omega), List.set_append_right _ _ (by omega), hl]
  have i0 : j * 4 - j * 4 = 0 := by omega
  have i1 : j * 4 + 1 - j * 4 = 1 := by omega
  have i2 : j * 4 + 2 - j * 4 = 2 := by omega
  have i3 : j * 4 + 3 - j * 4 = 3 := by omega
  rw [i0, i1, i2, i3]
  simp [flatF_nil, markF]
/-- Marking frames leaves all that lies below the row's own base, and every row of another block. -/
structure MarkedF (T : TypeId) (lo : Nat) (a : Option Addr) (c m n : Nat) (w w' : World) : Prop where
  own : w'.ownsRow lo T 4 (.slice a n c) n (flatF (marksF m n))
  below : Below lo w w'
  grown : w.grownBy w' (Value.slice a n c).ownBlock
end Go.Proofs.YtpigollgjpkflaaDoor
