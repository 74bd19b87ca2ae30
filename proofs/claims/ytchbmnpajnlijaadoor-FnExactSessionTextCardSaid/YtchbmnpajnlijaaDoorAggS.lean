/- Rows of Agg: the record, and the contracts of the laws' own helpers over it (made by mkrows.py). -/
import Derived.Test.YtchbmnpajnlijaaDoorProg
import Derived.Test.YtchbmnpajnlijaaDoorRecs
import Derived.WalkKit
import Derived.WalkSpells
import Derived.ProofKit
import Derived.Lib.Hide
import Derived.Outline
import Derived.Laws.MakeOwn
import Derived.Laws.OwnMore
import Derived.Deep.RegionWith
namespace Go.Proofs.YtchbmnpajnlijaaDoor
open Go.RowKit

structure Ag where
  win : Int
  key : Int
  cnt : Int
  sum : Int
  mn : Int
  mx : Int
deriving DecidableEq
def aD : Ag := ⟨0, 0, 0, 0, 0, 0⟩
def aC (S : Ag) : List Value := [.int .i64 S.win, .int .i64 S.key, .int .i64 S.cnt, .int .i64 S.sum, .int .i64 S.mn, .int .i64 S.mx]
theorem aC_len (S : Ag) : (aC S).length = 6 := rfl
/-- The record at i. -/
def ael (l : List Ag) (i : Nat) : Ag := rel aD l i
def flatA (l : List Ag) : List Value := flatR aC l
theorem flatA_len (l : List Ag) : (flatA l).length = l.length * 6 := flatR_len aC 6 aC_len l
theorem flatA_append (l m : List Ag) : flatA (l ++ m) = flatA l ++ flatA m := flatR_append aC l m
theorem ael_take {l : List Ag} {i : Nat} (hi : i < l.length) : l.take (i + 1) = l.take i ++ [ael l i] := rel_take aD hi
/-- A slice of records, all below block hi, reads as l. -/
abbrev Ags (w : World) (hi : Nat) (a : Option Addr) (c : Nat) (l : List Ag) : Prop := Recs aC 6 aD w hi a c l
theorem Ags.six {w : World} {hi c : Nat} {a : Option Addr} {l : List Ag} (h : Ags w hi a c l) (hne : 0 < l.length) : ∃ b off, a = some ⟨b, off, none⟩ ∧ b < hi ∧ ∀ i, i < l.length → w.cell? ⟨b, off + i * 6, none⟩ = some (.int .i64 (ael l i).win) ∧ w.cell? ⟨b, off + i * 6 + 1, none⟩ = some (.int .i64 (ael l i).key) ∧ w.cell? ⟨b, off + i * 6 + 2, none⟩ = some (.int .i64 (ael l i).cnt) ∧ w.cell? ⟨b, off + i * 6 + 3, none⟩ = some (.int .i64 (ael l i).sum) ∧ w.cell? ⟨b, off + i * 6 + 4, none⟩ = some (.int .i64 (ael l i).mn) ∧ w.cell? ⟨b, off + i * 6 + 5, none⟩ = some (.int .i64 (ael l i).mx) := by
  obtain ⟨b, off, ha, hlt, hc⟩ := h.cells hne
  exact ⟨b, off, ha, hlt, fun i hi => ⟨hc i hi 0 (by omega), hc i hi 1 (by omega), hc i hi 2 (by omega), hc i hi 3 (by omega), hc i hi 4 (by omega), hc i hi 5 (by omega)⟩⟩
theorem Ags.of_own {w : World} {T : TypeId} {lo n c : Nat} {a : Option Addr} {l : List Ag} (h : w.ownsRow lo T 6 (.slice a n c) n (flatA l)) : Ags w w.heap.size a c l := Recs.of_own aC_len (by omega) h
theorem Rw.as {w : World} {T : TypeId} {lo up n c : Nat} {a : Option Addr} {l : List Ag} (h : Rw T 6 lo up a n c (flatA l) w) : Ags w w.heap.size a c l := Ags.of_own h.own
theorem Rw.alen {w : World} {T : TypeId} {lo up n c : Nat} {a : Option Addr} {l : List Ag} (h : Rw T 6 lo up a n c (flatA l) w) : n = l.length := ownR_len aC_len (by omega) h.own
theorem own_ag {w : World} {lo g n c : Nat} {T : TypeId} {l : List Ag} (h : w.ownsRow lo T 6 (.slice (some ⟨g, 0, none⟩) n c) n (flatA l)) (j : Nat) (hj : j < l.length) : w.cell? ⟨g, j * 6, none⟩ = some (.int .i64 (ael l j).win) ∧ w.cell? ⟨g, j * 6 + 1, none⟩ = some (.int .i64 (ael l j).key) ∧ w.cell? ⟨g, j * 6 + 2, none⟩ = some (.int .i64 (ael l j).cnt) ∧ w.cell? ⟨g, j * 6 + 3, none⟩ = some (.int .i64 (ael l j).sum) ∧ w.cell? ⟨g, j * 6 + 4, none⟩ = some (.int .i64 (ael l j).mn) ∧ w.cell? ⟨g, j * 6 + 5, none⟩ = some (.int .i64 (ael l j).mx) := by
  have hf := fun q hq => flatR_at aC 6 aD aC_len l j q hj hq
  have hn : n = l.length := ownR_len aC_len (by omega) h
  exact ⟨(h.cellAt (j * 6) (by omega)).trans (hf 0 (by omega)), (h.cellAt (j * 6 + 1) (by omega)).trans (hf 1 (by omega)), (h.cellAt (j * 6 + 2) (by omega)).trans (hf 2 (by omega)), (h.cellAt (j * 6 + 3) (by omega)).trans (hf 3 (by omega)), (h.cellAt (j * 6 + 4) (by omega)).trans (hf 4 (by omega)), (h.cellAt (j * 6 + 5) (by omega)).trans (hf 5 (by omega))⟩

/-- The marks of n records from m on. -/
def markA (m i : Nat) : Ag := ⟨((m + 6 * i : Nat) : Int), ((m + 6 * i + 1 : Nat) : Int), ((m + 6 * i + 2 : Nat) : Int), ((m + 6 * i + 3 : Nat) : Int), ((m + 6 * i + 4 : Nat) : Int), ((m + 6 * i + 5 : Nat) : Int)⟩
def marksA (m n : Nat) : List Ag := (List.range n).map (markA m)
theorem marksA_len (m n : Nat) : (marksA m n).length = n := by simp [marksA]
theorem marksA_at (m n i : Nat) (hi : i < n) : ael (marksA m n) i = markA m i := by simp [marksA, ael, rel, List.getD, hi]
def markToA (m : Nat) (l : List Ag) (j : Nat) : List Ag := marksA m j ++ l.drop j
theorem markToA_zero (m : Nat) (l : List Ag) : markToA m l 0 = l := by simp [markToA, marksA]
theorem markToA_len (m : Nat) (l : List Ag) (j : Nat) (hj : j ≤ l.length) : (markToA m l j).length = l.length := by simp [markToA, marksA_len]; omega
theorem markToA_all (m : Nat) (l : List Ag) : markToA m l l.length = marksA m l.length := by simp [markToA]
theorem markToA_step (m : Nat) (l : List Ag) (j : Nat) (hj : j < l.length) : (((((((flatA (markToA m l j)).set (j * 6) (.int .i64 ((m + 6 * j : Nat) : Int))).set (j * 6 + 1) (.int .i64 ((m + 6 * j + 1 : Nat) : Int))).set (j * 6 + 2) (.int .i64 ((m + 6 * j + 2 : Nat) : Int))).set (j * 6 + 3) (.int .i64 ((m + 6 * j + 3 : Nat) : Int))).set (j * 6 + 4) (.int .i64 ((m + 6 * j + 4 : Nat) : Int))).set (j * 6 + 5) (.int .i64 ((m + 6 * j + 5 : Nat) : Int))) = flatA (markToA m l (j + 1)) := by
  have e1 : marksA m (j + 1) = marksA m j ++ [markA m j] := by simp [marksA, List.range_succ]
  have e2 : l.drop j = ael l j :: l.drop (j + 1) := rel_drop aD hj
  have hl : (flatA (marksA m j)).length = j * 6 := by rw [flatA_len, marksA_len]
  unfold markToA
  rw [e1, e2, flatA_append, flatA_append, flatA_append]
  have e3 : ∀ (f : Ag) (r : List Ag), flatA (f :: r) = aC f ++ flatA r := fun _ _ => rfl
  have e4 : ∀ (f : Ag), flatA [f] = aC f := fun f => by simp [flatA, flatR]
  rw [e3, e4]
  rw [List.set_append_right _ _ (by omega), List.set_append_right _ _ (by omega), List.set_append_right _ _ (by omega), List.set_append_right _ _ (by omega), List.set_append_right _ _ (by omega), List.set_append_right _ _ (by omega), hl]
  have i0 : j * 6 - j * 6 = 0 := by omega
  have i1 : j * 6 + 1 - j * 6 = 1 := by omega
  have i2 : j * 6 + 2 - j * 6 = 2 := by omega
  have i3 : j * 6 + 3 - j * 6 = 3 := by omega
  have i4 : j * 6 + 4 - j * 6 = 4 := by omega
  have i5 : j * 6 + 5 - j * 6 = 5 := by omega
  rw [i0, i1, i2, i3, i4, i5]
  simp [aC, markA]
end Go.Proofs.YtchbmnpajnlijaaDoor
