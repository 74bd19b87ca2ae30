/- Rows of Pair: the record, and the contracts of the laws' own helpers over it (made by mkrows.py). -/
import Derived.Test.YtneolndbhklboabDoorProg
import Derived.Test.YtneolndbhklboabDoorRecs
import Derived.WalkKit
import Derived.WalkSpells
import Derived.ProofKit
import Derived.Lib.Hide
import Derived.Outline
import Derived.Laws.MakeOwn
import Derived.Laws.OwnMore
import Derived.Deep.RegionWith
namespace Go.Proofs.YtneolndbhklboabDoor
open Go.RowKit

structure Pr where
  ky : Int
  lt : Int
  rt : Int
  lv : Int
  rv : Int
deriving DecidableEq
def gD : Pr := ⟨0, 0, 0, 0, 0⟩
def gC (S : Pr) : List Value := [.int .i64 S.ky, .int .i64 S.lt, .int .i64 S.rt, .int .i64 S.lv, .int .i64 S.rv]
theorem gC_len (S : Pr) : (gC S).length = 5 := rfl
/-- The record at i. -/
def gel (l : List Pr) (i : Nat) : Pr := rel gD l i
def flatG (l : List Pr) : List Value := flatR gC l
theorem flatG_len (l : List Pr) : (flatG l).length = l.length * 5 := flatR_len gC 5 gC_len l
theorem flatG_append (l m : List Pr) : flatG (l ++ m) = flatG l ++ flatG m := flatR_append gC l m
theorem gel_take {l : List Pr} {i : Nat} (hi : i < l.length) : l.take (i + 1) = l.take i ++ [gel l i] := rel_take gD hi
/-- A slice of records, all below block hi, reads as l. -/
abbrev Prs (w : World) (hi : Nat) (a : Option Addr) (c : Nat) (l : List Pr) : Prop := Recs gC 5 gD w hi a c l
theorem Prs.six {w : World} {hi c : Nat} {a : Option Addr} {l : List Pr} (h : Prs w hi a c l) (hne : 0 < l.length) : ∃ b off, a = some ⟨b, off, none⟩ ∧ b < hi ∧ ∀ i, i < l.length → w.cell? ⟨b, off + i * 5, none⟩ = some (.int .i64 (gel l i).ky) ∧ w.cell? ⟨b, off + i * 5 + 1, none⟩ = some (.int .i64 (gel l i).lt) ∧ w.cell? ⟨b, off + i * 5 + 2, none⟩ = some (.int .i64 (gel l i).rt) ∧ w.cell? ⟨b, off + i * 5 + 3, none⟩ = some (.int .i64 (gel l i).lv) ∧ w.cell? ⟨b, off + i * 5 + 4, none⟩ = some (.int .i64 (gel l i).rv) := by
  obtain ⟨b, off, ha, hlt, hc⟩ := h.cells hne
  exact ⟨b, off, ha, hlt, fun i hi => ⟨hc i hi 0 (by omega), hc i hi 1 (by omega), hc i hi 2 (by omega), hc i hi 3 (by omega), hc i hi 4 (by omega)⟩⟩
theorem Prs.of_own {w : World} {T : TypeId} {lo n c : Nat} {a : Option Addr} {l : List Pr} (h : w.ownsRow lo T 5 (.slice a n c) n (flatG l)) : Prs w w.heap.size a c l := Recs.of_own gC_len (by omega) h
theorem Rw.gs {w : World} {T : TypeId} {lo up n c : Nat} {a : Option Addr} {l : List Pr} (h : Rw T 5 lo up a n c (flatG l) w) : Prs w w.heap.size a c l := Prs.of_own h.own
theorem Rw.glen {w : World} {T : TypeId} {lo up n c : Nat} {a : Option Addr} {l : List Pr} (h : Rw T 5 lo up a n c (flatG l) w) : n = l.length := ownR_len gC_len (by omega) h.own
theorem own_pr {w : World} {lo g n c : Nat} {T : TypeId} {l : List Pr} (h : w.ownsRow lo T 5 (.slice (some ⟨g, 0, none⟩) n c) n (flatG l)) (j : Nat) (hj : j < l.length) : w.cell? ⟨g, j * 5, none⟩ = some (.int .i64 (gel l j).ky) ∧ w.cell? ⟨g, j * 5 + 1, none⟩ = some (.int .i64 (gel l j).lt) ∧ w.cell? ⟨g, j * 5 + 2, none⟩ = some (.int .i64 (gel l j).rt) ∧ w.cell? ⟨g, j * 5 + 3, none⟩ = some (.int .i64 (gel l j).lv) ∧ w.cell? ⟨g, j * 5 + 4, none⟩ = some (.int .i64 (gel l j).rv) := by
  have hf := fun q hq => flatR_at gC 5 gD gC_len l j q hj hq
  have hn : n = l.length := ownR_len gC_len (by omega) h
  exact ⟨(h.cellAt (j * 5) (by omega)).trans (hf 0 (by omega)), (h.cellAt (j * 5 + 1) (by omega)).trans (hf 1 (by omega)), (h.cellAt (j * 5 + 2) (by omega)).trans (hf 2 (by omega)), (h.cellAt (j * 5 + 3) (by omega)).trans (hf 3 (by omega)), (h.cellAt (j * 5 + 4) (by omega)).trans (hf 4 (by omega))⟩

theorem toPair_x (ky lt rt lv rv : Int) (w : World) : Calls Tryd.prog 5 #[(.agg #[.int .i64 ky, .int .i64 lt, .int .i64 rt, .int .i64 lv, .int .i64 rv])] w fun e w' => e = .returned (.agg #[.int .i64 ky, .int .i64 lt, .int .i64 rt, .int .i64 lv, .int .i64 rv]) ∧ Below w.heap.size w w' := by
  have BB := Lib.hid fun v0 v1 v2 v3 v4 : Value => ((((Below.refl w.heap.size w).alloc (Nat.le_refl _) (.cells #[.int .i64 ky, .int .i64 lt, .int .i64 rt, .int .i64 lv, .int .i64 rv] 23)).alloc (by simp) (.cells #[.int .i64 0, .int .i64 0, .int .i64 0, .int .i64 0, .int .i64 0] 25)).alloc (by simp; omega) (.cells #[v0, v1, v2, v3, v4] 25))
  go_enter Tryd.func5, Tryd.ntmps5
  go_wp2
  exact bodyPost_ret (v := (.agg #[.int .i64 ky, .int .i64 lt, .int .i64 rt, .int .i64 lv, .int .i64 rv])) (by simp [results, Tryd.results5, go_sem]) rfl ⟨rfl, (((Below.refl _ _).alloc (Nat.le_refl _) _).alloc (by simp) _).alloc (by simp; omega) _⟩
/-- The marks of n records from m on. -/
def markG (m i : Nat) : Pr := ⟨((m + 5 * i : Nat) : Int), ((m + 5 * i + 1 : Nat) : Int), ((m + 5 * i + 2 : Nat) : Int), ((m + 5 * i + 3 : Nat) : Int), ((m + 5 * i + 4 : Nat) : Int)⟩
def marksG (m n : Nat) : List Pr := (List.range n).map (markG m)
theorem marksG_len (m n : Nat) : (marksG m n).length = n := by simp [marksG]
theorem marksG_at (m n i : Nat) (hi : i < n) : gel (marksG m n) i = markG m i := by simp [marksG, gel, rel, List.getD, hi]
def markToG (m : Nat) (l : List Pr) (j : Nat) : List Pr := marksG m j ++ l.drop j
theorem markToG_zero (m : Nat) (l : List Pr) : markToG m l 0 = l := by simp [markToG, marksG]
theorem markToG_len (m : Nat) (l : List Pr) (j : Nat) (hj : j ≤ l.length) : (markToG m l j).length = l.length := by simp [markToG, marksG_len]; omega
theorem markToG_all (m : Nat) (l : List Pr) : markToG m l l.length = marksG m l.length := by simp [markToG]
theorem markToG_step (m : Nat) (l : List Pr) (j : Nat) (hj : j < l.length) : ((((((flatG (markToG m l j)).set (j * 5) (.int .i64 ((m + 5 * j : Nat) : Int))).set (j * 5 + 1) (.int .i64 ((m + 5 * j + 1 : Nat) : Int))).set (j * 5 + 2) (.int .i64 ((m + 5 * j + 2 : Nat) : Int))).set (j * 5 + 3) (.int .i64 ((m + 5 * j + 3 : Nat) : Int))).set (j * 5 + 4) (.int .i64 ((m + 5 * j + 4 : Nat) : Int))) = flatG (markToG m l (j + 1)) := by
  have e1 : marksG m (j + 1) = marksG m j ++ [markG m j] := by simp [marksG, List.range_succ]
  have e2 : l.drop j = gel l j :: l.drop (j + 1) := rel_drop gD hj
  have hl : (flatG (marksG m j)).length = j * 5 := by rw [flatG_len, marksG_len]
  unfold markToG
  rw [e1, e2, flatG_append, flatG_append, flatG_append]
  have e3 : ∀ (f : Pr) (r : List Pr), flatG (f :: r) = gC f ++ flatG r := fun _ _ => rfl
  have e4 : ∀ (f : Pr), flatG [f] = gC f := fun f => by simp [flatG, flatR]
  rw [e3, e4]
  rw [List.set_append_right _ _ (by omega), List.set_append_right _ _ (by omega), List.set_append_right _ _ (by omega), List.set_append_right _ _ (by omega), List.set_append_right _ _ (by omega), hl]
  have i0 : j * 5 - j * 5 = 0 := by omega
  have i1 : j * 5 + 1 - j * 5 = 1 := by omega
  have i2 : j * 5 + 2 - j * 5 = 2 := by omega
  have i3 : j * 5 + 3 - j * 5 = 3 := by omega
  have i4 : j * 5 + 4 - j * 5 = 4 := by omega
  rw [i0, i1, i2, i3, i4]
  simp [gC, markG]
end Go.Proofs.YtneolndbhklboabDoor
