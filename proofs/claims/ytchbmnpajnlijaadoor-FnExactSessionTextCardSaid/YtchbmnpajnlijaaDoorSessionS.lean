/- Rows of Session: the record, and the contracts of the laws' own helpers over it (made by mkrows.py). -/
import Derived.Test.YtchbmnpajnlijaaDoorProg
import Derived.Test.YtchbmnpajnlijaaDoorRecs
import Derived.WalkKit
import Derived.WalkSpells
import Derived.ProofKit
import Derived.Lib.Hide
import Derived.Outline
import Derived.Laws.MakeOwn
import Derived.Laws.OwnMore
import Derived.Deep.RegionWith
namespace Go.Proofs.YtchbmnpajnlijaaDoor
open Go.RowKit

structure Ss where
  ky : Int
  fr : Int
  tt : Int
  ct : Int
  sm : Int
deriving DecidableEq
def zD : Ss := ⟨0, 0, 0, 0, 0⟩
def zC (S : Ss) : List Value := [.int .i64 S.ky, .int .i64 S.fr, .int .i64 S.tt, .int .i64 S.ct, .int .i64 S.sm]
theorem zC_len (S : Ss) : (zC S).length = 5 := rfl
/-- The record at i. -/
def zel (l : List Ss) (i : Nat) : Ss := rel zD l i
def flatZ (l : List Ss) : List Value := flatR zC l
theorem flatZ_len (l : List Ss) : (flatZ l).length = l.length * 5 := flatR_len zC 5 zC_len l
theorem flatZ_append (l m : List Ss) : flatZ (l ++ m) = flatZ l ++ flatZ m := flatR_append zC l m
theorem zel_take {l : List Ss} {i : Nat} (hi : i < l.length) : l.take (i + 1) = l.take i ++ [zel l i] := rel_take zD hi
/-- A slice of records, all below block hi, reads as l. -/
abbrev Sss (w : World) (hi : Nat) (a : Option Addr) (c : Nat) (l : List Ss) : Prop := Recs zC 5 zD w hi a c l
theorem Sss.six {w : World} {hi c : Nat} {a : Option Addr} {l : List Ss} (h : Sss w hi a c l) (hne : 0 < l.length) : ∃ b off, a = some ⟨b, off, none⟩ ∧ b < hi ∧ ∀ i, i < l.length → w.cell? ⟨b, off + i * 5, none⟩ = some (.int .i64 (zel l i).ky) ∧ w.cell? ⟨b, off + i * 5 + 1, none⟩ = some (.int .i64 (zel l i).fr) ∧ w.cell? ⟨b, off + i * 5 + 2, none⟩ = some (.int .i64 (zel l i).tt) ∧ w.cell? ⟨b, off + i * 5 + 3, none⟩ = some (.int .i64 (zel l i).ct) ∧ w.cell? ⟨b, off + i * 5 + 4, none⟩ = some (.int .i64 (zel l i).sm) := by
  obtain ⟨b, off, ha, hlt, hc⟩ := h.cells hne
  exact ⟨b, off, ha, hlt, fun i hi => ⟨hc i hi 0 (by omega), hc i hi 1 (by omega), hc i hi 2 (by omega), hc i hi 3 (by omega), hc i hi 4 (by omega)⟩⟩
theorem Sss.of_own {w : World} {T : TypeId} {lo n c : Nat} {a : Option Addr} {l : List Ss} (h : w.ownsRow lo T 5 (.slice a n c) n (flatZ l)) : Sss w w.heap.size a c l := Recs.of_own zC_len (by omega) h
theorem Rw.zs {w : World} {T : TypeId} {lo up n c : Nat} {a : Option Addr} {l : List Ss} (h : Rw T 5 lo up a n c (flatZ l) w) : Sss w w.heap.size a c l := Sss.of_own h.own
theorem Rw.zlen {w : World} {T : TypeId} {lo up n c : Nat} {a : Option Addr} {l : List Ss} (h : Rw T 5 lo up a n c (flatZ l) w) : n = l.length := ownR_len zC_len (by omega) h.own
theorem own_ss {w : World} {lo g n c : Nat} {T : TypeId} {l : List Ss} (h : w.ownsRow lo T 5 (.slice (some ⟨g, 0, none⟩) n c) n (flatZ l)) (j : Nat) (hj : j < l.length) : w.cell? ⟨g, j * 5, none⟩ = some (.int .i64 (zel l j).ky) ∧ w.cell? ⟨g, j * 5 + 1, none⟩ = some (.int .i64 (zel l j).fr) ∧ w.cell? ⟨g, j * 5 + 2, none⟩ = some (.int .i64 (zel l j).tt) ∧ w.cell? ⟨g, j * 5 + 3, none⟩ = some (.int .i64 (zel l j).ct) ∧ w.cell? ⟨g, j * 5 + 4, none⟩ = some (.int .i64 (zel l j).sm) := by
  have hf := fun q hq => flatR_at zC 5 zD zC_len l j q hj hq
  have hn : n = l.length := ownR_len zC_len (by omega) h
  exact ⟨(h.cellAt (j * 5) (by omega)).trans (hf 0 (by omega)), (h.cellAt (j * 5 + 1) (by omega)).trans (hf 1 (by omega)), (h.cellAt (j * 5 + 2) (by omega)).trans (hf 2 (by omega)), (h.cellAt (j * 5 + 3) (by omega)).trans (hf 3 (by omega)), (h.cellAt (j * 5 + 4) (by omega)).trans (hf 4 (by omega))⟩

theorem toSession_x (ky fr tt ct sm : Int) (w : World) : Calls Tryd.prog 5 #[(.agg #[.int .i64 ky, .int .i64 fr, .int .i64 tt, .int .i64 ct, .int .i64 sm])] w fun e w' => e = .returned (.agg #[.int .i64 ky, .int .i64 fr, .int .i64 tt, .int .i64 ct, .int .i64 sm]) ∧ Below w.heap.size w w' := by
  have BB := Lib.hid fun v0 v1 v2 v3 v4 : Value => ((((Below.refl w.heap.size w).alloc (Nat.le_refl _) (.cells #[.int .i64 ky, .int .i64 fr, .int .i64 tt, .int .i64 ct, .int .i64 sm] 23)).alloc (by simp) (.cells #[.int .i64 0, .int .i64 0, .int .i64 0, .int .i64 0, .int .i64 0] 25)).alloc (by simp; omega) (.cells #[v0, v1, v2, v3, v4] 25))
  go_enter Tryd.func5, Tryd.ntmps5
  go_wp2
  exact bodyPost_ret (v := (.agg #[.int .i64 ky, .int .i64 fr, .int .i64 tt, .int .i64 ct, .int .i64 sm])) (by simp [results, Tryd.results5, go_sem]) rfl ⟨rfl, (((Below.refl _ _).alloc (Nat.le_refl _) _).alloc (by simp) _).alloc (by simp; omega) _⟩
/-- The marks of n records from m on. -/
def markZ (m i : Nat) : Ss := ⟨((m + 5 * i : Nat) : Int), ((m + 5 * i + 1 : Nat) : Int), ((m + 5 * i + 2 : Nat) : Int), ((m + 5 * i + 3 : Nat) : Int), ((m + 5 * i + 4 : Nat) : Int)⟩
def marksZ (m n : Nat) : List Ss := (List.range n).map (markZ m)
theorem marksZ_len (m n : Nat) : (marksZ m n).length = n := by simp [marksZ]
theorem marksZ_at (m n i : Nat) (hi : i < n) : zel (marksZ m n) i = markZ m i := by simp [marksZ, zel, rel, List.getD, hi]
def markToZ (m : Nat) (l : List Ss) (j : Nat) : List Ss := marksZ m j ++ l.drop j
theorem markToZ_zero (m : Nat) (l : List Ss) : markToZ m l 0 = l := by simp [markToZ, marksZ]
theorem markToZ_len (m : Nat) (l : List Ss) (j : Nat) (hj : j ≤ l.length) : (markToZ m l j).length = l.length := by simp [markToZ, marksZ_len]; omega
theorem markToZ_all (m : Nat) (l : List Ss) : markToZ m l l.length = marksZ m l.length := by simp [markToZ]
theorem markToZ_step (m : Nat) (l : List Ss) (j : Nat) (hj : j < l.length) : ((((((flatZ (markToZ m l j)).set (j * 5) (.int .i64 ((m + 5 * j : Nat) : Int))).set (j * 5 + 1) (.int .i64 ((m + 5 * j + 1 : Nat) : Int))).set (j * 5 + 2) (.int .i64 ((m + 5 * j + 2 : Nat) : Int))).set (j * 5 + 3) (.int .i64 ((m + 5 * j + 3 : Nat) : Int))).set (j * 5 + 4) (.int .i64 ((m + 5 * j + 4 : Nat) : Int))) = flatZ (markToZ m l (j + 1)) := by
  have e1 : marksZ m (j + 1) = marksZ m j ++ [markZ m j] := by simp [marksZ, List.range_succ]
  have e2 : l.drop j = zel l j :: l.drop (j + 1) := rel_drop zD hj
  have hl : (flatZ (marksZ m j)).length = j * 5 := by rw [flatZ_len, marksZ_len]
  unfold markToZ
  rw [e1, e2, flatZ_append, flatZ_append, flatZ_append]
  have e3 : ∀ (f : Ss) (r : List Ss), flatZ (f :: r) = zC f ++ flatZ r := fun _ _ => rfl
  have e4 : ∀ (f : Ss), flatZ [f] = zC f := fun f => by simp [flatZ, flatR]
  rw [e3, e4]
  rw [List.set_append_right _ _ (by omega), List.set_append_right _ _ (by omega), List.set_append_right _ _ (by omega), List.set_append_right _ _ (by omega), List.set_append_right _ _ (by omega), hl]
  have i0 : j * 5 - j * 5 = 0 := by omega
  have i1 : j * 5 + 1 - j * 5 = 1 := by omega
  have i2 : j * 5 + 2 - j * 5 = 2 := by omega
  have i3 : j * 5 + 3 - j * 5 = 3 := by omega
  have i4 : j * 5 + 4 - j * 5 = 4 := by omega
  rw [i0, i1, i2, i3, i4]
  simp [zC, markZ]
end Go.Proofs.YtchbmnpajnlijaaDoor
