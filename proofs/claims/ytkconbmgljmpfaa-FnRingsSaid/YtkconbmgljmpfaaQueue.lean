/- A list of ints of the call's own that may begin behind its row's start: what appending to it and cutting its first does; what stands in a link as a queue. -/
import Derived.Test.YtkconbmgljmpfaaRing9a
import Derived.Test.YtkconbmgljmpfaaPlainLink
import Derived.ArgAppend
namespace Go.Proofs.Ytkconbmgljmpfaa
open Go.RowKit

theorem rList_push {xs : List Int} {p k : Nat} (hk : k < xs.length) (x : Int) : rList (xs.set ((p + k) % xs.length) x) p (k + 1) = rList xs p k ++ [x] := by
  have hm : (p + k) % xs.length < xs.length := Nat.mod_lt _ (by omega)
  apply List.ext_getElem
  · simp [rList]
  · intro i h1 h2
    have hi : i < k + 1 := by simpa [rList] using h1
    simp only [rList, List.getElem_map, List.getElem_range, List.length_set]
    by_cases h : i < k
    · rw [List.getElem_append_left (by simpa using h)]
      rw [el_set_ne _ _ _ _ (fun e => mod_ne h (by omega) e.symm)]
      simp
    · obtain rfl : i = k := by omega
      rw [List.getElem_append_right (by simp)]
      rw [el_set_eq _ _ _ hm]
      simp
theorem rList_pop {xs : List Int} {p k : Nat} (h0 : 0 < k) (hk : k ≤ xs.length) (hp : p < xs.length) : rList xs p k = el xs p :: rList (xs.set p 0) ((p + 1) % xs.length) (k - 1) := by
  apply List.ext_getElem
  · simp [rList]; omega
  · intro i h1 h2
    have hi : i < k := by simpa [rList] using h1
    cases i with
    | zero => simp [rList, Nat.mod_eq_of_lt hp]
    | succ i =>
      simp only [rList, List.getElem_map, List.getElem_range, List.length_set, List.getElem_cons_succ]
      have e : ((p + 1) % xs.length + i) % xs.length = (p + (i + 1)) % xs.length := by
        rw [Nat.mod_add_mod]; congr 1; omega
      rw [e, el_set_ne]
      have h := mod_ne (n := xs.length) (p := p) (i := 0) (j := i + 1) (by omega) (by omega)
      rw [Nat.add_zero, Nat.mod_eq_of_lt hp] at h
      exact h

/-- A list of the call's own, wherever in its row it begins. -/
def Qu (lo : Nat) (a : Option Addr) (n c : Nat) (ys : List Int) (w : World) : Prop :=
  ∃ g off cur, a = some ⟨g, off, none⟩ ∧ lo ≤ g ∧ w.heap[g]? = some (.cells cur 3 (0, 0)) ∧ n = ys.length ∧ n ≤ c ∧ off + c ≤ cur.size ∧ c ≤ maxLen ∧ ∀ i, i < n → cur[off + i]? = some (.int .i64 (el ys i))
theorem Qu.of_own {w : World} {lo n c : Nat} {a : Option Addr} {ys : List Int} (h : w.ownsRow lo 3 1 (.slice a n c) n (ys.map (Value.int .i64))) (ha : a ≠ none) : Qu lo a n c ys w := by
  have hn : n = ys.length := by have := h.1; simp at this; omega
  rcases h.2 with ⟨hv, _⟩ | ⟨g, cap, cur, hv, hlo, hh, h1, h2, h3, h4⟩
  · simp only [Value.slice.injEq] at hv
    exact absurd hv.1 ha
  · simp only [Value.slice.injEq] at hv
    obtain ⟨rfl, _, rfl⟩ := hv
    refine ⟨g, 0, cur, rfl, hlo, hh, hn, h1, by omega, h2, fun i hi => ?_⟩
    have h5 : (cur.toList.take (n * 1))[i]? = (ys.map (Value.int .i64))[i]? := by rw [h4]
    rw [el_cell .i64 ys i (by omega), List.getElem?_take, if_pos (by omega)] at h5
    simpa using h5
theorem Qu.keep {w w' : World} {lo n c : Nat} {a : Option Addr} {ys : List Int} (h : Qu lo a n c ys w) (hb : Below w.heap.size w w') : Qu lo a n c ys w' := by
  obtain ⟨g, off, cur, ha, hlo, hh, r⟩ := h
  exact ⟨g, off, cur, ha, hlo, by rw [hb.block g (Array.getElem?_eq_some_iff.1 hh).1]; exact hh, r⟩
theorem Qu.nums {w : World} {lo n c : Nat} {a : Option Addr} {ys : List Int} (h : Qu lo a n c ys w) : Nums .i64 w w.heap.size a c ys := by
  obtain ⟨g, off, cur, rfl, hlo, hh, hn, hnc, hs, hm, hc⟩ := h
  unfold maxLen at hm
  refine ⟨by omega, by omega, .inr ⟨g, off, rfl, (Array.getElem?_eq_some_iff.1 hh).1, fun i hi => ?_⟩⟩
  rw [cell_of_row w g (off + i) cur _ (0, 0) hh]
  exact hc i (by omega)
theorem Qu.tail1 {w : World} {lo n : Nat} {g off : Nat} {y : Int} {ys : List Int} (h : Qu lo (some ⟨g, off, none⟩) n 1 (y :: ys) w) : Qu lo (some ⟨g, off, none⟩) (n - 1) 0 ys w := by
  obtain ⟨g', off', cur, ha, hlo, hh, hn, hnc, hs, hm, hc⟩ := h
  injection ha with ha
  injection ha with e1 e2
  subst e1 e2
  simp at hn
  exact ⟨g, off, cur, rfl, hlo, hh, by omega, by omega, by omega, by omega, fun i hi => by omega⟩
theorem Qu.tail2 {w : World} {lo n c : Nat} {g off : Nat} {y : Int} {ys : List Int} (h : Qu lo (some ⟨g, off, none⟩) n c (y :: ys) w) : Qu lo (some ⟨g, off + 1, none⟩) (n - 1) (c - 1) ys w := by
  obtain ⟨g', off', cur, ha, hlo, hh, hn, hnc, hs, hm, hc⟩ := h
  injection ha with ha
  injection ha with e1 e2
  subst e1 e2
  simp at hn
  refine ⟨g, off + 1, cur, rfl, hlo, hh, by omega, by omega, by omega, by omega, fun i hi => ?_⟩
  have := hc (i + 1) (by omega)
  rw [show off + 1 + i = off + (i + 1) by omega, this]
  simp [el]
theorem Qu.append {w : World} {lo n c : Nat} {a : Option Addr} {ys : List Int} (h : Qu lo a n c ys w) (x : Int) (hlo : lo ≤ w.heap.size) (hn : n ≤ 1048576) (ty : TypeId) :
    ∃ a3 c3 w', (Builtin.append_ #[24, 24] ty #[.slice a n c, .slice (some ⟨w.heap.size, 0, none⟩) 1 1]).run Try.prog (w.alloc (.cells #[.int .i64 x] 3)) = .ok (.slice a3 (n + 1) c3) w' ∧ Qu lo a3 (n + 1) c3 (ys ++ [x]) w' ∧ Below lo w w' := by
  obtain ⟨i0, hi0, hz0, hz1, hz2⟩ := info_partsI infoI64
  obtain ⟨g, off, cur, rfl, hlog, hh, hnl, hnc, hs, hm, hc⟩ := h
  have hg : g < w.heap.size := (Array.getElem?_eq_some_iff.1 hh).1
  have hh1 : (w.alloc (.cells #[.int .i64 x] 3)).heap[g]? = some (.cells cur 3 (0, 0)) := (Below.heap_alloc w _ g hg).trans hh
  have hcell : ∀ i, (w.alloc (.cells #[.int .i64 x] 3)).cell? ⟨g, i, none⟩ = cur[i]? := fun i => cell_of_row _ g i cur _ (0, 0) hh1
  have hfz : ∀ i, (w.alloc (.cells #[.int .i64 x] 3)).frozen? ⟨g, i, none⟩ = false := fun i => frozen_of_row _ g i cur _ hh1
  have b0 := (Below.refl lo w).alloc hlo (.cells #[.int .i64 x] 3)
  by_cases hr : n + 1 ≤ c
  · have hin : off + n < cur.size := by omega
    have hrun := run_append_room_cells (P := Try.prog) (w.alloc (.cells #[.int .i64 x] 3)) 24 ty 3 i0 Try.underlying24 hi0 g off n c ⟨w.heap.size, 0, none⟩ 1 1 [.int .i64 x] (by simp [hz1]) (cell_one_newI _ _ _) (one_i64 _) hr
      (fun j hj => by simp at hj; subst hj; rw [hz1, hcell]; simp [hin]) (fun j hj => hfz _)
    rw [hz1, Nat.mul_one] at hrun
    refine ⟨_, _, _, hrun, ?_, ?_⟩
    · have hblk : ((w.alloc (.cells #[.int .i64 x] 3)).setCells g (off + n) [.int .i64 x]).heap[g]? = some (.cells (cur.setIfInBounds (off + n) (.int .i64 x)) 3 (0, 0)) := by
        show ((w.alloc (.cells #[.int .i64 x] 3)).setCell ⟨g, off + n, none⟩ (.int .i64 x)).heap[g]? = _
        simp [World.setCell, Array.getElem?_modify, hh1]
      refine ⟨g, off, _, rfl, hlog, hblk, by simp [hnl], hr, by simp; omega, hm, fun i hi => ?_⟩
      rw [Array.getElem?_setIfInBounds]
      by_cases he : i = n
      · subst he
        rw [if_pos rfl, if_pos hin]
        simp [el, List.getD, hnl]
      · have hi2 : i < ys.length := by omega
        have e9 : el (ys ++ [x]) i = el ys i := by simp [el, List.getD, List.getElem?_append, hi2]
        rw [if_neg (by omega), hc i (by omega), e9]
    · exact b0.setCell (p := ⟨g, off + n, none⟩) hlog _
  · obtain ⟨v', w', hrun, ho, hgr⟩ := run_append_arg_grows (P := Try.prog) (w.alloc (.cells #[.int .i64 x] 3)) 24 ty 3 i0 (.int .i64 0) 1 8 Try.underlying24 hi0 hz0 hz1 hz2 rfl (by decide) ⟨g, off, none⟩ n c (ys.map (Value.int .i64)) (by simp [hnl])
      (fun j u hj => by
        have hj' : j < n := by have := (List.getElem?_eq_some_iff.1 hj).1; simp at this; omega
        rw [Addr.add_lit, hcell, hc j hj', ← hj, el_cell _ _ _ (by omega)]) ⟨w.heap.size, 0, none⟩ 1 1 [.int .i64 x] rfl (cell_one_newI _ _ _) (by omega) (by unfold maxLen; omega) (by omega)
    obtain ⟨a3, c3, rfl⟩ := owns_shape ho
    have hne : a3 ≠ none := by
      rcases ho.2 with ⟨_, h0⟩ | ⟨g', cap', cur', hv, _⟩
      · omega
      · simp only [Value.slice.injEq] at hv
        rw [hv.1]; simp
    rw [← map_snoc] at ho
    refine ⟨a3, c3, w', hrun, Qu.of_own (owns_less ho (by simp; omega)) hne, b0.trans ⟨hgr.os, hgr.tape, hgr.output, hgr.size, fun k hk => hgr.block k (by simp; omega) (by simp)⟩⟩
end Go.Proofs.Ytkconbmgljmpfaa
