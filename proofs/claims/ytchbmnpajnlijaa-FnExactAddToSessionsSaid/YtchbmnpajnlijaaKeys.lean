/- Chapter 11: the keys of a calendar, sorted. (made by tools/mkcal5.py) -/
import Derived.Test.YtchbmnpajnlijaaCalM2
import Derived.Test.YtchbmnpajnlijaaKShelf
import Derived.Shelf.SlIterI.Nil
import Derived.Shelf.SortM.Plain
import Derived.Shelf.SortM.SortNone
namespace Go.Proofs.Ytchbmnpajnlijaa
open Go.RowKit Go.Maps Go.Sort Go.Shelf
theorem kSorts (m : Nat) : AnyZI.SortsIn Try.prog Try.sortedA_ren Fence.wide m :=
  ⟨fun blk off cap ss W hH hblk hsz => callsIn_wide.2 (AnyM.slices_Sort_int Try.sortA blk off cap ss W hH hblk hsz),
   fun p cap W => callsIn_wide.2 (AnyM.slices_Sort_int_none Try.sortA p cap W)⟩
theorem keys_x (mb : Nat) (W : World) : Calls Try.prog 123 #[.map (some mb)] W fun e w' => e = .returned (.func (.func 146) #[] #[.pointer (some ⟨W.heap.size, 0, none⟩)]) ∧ w' = W.alloc (.cells #[.map (some mb)] 107) :=
  callsIn_wide.1 (AnyZI.keys_in Try.keysA Fence.wide 5 trivial rfl (some mb) W)
theorem keys_perm {es : List Ent} {D : DataW Unit} {n : Nat} {W : World} {mb : Nat} (h : CalD es D) (hD : W.ownsMap Try.prog 3 rpV mb n D) (ha : es.Pairwise fun a b => a.key < b.key) : (es.map fun e => e.key).Perm (intKeys D) := by
  obtain ⟨l, hl, hx⟩ := h.lits
  obtain ⟨l2, hl2, hp⟩ := hD.tidy calKeyed
  subst hl
  injection hl2 with hl2
  subst hl2
  refine perm_intKeys hp hx ?_ fun x => ?_
  · exact List.pairwise_map.2 (ha.imp fun h => by omega)
  · rw [List.mem_map]
    constructor
    · rintro ⟨e, he, rfl⟩
      exact has_true_of_atKey (fun z => h.yes e he z)
    · intro hh
      by_cases hk : ∃ e, e ∈ es ∧ e.key = x
      · exact hk
      · have hno := h.no x (fun e he hx2 => hk ⟨e, he, hx2⟩)
        rw [show (Lit.int .i64 x) = kIn x from rfl, hno] at hh
        cases hh
theorem keys_sort {es : List Ent} {ss : List Int} (ha : es.Pairwise fun a b => a.key < b.key) (hp : ss.Perm (es.map fun e => e.key)) : (ss.mergeSort fun x y => decide (x ≤ y)) = es.map fun e => e.key := by
  rw [show (fun x y : Int => decide (x ≤ y)) = leI from rfl, mergeSort_of_perm_i hp]
  refine List.mergeSort_of_pairwise ?_
  exact List.pairwise_map.2 (ha.imp fun h => by simp; omega)
theorem sorted_x (lo mb : Nat) (es : List Ent) (W : World) (h : Cal lo mb es W) (hlen : es.length ≤ 1048576) :
    Calls Try.prog 122 #[.func (.func 146) #[] #[.pointer (some ⟨W.heap.size, 0, none⟩)]] (W.alloc (.cells #[.map (some mb)] 107)) fun e w' => ∃ a c, e = .returned (.slice a es.length c) ∧ w'.ownsRow (W.heap.size + 1) 3 1 (.slice a es.length c) es.length ((es.map fun e => e.key).map (Value.int .i64)) ∧ Below (W.heap.size + 1) (W.alloc (.cells #[.map (some mb)] 107)) w' := by
  obtain ⟨D, hD, hC⟩ := h.map
  have hml := h.lt mb (by simp)
  have hsz : Maps.size D ≤ es.length := hD.size_le
  have hseq : SeqGives Fence.wide 2 Try.prog 146 #[.pointer (some ⟨W.heap.size, 0, none⟩)] encZ (fun ss => ss.Perm (intKeys D)) (Maps.size D) (W.alloc (.cells #[.map (some mb)] 107)) :=
    AnyZI.keys_gives (ρ := Try.keysA_ren) { Try.keysA with } Fence.wide _ trivial rfl (by omega) W.heap.size mb es.length D _ (by simp) (by simp) (hD.alloc _)
  have cS := AnyZI.sorted_in Try.sortedA Fence.wide 5 trivial trivial trivial trivial rfl (by omega) (kSorts _) (enters_of Try.func145 (by kernel_rfl) rfl) 146 #[.pointer (some ⟨W.heap.size, 0, none⟩)] trivial (enters_of Try.func146 (by kernel_rfl) rfl) _ _ (by unfold maxLen; omega) (by omega) _ hseq
  change CallsIn _ _ Try.prog 122 _ _ _ at cS
  refine (callsIn_wide.1 cS).mono ?_
  rintro e w' ⟨v, ss, rfl, hS, hrow, hnil, hb⟩
  have hp : ss.Perm (es.map fun e => e.key) := hS.trans (keys_perm hC hD h.asc).symm
  rw [keys_sort h.asc hp] at hrow
  have hl : ss.length = es.length := by rw [hp.length_eq, List.length_map]
  rw [hl] at hrow
  simp only [World.size_alloc] at hrow hb
  have hrow2 : w'.ownsRow (W.heap.size + 1) 3 1 v es.length ((es.map fun e => e.key).map (Value.int .i64)) := hrow
  obtain ⟨a, c, rfl⟩ := owns_shape hrow2
  exact ⟨a, c, rfl, hrow2, hb⟩
end Go.Proofs.Ytchbmnpajnlijaa
