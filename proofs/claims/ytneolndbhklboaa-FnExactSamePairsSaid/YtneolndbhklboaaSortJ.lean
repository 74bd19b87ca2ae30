/- Chapter 12, impl's side: slices.SortFunc over pairs, by the shelf; SortPairs. (made by tools/mksortj.py) -/
import Derived.Test.YtneolndbhklboaaPlainJn5
import Derived.Test.YtneolndbhklboaaCloneG
import Derived.Test.YtneolndbhklboaaSShelf
import Derived.Shelf.SlSortCmp.WholeK
import Derived.Shelf.SlSortCmp.NoneTotal
namespace Go.Proofs.Ytneolndbhklboaa
open Go.RowKit
instance instInhPrJ : Inhabited Pr := ⟨gD⟩
theorem get_arr {l : List Pr} {i : Nat} (hi : i < l.length) : l.toArray[i]! = gel l i := by
  rw [getElem!_pos l.toArray i (by simpa using hi), show gel l i = l[i] from rel_lt gD hi]
  simp
theorem flatK_G (l : List Pr) : Sort.flatK gC 5 l.toArray = (flatG l).toArray := by
  refine Sort.ext_get! (by simp [flatG_len]) fun t ht => ?_
  have ht' : t < l.length * 5 := by simpa using ht
  rw [Sort.get_flatK _ _ _ _ (by simpa using ht'), get_arr (by omega), getElem!_pos (flatG l).toArray t (by simpa [flatG_len] using ht')]
  have h2 := flatR_at gC 5 gD gC_len l (t / 5) (t % 5) (by omega) (by omega)
  have e2 : t / 5 * 5 + t % 5 = t := by omega
  rw [e2] at h2
  have h3 : (gC (gel l (t / 5)))[t % 5]! = (gC (gel l (t / 5)))[t % 5]'(by rw [gC_len]; omega) := getElem!_pos _ _ (by rw [gC_len]; omega)
  rw [h3]
  have h4 : (flatG l)[t]? = some ((flatG l)[t]'(by rw [flatG_len]; exact ht')) := List.getElem?_eq_getElem _
  have h5 : (gC (gel l (t / 5)))[t % 5]? = some ((gC (gel l (t / 5)))[t % 5]'(by rw [gC_len]; omega)) := List.getElem?_eq_getElem _
  have h6 : (flatG l)[t]? = (gC (gel l (t / 5)))[t % 5]? := h2
  rw [h4, h5] at h6
  injection h6 with h6
  simpa using h6.symm
theorem holds_G {w : World} {lo g c : Nat} {l : List Pr} (h : w.ownsRow lo 53 5 (.slice (some ⟨g, 0, none⟩) l.length c) l.length (flatG l)) : Sort.HoldsK gC 5 w g 0 l.toArray := by
  unfold Sort.HoldsK
  rw [flatK_G]
  intro j hj
  have hj' : j < l.length * 5 := by simpa [flatG_len] using hj
  refine ⟨?_, ?_⟩
  · rw [Nat.zero_add, h.cellAt j (by omega), getElem!_pos (flatG l).toArray j (by simpa [flatG_len] using hj')]
    rw [List.getElem?_eq_getElem (by rw [flatG_len]; exact hj')]
    simp
  · rcases h.2 with ⟨he, _⟩ | ⟨g', cap, cur, he, _, hh, _⟩
    · cases he
    · cases he
      simp [World.frozen?, hh]
theorem sorted_G {w : World} {lo g c n : Nat} {os : Array Obj} {l Z : List Pr} (hl : Z.length = l.length) (h : w.ownsRow lo 53 5 (.slice (some ⟨g, 0, none⟩) l.length c) l.length (flatG l)) :
    (sortWorldK gC 5 w g 0 n Z.toArray os).ownsRow lo 53 5 (.slice (some ⟨g, 0, none⟩) l.length c) l.length (flatG Z) ∧ w.grownBy (sortWorldK gC 5 w g 0 n Z.toArray os) (some g) := by
  rcases h.2 with ⟨he, _⟩ | ⟨g', cap, cur, he, hlo, hh, h1, h2, h3, _⟩
  · cases he
  · cases he
    have hg : g < w.heap.size := (Array.getElem?_eq_some_iff.1 hh).1
    unfold sortWorldK Sort.putRowK
    rw [flatK_G]
    refine ⟨⟨by rw [flatG_len, hl], .inr ⟨g, c, Sort.putCells id 0 (flatG Z).toArray cur, rfl, hlo, ?_, h1, h2, by simp [Sort.putCells, h3], ?_⟩⟩, ⟨rfl, rfl, rfl, by simp, fun k hk hne => ?_⟩⟩
    · rw [Sort.heap_grow_old _ _ (by simpa using hg)]
      simp [Sort.putRow, Sort.mapBlock, Sort.ahead, Array.getElem?_modify, hh, Sort.onCells]
    · apply List.ext_getElem?
      intro j
      by_cases hj : j < l.length * 5
      · rw [List.getElem?_take_of_lt hj, Array.getElem?_toList]
        have hj2 : j < (flatG Z).length := by rw [flatG_len, hl]; exact hj
        have hj3 : j < cur.size := by omega
        simp [Sort.putCells, hj2, hj3]
      · rw [List.getElem?_take_eq_none (by omega), List.getElem?_eq_none (by rw [flatG_len, hl]; omega)]
    · rw [Sort.heap_grow_old _ _ (by simpa using hk)]
      have : g ≠ k := fun e => hne (by rw [e])
      simp [Sort.putRow, Sort.mapBlock, Sort.ahead, Array.getElem?_modify, this]
theorem ltOf_pr (x y : Pr) : ltOf cmpPr x y = prLess x y := (cmpPr_less x y).symm
theorem swo_pr : Sort.SWO (ltOf cmpPr) := by
  refine ⟨fun x => ?_, fun x y z h k => ?_, fun x y z h k => ?_⟩
  · rw [ltOf_pr]; exact prLess_irrefl x
  · rw [ltOf_pr] at *; exact prLess_trans h k
  · rw [ltOf_pr] at *; exact prLess_ntrans h k
set_option maxHeartbeats 1000000 in
set_option maxRecDepth 100000 in
theorem sortFunc_any (a : Option Addr) (c lo : Nat) (l : List Pr) (w : World) (h : w.ownsRow lo 53 5 (.slice a l.length c) l.length (flatG l)) (hlo : lo ≤ w.heap.size) (h16 : l.length ≤ 1600) :
    Calls Try.prog 77 #[.slice a l.length c, .func (.func 75) #[] #[]] w fun e w' => e = .returned (.tuple #[]) ∧ w'.ownsRow lo 53 5 (.slice a l.length c) l.length (flatG (srtP l)) ∧ Below lo w w' := by
  rcases h.2 with ⟨he, h0⟩ | ⟨g, cap, cur, he, hlg, hh, _⟩
  · injection he with ha hn hc
    subst ha hc
    have e0 : l = [] := List.length_eq_zero_iff.1 h0
    subst e0
    have hs := AnyF.slices_SortFunc_none Try.sortP none 0 (.func (.func 75) #[] #[]) w
    change Calls Try.prog 77 _ _ _ at hs
    exact hs.mono fun e w' hx => ⟨hx.1, by rw [hx.2]; exact World.ownsRow_nil _ _ _ _, by rw [hx.2]; exact Below.refl _ _⟩
  · cases he
    have hg : g < w.heap.size := (Array.getElem?_eq_some_iff.1 hh).1
    have eg : ∀ args w, (callFunc 75 args).run Try.prog w = .ok (.enter 75 args) w := enters_of Try.func75 (by kernel_rfl) rfl
    have hc : CmpLays Try.prog 75 #[] gC 5 cmpPr g 0 l.toArray.size w := by
      intro m os dk _ x y
      obtain ⟨x0, x1, x2, x3, x4⟩ := x
      obtain ⟨y0, y1, y2, y3, y4⟩ := y
      exact cmpPr_x x0 x1 x2 x3 x4 y0 y1 y2 y3 y4 _
    have hs := AnyQ.slices_SortFunc Try.sortP 5 (fun w => by kernel_rfl) (fun w => by kernel_rfl) gC gC_len gC_ones cmpPr swo_pr 75 #[] g 0 c l.toArray w eg hc (holds_G h) hg (by simp; omega)
    change Calls Try.prog 77 _ _ _ at hs
    rw [show l.toArray.size = l.length by simp] at hs
    refine hs.mono fun e w' hx => ?_
    obtain ⟨he, d', n, os, hp, hso, hw⟩ := hx
    obtain ⟨hsz, _, hperm⟩ := hp
    have hd : d' = d'.toList.toArray := by simp
    have hlen : d'.toList.length = l.length := by simpa using hsz
    have hP : d'.toList.Perm l := by
      have e1 : d'.extract 0 l.length = d' := by rw [show l.length = d'.size by simpa using hsz.symm]; exact Array.extract_size
      have e2 : l.toArray.extract 0 l.length = l.toArray := by simp
      rw [e1, e2] at hperm
      simpa using hperm
    have hA : Asc d'.toList := by
      unfold Asc
      rw [List.pairwise_iff_getElem]
      intro i j hi hj hij
      have hi' : i < d'.size := by simpa using hi
      have hj' : j < d'.size := by simpa using hj
      have := hso i j (Nat.zero_le _) hij (by have h9 : d'.size = l.length := (by simpa using hsz); omega)
      rw [getElem!_pos d' j hj', getElem!_pos d' i hi', ltOf_pr] at this
      simpa using this
    have hZ := srtP_one hA hP
    rw [hd, hZ] at hw
    obtain ⟨o1, g1⟩ := sorted_G (n := n) (os := os) (srtP_len l) h
    rw [hw]
    exact ⟨he, o1, below_grown_own g1 hlg hlo⟩
set_option maxHeartbeats 1000000 in
set_option maxRecDepth 100000 in
theorem iSort_any (a : Option Addr) (n c : Nat) (l : List Pr) (hi : Nat) (w : World) (hr : Prs w hi a c l) (hn : n = l.length) (hB : hi ≤ w.heap.size) (hlen : l.length ≤ 1048576) :
    Calls Try.prog 41 #[.slice a n c] w (FreshR gC 53 5 (srtJ l) w) := by
  subst hn
  have CL := Lib.hid (cloneG_any a l.length c l hi w hr rfl hB hlen)
  clear hr
  by_cases h16 : l.length ≤ 1600
  · rw [show srtJ l = srtP l from if_pos h16]
    have SO := Lib.hid (fun (W : World) a1 c1 h => sortFunc_any a1 c1 w.heap.size l W h)
    have hd : ¬ (1600 : Int) < (l.length : Int) := by omega
    have HL := Lib.hid (srtP_len l)
    go_enter Try.func41, Try.ntmps41
    go_wp2_with fail
    refine CL.out.mono ?_
    rintro e w1 ⟨a1, c1, rfl, ho, hb⟩
    have B1 := Lib.hid hb
    have O1 := Lib.hid ho
    clear hb ho
    go_wp2_with fail
    refine (SO.out _ _ _ O1.out B1.out.size h16).mono ?_
    rintro e w2 ⟨rfl, ho, hb⟩
    have HP : Hid (FreshR gC 53 5 (srtP l) w (.returned (.slice a1 l.length c1)) w2) := Lib.hid ⟨a1, c1, by rw [HL.out], by rw [HL.out]; exact ho, B1.out.trans hb⟩
    clear ho hb
    go_wp2
    exact bodyPost_ret (v := .slice a1 l.length c1) (by simp [results, Try.results41, go_sem]) rfl HP.out
  · rw [show srtJ l = [] from if_neg h16]
    have hd : (1600 : Int) < (l.length : Int) := by omega
    go_enter Try.func41, Try.ntmps41
    go_wp2
    exact bodyPost_ret (v := .slice none 0 0) (by simp [results, Try.results41, go_sem]) rfl ⟨none, 0, rfl, World.ownsRow_nil _ _ _ _, Below.refl _ _⟩
end Go.Proofs.Ytneolndbhklboaa
