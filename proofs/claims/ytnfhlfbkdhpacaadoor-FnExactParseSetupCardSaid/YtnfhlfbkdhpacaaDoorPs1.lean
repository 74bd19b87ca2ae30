/- spec.ParseSetup. (made by tools/mkps.py) -/
import Derived.Test.YtnfhlfbkdhpacaaDoorPlainPs
import Derived.Test.YtnfhlfbkdhpacaaDoorParts
import Derived.Test.YtnfhlfbkdhpacaaDoorRead
import Derived.Test.YtnfhlfbkdhpacaaDoorIntS
import Derived.Test.YtnfhlfbkdhpacaaDoorHead2
import Derived.Laws.Rows
import Derived.Deep.MidRow
import Derived.Deep.RegionHeld3
import Derived.StillTailTactics
import Derived.BigRegion
import Derived.Lib.AppendZeros
import Derived.Deep.AppendLies
import Derived.Laws.OwnMore
import Derived.OwnWalk
import Derived.Laws.AppendOwn
namespace Go.Proofs.YtnfhlfbkdhpacaaDoor
open Go.RowKit

theorem results_cell_tmp {P : Program} {fn : Func} {p r : Tmp} {ty : TypeId} (h : fn.results = #[.cell p ty, .tmp r]) (tmps : Array Value) (w : World) (g : Nat) (t : TypeId) (cs : Array Value) (fr : Nat × Nat) (d : TypeDesc) (v : Value)
    (hp : tmps.getD p undef = .pointer (some ⟨g, 0, none⟩)) (hr : tmps.getD r undef = v) (hg : w.heap[g]? = some (.cells cs t fr))
    (hu : P.underlying ty = some d) (hd : (match d with | .struct _ | .array _ _ => true | _ => false) = true) (hi : (P.info? ty).map (·.size) = some cs.size) :
    (results fn tmps).run P w = .ok (.tuple #[.agg cs, v]) w := by
  have hp' : tmps[p]?.getD undef = .pointer (some ⟨g, 0, none⟩) := by simpa using hp
  have hr' : tmps[r]?.getD undef = v := by simpa using hr
  simp [results, h, hp', hr', asAddr, run_loadVar_row w g t ty cs fr d hg hu hd hi]
theorem blk_full {W : World} {g : Nat} {T : TypeId} {CS : Array Value} (vs : List Value) (h : Blk W g T CS) (hs : CS.size = vs.length) : Blk (W.setCells g 0 vs) g T vs.toArray := by
  have hl : CS.toList.length = CS.size := Array.length_toList
  have z := blk_setL (w := W) (CS := CS.toList) vs 0 h (by omega)
  have e1 : List.drop (0 + vs.length) CS.toList = [] := List.drop_of_length_le (by omega)
  rw [e1] at z
  simpa using z
theorem ps_info : ∃ i, Tryd.prog.info? 3 = some i ∧ i.zero = some (.int .i64 0) ∧ i.size = 1 ∧ i.bytes = 8 := by
  obtain ⟨i, hi, hzz⟩ := Option.map_eq_some_iff.1 infoI64
  simp only [Prod.mk.injEq] at hzz
  exact ⟨i, hi, hzz.1, hzz.2.1, hzz.2.2⟩
theorem ps_news {W : World} {x : Int} {B : Nat} (hB : W.heap.size = B) : ∀ (j : Nat) (u : Value), ([Value.int .i64 x])[j]? = some u → (W.alloc (.cells #[.int .i64 x] 3)).cell? ((⟨B, 0, none⟩ : Addr).add j) = some u := by
  subst hB
  intro j u hj
  have hadd : (⟨W.heap.size, 0, none⟩ : Addr).add j = ⟨W.heap.size, j, none⟩ := by unfold Addr.add; split <;> simp_all
  rw [hadd, (Blk.new W 3 #[.int .i64 x]).cell j]
  simpa using hj
/-- One number more behind a row of the call's own. -/
theorem ps_append {w : World} {lo n c : Nat} {a1 : Option Addr} {xs : List Int} (x : Int) (hn : n = xs.length) (ho : w.ownsRow lo 3 1 (.slice a1 n c) n (xs.map (Value.int .i64))) (hlo : lo ≤ w.heap.size) (hb : n ≤ 2097152) (ty : TypeId) :
    ∃ a3 c3 w', (Builtin.append_ #[33, 33] ty #[.slice a1 n c, .slice (some ⟨w.heap.size, 0, none⟩) 1 1]).run Tryd.prog (w.alloc (.cells #[.int .i64 x] 3)) = .ok (.slice a3 (n + 1) c3) w' ∧
      w'.ownsRow lo 3 1 (.slice a3 (n + 1) c3) (n + 1) ((xs ++ [x]).map (Value.int .i64)) ∧ Below lo w w' := by
  obtain ⟨i0, hi0, hz0, hz1, hz2⟩ := ps_info
  obtain ⟨v', w', hr, h2, h3, _⟩ := run_append_own (P := Tryd.prog) (w.alloc (.cells #[.int .i64 x] 3)) lo 33 ty 3 i0 (.int .i64 0) 1 8 Tryd.underlying33 hi0 hz0 hz1 hz2 rfl (by decide) _ n _ (ho.alloc _) ⟨w.heap.size, 0, none⟩ 1 1 [.int .i64 x] rfl (ps_news rfl) (by simp [Value.oneCell']) (by unfold maxLen; omega) (by omega) (by simp; omega)
  obtain ⟨a3, c3, rfl⟩ := owns_shape h2
  refine ⟨a3, c3, w', hr, ?_, ((Below.refl lo w).alloc hlo _).trans (below_own (ho.alloc _) h3 (by simp; omega))⟩
  rw [List.map_append]
  exact h2
/-- What ParseSetup answers. -/
def PsPost (l : List UInt8) (w : World) (e : Ending) (w' : World) : Prop :=
  ((∃ vs : List Int, vs.length = 9 ∧ okL vs = true ∧ l = psT vs ∧ e = .returned (.tuple #[.agg #[.int .i64 (el vs 0), .int .i64 (el vs 1), .int .i64 (el vs 2), .int .i64 (el vs 3), .int .i64 (el vs 4), .int .i64 (el vs 5), .int .i64 (el vs 6), .int .i64 (el vs 7), .int .i64 (el vs 8)], .bool true])) ∨ (NoPs l ∧ e = .returned (.tuple #[.agg #[.int .i64 0, .int .i64 0, .int .i64 0, .int .i64 0, .int .i64 0, .int .i64 0, .int .i64 0, .int .i64 0, .int .i64 0], .bool false]))) ∧ Below w.heap.size w w'
set_option maxHeartbeats 4000000 in
set_option maxRecDepth 100000 in
theorem of_x (xs : List Int) (g c : Nat) (w : World) (hcell : ∀ i, i < 9 → w.cell? ⟨g, i, none⟩ = some (.int .i64 (el xs i))) (hg : g < w.heap.size) :
    Calls Tryd.prog 45 #[.slice (some ⟨g, 0, none⟩) 9 c] w fun e w' => e = .returned (.agg #[.int .i64 (el xs 0), .int .i64 (el xs 1), .int .i64 (el xs 2), .int .i64 (el xs 3), .int .i64 (el xs 4), .int .i64 (el xs 5), .int .i64 (el xs 6), .int .i64 (el xs 7), .int .i64 (el xs 8)]) ∧ Below w.heap.size w w' := by
  have k0 := Blk.new w 25 #[.int .i64 0, .int .i64 0, .int .i64 0, .int .i64 0, .int .i64 0, .int .i64 0, .int .i64 0, .int .i64 0, .int .i64 0]
  have K0 := Lib.hid k0.drew
  have bb := ((Below.refl w.heap.size w).alloc (Nat.le_refl _) (.cells #[.int .i64 0, .int .i64 0, .int .i64 0, .int .i64 0, .int .i64 0, .int .i64 0, .int .i64 0, .int .i64 0, .int .i64 0] 25)).drew
  have q0 := hcell 0 (by omega)
  have q1 := hcell 1 (by omega)
  have q2 := hcell 2 (by omega)
  have q3 := hcell 3 (by omega)
  have q4 := hcell 4 (by omega)
  have q5 := hcell 5 (by omega)
  have q6 := hcell 6 (by omega)
  have q7 := hcell 7 (by omega)
  have q8 := hcell 8 (by omega)
  have B0 := Lib.hid bb
  have INF : Hid ((Tryd.prog.info? 25).map (·.size) = some 9) := Lib.hid (by kernel_rfl)
  clear bb hcell k0
  generalize el xs 0 = x0 at *
  generalize el xs 1 = x1 at *
  generalize el xs 2 = x2 at *
  generalize el xs 3 = x3 at *
  generalize el xs 4 = x4 at *
  generalize el xs 5 = x5 at *
  generalize el xs 6 = x6 at *
  generalize el xs 7 = x7 at *
  generalize el xs 8 = x8 at *
  have HC : Hid (∀ W : World, Below w.heap.size w W → (fun W => W.cell? ⟨g, 0, none⟩ = some (.int .i64 x0) ∧ W.cell? ⟨g, 1, none⟩ = some (.int .i64 x1) ∧ W.cell? ⟨g, 2, none⟩ = some (.int .i64 x2) ∧ W.cell? ⟨g, 3, none⟩ = some (.int .i64 x3) ∧ W.cell? ⟨g, 4, none⟩ = some (.int .i64 x4) ∧ W.cell? ⟨g, 5, none⟩ = some (.int .i64 x5) ∧ W.cell? ⟨g, 6, none⟩ = some (.int .i64 x6) ∧ W.cell? ⟨g, 7, none⟩ = some (.int .i64 x7) ∧ W.cell? ⟨g, 8, none⟩ = some (.int .i64 x8)) W) := Lib.hid (fun W hb => ⟨(hb.cell (p := ⟨g, 0, none⟩) hg).trans q0, (hb.cell (p := ⟨g, 1, none⟩) hg).trans q1, (hb.cell (p := ⟨g, 2, none⟩) hg).trans q2, (hb.cell (p := ⟨g, 3, none⟩) hg).trans q3, (hb.cell (p := ⟨g, 4, none⟩) hg).trans q4, (hb.cell (p := ⟨g, 5, none⟩) hg).trans q5, (hb.cell (p := ⟨g, 6, none⟩) hg).trans q6, (hb.cell (p := ⟨g, 7, none⟩) hg).trans q7, (hb.cell (p := ⟨g, 8, none⟩) hg).trans q8⟩)
  have TH : Hid ((w.alloc (.cells #[.int .i64 0, .int .i64 0, .int .i64 0, .int .i64 0, .int .i64 0, .int .i64 0, .int .i64 0, .int .i64 0, .int .i64 0] 25)).drew.there w.heap.size 0 9) := Lib.hid (blk_there K0.out (by decide))
  clear q0 q1 q2 q3 q4 q5 q6 q7 q8
  go_enter Tryd.func45, Tryd.ntmps45
  go_wp2_with fail
  refine wp_region_held_drew (S := fun W => W.cell? ⟨g, 0, none⟩ = some (.int .i64 x0) ∧ W.cell? ⟨g, 1, none⟩ = some (.int .i64 x1) ∧ W.cell? ⟨g, 2, none⟩ = some (.int .i64 x2) ∧ W.cell? ⟨g, 3, none⟩ = some (.int .i64 x3) ∧ W.cell? ⟨g, 4, none⟩ = some (.int .i64 x4) ∧ W.cell? ⟨g, 5, none⟩ = some (.int .i64 x5) ∧ W.cell? ⟨g, 6, none⟩ = some (.int .i64 x6) ∧ W.cell? ⟨g, 7, none⟩ = some (.int .i64 x7) ∧ W.cell? ⟨g, 8, none⟩ = some (.int .i64 x8)) (by kernel_rfl) (HC.out _ B0.out) (fun hHeld => ?_)
  refine' wpAnyH_take (i := 0) (oi := ⟨some 3, _, _, _, _, _⟩) (v := .slice (some ⟨g, 0, none⟩) 9 c) rfl (by kernel_rfl) (by kernel_rfl) (by kernel_rfl) (fun _ _ _ h => h) (.inl ⟨by kernel_rfl, fun W hW => by obtain ⟨p0, p1, p2, p3, p4, p5, p6, p7, p8⟩ := hW; go_simp⟩) hHeld ?_
  simp only [Act.put, List.setIfInBounds_toArray, List.set_cons_zero, List.set_cons_succ]
  refine' wpAnyH_take (i := 1) (oi := ⟨some 4, _, _, _, _, _⟩) (v := .pointer (some ⟨g, 0, none⟩)) rfl (by kernel_rfl) (by kernel_rfl) (by kernel_rfl) (fun _ _ _ h => h) (.inl ⟨by kernel_rfl, fun W hW => by obtain ⟨p0, p1, p2, p3, p4, p5, p6, p7, p8⟩ := hW; go_simp⟩) hHeld ?_
  simp only [Act.put, List.setIfInBounds_toArray, List.set_cons_zero, List.set_cons_succ]
  refine' wpAnyH_take (i := 2) (oi := ⟨some 5, _, _, _, _, _⟩) (v := .int .i64 x0) rfl (by kernel_rfl) (by kernel_rfl) (by kernel_rfl) (fun _ _ _ h => h) (.inl ⟨by kernel_rfl, fun W hW => by obtain ⟨p0, p1, p2, p3, p4, p5, p6, p7, p8⟩ := hW; go_simp⟩) hHeld ?_
  simp only [Act.put, List.setIfInBounds_toArray, List.set_cons_zero, List.set_cons_succ]
  refine' wpAnyH_take (i := 3) (oi := ⟨some 6, _, _, _, _, _⟩) (v := .slice (some ⟨g, 0, none⟩) 9 c) rfl (by kernel_rfl) (by kernel_rfl) (by kernel_rfl) (fun _ _ _ h => h) (.inl ⟨by kernel_rfl, fun W hW => by obtain ⟨p0, p1, p2, p3, p4, p5, p6, p7, p8⟩ := hW; go_simp⟩) hHeld ?_
  simp only [Act.put, List.setIfInBounds_toArray, List.set_cons_zero, List.set_cons_succ]
  refine' wpAnyH_take (i := 4) (oi := ⟨some 7, _, _, _, _, _⟩) (v := .pointer (some ⟨g, 1, none⟩)) rfl (by kernel_rfl) (by kernel_rfl) (by kernel_rfl) (fun _ _ _ h => h) (.inl ⟨by kernel_rfl, fun W hW => by obtain ⟨p0, p1, p2, p3, p4, p5, p6, p7, p8⟩ := hW; go_simp⟩) hHeld ?_
  simp only [Act.put, List.setIfInBounds_toArray, List.set_cons_zero, List.set_cons_succ]
  refine' wpAnyH_take (i := 5) (oi := ⟨some 8, _, _, _, _, _⟩) (v := .int .i64 x1) rfl (by kernel_rfl) (by kernel_rfl) (by kernel_rfl) (fun _ _ _ h => h) (.inl ⟨by kernel_rfl, fun W hW => by obtain ⟨p0, p1, p2, p3, p4, p5, p6, p7, p8⟩ := hW; go_simp⟩) hHeld ?_
  simp only [Act.put, List.setIfInBounds_toArray, List.set_cons_zero, List.set_cons_succ]
  refine' wpAnyH_take (i := 6) (oi := ⟨some 9, _, _, _, _, _⟩) (v := .slice (some ⟨g, 0, none⟩) 9 c) rfl (by kernel_rfl) (by kernel_rfl) (by kernel_rfl) (fun _ _ _ h => h) (.inl ⟨by kernel_rfl, fun W hW => by obtain ⟨p0, p1, p2, p3, p4, p5, p6, p7, p8⟩ := hW; go_simp⟩) hHeld ?_
  simp only [Act.put, List.setIfInBounds_toArray, List.set_cons_zero, List.set_cons_succ]
  refine' wpAnyH_take (i := 7) (oi := ⟨some 10, _, _, _, _, _⟩) (v := .pointer (some ⟨g, 2, none⟩)) rfl (by kernel_rfl) (by kernel_rfl) (by kernel_rfl) (fun _ _ _ h => h) (.inl ⟨by kernel_rfl, fun W hW => by obtain ⟨p0, p1, p2, p3, p4, p5, p6, p7, p8⟩ := hW; go_simp⟩) hHeld ?_
  simp only [Act.put, List.setIfInBounds_toArray, List.set_cons_zero, List.set_cons_succ]
  refine' wpAnyH_take (i := 8) (oi := ⟨some 11, _, _, _, _, _⟩) (v := .int .i64 x2) rfl (by kernel_rfl) (by kernel_rfl) (by kernel_rfl) (fun _ _ _ h => h) (.inl ⟨by kernel_rfl, fun W hW => by obtain ⟨p0, p1, p2, p3, p4, p5, p6, p7, p8⟩ := hW; go_simp⟩) hHeld ?_
  simp only [Act.put, List.setIfInBounds_toArray, List.set_cons_zero, List.set_cons_succ]
  refine' wpAnyH_take (i := 9) (oi := ⟨some 12, _, _, _, _, _⟩) (v := .slice (some ⟨g, 0, none⟩) 9 c) rfl (by kernel_rfl) (by kernel_rfl) (by kernel_rfl) (fun _ _ _ h => h) (.inl ⟨by kernel_rfl, fun W hW => by obtain ⟨p0, p1, p2, p3, p4, p5, p6, p7, p8⟩ := hW; go_simp⟩) hHeld ?_
  simp only [Act.put, List.setIfInBounds_toArray, List.set_cons_zero, List.set_cons_succ]
  refine' wpAnyH_take (i := 10) (oi := ⟨some 13, _, _, _, _, _⟩) (v := .pointer (some ⟨g, 3, none⟩)) rfl (by kernel_rfl) (by kernel_rfl) (by kernel_rfl) (fun _ _ _ h => h) (.inl ⟨by kernel_rfl, fun W hW => by obtain ⟨p0, p1, p2, p3, p4, p5, p6, p7, p8⟩ := hW; go_simp⟩) hHeld ?_
  simp only [Act.put, List.setIfInBounds_toArray, List.set_cons_zero, List.set_cons_succ]
  refine' wpAnyH_take (i := 11) (oi := ⟨some 14, _, _, _, _, _⟩) (v := .int .i64 x3) rfl (by kernel_rfl) (by kernel_rfl) (by kernel_rfl) (fun _ _ _ h => h) (.inl ⟨by kernel_rfl, fun W hW => by obtain ⟨p0, p1, p2, p3, p4, p5, p6, p7, p8⟩ := hW; go_simp⟩) hHeld ?_
  simp only [Act.put, List.setIfInBounds_toArray, List.set_cons_zero, List.set_cons_succ]
  refine' wpAnyH_take (i := 12) (oi := ⟨some 15, _, _, _, _, _⟩) (v := .slice (some ⟨g, 0, none⟩) 9 c) rfl (by kernel_rfl) (by kernel_rfl) (by kernel_rfl) (fun _ _ _ h => h) (.inl ⟨by kernel_rfl, fun W hW => by obtain ⟨p0, p1, p2, p3, p4, p5, p6, p7, p8⟩ := hW; go_simp⟩) hHeld ?_
  simp only [Act.put, List.setIfInBounds_toArray, List.set_cons_zero, List.set_cons_succ]
  refine' wpAnyH_take (i := 13) (oi := ⟨some 16, _, _, _, _, _⟩) (v := .pointer (some ⟨g, 4, none⟩)) rfl (by kernel_rfl) (by kernel_rfl) (by kernel_rfl) (fun _ _ _ h => h) (.inl ⟨by kernel_rfl, fun W hW => by obtain ⟨p0, p1, p2, p3, p4, p5, p6, p7, p8⟩ := hW; go_simp⟩) hHeld ?_
  simp only [Act.put, List.setIfInBounds_toArray, List.set_cons_zero, List.set_cons_succ]
  refine' wpAnyH_take (i := 14) (oi := ⟨some 17, _, _, _, _, _⟩) (v := .int .i64 x4) rfl (by kernel_rfl) (by kernel_rfl) (by kernel_rfl) (fun _ _ _ h => h) (.inl ⟨by kernel_rfl, fun W hW => by obtain ⟨p0, p1, p2, p3, p4, p5, p6, p7, p8⟩ := hW; go_simp⟩) hHeld ?_
  simp only [Act.put, List.setIfInBounds_toArray, List.set_cons_zero, List.set_cons_succ]
  refine' wpAnyH_take (i := 15) (oi := ⟨some 18, _, _, _, _, _⟩) (v := .slice (some ⟨g, 0, none⟩) 9 c) rfl (by kernel_rfl) (by kernel_rfl) (by kernel_rfl) (fun _ _ _ h => h) (.inl ⟨by kernel_rfl, fun W hW => by obtain ⟨p0, p1, p2, p3, p4, p5, p6, p7, p8⟩ := hW; go_simp⟩) hHeld ?_
  simp only [Act.put, List.setIfInBounds_toArray, List.set_cons_zero, List.set_cons_succ]
  refine' wpAnyH_take (i := 16) (oi := ⟨some 19, _, _, _, _, _⟩) (v := .pointer (some ⟨g, 5, none⟩)) rfl (by kernel_rfl) (by kernel_rfl) (by kernel_rfl) (fun _ _ _ h => h) (.inl ⟨by kernel_rfl, fun W hW => by obtain ⟨p0, p1, p2, p3, p4, p5, p6, p7, p8⟩ := hW; go_simp⟩) hHeld ?_
  simp only [Act.put, List.setIfInBounds_toArray, List.set_cons_zero, List.set_cons_succ]
  refine' wpAnyH_take (i := 17) (oi := ⟨some 20, _, _, _, _, _⟩) (v := .int .i64 x5) rfl (by kernel_rfl) (by kernel_rfl) (by kernel_rfl) (fun _ _ _ h => h) (.inl ⟨by kernel_rfl, fun W hW => by obtain ⟨p0, p1, p2, p3, p4, p5, p6, p7, p8⟩ := hW; go_simp⟩) hHeld ?_
  simp only [Act.put, List.setIfInBounds_toArray, List.set_cons_zero, List.set_cons_succ]
  refine' wpAnyH_take (i := 18) (oi := ⟨some 21, _, _, _, _, _⟩) (v := .slice (some ⟨g, 0, none⟩) 9 c) rfl (by kernel_rfl) (by kernel_rfl) (by kernel_rfl) (fun _ _ _ h => h) (.inl ⟨by kernel_rfl, fun W hW => by obtain ⟨p0, p1, p2, p3, p4, p5, p6, p7, p8⟩ := hW; go_simp⟩) hHeld ?_
  simp only [Act.put, List.setIfInBounds_toArray, List.set_cons_zero, List.set_cons_succ]
  refine' wpAnyH_take (i := 19) (oi := ⟨some 22, _, _, _, _, _⟩) (v := .pointer (some ⟨g, 6, none⟩)) rfl (by kernel_rfl) (by kernel_rfl) (by kernel_rfl) (fun _ _ _ h => h) (.inl ⟨by kernel_rfl, fun W hW => by obtain ⟨p0, p1, p2, p3, p4, p5, p6, p7, p8⟩ := hW; go_simp⟩) hHeld ?_
  simp only [Act.put, List.setIfInBounds_toArray, List.set_cons_zero, List.set_cons_succ]
  refine' wpAnyH_take (i := 20) (oi := ⟨some 23, _, _, _, _, _⟩) (v := .int .i64 x6) rfl (by kernel_rfl) (by kernel_rfl) (by kernel_rfl) (fun _ _ _ h => h) (.inl ⟨by kernel_rfl, fun W hW => by obtain ⟨p0, p1, p2, p3, p4, p5, p6, p7, p8⟩ := hW; go_simp⟩) hHeld ?_
  simp only [Act.put, List.setIfInBounds_toArray, List.set_cons_zero, List.set_cons_succ]
  refine' wpAnyH_take (i := 21) (oi := ⟨some 24, _, _, _, _, _⟩) (v := .slice (some ⟨g, 0, none⟩) 9 c) rfl (by kernel_rfl) (by kernel_rfl) (by kernel_rfl) (fun _ _ _ h => h) (.inl ⟨by kernel_rfl, fun W hW => by obtain ⟨p0, p1, p2, p3, p4, p5, p6, p7, p8⟩ := hW; go_simp⟩) hHeld ?_
  simp only [Act.put, List.setIfInBounds_toArray, List.set_cons_zero, List.set_cons_succ]
  refine' wpAnyH_take (i := 22) (oi := ⟨some 25, _, _, _, _, _⟩) (v := .pointer (some ⟨g, 7, none⟩)) rfl (by kernel_rfl) (by kernel_rfl) (by kernel_rfl) (fun _ _ _ h => h) (.inl ⟨by kernel_rfl, fun W hW => by obtain ⟨p0, p1, p2, p3, p4, p5, p6, p7, p8⟩ := hW; go_simp⟩) hHeld ?_
  simp only [Act.put, List.setIfInBounds_toArray, List.set_cons_zero, List.set_cons_succ]
  refine' wpAnyH_take (i := 23) (oi := ⟨some 26, _, _, _, _, _⟩) (v := .int .i64 x7) rfl (by kernel_rfl) (by kernel_rfl) (by kernel_rfl) (fun _ _ _ h => h) (.inl ⟨by kernel_rfl, fun W hW => by obtain ⟨p0, p1, p2, p3, p4, p5, p6, p7, p8⟩ := hW; go_simp⟩) hHeld ?_
  simp only [Act.put, List.setIfInBounds_toArray, List.set_cons_zero, List.set_cons_succ]
  refine' wpAnyH_take (i := 24) (oi := ⟨some 27, _, _, _, _, _⟩) (v := .slice (some ⟨g, 0, none⟩) 9 c) rfl (by kernel_rfl) (by kernel_rfl) (by kernel_rfl) (fun _ _ _ h => h) (.inl ⟨by kernel_rfl, fun W hW => by obtain ⟨p0, p1, p2, p3, p4, p5, p6, p7, p8⟩ := hW; go_simp⟩) hHeld ?_
  simp only [Act.put, List.setIfInBounds_toArray, List.set_cons_zero, List.set_cons_succ]
  refine' wpAnyH_take (i := 25) (oi := ⟨some 28, _, _, _, _, _⟩) (v := .pointer (some ⟨g, 8, none⟩)) rfl (by kernel_rfl) (by kernel_rfl) (by kernel_rfl) (fun _ _ _ h => h) (.inl ⟨by kernel_rfl, fun W hW => by obtain ⟨p0, p1, p2, p3, p4, p5, p6, p7, p8⟩ := hW; go_simp⟩) hHeld ?_
  simp only [Act.put, List.setIfInBounds_toArray, List.set_cons_zero, List.set_cons_succ]
  refine' wpAnyH_take (i := 26) (oi := ⟨some 29, _, _, _, _, _⟩) (v := .int .i64 x8) rfl (by kernel_rfl) (by kernel_rfl) (by kernel_rfl) (fun _ _ _ h => h) (.inl ⟨by kernel_rfl, fun W hW => by obtain ⟨p0, p1, p2, p3, p4, p5, p6, p7, p8⟩ := hW; go_simp⟩) hHeld ?_
  simp only [Act.put, List.setIfInBounds_toArray, List.set_cons_zero, List.set_cons_succ]
  refine' wpAnyH_take (i := 27) (oi := ⟨some 30, _, _, _, _, _⟩) (v := .agg #[.int .i64 x0, .int .i64 x1, .int .i64 x2, .int .i64 x3, .int .i64 x4, .int .i64 x5, .int .i64 x6, .int .i64 x7, .int .i64 x8]) rfl (by kernel_rfl) (by kernel_rfl) (by kernel_rfl) (fun _ _ _ h => h) (.inl ⟨by kernel_rfl, fun W hW => by obtain ⟨p0, p1, p2, p3, p4, p5, p6, p7, p8⟩ := hW; go_simp⟩) hHeld ?_
  simp only [Act.put, List.setIfInBounds_toArray, List.set_cons_zero, List.set_cons_succ]
  have B1 := Lib.hid (below_setCells ([.int .i64 x0, .int .i64 x1, .int .i64 x2, .int .i64 x3, .int .i64 x4, .int .i64 x5, .int .i64 x6, .int .i64 x7, .int .i64 x8] : List Value) (Nat.le_refl _) 0 B0.out)
  have K1 := Lib.hid (blk_full ([.int .i64 x0, .int .i64 x1, .int .i64 x2, .int .i64 x3, .int .i64 x4, .int .i64 x5, .int .i64 x6, .int .i64 x7, .int .i64 x8] : List Value) K0.out rfl)
  refine wpAnyH_ready (rs := [28]) (by kernel_rfl) (by simp) ?_
  refine AllReadyH.cons (o := ⟨none, _, _, _, _, _⟩) rfl (fun KQ hK => ?_) AllReadyH.nil
  rw [if_pos (by rfl)]
  refine wp_store_mid 25 _ _ rfl w.heap.size 0 #[.int .i64 x0, .int .i64 x1, .int .i64 x2, .int .i64 x3, .int .i64 x4, .int .i64 x5, .int .i64 x6, .int .i64 x7, .int .i64 x8] rfl rfl TH.out INF.out (by simp [Value.oneCell']) ?_
  refine (Go.Shut.out hK) _ _ (HC.out _ B1.out) (fun hHeld => ?_)
  clear hK KQ
  try simp only [Act.put]
  refine wpAnyH_done (by kernel_rfl) ?_ _
  clear hHeld
  go_wp2
  exact bodyPost_ret (results_cell_row Tryd.results45 _ _ w.heap.size 25 #[.int .i64 x0, .int .i64 x1, .int .i64 x2, .int .i64 x3, .int .i64 x4, .int .i64 x5, .int .i64 x6, .int .i64 x7, .int .i64 x8] (0, 0) _ rfl K1.out Tryd.underlying25 rfl INF.out) rfl ⟨rfl, B1.out⟩

theorem part_len {l : List UInt8} {ps : List (List UInt8)} (h : cutAll 32 l = ps) {k : Nat} (hk : k < ps.length) : (ps[k]'hk).length ≤ l.length := by
  have h1 := (List.sublist_flatten_of_mem (List.getElem_mem hk)).length_le
  have h2 := cutAll_flat 32 l
  rw [h] at h2
  omega
set_option maxHeartbeats 8000000 in
set_option maxRecDepth 100000 in
theorem specPs_any (l : List UInt8) (_ : l.length ≤ 1048576) (w : World) : Calls Tryd.prog 16 #[.string (str l)] w (PsPost l w) := by
  have INF : Hid ((Tryd.prog.info? 25).map (·.size) = some 9) := Lib.hid (by kernel_rfl)
  have k0 := Blk.new w 25 #[.int .i64 0, .int .i64 0, .int .i64 0, .int .i64 0, .int .i64 0, .int .i64 0, .int .i64 0, .int .i64 0, .int .i64 0]
  have b0 := (Below.refl w.heap.size w).alloc (Nat.le_refl _) (.cells #[.int .i64 0, .int .i64 0, .int .i64 0, .int .i64 0, .int .i64 0, .int .i64 0, .int .i64 0, .int .i64 0, .int .i64 0] 25)
  have K0 := Lib.hid k0
  have B0 := Lib.hid b0
  clear k0 b0
  by_cases h60 : 60 < l.length
  · have hb60 : decide ((60 : Int) < (l.length : Int)) = true := by simp; omega
    have HX := Lib.hid (no_long h60)
    clear h60
    go_enter Tryd.func16, Tryd.ntmps16
    go_wp2
    exact bodyPost_ret (v := .tuple #[.agg #[.int .i64 0, .int .i64 0, .int .i64 0, .int .i64 0, .int .i64 0, .int .i64 0, .int .i64 0, .int .i64 0, .int .i64 0], .bool false]) (by simp [results, Tryd.results16, go_sem]) rfl ⟨.inr ⟨HX.out, rfl⟩, B0.out⟩
  have hb60 : decide ((60 : Int) < (l.length : Int)) = false := by simp; omega
  have hl : l.length ≤ 1048575 := by omega
  go_enter Tryd.func16, Tryd.ntmps16
  go_wp2_with fail
  refine (parts_any l 32 (by omega) _).mono ?_
  rintro e w1 ⟨v, rfl, hown, hb1⟩
  clear hb60 h60
  obtain ⟨ps, hps⟩ : ∃ ps, ps = cutAll 32 l := ⟨_, rfl⟩
  rw [← hps] at hown
  obtain ⟨a0, c0, rfl⟩ := owns_shape hown
  have HP := Lib.hid hps.symm
  have K1 := Lib.hid (K0.out.below hb1)
  have B1 := Lib.hid (B0.out.trans (hb1.mono B0.out.size))
  have hcp := ownR_cap hown
  have HO := Lib.hid hown
  clear hps hown
  have HL : Hid (∀ k (hk : k < ps.length), (ps[k]'hk).length ≤ l.length) := Lib.hid (fun k hk => part_len HP.out hk)
  by_cases h9 : ps.length = 9
  case neg =>
    have hb9 : ((ps.length : Int) != 9) = true := by simp; omega
    have TH : Hid (_) := Lib.hid (blk_there K1.out (by decide) : World.there _ w.heap.size 0 9)
    have KZ := Lib.hid (blk_full ([.int .i64 0, .int .i64 0, .int .i64 0, .int .i64 0, .int .i64 0, .int .i64 0, .int .i64 0, .int .i64 0, .int .i64 0] : List Value) K1.out rfl)
    have BZ := Lib.hid (below_setCells ([.int .i64 0, .int .i64 0, .int .i64 0, .int .i64 0, .int .i64 0, .int .i64 0, .int .i64 0, .int .i64 0, .int .i64 0] : List Value) (Nat.le_refl _) 0 B1.out)
    have NX := Lib.hid (no_count (l := l) (by rw [HP.out]; exact h9))
    go_wp2_with (refine wpList_store_to rfl 25 _ _ rfl w.heap.size 0 #[.int .i64 0, .int .i64 0, .int .i64 0, .int .i64 0, .int .i64 0, .int .i64 0, .int .i64 0, .int .i64 0, .int .i64 0] rfl rfl TH.out INF.out (by simp [Value.oneCell']) rfl ?_)
    exact bodyPost_ret (results_cell_tmp Tryd.results16 _ _ w.heap.size 25 #[.int .i64 0, .int .i64 0, .int .i64 0, .int .i64 0, .int .i64 0, .int .i64 0, .int .i64 0, .int .i64 0, .int .i64 0] (0, 0) _ (.bool false) rfl rfl KZ.out Tryd.underlying25 rfl INF.out) rfl ⟨.inr ⟨NX.out, rfl⟩, BZ.out⟩
  have hb9 : ((ps.length : Int) != 9) = false := by simp; omega
  have H9 := Lib.hid h9
  obtain ⟨g, cap, hv, hgl, _⟩ := HO.out.form (by omega)
  injection hv with ha0 _ _
  subst ha0
  have HC : Hid (∀ k (hk : k < ps.length) (W : World), Below w1.heap.size w1 W → W.cell? ⟨g, k, none⟩ = some (.string (str (ps[k]'hk)))) := Lib.hid (fun k hk W hb => by
    have hg : g < w1.heap.size := by omega
    refine (hb.cell (p := ⟨g, k, none⟩) hg).trans ?_
    rw [HO.out.cellAt k (by simpa [strs] using hk)]
    simp [strs, hk])
  clear HO h9
  go_wp2
  clear hb9
  go_loopw [5, 6] (fun v i wr => ∃ (k : Nat) (xs : List Int) (a : Option Addr) (c : Nat), k ≤ 9 ∧ i = .int .i64 k ∧ v = .slice a k c ∧ xs.length = k ∧ xs.map Lib.itoa = ps.take k ∧ (∀ x ∈ xs, -10000000000 < x ∧ x < 10000000000) ∧ wr.ownsRow w1.heap.size 3 1 (.slice a k c) k (xs.map (Value.int .i64)) ∧ Below w1.heap.size w1 wr) (fun _ i _ => 9 - (intOf i).toNat)
  case atStart => exact ⟨0, [], _, _, by omega, rfl, rfl, rfl, by simp, by simp, World.ownsRow_lit w1 #[] 0 (Nat.le_refl _) (Nat.zero_le _) rfl, (Below.refl _ _).alloc (Nat.le_refl _) _⟩
  case round =>
    obtain ⟨k, xs, a, c, hk9, rfl, rfl, hxk, hxm, hxr, hown, hb⟩ := hrel
    have HXK := Lib.hid hxk
    have HXM := Lib.hid hxm
    have HXR := Lib.hid hxr
    have HOW := Lib.hid hown
    have B2 := Lib.hid hb
    clear hxk hxm hxr
    by_cases hlt : k < 9
    · have hkp : k < ps.length := by have := H9.out; omega
      have p0 := HC.out k hkp wr hb
      have hwl := HL.out k hkp
      have HNW : Hid (∀ v, ReadIs (ps[k]'hkp) v false → NoPs l) := Lib.hid (fun v h => no_word (l := l) (k := k) (v := v) (by rw [HP.out]; exact hkp) (by
        have e1 : (cutAll 32 l)[k]? = ps[k]? := by rw [HP.out]
        rw [List.getElem?_eq_getElem (by rw [HP.out]; exact hkp), List.getElem?_eq_getElem hkp] at e1
        rw [Option.some.inj e1]
        exact h))
      have HTK : Hid (ps.take (k + 1) = ps.take k ++ [ps[k]'hkp]) := Lib.hid (List.take_succ_eq_append_getElem hkp)
      have hlt' : (k : Int) < (ps.length : Int) := by omega
      generalize ps[k]'hkp = wk at p0 hwl HNW HTK
      clear hown hb hkp
      go_wp2_with fail
      refine (read_any wk (by omega) _).mono ?_
      rintro e w3 ⟨x, ok, rfl, hread, hb3⟩
      have hr1 := hread.1
      have hr2 := hread.2.1
      have HRD := Lib.hid hread
      have B3 := Lib.hid (B2.out.trans (hb3.mono B2.out.size))
      have O3 := Lib.hid (owns_below HOW.out hb3)
      have K3 := Lib.hid (K1.out.below B3.out)
      have BB3 := Lib.hid (B1.out.trans (B3.out.mono B1.out.size))
      clear hb3 hread p0
      cases ok with
      | false =>
        have TH : Hid (_) := Lib.hid (blk_there K3.out (by decide) : World.there _ w.heap.size 0 9)
        have KZ := Lib.hid (blk_full ([.int .i64 0, .int .i64 0, .int .i64 0, .int .i64 0, .int .i64 0, .int .i64 0, .int .i64 0, .int .i64 0, .int .i64 0] : List Value) K3.out rfl)
        have BZ := Lib.hid (below_setCells ([.int .i64 0, .int .i64 0, .int .i64 0, .int .i64 0, .int .i64 0, .int .i64 0, .int .i64 0, .int .i64 0, .int .i64 0] : List Value) (Nat.le_refl _) 0 BB3.out)
        have NX := Lib.hid (HNW.out x HRD.out)
        go_wp2_with (refine wpList_store_to rfl 25 _ _ rfl w.heap.size 0 #[.int .i64 0, .int .i64 0, .int .i64 0, .int .i64 0, .int .i64 0, .int .i64 0, .int .i64 0, .int .i64 0, .int .i64 0] rfl rfl TH.out INF.out (by simp [Value.oneCell']) rfl ?_)
        exact bodyPost_ret (results_cell_tmp Tryd.results16 _ _ w.heap.size 25 #[.int .i64 0, .int .i64 0, .int .i64 0, .int .i64 0, .int .i64 0, .int .i64 0, .int .i64 0, .int .i64 0, .int .i64 0] (0, 0) _ (.bool false) rfl rfl KZ.out Tryd.underlying25 rfl INF.out) rfl ⟨.inr ⟨NX.out, rfl⟩, BZ.out⟩
      | true =>
        obtain ⟨a4, c4, w4, hr4, ho4, hb4⟩ := ps_append (w := w3) x HXK.out.symm O3.out B3.out.size (by omega) 33
        have R4 := Lib.hid hr4
        have O4 := Lib.hid ho4
        have B4 := Lib.hid (B3.out.trans hb4)
        have XM : Hid ((xs ++ [x]).map Lib.itoa = ps.take (k + 1)) := Lib.hid (by rw [List.map_append, HXM.out, HTK.out]; simp [HRD.out.2.2.1 rfl])
        have XR : Hid (∀ z ∈ xs ++ [x], -10000000000 < z ∧ z < 10000000000) := Lib.hid (fun z hz => by
          rcases List.mem_append.1 hz with h | h
          · exact HXR.out z h
          · obtain rfl := List.mem_singleton.1 h
            exact ⟨HRD.out.1, HRD.out.2.1⟩)
        clear hr4 ho4 hb4 hr1 hr2
        go_wp2_with (at_builtin; refine Lib.wpList_append_run _ rfl _ _ _ _ rfl _ _ rfl rfl _ _ R4.out ?_)
        go_roundw
        case rel => exact ⟨k + 1, xs ++ [x], a4, c4, by omega, by go_num, rfl, by rw [List.length_append, HXK.out]; rfl, XM.out, XR.out, O4.out, B4.out⟩
        case measure => simp [intOf]; omega
    · obtain rfl : k = 9 := by omega
      have hnl : ¬ ((9 : Nat) : Int) < (ps.length : Int) := by have := H9.out; omega
      have XA : Hid (l = psT xs) := Lib.hid (ps_all (by rw [HP.out, HXM.out, List.take_of_length_le (by have := H9.out; omega)]))
      obtain ⟨g2, cap2, hv2, hg2, hgl2⟩ := HOW.out.form (by omega)
      injection hv2 with ha2 he1 he2
      clear he1 he2
      subst ha2
      have hcl : ∀ i, i < 9 → wr.cell? ⟨g2, i, none⟩ = some (.int .i64 (el xs i)) := fun i hi => by
        rw [HOW.out.cellAt i (by have := HXK.out; simp; omega)]
        have hi' : i < xs.length := by have := HXK.out; omega
        simp [el, List.getD, hi']
      have HF := Lib.hid (of_x xs g2 c wr hcl (by omega))
      have K4 := Lib.hid (K1.out.below hb)
      have B4 := Lib.hid (B1.out.trans (hb.mono B1.out.size))
      have HSO : Hid (∀ W : World, Calls Tryd.prog 10 #[.agg #[.int .i64 (el xs 0), .int .i64 (el xs 1), .int .i64 (el xs 2), .int .i64 (el xs 3), .int .i64 (el xs 4), .int .i64 (el xs 5), .int .i64 (el xs 6), .int .i64 (el xs 7), .int .i64 (el xs 8)]] W fun e w' => e = .returned (.bool (okL xs)) ∧ Below W.heap.size W w') := Lib.hid (fun W => specSetOk_x _ _ _ _ _ _ _ _ _ W)
      have HNO := Lib.hid (fun h => no_bad HXK.out HXR.out h)
      clear hown hb hcl
      have hln : (ps.length : Int) = 9 := by have := H9.out; omega
      go_wp2_with fail
      clear hln hnl
      refine HF.out.mono ?_
      rintro e w5 ⟨rfl, hb5⟩
      have K5 := Lib.hid ((K4.out.below hb5).alloc (.cells #[.int .i64 (el xs 0), .int .i64 (el xs 1), .int .i64 (el xs 2), .int .i64 (el xs 3), .int .i64 (el xs 4), .int .i64 (el xs 5), .int .i64 (el xs 6), .int .i64 (el xs 7), .int .i64 (el xs 8)] 25))
      have B5 := Lib.hid ((B4.out.trans (hb5.mono B4.out.size)).alloc (B4.out.trans (hb5.mono B4.out.size)).size (.cells #[.int .i64 (el xs 0), .int .i64 (el xs 1), .int .i64 (el xs 2), .int .i64 (el xs 3), .int .i64 (el xs 4), .int .i64 (el xs 5), .int .i64 (el xs 6), .int .i64 (el xs 7), .int .i64 (el xs 8)] 25))
      have T5 := Lib.hid (Blk.new w5 25 #[.int .i64 (el xs 0), .int .i64 (el xs 1), .int .i64 (el xs 2), .int .i64 (el xs 3), .int .i64 (el xs 4), .int .i64 (el xs 5), .int .i64 (el xs 6), .int .i64 (el xs 7), .int .i64 (el xs 8)])
      clear hb5
      go_wp2_with fail
      refine (HSO.out _).mono ?_
      rintro e w6 ⟨rfl, hb6⟩
      have K6 := Lib.hid (K5.out.below hb6)
      have T6 := Lib.hid (T5.out.below hb6)
      have B6 := Lib.hid (B5.out.trans (hb6.mono B5.out.size))
      clear hb6
      cases ho : okL xs with
      | false =>
        have HNO := Lib.hid (XA.out ▸ HNO.out ho : NoPs l)
        clear ho
        have TH : Hid (_) := Lib.hid (blk_there K6.out (by decide) : World.there _ w.heap.size 0 9)
        have KZ := Lib.hid (blk_full ([.int .i64 0, .int .i64 0, .int .i64 0, .int .i64 0, .int .i64 0, .int .i64 0, .int .i64 0, .int .i64 0, .int .i64 0] : List Value) K6.out rfl)
        have BZ := Lib.hid (below_setCells ([.int .i64 0, .int .i64 0, .int .i64 0, .int .i64 0, .int .i64 0, .int .i64 0, .int .i64 0, .int .i64 0, .int .i64 0] : List Value) (Nat.le_refl _) 0 B6.out)
        have NX := Lib.hid (HNO.out)
        go_wp2_with (refine wpList_store_to rfl 25 _ _ rfl w.heap.size 0 #[.int .i64 0, .int .i64 0, .int .i64 0, .int .i64 0, .int .i64 0, .int .i64 0, .int .i64 0, .int .i64 0, .int .i64 0] rfl rfl TH.out INF.out (by simp [Value.oneCell']) rfl ?_)
        exact bodyPost_ret (results_cell_tmp Tryd.results16 _ _ w.heap.size 25 #[.int .i64 0, .int .i64 0, .int .i64 0, .int .i64 0, .int .i64 0, .int .i64 0, .int .i64 0, .int .i64 0, .int .i64 0] (0, 0) _ (.bool false) rfl rfl KZ.out Tryd.underlying25 rfl INF.out) rfl ⟨.inr ⟨NX.out, rfl⟩, BZ.out⟩
      | true =>
        have TH : Hid (_) := Lib.hid (blk_there K6.out (by decide) : World.there _ w.heap.size 0 9)
        have KZ := Lib.hid (blk_full ([.int .i64 (el xs 0), .int .i64 (el xs 1), .int .i64 (el xs 2), .int .i64 (el xs 3), .int .i64 (el xs 4), .int .i64 (el xs 5), .int .i64 (el xs 6), .int .i64 (el xs 7), .int .i64 (el xs 8)] : List Value) K6.out rfl)
        have BZ := Lib.hid (below_setCells ([.int .i64 (el xs 0), .int .i64 (el xs 1), .int .i64 (el xs 2), .int .i64 (el xs 3), .int .i64 (el xs 4), .int .i64 (el xs 5), .int .i64 (el xs 6), .int .i64 (el xs 7), .int .i64 (el xs 8)] : List Value) (Nat.le_refl _) 0 B6.out)
        have RG := Lib.hid (range_blk T6.out)
        have HOK := Lib.hid ho
        clear ho
        go_wp2_with (first
          | (refine wpList_store_to rfl 25 _ _ rfl w.heap.size 0 #[.int .i64 (el xs 0), .int .i64 (el xs 1), .int .i64 (el xs 2), .int .i64 (el xs 3), .int .i64 (el xs 4), .int .i64 (el xs 5), .int .i64 (el xs 6), .int .i64 (el xs 7), .int .i64 (el xs 8)] rfl rfl TH.out INF.out (by simp [Value.oneCell']) rfl ?_)
          | (refine wpList_load_mid rfl 25 _ rfl w5.heap.size 0 rfl [.int .i64 (el xs 0), .int .i64 (el xs 1), .int .i64 (el xs 2), .int .i64 (el xs 3), .int .i64 (el xs 4), .int .i64 (el xs 5), .int .i64 (el xs 6), .int .i64 (el xs 7), .int .i64 (el xs 8)] _ RG.out Tryd.underlying25 rfl INF.out ?_))
        exact bodyPost_ret (results_cell_tmp Tryd.results16 _ _ w.heap.size 25 #[.int .i64 (el xs 0), .int .i64 (el xs 1), .int .i64 (el xs 2), .int .i64 (el xs 3), .int .i64 (el xs 4), .int .i64 (el xs 5), .int .i64 (el xs 6), .int .i64 (el xs 7), .int .i64 (el xs 8)] (0, 0) _ (.bool true) rfl rfl KZ.out Tryd.underlying25 rfl INF.out) rfl ⟨.inl ⟨xs, HXK.out, HOK.out, XA.out, rfl⟩, BZ.out⟩
end Go.Proofs.YtnfhlfbkdhpacaaDoor
