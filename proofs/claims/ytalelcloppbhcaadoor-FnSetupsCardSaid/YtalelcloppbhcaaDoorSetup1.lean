/- Settings: the record of nine numbers; toSetup, fieldsOf, inBounds, SetupOk, LinkRoom. (made by tools/mkset.py) -/
import Derived.Test.YtalelcloppbhcaaDoorTick1
import Derived.Test.YtalelcloppbhcaaDoorRow
import Derived.IntWalk
import Derived.OwnWalk
import Derived.Deep.RegionHeld3
import Derived.Deep.QuietTactic
import Derived.BigQuiet
import Derived.StillTailTactics
namespace Go.Proofs.YtalelcloppbhcaaDoor
open Go.RowKit

theorem sblk_put {w : World} {g : Nat} {t : TypeId} {cs : Array Value} (h : Blk w g t cs) (i : Nat) (u : Value) : Blk (w.setCell ⟨g, i, none⟩ u) g t (cs.setIfInBounds i u) := by
  unfold Blk at h ⊢
  simp [World.setCell, Array.getElem?_modify, h]
theorem all_range_eqI : ∀ (xs ys : List Int), xs.length = ys.length → ((List.range xs.length).all fun i => xs.getD i 0 == ys.getD i 0) = (xs == ys)
  | [], [], _ => rfl
  | x :: xs, y :: ys, h => by
    have ih := all_range_eqI xs ys (by simpa using h)
    rw [List.length_cons, List.range_succ_eq_map, List.all_cons, List.all_map]
    have e : ((fun i => (x :: xs).getD i 0 == (y :: ys).getD i 0) ∘ Nat.succ) = fun i => xs.getD i 0 == ys.getD i 0 := by
      funext i
      simp
    rw [e, ih]
    simp [List.cons_beq_cons]
  | [], _ :: _, h => by simp at h
  | _ :: _, [], h => by simp at h
theorem run_equalIn_ints {P : Program} (w : World) (d : Nat) (t e : TypeId) (n : Nat) (ht : P.underlying t = some (.array n e)) (he : P.underlying e = some (.int .i64)) (hsz : ∀ w, (Go.sizeOf e).run P w = .ok 1 w)
    (xs ys : List Int) (hx : xs.length = n) (hy : ys.length = n) :
    (Op.equalIn (d + 2) t (.agg (xs.map (Value.int .i64)).toArray) (.agg (ys.map (Value.int .i64)).toArray)).run P w = .ok (xs == ys) w := by
  rw [← all_range_eqI xs ys (hx.trans hy.symm), hx, List.range_eq_range', Op.equalIn]
  simp only [Sem.run_bind, run_underlying ht, Result.andThen_ok, hsz, Std.Legacy.Range.forIn_eq_forIn_range', Std.Legacy.Range.size, Nat.sub_zero, Nat.add_sub_cancel, Nat.div_one]
  have hl : ∀ i ∈ List.range' 0 n 1, i < n := fun i hi => by simpa using (List.mem_range'_1.1 hi).2
  generalize List.range' 0 n 1 = l at hl ⊢
  induction l with
  | nil => simp
  | cons i l ih =>
    have hi : i < n := hl i (by simp)
    have px : (Go.part e (xs.map (Value.int .i64)).toArray (i * 1)).run P w = .ok (.int .i64 (xs.getD i 0)) w := by
      simp [Go.part, isAgg, run_underlying he, List.getD, List.getElem?_eq_getElem (show i < xs.length by omega)]
    have py : (Go.part e (ys.map (Value.int .i64)).toArray (i * 1)).run P w = .ok (.int .i64 (ys.getD i 0)) w := by
      simp [Go.part, isAgg, run_underlying he, List.getD, List.getElem?_eq_getElem (show i < ys.length by omega)]
    have pe : (Op.equalIn (d + 1) e (.int .i64 (xs.getD i 0)) (.int .i64 (ys.getD i 0))).run P w = .ok (xs.getD i 0 == ys.getD i 0) w := run_equalIn_int w d e .i64 .i64 _ _ he
    simp only [List.forIn_cons, Sem.run_bind, px, py, pe, Result.andThen_ok, List.all_cons]
    cases hb : (xs.getD i 0 == ys.getD i 0)
    · simp
    · simp only [Bool.not_true, Bool.false_eq_true, if_false, Sem.run_pure, Result.andThen_ok, Bool.true_and]
      exact ih fun j hj => hl j (by simp [hj])
theorem range_blk {W : World} {b : Nat} {t : TypeId} {l : List Value} (h : Blk W b t l.toArray) : W.rangeAt b 0 l := fun j v hv => by
  rw [Nat.zero_add, h.cell j]
  simpa using hv
theorem sblk_far {w : World} {g : Nat} {t : TypeId} {cs : Array Value} (h : Blk w g t cs) {p : Addr} (hp : g ≠ p.block) (u : Value) : Blk (w.setCell p u) g t cs := (Below.heap_setCell w p u g hp).trans h

def setOk (f0 f1 f2 f3 f4 f5 f6 f7 f8 : Int) : Bool := inB f0 1 6 && inB f1 1 4 && inB f2 1 1000 && inB f3 0 1000 && inB f4 0 1000 && inB f5 1 20 && inB f6 1 20 && inB f7 1 20 && inB f8 1 40
set_option maxHeartbeats 1000000 in
theorem toSetup_x (f0 f1 f2 f3 f4 f5 f6 f7 f8 : Int) (w : World) : Calls Tryd.prog 16 #[.agg #[.int .i64 f0, .int .i64 f1, .int .i64 f2, .int .i64 f3, .int .i64 f4, .int .i64 f5, .int .i64 f6, .int .i64 f7, .int .i64 f8]] w fun e w' => e = .returned (.agg #[.int .i64 f0, .int .i64 f1, .int .i64 f2, .int .i64 f3, .int .i64 f4, .int .i64 f5, .int .i64 f6, .int .i64 f7, .int .i64 f8]) ∧ Below w.heap.size w w' := by
  have BB := Lib.hid fun v0 v1 v2 v3 v4 v5 v6 v7 v8 : Value => ((((Below.refl w.heap.size w).alloc (Nat.le_refl _) (.cells #[.int .i64 f0, .int .i64 f1, .int .i64 f2, .int .i64 f3, .int .i64 f4, .int .i64 f5, .int .i64 f6, .int .i64 f7, .int .i64 f8] 36)).alloc (by simp) (.cells #[.int .i64 0, .int .i64 0, .int .i64 0, .int .i64 0, .int .i64 0, .int .i64 0, .int .i64 0, .int .i64 0, .int .i64 0] 25)).alloc (by simp; omega) (.cells #[v0, v1, v2, v3, v4, v5, v6, v7, v8] 25))
  go_enter Tryd.func16, Tryd.ntmps16
  go_wp2
  exact bodyPost_ret (v := .agg #[.int .i64 f0, .int .i64 f1, .int .i64 f2, .int .i64 f3, .int .i64 f4, .int .i64 f5, .int .i64 f6, .int .i64 f7, .int .i64 f8]) (by simp [results, Tryd.results16, go_sem]) rfl ⟨rfl, (((Below.refl _ _).alloc (Nat.le_refl _) _).alloc (by simp) _).alloc (by simp; omega) _⟩
set_option maxHeartbeats 4000000 in
theorem specSetOk_x (f0 f1 f2 f3 f4 f5 f6 f7 f8 : Int) (w : World) : Calls Tryd.prog 9 #[.agg #[.int .i64 f0, .int .i64 f1, .int .i64 f2, .int .i64 f3, .int .i64 f4, .int .i64 f5, .int .i64 f6, .int .i64 f7, .int .i64 f8]] w fun e w' => e = .returned (.bool (setOk f0 f1 f2 f3 f4 f5 f6 f7 f8)) ∧ Below w.heap.size w w' := by
  have BB := Lib.hid ((Below.refl w.heap.size w).alloc (Nat.le_refl _) (.cells #[.int .i64 f0, .int .i64 f1, .int .i64 f2, .int .i64 f3, .int .i64 f4, .int .i64 f5, .int .i64 f6, .int .i64 f7, .int .i64 f8] 25))
  cases h0 : inB f0 1 6 with
  | false =>
    rw [show setOk f0 f1 f2 f3 f4 f5 f6 f7 f8 = false by simp [setOk, h0]]
    go_enter Tryd.func9, Tryd.ntmps9
    go_wp2_with (go_at_call 34; refine (specIn_any _ _ _ _).mono ?_; rintro e w' ⟨rfl, rfl⟩)
    go_ret
    exact ⟨rfl, BB.out⟩
  | true =>
      cases h1 : inB f1 1 4 with
      | false =>
        rw [show setOk f0 f1 f2 f3 f4 f5 f6 f7 f8 = false by simp [setOk, h1]]
        go_enter Tryd.func9, Tryd.ntmps9
        go_wp2_with (go_at_call 34; refine (specIn_any _ _ _ _).mono ?_; rintro e w' ⟨rfl, rfl⟩)
        go_ret
        exact ⟨rfl, BB.out⟩
      | true =>
          cases h2 : inB f2 1 1000 with
          | false =>
            rw [show setOk f0 f1 f2 f3 f4 f5 f6 f7 f8 = false by simp [setOk, h2]]
            go_enter Tryd.func9, Tryd.ntmps9
            go_wp2_with (go_at_call 34; refine (specIn_any _ _ _ _).mono ?_; rintro e w' ⟨rfl, rfl⟩)
            go_ret
            exact ⟨rfl, BB.out⟩
          | true =>
              cases h3 : inB f3 0 1000 with
              | false =>
                rw [show setOk f0 f1 f2 f3 f4 f5 f6 f7 f8 = false by simp [setOk, h3]]
                go_enter Tryd.func9, Tryd.ntmps9
                go_wp2_with (go_at_call 34; refine (specIn_any _ _ _ _).mono ?_; rintro e w' ⟨rfl, rfl⟩)
                go_ret
                exact ⟨rfl, BB.out⟩
              | true =>
                  cases h4 : inB f4 0 1000 with
                  | false =>
                    rw [show setOk f0 f1 f2 f3 f4 f5 f6 f7 f8 = false by simp [setOk, h4]]
                    go_enter Tryd.func9, Tryd.ntmps9
                    go_wp2_with (go_at_call 34; refine (specIn_any _ _ _ _).mono ?_; rintro e w' ⟨rfl, rfl⟩)
                    go_ret
                    exact ⟨rfl, BB.out⟩
                  | true =>
                      cases h5 : inB f5 1 20 with
                      | false =>
                        rw [show setOk f0 f1 f2 f3 f4 f5 f6 f7 f8 = false by simp [setOk, h5]]
                        go_enter Tryd.func9, Tryd.ntmps9
                        go_wp2_with (go_at_call 34; refine (specIn_any _ _ _ _).mono ?_; rintro e w' ⟨rfl, rfl⟩)
                        go_ret
                        exact ⟨rfl, BB.out⟩
                      | true =>
                          cases h6 : inB f6 1 20 with
                          | false =>
                            rw [show setOk f0 f1 f2 f3 f4 f5 f6 f7 f8 = false by simp [setOk, h6]]
                            go_enter Tryd.func9, Tryd.ntmps9
                            go_wp2_with (go_at_call 34; refine (specIn_any _ _ _ _).mono ?_; rintro e w' ⟨rfl, rfl⟩)
                            go_ret
                            exact ⟨rfl, BB.out⟩
                          | true =>
                              cases h7 : inB f7 1 20 with
                              | false =>
                                rw [show setOk f0 f1 f2 f3 f4 f5 f6 f7 f8 = false by simp [setOk, h7]]
                                go_enter Tryd.func9, Tryd.ntmps9
                                go_wp2_with (go_at_call 34; refine (specIn_any _ _ _ _).mono ?_; rintro e w' ⟨rfl, rfl⟩)
                                go_ret
                                exact ⟨rfl, BB.out⟩
                              | true =>
                                  cases h8 : inB f8 1 40 with
                                  | false =>
                                    rw [show setOk f0 f1 f2 f3 f4 f5 f6 f7 f8 = false by simp [setOk, h8]]
                                    go_enter Tryd.func9, Tryd.ntmps9
                                    go_wp2_with (go_at_call 34; refine (specIn_any _ _ _ _).mono ?_; rintro e w' ⟨rfl, rfl⟩)
                                    go_ret
                                    exact ⟨rfl, BB.out⟩
                                  | true =>
                                      rw [show setOk f0 f1 f2 f3 f4 f5 f6 f7 f8 = true by simp [setOk, h0, h1, h2, h3, h4, h5, h6, h7, h8]]
                                      go_enter Tryd.func9, Tryd.ntmps9
                                      go_wp2_with (go_at_call 34; refine (specIn_any _ _ _ _).mono ?_; rintro e w' ⟨rfl, rfl⟩)
                                      go_ret
                                      exact ⟨rfl, BB.out⟩
set_option maxHeartbeats 1000000 in
theorem fieldsOf_x (f0 f1 f2 f3 f4 f5 f6 f7 f8 : Int) (w : World) : Calls Tryd.prog 32 #[.agg #[.int .i64 f0, .int .i64 f1, .int .i64 f2, .int .i64 f3, .int .i64 f4, .int .i64 f5, .int .i64 f6, .int .i64 f7, .int .i64 f8]] w fun e w' => e = .returned (.agg #[.int .i64 f0, .int .i64 f1, .int .i64 f2, .int .i64 f3, .int .i64 f4, .int .i64 f5, .int .i64 f6, .int .i64 f7, .int .i64 f8]) ∧ Below w.heap.size w w' := by
  go_enter Tryd.func32, Tryd.ntmps32
  go_wp2
  exact bodyPost_ret (v := .agg #[.int .i64 f0, .int .i64 f1, .int .i64 f2, .int .i64 f3, .int .i64 f4, .int .i64 f5, .int .i64 f6, .int .i64 f7, .int .i64 f8]) (by simp [results, Tryd.results32, go_sem]) rfl ⟨rfl, ((Below.refl _ _).alloc (Nat.le_refl _) _).alloc (by simp) _⟩
/-- The two tables as they are laid. -/
structure Tabs (W : World) (hi : Nat) : Prop where
  l0 : W.cell? ⟨2, 0, none⟩ = some (.int .i64 1)
  l1 : W.cell? ⟨2, 1, none⟩ = some (.int .i64 1)
  l2 : W.cell? ⟨2, 2, none⟩ = some (.int .i64 1)
  l3 : W.cell? ⟨2, 3, none⟩ = some (.int .i64 0)
  l4 : W.cell? ⟨2, 4, none⟩ = some (.int .i64 0)
  l5 : W.cell? ⟨2, 5, none⟩ = some (.int .i64 1)
  l6 : W.cell? ⟨2, 6, none⟩ = some (.int .i64 1)
  l7 : W.cell? ⟨2, 7, none⟩ = some (.int .i64 1)
  l8 : W.cell? ⟨2, 8, none⟩ = some (.int .i64 1)
  m0 : W.cell? ⟨0, 0, none⟩ = some (.int .i64 6)
  m1 : W.cell? ⟨0, 1, none⟩ = some (.int .i64 4)
  m2 : W.cell? ⟨0, 2, none⟩ = some (.int .i64 1000)
  m3 : W.cell? ⟨0, 3, none⟩ = some (.int .i64 1000)
  m4 : W.cell? ⟨0, 4, none⟩ = some (.int .i64 1000)
  m5 : W.cell? ⟨0, 5, none⟩ = some (.int .i64 20)
  m6 : W.cell? ⟨0, 6, none⟩ = some (.int .i64 20)
  m7 : W.cell? ⟨0, 7, none⟩ = some (.int .i64 20)
  m8 : W.cell? ⟨0, 8, none⟩ = some (.int .i64 40)
  h0 : 2 < hi
  h1 : 0 < hi
theorem Tabs.below {W W' : World} {hi : Nat} (h : Tabs W hi) (hb : Below hi W W') : Tabs W' hi :=
  ⟨(hb.cell (p := ⟨2, 0, none⟩) h.h0).trans h.l0, (hb.cell (p := ⟨2, 1, none⟩) h.h0).trans h.l1, (hb.cell (p := ⟨2, 2, none⟩) h.h0).trans h.l2, (hb.cell (p := ⟨2, 3, none⟩) h.h0).trans h.l3, (hb.cell (p := ⟨2, 4, none⟩) h.h0).trans h.l4, (hb.cell (p := ⟨2, 5, none⟩) h.h0).trans h.l5, (hb.cell (p := ⟨2, 6, none⟩) h.h0).trans h.l6, (hb.cell (p := ⟨2, 7, none⟩) h.h0).trans h.l7, (hb.cell (p := ⟨2, 8, none⟩) h.h0).trans h.l8, (hb.cell (p := ⟨0, 0, none⟩) h.h1).trans h.m0, (hb.cell (p := ⟨0, 1, none⟩) h.h1).trans h.m1, (hb.cell (p := ⟨0, 2, none⟩) h.h1).trans h.m2, (hb.cell (p := ⟨0, 3, none⟩) h.h1).trans h.m3, (hb.cell (p := ⟨0, 4, none⟩) h.h1).trans h.m4, (hb.cell (p := ⟨0, 5, none⟩) h.h1).trans h.m5, (hb.cell (p := ⟨0, 6, none⟩) h.h1).trans h.m6, (hb.cell (p := ⟨0, 7, none⟩) h.h1).trans h.m7, (hb.cell (p := ⟨0, 8, none⟩) h.h1).trans h.m8, h.h0, h.h1⟩
def clampI (x l m : Int) : Int := if m < (if x < l then l else x) then m else (if x < l then l else x)
theorem clampI_lo {x l m : Int} (h : x < l) (h2 : l ≤ m) : clampI x l m = l := by unfold clampI; rw [if_pos h, if_neg (by omega)]
theorem clampI_hi {x l m : Int} (h : m < x) (h2 : l ≤ m) : clampI x l m = m := by unfold clampI; rw [if_neg (show ¬ x < l by omega), if_pos h]
theorem clampI_id {x l m : Int} (h : ¬ x < l) (h2 : ¬ m < x) : clampI x l m = x := by unfold clampI; rw [if_neg h, if_neg h2]
theorem index0 (f0 f1 f2 f3 f4 f5 f6 f7 f8 : Int) (W : World) : (Instr.index 67 (.agg #[.int .i64 f0, .int .i64 f1, .int .i64 f2, .int .i64 f3, .int .i64 f4, .int .i64 f5, .int .i64 f6, .int .i64 f7, .int .i64 f8]) (.int .i64 0)).run Tryd.prog W = .ok (.int .i64 f0) W := by kernel_rfl
theorem index1 (f0 f1 f2 f3 f4 f5 f6 f7 f8 : Int) (W : World) : (Instr.index 67 (.agg #[.int .i64 f0, .int .i64 f1, .int .i64 f2, .int .i64 f3, .int .i64 f4, .int .i64 f5, .int .i64 f6, .int .i64 f7, .int .i64 f8]) (.int .i64 1)).run Tryd.prog W = .ok (.int .i64 f1) W := by kernel_rfl
theorem index2 (f0 f1 f2 f3 f4 f5 f6 f7 f8 : Int) (W : World) : (Instr.index 67 (.agg #[.int .i64 f0, .int .i64 f1, .int .i64 f2, .int .i64 f3, .int .i64 f4, .int .i64 f5, .int .i64 f6, .int .i64 f7, .int .i64 f8]) (.int .i64 2)).run Tryd.prog W = .ok (.int .i64 f2) W := by kernel_rfl
theorem index3 (f0 f1 f2 f3 f4 f5 f6 f7 f8 : Int) (W : World) : (Instr.index 67 (.agg #[.int .i64 f0, .int .i64 f1, .int .i64 f2, .int .i64 f3, .int .i64 f4, .int .i64 f5, .int .i64 f6, .int .i64 f7, .int .i64 f8]) (.int .i64 3)).run Tryd.prog W = .ok (.int .i64 f3) W := by kernel_rfl
theorem index4 (f0 f1 f2 f3 f4 f5 f6 f7 f8 : Int) (W : World) : (Instr.index 67 (.agg #[.int .i64 f0, .int .i64 f1, .int .i64 f2, .int .i64 f3, .int .i64 f4, .int .i64 f5, .int .i64 f6, .int .i64 f7, .int .i64 f8]) (.int .i64 4)).run Tryd.prog W = .ok (.int .i64 f4) W := by kernel_rfl
theorem index5 (f0 f1 f2 f3 f4 f5 f6 f7 f8 : Int) (W : World) : (Instr.index 67 (.agg #[.int .i64 f0, .int .i64 f1, .int .i64 f2, .int .i64 f3, .int .i64 f4, .int .i64 f5, .int .i64 f6, .int .i64 f7, .int .i64 f8]) (.int .i64 5)).run Tryd.prog W = .ok (.int .i64 f5) W := by kernel_rfl
theorem index6 (f0 f1 f2 f3 f4 f5 f6 f7 f8 : Int) (W : World) : (Instr.index 67 (.agg #[.int .i64 f0, .int .i64 f1, .int .i64 f2, .int .i64 f3, .int .i64 f4, .int .i64 f5, .int .i64 f6, .int .i64 f7, .int .i64 f8]) (.int .i64 6)).run Tryd.prog W = .ok (.int .i64 f6) W := by kernel_rfl
theorem index7 (f0 f1 f2 f3 f4 f5 f6 f7 f8 : Int) (W : World) : (Instr.index 67 (.agg #[.int .i64 f0, .int .i64 f1, .int .i64 f2, .int .i64 f3, .int .i64 f4, .int .i64 f5, .int .i64 f6, .int .i64 f7, .int .i64 f8]) (.int .i64 7)).run Tryd.prog W = .ok (.int .i64 f7) W := by kernel_rfl
theorem index8 (f0 f1 f2 f3 f4 f5 f6 f7 f8 : Int) (W : World) : (Instr.index 67 (.agg #[.int .i64 f0, .int .i64 f1, .int .i64 f2, .int .i64 f3, .int .i64 f4, .int .i64 f5, .int .i64 f6, .int .i64 f7, .int .i64 f8]) (.int .i64 8)).run Tryd.prog W = .ok (.int .i64 f8) W := by kernel_rfl
/-- The fields behind k rounds. -/
def keptTo (f0 f1 f2 f3 f4 f5 f6 f7 f8 : Int) (k : Nat) : Array Value := #[.int .i64 (if 0 < k then clampI f0 1 6 else f0), .int .i64 (if 1 < k then clampI f1 1 4 else f1), .int .i64 (if 2 < k then clampI f2 1 1000 else f2), .int .i64 (if 3 < k then clampI f3 0 1000 else f3), .int .i64 (if 4 < k then clampI f4 0 1000 else f4), .int .i64 (if 5 < k then clampI f5 1 20 else f5), .int .i64 (if 6 < k then clampI f6 1 20 else f6), .int .i64 (if 7 < k then clampI f7 1 20 else f7), .int .i64 (if 8 < k then clampI f8 1 40 else f8)]
theorem keptTo_0 (f0 f1 f2 f3 f4 f5 f6 f7 f8 : Int) : (keptTo f0 f1 f2 f3 f4 f5 f6 f7 f8 0).setIfInBounds 0 (.int .i64 (clampI f0 1 6)) = keptTo f0 f1 f2 f3 f4 f5 f6 f7 f8 1 := rfl
theorem keptTo_1 (f0 f1 f2 f3 f4 f5 f6 f7 f8 : Int) : (keptTo f0 f1 f2 f3 f4 f5 f6 f7 f8 1).setIfInBounds 1 (.int .i64 (clampI f1 1 4)) = keptTo f0 f1 f2 f3 f4 f5 f6 f7 f8 2 := rfl
theorem keptTo_2 (f0 f1 f2 f3 f4 f5 f6 f7 f8 : Int) : (keptTo f0 f1 f2 f3 f4 f5 f6 f7 f8 2).setIfInBounds 2 (.int .i64 (clampI f2 1 1000)) = keptTo f0 f1 f2 f3 f4 f5 f6 f7 f8 3 := rfl
theorem keptTo_3 (f0 f1 f2 f3 f4 f5 f6 f7 f8 : Int) : (keptTo f0 f1 f2 f3 f4 f5 f6 f7 f8 3).setIfInBounds 3 (.int .i64 (clampI f3 0 1000)) = keptTo f0 f1 f2 f3 f4 f5 f6 f7 f8 4 := rfl
theorem keptTo_4 (f0 f1 f2 f3 f4 f5 f6 f7 f8 : Int) : (keptTo f0 f1 f2 f3 f4 f5 f6 f7 f8 4).setIfInBounds 4 (.int .i64 (clampI f4 0 1000)) = keptTo f0 f1 f2 f3 f4 f5 f6 f7 f8 5 := rfl
theorem keptTo_5 (f0 f1 f2 f3 f4 f5 f6 f7 f8 : Int) : (keptTo f0 f1 f2 f3 f4 f5 f6 f7 f8 5).setIfInBounds 5 (.int .i64 (clampI f5 1 20)) = keptTo f0 f1 f2 f3 f4 f5 f6 f7 f8 6 := rfl
theorem keptTo_6 (f0 f1 f2 f3 f4 f5 f6 f7 f8 : Int) : (keptTo f0 f1 f2 f3 f4 f5 f6 f7 f8 6).setIfInBounds 6 (.int .i64 (clampI f6 1 20)) = keptTo f0 f1 f2 f3 f4 f5 f6 f7 f8 7 := rfl
theorem keptTo_7 (f0 f1 f2 f3 f4 f5 f6 f7 f8 : Int) : (keptTo f0 f1 f2 f3 f4 f5 f6 f7 f8 7).setIfInBounds 7 (.int .i64 (clampI f7 1 20)) = keptTo f0 f1 f2 f3 f4 f5 f6 f7 f8 8 := rfl
theorem keptTo_8 (f0 f1 f2 f3 f4 f5 f6 f7 f8 : Int) : (keptTo f0 f1 f2 f3 f4 f5 f6 f7 f8 8).setIfInBounds 8 (.int .i64 (clampI f8 1 40)) = keptTo f0 f1 f2 f3 f4 f5 f6 f7 f8 9 := rfl
set_option maxHeartbeats 8000000 in
set_option maxRecDepth 100000 in
theorem inBounds_x (f0 f1 f2 f3 f4 f5 f6 f7 f8 : Int) (hi : Nat) (w : World) (ht : Tabs w hi) (hB : hi ≤ w.heap.size) : Calls Tryd.prog 80 #[.agg #[.int .i64 f0, .int .i64 f1, .int .i64 f2, .int .i64 f3, .int .i64 f4, .int .i64 f5, .int .i64 f6, .int .i64 f7, .int .i64 f8]] w fun e w' => e = .returned (.agg #[.int .i64 (clampI f0 1 6), .int .i64 (clampI f1 1 4), .int .i64 (clampI f2 1 1000), .int .i64 (clampI f3 0 1000), .int .i64 (clampI f4 0 1000), .int .i64 (clampI f5 1 20), .int .i64 (clampI f6 1 20), .int .i64 (clampI f7 1 20), .int .i64 (clampI f8 1 40)]) ∧ Below w.heap.size w w' := by
  have HT := Lib.hid ht
  have hg0 := ht.h0
  have hg1 := ht.h1
  clear ht
  have B2 := Lib.hid (((Below.refl w.heap.size w).alloc (Nat.le_refl _) (.cells #[.int .i64 f0, .int .i64 f1, .int .i64 f2, .int .i64 f3, .int .i64 f4, .int .i64 f5, .int .i64 f6, .int .i64 f7, .int .i64 f8] 67)).alloc (by simp) (.cells #[.int .i64 0, .int .i64 0, .int .i64 0, .int .i64 0, .int .i64 0, .int .i64 0, .int .i64 0, .int .i64 0, .int .i64 0] 67))
  have K0 := Lib.hid ((Blk.new w 67 #[.int .i64 f0, .int .i64 f1, .int .i64 f2, .int .i64 f3, .int .i64 f4, .int .i64 f5, .int .i64 f6, .int .i64 f7, .int .i64 f8]).alloc (.cells #[.int .i64 0, .int .i64 0, .int .i64 0, .int .i64 0, .int .i64 0, .int .i64 0, .int .i64 0, .int .i64 0, .int .i64 0] 67))
  have k1 := Blk.new (w.alloc (.cells #[.int .i64 f0, .int .i64 f1, .int .i64 f2, .int .i64 f3, .int .i64 f4, .int .i64 f5, .int .i64 f6, .int .i64 f7, .int .i64 f8] 67)) 67 #[.int .i64 0, .int .i64 0, .int .i64 0, .int .i64 0, .int .i64 0, .int .i64 0, .int .i64 0, .int .i64 0, .int .i64 0]
  rw [World.size_alloc] at k1
  have K1 := Lib.hid k1
  clear k1
  go_enter Tryd.func80, Tryd.ntmps80
  go_wp2
  go_loopw [6] (fun i wr => ∃ k : Nat, k ≤ 9 ∧ i = .int .i64 k ∧ Blk wr w.heap.size 67 (keptTo f0 f1 f2 f3 f4 f5 f6 f7 f8 k) ∧ Blk wr (w.heap.size + 1) 67 #[.int .i64 0, .int .i64 0, .int .i64 0, .int .i64 0, .int .i64 0, .int .i64 0, .int .i64 0, .int .i64 0, .int .i64 0] ∧ Below w.heap.size w wr) (fun i _ => 9 - (intOf i).toNat)
  case atStart => exact ⟨0, Nat.zero_le _, rfl, K0.out, K1.out, B2.out⟩
  case round =>
    obtain ⟨k, hk, rfl, hb0, hb1, hbw⟩ := hrel
    have R0 := Lib.hid hb0
    have R1 := Lib.hid hb1
    have RB := Lib.hid hbw
    have RT := Lib.hid (HT.out.below (hbw.mono hB))
    clear hb0 hb1 hbw
    rcases (show k = 0 ∨ k = 1 ∨ k = 2 ∨ k = 3 ∨ k = 4 ∨ k = 5 ∨ k = 6 ∨ k = 7 ∨ k = 8 ∨ k = 9 by omega) with rfl | rfl | rfl | rfl | rfl | rfl | rfl | rfl | rfl | rfl
    · have hx := fun W => index0 f0 f1 f2 f3 f4 f5 f6 f7 f8 W
      have y0 : wr.drew.cell? ⟨2, 0, none⟩ = some (.int .i64 1) := RT.out.l0
      have y1 : wr.drew.cell? ⟨0, 0, none⟩ = some (.int .i64 6) := RT.out.m0
      have q0 : wr.drew.cell? ⟨w.heap.size, 0, none⟩ = some (.int .i64 f0) := R0.out.cell 0
      have fr : wr.drew.frozen? ⟨w.heap.size, 0, none⟩ = false := R0.out.frozen 0
      by_cases hl : f0 < 1
      · have HE : Hid (clampI f0 1 6 = 1) := Lib.hid (clampI_lo hl (by omega))
        go_wp2_with fail
        go_region_held3 (fun W => W.cell? ⟨2, 0, none⟩ = some (.int .i64 1) ∧ W.cell? ⟨0, 0, none⟩ = some (.int .i64 6))
          (first | with_reducible exact ⟨y0, y1⟩ | exact ⟨(World.cell?_setCell_far _ _ _ _ (show w.heap.size ≠ 2 by omega)).trans y0, (World.cell?_setCell_far _ _ _ _ (show w.heap.size ≠ 0 by omega)).trans y1⟩) (fail)
        have HR := Lib.hid (sblk_put R0.out.drew 0 (.int .i64 1))
        have HR1 := Lib.hid (sblk_far R1.out.drew (p := ⟨w.heap.size, 0, none⟩) (show w.heap.size + 1 ≠ w.heap.size by omega) (.int .i64 1))
        have HRB := Lib.hid (RB.out.drew.setCell (p := ⟨w.heap.size, 0, none⟩) (Nat.le_refl _) (.int .i64 1))
        clear y0 y1 q0 fr hx
        go_wp2
        go_roundw
        case rel => exact ⟨1, by omega, by first | rfl | go_num, by have h := HR.out; have e : (keptTo f0 f1 f2 f3 f4 f5 f6 f7 f8 0).setIfInBounds 0 (.int .i64 1) = keptTo f0 f1 f2 f3 f4 f5 f6 f7 f8 1 := (by have h9 := keptTo_0 f0 f1 f2 f3 f4 f5 f6 f7 f8; rw [HE.out] at h9; exact h9); rw [e] at h; exact h, HR1.out, HRB.out⟩
        case measure => simp [intOf]
      · by_cases hh : 6 < f0
        · have HE : Hid (clampI f0 1 6 = 6) := Lib.hid (clampI_hi hh (by omega))
          go_wp2_with fail
          go_region_held3 (fun W => W.cell? ⟨2, 0, none⟩ = some (.int .i64 1) ∧ W.cell? ⟨0, 0, none⟩ = some (.int .i64 6))
            (first | with_reducible exact ⟨y0, y1⟩ | exact ⟨(World.cell?_setCell_far _ _ _ _ (show w.heap.size ≠ 2 by omega)).trans y0, (World.cell?_setCell_far _ _ _ _ (show w.heap.size ≠ 0 by omega)).trans y1⟩) (fail)
          have HR := Lib.hid (sblk_put R0.out.drew 0 (.int .i64 6))
          have HR1 := Lib.hid (sblk_far R1.out.drew (p := ⟨w.heap.size, 0, none⟩) (show w.heap.size + 1 ≠ w.heap.size by omega) (.int .i64 6))
          have HRB := Lib.hid (RB.out.drew.setCell (p := ⟨w.heap.size, 0, none⟩) (Nat.le_refl _) (.int .i64 6))
          clear y0 y1 q0 fr hx
          go_wp2
          go_roundw
          case rel => exact ⟨1, by omega, by first | rfl | go_num, by have h := HR.out; have e : (keptTo f0 f1 f2 f3 f4 f5 f6 f7 f8 0).setIfInBounds 0 (.int .i64 6) = keptTo f0 f1 f2 f3 f4 f5 f6 f7 f8 1 := (by have h9 := keptTo_0 f0 f1 f2 f3 f4 f5 f6 f7 f8; rw [HE.out] at h9; exact h9); rw [e] at h; exact h, HR1.out, HRB.out⟩
          case measure => simp [intOf]
        · have HE : Hid (clampI f0 1 6 = f0) := Lib.hid (clampI_id hl hh)
          go_wp2_with fail
          go_region_held3 (fun W => W.cell? ⟨2, 0, none⟩ = some (.int .i64 1) ∧ W.cell? ⟨0, 0, none⟩ = some (.int .i64 6))
            (first | with_reducible exact ⟨y0, y1⟩ | exact ⟨(World.cell?_setCell_far _ _ _ _ (show w.heap.size ≠ 2 by omega)).trans y0, (World.cell?_setCell_far _ _ _ _ (show w.heap.size ≠ 0 by omega)).trans y1⟩) (fail)
          have HR := Lib.hid (sblk_put R0.out.drew 0 (.int .i64 f0))
          have HR1 := Lib.hid (sblk_far R1.out.drew (p := ⟨w.heap.size, 0, none⟩) (show w.heap.size + 1 ≠ w.heap.size by omega) (.int .i64 f0))
          have HRB := Lib.hid (RB.out.drew.setCell (p := ⟨w.heap.size, 0, none⟩) (Nat.le_refl _) (.int .i64 f0))
          clear y0 y1 q0 fr hx
          go_wp2
          go_roundw
          case rel => exact ⟨1, by omega, by first | rfl | go_num, by have h := HR.out; have e : (keptTo f0 f1 f2 f3 f4 f5 f6 f7 f8 0).setIfInBounds 0 (.int .i64 f0) = keptTo f0 f1 f2 f3 f4 f5 f6 f7 f8 1 := (by have h9 := keptTo_0 f0 f1 f2 f3 f4 f5 f6 f7 f8; rw [HE.out] at h9; exact h9); rw [e] at h; exact h, HR1.out, HRB.out⟩
          case measure => simp [intOf]
    · have hx := fun W => index1 f0 f1 f2 f3 f4 f5 f6 f7 f8 W
      have y0 : wr.drew.cell? ⟨2, 1, none⟩ = some (.int .i64 1) := RT.out.l1
      have y1 : wr.drew.cell? ⟨0, 1, none⟩ = some (.int .i64 4) := RT.out.m1
      have q0 : wr.drew.cell? ⟨w.heap.size, 1, none⟩ = some (.int .i64 f1) := R0.out.cell 1
      have fr : wr.drew.frozen? ⟨w.heap.size, 1, none⟩ = false := R0.out.frozen 1
      by_cases hl : f1 < 1
      · have HE : Hid (clampI f1 1 4 = 1) := Lib.hid (clampI_lo hl (by omega))
        go_wp2_with fail
        go_region_held3 (fun W => W.cell? ⟨2, 1, none⟩ = some (.int .i64 1) ∧ W.cell? ⟨0, 1, none⟩ = some (.int .i64 4))
          (first | with_reducible exact ⟨y0, y1⟩ | exact ⟨(World.cell?_setCell_far _ _ _ _ (show w.heap.size ≠ 2 by omega)).trans y0, (World.cell?_setCell_far _ _ _ _ (show w.heap.size ≠ 0 by omega)).trans y1⟩) (fail)
        have HR := Lib.hid (sblk_put R0.out.drew 1 (.int .i64 1))
        have HR1 := Lib.hid (sblk_far R1.out.drew (p := ⟨w.heap.size, 1, none⟩) (show w.heap.size + 1 ≠ w.heap.size by omega) (.int .i64 1))
        have HRB := Lib.hid (RB.out.drew.setCell (p := ⟨w.heap.size, 1, none⟩) (Nat.le_refl _) (.int .i64 1))
        clear y0 y1 q0 fr hx
        go_wp2
        go_roundw
        case rel => exact ⟨2, by omega, by first | rfl | go_num, by have h := HR.out; have e : (keptTo f0 f1 f2 f3 f4 f5 f6 f7 f8 1).setIfInBounds 1 (.int .i64 1) = keptTo f0 f1 f2 f3 f4 f5 f6 f7 f8 2 := (by have h9 := keptTo_1 f0 f1 f2 f3 f4 f5 f6 f7 f8; rw [HE.out] at h9; exact h9); rw [e] at h; exact h, HR1.out, HRB.out⟩
        case measure => simp [intOf]
      · by_cases hh : 4 < f1
        · have HE : Hid (clampI f1 1 4 = 4) := Lib.hid (clampI_hi hh (by omega))
          go_wp2_with fail
          go_region_held3 (fun W => W.cell? ⟨2, 1, none⟩ = some (.int .i64 1) ∧ W.cell? ⟨0, 1, none⟩ = some (.int .i64 4))
            (first | with_reducible exact ⟨y0, y1⟩ | exact ⟨(World.cell?_setCell_far _ _ _ _ (show w.heap.size ≠ 2 by omega)).trans y0, (World.cell?_setCell_far _ _ _ _ (show w.heap.size ≠ 0 by omega)).trans y1⟩) (fail)
          have HR := Lib.hid (sblk_put R0.out.drew 1 (.int .i64 4))
          have HR1 := Lib.hid (sblk_far R1.out.drew (p := ⟨w.heap.size, 1, none⟩) (show w.heap.size + 1 ≠ w.heap.size by omega) (.int .i64 4))
          have HRB := Lib.hid (RB.out.drew.setCell (p := ⟨w.heap.size, 1, none⟩) (Nat.le_refl _) (.int .i64 4))
          clear y0 y1 q0 fr hx
          go_wp2
          go_roundw
          case rel => exact ⟨2, by omega, by first | rfl | go_num, by have h := HR.out; have e : (keptTo f0 f1 f2 f3 f4 f5 f6 f7 f8 1).setIfInBounds 1 (.int .i64 4) = keptTo f0 f1 f2 f3 f4 f5 f6 f7 f8 2 := (by have h9 := keptTo_1 f0 f1 f2 f3 f4 f5 f6 f7 f8; rw [HE.out] at h9; exact h9); rw [e] at h; exact h, HR1.out, HRB.out⟩
          case measure => simp [intOf]
        · have HE : Hid (clampI f1 1 4 = f1) := Lib.hid (clampI_id hl hh)
          go_wp2_with fail
          go_region_held3 (fun W => W.cell? ⟨2, 1, none⟩ = some (.int .i64 1) ∧ W.cell? ⟨0, 1, none⟩ = some (.int .i64 4))
            (first | with_reducible exact ⟨y0, y1⟩ | exact ⟨(World.cell?_setCell_far _ _ _ _ (show w.heap.size ≠ 2 by omega)).trans y0, (World.cell?_setCell_far _ _ _ _ (show w.heap.size ≠ 0 by omega)).trans y1⟩) (fail)
          have HR := Lib.hid (sblk_put R0.out.drew 1 (.int .i64 f1))
          have HR1 := Lib.hid (sblk_far R1.out.drew (p := ⟨w.heap.size, 1, none⟩) (show w.heap.size + 1 ≠ w.heap.size by omega) (.int .i64 f1))
          have HRB := Lib.hid (RB.out.drew.setCell (p := ⟨w.heap.size, 1, none⟩) (Nat.le_refl _) (.int .i64 f1))
          clear y0 y1 q0 fr hx
          go_wp2
          go_roundw
          case rel => exact ⟨2, by omega, by first | rfl | go_num, by have h := HR.out; have e : (keptTo f0 f1 f2 f3 f4 f5 f6 f7 f8 1).setIfInBounds 1 (.int .i64 f1) = keptTo f0 f1 f2 f3 f4 f5 f6 f7 f8 2 := (by have h9 := keptTo_1 f0 f1 f2 f3 f4 f5 f6 f7 f8; rw [HE.out] at h9; exact h9); rw [e] at h; exact h, HR1.out, HRB.out⟩
          case measure => simp [intOf]
    · have hx := fun W => index2 f0 f1 f2 f3 f4 f5 f6 f7 f8 W
      have y0 : wr.drew.cell? ⟨2, 2, none⟩ = some (.int .i64 1) := RT.out.l2
      have y1 : wr.drew.cell? ⟨0, 2, none⟩ = some (.int .i64 1000) := RT.out.m2
      have q0 : wr.drew.cell? ⟨w.heap.size, 2, none⟩ = some (.int .i64 f2) := R0.out.cell 2
      have fr : wr.drew.frozen? ⟨w.heap.size, 2, none⟩ = false := R0.out.frozen 2
      by_cases hl : f2 < 1
      · have HE : Hid (clampI f2 1 1000 = 1) := Lib.hid (clampI_lo hl (by omega))
        go_wp2_with fail
        go_region_held3 (fun W => W.cell? ⟨2, 2, none⟩ = some (.int .i64 1) ∧ W.cell? ⟨0, 2, none⟩ = some (.int .i64 1000))
          (first | with_reducible exact ⟨y0, y1⟩ | exact ⟨(World.cell?_setCell_far _ _ _ _ (show w.heap.size ≠ 2 by omega)).trans y0, (World.cell?_setCell_far _ _ _ _ (show w.heap.size ≠ 0 by omega)).trans y1⟩) (fail)
        have HR := Lib.hid (sblk_put R0.out.drew 2 (.int .i64 1))
        have HR1 := Lib.hid (sblk_far R1.out.drew (p := ⟨w.heap.size, 2, none⟩) (show w.heap.size + 1 ≠ w.heap.size by omega) (.int .i64 1))
        have HRB := Lib.hid (RB.out.drew.setCell (p := ⟨w.heap.size, 2, none⟩) (Nat.le_refl _) (.int .i64 1))
        clear y0 y1 q0 fr hx
        go_wp2
        go_roundw
        case rel => exact ⟨3, by omega, by first | rfl | go_num, by have h := HR.out; have e : (keptTo f0 f1 f2 f3 f4 f5 f6 f7 f8 2).setIfInBounds 2 (.int .i64 1) = keptTo f0 f1 f2 f3 f4 f5 f6 f7 f8 3 := (by have h9 := keptTo_2 f0 f1 f2 f3 f4 f5 f6 f7 f8; rw [HE.out] at h9; exact h9); rw [e] at h; exact h, HR1.out, HRB.out⟩
        case measure => simp [intOf]
      · by_cases hh : 1000 < f2
        · have HE : Hid (clampI f2 1 1000 = 1000) := Lib.hid (clampI_hi hh (by omega))
          go_wp2_with fail
          go_region_held3 (fun W => W.cell? ⟨2, 2, none⟩ = some (.int .i64 1) ∧ W.cell? ⟨0, 2, none⟩ = some (.int .i64 1000))
            (first | with_reducible exact ⟨y0, y1⟩ | exact ⟨(World.cell?_setCell_far _ _ _ _ (show w.heap.size ≠ 2 by omega)).trans y0, (World.cell?_setCell_far _ _ _ _ (show w.heap.size ≠ 0 by omega)).trans y1⟩) (fail)
          have HR := Lib.hid (sblk_put R0.out.drew 2 (.int .i64 1000))
          have HR1 := Lib.hid (sblk_far R1.out.drew (p := ⟨w.heap.size, 2, none⟩) (show w.heap.size + 1 ≠ w.heap.size by omega) (.int .i64 1000))
          have HRB := Lib.hid (RB.out.drew.setCell (p := ⟨w.heap.size, 2, none⟩) (Nat.le_refl _) (.int .i64 1000))
          clear y0 y1 q0 fr hx
          go_wp2
          go_roundw
          case rel => exact ⟨3, by omega, by first | rfl | go_num, by have h := HR.out; have e : (keptTo f0 f1 f2 f3 f4 f5 f6 f7 f8 2).setIfInBounds 2 (.int .i64 1000) = keptTo f0 f1 f2 f3 f4 f5 f6 f7 f8 3 := (by have h9 := keptTo_2 f0 f1 f2 f3 f4 f5 f6 f7 f8; rw [HE.out] at h9; exact h9); rw [e] at h; exact h, HR1.out, HRB.out⟩
          case measure => simp [intOf]
        · have HE : Hid (clampI f2 1 1000 = f2) := Lib.hid (clampI_id hl hh)
          go_wp2_with fail
          go_region_held3 (fun W => W.cell? ⟨2, 2, none⟩ = some (.int .i64 1) ∧ W.cell? ⟨0, 2, none⟩ = some (.int .i64 1000))
            (first | with_reducible exact ⟨y0, y1⟩ | exact ⟨(World.cell?_setCell_far _ _ _ _ (show w.heap.size ≠ 2 by omega)).trans y0, (World.cell?_setCell_far _ _ _ _ (show w.heap.size ≠ 0 by omega)).trans y1⟩) (fail)
          have HR := Lib.hid (sblk_put R0.out.drew 2 (.int .i64 f2))
          have HR1 := Lib.hid (sblk_far R1.out.drew (p := ⟨w.heap.size, 2, none⟩) (show w.heap.size + 1 ≠ w.heap.size by omega) (.int .i64 f2))
          have HRB := Lib.hid (RB.out.drew.setCell (p := ⟨w.heap.size, 2, none⟩) (Nat.le_refl _) (.int .i64 f2))
          clear y0 y1 q0 fr hx
          go_wp2
          go_roundw
          case rel => exact ⟨3, by omega, by first | rfl | go_num, by have h := HR.out; have e : (keptTo f0 f1 f2 f3 f4 f5 f6 f7 f8 2).setIfInBounds 2 (.int .i64 f2) = keptTo f0 f1 f2 f3 f4 f5 f6 f7 f8 3 := (by have h9 := keptTo_2 f0 f1 f2 f3 f4 f5 f6 f7 f8; rw [HE.out] at h9; exact h9); rw [e] at h; exact h, HR1.out, HRB.out⟩
          case measure => simp [intOf]
    · have hx := fun W => index3 f0 f1 f2 f3 f4 f5 f6 f7 f8 W
      have y0 : wr.drew.cell? ⟨2, 3, none⟩ = some (.int .i64 0) := RT.out.l3
      have y1 : wr.drew.cell? ⟨0, 3, none⟩ = some (.int .i64 1000) := RT.out.m3
      have q0 : wr.drew.cell? ⟨w.heap.size, 3, none⟩ = some (.int .i64 f3) := R0.out.cell 3
      have fr : wr.drew.frozen? ⟨w.heap.size, 3, none⟩ = false := R0.out.frozen 3
      by_cases hl : f3 < 0
      · have HE : Hid (clampI f3 0 1000 = 0) := Lib.hid (clampI_lo hl (by omega))
        go_wp2_with fail
        go_region_held3 (fun W => W.cell? ⟨2, 3, none⟩ = some (.int .i64 0) ∧ W.cell? ⟨0, 3, none⟩ = some (.int .i64 1000))
          (first | with_reducible exact ⟨y0, y1⟩ | exact ⟨(World.cell?_setCell_far _ _ _ _ (show w.heap.size ≠ 2 by omega)).trans y0, (World.cell?_setCell_far _ _ _ _ (show w.heap.size ≠ 0 by omega)).trans y1⟩) (fail)
        have HR := Lib.hid (sblk_put R0.out.drew 3 (.int .i64 0))
        have HR1 := Lib.hid (sblk_far R1.out.drew (p := ⟨w.heap.size, 3, none⟩) (show w.heap.size + 1 ≠ w.heap.size by omega) (.int .i64 0))
        have HRB := Lib.hid (RB.out.drew.setCell (p := ⟨w.heap.size, 3, none⟩) (Nat.le_refl _) (.int .i64 0))
        clear y0 y1 q0 fr hx
        go_wp2
        go_roundw
        case rel => exact ⟨4, by omega, by first | rfl | go_num, by have h := HR.out; have e : (keptTo f0 f1 f2 f3 f4 f5 f6 f7 f8 3).setIfInBounds 3 (.int .i64 0) = keptTo f0 f1 f2 f3 f4 f5 f6 f7 f8 4 := (by have h9 := keptTo_3 f0 f1 f2 f3 f4 f5 f6 f7 f8; rw [HE.out] at h9; exact h9); rw [e] at h; exact h, HR1.out, HRB.out⟩
        case measure => simp [intOf]
      · by_cases hh : 1000 < f3
        · have HE : Hid (clampI f3 0 1000 = 1000) := Lib.hid (clampI_hi hh (by omega))
          go_wp2_with fail
          go_region_held3 (fun W => W.cell? ⟨2, 3, none⟩ = some (.int .i64 0) ∧ W.cell? ⟨0, 3, none⟩ = some (.int .i64 1000))
            (first | with_reducible exact ⟨y0, y1⟩ | exact ⟨(World.cell?_setCell_far _ _ _ _ (show w.heap.size ≠ 2 by omega)).trans y0, (World.cell?_setCell_far _ _ _ _ (show w.heap.size ≠ 0 by omega)).trans y1⟩) (fail)
          have HR := Lib.hid (sblk_put R0.out.drew 3 (.int .i64 1000))
          have HR1 := Lib.hid (sblk_far R1.out.drew (p := ⟨w.heap.size, 3, none⟩) (show w.heap.size + 1 ≠ w.heap.size by omega) (.int .i64 1000))
          have HRB := Lib.hid (RB.out.drew.setCell (p := ⟨w.heap.size, 3, none⟩) (Nat.le_refl _) (.int .i64 1000))
          clear y0 y1 q0 fr hx
          go_wp2
          go_roundw
          case rel => exact ⟨4, by omega, by first | rfl | go_num, by have h := HR.out; have e : (keptTo f0 f1 f2 f3 f4 f5 f6 f7 f8 3).setIfInBounds 3 (.int .i64 1000) = keptTo f0 f1 f2 f3 f4 f5 f6 f7 f8 4 := (by have h9 := keptTo_3 f0 f1 f2 f3 f4 f5 f6 f7 f8; rw [HE.out] at h9; exact h9); rw [e] at h; exact h, HR1.out, HRB.out⟩
          case measure => simp [intOf]
        · have HE : Hid (clampI f3 0 1000 = f3) := Lib.hid (clampI_id hl hh)
          go_wp2_with fail
          go_region_held3 (fun W => W.cell? ⟨2, 3, none⟩ = some (.int .i64 0) ∧ W.cell? ⟨0, 3, none⟩ = some (.int .i64 1000))
            (first | with_reducible exact ⟨y0, y1⟩ | exact ⟨(World.cell?_setCell_far _ _ _ _ (show w.heap.size ≠ 2 by omega)).trans y0, (World.cell?_setCell_far _ _ _ _ (show w.heap.size ≠ 0 by omega)).trans y1⟩) (fail)
          have HR := Lib.hid (sblk_put R0.out.drew 3 (.int .i64 f3))
          have HR1 := Lib.hid (sblk_far R1.out.drew (p := ⟨w.heap.size, 3, none⟩) (show w.heap.size + 1 ≠ w.heap.size by omega) (.int .i64 f3))
          have HRB := Lib.hid (RB.out.drew.setCell (p := ⟨w.heap.size, 3, none⟩) (Nat.le_refl _) (.int .i64 f3))
          clear y0 y1 q0 fr hx
          go_wp2
          go_roundw
          case rel => exact ⟨4, by omega, by first | rfl | go_num, by have h := HR.out; have e : (keptTo f0 f1 f2 f3 f4 f5 f6 f7 f8 3).setIfInBounds 3 (.int .i64 f3) = keptTo f0 f1 f2 f3 f4 f5 f6 f7 f8 4 := (by have h9 := keptTo_3 f0 f1 f2 f3 f4 f5 f6 f7 f8; rw [HE.out] at h9; exact h9); rw [e] at h; exact h, HR1.out, HRB.out⟩
          case measure => simp [intOf]
    · have hx := fun W => index4 f0 f1 f2 f3 f4 f5 f6 f7 f8 W
      have y0 : wr.drew.cell? ⟨2, 4, none⟩ = some (.int .i64 0) := RT.out.l4
      have y1 : wr.drew.cell? ⟨0, 4, none⟩ = some (.int .i64 1000) := RT.out.m4
      have q0 : wr.drew.cell? ⟨w.heap.size, 4, none⟩ = some (.int .i64 f4) := R0.out.cell 4
      have fr : wr.drew.frozen? ⟨w.heap.size, 4, none⟩ = false := R0.out.frozen 4
      by_cases hl : f4 < 0
      · have HE : Hid (clampI f4 0 1000 = 0) := Lib.hid (clampI_lo hl (by omega))
        go_wp2_with fail
        go_region_held3 (fun W => W.cell? ⟨2, 4, none⟩ = some (.int .i64 0) ∧ W.cell? ⟨0, 4, none⟩ = some (.int .i64 1000))
          (first | with_reducible exact ⟨y0, y1⟩ | exact ⟨(World.cell?_setCell_far _ _ _ _ (show w.heap.size ≠ 2 by omega)).trans y0, (World.cell?_setCell_far _ _ _ _ (show w.heap.size ≠ 0 by omega)).trans y1⟩) (fail)
        have HR := Lib.hid (sblk_put R0.out.drew 4 (.int .i64 0))
        have HR1 := Lib.hid (sblk_far R1.out.drew (p := ⟨w.heap.size, 4, none⟩) (show w.heap.size + 1 ≠ w.heap.size by omega) (.int .i64 0))
        have HRB := Lib.hid (RB.out.drew.setCell (p := ⟨w.heap.size, 4, none⟩) (Nat.le_refl _) (.int .i64 0))
        clear y0 y1 q0 fr hx
        go_wp2
        go_roundw
        case rel => exact ⟨5, by omega, by first | rfl | go_num, by have h := HR.out; have e : (keptTo f0 f1 f2 f3 f4 f5 f6 f7 f8 4).setIfInBounds 4 (.int .i64 0) = keptTo f0 f1 f2 f3 f4 f5 f6 f7 f8 5 := (by have h9 := keptTo_4 f0 f1 f2 f3 f4 f5 f6 f7 f8; rw [HE.out] at h9; exact h9); rw [e] at h; exact h, HR1.out, HRB.out⟩
        case measure => simp [intOf]
      · by_cases hh : 1000 < f4
        · have HE : Hid (clampI f4 0 1000 = 1000) := Lib.hid (clampI_hi hh (by omega))
          go_wp2_with fail
          go_region_held3 (fun W => W.cell? ⟨2, 4, none⟩ = some (.int .i64 0) ∧ W.cell? ⟨0, 4, none⟩ = some (.int .i64 1000))
            (first | with_reducible exact ⟨y0, y1⟩ | exact ⟨(World.cell?_setCell_far _ _ _ _ (show w.heap.size ≠ 2 by omega)).trans y0, (World.cell?_setCell_far _ _ _ _ (show w.heap.size ≠ 0 by omega)).trans y1⟩) (fail)
          have HR := Lib.hid (sblk_put R0.out.drew 4 (.int .i64 1000))
          have HR1 := Lib.hid (sblk_far R1.out.drew (p := ⟨w.heap.size, 4, none⟩) (show w.heap.size + 1 ≠ w.heap.size by omega) (.int .i64 1000))
          have HRB := Lib.hid (RB.out.drew.setCell (p := ⟨w.heap.size, 4, none⟩) (Nat.le_refl _) (.int .i64 1000))
          clear y0 y1 q0 fr hx
          go_wp2
          go_roundw
          case rel => exact ⟨5, by omega, by first | rfl | go_num, by have h := HR.out; have e : (keptTo f0 f1 f2 f3 f4 f5 f6 f7 f8 4).setIfInBounds 4 (.int .i64 1000) = keptTo f0 f1 f2 f3 f4 f5 f6 f7 f8 5 := (by have h9 := keptTo_4 f0 f1 f2 f3 f4 f5 f6 f7 f8; rw [HE.out] at h9; exact h9); rw [e] at h; exact h, HR1.out, HRB.out⟩
          case measure => simp [intOf]
        · have HE : Hid (clampI f4 0 1000 = f4) := Lib.hid (clampI_id hl hh)
          go_wp2_with fail
          go_region_held3 (fun W => W.cell? ⟨2, 4, none⟩ = some (.int .i64 0) ∧ W.cell? ⟨0, 4, none⟩ = some (.int .i64 1000))
            (first | with_reducible exact ⟨y0, y1⟩ | exact ⟨(World.cell?_setCell_far _ _ _ _ (show w.heap.size ≠ 2 by omega)).trans y0, (World.cell?_setCell_far _ _ _ _ (show w.heap.size ≠ 0 by omega)).trans y1⟩) (fail)
          have HR := Lib.hid (sblk_put R0.out.drew 4 (.int .i64 f4))
          have HR1 := Lib.hid (sblk_far R1.out.drew (p := ⟨w.heap.size, 4, none⟩) (show w.heap.size + 1 ≠ w.heap.size by omega) (.int .i64 f4))
          have HRB := Lib.hid (RB.out.drew.setCell (p := ⟨w.heap.size, 4, none⟩) (Nat.le_refl _) (.int .i64 f4))
          clear y0 y1 q0 fr hx
          go_wp2
          go_roundw
          case rel => exact ⟨5, by omega, by first | rfl | go_num, by have h := HR.out; have e : (keptTo f0 f1 f2 f3 f4 f5 f6 f7 f8 4).setIfInBounds 4 (.int .i64 f4) = keptTo f0 f1 f2 f3 f4 f5 f6 f7 f8 5 := (by have h9 := keptTo_4 f0 f1 f2 f3 f4 f5 f6 f7 f8; rw [HE.out] at h9; exact h9); rw [e] at h; exact h, HR1.out, HRB.out⟩
          case measure => simp [intOf]
    · have hx := fun W => index5 f0 f1 f2 f3 f4 f5 f6 f7 f8 W
      have y0 : wr.drew.cell? ⟨2, 5, none⟩ = some (.int .i64 1) := RT.out.l5
      have y1 : wr.drew.cell? ⟨0, 5, none⟩ = some (.int .i64 20) := RT.out.m5
      have q0 : wr.drew.cell? ⟨w.heap.size, 5, none⟩ = some (.int .i64 f5) := R0.out.cell 5
      have fr : wr.drew.frozen? ⟨w.heap.size, 5, none⟩ = false := R0.out.frozen 5
      by_cases hl : f5 < 1
      · have HE : Hid (clampI f5 1 20 = 1) := Lib.hid (clampI_lo hl (by omega))
        go_wp2_with fail
        go_region_held3 (fun W => W.cell? ⟨2, 5, none⟩ = some (.int .i64 1) ∧ W.cell? ⟨0, 5, none⟩ = some (.int .i64 20))
          (first | with_reducible exact ⟨y0, y1⟩ | exact ⟨(World.cell?_setCell_far _ _ _ _ (show w.heap.size ≠ 2 by omega)).trans y0, (World.cell?_setCell_far _ _ _ _ (show w.heap.size ≠ 0 by omega)).trans y1⟩) (fail)
        have HR := Lib.hid (sblk_put R0.out.drew 5 (.int .i64 1))
        have HR1 := Lib.hid (sblk_far R1.out.drew (p := ⟨w.heap.size, 5, none⟩) (show w.heap.size + 1 ≠ w.heap.size by omega) (.int .i64 1))
        have HRB := Lib.hid (RB.out.drew.setCell (p := ⟨w.heap.size, 5, none⟩) (Nat.le_refl _) (.int .i64 1))
        clear y0 y1 q0 fr hx
        go_wp2
        go_roundw
        case rel => exact ⟨6, by omega, by first | rfl | go_num, by have h := HR.out; have e : (keptTo f0 f1 f2 f3 f4 f5 f6 f7 f8 5).setIfInBounds 5 (.int .i64 1) = keptTo f0 f1 f2 f3 f4 f5 f6 f7 f8 6 := (by have h9 := keptTo_5 f0 f1 f2 f3 f4 f5 f6 f7 f8; rw [HE.out] at h9; exact h9); rw [e] at h; exact h, HR1.out, HRB.out⟩
        case measure => simp [intOf]
      · by_cases hh : 20 < f5
        · have HE : Hid (clampI f5 1 20 = 20) := Lib.hid (clampI_hi hh (by omega))
          go_wp2_with fail
          go_region_held3 (fun W => W.cell? ⟨2, 5, none⟩ = some (.int .i64 1) ∧ W.cell? ⟨0, 5, none⟩ = some (.int .i64 20))
            (first | with_reducible exact ⟨y0, y1⟩ | exact ⟨(World.cell?_setCell_far _ _ _ _ (show w.heap.size ≠ 2 by omega)).trans y0, (World.cell?_setCell_far _ _ _ _ (show w.heap.size ≠ 0 by omega)).trans y1⟩) (fail)
          have HR := Lib.hid (sblk_put R0.out.drew 5 (.int .i64 20))
          have HR1 := Lib.hid (sblk_far R1.out.drew (p := ⟨w.heap.size, 5, none⟩) (show w.heap.size + 1 ≠ w.heap.size by omega) (.int .i64 20))
          have HRB := Lib.hid (RB.out.drew.setCell (p := ⟨w.heap.size, 5, none⟩) (Nat.le_refl _) (.int .i64 20))
          clear y0 y1 q0 fr hx
          go_wp2
          go_roundw
          case rel => exact ⟨6, by omega, by first | rfl | go_num, by have h := HR.out; have e : (keptTo f0 f1 f2 f3 f4 f5 f6 f7 f8 5).setIfInBounds 5 (.int .i64 20) = keptTo f0 f1 f2 f3 f4 f5 f6 f7 f8 6 := (by have h9 := keptTo_5 f0 f1 f2 f3 f4 f5 f6 f7 f8; rw [HE.out] at h9; exact h9); rw [e] at h; exact h, HR1.out, HRB.out⟩
          case measure => simp [intOf]
        · have HE : Hid (clampI f5 1 20 = f5) := Lib.hid (clampI_id hl hh)
          go_wp2_with fail
          go_region_held3 (fun W => W.cell? ⟨2, 5, none⟩ = some (.int .i64 1) ∧ W.cell? ⟨0, 5, none⟩ = some (.int .i64 20))
            (first | with_reducible exact ⟨y0, y1⟩ | exact ⟨(World.cell?_setCell_far _ _ _ _ (show w.heap.size ≠ 2 by omega)).trans y0, (World.cell?_setCell_far _ _ _ _ (show w.heap.size ≠ 0 by omega)).trans y1⟩) (fail)
          have HR := Lib.hid (sblk_put R0.out.drew 5 (.int .i64 f5))
          have HR1 := Lib.hid (sblk_far R1.out.drew (p := ⟨w.heap.size, 5, none⟩) (show w.heap.size + 1 ≠ w.heap.size by omega) (.int .i64 f5))
          have HRB := Lib.hid (RB.out.drew.setCell (p := ⟨w.heap.size, 5, none⟩) (Nat.le_refl _) (.int .i64 f5))
          clear y0 y1 q0 fr hx
          go_wp2
          go_roundw
          case rel => exact ⟨6, by omega, by first | rfl | go_num, by have h := HR.out; have e : (keptTo f0 f1 f2 f3 f4 f5 f6 f7 f8 5).setIfInBounds 5 (.int .i64 f5) = keptTo f0 f1 f2 f3 f4 f5 f6 f7 f8 6 := (by have h9 := keptTo_5 f0 f1 f2 f3 f4 f5 f6 f7 f8; rw [HE.out] at h9; exact h9); rw [e] at h; exact h, HR1.out, HRB.out⟩
          case measure => simp [intOf]
    · have hx := fun W => index6 f0 f1 f2 f3 f4 f5 f6 f7 f8 W
      have y0 : wr.drew.cell? ⟨2, 6, none⟩ = some (.int .i64 1) := RT.out.l6
      have y1 : wr.drew.cell? ⟨0, 6, none⟩ = some (.int .i64 20) := RT.out.m6
      have q0 : wr.drew.cell? ⟨w.heap.size, 6, none⟩ = some (.int .i64 f6) := R0.out.cell 6
      have fr : wr.drew.frozen? ⟨w.heap.size, 6, none⟩ = false := R0.out.frozen 6
      by_cases hl : f6 < 1
      · have HE : Hid (clampI f6 1 20 = 1) := Lib.hid (clampI_lo hl (by omega))
        go_wp2_with fail
        go_region_held3 (fun W => W.cell? ⟨2, 6, none⟩ = some (.int .i64 1) ∧ W.cell? ⟨0, 6, none⟩ = some (.int .i64 20))
          (first | with_reducible exact ⟨y0, y1⟩ | exact ⟨(World.cell?_setCell_far _ _ _ _ (show w.heap.size ≠ 2 by omega)).trans y0, (World.cell?_setCell_far _ _ _ _ (show w.heap.size ≠ 0 by omega)).trans y1⟩) (fail)
        have HR := Lib.hid (sblk_put R0.out.drew 6 (.int .i64 1))
        have HR1 := Lib.hid (sblk_far R1.out.drew (p := ⟨w.heap.size, 6, none⟩) (show w.heap.size + 1 ≠ w.heap.size by omega) (.int .i64 1))
        have HRB := Lib.hid (RB.out.drew.setCell (p := ⟨w.heap.size, 6, none⟩) (Nat.le_refl _) (.int .i64 1))
        clear y0 y1 q0 fr hx
        go_wp2
        go_roundw
        case rel => exact ⟨7, by omega, by first | rfl | go_num, by have h := HR.out; have e : (keptTo f0 f1 f2 f3 f4 f5 f6 f7 f8 6).setIfInBounds 6 (.int .i64 1) = keptTo f0 f1 f2 f3 f4 f5 f6 f7 f8 7 := (by have h9 := keptTo_6 f0 f1 f2 f3 f4 f5 f6 f7 f8; rw [HE.out] at h9; exact h9); rw [e] at h; exact h, HR1.out, HRB.out⟩
        case measure => simp [intOf]
      · by_cases hh : 20 < f6
        · have HE : Hid (clampI f6 1 20 = 20) := Lib.hid (clampI_hi hh (by omega))
          go_wp2_with fail
          go_region_held3 (fun W => W.cell? ⟨2, 6, none⟩ = some (.int .i64 1) ∧ W.cell? ⟨0, 6, none⟩ = some (.int .i64 20))
            (first | with_reducible exact ⟨y0, y1⟩ | exact ⟨(World.cell?_setCell_far _ _ _ _ (show w.heap.size ≠ 2 by omega)).trans y0, (World.cell?_setCell_far _ _ _ _ (show w.heap.size ≠ 0 by omega)).trans y1⟩) (fail)
          have HR := Lib.hid (sblk_put R0.out.drew 6 (.int .i64 20))
          have HR1 := Lib.hid (sblk_far R1.out.drew (p := ⟨w.heap.size, 6, none⟩) (show w.heap.size + 1 ≠ w.heap.size by omega) (.int .i64 20))
          have HRB := Lib.hid (RB.out.drew.setCell (p := ⟨w.heap.size, 6, none⟩) (Nat.le_refl _) (.int .i64 20))
          clear y0 y1 q0 fr hx
          go_wp2
          go_roundw
          case rel => exact ⟨7, by omega, by first | rfl | go_num, by have h := HR.out; have e : (keptTo f0 f1 f2 f3 f4 f5 f6 f7 f8 6).setIfInBounds 6 (.int .i64 20) = keptTo f0 f1 f2 f3 f4 f5 f6 f7 f8 7 := (by have h9 := keptTo_6 f0 f1 f2 f3 f4 f5 f6 f7 f8; rw [HE.out] at h9; exact h9); rw [e] at h; exact h, HR1.out, HRB.out⟩
          case measure => simp [intOf]
        · have HE : Hid (clampI f6 1 20 = f6) := Lib.hid (clampI_id hl hh)
          go_wp2_with fail
          go_region_held3 (fun W => W.cell? ⟨2, 6, none⟩ = some (.int .i64 1) ∧ W.cell? ⟨0, 6, none⟩ = some (.int .i64 20))
            (first | with_reducible exact ⟨y0, y1⟩ | exact ⟨(World.cell?_setCell_far _ _ _ _ (show w.heap.size ≠ 2 by omega)).trans y0, (World.cell?_setCell_far _ _ _ _ (show w.heap.size ≠ 0 by omega)).trans y1⟩) (fail)
          have HR := Lib.hid (sblk_put R0.out.drew 6 (.int .i64 f6))
          have HR1 := Lib.hid (sblk_far R1.out.drew (p := ⟨w.heap.size, 6, none⟩) (show w.heap.size + 1 ≠ w.heap.size by omega) (.int .i64 f6))
          have HRB := Lib.hid (RB.out.drew.setCell (p := ⟨w.heap.size, 6, none⟩) (Nat.le_refl _) (.int .i64 f6))
          clear y0 y1 q0 fr hx
          go_wp2
          go_roundw
          case rel => exact ⟨7, by omega, by first | rfl | go_num, by have h := HR.out; have e : (keptTo f0 f1 f2 f3 f4 f5 f6 f7 f8 6).setIfInBounds 6 (.int .i64 f6) = keptTo f0 f1 f2 f3 f4 f5 f6 f7 f8 7 := (by have h9 := keptTo_6 f0 f1 f2 f3 f4 f5 f6 f7 f8; rw [HE.out] at h9; exact h9); rw [e] at h; exact h, HR1.out, HRB.out⟩
          case measure => simp [intOf]
    · have hx := fun W => index7 f0 f1 f2 f3 f4 f5 f6 f7 f8 W
      have y0 : wr.drew.cell? ⟨2, 7, none⟩ = some (.int .i64 1) := RT.out.l7
      have y1 : wr.drew.cell? ⟨0, 7, none⟩ = some (.int .i64 20) := RT.out.m7
      have q0 : wr.drew.cell? ⟨w.heap.size, 7, none⟩ = some (.int .i64 f7) := R0.out.cell 7
      have fr : wr.drew.frozen? ⟨w.heap.size, 7, none⟩ = false := R0.out.frozen 7
      by_cases hl : f7 < 1
      · have HE : Hid (clampI f7 1 20 = 1) := Lib.hid (clampI_lo hl (by omega))
        go_wp2_with fail
        go_region_held3 (fun W => W.cell? ⟨2, 7, none⟩ = some (.int .i64 1) ∧ W.cell? ⟨0, 7, none⟩ = some (.int .i64 20))
          (first | with_reducible exact ⟨y0, y1⟩ | exact ⟨(World.cell?_setCell_far _ _ _ _ (show w.heap.size ≠ 2 by omega)).trans y0, (World.cell?_setCell_far _ _ _ _ (show w.heap.size ≠ 0 by omega)).trans y1⟩) (fail)
        have HR := Lib.hid (sblk_put R0.out.drew 7 (.int .i64 1))
        have HR1 := Lib.hid (sblk_far R1.out.drew (p := ⟨w.heap.size, 7, none⟩) (show w.heap.size + 1 ≠ w.heap.size by omega) (.int .i64 1))
        have HRB := Lib.hid (RB.out.drew.setCell (p := ⟨w.heap.size, 7, none⟩) (Nat.le_refl _) (.int .i64 1))
        clear y0 y1 q0 fr hx
        go_wp2
        go_roundw
        case rel => exact ⟨8, by omega, by first | rfl | go_num, by have h := HR.out; have e : (keptTo f0 f1 f2 f3 f4 f5 f6 f7 f8 7).setIfInBounds 7 (.int .i64 1) = keptTo f0 f1 f2 f3 f4 f5 f6 f7 f8 8 := (by have h9 := keptTo_7 f0 f1 f2 f3 f4 f5 f6 f7 f8; rw [HE.out] at h9; exact h9); rw [e] at h; exact h, HR1.out, HRB.out⟩
        case measure => simp [intOf]
      · by_cases hh : 20 < f7
        · have HE : Hid (clampI f7 1 20 = 20) := Lib.hid (clampI_hi hh (by omega))
          go_wp2_with fail
          go_region_held3 (fun W => W.cell? ⟨2, 7, none⟩ = some (.int .i64 1) ∧ W.cell? ⟨0, 7, none⟩ = some (.int .i64 20))
            (first | with_reducible exact ⟨y0, y1⟩ | exact ⟨(World.cell?_setCell_far _ _ _ _ (show w.heap.size ≠ 2 by omega)).trans y0, (World.cell?_setCell_far _ _ _ _ (show w.heap.size ≠ 0 by omega)).trans y1⟩) (fail)
          have HR := Lib.hid (sblk_put R0.out.drew 7 (.int .i64 20))
          have HR1 := Lib.hid (sblk_far R1.out.drew (p := ⟨w.heap.size, 7, none⟩) (show w.heap.size + 1 ≠ w.heap.size by omega) (.int .i64 20))
          have HRB := Lib.hid (RB.out.drew.setCell (p := ⟨w.heap.size, 7, none⟩) (Nat.le_refl _) (.int .i64 20))
          clear y0 y1 q0 fr hx
          go_wp2
          go_roundw
          case rel => exact ⟨8, by omega, by first | rfl | go_num, by have h := HR.out; have e : (keptTo f0 f1 f2 f3 f4 f5 f6 f7 f8 7).setIfInBounds 7 (.int .i64 20) = keptTo f0 f1 f2 f3 f4 f5 f6 f7 f8 8 := (by have h9 := keptTo_7 f0 f1 f2 f3 f4 f5 f6 f7 f8; rw [HE.out] at h9; exact h9); rw [e] at h; exact h, HR1.out, HRB.out⟩
          case measure => simp [intOf]
        · have HE : Hid (clampI f7 1 20 = f7) := Lib.hid (clampI_id hl hh)
          go_wp2_with fail
          go_region_held3 (fun W => W.cell? ⟨2, 7, none⟩ = some (.int .i64 1) ∧ W.cell? ⟨0, 7, none⟩ = some (.int .i64 20))
            (first | with_reducible exact ⟨y0, y1⟩ | exact ⟨(World.cell?_setCell_far _ _ _ _ (show w.heap.size ≠ 2 by omega)).trans y0, (World.cell?_setCell_far _ _ _ _ (show w.heap.size ≠ 0 by omega)).trans y1⟩) (fail)
          have HR := Lib.hid (sblk_put R0.out.drew 7 (.int .i64 f7))
          have HR1 := Lib.hid (sblk_far R1.out.drew (p := ⟨w.heap.size, 7, none⟩) (show w.heap.size + 1 ≠ w.heap.size by omega) (.int .i64 f7))
          have HRB := Lib.hid (RB.out.drew.setCell (p := ⟨w.heap.size, 7, none⟩) (Nat.le_refl _) (.int .i64 f7))
          clear y0 y1 q0 fr hx
          go_wp2
          go_roundw
          case rel => exact ⟨8, by omega, by first | rfl | go_num, by have h := HR.out; have e : (keptTo f0 f1 f2 f3 f4 f5 f6 f7 f8 7).setIfInBounds 7 (.int .i64 f7) = keptTo f0 f1 f2 f3 f4 f5 f6 f7 f8 8 := (by have h9 := keptTo_7 f0 f1 f2 f3 f4 f5 f6 f7 f8; rw [HE.out] at h9; exact h9); rw [e] at h; exact h, HR1.out, HRB.out⟩
          case measure => simp [intOf]
    · have hx := fun W => index8 f0 f1 f2 f3 f4 f5 f6 f7 f8 W
      have y0 : wr.drew.cell? ⟨2, 8, none⟩ = some (.int .i64 1) := RT.out.l8
      have y1 : wr.drew.cell? ⟨0, 8, none⟩ = some (.int .i64 40) := RT.out.m8
      have q0 : wr.drew.cell? ⟨w.heap.size, 8, none⟩ = some (.int .i64 f8) := R0.out.cell 8
      have fr : wr.drew.frozen? ⟨w.heap.size, 8, none⟩ = false := R0.out.frozen 8
      by_cases hl : f8 < 1
      · have HE : Hid (clampI f8 1 40 = 1) := Lib.hid (clampI_lo hl (by omega))
        go_wp2_with fail
        go_region_held3 (fun W => W.cell? ⟨2, 8, none⟩ = some (.int .i64 1) ∧ W.cell? ⟨0, 8, none⟩ = some (.int .i64 40))
          (first | with_reducible exact ⟨y0, y1⟩ | exact ⟨(World.cell?_setCell_far _ _ _ _ (show w.heap.size ≠ 2 by omega)).trans y0, (World.cell?_setCell_far _ _ _ _ (show w.heap.size ≠ 0 by omega)).trans y1⟩) (fail)
        have HR := Lib.hid (sblk_put R0.out.drew 8 (.int .i64 1))
        have HR1 := Lib.hid (sblk_far R1.out.drew (p := ⟨w.heap.size, 8, none⟩) (show w.heap.size + 1 ≠ w.heap.size by omega) (.int .i64 1))
        have HRB := Lib.hid (RB.out.drew.setCell (p := ⟨w.heap.size, 8, none⟩) (Nat.le_refl _) (.int .i64 1))
        clear y0 y1 q0 fr hx
        go_wp2
        go_roundw
        case rel => exact ⟨9, by omega, by first | rfl | go_num, by have h := HR.out; have e : (keptTo f0 f1 f2 f3 f4 f5 f6 f7 f8 8).setIfInBounds 8 (.int .i64 1) = keptTo f0 f1 f2 f3 f4 f5 f6 f7 f8 9 := (by have h9 := keptTo_8 f0 f1 f2 f3 f4 f5 f6 f7 f8; rw [HE.out] at h9; exact h9); rw [e] at h; exact h, HR1.out, HRB.out⟩
        case measure => simp [intOf]
      · by_cases hh : 40 < f8
        · have HE : Hid (clampI f8 1 40 = 40) := Lib.hid (clampI_hi hh (by omega))
          go_wp2_with fail
          go_region_held3 (fun W => W.cell? ⟨2, 8, none⟩ = some (.int .i64 1) ∧ W.cell? ⟨0, 8, none⟩ = some (.int .i64 40))
            (first | with_reducible exact ⟨y0, y1⟩ | exact ⟨(World.cell?_setCell_far _ _ _ _ (show w.heap.size ≠ 2 by omega)).trans y0, (World.cell?_setCell_far _ _ _ _ (show w.heap.size ≠ 0 by omega)).trans y1⟩) (fail)
          have HR := Lib.hid (sblk_put R0.out.drew 8 (.int .i64 40))
          have HR1 := Lib.hid (sblk_far R1.out.drew (p := ⟨w.heap.size, 8, none⟩) (show w.heap.size + 1 ≠ w.heap.size by omega) (.int .i64 40))
          have HRB := Lib.hid (RB.out.drew.setCell (p := ⟨w.heap.size, 8, none⟩) (Nat.le_refl _) (.int .i64 40))
          clear y0 y1 q0 fr hx
          go_wp2
          go_roundw
          case rel => exact ⟨9, by omega, by first | rfl | go_num, by have h := HR.out; have e : (keptTo f0 f1 f2 f3 f4 f5 f6 f7 f8 8).setIfInBounds 8 (.int .i64 40) = keptTo f0 f1 f2 f3 f4 f5 f6 f7 f8 9 := (by have h9 := keptTo_8 f0 f1 f2 f3 f4 f5 f6 f7 f8; rw [HE.out] at h9; exact h9); rw [e] at h; exact h, HR1.out, HRB.out⟩
          case measure => simp [intOf]
        · have HE : Hid (clampI f8 1 40 = f8) := Lib.hid (clampI_id hl hh)
          go_wp2_with fail
          go_region_held3 (fun W => W.cell? ⟨2, 8, none⟩ = some (.int .i64 1) ∧ W.cell? ⟨0, 8, none⟩ = some (.int .i64 40))
            (first | with_reducible exact ⟨y0, y1⟩ | exact ⟨(World.cell?_setCell_far _ _ _ _ (show w.heap.size ≠ 2 by omega)).trans y0, (World.cell?_setCell_far _ _ _ _ (show w.heap.size ≠ 0 by omega)).trans y1⟩) (fail)
          have HR := Lib.hid (sblk_put R0.out.drew 8 (.int .i64 f8))
          have HR1 := Lib.hid (sblk_far R1.out.drew (p := ⟨w.heap.size, 8, none⟩) (show w.heap.size + 1 ≠ w.heap.size by omega) (.int .i64 f8))
          have HRB := Lib.hid (RB.out.drew.setCell (p := ⟨w.heap.size, 8, none⟩) (Nat.le_refl _) (.int .i64 f8))
          clear y0 y1 q0 fr hx
          go_wp2
          go_roundw
          case rel => exact ⟨9, by omega, by first | rfl | go_num, by have h := HR.out; have e : (keptTo f0 f1 f2 f3 f4 f5 f6 f7 f8 8).setIfInBounds 8 (.int .i64 f8) = keptTo f0 f1 f2 f3 f4 f5 f6 f7 f8 9 := (by have h9 := keptTo_8 f0 f1 f2 f3 f4 f5 f6 f7 f8; rw [HE.out] at h9; exact h9); rw [e] at h; exact h, HR1.out, HRB.out⟩
          case measure => simp [intOf]
    · have HP : Hid (∀ W, Below w.heap.size w W → True) := Lib.hid (fun _ _ => trivial)
      have q0 := R0.out.cell
      have q1 := R1.out.cell
      have frz := R1.out.frozen
      have g0 : keptTo f0 f1 f2 f3 f4 f5 f6 f7 f8 9 = #[.int .i64 (clampI f0 1 6), .int .i64 (clampI f1 1 4), .int .i64 (clampI f2 1 1000), .int .i64 (clampI f3 0 1000), .int .i64 (clampI f4 0 1000), .int .i64 (clampI f5 1 20), .int .i64 (clampI f6 1 20), .int .i64 (clampI f7 1 20), .int .i64 (clampI f8 1 40)] := rfl
      rw [g0] at q0
      have HB := Lib.hid (fun v0 v1 v2 v3 v4 v5 v6 v7 v8 : Value => ((((((((RB.out.setCell (p := ⟨w.heap.size + 1, 0, none⟩) (Nat.le_succ _) v0).setCell (p := ⟨w.heap.size + 1, 1, none⟩) (Nat.le_succ _) v1).setCell (p := ⟨w.heap.size + 1, 2, none⟩) (Nat.le_succ _) v2).setCell (p := ⟨w.heap.size + 1, 3, none⟩) (Nat.le_succ _) v3).setCell (p := ⟨w.heap.size + 1, 4, none⟩) (Nat.le_succ _) v4).setCell (p := ⟨w.heap.size + 1, 5, none⟩) (Nat.le_succ _) v5).setCell (p := ⟨w.heap.size + 1, 6, none⟩) (Nat.le_succ _) v6).setCell (p := ⟨w.heap.size + 1, 7, none⟩) (Nat.le_succ _) v7).setCell (p := ⟨w.heap.size + 1, 8, none⟩) (Nat.le_succ _) v8)
      clear g0 HP
      obtain ⟨c0, hc0⟩ : ∃ c, c = clampI f0 1 6 := ⟨_, rfl⟩
      rw [← hc0] at q0
      have HC0 := Lib.hid hc0
      clear hc0
      obtain ⟨c1, hc1⟩ : ∃ c, c = clampI f1 1 4 := ⟨_, rfl⟩
      rw [← hc1] at q0
      have HC1 := Lib.hid hc1
      clear hc1
      obtain ⟨c2, hc2⟩ : ∃ c, c = clampI f2 1 1000 := ⟨_, rfl⟩
      rw [← hc2] at q0
      have HC2 := Lib.hid hc2
      clear hc2
      obtain ⟨c3, hc3⟩ : ∃ c, c = clampI f3 0 1000 := ⟨_, rfl⟩
      rw [← hc3] at q0
      have HC3 := Lib.hid hc3
      clear hc3
      obtain ⟨c4, hc4⟩ : ∃ c, c = clampI f4 0 1000 := ⟨_, rfl⟩
      rw [← hc4] at q0
      have HC4 := Lib.hid hc4
      clear hc4
      obtain ⟨c5, hc5⟩ : ∃ c, c = clampI f5 1 20 := ⟨_, rfl⟩
      rw [← hc5] at q0
      have HC5 := Lib.hid hc5
      clear hc5
      obtain ⟨c6, hc6⟩ : ∃ c, c = clampI f6 1 20 := ⟨_, rfl⟩
      rw [← hc6] at q0
      have HC6 := Lib.hid hc6
      clear hc6
      obtain ⟨c7, hc7⟩ : ∃ c, c = clampI f7 1 20 := ⟨_, rfl⟩
      rw [← hc7] at q0
      have HC7 := Lib.hid hc7
      clear hc7
      obtain ⟨c8, hc8⟩ : ∃ c, c = clampI f8 1 40 := ⟨_, rfl⟩
      rw [← hc8] at q0
      have HC8 := Lib.hid hc8
      clear hc8
      go_wp2
      exact bodyPost_ret (v := .agg #[.int .i64 c0, .int .i64 c1, .int .i64 c2, .int .i64 c3, .int .i64 c4, .int .i64 c5, .int .i64 c6, .int .i64 c7, .int .i64 c8]) (by simp [results, Tryd.results80, go_sem, q1]) rfl ⟨by rw [HC0.out, HC1.out, HC2.out, HC3.out, HC4.out, HC5.out, HC6.out, HC7.out, HC8.out], HB.out _ _ _ _ _ _ _ _ _⟩
theorem setOk_clamp (f0 f1 f2 f3 f4 f5 f6 f7 f8 : Int) : setOk f0 f1 f2 f3 f4 f5 f6 f7 f8 = ((f0 == clampI f0 1 6) && (f1 == clampI f1 1 4) && (f2 == clampI f2 1 1000) && (f3 == clampI f3 0 1000) && (f4 == clampI f4 0 1000) && (f5 == clampI f5 1 20) && (f6 == clampI f6 1 20) && (f7 == clampI f7 1 20) && (f8 == clampI f8 1 40)) := by
  have h : ∀ x l m : Int, l ≤ m → inB x l m = (x == clampI x l m) := fun x l m hlm => by
    unfold clampI inB
    by_cases h1 : x < l
    · rw [if_pos h1, if_neg (by omega), decide_eq_false (show ¬ (l ≤ x ∧ x ≤ m) by omega), beq_eq_false_iff_ne.2 (show x ≠ l by omega)]
    · rw [if_neg h1]
      by_cases h2 : m < x
      · rw [if_pos h2, decide_eq_false (show ¬ (l ≤ x ∧ x ≤ m) by omega), beq_eq_false_iff_ne.2 (show x ≠ m by omega)]
      · rw [if_neg h2, decide_eq_true (show l ≤ x ∧ x ≤ m by omega), beq_self_eq_true]
  unfold setOk
  rw [h f0 1 6 (by omega), h f1 1 4 (by omega), h f2 1 1000 (by omega), h f3 0 1000 (by omega), h f4 0 1000 (by omega), h f5 1 20 (by omega), h f6 1 20 (by omega), h f7 1 20 (by omega), h f8 1 40 (by omega)]
set_option maxHeartbeats 8000000 in
set_option maxRecDepth 100000 in
theorem implSetOk_x (f0 f1 f2 f3 f4 f5 f6 f7 f8 : Int) (hi : Nat) (w : World) (ht : Tabs w hi) (hB : hi ≤ w.heap.size) : Calls Tryd.prog 31 #[.agg #[.int .i64 f0, .int .i64 f1, .int .i64 f2, .int .i64 f3, .int .i64 f4, .int .i64 f5, .int .i64 f6, .int .i64 f7, .int .i64 f8]] w fun e w' => e = .returned (.bool (setOk f0 f1 f2 f3 f4 f5 f6 f7 f8)) ∧ Below w.heap.size w w' := by
  rw [setOk_clamp]
  have hsz : ∀ W, (Go.sizeOf 3).run Tryd.prog W = .ok 1 W := fun _ => by kernel_rfl
  have hq : ∀ W, (Op.equalIn 10000 67 (.agg #[.int .i64 f0, .int .i64 f1, .int .i64 f2, .int .i64 f3, .int .i64 f4, .int .i64 f5, .int .i64 f6, .int .i64 f7, .int .i64 f8]) (.agg #[.int .i64 (clampI f0 1 6), .int .i64 (clampI f1 1 4), .int .i64 (clampI f2 1 1000), .int .i64 (clampI f3 0 1000), .int .i64 (clampI f4 0 1000), .int .i64 (clampI f5 1 20), .int .i64 (clampI f6 1 20), .int .i64 (clampI f7 1 20), .int .i64 (clampI f8 1 40)])).run Tryd.prog W = .ok ((f0 == clampI f0 1 6) && (f1 == clampI f1 1 4) && (f2 == clampI f2 1 1000) && (f3 == clampI f3 0 1000) && (f4 == clampI f4 0 1000) && (f5 == clampI f5 1 20) && (f6 == clampI f6 1 20) && (f7 == clampI f7 1 20) && (f8 == clampI f8 1 40)) W := fun W => by
    have h := run_equalIn_ints (P := Tryd.prog) W 9998 67 3 9 Tryd.underlying67 Tryd.underlying3 hsz [f0, f1, f2, f3, f4, f5, f6, f7, f8] [(clampI f0 1 6), (clampI f1 1 4), (clampI f2 1 1000), (clampI f3 0 1000), (clampI f4 0 1000), (clampI f5 1 20), (clampI f6 1 20), (clampI f7 1 20), (clampI f8 1 40)] rfl rfl
    have e : ([f0, f1, f2, f3, f4, f5, f6, f7, f8] == ([(clampI f0 1 6), (clampI f1 1 4), (clampI f2 1 1000), (clampI f3 0 1000), (clampI f4 0 1000), (clampI f5 1 20), (clampI f6 1 20), (clampI f7 1 20), (clampI f8 1 40)] : List Int)) = ((f0 == clampI f0 1 6) && (f1 == clampI f1 1 4) && (f2 == clampI f2 1 1000) && (f3 == clampI f3 0 1000) && (f4 == clampI f4 0 1000) && (f5 == clampI f5 1 20) && (f6 == clampI f6 1 20) && (f7 == clampI f7 1 20) && (f8 == clampI f8 1 40)) := by
      simp only [List.cons_beq_cons, Bool.and_assoc]
      simp
    rw [e] at h
    exact h
  have B1 := Lib.hid ((Below.refl w.heap.size w).alloc (Nat.le_refl _) (.cells #[.int .i64 f0, .int .i64 f1, .int .i64 f2, .int .i64 f3, .int .i64 f4, .int .i64 f5, .int .i64 f6, .int .i64 f7, .int .i64 f8] 25))
  have HT := Lib.hid ht
  clear ht
  have HI : Hid (∀ W, Below w.heap.size w W → Calls Tryd.prog 80 #[.agg #[.int .i64 f0, .int .i64 f1, .int .i64 f2, .int .i64 f3, .int .i64 f4, .int .i64 f5, .int .i64 f6, .int .i64 f7, .int .i64 f8]] W fun e w' => e = .returned (.agg #[.int .i64 (clampI f0 1 6), .int .i64 (clampI f1 1 4), .int .i64 (clampI f2 1 1000), .int .i64 (clampI f3 0 1000), .int .i64 (clampI f4 0 1000), .int .i64 (clampI f5 1 20), .int .i64 (clampI f6 1 20), .int .i64 (clampI f7 1 20), .int .i64 (clampI f8 1 40)]) ∧ Below W.heap.size W w') := Lib.hid (fun W hW => inBounds_x f0 f1 f2 f3 f4 f5 f6 f7 f8 hi W (HT.out.below (hW.mono hB)) (Nat.le_trans hB hW.size))
  generalize clampI f0 1 6 = c0 at HI hq ⊢
  generalize clampI f1 1 4 = c1 at HI hq ⊢
  generalize clampI f2 1 1000 = c2 at HI hq ⊢
  generalize clampI f3 0 1000 = c3 at HI hq ⊢
  generalize clampI f4 0 1000 = c4 at HI hq ⊢
  generalize clampI f5 1 20 = c5 at HI hq ⊢
  generalize clampI f6 1 20 = c6 at HI hq ⊢
  generalize clampI f7 1 20 = c7 at HI hq ⊢
  generalize clampI f8 1 40 = c8 at HI hq ⊢
  generalize ((f0 == c0) && (f1 == c1) && (f2 == c2) && (f3 == c3) && (f4 == c4) && (f5 == c5) && (f6 == c6) && (f7 == c7) && (f8 == c8)) = BB at hq ⊢
  go_enter Tryd.func31, Tryd.ntmps31
  go_wp2_with fail
  refine (fieldsOf_x f0 f1 f2 f3 f4 f5 f6 f7 f8 _).mono ?_
  rintro e w1 ⟨rfl, hb⟩
  have B2 := Lib.hid (B1.out.trans (hb.mono (by simp)))
  have B3 := Lib.hid ((B2.out.alloc B2.out.size (.cells #[.int .i64 f0, .int .i64 f1, .int .i64 f2, .int .i64 f3, .int .i64 f4, .int .i64 f5, .int .i64 f6, .int .i64 f7, .int .i64 f8] 67)).drew)
  have K := Lib.hid (Blk.new w1 67 #[.int .i64 f0, .int .i64 f1, .int .i64 f2, .int .i64 f3, .int .i64 f4, .int .i64 f5, .int .i64 f6, .int .i64 f7, .int .i64 f8]).drew
  clear hb
  have y0 : (w1.alloc (.cells #[.int .i64 f0, .int .i64 f1, .int .i64 f2, .int .i64 f3, .int .i64 f4, .int .i64 f5, .int .i64 f6, .int .i64 f7, .int .i64 f8] 67)).drew.rangeAt w1.heap.size 0 [.int .i64 f0, .int .i64 f1, .int .i64 f2, .int .i64 f3, .int .i64 f4, .int .i64 f5, .int .i64 f6, .int .i64 f7, .int .i64 f8] := range_blk K.out
  have hund : Tryd.prog.underlying 67 = some (.array 9 3) := Tryd.underlying67
  have hinf : (Tryd.prog.info? 67).map (·.size) = some ([.int .i64 f0, .int .i64 f1, .int .i64 f2, .int .i64 f3, .int .i64 f4, .int .i64 f5, .int .i64 f6, .int .i64 f7, .int .i64 f8] : List Value).length := by kernel_rfl
  go_wp2_with fail
  refine wp_region_held_drew (S := fun W => W.rangeAt w1.heap.size 0 [.int .i64 f0, .int .i64 f1, .int .i64 f2, .int .i64 f3, .int .i64 f4, .int .i64 f5, .int .i64 f6, .int .i64 f7, .int .i64 f8]) (by kernel_rfl) y0 (fun hHeld => ?_)
  refine' wpAnyH_take (i := 0) (oi := ⟨some 6, _, _, _, _, _⟩) (v := _) rfl (by kernel_rfl) (by kernel_rfl) (by kernel_rfl) (fun _ _ _ h => h) (yieldsIf_load_mid (by rfl) _ _ rfl _ _ rfl [.int .i64 f0, .int .i64 f1, .int .i64 f2, .int .i64 f3, .int .i64 f4, .int .i64 f5, .int .i64 f6, .int .i64 f7, .int .i64 f8] _ (fun W h => h) hund rfl hinf) (by assumption) ?_
  simp only [Act.put, List.setIfInBounds_toArray, List.set_cons_zero, List.set_cons_succ]
  refine' wpAnyH_take (i := 1) (oi := ⟨some 7, _, _, _, _, _⟩) (v := _) rfl (by kernel_rfl) (by kernel_rfl) (by kernel_rfl) (fun _ _ _ h => h) (yieldsIf_load_mid (by rfl) _ _ rfl _ _ rfl [.int .i64 f0, .int .i64 f1, .int .i64 f2, .int .i64 f3, .int .i64 f4, .int .i64 f5, .int .i64 f6, .int .i64 f7, .int .i64 f8] _ (fun W h => h) hund rfl hinf) (by assumption) ?_
  simp only [Act.put, List.setIfInBounds_toArray, List.set_cons_zero, List.set_cons_succ]
  refine wpAnyH_ready (rs := [2]) (by kernel_rfl) (by simp) ?_
  refine AllReadyH.cons (o := ⟨some 8, _, _, _, _, _⟩) rfl (fun KK hK => ?_) AllReadyH.nil
  go_simp
  refine (HI.out _ B3.out).mono ?_
  rintro e w2 ⟨rfl, hb⟩
  have K2 := Lib.hid (K.out.below hb)
  have B4 := Lib.hid (B3.out.trans (hb.mono B3.out.size))
  clear hb
  have z0 : w2.rangeAt w1.heap.size 0 [.int .i64 f0, .int .i64 f1, .int .i64 f2, .int .i64 f3, .int .i64 f4, .int .i64 f5, .int .i64 f6, .int .i64 f7, .int .i64 f8] := range_blk K2.out
  dsimp only
  refine (Go.Shut.out hK) _ _ z0 (fun hHeld => ?_)
  clear hK KK
  refine wpAnyH_ready (rs := [3]) (by kernel_rfl) (by simp) ?_
  refine AllReadyH.cons (o := ⟨some 9, _, _, _, _, _⟩) rfl (fun KK hK => ?_) AllReadyH.nil
  go_simp
  refine (Go.Shut.out hK) _ _ z0 (fun hHeld => ?_)
  clear hK KK
  try simp only [Act.put, List.setIfInBounds_toArray, List.set_cons_zero, List.set_cons_succ]
  refine wpAnyH_ready (rs := [4]) (by kernel_rfl) (by simp) ?_
  refine AllReadyH.cons (o := ⟨some 2, _, _, _, _, _⟩) rfl (fun KK hK => ?_) AllReadyH.nil
  go_simp
  refine (Go.Shut.out hK) _ _ z0 (fun hHeld => ?_)
  clear hK KK
  try simp only [Act.put, List.setIfInBounds_toArray, List.set_cons_zero, List.set_cons_succ]
  refine wpAnyH_done (by kernel_rfl) ?_ _
  clear z0 hund hinf hq
  go_wp2
  go_ret
  exact ⟨rfl, B4.out⟩

def roomOf (f0 f1 f2 f3 f4 f5 f6 f7 f8 : Int) : Int := if setOk f0 f1 f2 f3 f4 f5 f6 f7 f8 = true then f5 + f6 * f1 + f7 else -1
set_option maxHeartbeats 4000000 in
theorem implRoom_x (f0 f1 f2 f3 f4 f5 f6 f7 f8 : Int) (hi : Nat) (w : World) (ht : Tabs w hi) (hB : hi ≤ w.heap.size) : Calls Tryd.prog 10 #[.agg #[.int .i64 f0, .int .i64 f1, .int .i64 f2, .int .i64 f3, .int .i64 f4, .int .i64 f5, .int .i64 f6, .int .i64 f7, .int .i64 f8]] w fun e w' => e = .returned (.int .i64 (roomOf f0 f1 f2 f3 f4 f5 f6 f7 f8)) ∧ Below w.heap.size w w' := by
  have B1 := Lib.hid ((Below.refl w.heap.size w).alloc (Nat.le_refl _) (.cells #[.int .i64 f0, .int .i64 f1, .int .i64 f2, .int .i64 f3, .int .i64 f4, .int .i64 f5, .int .i64 f6, .int .i64 f7, .int .i64 f8] 25))
  have K := Lib.hid (Blk.new w 25 #[.int .i64 f0, .int .i64 f1, .int .i64 f2, .int .i64 f3, .int .i64 f4, .int .i64 f5, .int .i64 f6, .int .i64 f7, .int .i64 f8])
  have HT := Lib.hid ht
  clear ht
  have HO : Hid (∀ W, Below w.heap.size w W → Calls Tryd.prog 31 #[.agg #[.int .i64 f0, .int .i64 f1, .int .i64 f2, .int .i64 f3, .int .i64 f4, .int .i64 f5, .int .i64 f6, .int .i64 f7, .int .i64 f8]] W fun e w' => e = .returned (.bool (setOk f0 f1 f2 f3 f4 f5 f6 f7 f8)) ∧ Below W.heap.size W w') := Lib.hid (fun W hW => implSetOk_x f0 f1 f2 f3 f4 f5 f6 f7 f8 hi W (HT.out.below (hW.mono hB)) (Nat.le_trans hB hW.size))
  unfold roomOf
  cases hS : setOk f0 f1 f2 f3 f4 f5 f6 f7 f8 with
  | false =>
    rw [hS] at HO
    rw [if_neg (by simp)]
    clear hS
    go_enter Tryd.func10, Tryd.ntmps10
    go_wp2_with fail
    refine (HO.out _ B1.out).mono ?_
    rintro e w1 ⟨rfl, hb⟩
    have B2 := Lib.hid (B1.out.trans (hb.mono (by simp)))
    clear hb
    go_wp2
    go_ret
    exact ⟨rfl, B2.out⟩
  | true =>
    rw [hS] at HO
    rw [if_pos rfl]
    unfold setOk at hS
    simp only [Bool.and_eq_true] at hS
    have b1 := inB_bd hS.1.1.1.1.1.1.1.2
    have b5 := inB_bd hS.1.1.1.2
    have b6 := inB_bd hS.1.1.2
    have b7 := inB_bd hS.1.2
    have hm1 : 0 ≤ f6 * f1 := Int.mul_nonneg (by omega) (by omega)
    have hm2 : f6 * f1 ≤ 20 * 4 := Int.mul_le_mul (by omega) (by omega) (by omega) (by omega)
    have w1' : IntKind.i64.wrap (f6 * f1) = f6 * f1 := IntWalk.i64_in _ (by omega)
    have w2' : IntKind.i64.wrap (f5 + f6 * f1) = f5 + f6 * f1 := IntWalk.i64_in _ (by omega)
    have w3' : IntKind.i64.wrap (f5 + f6 * f1 + f7) = f5 + f6 * f1 + f7 := IntWalk.i64_in _ (by omega)
    clear hS b1 b5 b6 b7 hm1 hm2
    go_enter Tryd.func10, Tryd.ntmps10
    go_wp2_with fail
    refine (HO.out _ B1.out).mono ?_
    rintro e w1 ⟨rfl, hb⟩
    have B2 := Lib.hid (B1.out.trans (hb.mono (by simp)))
    have q := (K.out.below hb).cell
    clear hb
    go_wp2
    go_ret
    exact ⟨rfl, B2.out⟩
set_option maxHeartbeats 4000000 in
theorem specRoom_x (f0 f1 f2 f3 f4 f5 f6 f7 f8 : Int) (w : World) : Calls Tryd.prog 11 #[.agg #[.int .i64 f0, .int .i64 f1, .int .i64 f2, .int .i64 f3, .int .i64 f4, .int .i64 f5, .int .i64 f6, .int .i64 f7, .int .i64 f8]] w fun e w' => e = .returned (.int .i64 (roomOf f0 f1 f2 f3 f4 f5 f6 f7 f8)) ∧ Below w.heap.size w w' := by
  have B1 := Lib.hid ((Below.refl w.heap.size w).alloc (Nat.le_refl _) (.cells #[.int .i64 f0, .int .i64 f1, .int .i64 f2, .int .i64 f3, .int .i64 f4, .int .i64 f5, .int .i64 f6, .int .i64 f7, .int .i64 f8] 25))
  have K := Lib.hid (Blk.new w 25 #[.int .i64 f0, .int .i64 f1, .int .i64 f2, .int .i64 f3, .int .i64 f4, .int .i64 f5, .int .i64 f6, .int .i64 f7, .int .i64 f8])
  have HO : Hid (∀ W, Below w.heap.size w W → Calls Tryd.prog 9 #[.agg #[.int .i64 f0, .int .i64 f1, .int .i64 f2, .int .i64 f3, .int .i64 f4, .int .i64 f5, .int .i64 f6, .int .i64 f7, .int .i64 f8]] W fun e w' => e = .returned (.bool (setOk f0 f1 f2 f3 f4 f5 f6 f7 f8)) ∧ Below W.heap.size W w') := Lib.hid (fun W hW => specSetOk_x f0 f1 f2 f3 f4 f5 f6 f7 f8 W)
  unfold roomOf
  cases hS : setOk f0 f1 f2 f3 f4 f5 f6 f7 f8 with
  | false =>
    rw [hS] at HO
    rw [if_neg (by simp)]
    clear hS
    go_enter Tryd.func11, Tryd.ntmps11
    go_wp2_with fail
    refine (HO.out _ B1.out).mono ?_
    rintro e w1 ⟨rfl, hb⟩
    have B2 := Lib.hid (B1.out.trans (hb.mono (by simp)))
    clear hb
    go_wp2
    go_ret
    exact ⟨rfl, B2.out⟩
  | true =>
    rw [hS] at HO
    rw [if_pos rfl]
    unfold setOk at hS
    simp only [Bool.and_eq_true] at hS
    have b1 := inB_bd hS.1.1.1.1.1.1.1.2
    have b5 := inB_bd hS.1.1.1.2
    have b6 := inB_bd hS.1.1.2
    have b7 := inB_bd hS.1.2
    have hm1 : 0 ≤ f6 * f1 := Int.mul_nonneg (by omega) (by omega)
    have hm2 : f6 * f1 ≤ 20 * 4 := Int.mul_le_mul (by omega) (by omega) (by omega) (by omega)
    have w1' : IntKind.i64.wrap (f6 * f1) = f6 * f1 := IntWalk.i64_in _ (by omega)
    have w2' : IntKind.i64.wrap (f5 + f6 * f1) = f5 + f6 * f1 := IntWalk.i64_in _ (by omega)
    have w3' : IntKind.i64.wrap (f5 + f6 * f1 + f7) = f5 + f6 * f1 + f7 := IntWalk.i64_in _ (by omega)
    clear hS b1 b5 b6 b7 hm1 hm2
    go_enter Tryd.func11, Tryd.ntmps11
    go_wp2_with fail
    refine (HO.out _ B1.out).mono ?_
    rintro e w1 ⟨rfl, hb⟩
    have B2 := Lib.hid (B1.out.trans (hb.mono (by simp)))
    have q := (K.out.below hb).cell
    clear hb
    go_wp2
    go_ret
    exact ⟨rfl, B2.out⟩
end Go.Proofs.YtalelcloppbhcaaDoor
