/- The draws of a frame, of whatever numbers. -/
import Derived.Test.YtpigollgjpkflaaDoorDraw
import Derived.Test.YtpigollgjpkflaaDoorNext
namespace Go.Proofs.YtpigollgjpkflaaDoor
open Go.RowKit

theorem row_cells {w : World} {b : Nat} {T : TypeId} {xs : List Int} {cs : Array Value} (hb : Blk w b T cs) (hcs : cs = (xs.map (Value.int .i64)).toArray) : ∀ i, i < xs.length → w.cell? ⟨b, i, none⟩ = some (.int .i64 (el xs i)) := by
  intro i hi
  subst hcs
  rw [hb.cell i]
  have := el_cell .i64 xs i hi
  simpa using this
theorem Cur.alloc_ {w : World} {p : Nat} {a : Option Addr} {len cap : Nat} (h : Cur w p a len cap) (o : Obj) : Cur (w.alloc o) p a len cap := h.quiet (World.grownBy_alloc w o none)
theorem Cur.set_ {w : World} {p : Nat} {a : Option Addr} {len cap : Nat} (h : Cur w p a len cap) {q i : Nat} (hq : p < q) (v : Value) : Cur (w.setCell ⟨q, i, none⟩ v) p a len cap := by
  have hb : (w.setCell ⟨q, i, none⟩ v).heap[p]? = w.heap[p]? := Below.heap_setCell w ⟨q, i, none⟩ v p (by simp; omega)
  obtain ⟨hlt, hby, h0, ⟨j, hi0, hi1, h1⟩, ⟨x, hx0, hx1, h2⟩, f1, f2⟩ := h
  refine ⟨by simpa using hlt, ⟨hby.small, hby.lies.imp id fun ⟨b, off, ha, hbp, hc⟩ => ⟨b, off, ha, hbp, fun k hk => ?_⟩⟩, (World.cell?_of_block hb).trans h0, ⟨j, hi0, hi1, (World.cell?_of_block hb).trans h1⟩, ⟨x, hx0, hx1, (World.cell?_of_block hb).trans h2⟩,
    (World.frozen?_of_block hb).trans f1, (World.frozen?_of_block hb).trans f2⟩
  obtain ⟨y, y0, y1, hy⟩ := hc k hk
  exact ⟨y, y0, y1, (World.cell?_of_block (Below.heap_setCell w ⟨q, i, none⟩ v b (by simp; omega))).trans hy⟩
/-- A frame that is drawn, as far as it has come. -/
structure DS (p : Nat) (a : Option Addr) (len cap q : Nat) (k y t v : Int) (w W : World) : Prop where
  cur : Cur W p a len cap
  gr : w.grownBy W (some p)
  res : Blk W w.heap.size 36 #[.int .i64 0, .int .i64 0, .int .i64 0, .int .i64 0]
  frm : Blk W q 36 #[.int .i64 k, .int .i64 y, .int .i64 t, .int .i64 v]
  lt : p < w.heap.size
  lq : w.heap.size < q
section
variable {p len cap q : Nat} {a : Option Addr} {k y t v : Int} {w W W' : World}
theorem DS.draw (h : DS p a len cap q k y t v w W) (hc : Cur W' p a len cap) (hg : W.grownBy W' (some p)) : DS p a len cap q k y t v w W' :=
  ⟨hc, grown_trans h.gr hg, h.res.grown hg (fun e => by injection e with e; have := h.lt; omega), h.frm.grown hg (fun e => by injection e with e; have := h.lt; have := h.lq; omega), h.lt, h.lq⟩
theorem DS.alloc_ (h : DS p a len cap q k y t v w W) (o : Obj) : DS p a len cap q k y t v w (W.alloc o) :=
  ⟨h.cur.alloc_ o, grown_trans h.gr (World.grownBy_alloc W o _), h.res.alloc o, h.frm.alloc o, h.lt, h.lq⟩
theorem DS.set (h : DS p a len cap q k y t v w W) {i : Nat} {u : Value} {k' y' t' v' : Int} (hs : (#[Value.int .i64 k, .int .i64 y, .int .i64 t, .int .i64 v] : Array Value).setIfInBounds i u = #[.int .i64 k', .int .i64 y', .int .i64 t', .int .i64 v']) : DS p a len cap q k' y' t' v' w (W.setCell ⟨q, i, none⟩ u) := by
  have h1 := h.lt
  have h2 := h.lq
  have hb : Blk (W.setCell ⟨q, i, none⟩ u) q 36 #[.int .i64 k', .int .i64 y', .int .i64 t', .int .i64 v'] := by
    rw [← hs]
    have hh := h.frm
    unfold Blk at hh ⊢
    simp [World.setCell, Array.getElem?_modify, hh]
  exact ⟨h.cur.set_ (by omega) u, only_set h.gr (.inr (by simp; omega)) u, (Below.heap_setCell W ⟨q, i, none⟩ u w.heap.size (by simp; omega)).trans h.res, hb, h1, h2⟩
end
/-- A frame that was drawn. -/
def FrPost (p : Nat) (a : Option Addr) (len cap : Nat) (w : World) (e : Ending) (w' : World) : Prop :=
  ∃ k y t v : Int, e = .returned (.agg #[.int .i64 k, .int .i64 y, .int .i64 t, .int .i64 v]) ∧ Cur w' p a len cap ∧ w.grownBy w' (some p)
theorem DS.stored {p len cap q : Nat} {a : Option Addr} {k y t v : Int} {w W : World} (h : DS p a len cap q k y t v w W) :
    FrPost p a len cap w (.returned (.agg #[.int .i64 k, .int .i64 y, .int .i64 t, .int .i64 v])) ((((W.setCell ⟨w.heap.size, 0, none⟩ (.int .i64 k)).setCell ⟨w.heap.size, 1, none⟩ (.int .i64 y)).setCell ⟨w.heap.size, 2, none⟩ (.int .i64 t)).setCell ⟨w.heap.size, 3, none⟩ (.int .i64 v)) := by
  have h1 := h.lt
  refine ⟨k, y, t, v, rfl, (((h.cur.set_ h1 _).set_ h1 _).set_ h1 _).set_ h1 _, ?_⟩
  exact only_set (only_set (only_set (only_set h.gr (.inr (Nat.le_refl _)) _) (.inr (Nat.le_refl _)) _) (.inr (Nat.le_refl _)) _) (.inr (Nat.le_refl _)) _

set_option maxRecDepth 100000 in
set_option maxHeartbeats 4000000 in
theorem drawFrame_any (p : Nat) (a : Option Addr) (len cap : Nat) (w : World) (hc : Cur w p a len cap) : Calls Tryd.prog 28 #[.pointer (some ⟨p, 0, none⟩)] w (FrPost p a len cap w) := by
  have HC0 := Lib.hid hc
  have hp := hc.lt
  clear hc
  have C1 := Lib.hid ((HC0.out.alloc_ (.cells #[.int .i64 0, .int .i64 0, .int .i64 0, .int .i64 0] 36)).alloc_ (.cells #[.int .i64 1, .int .i64 1, .int .i64 1, .int .i64 1, .int .i64 2, .int .i64 3] 3))
  have r1 := row_cells (xs := [1, 1, 1, 1, 2, 3]) (Blk.new (w.alloc (.cells #[.int .i64 0, .int .i64 0, .int .i64 0, .int .i64 0] 36)) 3 #[.int .i64 1, .int .i64 1, .int .i64 1, .int .i64 1, .int .i64 2, .int .i64 3]) (by simp)
  simp only [World.size_alloc] at r1
  have R1 := Lib.hid r1
  clear r1
  go_enter Tryd.func28, Tryd.ntmps28
  go_wp2_with fail
  refine (pick_any p a len cap (w.heap.size + 1) 6 [1, 1, 1, 1, 2, 3] (by simp) (by simp) _ C1.out (by simp) (by omega) R1.out).mono ?_
  rintro e w1 ⟨j, hj, rfl, hc, hg⟩
  have hk : el [1, 1, 1, 1, 2, 3] j = 1 ∨ el [1, 1, 1, 1, 2, 3] j = 2 ∨ el [1, 1, 1, 1, 2, 3] j = 3 := by
    have : j = 0 ∨ j = 1 ∨ j = 2 ∨ j = 3 ∨ j = 4 ∨ j = 5 := by simp at hj; omega
    rcases this with rfl | rfl | rfl | rfl | rfl | rfl <;> decide
  have hsz := hg.size
  simp only [World.size_alloc] at hsz
  have DK : Hid (∀ k : Int, DS p a len cap w1.heap.size k 0 0 0 w (w1.alloc (.cells #[.int .i64 k, .int .i64 0, .int .i64 0, .int .i64 0] 36))) := Lib.hid (fun k =>
    ⟨hc.alloc_ _, grown_trans (grown_trans (grown_trans (World.grownBy_alloc w _ _) (World.grownBy_alloc _ _ _)) hg) (World.grownBy_alloc _ _ _),
      ((((Blk.new w 36 #[.int .i64 0, .int .i64 0, .int .i64 0, .int .i64 0]).alloc _).grown hg (fun e => by injection e with e; omega)).alloc _), Blk.new _ _ _, hp, by omega⟩)
  clear hc hg
  generalize el [1, 1, 1, 1, 2, 3] j = K at hk ⊢
  rcases hk with rfl | rfl | rfl
  · have D0 := Lib.hid (DK.out 1)
    go_wp2_with fail
    refine (below_any p a len cap 5 (by omega) (by omega) _ D0.out.cur).mono ?_
    rintro e u1 ⟨x1, rfl, hx10, hx11, hc, hg⟩
    have D1 := Lib.hid (D0.out.draw hc hg)
    have f1 := D1.out.frm.cell
    clear hc hg
    go_wp2_with fail
    refine (below_any p a len cap 5 (by omega) (by omega) _ D1.out.cur).mono ?_
    rintro e u2 ⟨x2, rfl, hx20, hx21, hc, hg⟩
    have D2 := Lib.hid (D1.out.draw hc hg)
    have f2 := D2.out.frm.cell
    clear hc hg
    go_wp2_with fail
    refine (below_any p a len cap 65536 (by omega) (by omega) _ D2.out.cur).mono ?_
    rintro e u3 ⟨x3, rfl, hx30, hx31, hc, hg⟩
    have D3 := Lib.hid (D2.out.draw hc hg)
    have f3 := D3.out.frm.cell
    clear hc hg
    have A4 := Lib.hid (D3.out.alloc_ (.cells #[.int .i64 (x1), .int .i64 (x2), .int .i64 (x3), .int .i64 (65535)] 3))
    have R4 := Lib.hid (row_cells (xs := [x1, x2, x3, 65535]) (Blk.new u3 3 #[.int .i64 (x1), .int .i64 (x2), .int .i64 (x3), .int .i64 (65535)]) (by simp))
    have hq4 := D3.out.cur.lt
    go_wp2_with fail
    refine (pick_any p a len cap u3.heap.size 4 [x1, x2, x3, 65535] (by simp) (by simp) _ A4.out.cur (by simp) (by omega) R4.out).mono ?_
    rintro e v4 ⟨j, hj, rfl, hc, hg⟩
    have E4 := Lib.hid (A4.out.draw hc hg)
    clear hc hg
    generalize el [x1, x2, x3, 65535] j = Y
    have g5 := E4.out.frm.cell
    have z5 := E4.out.frm.frozen
    have D5 := Lib.hid (E4.out.set (i := 1) (u := .int .i64 Y) rfl)
    go_wp2_with fail
    refine (below_any p a len cap 20 (by omega) (by omega) _ D5.out.cur).mono ?_
    rintro e u6 ⟨y1, rfl, hy10, hy11, hc, hg⟩
    have D6 := Lib.hid (D5.out.draw hc hg)
    have f6 := D6.out.frm.cell
    clear hc hg
    go_wp2_with fail
    refine (below_any p a len cap 20 (by omega) (by omega) _ D6.out.cur).mono ?_
    rintro e u7 ⟨y2, rfl, hy20, hy21, hc, hg⟩
    have D7 := Lib.hid (D6.out.draw hc hg)
    have f7 := D7.out.frm.cell
    clear hc hg
    have A8 := Lib.hid (D7.out.alloc_ (.cells #[.int .i64 (y1 - 5), .int .i64 (y2 - 5), .int .i64 (1000000), .int .i64 (-1000000)] 3))
    have R8 := Lib.hid (row_cells (xs := [y1 - 5, y2 - 5, 1000000, -1000000]) (Blk.new u7 3 #[.int .i64 (y1 - 5), .int .i64 (y2 - 5), .int .i64 (1000000), .int .i64 (-1000000)]) (by simp))
    have hq8 := D7.out.cur.lt
    go_wp2_with fail
    refine (pick_any p a len cap u7.heap.size 4 [y1 - 5, y2 - 5, 1000000, -1000000] (by simp) (by simp) _ A8.out.cur (by simp) (by omega) R8.out).mono ?_
    rintro e v8 ⟨j, hj, rfl, hc, hg⟩
    have E8 := Lib.hid (A8.out.draw hc hg)
    clear hc hg
    generalize el [y1 - 5, y2 - 5, 1000000, -1000000] j = V
    have g9 := E8.out.frm.cell
    have z9 := E8.out.frm.frozen
    have D9 := Lib.hid (E8.out.set (i := 3) (u := .int .i64 V) rfl)
    go_wp2_with fail
    refine (below_any p a len cap 60 (by omega) (by omega) _ D9.out.cur).mono ?_
    rintro e u10 ⟨t1, rfl, ht10, ht11, hc, hg⟩
    have D10 := Lib.hid (D9.out.draw hc hg)
    have f10 := D10.out.frm.cell
    clear hc hg
    go_wp2_with fail
    refine (below_any p a len cap 60 (by omega) (by omega) _ D10.out.cur).mono ?_
    rintro e u11 ⟨t2, rfl, ht20, ht21, hc, hg⟩
    have D11 := Lib.hid (D10.out.draw hc hg)
    have f11 := D11.out.frm.cell
    clear hc hg
    have A12 := Lib.hid (D11.out.alloc_ (.cells #[.int .i64 (t1), .int .i64 (t2), .int .i64 (0), .int .i64 (1000000)] 3))
    have R12 := Lib.hid (row_cells (xs := [t1, t2, 0, 1000000]) (Blk.new u11 3 #[.int .i64 (t1), .int .i64 (t2), .int .i64 (0), .int .i64 (1000000)]) (by simp))
    have hq12 := D11.out.cur.lt
    go_wp2_with fail
    refine (pick_any p a len cap u11.heap.size 4 [t1, t2, 0, 1000000] (by simp) (by simp) _ A12.out.cur (by simp) (by omega) R12.out).mono ?_
    rintro e v12 ⟨j, hj, rfl, hc, hg⟩
    have E12 := Lib.hid (A12.out.draw hc hg)
    clear hc hg
    generalize el [t1, t2, 0, 1000000] j = T
    have g13 := E12.out.frm.cell
    have z13 := E12.out.frm.frozen
    have D13 := Lib.hid (E12.out.set (i := 2) (u := .int .i64 T) rfl)
    have HP := Lib.hid D13.out.stored
    have r9 := D13.out.res.cell
    have z9 := D13.out.res.frozen
    have q9 := D13.out.frm.cell
    go_wp2
    exact bodyPost_ret (v := .agg #[.int .i64 (1), .int .i64 (Y), .int .i64 (T), .int .i64 (V)]) (by simp [results, Tryd.results28, go_sem, r9]) rfl HP.out
  · have D0 := Lib.hid (DK.out 2)
    have f0 := D0.out.frm.cell
    go_wp2_with fail
    refine (below_any p a len cap 60 (by omega) (by omega) _ D0.out.cur).mono ?_
    rintro e u14 ⟨t1, rfl, ht10, ht11, hc, hg⟩
    have D14 := Lib.hid (D0.out.draw hc hg)
    have f14 := D14.out.frm.cell
    clear hc hg
    go_wp2_with fail
    refine (below_any p a len cap 60 (by omega) (by omega) _ D14.out.cur).mono ?_
    rintro e u15 ⟨t2, rfl, ht20, ht21, hc, hg⟩
    have D15 := Lib.hid (D14.out.draw hc hg)
    have f15 := D15.out.frm.cell
    clear hc hg
    have A16 := Lib.hid (D15.out.alloc_ (.cells #[.int .i64 (t1), .int .i64 (t2), .int .i64 (0), .int .i64 (1000000)] 3))
    have R16 := Lib.hid (row_cells (xs := [t1, t2, 0, 1000000]) (Blk.new u15 3 #[.int .i64 (t1), .int .i64 (t2), .int .i64 (0), .int .i64 (1000000)]) (by simp))
    have hq16 := D15.out.cur.lt
    go_wp2_with fail
    refine (pick_any p a len cap u15.heap.size 4 [t1, t2, 0, 1000000] (by simp) (by simp) _ A16.out.cur (by simp) (by omega) R16.out).mono ?_
    rintro e v16 ⟨j, hj, rfl, hc, hg⟩
    have E16 := Lib.hid (A16.out.draw hc hg)
    clear hc hg
    generalize el [t1, t2, 0, 1000000] j = T
    have g17 := E16.out.frm.cell
    have z17 := E16.out.frm.frozen
    have D17 := Lib.hid (E16.out.set (i := 2) (u := .int .i64 T) rfl)
    have HP := Lib.hid D17.out.stored
    have r9 := D17.out.res.cell
    have z9 := D17.out.res.frozen
    have q9 := D17.out.frm.cell
    go_wp2
    exact bodyPost_ret (v := .agg #[.int .i64 (2), .int .i64 (0), .int .i64 (T), .int .i64 (0)]) (by simp [results, Tryd.results28, go_sem, r9]) rfl HP.out
  · have D0 := Lib.hid (DK.out 3)
    have f0 := D0.out.frm.cell
    have HP := Lib.hid D0.out.stored
    have r9 := D0.out.res.cell
    have z9 := D0.out.res.frozen
    have q9 := D0.out.frm.cell
    go_wp2
    exact bodyPost_ret (v := .agg #[.int .i64 (3), .int .i64 (0), .int .i64 (0), .int .i64 (0)]) (by simp [results, Tryd.results28, go_sem, r9]) rfl HP.out
/-- A frame, and of what was there nothing has turned. -/
def FrNew (w : World) (e : Ending) (w' : World) : Prop := ∃ k y t v : Int, e = .returned (.agg #[.int .i64 k, .int .i64 y, .int .i64 t, .int .i64 v]) ∧ Below w.heap.size w w'
theorem set4_below {B g : Nat} {w w1 : World} {v0 v1 v2 v3 : Value} (hb : Below B w w1) (hg : B ≤ g) : Below B w ((((w1.setCell ⟨g, 0, none⟩ v0).setCell ⟨g, 1, none⟩ v1).setCell ⟨g, 2, none⟩ v2).setCell ⟨g, 3, none⟩ v3) :=
  (((hb.setCell (p := ⟨g, 0, none⟩) hg _).setCell (p := ⟨g, 1, none⟩) hg _).setCell (p := ⟨g, 2, none⟩) hg _).setCell (p := ⟨g, 3, none⟩) hg _
end Go.Proofs.YtpigollgjpkflaaDoor
