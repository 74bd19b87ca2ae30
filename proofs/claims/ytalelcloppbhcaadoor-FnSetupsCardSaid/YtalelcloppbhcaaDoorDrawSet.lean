/- The draw of a setup: whatever it is, it is one. -/
import Derived.Test.YtalelcloppbhcaaDoorDraw
import Derived.Test.YtalelcloppbhcaaDoorSetT
import Derived.Test.YtalelcloppbhcaaDoorPs1
import Derived.Deep.RegionWith
import Derived.Deep.CutRange
namespace Go.Proofs.YtalelcloppbhcaaDoor
open Go.RowKit

theorem Bytes.belowS {w w' : World} {B : Nat} {a : Option Addr} {len : Nat} (h : Bytes w B a len) (hb : Below B w w') : Bytes w' B a len :=
  ⟨h.small, h.lies.imp id fun ⟨b, off, ha, hlt, hc⟩ => ⟨b, off, ha, hlt, fun i hi => by
    obtain ⟨x, h0, h1, hx⟩ := hc i hi
    exact ⟨x, h0, h1, (hb.cell (p := ⟨b, off + i, none⟩) hlt).trans hx⟩⟩⟩
theorem Cur.belowS {w w' : World} {p : Nat} {a : Option Addr} {len cap : Nat} (h : Cur w p a len cap) (hb : Below (p + 1) w w') : Cur w' p a len cap := by
  have hblk : w'.heap[p]? = w.heap[p]? := hb.block p (by omega)
  obtain ⟨hlt, hby, h0, ⟨i, hi0, hi1, h1⟩, ⟨x, hx0, hx1, h2⟩, f1, f2⟩ := h
  exact ⟨Nat.lt_of_lt_of_le hlt hb.size, hby.belowS (hb.mono (Nat.le_succ _)), (World.cell?_of_block hblk).trans h0, ⟨i, hi0, hi1, (World.cell?_of_block hblk).trans h1⟩, ⟨x, hx0, hx1, (World.cell?_of_block hblk).trans h2⟩,
    (World.frozen?_of_block hblk).trans f1, (World.frozen?_of_block hblk).trans f2⟩

/-- A draw under way: the cursor, and the place of a setup. -/
structure DP (p : Nat) (a : Option Addr) (len cap R : Nat) (cs : Array Value) (w W : World) : Prop where
  cur : Cur W p a len cap
  grown : w.grownBy W (some p)
  res : Blk W R 25 cs
  pR : p < R
  Rw : w.heap.size ≤ R
section
variable {p : Nat} {a : Option Addr} {len cap R : Nat} {cs : Array Value} {w W W' : World}
theorem DP.start (h : Cur W p a len cap) (hg : w.grownBy W (some p)) : DP p a len cap W.heap.size cs w (W.alloc (.cells cs 25)) :=
  ⟨h.quiet (grown_alloc _ _ _), grown_trans hg (grown_alloc _ _ _), Blk.new _ _ _, h.lt, hg.size⟩
theorem DP.draw (h : DP p a len cap R cs w W) (hc : Cur W' p a len cap) (hg : W.grownBy W' (some p)) : DP p a len cap R cs w W' :=
  ⟨hc, grown_trans h.grown hg, h.res.grown hg (fun e => by injection e with e; have := h.pR; omega), h.pR, h.Rw⟩
theorem DP.alloc (h : DP p a len cap R cs w W) (o : Obj) : DP p a len cap R cs w (W.alloc o) :=
  ⟨h.cur.quiet (grown_alloc _ _ _), grown_trans h.grown (grown_alloc _ _ _), h.res.alloc o, h.pR, h.Rw⟩
theorem DP.drew (h : DP p a len cap R cs w W) : DP p a len cap R cs w W.drew :=
  ⟨h.cur.quiet (grown_drewN W 1 none), grown_trans h.grown (grown_drewN W 1 (some p)), h.res, h.pR, h.Rw⟩
/-- What leaves the blocks below R as they are, on a setup's block being written. -/
theorem DP.put {cs' : Array Value} (h : DP p a len cap R cs w W) (hb : Below R W W') (hr : Blk W' R 25 cs') : DP p a len cap R cs' w W' :=
  ⟨h.cur.belowS (hb.mono (by have := h.pR; omega)) , by
    have k := h.grown
    exact ⟨hb.os.trans k.os, hb.tape.trans k.tape, hb.output.trans k.output, Nat.le_trans k.size hb.size, fun j hj hne => (hb.block j (by have := h.Rw; omega)).trans (k.block j hj hne)⟩, hr, h.pR, h.Rw⟩
end
def SetV (f0 f1 f2 f3 f4 f5 f6 f7 f8 : Int) : Value := .agg #[.int .i64 f0, .int .i64 f1, .int .i64 f2, .int .i64 f3, .int .i64 f4, .int .i64 f5, .int .i64 f6, .int .i64 f7, .int .i64 f8]
def SetDraw (p : Nat) (a : Option Addr) (len cap : Nat) (w : World) (e : Ending) (w' : World) : Prop :=
  ∃ f0 f1 f2 f3 f4 f5 f6 f7 f8 : Int, e = .returned (SetV f0 f1 f2 f3 f4 f5 f6 f7 f8) ∧ Cur w' p a len cap ∧ w.grownBy w' (some p)
/-- Behind here: mkdrawset. -/
theorem infoSet : (Tryd.prog.info? 25).map (·.size) = some 9 := by kernel_rfl
set_option maxHeartbeats 4000000 in
set_option maxRecDepth 100000 in
theorem drawSet_any (p : Nat) (a : Option Addr) (len cap : Nat) (w : World) (hc : Cur w p a len cap) : Calls Tryd.prog 74 #[.pointer (some ⟨p, 0, none⟩)] w (SetDraw p a len cap w) := by
  have D0 : Hid (DP p a len cap w.heap.size #[.int .i64 0, .int .i64 0, .int .i64 0, .int .i64 0, .int .i64 0, .int .i64 0, .int .i64 0, .int .i64 0, .int .i64 0] w (w.alloc (.cells #[.int .i64 0, .int .i64 0, .int .i64 0, .int .i64 0, .int .i64 0, .int .i64 0, .int .i64 0, .int .i64 0, .int .i64 0] 25))) := Lib.hid (DP.start hc (World.grownBy.refl _ _))
  have INF : Hid ((Tryd.prog.info? 25).map (·.size) = some 9) := Lib.hid infoSet
  clear hc
  go_enter Tryd.func74, Tryd.ntmps74
  go_wp2_with fail
  refine (below_any p a len cap 4 (by omega) (by omega) _ D0.out.cur).mono ?_
  rintro e w1 ⟨x0, rfl, hx0, hx1, hc1, hg1⟩
  have D1 := Lib.hid (D0.out.draw hc1 hg1)
  clear D0 hc1 hg1 hx0 hx1
  go_wp2_with fail
  refine (below_any p a len cap 3 (by omega) (by omega) _ D1.out.cur).mono ?_
  rintro e w2 ⟨x1, rfl, hx0, hx1, hc1, hg1⟩
  have D2 := Lib.hid (D1.out.draw hc1 hg1)
  clear D1 hc1 hg1 hx0 hx1
  go_wp2_with fail
  refine (pick_lit p a len cap [1, 5, 10, 10] 4 _ _ (by decide) (by decide) rfl rfl _ D2.out.cur).mono ?_
  rintro e w3 ⟨k2, hk, rfl, hc1, hg1⟩
  generalize el [1, 5, 10, 10] k2 = x2 at *
  have D3 := Lib.hid (D2.out.draw hc1 hg1)
  clear D2 hc1 hg1 hk
  go_wp2_with fail
  refine (pick_lit p a len cap [0, 2, 5] 3 _ _ (by decide) (by decide) rfl rfl _ D3.out.cur).mono ?_
  rintro e w4 ⟨k3, hk, rfl, hc1, hg1⟩
  generalize el [0, 2, 5] k3 = x3 at *
  have D4 := Lib.hid (D3.out.draw hc1 hg1)
  clear D3 hc1 hg1 hk
  go_wp2_with fail
  refine (pick_lit p a len cap [0, 3, 6] 3 _ _ (by decide) (by decide) rfl rfl _ D4.out.cur).mono ?_
  rintro e w5 ⟨k4, hk, rfl, hc1, hg1⟩
  generalize el [0, 3, 6] k4 = x4 at *
  have D5 := Lib.hid (D4.out.draw hc1 hg1)
  clear D4 hc1 hg1 hk
  go_wp2_with fail
  refine (below_any p a len cap 5 (by omega) (by omega) _ D5.out.cur).mono ?_
  rintro e w6 ⟨x5, rfl, hx0, hx1, hc1, hg1⟩
  have D6 := Lib.hid (D5.out.draw hc1 hg1)
  clear D5 hc1 hg1 hx0 hx1
  go_wp2_with fail
  refine (below_any p a len cap 4 (by omega) (by omega) _ D6.out.cur).mono ?_
  rintro e w7 ⟨x6, rfl, hx0, hx1, hc1, hg1⟩
  have D7 := Lib.hid (D6.out.draw hc1 hg1)
  clear D6 hc1 hg1 hx0 hx1
  go_wp2_with fail
  refine (below_any p a len cap 3 (by omega) (by omega) _ D7.out.cur).mono ?_
  rintro e w8 ⟨x7, rfl, hx0, hx1, hc1, hg1⟩
  have D8 := Lib.hid (D7.out.draw hc1 hg1)
  clear D7 hc1 hg1 hx0 hx1
  go_wp2_with fail
  refine (pick_lit p a len cap [1, 3, 20, 40] 4 _ _ (by decide) (by decide) rfl rfl _ D8.out.cur).mono ?_
  rintro e w9 ⟨k8, hk, rfl, hc1, hg1⟩
  generalize el [1, 3, 20, 40] k8 = x8 at *
  have D9 := Lib.hid (D8.out.draw hc1 hg1)
  clear D8 hc1 hg1 hk
  have TH : Hid (w9.there w.heap.size 0 9) := Lib.hid (blk_there D9.out.res (by decide))
  have B1 := Lib.hid (below_setCells ([.int .i64 (wrap64 (1 + x0)), .int .i64 (wrap64 (1 + x1)), .int .i64 (x2), .int .i64 (x3), .int .i64 (x4), .int .i64 (wrap64 (1 + x5)), .int .i64 (wrap64 (1 + x6)), .int .i64 (wrap64 (1 + x7)), .int .i64 (x8)] : List Value) (Nat.le_refl _) 0 (Below.refl w.heap.size w9))
  have D10 := Lib.hid (D9.out.put B1.out (blk_full ([.int .i64 (wrap64 (1 + x0)), .int .i64 (wrap64 (1 + x1)), .int .i64 (x2), .int .i64 (x3), .int .i64 (x4), .int .i64 (wrap64 (1 + x5)), .int .i64 (wrap64 (1 + x6)), .int .i64 (wrap64 (1 + x7)), .int .i64 (x8)] : List Value) D9.out.res rfl))
  have HP : Hid (SetDraw p a len cap w (.returned (.agg #[.int .i64 (wrap64 (1 + x0)), .int .i64 (wrap64 (1 + x1)), .int .i64 (x2), .int .i64 (x3), .int .i64 (x4), .int .i64 (wrap64 (1 + x5)), .int .i64 (wrap64 (1 + x6)), .int .i64 (wrap64 (1 + x7)), .int .i64 (x8)])) (w9.setCells w.heap.size 0 [.int .i64 (wrap64 (1 + x0)), .int .i64 (wrap64 (1 + x1)), .int .i64 (x2), .int .i64 (x3), .int .i64 (x4), .int .i64 (wrap64 (1 + x5)), .int .i64 (wrap64 (1 + x6)), .int .i64 (wrap64 (1 + x7)), .int .i64 (x8)])) := Lib.hid ⟨_, _, _, _, _, _, _, _, _, rfl, D10.out.cur, D10.out.grown⟩
  go_wp2_with (refine wpList_store_to rfl 25 _ _ rfl w.heap.size 0 #[.int .i64 (wrap64 (1 + x0)), .int .i64 (wrap64 (1 + x1)), .int .i64 (x2), .int .i64 (x3), .int .i64 (x4), .int .i64 (wrap64 (1 + x5)), .int .i64 (wrap64 (1 + x6)), .int .i64 (wrap64 (1 + x7)), .int .i64 (x8)] rfl rfl TH.out INF.out (by simp [Value.oneCell']) rfl ?_)
  exact bodyPost_ret (results_cell_row Tryd.results74 _ _ w.heap.size 25 #[.int .i64 (wrap64 (1 + x0)), .int .i64 (wrap64 (1 + x1)), .int .i64 (x2), .int .i64 (x3), .int .i64 (x4), .int .i64 (wrap64 (1 + x5)), .int .i64 (wrap64 (1 + x6)), .int .i64 (wrap64 (1 + x7)), .int .i64 (x8)] (0, 0) _ rfl D10.out.res Tryd.underlying25 rfl INF.out) rfl HP.out
end Go.Proofs.YtalelcloppbhcaaDoor
