/- The draws of a setup, with a field changed at times: whatever it is, it is a setup. -/
import Derived.Test.YtalelcloppbhcaaDoorDrawSet
import Derived.Deep.RegionWith
import Derived.Deep.CutRange
namespace Go.Proofs.YtalelcloppbhcaaDoor
open Go.RowKit

theorem Bytes.up {w : World} {B C : Nat} {a : Option Addr} {len : Nat} (h : Bytes w B a len) (hC : B ≤ C) : Bytes w C a len :=
  ⟨h.small, h.lies.imp id fun ⟨b, off, ha, hlt, hc⟩ => ⟨b, off, ha, by omega, hc⟩⟩
/-- The cursor, behind the result's block and before the setup's. -/
structure DQ (p : Nat) (a : Option Addr) (len cap R S : Nat) (cs : Array Value) (w W : World) : Prop where
  cur : Cur W p a len cap
  below : Below w.heap.size w W
  res : Blk W R 25 #[.int .i64 0, .int .i64 0, .int .i64 0, .int .i64 0, .int .i64 0, .int .i64 0, .int .i64 0, .int .i64 0, .int .i64 0]
  set : Blk W S 25 cs
  wR : w.heap.size ≤ R
  Rp : R < p
  pS : p < S
section
variable {p : Nat} {a : Option Addr} {len cap R S : Nat} {cs : Array Value} {w W W' : World}
theorem DQ.draw (h : DQ p a len cap R S cs w W) (hc : Cur W' p a len cap) (hg : W.grownBy W' (some p)) : DQ p a len cap R S cs w W' :=
  ⟨hc, h.below.trans (below_grown_own hg (by have := h.wR; have := h.Rp; omega) (h.below.size)), h.res.grown hg (fun e => by injection e with e; have := h.Rp; omega), h.set.grown hg (fun e => by injection e with e; have := h.pS; omega), h.wR, h.Rp, h.pS⟩
theorem DQ.own (h : DQ p a len cap R S cs w W) (hb : Below W.heap.size W W') : DQ p a len cap R S cs w W' :=
  ⟨h.cur.belowS (hb.mono (by have := h.cur.lt; omega)), h.below.trans (hb.mono h.below.size), h.res.below hb, h.set.below hb, h.wR, h.Rp, h.pS⟩
theorem DQ.drew (h : DQ p a len cap R S cs w W) : DQ p a len cap R S cs w W.drew :=
  ⟨h.cur.quiet (grown_drewN W 1 none), h.below.drew, h.res, h.set, h.wR, h.Rp, h.pS⟩
/-- The setup's block is written. -/
theorem DQ.put {cs' : Array Value} (h : DQ p a len cap R S cs w W) (hb : Below S W W') (hr : Blk W' S 25 cs') : DQ p a len cap R S cs' w W' :=
  ⟨h.cur.belowS (hb.mono (by have := h.pS; omega)), h.below.trans (hb.mono (by have := h.wR; have := h.Rp; have := h.pS; omega)), h.res.belowB hb (by have := h.Rp; have := h.pS; omega), hr, h.wR, h.Rp, h.pS⟩
/-- A block behind the setup's is written. -/
theorem DQ.far (h : DQ p a len cap R S cs w W) {g i : Nat} (hg : S < g) (u : Value) : DQ p a len cap R S cs w (W.setCell ⟨g, i, none⟩ u) := by
  have hb : Below (S + 1) W (W.setCell ⟨g, i, none⟩ u) := below_grown_own (grown_setCell W g i u) (by omega) h.set.lt
  exact ⟨h.cur.belowS (hb.mono (by have := h.pS; omega)), h.below.trans (hb.mono (by have := h.wR; have := h.Rp; have := h.pS; omega)), h.res.belowB hb (by have := h.Rp; have := h.pS; omega), h.set.belowB hb (by omega), h.wR, h.Rp, h.pS⟩
end
theorem results_tmp_cell {P : Program} {fn : Func} {p r : Tmp} {ty : TypeId} (h : fn.results = #[.tmp r, .cell p ty]) (tmps : Array Value) (w : World) (g : Nat) (t : TypeId) (cs : Array Value) (fr : Nat × Nat) (d : TypeDesc) (v : Value)
    (hp : tmps.getD p undef = .pointer (some ⟨g, 0, none⟩)) (hr : tmps.getD r undef = v) (hg : w.heap[g]? = some (.cells cs t fr))
    (hu : P.underlying ty = some d) (hd : (match d with | .struct _ | .array _ _ => true | _ => false) = true) (hi : (P.info? ty).map (·.size) = some cs.size) :
    (results fn tmps).run P w = .ok (.tuple #[v, .agg cs]) w := by
  have hp' : tmps[p]?.getD undef = .pointer (some ⟨g, 0, none⟩) := by simpa using hp
  have hr' : tmps[r]?.getD undef = v := by simpa using hr
  simp [results, h, hp', hr', asAddr, run_loadVar_row w g t ty cs fr d hg hu hd hi]
/-- What the draw of a setup hands back: a cursor and a setup. -/
def DrawnSet (w : World) (e : Ending) (w' : World) : Prop :=
  ∃ (p : Nat) (f0 f1 f2 f3 f4 f5 f6 f7 f8 : Int), e = .returned (.tuple #[.pointer (some ⟨p, 0, none⟩), .agg #[.int .i64 f0, .int .i64 f1, .int .i64 f2, .int .i64 f3, .int .i64 f4, .int .i64 f5, .int .i64 f6, .int .i64 f7, .int .i64 f8]]) ∧ Below w.heap.size w w'
def l9 (f0 f1 f2 f3 f4 f5 f6 f7 f8 : Int) : List Int := [f0, f1, f2, f3, f4, f5, f6, f7, f8]
theorem set_nine (xs : List Int) (k : Nat) (y : Int) : (xs.map (Value.int .i64)).toArray.setIfInBounds k (.int .i64 y) = ((xs.set k y).map (Value.int .i64)).toArray := by
  simp [List.map_set]
theorem blk_el {W : World} {g : Nat} {xs : List Int} (h : Blk W g 3 (xs.map (Value.int .i64)).toArray) (i : Nat) (hi : i < xs.length) : W.cell? ⟨g, i, none⟩ = some (.int .i64 (el xs i)) := by
  rw [h.cell, List.getElem?_toArray]
  exact el_cell _ _ _ hi
set_option maxHeartbeats 4000000 in
set_option maxRecDepth 100000 in
theorem l06Draw_any (a : Option Addr) (len cap : Nat) (w : World) (hb : Bytes w w.heap.size a len) : Calls Tryd.prog 30 #[.slice a len cap] w (DrawnSet w) := by
  have HB := Lib.hid ((hb.grown (Nat.le_refl _) (grown_alloc w (.cells #[.int .i64 0, .int .i64 0, .int .i64 0, .int .i64 0, .int .i64 0, .int .i64 0, .int .i64 0, .int .i64 0, .int .i64 0] 25) (some w.heap.size))).up (C := (w.alloc (.cells #[.int .i64 0, .int .i64 0, .int .i64 0, .int .i64 0, .int .i64 0, .int .i64 0, .int .i64 0, .int .i64 0, .int .i64 0] 25)).heap.size) (by simp))
  have INF : Hid ((Tryd.prog.info? 25).map (·.size) = some 9) := Lib.hid infoSet
  have R0 := Lib.hid (Blk.new w 25 #[.int .i64 0, .int .i64 0, .int .i64 0, .int .i64 0, .int .i64 0, .int .i64 0, .int .i64 0, .int .i64 0, .int .i64 0])
  have B0 := Lib.hid ((Below.refl w.heap.size w).alloc (Nat.le_refl _) (.cells #[.int .i64 0, .int .i64 0, .int .i64 0, .int .i64 0, .int .i64 0, .int .i64 0, .int .i64 0, .int .i64 0, .int .i64 0] 25))
  clear hb
  go_enter Tryd.func30, Tryd.ntmps30
  go_wp2_with fail
  refine (new_any a len cap _ HB.out).mono ?_
  rintro e w1 ⟨p, hp, rfl, hc1, hg1⟩
  have hRp : w.heap.size < p := by
    have := hp
    simp at this
    omega
  have R1 := Lib.hid (R0.out.grown hg1 (by simp))
  have B1 := Lib.hid (B0.out.trans ((below_grown hg1).mono (by simp)))
  clear R0 B0 hg1 hp HB
  go_wp2_with fail
  refine (drawSet_any p a len cap _ hc1).mono ?_
  rintro e w2 ⟨f0, f1, f2, f3, f4, f5, f6, f7, f8, rfl, hc2, hg2⟩
  have D0 : Hid (DQ p a len cap w.heap.size w2.heap.size #[.int .i64 f0, .int .i64 f1, .int .i64 f2, .int .i64 f3, .int .i64 f4, .int .i64 f5, .int .i64 f6, .int .i64 f7, .int .i64 f8] w (w2.alloc (.cells #[.int .i64 f0, .int .i64 f1, .int .i64 f2, .int .i64 f3, .int .i64 f4, .int .i64 f5, .int .i64 f6, .int .i64 f7, .int .i64 f8] 25))) := Lib.hid ⟨hc2.quiet (grown_alloc _ _ _), (B1.out.trans (below_grown_own hg2 (Nat.le_of_lt hRp) B1.out.size)).alloc (Nat.le_trans B1.out.size hg2.size) _, (R1.out.grown hg2 (fun e => by injection e with e; omega)).alloc _, Blk.new _ _ _, Nat.le_refl _, hRp, hc2.lt⟩
  clear R1 B1 hc1 hc2 hg2
  unfold SetV
  go_wp2_with fail
  refine (once_any p a len cap 12 (by omega) (by omega) _ D0.out.cur).mono ?_
  rintro e w3 ⟨o, rfl, hc3, hg3⟩
  have D1 := Lib.hid (D0.out.draw hc3 hg3)
  clear hc3 hg3 D0
  generalize w2.heap.size = S at *
  have c := D1.out.set.cell
  have c0 := c 0
  have c1 := c 1
  have c2 := c 2
  have c3 := c 3
  have c4 := c 4
  have c5 := c 5
  have c6 := c 6
  have c7 := c 7
  have c8 := c 8
  simp at c0 c1 c2 c3 c4 c5 c6 c7 c8
  clear c
  cases o
  case false =>
    have TH : Hid (w3.drew.there w.heap.size 0 9) := Lib.hid (blk_there D1.out.res (by decide))
    have HR := Lib.hid (blk_full ([.int .i64 f0, .int .i64 f1, .int .i64 f2, .int .i64 f3, .int .i64 f4, .int .i64 f5, .int .i64 f6, .int .i64 f7, .int .i64 f8] : List Value) D1.out.drew.res rfl)
    have HP : Hid (DrawnSet w (.returned (.tuple #[.pointer (some ⟨p, 0, none⟩), .agg #[.int .i64 f0, .int .i64 f1, .int .i64 f2, .int .i64 f3, .int .i64 f4, .int .i64 f5, .int .i64 f6, .int .i64 f7, .int .i64 f8]])) (w3.drew.setCells w.heap.size 0 [.int .i64 f0, .int .i64 f1, .int .i64 f2, .int .i64 f3, .int .i64 f4, .int .i64 f5, .int .i64 f6, .int .i64 f7, .int .i64 f8])) := Lib.hid ⟨p, _, _, _, _, _, _, _, _, _, rfl, below_setCells _ (Nat.le_refl _) 0 D1.out.drew.below⟩
    go_wp2_with fail
    refine wp_region_any (by kernel_rfl) ?_
    change wpAny _ _ _ _ _ _ _ (World.drew _)
    refine wpAny_ready (rs := [0, 1]) (by kernel_rfl) (by simp) ?_
    refine AllReady.cons rfl (fun K hK => ?_) (AllReady.cons rfl (fun K hK => ?_) AllReady.nil)
    · go_simp
      refine hK _ _ ?_
      clear hK K
      refine wpAny_ready (rs := [1, 2]) (by kernel_rfl) (by simp) ?_
      refine AllReady.cons rfl (fun K hK => ?_) (AllReady.cons rfl (fun K hK => ?_) AllReady.nil)
      · go_simp
        refine hK _ _ ?_
        clear hK K
        refine wpAny_ready (rs := [2]) (by kernel_rfl) (by simp) ?_
        refine AllReady.cons rfl (fun K hK => ?_) AllReady.nil
        go_simp
        refine hK _ _ ?_
        clear hK K
        refine wpAny_ready (rs := [3]) (by kernel_rfl) (by simp) ?_
        refine AllReady.cons rfl (fun K hK => ?_) AllReady.nil
        rw [if_pos (by rfl)]
        refine wp_store_mid _ _ _ rfl w.heap.size 0 #[.int .i64 f0, .int .i64 f1, .int .i64 f2, .int .i64 f3, .int .i64 f4, .int .i64 f5, .int .i64 f6, .int .i64 f7, .int .i64 f8] rfl rfl TH.out INF.out (by simp [Value.oneCell']) ?_
        refine hK _ _ ?_
        clear hK K
        refine wpAny_done (by kernel_rfl) ?_ _
        go_wp2
        exact bodyPost_ret (results_tmp_cell Tryd.results30 _ _ w.heap.size 25 #[.int .i64 f0, .int .i64 f1, .int .i64 f2, .int .i64 f3, .int .i64 f4, .int .i64 f5, .int .i64 f6, .int .i64 f7, .int .i64 f8] (0, 0) _ (.pointer (some ⟨p, 0, none⟩)) rfl rfl HR.out Tryd.underlying25 rfl INF.out) rfl HP.out
      · go_simp
        refine hK _ _ ?_
        clear hK K
        refine wpAny_ready (rs := [1]) (by kernel_rfl) (by simp) ?_
        refine AllReady.cons rfl (fun K hK => ?_) AllReady.nil
        go_simp
        refine hK _ _ ?_
        clear hK K
        refine wpAny_ready (rs := [3]) (by kernel_rfl) (by simp) ?_
        refine AllReady.cons rfl (fun K hK => ?_) AllReady.nil
        rw [if_pos (by rfl)]
        refine wp_store_mid _ _ _ rfl w.heap.size 0 #[.int .i64 f0, .int .i64 f1, .int .i64 f2, .int .i64 f3, .int .i64 f4, .int .i64 f5, .int .i64 f6, .int .i64 f7, .int .i64 f8] rfl rfl TH.out INF.out (by simp [Value.oneCell']) ?_
        refine hK _ _ ?_
        clear hK K
        refine wpAny_done (by kernel_rfl) ?_ _
        go_wp2
        exact bodyPost_ret (results_tmp_cell Tryd.results30 _ _ w.heap.size 25 #[.int .i64 f0, .int .i64 f1, .int .i64 f2, .int .i64 f3, .int .i64 f4, .int .i64 f5, .int .i64 f6, .int .i64 f7, .int .i64 f8] (0, 0) _ (.pointer (some ⟨p, 0, none⟩)) rfl rfl HR.out Tryd.underlying25 rfl INF.out) rfl HP.out
    · go_simp
      refine hK _ _ ?_
      clear hK K
      refine wpAny_ready (rs := [0]) (by kernel_rfl) (by simp) ?_
      refine AllReady.cons rfl (fun K hK => ?_) AllReady.nil
      go_simp
      refine hK _ _ ?_
      clear hK K
      refine wpAny_ready (rs := [2]) (by kernel_rfl) (by simp) ?_
      refine AllReady.cons rfl (fun K hK => ?_) AllReady.nil
      go_simp
      refine hK _ _ ?_
      clear hK K
      refine wpAny_ready (rs := [3]) (by kernel_rfl) (by simp) ?_
      refine AllReady.cons rfl (fun K hK => ?_) AllReady.nil
      rw [if_pos (by rfl)]
      refine wp_store_mid _ _ _ rfl w.heap.size 0 #[.int .i64 f0, .int .i64 f1, .int .i64 f2, .int .i64 f3, .int .i64 f4, .int .i64 f5, .int .i64 f6, .int .i64 f7, .int .i64 f8] rfl rfl TH.out INF.out (by simp [Value.oneCell']) ?_
      refine hK _ _ ?_
      clear hK K
      refine wpAny_done (by kernel_rfl) ?_ _
      go_wp2
      exact bodyPost_ret (results_tmp_cell Tryd.results30 _ _ w.heap.size 25 #[.int .i64 f0, .int .i64 f1, .int .i64 f2, .int .i64 f3, .int .i64 f4, .int .i64 f5, .int .i64 f6, .int .i64 f7, .int .i64 f8] (0, 0) _ (.pointer (some ⟨p, 0, none⟩)) rfl rfl HR.out Tryd.underlying25 rfl INF.out) rfl HP.out
  case true =>
    go_wp2_with fail
    refine (specVals_x f0 f1 f2 f3 f4 f5 f6 f7 f8 _).mono ?_
    rintro e w4 ⟨rfl, hk, hb⟩
    have D2 := Lib.hid (D1.out.own hb)
    have V2 : Hid (Blk w4 (w3.heap.size + 1) 3 (([f0, f1, f2, f3, f4, f5, f6, f7, f8].map (Value.int .i64)).toArray)) := Lib.hid hk
    have hSg : S < w3.heap.size + 1 := by have := D1.out.set.lt; omega
    clear D1 hb hk c0 c1 c2 c3 c4 c5 c6 c7 c8
    generalize w3.heap.size + 1 = g at *
    have hpS := D2.out.pS
    go_wp2_with fail
    refine (below_any p a len cap 9 (by omega) (by omega) _ D2.out.cur).mono ?_
    rintro e w5 ⟨x, rfl, hx0, hx1, hc, hg⟩
    obtain ⟨k, rfl⟩ := Int.eq_ofNat_of_zero_le hx0
    have hk : k < 9 := by omega
    have D3 := Lib.hid (D2.out.draw hc hg)
    have V3 := Lib.hid (V2.out.grown hg (fun e => by injection e with e; omega))
    clear hc hg D2 V2 hx0 hx1
    go_wp2_with fail
    refine (pick_lit p a len cap [-1, 0, 1, 4, 5, 6, 7, 20, 21, 40, 41, 1000, 1001] 13 _ _ (by decide) (by decide) rfl rfl _ D3.out.cur).mono ?_
    rintro e w6 ⟨kk, hkk, rfl, hc, hg⟩
    generalize el [-1, 0, 1, 4, 5, 6, 7, 20, 21, 40, 41, 1000, 1001] kk = y at *
    have D4 := Lib.hid (D3.out.draw hc hg)
    have V4 := Lib.hid (V3.out.grown hg (fun e => by injection e with e; omega))
    clear hc hg D3 V3 hkk
    have q0 := blk_el V4.out k (by simpa using hk)
    have q1 := V4.out.frozen k
    have D5 := Lib.hid (D4.out.far (i := k) hSg (.int .i64 y))
    have V5 : Hid (Blk (w6.setCell ⟨g, k, none⟩ (.int .i64 y)) g 3 ((([f0, f1, f2, f3, f4, f5, f6, f7, f8].set k y).map (Value.int .i64)).toArray)) := Lib.hid (by
      have h := sblk_put V4.out k (.int .i64 y)
      rwa [set_nine] at h)
    clear D4 V4
    go_wp2_with fail
    generalize w6.setCell ⟨g, k, none⟩ (.int .i64 y) = w7 at *
    refine (of_x ([f0, f1, f2, f3, f4, f5, f6, f7, f8].set k y) g 9 _ (fun i hi => blk_el V5.out i (by simpa using hi)) V5.out.lt).mono ?_
    rintro e w8 ⟨rfl, hb⟩
    have D6 := Lib.hid (D5.out.own hb)
    generalize [f0, f1, f2, f3, f4, f5, f6, f7, f8].set k y = xs at *
    clear D5 V5 hb q0 q1
    generalize el xs 0 = g0
    generalize el xs 1 = g1
    generalize el xs 2 = g2
    generalize el xs 3 = g3
    generalize el xs 4 = g4
    generalize el xs 5 = g5
    generalize el xs 6 = g6
    generalize el xs 7 = g7
    generalize el xs 8 = g8
    have TS : Hid (w8.there S 0 9) := Lib.hid (blk_there D6.out.set (Nat.le_refl 9))
    have D7 := Lib.hid (D6.out.put (below_setCells ([.int .i64 g0, .int .i64 g1, .int .i64 g2, .int .i64 g3, .int .i64 g4, .int .i64 g5, .int .i64 g6, .int .i64 g7, .int .i64 g8] : List Value) (Nat.le_refl _) 0 (Below.refl S w8)) (blk_full ([.int .i64 g0, .int .i64 g1, .int .i64 g2, .int .i64 g3, .int .i64 g4, .int .i64 g5, .int .i64 g6, .int .i64 g7, .int .i64 g8] : List Value) D6.out.set rfl))
    go_wp2_with (refine wpList_store_to rfl 25 _ _ rfl S 0 #[.int .i64 g0, .int .i64 g1, .int .i64 g2, .int .i64 g3, .int .i64 g4, .int .i64 g5, .int .i64 g6, .int .i64 g7, .int .i64 g8] rfl rfl TS.out INF.out (by simp [Value.oneCell']) rfl ?_)
    have c := D7.out.set.cell
    generalize w8.setCells S 0 [.int .i64 g0, .int .i64 g1, .int .i64 g2, .int .i64 g3, .int .i64 g4, .int .i64 g5, .int .i64 g6, .int .i64 g7, .int .i64 g8] = w9 at *
    have c0 := c 0
    have c1 := c 1
    have c2 := c 2
    have c3 := c 3
    have c4 := c 4
    have c5 := c 5
    have c6 := c 6
    have c7 := c 7
    have c8 := c 8
    simp at c0 c1 c2 c3 c4 c5 c6 c7 c8
    clear c
    have TH : Hid (w9.drew.there w.heap.size 0 9) := Lib.hid (blk_there D7.out.res (by decide))
    have HR := Lib.hid (blk_full ([.int .i64 g0, .int .i64 g1, .int .i64 g2, .int .i64 g3, .int .i64 g4, .int .i64 g5, .int .i64 g6, .int .i64 g7, .int .i64 g8] : List Value) D7.out.drew.res rfl)
    have HP : Hid (DrawnSet w (.returned (.tuple #[.pointer (some ⟨p, 0, none⟩), .agg #[.int .i64 g0, .int .i64 g1, .int .i64 g2, .int .i64 g3, .int .i64 g4, .int .i64 g5, .int .i64 g6, .int .i64 g7, .int .i64 g8]])) (w9.drew.setCells w.heap.size 0 [.int .i64 g0, .int .i64 g1, .int .i64 g2, .int .i64 g3, .int .i64 g4, .int .i64 g5, .int .i64 g6, .int .i64 g7, .int .i64 g8])) := Lib.hid ⟨p, _, _, _, _, _, _, _, _, _, rfl, below_setCells _ (Nat.le_refl _) 0 D7.out.drew.below⟩
    go_wp2_with fail
    refine wp_region_any (by kernel_rfl) ?_
    change wpAny _ _ _ _ _ _ _ (World.drew _)
    refine wpAny_ready (rs := [0, 1]) (by kernel_rfl) (by simp) ?_
    refine AllReady.cons rfl (fun K hK => ?_) (AllReady.cons rfl (fun K hK => ?_) AllReady.nil)
    · go_simp
      refine hK _ _ ?_
      clear hK K
      refine wpAny_ready (rs := [1, 2]) (by kernel_rfl) (by simp) ?_
      refine AllReady.cons rfl (fun K hK => ?_) (AllReady.cons rfl (fun K hK => ?_) AllReady.nil)
      · go_simp
        refine hK _ _ ?_
        clear hK K
        refine wpAny_ready (rs := [2]) (by kernel_rfl) (by simp) ?_
        refine AllReady.cons rfl (fun K hK => ?_) AllReady.nil
        go_simp
        refine hK _ _ ?_
        clear hK K
        refine wpAny_ready (rs := [3]) (by kernel_rfl) (by simp) ?_
        refine AllReady.cons rfl (fun K hK => ?_) AllReady.nil
        rw [if_pos (by rfl)]
        refine wp_store_mid _ _ _ rfl w.heap.size 0 #[.int .i64 g0, .int .i64 g1, .int .i64 g2, .int .i64 g3, .int .i64 g4, .int .i64 g5, .int .i64 g6, .int .i64 g7, .int .i64 g8] rfl rfl TH.out INF.out (by simp [Value.oneCell']) ?_
        refine hK _ _ ?_
        clear hK K
        refine wpAny_done (by kernel_rfl) ?_ _
        go_wp2
        exact bodyPost_ret (results_tmp_cell Tryd.results30 _ _ w.heap.size 25 #[.int .i64 g0, .int .i64 g1, .int .i64 g2, .int .i64 g3, .int .i64 g4, .int .i64 g5, .int .i64 g6, .int .i64 g7, .int .i64 g8] (0, 0) _ (.pointer (some ⟨p, 0, none⟩)) rfl rfl HR.out Tryd.underlying25 rfl INF.out) rfl HP.out
      · go_simp
        refine hK _ _ ?_
        clear hK K
        refine wpAny_ready (rs := [1]) (by kernel_rfl) (by simp) ?_
        refine AllReady.cons rfl (fun K hK => ?_) AllReady.nil
        go_simp
        refine hK _ _ ?_
        clear hK K
        refine wpAny_ready (rs := [3]) (by kernel_rfl) (by simp) ?_
        refine AllReady.cons rfl (fun K hK => ?_) AllReady.nil
        rw [if_pos (by rfl)]
        refine wp_store_mid _ _ _ rfl w.heap.size 0 #[.int .i64 g0, .int .i64 g1, .int .i64 g2, .int .i64 g3, .int .i64 g4, .int .i64 g5, .int .i64 g6, .int .i64 g7, .int .i64 g8] rfl rfl TH.out INF.out (by simp [Value.oneCell']) ?_
        refine hK _ _ ?_
        clear hK K
        refine wpAny_done (by kernel_rfl) ?_ _
        go_wp2
        exact bodyPost_ret (results_tmp_cell Tryd.results30 _ _ w.heap.size 25 #[.int .i64 g0, .int .i64 g1, .int .i64 g2, .int .i64 g3, .int .i64 g4, .int .i64 g5, .int .i64 g6, .int .i64 g7, .int .i64 g8] (0, 0) _ (.pointer (some ⟨p, 0, none⟩)) rfl rfl HR.out Tryd.underlying25 rfl INF.out) rfl HP.out
    · go_simp
      refine hK _ _ ?_
      clear hK K
      refine wpAny_ready (rs := [0]) (by kernel_rfl) (by simp) ?_
      refine AllReady.cons rfl (fun K hK => ?_) AllReady.nil
      go_simp
      refine hK _ _ ?_
      clear hK K
      refine wpAny_ready (rs := [2]) (by kernel_rfl) (by simp) ?_
      refine AllReady.cons rfl (fun K hK => ?_) AllReady.nil
      go_simp
      refine hK _ _ ?_
      clear hK K
      refine wpAny_ready (rs := [3]) (by kernel_rfl) (by simp) ?_
      refine AllReady.cons rfl (fun K hK => ?_) AllReady.nil
      rw [if_pos (by rfl)]
      refine wp_store_mid _ _ _ rfl w.heap.size 0 #[.int .i64 g0, .int .i64 g1, .int .i64 g2, .int .i64 g3, .int .i64 g4, .int .i64 g5, .int .i64 g6, .int .i64 g7, .int .i64 g8] rfl rfl TH.out INF.out (by simp [Value.oneCell']) ?_
      refine hK _ _ ?_
      clear hK K
      refine wpAny_done (by kernel_rfl) ?_ _
      go_wp2
      exact bodyPost_ret (results_tmp_cell Tryd.results30 _ _ w.heap.size 25 #[.int .i64 g0, .int .i64 g1, .int .i64 g2, .int .i64 g3, .int .i64 g4, .int .i64 g5, .int .i64 g6, .int .i64 g7, .int .i64 g8] (0, 0) _ (.pointer (some ⟨p, 0, none⟩)) rfl rfl HR.out Tryd.underlying25 rfl INF.out) rfl HP.out
def SetOut (w : World) (e : Ending) (w' : World) : Prop :=
  ∃ f0 f1 f2 f3 f4 f5 f6 f7 f8 : Int, e = .returned (.agg #[.int .i64 f0, .int .i64 f1, .int .i64 f2, .int .i64 f3, .int .i64 f4, .int .i64 f5, .int .i64 f6, .int .i64 f7, .int .i64 f8]) ∧ Below w.heap.size w w'
set_option maxHeartbeats 4000000 in
set_option maxRecDepth 100000 in
theorem drawText_any (a : Option Addr) (len cap : Nat) (w : World) (hb : Bytes w w.heap.size a len) : Calls Tryd.prog 7 #[.slice a len cap] w (SetOut w) := by
  have HB := Lib.hid ((hb.grown (Nat.le_refl _) (grown_alloc w (.cells #[.int .i64 0, .int .i64 0, .int .i64 0, .int .i64 0, .int .i64 0, .int .i64 0, .int .i64 0, .int .i64 0, .int .i64 0] 25) (some w.heap.size))).up (C := (w.alloc (.cells #[.int .i64 0, .int .i64 0, .int .i64 0, .int .i64 0, .int .i64 0, .int .i64 0, .int .i64 0, .int .i64 0, .int .i64 0] 25)).heap.size) (by simp))
  have INF : Hid ((Tryd.prog.info? 25).map (·.size) = some 9) := Lib.hid infoSet
  have R0 := Lib.hid (Blk.new w 25 #[.int .i64 0, .int .i64 0, .int .i64 0, .int .i64 0, .int .i64 0, .int .i64 0, .int .i64 0, .int .i64 0, .int .i64 0])
  have B0 := Lib.hid ((Below.refl w.heap.size w).alloc (Nat.le_refl _) (.cells #[.int .i64 0, .int .i64 0, .int .i64 0, .int .i64 0, .int .i64 0, .int .i64 0, .int .i64 0, .int .i64 0, .int .i64 0] 25))
  clear hb
  go_enter Tryd.func7, Tryd.ntmps7
  go_wp2_with fail
  refine (l06Draw_any a len cap _ HB.out).mono ?_
  rintro e w1 ⟨p, f0, f1, f2, f3, f4, f5, f6, f7, f8, rfl, hb⟩
  have R1 := Lib.hid (R0.out.below hb)
  have B1 := Lib.hid (B0.out.trans (hb.mono (by simp)))
  have R2 := Lib.hid (R1.out.alloc (.cells #[.int .i64 f0, .int .i64 f1, .int .i64 f2, .int .i64 f3, .int .i64 f4, .int .i64 f5, .int .i64 f6, .int .i64 f7, .int .i64 f8] 25))
  have B2 := Lib.hid (B1.out.alloc B1.out.size (.cells #[.int .i64 f0, .int .i64 f1, .int .i64 f2, .int .i64 f3, .int .i64 f4, .int .i64 f5, .int .i64 f6, .int .i64 f7, .int .i64 f8] 25))
  have c := (Blk.new w1 25 #[.int .i64 f0, .int .i64 f1, .int .i64 f2, .int .i64 f3, .int .i64 f4, .int .i64 f5, .int .i64 f6, .int .i64 f7, .int .i64 f8]).cell
  have TH : Hid ((w1.alloc (.cells #[.int .i64 f0, .int .i64 f1, .int .i64 f2, .int .i64 f3, .int .i64 f4, .int .i64 f5, .int .i64 f6, .int .i64 f7, .int .i64 f8] 25)).there w.heap.size 0 9) := Lib.hid (blk_there R2.out (by decide))
  have HR := Lib.hid (blk_full ([.int .i64 f0, .int .i64 f1, .int .i64 f2, .int .i64 f3, .int .i64 f4, .int .i64 f5, .int .i64 f6, .int .i64 f7, .int .i64 f8] : List Value) R2.out rfl)
  have HP : Hid (SetOut w (.returned (.agg #[.int .i64 f0, .int .i64 f1, .int .i64 f2, .int .i64 f3, .int .i64 f4, .int .i64 f5, .int .i64 f6, .int .i64 f7, .int .i64 f8])) ((w1.alloc (.cells #[.int .i64 f0, .int .i64 f1, .int .i64 f2, .int .i64 f3, .int .i64 f4, .int .i64 f5, .int .i64 f6, .int .i64 f7, .int .i64 f8] 25)).setCells w.heap.size 0 [.int .i64 f0, .int .i64 f1, .int .i64 f2, .int .i64 f3, .int .i64 f4, .int .i64 f5, .int .i64 f6, .int .i64 f7, .int .i64 f8])) := Lib.hid ⟨_, _, _, _, _, _, _, _, _, rfl, below_setCells _ (Nat.le_refl _) 0 B2.out⟩
  clear hb B0 R0 HB
  have c0 := c 0
  have c1 := c 1
  have c2 := c 2
  have c3 := c 3
  have c4 := c 4
  have c5 := c 5
  have c6 := c 6
  have c7 := c 7
  have c8 := c 8
  simp at c0 c1 c2 c3 c4 c5 c6 c7 c8
  clear c
  go_wp2_with (refine wpList_store_to rfl 25 _ _ rfl w.heap.size 0 #[.int .i64 f0, .int .i64 f1, .int .i64 f2, .int .i64 f3, .int .i64 f4, .int .i64 f5, .int .i64 f6, .int .i64 f7, .int .i64 f8] rfl rfl TH.out INF.out (by simp [Value.oneCell']) rfl ?_)
  exact bodyPost_ret (results_cell_row Tryd.results7 _ _ w.heap.size 25 #[.int .i64 f0, .int .i64 f1, .int .i64 f2, .int .i64 f3, .int .i64 f4, .int .i64 f5, .int .i64 f6, .int .i64 f7, .int .i64 f8] (0, 0) _ rfl HR.out Tryd.underlying25 rfl INF.out) rfl HP.out
end Go.Proofs.YtalelcloppbhcaaDoor
