/- The draw of a source: whatever it is, it is one. -/
import Derived.Test.YtcjmigjkjepkdaaDrawOps
import Derived.Test.YtcjmigjkjepkdaaSrcS
import Derived.Deep.RegionWith
import Derived.Deep.CutRange
namespace Go.Proofs.Ytcjmigjkjepkdaa
open Go.RowKit

/-- A draw under way: the cursor, and the place of the result. -/
structure DR (p : Nat) (a : Option Addr) (len cap R : Nat) (w W : World) : Prop where
  cur : Cur W p a len cap
  grown : w.grownBy W (some p)
  res : Blk W R 28 #[.int .i64 0, .int .i64 0, .int .i64 0, .bool false, .bool false]
  pR : p < R
  Rw : w.heap.size ≤ R
section
variable {p : Nat} {a : Option Addr} {len cap R : Nat} {w W W' : World}
theorem DR.start (h : Cur w p a len cap) : DR p a len cap w.heap.size w (w.alloc (.cells #[.int .i64 0, .int .i64 0, .int .i64 0, .bool false, .bool false] 28)) :=
  ⟨h.quiet (grown_alloc _ _ _), grown_alloc _ _ _, Blk.new _ _ _, h.lt, Nat.le_refl _⟩
theorem DR.draw (h : DR p a len cap R w W) (hc : Cur W' p a len cap) (hg : W.grownBy W' (some p)) : DR p a len cap R w W' :=
  ⟨hc, grown_trans h.grown hg, h.res.grown hg (fun e => by injection e with e; have := h.pR; omega), h.pR, h.Rw⟩
theorem DR.alloc (h : DR p a len cap R w W) (o : Obj) : DR p a len cap R w (W.alloc o) :=
  ⟨h.cur.quiet (grown_alloc _ _ _), grown_trans h.grown (grown_alloc _ _ _), h.res.alloc o, h.pR, h.Rw⟩
theorem DR.drew (h : DR p a len cap R w W) : DR p a len cap R w W.drew :=
  ⟨h.cur.quiet (grown_drewN W 1 none), grown_trans h.grown (grown_drewN W 1 (some p)), h.res, h.pR, h.Rw⟩
end
/-- .. and the source, as far as it is drawn. -/
structure DV (p : Nat) (a : Option Addr) (len cap R B : Nat) (S : Src) (w W : World) : Prop where
  dr : DR p a len cap R w W
  var : Blk W B 28 #[.int .i64 S.x, .int .i64 S.m, .int .i64 S.s, .bool S.i, .bool S.o]
  RB : R < B
section
variable {p : Nat} {a : Option Addr} {len cap R B : Nat} {S : Src} {w W W' : World}
theorem DV.draw (h : DV p a len cap R B S w W) (hc : Cur W' p a len cap) (hg : W.grownBy W' (some p)) : DV p a len cap R B S w W' :=
  ⟨h.dr.draw hc hg, h.var.grown hg (fun e => by injection e with e; have := h.dr.pR; have := h.RB; omega), h.RB⟩
theorem DV.alloc (h : DV p a len cap R B S w W) (o : Obj) : DV p a len cap R B S w (W.alloc o) := ⟨h.dr.alloc o, h.var.alloc o, h.RB⟩
theorem DV.drew (h : DV p a len cap R B S w W) : DV p a len cap R B S w W.drew := ⟨h.dr.drew, h.var, h.RB⟩
theorem heap_setCell_at {w : World} {g : Nat} {t : TypeId} {cs : Array Value} (h : Blk w g t cs) (i : Nat) (u : Value) : Blk (w.setCell ⟨g, i, none⟩ u) g t (cs.setIfInBounds i u) := by
  unfold Blk at h ⊢
  simp [World.setCell, Array.getElem?_modify, h]
theorem DV.set {T : Src} (h : DV p a len cap R B S w W) (i : Nat) (v : Value)
    (hv : (#[Value.int .i64 S.x, .int .i64 S.m, .int .i64 S.s, .bool S.i, .bool S.o] : Array Value).setIfInBounds i v = #[.int .i64 T.x, .int .i64 T.m, .int .i64 T.s, .bool T.i, .bool T.o]) : DV p a len cap R B T w (W.setCell ⟨B, i, none⟩ v) := by
  have hR := h.RB
  have hp := h.dr.pR
  have hRw := h.dr.Rw
  have hg := grown_setCell W B i v
  refine ⟨⟨h.dr.cur.below_ (below_grown_own hg (by omega) h.dr.cur.lt), ?_, h.dr.res.grown hg (fun e => by injection e with e; omega), h.dr.pR, h.dr.Rw⟩, by rw [← hv]; exact heap_setCell_at h.var i v, hR⟩
  have k := h.dr.grown
  exact ⟨hg.os.trans k.os, hg.tape.trans k.tape, hg.output.trans k.output, Nat.le_trans k.size hg.size, fun j hj hne => (hg.block j (by have := k.size; omega) (fun e => by injection e with e; omega)).trans (k.block j hj hne)⟩
end
/-- What comes out of the draw. -/
def SrcDraw (p : Nat) (a : Option Addr) (len cap : Nat) (w : World) (e : Ending) (w' : World) : Prop :=
  ∃ S : Src, e = .returned (.agg #[.int .i64 S.x, .int .i64 S.m, .int .i64 S.s, .bool S.i, .bool S.o]) ∧ Cur w' p a len cap ∧ w.grownBy w' (some p)
theorem DV.out_ {p : Nat} {a : Option Addr} {len cap R B : Nat} {S : Src} {w W : World} (h : DV p a len cap R B S w W) :
    SrcDraw p a len cap w (.returned (.agg #[.int .i64 S.x, .int .i64 S.m, .int .i64 S.s, .bool S.i, .bool S.o])) (((((W.setCell ⟨R, 0, none⟩ (.int .i64 S.x)).setCell ⟨R, 1, none⟩ (.int .i64 S.m)).setCell ⟨R, 2, none⟩ (.int .i64 S.s)).setCell ⟨R, 3, none⟩ (.bool S.i)).setCell ⟨R, 4, none⟩ (.bool S.o)) := by
  have hp := h.dr.pR
  have hRw := h.dr.Rw
  have b5 : Below R W (((((W.setCell ⟨R, 0, none⟩ (.int .i64 S.x)).setCell ⟨R, 1, none⟩ (.int .i64 S.m)).setCell ⟨R, 2, none⟩ (.int .i64 S.s)).setCell ⟨R, 3, none⟩ (.bool S.i)).setCell ⟨R, 4, none⟩ (.bool S.o)) :=
    below_set5 (Below.refl R W) (Nat.le_refl _) _ _ _ _ _
  refine ⟨S, rfl, h.dr.cur.below_ (b5.mono (by omega)), ?_⟩
  have k := h.dr.grown
  exact ⟨b5.os.trans k.os, b5.tape.trans k.tape, b5.output.trans k.output, Nat.le_trans k.size b5.size, fun j hj hne => (b5.block j (by omega)).trans (k.block j hj hne)⟩
set_option maxHeartbeats 4000000 in
set_option maxRecDepth 100000 in
theorem drawSrc_any (p : Nat) (a : Option Addr) (len cap : Nat) (w : World) (hc : Cur w p a len cap) : Calls Try.prog 29 #[.pointer (some ⟨p, 0, none⟩)] w (SrcDraw p a len cap w) := by
  have D0 := Lib.hid (DR.start hc)
  clear hc
  go_enter Try.func29, Try.ntmps29
  go_wp2_with fail
  refine (below_any p a len cap 60 (by omega) (by omega) _ D0.out.cur).mono ?_
  rintro e w1 ⟨x, rfl, hx0, hx1, hc1, hg1⟩
  have D1 := Lib.hid (D0.out.draw hc1 hg1)
  clear hc1 hg1
  go_wp2_with fail
  refine (below_any p a len cap 50 (by omega) (by omega) _ D1.out.cur).mono ?_
  rintro e w2 ⟨s, rfl, hs0, hs1, hc2, hg2⟩
  have D2 := Lib.hid (D1.out.draw hc2 hg2)
  clear hc2 hg2
  go_wp2_with fail
  refine (once_any p a len cap 4 (by omega) (by omega) _ D2.out.cur).mono ?_
  rintro e w3 ⟨i, rfl, hc3, hg3⟩
  have D3 := Lib.hid (D2.out.draw hc3 hg3)
  clear hc3 hg3
  go_wp2_with fail
  refine (once_any p a len cap 6 (by omega) (by omega) _ D3.out.cur).mono ?_
  rintro e w4 ⟨o, rfl, hc4, hg4⟩
  have D4 := Lib.hid (D3.out.draw hc4 hg4)
  clear hc4 hg4
  have hRB : w.heap.size < w4.heap.size := D4.out.res.lt
  have V0 : Hid (DV p a len cap w.heap.size w4.heap.size ⟨x - 1, 0, s, i, !o⟩ w (w4.alloc (.cells #[.int .i64 (x - 1), .int .i64 0, .int .i64 s, .bool i, .bool (!o)] 28))) := Lib.hid ⟨D4.out.alloc _, Blk.new _ _ _, hRB⟩
  have B0 := Lib.hid V0.out.drew
  have q0 := V0.out.var.cell 0
  have q1 := B0.out.var.frozen 1
  have HBW : Hid (∀ W, Cur W p a len cap → Calls Try.prog 18 #[.pointer (some ⟨p, 0, none⟩), .int .i64 10] W (DrawPost 0 (10 - 1) p a len cap W)) := Lib.hid (fun W h => below_any p a len cap 10 (by omega) (by omega) W h)
  clear D0 D1 D2 D3 D4
  go_upto_region 2 with fail
  go_cut [] from 4 (fun wx => ∃ T, DV p a len cap w.heap.size w4.heap.size T w wx)
  case first =>
    simp at q0
    go_region_with (go_at_call 18; refine (HBW.out _ B0.out.dr.cur).mono ?_; rintro e u ⟨y, rfl, hy0, hy1, hc5, hg5⟩; have D5 := Lib.hid (B0.out.draw hc5 hg5); have c0 := D5.out.var.cell 0; have c1 := D5.out.var.cell 1; have f1 := D5.out.var.frozen 1; simp at c0 c1; have D6 := Lib.hid (D5.out.set (T := ⟨x - 1, IntKind.i64.wrap (x - 1 - y), s, i, !o⟩) 1 (.int .i64 (IntKind.i64.wrap (x - 1 - y))) rfl); clear hc5 hg5)
    all_goals
      go_wp2
      go_meet
      case rel => exact ⟨_, D6.out⟩
  case rest =>
    obtain ⟨T, hT⟩ := hcut
    clear V0 B0 q0 q1 HBW hx0 hx1 hs0 hs1
    obtain ⟨x, m, s, i, o⟩ := T
    have V1 := Lib.hid hT
    have c1 := hT.var.cell 1
    have f1 := hT.var.frozen 1
    simp at c1
    clear hT
    go_upto_if 23 with fail
    go_cut [] from 4 (fun wx => ∃ T, DV p a len cap w.heap.size w4.heap.size T w wx)
    case first =>
      by_cases hm : m < -1
      · have D6 := Lib.hid (V1.out.set (T := ⟨x, -1, s, i, o⟩) 1 (.int .i64 (-1)) rfl)
        go_wp2
        go_meet
        case rel => exact ⟨_, D6.out⟩
      · have hm' : -1 ≤ m := by omega
        go_wp2
        go_meet
        case rel => exact ⟨_, V1.out⟩
    case rest =>
      obtain ⟨T, hT⟩ := hcut
      clear V1 c1 f1
      have V2 := Lib.hid hT
      clear hT
      go_upto_if 26 with (go_at_call 20; refine (once_any p a len cap 15 (by omega) (by omega) _ V2.out.dr.cur).mono ?_; rintro e u1 ⟨b, rfl, hc1, hg1⟩)
      have V3 := Lib.hid (V2.out.draw hc1 hg1)
      clear hc1 hg1
      go_cut [] from 4 (fun wx => ∃ T, DV p a len cap w.heap.size w4.heap.size T w wx)
      case first =>
        cases b with
        | false =>
          go_wp2
          go_meet
          case rel => exact ⟨_, V3.out⟩
        | true =>
          go_wp2_with fail
          refine (below_any p a len cap 3 (by omega) (by omega) _ V3.out.dr.cur).mono ?_
          rintro e u2 ⟨y, rfl, hy0, hy1, hc2, hg2⟩
          have E2 := Lib.hid (V3.out.draw hc2 hg2)
          clear hc2 hg2 V2 V3
          obtain ⟨x, m, s, i, o⟩ := T
          by_cases h0 : y = 0
          · subst h0
            have D3 := Lib.hid (E2.out.alloc (.cells #[.int .i64 (-2), .int .i64 1000000, .int .i64 1000001] 3))
            have hl2 := E2.out.dr.cur.lt
            have R3 := Lib.hid (row_cells (xs := [-2, 1000000, 1000001]) (Blk.new u2 3 #[.int .i64 (-2), .int .i64 1000000, .int .i64 1000001]) (by simp))
            go_wp2_with fail
            refine (pick_any p a len cap u2.heap.size 3 [-2, 1000000, 1000001] (by simp) (by simp) _ D3.out.dr.cur (by simp) (by omega) R3.out).mono ?_
            rintro e u3 ⟨k, hk, rfl, hc3, hg3⟩
            have D4 := Lib.hid (D3.out.draw hc3 hg3)
            generalize el [-2, 1000000, 1000001] k = Z
            have D5 := Lib.hid (D4.out.set (T := ⟨Z, m, s, i, o⟩) 0 (.int .i64 Z) rfl)
            have f1 := D4.out.var.frozen 0
            have c1 := D4.out.var.cell 0
            simp at c1
            clear hc3 hg3 hk
            go_wp2
            go_meet
            case rel => exact ⟨_, D5.out⟩
          by_cases h1 : y = 1
          · subst h1
            have D3 := Lib.hid (E2.out.alloc (.cells #[.int .i64 (-2), .int .i64 1000000, .int .i64 1000001] 3))
            have hl2 := E2.out.dr.cur.lt
            have R3 := Lib.hid (row_cells (xs := [-2, 1000000, 1000001]) (Blk.new u2 3 #[.int .i64 (-2), .int .i64 1000000, .int .i64 1000001]) (by simp))
            go_wp2_with fail
            refine (pick_any p a len cap u2.heap.size 3 [-2, 1000000, 1000001] (by simp) (by simp) _ D3.out.dr.cur (by simp) (by omega) R3.out).mono ?_
            rintro e u3 ⟨k, hk, rfl, hc3, hg3⟩
            have D4 := Lib.hid (D3.out.draw hc3 hg3)
            generalize el [-2, 1000000, 1000001] k = Z
            have D5 := Lib.hid (D4.out.set (T := ⟨x, Z, s, i, o⟩) 1 (.int .i64 Z) rfl)
            have f1 := D4.out.var.frozen 1
            have c1 := D4.out.var.cell 1
            simp at c1
            clear hc3 hg3 hk
            go_wp2
            go_meet
            case rel => exact ⟨_, D5.out⟩
          have h2 : y = 2 := by omega
          subst h2
          have D3 := Lib.hid (E2.out.alloc (.cells #[.int .i64 (-1), .int .i64 1000000000, .int .i64 1000000001] 3))
          have hl2 := E2.out.dr.cur.lt
          have R3 := Lib.hid (row_cells (xs := [-1, 1000000000, 1000000001]) (Blk.new u2 3 #[.int .i64 (-1), .int .i64 1000000000, .int .i64 1000000001]) (by simp))
          go_wp2_with fail
          refine (pick_any p a len cap u2.heap.size 3 [-1, 1000000000, 1000000001] (by simp) (by simp) _ D3.out.dr.cur (by simp) (by omega) R3.out).mono ?_
          rintro e u3 ⟨k, hk, rfl, hc3, hg3⟩
          have D4 := Lib.hid (D3.out.draw hc3 hg3)
          generalize el [-1, 1000000000, 1000000001] k = Z
          have D5 := Lib.hid (D4.out.set (T := ⟨x, m, Z, i, o⟩) 2 (.int .i64 Z) rfl)
          have f1 := D4.out.var.frozen 2
          have c1 := D4.out.var.cell 2
          simp at c1
          clear hc3 hg3 hk
          go_wp2
          go_meet
          case rel => exact ⟨_, D5.out⟩
      case rest =>
        obtain ⟨T, hT⟩ := hcut
        clear V2 V3
        obtain ⟨x, m, s, i, o⟩ := T
        have HO := Lib.hid hT.out_
        have qv := hT.var.cell
        have qr := hT.dr.res.cell
        have fr := hT.dr.res.frozen
        have lr := hT.dr.res.lt
        simp only at qv
        clear hT
        go_wp2
        exact bodyPost_ret (v := (.agg #[.int .i64 x, .int .i64 m, .int .i64 s, .bool i, .bool o])) (by simp [results, Try.results29, go_sem, qr]) rfl HO.out
end Go.Proofs.Ytcjmigjkjepkdaa
