/- Rows of MsgS: records that begin with a slice; the laws' own helpers over them. (made by tools/mkhrow.py) -/
import Derived.Test.YtnfhlfbkdhpacaaGreatDoorMsgS
import Derived.Test.YtnfhlfbkdhpacaaGreatDoorShardS
import Derived.Test.YtnfhlfbkdhpacaaGreatDoorJoint1
import Derived.Deep.RegionWith
namespace Go.Proofs.YtnfhlfbkdhpacaaGreatDoor
open Go.RowKit

def hdMq : Hd (List Mq) where
  ln x := x.length
  tail _ := []
  rd w hi x a c := Mqs w hi a c x
  ow w lo x a c := w.ownsRow lo 127 5 (.slice a x.length c) x.length (flatQ x)
  rd_below h b := Recs.below h b
  rd_more h b := Recs.more h b
  ow_rd h := Mqs.of_own h
  ow_below h b := owns_below h b
  ow_set v h p := ownsR_setCell_below h p v
  ow_less h b := owns_less h b
theorem Recs_cap_MsgS {w : World} {hi ci : Nat} {ai : Option Addr} {xl : List Mq} (h : hdMq.rd w hi xl ai ci) : xl.length ≤ 9223372036854775807 := Nat.le_trans (Recs.cap h) (Recs.big h)
theorem szEl_MsgS (xl : List Mq) (ai : Option Addr) (ci : Nat) (left : Int) (W : World) (hl0 : 0 ≤ left) (hl1 : left ≤ 1048576) (hn : xl.length ≤ 9223372036854775807) :
    Calls Tryz.prog 26 #[.slice ai xl.length ci, .int .i64 left] W fun e w' => e = .returned (.int .i64 (if left - (xl.length : Int) < 0 then -1 else left - (xl.length : Int))) ∧ Below W.heap.size W w' :=
  (szMsgS_any ai xl.length ci left W hl0 hl1 hn).mono fun e w' ⟨h, k⟩ => ⟨h, by rw [← k]; exact Below.refl _ _⟩
theorem toEl_MsgS (xl : List Mq) (ai : Option Addr) (ci : Nat) (W : World) (hr : hdMq.rd W W.heap.size xl ai ci) (hl : xl.length ≤ 1048576) :
    Calls Tryz.prog 34 #[.slice ai xl.length ci] W fun e w' => ∃ a c, e = .returned (.slice a xl.length c) ∧ hdMq.ow w' W.heap.size xl a c ∧ Below W.heap.size W w' :=
  toMsgS_any ai xl.length ci xl W.heap.size W hr rfl (Nat.le_refl _) hl
theorem eqEl_MsgS (xl : List Mq) (ai : Option Addr) (ci : Nat) (bi : Option Addr) (di : Nat) (W : World) (hr : hdMq.rd W W.heap.size xl ai ci) (hs : hdMq.rd W W.heap.size xl bi di) :
    Calls Tryz.prog 47 #[.slice ai xl.length ci, .slice bi xl.length di] W fun e w' => e = .returned (.bool true) ∧ Below W.heap.size W w' :=
  eqMsgS_any ai bi xl.length xl.length ci di xl W.heap.size W.heap.size W hr hs rfl rfl (Nat.le_refl _) (Nat.le_refl _)
set_option maxHeartbeats 1000000 in
set_option maxRecDepth 100000 in
theorem szMsgSR_any (a : Option Addr) (n c : Nat) (l : List (List Mq)) (hi : Nat) (left : Int) (w : World) (hl0 : 0 ≤ left) (hl1 : left ≤ 1048576) (hr : HRow hdMq 1 ([] : List Mq) w hi a c l) (hn : n = l.length) (hB : hi ≤ w.heap.size) :
    Calls Tryz.prog 27 #[.slice a n c, .int .i64 left] w fun e w' => ∃ L : Int, e = .returned (.int .i64 L) ∧ -1 ≤ L ∧ L ≤ left ∧ (0 ≤ L → (l.length : Int) + (totH hdMq ([] : List Mq) l l.length : Int) + L ≤ left) ∧ Below w.heap.size w w' := by
  subst hn
  have hc1 := hr.cap
  have hc2 := hr.big
  have BR := Lib.hid (Below.refl w.heap.size w)
  by_cases hbig : left - (l.length : Int) < 0
  · clear hr
    go_enter Tryz.func27, Tryz.ntmps27
    go_wp2
    go_ret
    exact ⟨-1, rfl, by omega, by omega, by omega, BR.out⟩
  · have HR := Lib.hid hr
    clear hr
    go_enter Tryz.func27, Tryz.ntmps27
    go_wp2
    go_loopw [1, 5] (fun L i wr => ∃ j : Nat, j ≤ l.length ∧ i = .int .i64 j ∧ L = .int .i64 (left - (l.length : Int) - (totH hdMq ([] : List Mq) l j : Int)) ∧ (l.length : Int) + (totH hdMq ([] : List Mq) l j : Int) ≤ left ∧ Below w.heap.size w wr) (fun _ i _ => l.length - (intOf i).toNat)
    case atStart => exact ⟨0, Nat.zero_le _, rfl, by simp [totH], by simp [totH]; omega, BR.out⟩
    case round =>
      obtain ⟨j, hj, rfl, rfl, ht, hb⟩ := hrel
      have hsz := hb.size
      have HB := Lib.hid hb
      by_cases hlt : j < l.length
      · obtain ⟨b, off, rfl, hbh, hcell⟩ := (HR.out.below (hb.mono hB)).cells (by omega)
        obtain ⟨ai, ci, h0, hq, hrd⟩ := hcell j hlt
        have hT : totH hdMq ([] : List Mq) l (j + 1) = totH hdMq ([] : List Mq) l j + hdMq.ln (rel ([] : List Mq) l j) := rfl
        generalize rel ([] : List Mq) l j = x at h0 hq hrd hT
        obtain ⟨xl, hxl⟩ : ∃ xl, xl = x := ⟨_, rfl⟩
        subst hxl
        have q0 : wr.cell? ⟨b, off + j, none⟩ = some (.slice ai xl.length ci) := (by have z := h0; rw [Nat.mul_one] at z; exact z)
        have hT : totH hdMq ([] : List Mq) l (j + 1) = totH hdMq ([] : List Mq) l j + xl.length := hT
        have hm1 := Recs_cap_MsgS hrd
        have HT := Lib.hid hT
        clear hcell h0 hq hrd hT hb
        generalize totH hdMq ([] : List Mq) l j = t at ht HT
        have HSZ := Lib.hid (fun W => szEl_MsgS xl ai ci (left - (l.length : Int) - (t : Int)) W (by omega) (by omega) hm1)
        have hlt' : (j : Int) < (l.length : Int) := by omega
        by_cases hneg : left - (l.length : Int) - (t : Int) - (xl.length : Int) < 0
        · rw [if_pos hneg] at HSZ
          go_wp2_with fail
          refine (HSZ.out _).mono ?_
          rintro e w' ⟨rfl, hb2⟩
          have HB2 := Lib.hid (HB.out.trans (hb2.mono hsz))
          clear hb2
          go_wp2
          go_ret
          exact ⟨-1, rfl, by omega, by omega, by omega, HB2.out⟩
        · rw [if_neg hneg] at HSZ
          go_wp2_with fail
          refine (HSZ.out _).mono ?_
          rintro e w' ⟨rfl, hb2⟩
          have HB2 := Lib.hid (HB.out.trans (hb2.mono hsz))
          clear hb2
          go_wp2
          go_roundw
          case rel => exact ⟨j + 1, by omega, by go_num, by rw [HT.out]; congr 1; omega, by rw [HT.out]; omega, HB2.out⟩
          case measure => simp [intOf]; omega
      · obtain rfl : j = l.length := by omega
        clear hb
        go_wp2
        go_ret
        exact ⟨_, rfl, by omega, by omega, by omega, HB.out⟩
theorem infoMsgSR : (Tryz.prog.info? 39).map (fun i => (i.zero, i.size, i.bytes)) = some (some (.slice none 0 0), 1, 24) := by kernel_rfl
theorem run_make_MsgSR (n : Nat) (hn : n ≤ 1048576) : ∃ CS : Array Value, CS.size = n * 1 ∧ ∀ W : World, (Instr.makeSlice 40 (.int .i64 (n : Int)) (.int .i64 (n : Int))).run Tryz.prog W = .ok (.slice (some ⟨W.heap.size, 0, none⟩) n n) (W.alloc (.cells CS 39)) := by
  obtain ⟨i, hi, hzz⟩ := Option.map_eq_some_iff.1 infoMsgSR
  simp only [Prod.mk.injEq] at hzz
  obtain ⟨hz, hs, hb⟩ := hzz
  refine ⟨madeCells (Value.cells (.slice none 0 0)) (n * 1), size_madeCells _ _, fun W => ?_⟩
  have h := run_make (P := Tryz.prog) W 40 39 i _ Tryz.underlying40 hi hz .i64 .i64 n n (by omega) (Int.le_refl _) (by rw [hb]; omega) (by omega)
  simp only [Int.toNat_natCast, hs] at h
  exact h
set_option maxHeartbeats 1000000 in
set_option maxRecDepth 100000 in
theorem toMsgSR_any (a : Option Addr) (n c : Nat) (l : List (List Mq)) (hi : Nat) (w : World) (hr : HRow hdMq 1 ([] : List Mq) w hi a c l) (hn : n = l.length) (hB : hi ≤ w.heap.size) (hlen : l.length ≤ 1048576) (htot : totH hdMq ([] : List Mq) l l.length ≤ 1048576) :
    Calls Tryz.prog 35 #[.slice a n c] w (FreshH hdMq 1 ([] : List Mq) 39 l w) := by
  subst hn
  obtain ⟨CS, hcs, hmk⟩ := run_make_MsgSR l.length hlen
  have hc1 := hr.cap
  have hc2 := hr.big
  have HR := Lib.hid hr
  have C0 := Lib.hid (HCop.start (H := hdMq) (k := 1) (d := ([] : List Mq)) (l := l) (Blk.new w 39 CS) hcs)
  have B0 := Lib.hid ((Below.refl w.heap.size w).alloc (Nat.le_refl _) (.cells CS 39))
  clear hr hcs
  go_enter Tryz.func35, Tryz.ntmps35
  go_wp2
  go_loopw [4] (fun i wr => ∃ j : Nat, j ≤ l.length ∧ i = .int .i64 j ∧ w.heap.size < wr.heap.size ∧ HCop hdMq 1 ([] : List Mq) 39 w.heap.size l j wr ∧ Below w.heap.size w wr) (fun i _ => l.length - (intOf i).toNat)
  case atStart => exact ⟨0, Nat.zero_le _, rfl, by simp, C0.out, B0.out⟩
  case round =>
    obtain ⟨j, hj, rfl, hgl, hcp, hb⟩ := hrel
    have hsz := hb.size
    have HB := Lib.hid hb
    have HC := Lib.hid hcp
    by_cases hlt : j < l.length
    · obtain ⟨b, off, rfl, hbh, hcell⟩ := (HR.out.below (hb.mono hB)).cells (by omega)
      obtain ⟨ai, ci, h0, hq, hrd⟩ := hcell j hlt
      have hln := head_le (H := hdMq) (d := ([] : List Mq)) (l := l) hlt
      have HST : Hid (∀ (W' : World) (a3 : Option Addr) (c3 : Nat), Below wr.heap.size wr W' → hdMq.ow W' wr.heap.size (rel ([] : List Mq) l j) a3 c3 → HCop hdMq 1 ([] : List Mq) 39 w.heap.size l (j + 1) (W'.setCells w.heap.size (j * 1) (.slice a3 (hdMq.ln (rel ([] : List Mq) l j)) c3 :: hdMq.tail (rel ([] : List Mq) l j)))) :=
        Lib.hid (fun W' a3 c3 hb3 ho => (hcp.below hb3).step (by omega) rfl hlt (hdMq.ow_less ho (by omega)))
      have hrd := hdMq.rd_more hrd (show hi ≤ wr.heap.size by omega)
      generalize rel ([] : List Mq) l j = x at h0 hq hrd hln HST
      obtain ⟨xl, hxl⟩ : ∃ xl, xl = x := ⟨_, rfl⟩
      subst hxl
      have q0 : wr.cell? ⟨b, off + j, none⟩ = some (.slice ai xl.length ci) := (by have z := h0; rw [Nat.mul_one] at z; exact z)
      have hln : xl.length ≤ totH hdMq ([] : List Mq) l l.length := hln
      have hm1 := Recs_cap_MsgS hrd
      have HTO := Lib.hid (toEl_MsgS xl ai ci wr hrd (by omega))
      have hlt' : (j : Int) < (l.length : Int) := by omega
      clear hcell h0 hq hrd hcp hb hln htot
      go_wp2_with fail
      refine (HTO.out).mono ?_
      rintro e w3 ⟨a3, c3, rfl, ho, hb3⟩
      have HS3 : Hid (HCop hdMq 1 ([] : List Mq) 39 w.heap.size l (j + 1) (w3.setCell ⟨w.heap.size, j, none⟩ (.slice a3 xl.length c3))) := Lib.hid (by have z := HST.out w3 a3 c3 hb3 ho; rw [Nat.mul_one] at z; exact z)
      have HB3 := Lib.hid (HB.out.trans (hb3.mono hsz))
      have s3 := hb3.size
      have hfz : ∀ i, w3.frozen? ⟨w.heap.size, i, none⟩ = false := by
        obtain ⟨cs, hBk, hs_, _⟩ := HC.out.ex
        exact (hBk.below hb3).frozen
      have hcl : ∀ q, q < 1 → ∃ v, w3.cell? ⟨w.heap.size, j * 1 + q, none⟩ = some v := fun q hq => by
        obtain ⟨cs, hBk, hs_, _⟩ := HC.out.ex
        rw [(hBk.below hb3).cell]
        exact ⟨cs[j * 1 + q]'(by omega), by rw [Array.getElem?_eq_getElem]⟩
      obtain ⟨v0, c0⟩ := hcl 0 (by omega)
      rw [Nat.add_zero, Nat.mul_one] at c0
      clear hb3 hcl ho q0
      go_wp2
      go_roundw
      case rel => exact ⟨j + 1, by omega, by go_num, by simp; omega, HS3.out, (HB3.out.setCell (p := ⟨w.heap.size, j, none⟩) (Nat.le_refl _) _)⟩
      case measure => simp [intOf]; omega
    · obtain rfl : j = l.length := by omega
      have HP : Hid (FreshH hdMq 1 ([] : List Mq) 39 l w (.returned (.slice (some ⟨w.heap.size, 0, none⟩) l.length l.length)) wr) := ⟨_, _, rfl, hcp.done hlen (Nat.le_refl _), hb⟩
      clear hcp hb
      go_wp2
      go_ret
      exact HP.out
set_option maxHeartbeats 1000000 in
set_option maxRecDepth 100000 in
theorem eqMsgSR_any (a b : Option Addr) (n m ca cb : Nat) (l : List (List Mq)) (ha hb : Nat) (w : World) (h1 : HRow hdMq 1 ([] : List Mq) w ha a ca l) (h2 : HRow hdMq 1 ([] : List Mq) w hb b cb l) (hn : n = l.length) (hm : m = l.length) (hB1 : ha ≤ w.heap.size) (hB2 : hb ≤ w.heap.size) :
    Calls Tryz.prog 48 #[.slice a n ca, .slice b m cb] w fun e w' => e = .returned (.bool true) ∧ Below w.heap.size w w' := by
  subst hn
  subst hm
  have hc1 := h1.cap
  have hc2 := h1.big
  have hc3 := h2.cap
  have hc4 := h2.big
  have H1 := Lib.hid h1
  have H2 := Lib.hid h2
  clear h1 h2
  go_enter Tryz.func48, Tryz.ntmps48
  go_wp2
  go_loopw [5] (fun i wr => ∃ j : Nat, j ≤ l.length ∧ i = .int .i64 j ∧ Below w.heap.size w wr) (fun i _ => l.length - (intOf i).toNat)
  case atStart => exact ⟨0, Nat.zero_le _, rfl, Below.refl _ _⟩
  case round =>
    obtain ⟨j, hj, rfl, hbw⟩ := hrel
    have hsz := hbw.size
    have HB := Lib.hid hbw
    by_cases hlt : j < l.length
    · obtain ⟨b1, off1, rfl, _, hcell1⟩ := (H1.out.below (hbw.mono hB1)).cells (by omega)
      obtain ⟨b2, off2, rfl, _, hcell2⟩ := (H2.out.below (hbw.mono hB2)).cells (by omega)
      obtain ⟨ai, ci, h0, hq, hrd⟩ := hcell1 j hlt
      obtain ⟨bi, di, g0, gq, grd⟩ := hcell2 j hlt
      have hrd := hdMq.rd_more hrd (show ha ≤ wr.heap.size by omega)
      have grd := hdMq.rd_more grd (show hb ≤ wr.heap.size by omega)
      generalize rel ([] : List Mq) l j = x at h0 hq hrd g0 gq grd
      obtain ⟨xl, hxl⟩ : ∃ xl, xl = x := ⟨_, rfl⟩
      subst hxl
      have p0 : wr.cell? ⟨b1, off1 + j, none⟩ = some (.slice ai xl.length ci) := (by have z := h0; rw [Nat.mul_one] at z; exact z)
      have q0 : wr.cell? ⟨b2, off2 + j, none⟩ = some (.slice bi xl.length di) := (by have z := g0; rw [Nat.mul_one] at z; exact z)
      have hm1 := Recs_cap_MsgS hrd
      have hm2 := Recs_cap_MsgS grd
      have HEQ := Lib.hid (eqEl_MsgS xl ai ci bi di wr.drew (hdMq.rd_below hrd (Below.refl _ wr).drew) (hdMq.rd_below grd (Below.refl _ wr).drew))
      have hlt' : (j : Int) < (l.length : Int) := by omega
      clear hcell1 hcell2 h0 hq hrd g0 gq grd hbw
      go_wp2_with fail
      go_region_with (go_at_call 47; refine HEQ.out.mono ?_; rintro e w3 ⟨rfl, hb⟩; have HB3 := Lib.hid ((HB.out.drew).trans (hb.mono hsz)); clear hb)
      all_goals
        clear p0 q0
        go_wp2
        go_roundw
        case rel => exact ⟨j + 1, by omega, by go_num, HB3.out⟩
        case measure => simp [intOf]; omega
    · obtain rfl : j = l.length := by omega
      clear hbw
      go_wp2
      go_ret
      exact ⟨rfl, HB.out⟩
end Go.Proofs.YtnfhlfbkdhpacaaGreatDoor
