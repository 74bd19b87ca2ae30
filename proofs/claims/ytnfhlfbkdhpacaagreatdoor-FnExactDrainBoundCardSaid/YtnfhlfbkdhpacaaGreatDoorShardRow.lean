/- Rows of Shard: records that begin with a slice; the laws' own helpers over them. (made by tools/mkhrow.py) -/
import Derived.Test.YtnfhlfbkdhpacaaGreatDoorShardS
import Derived.Test.YtnfhlfbkdhpacaaGreatDoorJoint1
import Derived.Deep.RegionWith
namespace Go.Proofs.YtnfhlfbkdhpacaaGreatDoor
open Go.RowKit

/-- A shard, as it is read. -/
structure Sh where
  l : List Ag
  mr : Int
  lt : Int
  ov : Int
def shD : Sh := ⟨[], 0, 0, 0⟩
def hdSh : Hd Sh where
  ln x := x.l.length
  tail x := [.int .i64 x.mr, .int .i64 x.lt, .int .i64 x.ov]
  rd w hi x a c := Ags w hi a c x.l
  ow w lo x a c := w.ownsRow lo 136 6 (.slice a x.l.length c) x.l.length (flatA x.l)
  rd_below h b := Recs.below h b
  rd_more h b := Recs.more h b
  ow_rd h := Ags.of_own h
  ow_below h b := owns_below h b
  ow_set v h p := ownsR_setCell_below h p v
  ow_less h b := owns_less h b
theorem Recs_cap_Shard {w : World} {hi ci : Nat} {ai : Option Addr} {xl : List Ag} {mr lt ov : Int} (h : hdSh.rd w hi ⟨xl, mr, lt, ov⟩ ai ci) : xl.length ≤ 9223372036854775807 := Nat.le_trans (Recs.cap h) (Recs.big h)
theorem szAggS_n (a : Option Addr) (n c : Nat) (left : Int) (w : World) (hl0 : 0 ≤ left) (hl1 : left ≤ 1048576) (hn : n ≤ 9223372036854775807) :
    Calls Tryz.prog 29 #[.slice a n c, .int .i64 left] w fun e w' => e = .returned (.int .i64 (if left - (n : Int) < 0 then -1 else left - (n : Int))) ∧ w = w' := by
  by_cases h : left - (n : Int) < 0
  · rw [if_pos h]
    go_enter Tryz.func29, Tryz.ntmps29
    go_wp2
    go_ret
    exact ⟨rfl, rfl⟩
  · rw [if_neg h]
    go_enter Tryz.func29, Tryz.ntmps29
    go_wp2
    go_ret
    exact ⟨rfl, rfl⟩
theorem szEl_Shard (xl : List Ag) (mr lt ov : Int) (ai : Option Addr) (ci : Nat) (left : Int) (W : World) (hl0 : 0 ≤ left) (hl1 : left ≤ 1048576) (hn : xl.length ≤ 9223372036854775807) :
    Calls Tryz.prog 80 #[.agg #[.slice ai xl.length ci, .int .i64 mr, .int .i64 lt, .int .i64 ov], .int .i64 left] W fun e w' => e = .returned (.int .i64 (if left - (xl.length : Int) < 0 then -1 else left - (xl.length : Int))) ∧ Below W.heap.size W w' := by
  have hs := fun W => szAggS_n ai xl.length ci left W hl0 hl1 hn
  by_cases h : left - (xl.length : Int) < 0
  · rw [if_pos h] at hs ⊢
    have HS := Lib.hid hs
    clear hs
    go_enter Tryz.func80, Tryz.ntmps80
    go_wp2_with fail
    refine (HS.out _).mono ?_
    rintro e w' HH
    obtain ⟨rfl, rfl⟩ := HH
    have HB := Lib.hid ((Below.refl W.heap.size W).alloc (Nat.le_refl _) (.cells #[.slice ai xl.length ci, .int .i64 mr, .int .i64 lt, .int .i64 ov] 121))
    go_wp2
    go_ret
    exact ⟨rfl, HB.out⟩
  · rw [if_neg h] at hs ⊢
    have HS := Lib.hid hs
    clear hs
    go_enter Tryz.func80, Tryz.ntmps80
    go_wp2_with fail
    refine (HS.out _).mono ?_
    rintro e w' HH
    obtain ⟨rfl, rfl⟩ := HH
    have HB := Lib.hid ((Below.refl W.heap.size W).alloc (Nat.le_refl _) (.cells #[.slice ai xl.length ci, .int .i64 mr, .int .i64 lt, .int .i64 ov] 121))
    go_wp2
    go_ret
    exact ⟨rfl, HB.out⟩
theorem toEl_Shard (xl : List Ag) (mr lt ov : Int) (ai : Option Addr) (ci : Nat) (W : World) (hr : hdSh.rd W W.heap.size ⟨xl, mr, lt, ov⟩ ai ci) (hl : xl.length ≤ 1048576) :
    Calls Tryz.prog 88 #[.agg #[.slice ai xl.length ci, .int .i64 mr, .int .i64 lt, .int .i64 ov]] W fun e w' => ∃ a c, e = .returned (.agg #[.slice a xl.length c, .int .i64 mr, .int .i64 lt, .int .i64 ov]) ∧ hdSh.ow w' W.heap.size ⟨xl, mr, lt, ov⟩ a c ∧ Below W.heap.size W w' :=
  toShard_any ai xl.length ci mr lt ov xl W.heap.size W hr rfl (Nat.le_refl _) hl
theorem eqEl_Shard (xl : List Ag) (mr lt ov : Int) (ai : Option Addr) (ci : Nat) (bi : Option Addr) (di : Nat) (W : World) (hr : hdSh.rd W W.heap.size ⟨xl, mr, lt, ov⟩ ai ci) (hs : hdSh.rd W W.heap.size ⟨xl, mr, lt, ov⟩ bi di) :
    Calls Tryz.prog 100 #[.agg #[.slice ai xl.length ci, .int .i64 mr, .int .i64 lt, .int .i64 ov], .agg #[.slice bi xl.length di, .int .i64 mr, .int .i64 lt, .int .i64 ov]] W fun e w' => e = .returned (.bool true) ∧ Below W.heap.size W w' :=
  eqShard_any ai bi xl.length xl.length ci di mr lt ov xl W.heap.size W.heap.size W hr hs rfl rfl (Nat.le_refl _) (Nat.le_refl _)
set_option maxHeartbeats 1000000 in
set_option maxRecDepth 100000 in
theorem szShardR_any (a : Option Addr) (n c : Nat) (l : List (Sh)) (hi : Nat) (left : Int) (w : World) (hl0 : 0 ≤ left) (hl1 : left ≤ 1048576) (hr : HRow hdSh 4 shD w hi a c l) (hn : n = l.length) (hB : hi ≤ w.heap.size) :
    Calls Tryz.prog 28 #[.slice a n c, .int .i64 left] w fun e w' => ∃ L : Int, e = .returned (.int .i64 L) ∧ -1 ≤ L ∧ L ≤ left ∧ (0 ≤ L → (l.length : Int) + (totH hdSh shD l l.length : Int) + L ≤ left) ∧ Below w.heap.size w w' := by
  subst hn
  have hc1 := hr.cap
  have hc2 := hr.big
  have BR := Lib.hid (Below.refl w.heap.size w)
  by_cases hbig : left - (l.length : Int) < 0
  · clear hr
    go_enter Tryz.func28, Tryz.ntmps28
    go_wp2
    go_ret
    exact ⟨-1, rfl, by omega, by omega, by omega, BR.out⟩
  · have HR := Lib.hid hr
    clear hr
    go_enter Tryz.func28, Tryz.ntmps28
    go_wp2
    go_loopw [1, 5] (fun L i wr => ∃ j : Nat, j ≤ l.length ∧ i = .int .i64 j ∧ L = .int .i64 (left - (l.length : Int) - (totH hdSh shD l j : Int)) ∧ (l.length : Int) + (totH hdSh shD l j : Int) ≤ left ∧ Below w.heap.size w wr) (fun _ i _ => l.length - (intOf i).toNat)
    case atStart => exact ⟨0, Nat.zero_le _, rfl, by simp [totH], by simp [totH]; omega, BR.out⟩
    case round =>
      obtain ⟨j, hj, rfl, rfl, ht, hb⟩ := hrel
      have hsz := hb.size
      have HB := Lib.hid hb
      by_cases hlt : j < l.length
      · obtain ⟨b, off, rfl, hbh, hcell⟩ := (HR.out.below (hb.mono hB)).cells (by omega)
        obtain ⟨ai, ci, h0, hq, hrd⟩ := hcell j hlt
        have hT : totH hdSh shD l (j + 1) = totH hdSh shD l j + hdSh.ln (rel shD l j) := rfl
        generalize rel shD l j = x at h0 hq hrd hT
        obtain ⟨xl, mr, lt, ov⟩ := x
        have q0 : wr.cell? ⟨b, off + j * 4, none⟩ = some (.slice ai xl.length ci) := h0
        have q1 : wr.cell? ⟨b, off + j * 4 + 1, none⟩ = some (.int .i64 mr) := hq 0 (by omega)
        have q2 : wr.cell? ⟨b, off + j * 4 + 2, none⟩ = some (.int .i64 lt) := hq 1 (by omega)
        have q3 : wr.cell? ⟨b, off + j * 4 + 3, none⟩ = some (.int .i64 ov) := hq 2 (by omega)
        have hT : totH hdSh shD l (j + 1) = totH hdSh shD l j + xl.length := hT
        have hm1 := Recs_cap_Shard hrd
        have HT := Lib.hid hT
        clear hcell h0 hq hrd hT hb
        generalize totH hdSh shD l j = t at ht HT
        have HSZ := Lib.hid (fun W => szEl_Shard xl mr lt ov ai ci (left - (l.length : Int) - (t : Int)) W (by omega) (by omega) hm1)
        have hlt' : (j : Int) < (l.length : Int) := by omega
        by_cases hneg : left - (l.length : Int) - (t : Int) - (xl.length : Int) < 0
        · rw [if_pos hneg] at HSZ
          go_wp2_with fail
          refine (HSZ.out _).mono ?_
          rintro e w' ⟨rfl, hb2⟩
          have HB2 := Lib.hid (HB.out.trans (hb2.mono hsz))
          clear hb2
          go_wp2
          go_ret
          exact ⟨-1, rfl, by omega, by omega, by omega, HB2.out⟩
        · rw [if_neg hneg] at HSZ
          go_wp2_with fail
          refine (HSZ.out _).mono ?_
          rintro e w' ⟨rfl, hb2⟩
          have HB2 := Lib.hid (HB.out.trans (hb2.mono hsz))
          clear hb2
          go_wp2
          go_roundw
          case rel => exact ⟨j + 1, by omega, by go_num, by rw [HT.out]; congr 1; omega, by rw [HT.out]; omega, HB2.out⟩
          case measure => simp [intOf]; omega
      · obtain rfl : j = l.length := by omega
        clear hb
        go_wp2
        go_ret
        exact ⟨_, rfl, by omega, by omega, by omega, HB.out⟩
theorem infoShardR : (Tryz.prog.info? 111).map (fun i => (i.zero, i.size, i.bytes)) = some (some (.agg #[.slice none 0 0, .int .i64 0, .int .i64 0, .int .i64 0]), 4, 48) := by kernel_rfl
theorem run_make_ShardR (n : Nat) (hn : n ≤ 1048576) : ∃ CS : Array Value, CS.size = n * 4 ∧ ∀ W : World, (Instr.makeSlice 41 (.int .i64 (n : Int)) (.int .i64 (n : Int))).run Tryz.prog W = .ok (.slice (some ⟨W.heap.size, 0, none⟩) n n) (W.alloc (.cells CS 111)) := by
  obtain ⟨i, hi, hzz⟩ := Option.map_eq_some_iff.1 infoShardR
  simp only [Prod.mk.injEq] at hzz
  obtain ⟨hz, hs, hb⟩ := hzz
  refine ⟨madeCells (Value.cells (.agg #[.slice none 0 0, .int .i64 0, .int .i64 0, .int .i64 0])) (n * 4), size_madeCells _ _, fun W => ?_⟩
  have h := run_make (P := Tryz.prog) W 41 111 i _ Tryz.underlying41 hi hz .i64 .i64 n n (by omega) (Int.le_refl _) (by rw [hb]; omega) (by omega)
  simp only [Int.toNat_natCast, hs] at h
  exact h
set_option maxHeartbeats 1000000 in
set_option maxRecDepth 100000 in
theorem toShardR_any (a : Option Addr) (n c : Nat) (l : List (Sh)) (hi : Nat) (w : World) (hr : HRow hdSh 4 shD w hi a c l) (hn : n = l.length) (hB : hi ≤ w.heap.size) (hlen : l.length ≤ 1048576) (htot : totH hdSh shD l l.length ≤ 1048576) :
    Calls Tryz.prog 36 #[.slice a n c] w (FreshH hdSh 4 shD 111 l w) := by
  subst hn
  obtain ⟨CS, hcs, hmk⟩ := run_make_ShardR l.length hlen
  have hc1 := hr.cap
  have hc2 := hr.big
  have HR := Lib.hid hr
  have C0 := Lib.hid (HCop.start (H := hdSh) (k := 4) (d := shD) (l := l) (Blk.new w 111 CS) hcs)
  have B0 := Lib.hid ((Below.refl w.heap.size w).alloc (Nat.le_refl _) (.cells CS 111))
  clear hr hcs
  go_enter Tryz.func36, Tryz.ntmps36
  go_wp2
  go_loopw [4] (fun i wr => ∃ j : Nat, j ≤ l.length ∧ i = .int .i64 j ∧ w.heap.size < wr.heap.size ∧ HCop hdSh 4 shD 111 w.heap.size l j wr ∧ Below w.heap.size w wr) (fun i _ => l.length - (intOf i).toNat)
  case atStart => exact ⟨0, Nat.zero_le _, rfl, by simp, C0.out, B0.out⟩
  case round =>
    obtain ⟨j, hj, rfl, hgl, hcp, hb⟩ := hrel
    have hsz := hb.size
    have HB := Lib.hid hb
    have HC := Lib.hid hcp
    by_cases hlt : j < l.length
    · obtain ⟨b, off, rfl, hbh, hcell⟩ := (HR.out.below (hb.mono hB)).cells (by omega)
      obtain ⟨ai, ci, h0, hq, hrd⟩ := hcell j hlt
      have hln := head_le (H := hdSh) (d := shD) (l := l) hlt
      have HST : Hid (∀ (W' : World) (a3 : Option Addr) (c3 : Nat), Below wr.heap.size wr W' → hdSh.ow W' wr.heap.size (rel shD l j) a3 c3 → HCop hdSh 4 shD 111 w.heap.size l (j + 1) (W'.setCells w.heap.size (j * 4) (.slice a3 (hdSh.ln (rel shD l j)) c3 :: hdSh.tail (rel shD l j)))) :=
        Lib.hid (fun W' a3 c3 hb3 ho => (hcp.below hb3).step (by omega) rfl hlt (hdSh.ow_less ho (by omega)))
      have hrd := hdSh.rd_more hrd (show hi ≤ wr.heap.size by omega)
      generalize rel shD l j = x at h0 hq hrd hln HST
      obtain ⟨xl, mr, lt, ov⟩ := x
      have q0 : wr.cell? ⟨b, off + j * 4, none⟩ = some (.slice ai xl.length ci) := h0
      have q1 : wr.cell? ⟨b, off + j * 4 + 1, none⟩ = some (.int .i64 mr) := hq 0 (by omega)
      have q2 : wr.cell? ⟨b, off + j * 4 + 2, none⟩ = some (.int .i64 lt) := hq 1 (by omega)
      have q3 : wr.cell? ⟨b, off + j * 4 + 3, none⟩ = some (.int .i64 ov) := hq 2 (by omega)
      have hln : xl.length ≤ totH hdSh shD l l.length := hln
      have hm1 := Recs_cap_Shard hrd
      have HTO := Lib.hid (toEl_Shard xl mr lt ov ai ci wr hrd (by omega))
      have hlt' : (j : Int) < (l.length : Int) := by omega
      clear hcell h0 hq hrd hcp hb hln htot
      go_wp2_with fail
      refine (HTO.out).mono ?_
      rintro e w3 ⟨a3, c3, rfl, ho, hb3⟩
      have HS3 : Hid (HCop hdSh 4 shD 111 w.heap.size l (j + 1) ((((w3.setCell ⟨w.heap.size, j * 4, none⟩ (.slice a3 xl.length c3)).setCell ⟨w.heap.size, j * 4 + 1, none⟩ (.int .i64 mr)).setCell ⟨w.heap.size, j * 4 + 2, none⟩ (.int .i64 lt)).setCell ⟨w.heap.size, j * 4 + 3, none⟩ (.int .i64 ov))) := Lib.hid (HST.out w3 a3 c3 hb3 ho)
      have HB3 := Lib.hid (HB.out.trans (hb3.mono hsz))
      have s3 := hb3.size
      have hfz : ∀ i, w3.frozen? ⟨w.heap.size, i, none⟩ = false := by
        obtain ⟨cs, hBk, hs_, _⟩ := HC.out.ex
        exact (hBk.below hb3).frozen
      have hcl : ∀ q, q < 4 → ∃ v, w3.cell? ⟨w.heap.size, j * 4 + q, none⟩ = some v := fun q hq => by
        obtain ⟨cs, hBk, hs_, _⟩ := HC.out.ex
        rw [(hBk.below hb3).cell]
        exact ⟨cs[j * 4 + q]'(by omega), by rw [Array.getElem?_eq_getElem]⟩
      obtain ⟨v0, c0⟩ := hcl 0 (by omega)
      obtain ⟨v1, c1⟩ := hcl 1 (by omega)
      obtain ⟨v2, c2⟩ := hcl 2 (by omega)
      obtain ⟨v3, c3⟩ := hcl 3 (by omega)
      rw [Nat.add_zero] at c0
      clear hb3 hcl ho q0 q1 q2 q3
      go_wp2
      go_roundw
      case rel => exact ⟨j + 1, by omega, by go_num, by simp; omega, HS3.out, ((((HB3.out.setCell (p := ⟨w.heap.size, j * 4, none⟩) (Nat.le_refl _) _).setCell (p := ⟨w.heap.size, j * 4 + 1, none⟩) (Nat.le_refl _) _).setCell (p := ⟨w.heap.size, j * 4 + 2, none⟩) (Nat.le_refl _) _).setCell (p := ⟨w.heap.size, j * 4 + 3, none⟩) (Nat.le_refl _) _)⟩
      case measure => simp [intOf]; omega
    · obtain rfl : j = l.length := by omega
      have HP : Hid (FreshH hdSh 4 shD 111 l w (.returned (.slice (some ⟨w.heap.size, 0, none⟩) l.length l.length)) wr) := ⟨_, _, rfl, hcp.done hlen (Nat.le_refl _), hb⟩
      clear hcp hb
      go_wp2
      go_ret
      exact HP.out
set_option maxHeartbeats 1000000 in
set_option maxRecDepth 100000 in
theorem eqShardR_any (a b : Option Addr) (n m ca cb : Nat) (l : List (Sh)) (ha hb : Nat) (w : World) (h1 : HRow hdSh 4 shD w ha a ca l) (h2 : HRow hdSh 4 shD w hb b cb l) (hn : n = l.length) (hm : m = l.length) (hB1 : ha ≤ w.heap.size) (hB2 : hb ≤ w.heap.size) :
    Calls Tryz.prog 49 #[.slice a n ca, .slice b m cb] w fun e w' => e = .returned (.bool true) ∧ Below w.heap.size w w' := by
  subst hn
  subst hm
  have hc1 := h1.cap
  have hc2 := h1.big
  have hc3 := h2.cap
  have hc4 := h2.big
  have H1 := Lib.hid h1
  have H2 := Lib.hid h2
  clear h1 h2
  go_enter Tryz.func49, Tryz.ntmps49
  go_wp2
  go_loopw [5] (fun i wr => ∃ j : Nat, j ≤ l.length ∧ i = .int .i64 j ∧ Below w.heap.size w wr) (fun i _ => l.length - (intOf i).toNat)
  case atStart => exact ⟨0, Nat.zero_le _, rfl, Below.refl _ _⟩
  case round =>
    obtain ⟨j, hj, rfl, hbw⟩ := hrel
    have hsz := hbw.size
    have HB := Lib.hid hbw
    by_cases hlt : j < l.length
    · obtain ⟨b1, off1, rfl, _, hcell1⟩ := (H1.out.below (hbw.mono hB1)).cells (by omega)
      obtain ⟨b2, off2, rfl, _, hcell2⟩ := (H2.out.below (hbw.mono hB2)).cells (by omega)
      obtain ⟨ai, ci, h0, hq, hrd⟩ := hcell1 j hlt
      obtain ⟨bi, di, g0, gq, grd⟩ := hcell2 j hlt
      have hrd := hdSh.rd_more hrd (show ha ≤ wr.heap.size by omega)
      have grd := hdSh.rd_more grd (show hb ≤ wr.heap.size by omega)
      generalize rel shD l j = x at h0 hq hrd g0 gq grd
      obtain ⟨xl, mr, lt, ov⟩ := x
      have p0 : wr.cell? ⟨b1, off1 + j * 4, none⟩ = some (.slice ai xl.length ci) := h0
      have p1 : wr.cell? ⟨b1, off1 + j * 4 + 1, none⟩ = some (.int .i64 mr) := hq 0 (by omega)
      have p2 : wr.cell? ⟨b1, off1 + j * 4 + 2, none⟩ = some (.int .i64 lt) := hq 1 (by omega)
      have p3 : wr.cell? ⟨b1, off1 + j * 4 + 3, none⟩ = some (.int .i64 ov) := hq 2 (by omega)
      have q0 : wr.cell? ⟨b2, off2 + j * 4, none⟩ = some (.slice bi xl.length di) := g0
      have q1 : wr.cell? ⟨b2, off2 + j * 4 + 1, none⟩ = some (.int .i64 mr) := gq 0 (by omega)
      have q2 : wr.cell? ⟨b2, off2 + j * 4 + 2, none⟩ = some (.int .i64 lt) := gq 1 (by omega)
      have q3 : wr.cell? ⟨b2, off2 + j * 4 + 3, none⟩ = some (.int .i64 ov) := gq 2 (by omega)
      have hm1 := Recs_cap_Shard hrd
      have hm2 := Recs_cap_Shard grd
      have HEQ := Lib.hid (eqEl_Shard xl mr lt ov ai ci bi di wr.drew (hdSh.rd_below hrd (Below.refl _ wr).drew) (hdSh.rd_below grd (Below.refl _ wr).drew))
      have hlt' : (j : Int) < (l.length : Int) := by omega
      clear hcell1 hcell2 h0 hq hrd g0 gq grd hbw
      go_wp2_with fail
      go_region_with (go_at_call 100; refine HEQ.out.mono ?_; rintro e w3 ⟨rfl, hb⟩; have HB3 := Lib.hid ((HB.out.drew).trans (hb.mono hsz)); clear hb)
      all_goals
        clear p0 p1 p2 p3 q0 q1 q2 q3
        go_wp2
        go_roundw
        case rel => exact ⟨j + 1, by omega, by go_num, HB3.out⟩
        case measure => simp [intOf]; omega
    · obtain rfl : j = l.length := by omega
      clear hbw
      go_wp2
      go_ret
      exact ⟨rfl, HB.out⟩
end Go.Proofs.YtnfhlfbkdhpacaaGreatDoor
