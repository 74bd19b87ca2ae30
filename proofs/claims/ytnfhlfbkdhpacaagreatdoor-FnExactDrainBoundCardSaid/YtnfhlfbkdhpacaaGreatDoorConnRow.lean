/- Rows of Conn: records that begin with a slice; the laws' own helpers over them. (made by tools/mkhrow.py) -/
import Derived.Test.YtnfhlfbkdhpacaaGreatDoorJoint1
import Derived.Deep.RegionWith
namespace Go.Proofs.YtnfhlfbkdhpacaaGreatDoor
open Go.RowKit

/-- A connection, as it is read. -/
structure Cn where
  l : List Int
  bad : Bool
  mx : Int
  mr : Int
  sn : Int
  idl : Bool
  opn : Bool
def cnD : Cn := ⟨[], false, 0, 0, 0, false, false⟩
def hdCn : Hd Cn where
  ln x := x.l.length
  tail x := [.bool x.bad, .int .i64 x.mx, .int .i64 x.mr, .int .i64 x.sn, .bool x.idl, .bool x.opn]
  rd w hi x a c := Nums .u8 w hi a c x.l
  ow w lo x a c := w.ownsRow lo 5 1 (.slice a x.l.length c) x.l.length (x.l.map (Value.int .u8))
  rd_below h b := Nums.below h b
  rd_more h b := Nums.more h b
  ow_rd h := (Nums.of_own h).2
  ow_below h b := owns_below h b
  ow_set v h p := ownsRow_setCell_below h p v
  ow_less h b := owns_less h b
theorem Recs_cap_Conn {w : World} {hi ci : Nat} {ai : Option Addr} {xl : List Int} {bad : Bool} {mx mr sn : Int} {idl opn : Bool} (h : hdCn.rd w hi ⟨xl, bad, mx, mr, sn, idl, opn⟩ ai ci) : xl.length ≤ 9223372036854775807 := Nat.le_trans (Nums.cap h) (Nums.big h)
theorem szDecoder_n (a : Option Addr) (n c : Nat) (b : Bool) (left : Int) (w : World) (hl0 : 0 ≤ left) (hl1 : left ≤ 1048576) (hn : n ≤ 9223372036854775807) :
    Calls Tryz.prog 137 #[.agg #[.slice a n c, .bool b], .int .i64 left] w fun e w' => e = .returned (.int .i64 (if left - (n : Int) < 0 then -1 else left - (n : Int))) ∧ Below w.heap.size w w' := by
  have hs := fun W => szBytes_any a n c left W hl0 hl1 hn
  by_cases h : left - (n : Int) < 0
  · rw [if_pos h] at hs ⊢
    have HS := Lib.hid hs
    clear hs
    go_enter Tryz.func137, Tryz.ntmps137
    go_wp2_with fail
    refine (HS.out _).mono ?_
    rintro e w' ⟨rfl, rfl⟩
    go_wp2
    go_ret
    exact ⟨rfl, (Below.refl _ _).alloc (Nat.le_refl _) _⟩
  · rw [if_neg h] at hs ⊢
    have HS := Lib.hid hs
    clear hs
    go_enter Tryz.func137, Tryz.ntmps137
    go_wp2_with fail
    refine (HS.out _).mono ?_
    rintro e w' ⟨rfl, rfl⟩
    go_wp2
    go_ret
    exact ⟨rfl, (Below.refl _ _).alloc (Nat.le_refl _) _⟩
theorem szEl_Conn (xl : List Int) (bad : Bool) (mx mr sn : Int) (idl opn : Bool) (ai : Option Addr) (ci : Nat) (left : Int) (W : World) (hl0 : 0 ≤ left) (hl1 : left ≤ 1048576) (hn : xl.length ≤ 9223372036854775807) :
    Calls Tryz.prog 79 #[.agg #[.slice ai xl.length ci, .bool bad, .int .i64 mx, .int .i64 mr, .int .i64 sn, .bool idl, .bool opn], .int .i64 left] W fun e w' => e = .returned (.int .i64 (if left - (xl.length : Int) < 0 then -1 else left - (xl.length : Int))) ∧ Below W.heap.size W w' := by
  have hs := fun W => szDecoder_n ai xl.length ci bad left W hl0 hl1 hn
  by_cases h : left - (xl.length : Int) < 0
  · rw [if_pos h] at hs ⊢
    have HS := Lib.hid hs
    clear hs
    go_enter Tryz.func79, Tryz.ntmps79
    go_wp2_with fail
    refine (HS.out _).mono ?_
    rintro e w' HH
    obtain ⟨rfl, hb⟩ := HH
    have HB := Lib.hid (((Below.refl W.heap.size W).alloc (Nat.le_refl _) (.cells #[.slice ai xl.length ci, .bool bad, .int .i64 mx, .int .i64 mr, .int .i64 sn, .bool idl, .bool opn] 118)).trans (hb.mono (by simp)))
    clear hb
    go_wp2
    go_ret
    exact ⟨rfl, HB.out⟩
  · rw [if_neg h] at hs ⊢
    have HS := Lib.hid hs
    clear hs
    go_enter Tryz.func79, Tryz.ntmps79
    go_wp2_with fail
    refine (HS.out _).mono ?_
    rintro e w' HH
    obtain ⟨rfl, hb⟩ := HH
    have HB := Lib.hid (((Below.refl W.heap.size W).alloc (Nat.le_refl _) (.cells #[.slice ai xl.length ci, .bool bad, .int .i64 mx, .int .i64 mr, .int .i64 sn, .bool idl, .bool opn] 118)).trans (hb.mono (by simp)))
    clear hb
    go_wp2
    go_ret
    exact ⟨rfl, HB.out⟩
set_option maxHeartbeats 4000000 in
set_option maxRecDepth 100000 in
theorem toEl_Conn (xl : List Int) (bad : Bool) (mx mr sn : Int) (idl opn : Bool) (ai : Option Addr) (ci : Nat) (W : World) (hr : hdCn.rd W W.heap.size ⟨xl, bad, mx, mr, sn, idl, opn⟩ ai ci) (hl : xl.length ≤ 1048576) :
    Calls Tryz.prog 86 #[.agg #[.slice ai xl.length ci, .bool bad, .int .i64 mx, .int .i64 mr, .int .i64 sn, .bool idl, .bool opn]] W fun e w' => ∃ a c, e = .returned (.agg #[.slice a xl.length c, .bool bad, .int .i64 mx, .int .i64 mr, .int .i64 sn, .bool idl, .bool opn]) ∧ hdCn.ow w' W.heap.size ⟨xl, bad, mx, mr, sn, idl, opn⟩ a c ∧ Below W.heap.size W w' := by
  have b1 := (Below.refl W.heap.size W).alloc (Nat.le_refl _) (.cells #[.slice ai xl.length ci, .bool bad, .int .i64 mx, .int .i64 mr, .int .i64 sn, .bool idl, .bool opn] 118)
  have b2 := b1.alloc (by simp) (.cells #[.slice none 0 0, .bool false, .int .i64 0, .int .i64 0, .int .i64 0, .bool false, .bool false] 95)
  have b3 := b2.alloc (by simp; omega) (.cells #[.slice none 0 0, .bool false, .int .i64 0, .int .i64 0, .int .i64 0, .bool false, .bool false] 95)
  have HN := Lib.hid (hdCn.rd_below hr b3)
  have K0 := Lib.hid (((Blk.new W 118 #[.slice ai xl.length ci, .bool bad, .int .i64 mx, .int .i64 mr, .int .i64 sn, .bool idl, .bool opn]).alloc (.cells #[.slice none 0 0, .bool false, .int .i64 0, .int .i64 0, .int .i64 0, .bool false, .bool false] 95)).alloc (.cells #[.slice none 0 0, .bool false, .int .i64 0, .int .i64 0, .int .i64 0, .bool false, .bool false] 95))
  have K1 := Lib.hid ((Blk.new (W.alloc (.cells #[.slice ai xl.length ci, .bool bad, .int .i64 mx, .int .i64 mr, .int .i64 sn, .bool idl, .bool opn] 118)) 95 #[.slice none 0 0, .bool false, .int .i64 0, .int .i64 0, .int .i64 0, .bool false, .bool false]).alloc (.cells #[.slice none 0 0, .bool false, .int .i64 0, .int .i64 0, .int .i64 0, .bool false, .bool false] 95))
  have K2 := Lib.hid (Blk.new ((W.alloc (.cells #[.slice ai xl.length ci, .bool bad, .int .i64 mx, .int .i64 mr, .int .i64 sn, .bool idl, .bool opn] 118)).alloc (.cells #[.slice none 0 0, .bool false, .int .i64 0, .int .i64 0, .int .i64 0, .bool false, .bool false] 95)) 95 #[.slice none 0 0, .bool false, .int .i64 0, .int .i64 0, .int .i64 0, .bool false, .bool false])
  have B3 := Lib.hid b3
  clear hr b1 b2 b3
  go_enter Tryz.func86, Tryz.ntmps86
  go_wp2_with fail
  refine (toDecoder_any ai _ ci bad xl _ _ HN.out rfl (by simp; omega) hl).mono ?_
  rintro e w1 ⟨a1, c1, rfl, ho, hb⟩
  have k0 := K0.out.below hb
  have k1 := K1.out.below hb
  have k2 := K2.out.below hb
  simp only [World.size_alloc] at k0 k1 k2 ho hb
  have B1 := Lib.hid (B3.out.trans (hb.mono (by omega)))
  have s1 := hb.size
  simp only [World.size_alloc] at s1
  have q0 := k0.cell
  have q2 := k2.cell
  have f2 := k2.frozen
  have HV : Hid ((Blk ((w1.setCell ⟨W.heap.size + 1 + 1, 0, none⟩ (.slice a1 xl.length c1)).setCell ⟨W.heap.size + 1 + 1, 1, none⟩ (.bool bad)) W.heap.size 118 #[.slice ai xl.length ci, .bool bad, .int .i64 mx, .int .i64 mr, .int .i64 sn, .bool idl, .bool opn]) ∧ (Blk ((w1.setCell ⟨W.heap.size + 1 + 1, 0, none⟩ (.slice a1 xl.length c1)).setCell ⟨W.heap.size + 1 + 1, 1, none⟩ (.bool bad)) (W.heap.size + 1) 95 #[.slice none 0 0, .bool false, .int .i64 0, .int .i64 0, .int .i64 0, .bool false, .bool false]) ∧ (Blk ((w1.setCell ⟨W.heap.size + 1 + 1, 0, none⟩ (.slice a1 xl.length c1)).setCell ⟨W.heap.size + 1 + 1, 1, none⟩ (.bool bad)) (W.heap.size + 1 + 1) 95 #[.slice a1 xl.length c1, .bool bad, .int .i64 0, .int .i64 0, .int .i64 0, .bool false, .bool false]) ∧ Below W.heap.size W ((w1.setCell ⟨W.heap.size + 1 + 1, 0, none⟩ (.slice a1 xl.length c1)).setCell ⟨W.heap.size + 1 + 1, 1, none⟩ (.bool bad)) ∧ ((w1.setCell ⟨W.heap.size + 1 + 1, 0, none⟩ (.slice a1 xl.length c1)).setCell ⟨W.heap.size + 1 + 1, 1, none⟩ (.bool bad)).heap.size = w1.heap.size ∧ ((w1.setCell ⟨W.heap.size + 1 + 1, 0, none⟩ (.slice a1 xl.length c1)).setCell ⟨W.heap.size + 1 + 1, 1, none⟩ (.bool bad)).ownsRow (W.heap.size + 1 + 1 + 1) 5 1 (.slice a1 xl.length c1) xl.length (xl.map (Value.int .u8))) :=
    Lib.hid ⟨hblk_far (hblk_far k0 (p := ⟨W.heap.size + 1 + 1, 0, none⟩) (by simp; omega) _) (p := ⟨W.heap.size + 1 + 1, 1, none⟩) (by simp; omega) _, hblk_far (hblk_far k1 (p := ⟨W.heap.size + 1 + 1, 0, none⟩) (by simp) _) (p := ⟨W.heap.size + 1 + 1, 1, none⟩) (by simp) _, by simpa using (k2.put_ 0 (.slice a1 xl.length c1)).put_ 1 (.bool bad), (B1.out.setCell (p := ⟨W.heap.size + 1 + 1, 0, none⟩) (by simp; omega) _).setCell (p := ⟨W.heap.size + 1 + 1, 1, none⟩) (by simp; omega) _, by simp, ownsRow_setCell_below (ownsRow_setCell_below ho (by simp) _) (by simp) _⟩
  clear k0 k1 k2 ho hb
  go_wp2_with fail
  clear q0 q2 f2
  generalize ((w1.setCell ⟨W.heap.size + 1 + 1, 0, none⟩ (.slice a1 xl.length c1)).setCell ⟨W.heap.size + 1 + 1, 1, none⟩ (.bool bad)) = V at HV ⊢
  obtain ⟨k0, k1, k2, bv, sv, ov⟩ := HV.out
  clear HV
  refine (toSource_y mx mr sn idl opn _).mono ?_
  rintro e w2 ⟨rfl, hb⟩
  have q0 := (k0.below hb).cell
  have q1 := (k1.below hb).cell
  have q2 := (k2.below hb).cell
  have f1 := (k1.below hb).frozen
  have f2 := (k2.below hb).frozen
  have s2 := hb.size
  have HP : Hid (hdCn.ow ((((((((((((w2.setCell ⟨W.heap.size + 1 + 1, 2, none⟩ (.int .i64 mx)).setCell ⟨W.heap.size + 1 + 1, 3, none⟩ (.int .i64 mr)).setCell ⟨W.heap.size + 1 + 1, 4, none⟩ (.int .i64 sn)).setCell ⟨W.heap.size + 1 + 1, 5, none⟩ (.bool idl)).setCell ⟨W.heap.size + 1 + 1, 6, none⟩ (.bool opn)).setCell ⟨W.heap.size + 1, 0, none⟩ (.slice a1 xl.length c1)).setCell ⟨W.heap.size + 1, 1, none⟩ (.bool bad)).setCell ⟨W.heap.size + 1, 2, none⟩ (.int .i64 mx)).setCell ⟨W.heap.size + 1, 3, none⟩ (.int .i64 mr)).setCell ⟨W.heap.size + 1, 4, none⟩ (.int .i64 sn)).setCell ⟨W.heap.size + 1, 5, none⟩ (.bool idl)).setCell ⟨W.heap.size + 1, 6, none⟩ (.bool opn)) W.heap.size ⟨xl, bad, mx, mr, sn, idl, opn⟩ a1 c1 ∧ Below W.heap.size W ((((((((((((w2.setCell ⟨W.heap.size + 1 + 1, 2, none⟩ (.int .i64 mx)).setCell ⟨W.heap.size + 1 + 1, 3, none⟩ (.int .i64 mr)).setCell ⟨W.heap.size + 1 + 1, 4, none⟩ (.int .i64 sn)).setCell ⟨W.heap.size + 1 + 1, 5, none⟩ (.bool idl)).setCell ⟨W.heap.size + 1 + 1, 6, none⟩ (.bool opn)).setCell ⟨W.heap.size + 1, 0, none⟩ (.slice a1 xl.length c1)).setCell ⟨W.heap.size + 1, 1, none⟩ (.bool bad)).setCell ⟨W.heap.size + 1, 2, none⟩ (.int .i64 mx)).setCell ⟨W.heap.size + 1, 3, none⟩ (.int .i64 mr)).setCell ⟨W.heap.size + 1, 4, none⟩ (.int .i64 sn)).setCell ⟨W.heap.size + 1, 5, none⟩ (.bool idl)).setCell ⟨W.heap.size + 1, 6, none⟩ (.bool opn))) := Lib.hid (by
    have z := owns_below ov hb
    refine ⟨owns_less (lo := W.heap.size + 1 + 1 + 1) (ownsRow_setCell_below (ownsRow_setCell_below (ownsRow_setCell_below (ownsRow_setCell_below (ownsRow_setCell_below (ownsRow_setCell_below (ownsRow_setCell_below (ownsRow_setCell_below (ownsRow_setCell_below (ownsRow_setCell_below (ownsRow_setCell_below (ownsRow_setCell_below z ?_ _) ?_ _) ?_ _) ?_ _) ?_ _) ?_ _) ?_ _) ?_ _) ?_ _) ?_ _) ?_ _) ?_ _) (by omega), (((((((((((((bv.trans (hb.mono bv.size)).setCell ?_ _).setCell ?_ _).setCell ?_ _).setCell ?_ _).setCell ?_ _).setCell ?_ _).setCell ?_ _).setCell ?_ _).setCell ?_ _).setCell ?_ _).setCell ?_ _).setCell ?_ _)⟩ <;> simp <;> omega)
  clear hb k0 k1 k2 bv ov
  go_wp2
  exact bodyPost_ret (v := .agg #[.slice a1 xl.length c1, .bool bad, .int .i64 mx, .int .i64 mr, .int .i64 sn, .bool idl, .bool opn]) (by simp [results, Tryz.results86, go_sem, q1]) rfl ⟨a1, c1, rfl, HP.out⟩
set_option maxHeartbeats 2000000 in
set_option maxRecDepth 100000 in
theorem eqEl_Conn (xl : List Int) (bad : Bool) (mx mr sn : Int) (idl opn : Bool) (ai : Option Addr) (ci : Nat) (bi : Option Addr) (di : Nat) (W : World) (hr : hdCn.rd W W.heap.size ⟨xl, bad, mx, mr, sn, idl, opn⟩ ai ci) (hs : hdCn.rd W W.heap.size ⟨xl, bad, mx, mr, sn, idl, opn⟩ bi di) :
    Calls Tryz.prog 98 #[.agg #[.slice ai xl.length ci, .bool bad, .int .i64 mx, .int .i64 mr, .int .i64 sn, .bool idl, .bool opn], .agg #[.slice bi xl.length di, .bool bad, .int .i64 mx, .int .i64 mr, .int .i64 sn, .bool idl, .bool opn]] W fun e w' => e = .returned (.bool true) ∧ Below W.heap.size W w' := by
  have b1 := (Below.refl W.heap.size W).alloc (Nat.le_refl _) (.cells #[.slice ai xl.length ci, .bool bad, .int .i64 mx, .int .i64 mr, .int .i64 sn, .bool idl, .bool opn] 95)
  have b2 := b1.alloc (by simp) (.cells #[.slice bi xl.length di, .bool bad, .int .i64 mx, .int .i64 mr, .int .i64 sn, .bool idl, .bool opn] 95)
  have H1 := Lib.hid (hdCn.rd_below hr b2)
  have H2 := Lib.hid (hdCn.rd_below hs b2)
  have K0 := Lib.hid ((Blk.new W 95 #[.slice ai xl.length ci, .bool bad, .int .i64 mx, .int .i64 mr, .int .i64 sn, .bool idl, .bool opn]).alloc (.cells #[.slice bi xl.length di, .bool bad, .int .i64 mx, .int .i64 mr, .int .i64 sn, .bool idl, .bool opn] 95))
  have K1 := Lib.hid (Blk.new (W.alloc (.cells #[.slice ai xl.length ci, .bool bad, .int .i64 mx, .int .i64 mr, .int .i64 sn, .bool idl, .bool opn] 95)) 95 #[.slice bi xl.length di, .bool bad, .int .i64 mx, .int .i64 mr, .int .i64 sn, .bool idl, .bool opn])
  have B2 := Lib.hid b2
  clear hr hs b1 b2
  go_enter Tryz.func98, Tryz.ntmps98
  go_wp2_with fail
  refine (eqDecoder_any _ _ _ _ _ _ bad xl _ _ _ H1.out H2.out rfl rfl (by simp; omega) (by simp; omega)).mono ?_
  rintro e w1 ⟨rfl, hb⟩
  have k0 := K0.out.below hb
  have k1 := K1.out.below hb
  simp only [World.size_alloc] at k0 k1 hb
  have q0 := k0.cell
  have q1 := k1.cell
  have B1 := Lib.hid (B2.out.trans (hb.mono (by omega)))
  clear hb k0 k1
  go_wp2_with fail
  refine (eqSource_y mx mr sn idl opn _).mono ?_
  rintro e w2 ⟨rfl, hb⟩
  have B4 := Lib.hid (B1.out.trans (hb.mono B1.out.size))
  clear hb
  go_wp2
  go_ret
  exact ⟨rfl, B4.out⟩
set_option maxHeartbeats 1000000 in
set_option maxRecDepth 100000 in
theorem szConnR_any (a : Option Addr) (n c : Nat) (l : List (Cn)) (hi : Nat) (left : Int) (w : World) (hl0 : 0 ≤ left) (hl1 : left ≤ 1048576) (hr : HRow hdCn 7 cnD w hi a c l) (hn : n = l.length) (hB : hi ≤ w.heap.size) :
    Calls Tryz.prog 25 #[.slice a n c, .int .i64 left] w fun e w' => ∃ L : Int, e = .returned (.int .i64 L) ∧ -1 ≤ L ∧ L ≤ left ∧ (0 ≤ L → (l.length : Int) + (totH hdCn cnD l l.length : Int) + L ≤ left) ∧ Below w.heap.size w w' := by
  subst hn
  have hc1 := hr.cap
  have hc2 := hr.big
  have BR := Lib.hid (Below.refl w.heap.size w)
  by_cases hbig : left - (l.length : Int) < 0
  · clear hr
    go_enter Tryz.func25, Tryz.ntmps25
    go_wp2
    go_ret
    exact ⟨-1, rfl, by omega, by omega, by omega, BR.out⟩
  · have HR := Lib.hid hr
    clear hr
    go_enter Tryz.func25, Tryz.ntmps25
    go_wp2
    go_loopw [1, 5] (fun L i wr => ∃ j : Nat, j ≤ l.length ∧ i = .int .i64 j ∧ L = .int .i64 (left - (l.length : Int) - (totH hdCn cnD l j : Int)) ∧ (l.length : Int) + (totH hdCn cnD l j : Int) ≤ left ∧ Below w.heap.size w wr) (fun _ i _ => l.length - (intOf i).toNat)
    case atStart => exact ⟨0, Nat.zero_le _, rfl, by simp [totH], by simp [totH]; omega, BR.out⟩
    case round =>
      obtain ⟨j, hj, rfl, rfl, ht, hb⟩ := hrel
      have hsz := hb.size
      have HB := Lib.hid hb
      by_cases hlt : j < l.length
      · obtain ⟨b, off, rfl, hbh, hcell⟩ := (HR.out.below (hb.mono hB)).cells (by omega)
        obtain ⟨ai, ci, h0, hq, hrd⟩ := hcell j hlt
        have hT : totH hdCn cnD l (j + 1) = totH hdCn cnD l j + hdCn.ln (rel cnD l j) := rfl
        generalize rel cnD l j = x at h0 hq hrd hT
        obtain ⟨xl, bad, mx, mr, sn, idl, opn⟩ := x
        have q0 : wr.cell? ⟨b, off + j * 7, none⟩ = some (.slice ai xl.length ci) := h0
        have q1 : wr.cell? ⟨b, off + j * 7 + 1, none⟩ = some (.bool bad) := hq 0 (by omega)
        have q2 : wr.cell? ⟨b, off + j * 7 + 2, none⟩ = some (.int .i64 mx) := hq 1 (by omega)
        have q3 : wr.cell? ⟨b, off + j * 7 + 3, none⟩ = some (.int .i64 mr) := hq 2 (by omega)
        have q4 : wr.cell? ⟨b, off + j * 7 + 4, none⟩ = some (.int .i64 sn) := hq 3 (by omega)
        have q5 : wr.cell? ⟨b, off + j * 7 + 5, none⟩ = some (.bool idl) := hq 4 (by omega)
        have q6 : wr.cell? ⟨b, off + j * 7 + 6, none⟩ = some (.bool opn) := hq 5 (by omega)
        have hT : totH hdCn cnD l (j + 1) = totH hdCn cnD l j + xl.length := hT
        have hm1 := Recs_cap_Conn hrd
        have HT := Lib.hid hT
        clear hcell h0 hq hrd hT hb
        generalize totH hdCn cnD l j = t at ht HT
        have HSZ := Lib.hid (fun W => szEl_Conn xl bad mx mr sn idl opn ai ci (left - (l.length : Int) - (t : Int)) W (by omega) (by omega) hm1)
        have hlt' : (j : Int) < (l.length : Int) := by omega
        by_cases hneg : left - (l.length : Int) - (t : Int) - (xl.length : Int) < 0
        · rw [if_pos hneg] at HSZ
          go_wp2_with fail
          refine (HSZ.out _).mono ?_
          rintro e w' ⟨rfl, hb2⟩
          have HB2 := Lib.hid (HB.out.trans (hb2.mono hsz))
          clear hb2
          go_wp2
          go_ret
          exact ⟨-1, rfl, by omega, by omega, by omega, HB2.out⟩
        · rw [if_neg hneg] at HSZ
          go_wp2_with fail
          refine (HSZ.out _).mono ?_
          rintro e w' ⟨rfl, hb2⟩
          have HB2 := Lib.hid (HB.out.trans (hb2.mono hsz))
          clear hb2
          go_wp2
          go_roundw
          case rel => exact ⟨j + 1, by omega, by go_num, by rw [HT.out]; congr 1; omega, by rw [HT.out]; omega, HB2.out⟩
          case measure => simp [intOf]; omega
      · obtain rfl : j = l.length := by omega
        clear hb
        go_wp2
        go_ret
        exact ⟨_, rfl, by omega, by omega, by omega, HB.out⟩
theorem infoConnR : (Tryz.prog.info? 95).map (fun i => (i.zero, i.size, i.bytes)) = some (some (.agg #[.slice none 0 0, .bool false, .int .i64 0, .int .i64 0, .int .i64 0, .bool false, .bool false]), 7, 64) := by kernel_rfl
theorem run_make_ConnR (n : Nat) (hn : n ≤ 1048576) : ∃ CS : Array Value, CS.size = n * 7 ∧ ∀ W : World, (Instr.makeSlice 38 (.int .i64 (n : Int)) (.int .i64 (n : Int))).run Tryz.prog W = .ok (.slice (some ⟨W.heap.size, 0, none⟩) n n) (W.alloc (.cells CS 95)) := by
  obtain ⟨i, hi, hzz⟩ := Option.map_eq_some_iff.1 infoConnR
  simp only [Prod.mk.injEq] at hzz
  obtain ⟨hz, hs, hb⟩ := hzz
  refine ⟨madeCells (Value.cells (.agg #[.slice none 0 0, .bool false, .int .i64 0, .int .i64 0, .int .i64 0, .bool false, .bool false])) (n * 7), size_madeCells _ _, fun W => ?_⟩
  have h := run_make (P := Tryz.prog) W 38 95 i _ Tryz.underlying38 hi hz .i64 .i64 n n (by omega) (Int.le_refl _) (by rw [hb]; omega) (by omega)
  simp only [Int.toNat_natCast, hs] at h
  exact h
set_option maxHeartbeats 1000000 in
set_option maxRecDepth 100000 in
theorem toConnR_any (a : Option Addr) (n c : Nat) (l : List (Cn)) (hi : Nat) (w : World) (hr : HRow hdCn 7 cnD w hi a c l) (hn : n = l.length) (hB : hi ≤ w.heap.size) (hlen : l.length ≤ 1048576) (htot : totH hdCn cnD l l.length ≤ 1048576) :
    Calls Tryz.prog 33 #[.slice a n c] w (FreshH hdCn 7 cnD 95 l w) := by
  subst hn
  obtain ⟨CS, hcs, hmk⟩ := run_make_ConnR l.length hlen
  have hc1 := hr.cap
  have hc2 := hr.big
  have HR := Lib.hid hr
  have C0 := Lib.hid (HCop.start (H := hdCn) (k := 7) (d := cnD) (l := l) (Blk.new w 95 CS) hcs)
  have B0 := Lib.hid ((Below.refl w.heap.size w).alloc (Nat.le_refl _) (.cells CS 95))
  clear hr hcs
  go_enter Tryz.func33, Tryz.ntmps33
  go_wp2
  go_loopw [4] (fun i wr => ∃ j : Nat, j ≤ l.length ∧ i = .int .i64 j ∧ w.heap.size < wr.heap.size ∧ HCop hdCn 7 cnD 95 w.heap.size l j wr ∧ Below w.heap.size w wr) (fun i _ => l.length - (intOf i).toNat)
  case atStart => exact ⟨0, Nat.zero_le _, rfl, by simp, C0.out, B0.out⟩
  case round =>
    obtain ⟨j, hj, rfl, hgl, hcp, hb⟩ := hrel
    have hsz := hb.size
    have HB := Lib.hid hb
    have HC := Lib.hid hcp
    by_cases hlt : j < l.length
    · obtain ⟨b, off, rfl, hbh, hcell⟩ := (HR.out.below (hb.mono hB)).cells (by omega)
      obtain ⟨ai, ci, h0, hq, hrd⟩ := hcell j hlt
      have hln := head_le (H := hdCn) (d := cnD) (l := l) hlt
      have HST : Hid (∀ (W' : World) (a3 : Option Addr) (c3 : Nat), Below wr.heap.size wr W' → hdCn.ow W' wr.heap.size (rel cnD l j) a3 c3 → HCop hdCn 7 cnD 95 w.heap.size l (j + 1) (W'.setCells w.heap.size (j * 7) (.slice a3 (hdCn.ln (rel cnD l j)) c3 :: hdCn.tail (rel cnD l j)))) :=
        Lib.hid (fun W' a3 c3 hb3 ho => (hcp.below hb3).step (by omega) rfl hlt (hdCn.ow_less ho (by omega)))
      have hrd := hdCn.rd_more hrd (show hi ≤ wr.heap.size by omega)
      generalize rel cnD l j = x at h0 hq hrd hln HST
      obtain ⟨xl, bad, mx, mr, sn, idl, opn⟩ := x
      have q0 : wr.cell? ⟨b, off + j * 7, none⟩ = some (.slice ai xl.length ci) := h0
      have q1 : wr.cell? ⟨b, off + j * 7 + 1, none⟩ = some (.bool bad) := hq 0 (by omega)
      have q2 : wr.cell? ⟨b, off + j * 7 + 2, none⟩ = some (.int .i64 mx) := hq 1 (by omega)
      have q3 : wr.cell? ⟨b, off + j * 7 + 3, none⟩ = some (.int .i64 mr) := hq 2 (by omega)
      have q4 : wr.cell? ⟨b, off + j * 7 + 4, none⟩ = some (.int .i64 sn) := hq 3 (by omega)
      have q5 : wr.cell? ⟨b, off + j * 7 + 5, none⟩ = some (.bool idl) := hq 4 (by omega)
      have q6 : wr.cell? ⟨b, off + j * 7 + 6, none⟩ = some (.bool opn) := hq 5 (by omega)
      have hln : xl.length ≤ totH hdCn cnD l l.length := hln
      have hm1 := Recs_cap_Conn hrd
      have HTO := Lib.hid (toEl_Conn xl bad mx mr sn idl opn ai ci wr hrd (by omega))
      have hlt' : (j : Int) < (l.length : Int) := by omega
      clear hcell h0 hq hrd hcp hb hln htot
      go_wp2_with fail
      refine (HTO.out).mono ?_
      rintro e w3 ⟨a3, c3, rfl, ho, hb3⟩
      have HS3 : Hid (HCop hdCn 7 cnD 95 w.heap.size l (j + 1) (((((((w3.setCell ⟨w.heap.size, j * 7, none⟩ (.slice a3 xl.length c3)).setCell ⟨w.heap.size, j * 7 + 1, none⟩ (.bool bad)).setCell ⟨w.heap.size, j * 7 + 2, none⟩ (.int .i64 mx)).setCell ⟨w.heap.size, j * 7 + 3, none⟩ (.int .i64 mr)).setCell ⟨w.heap.size, j * 7 + 4, none⟩ (.int .i64 sn)).setCell ⟨w.heap.size, j * 7 + 5, none⟩ (.bool idl)).setCell ⟨w.heap.size, j * 7 + 6, none⟩ (.bool opn))) := Lib.hid (HST.out w3 a3 c3 hb3 ho)
      have HB3 := Lib.hid (HB.out.trans (hb3.mono hsz))
      have s3 := hb3.size
      have hfz : ∀ i, w3.frozen? ⟨w.heap.size, i, none⟩ = false := by
        obtain ⟨cs, hBk, hs_, _⟩ := HC.out.ex
        exact (hBk.below hb3).frozen
      have hcl : ∀ q, q < 7 → ∃ v, w3.cell? ⟨w.heap.size, j * 7 + q, none⟩ = some v := fun q hq => by
        obtain ⟨cs, hBk, hs_, _⟩ := HC.out.ex
        rw [(hBk.below hb3).cell]
        exact ⟨cs[j * 7 + q]'(by omega), by rw [Array.getElem?_eq_getElem]⟩
      obtain ⟨v0, c0⟩ := hcl 0 (by omega)
      obtain ⟨v1, c1⟩ := hcl 1 (by omega)
      obtain ⟨v2, c2⟩ := hcl 2 (by omega)
      obtain ⟨v3, c3⟩ := hcl 3 (by omega)
      obtain ⟨v4, c4⟩ := hcl 4 (by omega)
      obtain ⟨v5, c5⟩ := hcl 5 (by omega)
      obtain ⟨v6, c6⟩ := hcl 6 (by omega)
      rw [Nat.add_zero] at c0
      clear hb3 hcl ho q0 q1 q2 q3 q4 q5 q6
      go_wp2
      go_roundw
      case rel => exact ⟨j + 1, by omega, by go_num, by simp; omega, HS3.out, (((((((HB3.out.setCell (p := ⟨w.heap.size, j * 7, none⟩) (Nat.le_refl _) _).setCell (p := ⟨w.heap.size, j * 7 + 1, none⟩) (Nat.le_refl _) _).setCell (p := ⟨w.heap.size, j * 7 + 2, none⟩) (Nat.le_refl _) _).setCell (p := ⟨w.heap.size, j * 7 + 3, none⟩) (Nat.le_refl _) _).setCell (p := ⟨w.heap.size, j * 7 + 4, none⟩) (Nat.le_refl _) _).setCell (p := ⟨w.heap.size, j * 7 + 5, none⟩) (Nat.le_refl _) _).setCell (p := ⟨w.heap.size, j * 7 + 6, none⟩) (Nat.le_refl _) _)⟩
      case measure => simp [intOf]; omega
    · obtain rfl : j = l.length := by omega
      have HP : Hid (FreshH hdCn 7 cnD 95 l w (.returned (.slice (some ⟨w.heap.size, 0, none⟩) l.length l.length)) wr) := ⟨_, _, rfl, hcp.done hlen (Nat.le_refl _), hb⟩
      clear hcp hb
      go_wp2
      go_ret
      exact HP.out
set_option maxHeartbeats 1000000 in
set_option maxRecDepth 100000 in
theorem eqConnR_any (a b : Option Addr) (n m ca cb : Nat) (l : List (Cn)) (ha hb : Nat) (w : World) (h1 : HRow hdCn 7 cnD w ha a ca l) (h2 : HRow hdCn 7 cnD w hb b cb l) (hn : n = l.length) (hm : m = l.length) (hB1 : ha ≤ w.heap.size) (hB2 : hb ≤ w.heap.size) :
    Calls Tryz.prog 46 #[.slice a n ca, .slice b m cb] w fun e w' => e = .returned (.bool true) ∧ Below w.heap.size w w' := by
  subst hn
  subst hm
  have hc1 := h1.cap
  have hc2 := h1.big
  have hc3 := h2.cap
  have hc4 := h2.big
  have H1 := Lib.hid h1
  have H2 := Lib.hid h2
  clear h1 h2
  go_enter Tryz.func46, Tryz.ntmps46
  go_wp2
  go_loopw [5] (fun i wr => ∃ j : Nat, j ≤ l.length ∧ i = .int .i64 j ∧ Below w.heap.size w wr) (fun i _ => l.length - (intOf i).toNat)
  case atStart => exact ⟨0, Nat.zero_le _, rfl, Below.refl _ _⟩
  case round =>
    obtain ⟨j, hj, rfl, hbw⟩ := hrel
    have hsz := hbw.size
    have HB := Lib.hid hbw
    by_cases hlt : j < l.length
    · obtain ⟨b1, off1, rfl, _, hcell1⟩ := (H1.out.below (hbw.mono hB1)).cells (by omega)
      obtain ⟨b2, off2, rfl, _, hcell2⟩ := (H2.out.below (hbw.mono hB2)).cells (by omega)
      obtain ⟨ai, ci, h0, hq, hrd⟩ := hcell1 j hlt
      obtain ⟨bi, di, g0, gq, grd⟩ := hcell2 j hlt
      have hrd := hdCn.rd_more hrd (show ha ≤ wr.heap.size by omega)
      have grd := hdCn.rd_more grd (show hb ≤ wr.heap.size by omega)
      generalize rel cnD l j = x at h0 hq hrd g0 gq grd
      obtain ⟨xl, bad, mx, mr, sn, idl, opn⟩ := x
      have p0 : wr.cell? ⟨b1, off1 + j * 7, none⟩ = some (.slice ai xl.length ci) := h0
      have p1 : wr.cell? ⟨b1, off1 + j * 7 + 1, none⟩ = some (.bool bad) := hq 0 (by omega)
      have p2 : wr.cell? ⟨b1, off1 + j * 7 + 2, none⟩ = some (.int .i64 mx) := hq 1 (by omega)
      have p3 : wr.cell? ⟨b1, off1 + j * 7 + 3, none⟩ = some (.int .i64 mr) := hq 2 (by omega)
      have p4 : wr.cell? ⟨b1, off1 + j * 7 + 4, none⟩ = some (.int .i64 sn) := hq 3 (by omega)
      have p5 : wr.cell? ⟨b1, off1 + j * 7 + 5, none⟩ = some (.bool idl) := hq 4 (by omega)
      have p6 : wr.cell? ⟨b1, off1 + j * 7 + 6, none⟩ = some (.bool opn) := hq 5 (by omega)
      have q0 : wr.cell? ⟨b2, off2 + j * 7, none⟩ = some (.slice bi xl.length di) := g0
      have q1 : wr.cell? ⟨b2, off2 + j * 7 + 1, none⟩ = some (.bool bad) := gq 0 (by omega)
      have q2 : wr.cell? ⟨b2, off2 + j * 7 + 2, none⟩ = some (.int .i64 mx) := gq 1 (by omega)
      have q3 : wr.cell? ⟨b2, off2 + j * 7 + 3, none⟩ = some (.int .i64 mr) := gq 2 (by omega)
      have q4 : wr.cell? ⟨b2, off2 + j * 7 + 4, none⟩ = some (.int .i64 sn) := gq 3 (by omega)
      have q5 : wr.cell? ⟨b2, off2 + j * 7 + 5, none⟩ = some (.bool idl) := gq 4 (by omega)
      have q6 : wr.cell? ⟨b2, off2 + j * 7 + 6, none⟩ = some (.bool opn) := gq 5 (by omega)
      have hm1 := Recs_cap_Conn hrd
      have hm2 := Recs_cap_Conn grd
      have HEQ := Lib.hid (eqEl_Conn xl bad mx mr sn idl opn ai ci bi di wr.drew (hdCn.rd_below hrd (Below.refl _ wr).drew) (hdCn.rd_below grd (Below.refl _ wr).drew))
      have hlt' : (j : Int) < (l.length : Int) := by omega
      clear hcell1 hcell2 h0 hq hrd g0 gq grd hbw
      go_wp2_with fail
      go_region_with (go_at_call 98; refine HEQ.out.mono ?_; rintro e w3 ⟨rfl, hb⟩; have HB3 := Lib.hid ((HB.out.drew).trans (hb.mono hsz)); clear hb)
      all_goals
        clear p0 p1 p2 p3 p4 p5 p6 q0 q1 q2 q3 q4 q5 q6
        go_wp2
        go_roundw
        case rel => exact ⟨j + 1, by omega, by go_num, HB3.out⟩
        case measure => simp [intOf]; omega
    · obtain rfl : j = l.length := by omega
      clear hbw
      go_wp2
      go_ret
      exact ⟨rfl, HB.out⟩
end Go.Proofs.YtnfhlfbkdhpacaaGreatDoor
