/- Rows of Msg: the record, and the contracts of the laws' own helpers over it (made by mkrows.py). -/
import Derived.Test.YtnfhlfbkdhpacaaGreatDoorProg
import Derived.Test.YtnfhlfbkdhpacaaGreatDoorJoint1
import Derived.WalkKit
import Derived.WalkSpells
import Derived.ProofKit
import Derived.Lib.Hide
import Derived.Outline
import Derived.Laws.MakeOwn
import Derived.Laws.OwnMore
import Derived.Deep.RegionWith
namespace Go.Proofs.YtnfhlfbkdhpacaaGreatDoor
open Go.RowKit

structure Mq where
  kd : Int
  ky : Int
  tm : Int
  vl : Int
  mr : Int
deriving DecidableEq
def qD : Mq := ⟨0, 0, 0, 0, 0⟩
def qC (S : Mq) : List Value := [.int .i64 S.kd, .int .i64 S.ky, .int .i64 S.tm, .int .i64 S.vl, .int .i64 S.mr]
theorem qC_len (S : Mq) : (qC S).length = 5 := rfl
/-- The record at i. -/
def qel (l : List Mq) (i : Nat) : Mq := rel qD l i
def flatQ (l : List Mq) : List Value := flatR qC l
theorem flatQ_len (l : List Mq) : (flatQ l).length = l.length * 5 := flatR_len qC 5 qC_len l
theorem flatQ_append (l m : List Mq) : flatQ (l ++ m) = flatQ l ++ flatQ m := flatR_append qC l m
theorem qel_take {l : List Mq} {i : Nat} (hi : i < l.length) : l.take (i + 1) = l.take i ++ [qel l i] := rel_take qD hi
/-- A slice of records, all below block hi, reads as l. -/
abbrev Mqs (w : World) (hi : Nat) (a : Option Addr) (c : Nat) (l : List Mq) : Prop := Recs qC 5 qD w hi a c l
theorem Mqs.six {w : World} {hi c : Nat} {a : Option Addr} {l : List Mq} (h : Mqs w hi a c l) (hne : 0 < l.length) : ∃ b off, a = some ⟨b, off, none⟩ ∧ b < hi ∧ ∀ i, i < l.length → w.cell? ⟨b, off + i * 5, none⟩ = some (.int .i64 (qel l i).kd) ∧ w.cell? ⟨b, off + i * 5 + 1, none⟩ = some (.int .i64 (qel l i).ky) ∧ w.cell? ⟨b, off + i * 5 + 2, none⟩ = some (.int .i64 (qel l i).tm) ∧ w.cell? ⟨b, off + i * 5 + 3, none⟩ = some (.int .i64 (qel l i).vl) ∧ w.cell? ⟨b, off + i * 5 + 4, none⟩ = some (.int .i64 (qel l i).mr) := by
  obtain ⟨b, off, ha, hlt, hc⟩ := h.cells hne
  exact ⟨b, off, ha, hlt, fun i hi => ⟨hc i hi 0 (by omega), hc i hi 1 (by omega), hc i hi 2 (by omega), hc i hi 3 (by omega), hc i hi 4 (by omega)⟩⟩
theorem Mqs.of_own {w : World} {T : TypeId} {lo n c : Nat} {a : Option Addr} {l : List Mq} (h : w.ownsRow lo T 5 (.slice a n c) n (flatQ l)) : Mqs w w.heap.size a c l := Recs.of_own qC_len (by omega) h
theorem Rw.qs {w : World} {T : TypeId} {lo up n c : Nat} {a : Option Addr} {l : List Mq} (h : Rw T 5 lo up a n c (flatQ l) w) : Mqs w w.heap.size a c l := Mqs.of_own h.own
theorem Rw.qlen {w : World} {T : TypeId} {lo up n c : Nat} {a : Option Addr} {l : List Mq} (h : Rw T 5 lo up a n c (flatQ l) w) : n = l.length := ownR_len qC_len (by omega) h.own
theorem own_mq {w : World} {lo g n c : Nat} {T : TypeId} {l : List Mq} (h : w.ownsRow lo T 5 (.slice (some ⟨g, 0, none⟩) n c) n (flatQ l)) (j : Nat) (hj : j < l.length) : w.cell? ⟨g, j * 5, none⟩ = some (.int .i64 (qel l j).kd) ∧ w.cell? ⟨g, j * 5 + 1, none⟩ = some (.int .i64 (qel l j).ky) ∧ w.cell? ⟨g, j * 5 + 2, none⟩ = some (.int .i64 (qel l j).tm) ∧ w.cell? ⟨g, j * 5 + 3, none⟩ = some (.int .i64 (qel l j).vl) ∧ w.cell? ⟨g, j * 5 + 4, none⟩ = some (.int .i64 (qel l j).mr) := by
  have hf := fun q hq => flatR_at qC 5 qD qC_len l j q hj hq
  have hn : n = l.length := ownR_len qC_len (by omega) h
  exact ⟨(h.cellAt (j * 5) (by omega)).trans (hf 0 (by omega)), (h.cellAt (j * 5 + 1) (by omega)).trans (hf 1 (by omega)), (h.cellAt (j * 5 + 2) (by omega)).trans (hf 2 (by omega)), (h.cellAt (j * 5 + 3) (by omega)).trans (hf 3 (by omega)), (h.cellAt (j * 5 + 4) (by omega)).trans (hf 4 (by omega))⟩

set_option maxHeartbeats 1000000 in
set_option maxRecDepth 100000 in
theorem toMsg_x (kd ky tm vl mr : Int) (w : World) : Calls Tryz.prog 87 #[.agg #[.int .i64 kd, .int .i64 ky, .int .i64 tm, .int .i64 vl, .int .i64 mr]] w fun e w' => e = .returned (.agg #[.int .i64 kd, .int .i64 ky, .int .i64 tm, .int .i64 vl, .int .i64 mr]) ∧ Below w.heap.size w w' := by
  have b1 := (Below.refl w.heap.size w).alloc (Nat.le_refl _) (.cells #[.int .i64 kd, .int .i64 ky, .int .i64 tm, .int .i64 vl, .int .i64 mr] 133)
  have b2 := b1.alloc (by simp) (.cells #[.int .i64 0, .int .i64 0, .int .i64 0, .int .i64 0, .int .i64 0] 127)
  have b3 := b2.alloc (by simp; omega) (.cells #[.int .i64 0, .int .i64 0, .int .i64 0, .int .i64 0, .int .i64 0] 127)
  have K0 := Lib.hid (((Blk.new w 133 #[.int .i64 kd, .int .i64 ky, .int .i64 tm, .int .i64 vl, .int .i64 mr]).alloc (.cells #[.int .i64 0, .int .i64 0, .int .i64 0, .int .i64 0, .int .i64 0] 127)).alloc (.cells #[.int .i64 0, .int .i64 0, .int .i64 0, .int .i64 0, .int .i64 0] 127))
  have K1 := Lib.hid ((Blk.new (w.alloc (.cells #[.int .i64 kd, .int .i64 ky, .int .i64 tm, .int .i64 vl, .int .i64 mr] 133)) 127 #[.int .i64 0, .int .i64 0, .int .i64 0, .int .i64 0, .int .i64 0]).alloc (.cells #[.int .i64 0, .int .i64 0, .int .i64 0, .int .i64 0, .int .i64 0] 127))
  have K2 := Lib.hid (Blk.new ((w.alloc (.cells #[.int .i64 kd, .int .i64 ky, .int .i64 tm, .int .i64 vl, .int .i64 mr] 133)).alloc (.cells #[.int .i64 0, .int .i64 0, .int .i64 0, .int .i64 0, .int .i64 0] 127)) 127 #[.int .i64 0, .int .i64 0, .int .i64 0, .int .i64 0, .int .i64 0])
  have B3 := Lib.hid b3
  clear b1 b2 b3
  go_enter Tryz.func87, Tryz.ntmps87
  go_wp2_with fail
  refine (toFrame_any kd ky tm vl _).mono ?_
  rintro e w1 ⟨rfl, hb⟩
  have q0 := (K0.out.below hb).cell
  have q1 := (K1.out.below hb).cell
  have q2 := (K2.out.below hb).cell
  have f1 := (K1.out.below hb).frozen
  have f2 := (K2.out.below hb).frozen
  simp only [World.size_alloc] at q0 q1 q2 f1 f2
  have B1 := Lib.hid (B3.out.trans (hb.mono (by simp; omega)))
  have HP : Hid (Below w.heap.size w ((((((((((w1.setCell ⟨w.heap.size + 1 + 1, 0, none⟩ (.int .i64 kd)).setCell ⟨w.heap.size + 1 + 1, 1, none⟩ (.int .i64 ky)).setCell ⟨w.heap.size + 1 + 1, 2, none⟩ (.int .i64 tm)).setCell ⟨w.heap.size + 1 + 1, 3, none⟩ (.int .i64 vl)).setCell ⟨w.heap.size + 1 + 1, 4, none⟩ (.int .i64 mr)).setCell ⟨w.heap.size + 1, 0, none⟩ (.int .i64 kd)).setCell ⟨w.heap.size + 1, 1, none⟩ (.int .i64 ky)).setCell ⟨w.heap.size + 1, 2, none⟩ (.int .i64 tm)).setCell ⟨w.heap.size + 1, 3, none⟩ (.int .i64 vl)).setCell ⟨w.heap.size + 1, 4, none⟩ (.int .i64 mr))) := Lib.hid (by
    refine ((((((((((B1.out.setCell ?_ _).setCell ?_ _).setCell ?_ _).setCell ?_ _).setCell ?_ _).setCell ?_ _).setCell ?_ _).setCell ?_ _).setCell ?_ _).setCell ?_ _) <;> simp <;> omega)
  clear hb
  go_wp2
  exact bodyPost_ret (v := .agg #[.int .i64 kd, .int .i64 ky, .int .i64 tm, .int .i64 vl, .int .i64 mr]) (by simp [results, Tryz.results87, go_sem, q1]) rfl ⟨rfl, HP.out⟩
set_option maxHeartbeats 1000000 in
set_option maxRecDepth 100000 in
theorem eqMsg_x (kd ky tm vl mr : Int) (w : World) : Calls Tryz.prog 99 #[.agg #[.int .i64 kd, .int .i64 ky, .int .i64 tm, .int .i64 vl, .int .i64 mr], .agg #[.int .i64 kd, .int .i64 ky, .int .i64 tm, .int .i64 vl, .int .i64 mr]] w fun e w' => e = .returned (.bool true) ∧ Below w.heap.size w w' := by
  have BB := Lib.hid (((Below.refl w.heap.size w).alloc (Nat.le_refl _) (.cells #[.int .i64 kd, .int .i64 ky, .int .i64 tm, .int .i64 vl, .int .i64 mr] 127)).alloc (by simp) (.cells #[.int .i64 kd, .int .i64 ky, .int .i64 tm, .int .i64 vl, .int .i64 mr] 127))
  have K0 := Lib.hid ((Blk.new w 127 #[.int .i64 kd, .int .i64 ky, .int .i64 tm, .int .i64 vl, .int .i64 mr]).alloc (.cells #[.int .i64 kd, .int .i64 ky, .int .i64 tm, .int .i64 vl, .int .i64 mr] 127))
  have K1 := Lib.hid (Blk.new (w.alloc (.cells #[.int .i64 kd, .int .i64 ky, .int .i64 tm, .int .i64 vl, .int .i64 mr] 127)) 127 #[.int .i64 kd, .int .i64 ky, .int .i64 tm, .int .i64 vl, .int .i64 mr])
  have hmk : (mr != mr) = false := by simp
  go_enter Tryz.func99, Tryz.ntmps99
  go_wp2_with fail
  refine (eqFrame_x kd ky tm vl _).mono ?_
  rintro e w1 ⟨rfl, hb⟩
  have q0 := (K0.out.below hb).cell
  have q1 := (K1.out.below hb).cell
  simp only [World.size_alloc] at q0 q1
  have B1 := Lib.hid (BB.out.trans (hb.mono (by simp; omega)))
  clear hb
  go_wp2
  go_ret
  exact ⟨rfl, B1.out⟩
theorem szMsgS_any (a : Option Addr) (n c : Nat) (left : Int) (w : World) (hl0 : 0 ≤ left) (hl1 : left ≤ 1048576) (hn : n ≤ 9223372036854775807) :
    Calls Tryz.prog 26 #[.slice a n c, .int .i64 left] w fun e w' => e = .returned (.int .i64 (if left - (n : Int) < 0 then -1 else left - (n : Int))) ∧ w = w' := by
  by_cases h : left - (n : Int) < 0
  · rw [if_pos h]
    go_enter Tryz.func26, Tryz.ntmps26
    go_wp2
    go_ret
    exact ⟨rfl, rfl⟩
  · rw [if_neg h]
    go_enter Tryz.func26, Tryz.ntmps26
    go_wp2
    go_ret
    exact ⟨rfl, rfl⟩
theorem infoMsg : (Tryz.prog.info? 127).map (fun i => (i.zero, i.size, i.bytes)) = some (some (.agg #[.int .i64 0, .int .i64 0, .int .i64 0, .int .i64 0, .int .i64 0]), 5, 40) := by kernel_rfl
theorem run_make_Mq (n : Nat) (hn : n ≤ 1048576) : ∃ CS : Array Value, CS.size = n * 5 ∧ ∀ W : World, (Instr.makeSlice 39 (.int .i64 (n : Int)) (.int .i64 (n : Int))).run Tryz.prog W = .ok (.slice (some ⟨W.heap.size, 0, none⟩) n n) (W.alloc (.cells CS 127)) := by
  obtain ⟨i, hi, hzz⟩ := Option.map_eq_some_iff.1 infoMsg
  simp only [Prod.mk.injEq] at hzz
  obtain ⟨hz, hs, hb⟩ := hzz
  refine ⟨madeCells (Value.cells (.agg #[.int .i64 0, .int .i64 0, .int .i64 0, .int .i64 0, .int .i64 0])) (n * 5), size_madeCells _ _, fun W => ?_⟩
  have h := run_make (P := Tryz.prog) W 39 127 i _ Tryz.underlying39 hi hz .i64 .i64 n n (by omega) (Int.le_refl _) (by rw [hb]; omega) (by omega)
  simp only [Int.toNat_natCast, hs] at h
  exact h
/-- The copy, j records done. -/
structure CopiedMq (g : Nat) (l : List Mq) (j : Nat) (W : World) : Prop where
  ex : ∃ cs : Array Value, Blk W g 127 cs ∧ cs.size = l.length * 5 ∧ ∀ i q, i < j → q < 5 → cs[i * 5 + q]? = (qC (qel l i))[q]?
theorem CopiedMq.start {g : Nat} {l : List Mq} {W : World} {cs : Array Value} (h : Blk W g 127 cs) (hs : cs.size = l.length * 5) : CopiedMq g l 0 W :=
  ⟨⟨cs, h, hs, fun i q hi => absurd hi (by omega)⟩⟩
theorem CopiedMq.step {g j : Nat} {l : List Mq} {W W' : World} (h : CopiedMq g l j W) (hj : j < l.length) (hb : Below W.heap.size W W') : CopiedMq g l (j + 1) (((((W'.setCell ⟨g, j * 5, none⟩ (.int .i64 (qel l j).kd)).setCell ⟨g, j * 5 + 1, none⟩ (.int .i64 (qel l j).ky)).setCell ⟨g, j * 5 + 2, none⟩ (.int .i64 (qel l j).tm)).setCell ⟨g, j * 5 + 3, none⟩ (.int .i64 (qel l j).vl)).setCell ⟨g, j * 5 + 4, none⟩ (.int .i64 (qel l j).mr)) := by
  obtain ⟨cs, hB, hs, hc⟩ := h.ex
  refine ⟨⟨_, ((((((hB.below hb).put_ (j * 5) _).put_ (j * 5 + 1) _).put_ (j * 5 + 2) _).put_ (j * 5 + 3) _).put_ (j * 5 + 4) _), by simpa using hs, fun i q hi hq => ?_⟩⟩
  by_cases he : i = j
  · subst he
    have h5 : q = 0 ∨ q = 1 ∨ q = 2 ∨ q = 3 ∨ q = 4 := by omega
    rcases h5 with rfl | rfl | rfl | rfl | rfl
    all_goals
      simp [Array.getElem?_setIfInBounds, qC]
      try omega
  · have h0 := hc i q (by omega) hq
    rw [Array.getElem?_setIfInBounds_ne (by omega), Array.getElem?_setIfInBounds_ne (by omega), Array.getElem?_setIfInBounds_ne (by omega), Array.getElem?_setIfInBounds_ne (by omega), Array.getElem?_setIfInBounds_ne (by omega)]
    exact h0
theorem CopiedMq.owns {g lo : Nat} {l : List Mq} {W : World} (h : CopiedMq g l l.length W) (hl : l.length ≤ 1048576) (hlo : lo ≤ g) : W.ownsRow lo 127 5 (.slice (some ⟨g, 0, none⟩) l.length l.length) l.length (flatQ l) := by
  obtain ⟨cs, hB, hs, hc⟩ := h.ex
  refine ⟨flatQ_len l, .inr ⟨g, l.length, cs, rfl, hlo, hB, Nat.le_refl _, by unfold maxLen; omega, hs, ?_⟩⟩
  have hl2 : cs.toList.length = l.length * 5 := by rw [Array.length_toList, hs]
  rw [List.take_of_length_le (by omega)]
  refine List.ext_getElem? fun m => ?_
  by_cases hm : m < l.length * 5
  · have h1 := hc (m / 5) (m % 5) (by omega) (by omega)
    have h2 := flatR_at qC 5 qD qC_len l (m / 5) (m % 5) (by omega) (by omega)
    have e1 : m / 5 * 5 + m % 5 = m := by omega
    rw [e1] at h1 h2
    rw [Array.getElem?_toList, h1]
    exact h2.symm
  · rw [List.getElem?_eq_none (by omega), List.getElem?_eq_none (by rw [flatQ_len]; omega)]
set_option maxHeartbeats 1000000 in
set_option maxRecDepth 100000 in
theorem toMsgS_any (a : Option Addr) (n c : Nat) (l : List Mq) (hi : Nat) (w : World) (hr : Mqs w hi a c l) (hn : n = l.length) (hB : hi ≤ w.heap.size) (hlen : l.length ≤ 1048576) :
    Calls Tryz.prog 34 #[.slice a n c] w (FreshR qC 127 5 l w) := by
  subst hn
  obtain ⟨CS, hcs, hmk⟩ := run_make_Mq l.length hlen
  have hc1 := hr.cap
  have hc2 := hr.big
  have HR := Lib.hid hr
  have C0 := Lib.hid (CopiedMq.start (Blk.new w 127 CS) hcs)
  have B0 := Lib.hid ((Below.refl w.heap.size w).alloc (Nat.le_refl _) (.cells CS 127))
  clear hr hcs
  go_enter Tryz.func34, Tryz.ntmps34
  go_wp2
  go_loopw [4] (fun i wr => ∃ j : Nat, j ≤ l.length ∧ i = .int .i64 j ∧ CopiedMq w.heap.size l j wr ∧ Below w.heap.size w wr) (fun i _ => l.length - (intOf i).toNat)
  case atStart => exact ⟨0, Nat.zero_le _, rfl, C0.out, B0.out⟩
  case round =>
    obtain ⟨j, hj, rfl, hcp, hb⟩ := hrel
    have hsz := hb.size
    have HB := Lib.hid hb
    have HC := Lib.hid hcp
    by_cases hlt : j < l.length
    · obtain ⟨b, off, rfl, hbh, hcell⟩ := Mqs.six (HR.out.below (hb.mono hB)) (by omega)
      obtain ⟨q0, q1, q2, q3, q4⟩ := hcell j hlt
      have HST := Lib.hid (fun (W' : World) hb => hcp.step (W' := W') hlt hb)
      have hlt' : (j : Int) < (l.length : Int) := by omega
      clear hcell hb hcp
      generalize qel l j = S at q0 q1 q2 q3 q4 HST
      obtain ⟨kd, ky, tm, vl, mr⟩ := S
      simp only at q0 q1 q2 q3 q4 HST
      have HTS := Lib.hid (fun W => toMsg_x kd ky tm vl mr W)
      go_wp2_with fail
      refine (HTS.out _).mono ?_
      rintro e w3 ⟨rfl, hb3⟩
      have HS3 := Lib.hid (HST.out w3 hb3)
      have HB3 := Lib.hid (HB.out.trans (hb3.mono hsz))
      have s3 := hb3.size
      have hfz : ∀ i, w3.frozen? ⟨w.heap.size, i, none⟩ = false := by
        obtain ⟨cs, hBk, hs_, _⟩ := HC.out.ex
        exact (hBk.below hb3).frozen
      have hcl : ∀ q, q < 5 → ∃ v, w3.cell? ⟨w.heap.size, j * 5 + q, none⟩ = some v := fun q hq => by
        obtain ⟨cs, hBk, hs_, _⟩ := HC.out.ex
        rw [(hBk.below hb3).cell]
        exact ⟨cs[j * 5 + q]'(by omega), by rw [Array.getElem?_eq_getElem]⟩
      obtain ⟨v0, c0⟩ := hcl 0 (by omega)
      obtain ⟨v1, c1⟩ := hcl 1 (by omega)
      obtain ⟨v2, c2⟩ := hcl 2 (by omega)
      obtain ⟨v3, c3⟩ := hcl 3 (by omega)
      obtain ⟨v4, c4⟩ := hcl 4 (by omega)
      rw [Nat.add_zero] at c0
      clear hb3 hcl q0 q1 q2 q3 q4
      go_wp2
      go_roundw
      case rel => exact ⟨j + 1, by omega, by go_num, HS3.out, (((((HB3.out.setCell (p := ⟨w.heap.size, j * 5, none⟩) (Nat.le_refl _) _).setCell (p := ⟨w.heap.size, j * 5 + 1, none⟩) (Nat.le_refl _) _).setCell (p := ⟨w.heap.size, j * 5 + 2, none⟩) (Nat.le_refl _) _).setCell (p := ⟨w.heap.size, j * 5 + 3, none⟩) (Nat.le_refl _) _).setCell (p := ⟨w.heap.size, j * 5 + 4, none⟩) (Nat.le_refl _) _)⟩
      case measure => simp [intOf]; omega
    · obtain rfl : j = l.length := by omega
      have HP : Hid (FreshR qC 127 5 l w (.returned (.slice (some ⟨w.heap.size, 0, none⟩) l.length l.length)) wr) := ⟨_, _, rfl, hcp.owns hlen (Nat.le_refl _), hb⟩
      clear hcp hb
      go_wp2
      go_ret
      exact HP.out
set_option maxHeartbeats 1000000 in
set_option maxRecDepth 100000 in
theorem eqMsgS_any (a b : Option Addr) (n m ca cb : Nat) (l : List Mq) (ha hb : Nat) (w : World) (h1 : Mqs w ha a ca l) (h2 : Mqs w hb b cb l) (hn : n = l.length) (hm : m = l.length) (hB1 : ha ≤ w.heap.size) (hB2 : hb ≤ w.heap.size) :
    Calls Tryz.prog 47 #[.slice a n ca, .slice b m cb] w fun e w' => e = .returned (.bool true) ∧ Below w.heap.size w w' := by
  subst hn
  subst hm
  have hc1 := h1.cap
  have hc2 := h1.big
  have hc3 := h2.cap
  have hc4 := h2.big
  have H1 := Lib.hid h1
  have H2 := Lib.hid h2
  clear h1 h2
  go_enter Tryz.func47, Tryz.ntmps47
  go_wp2
  go_loopw [5] (fun i wr => ∃ j : Nat, j ≤ l.length ∧ i = .int .i64 j ∧ Below w.heap.size w wr) (fun i _ => l.length - (intOf i).toNat)
  case atStart => exact ⟨0, Nat.zero_le _, rfl, Below.refl _ _⟩
  case round =>
    obtain ⟨j, hj, rfl, hbw⟩ := hrel
    have hsz := hbw.size
    have HB := Lib.hid hbw
    by_cases hlt : j < l.length
    · obtain ⟨b1, off1, rfl, _, hcell1⟩ := Mqs.six (H1.out.below (hbw.mono hB1)) (by omega)
      obtain ⟨b2, off2, rfl, _, hcell2⟩ := Mqs.six (H2.out.below (hbw.mono hB2)) (by omega)
      obtain ⟨p0, p1, p2, p3, p4⟩ := hcell1 j hlt
      obtain ⟨q0, q1, q2, q3, q4⟩ := hcell2 j hlt
      have hlt' : (j : Int) < (l.length : Int) := by omega
      clear hcell1 hcell2 hbw
      generalize qel l j = S at p0 p1 p2 p3 p4 q0 q1 q2 q3 q4
      obtain ⟨kd, ky, tm, vl, mr⟩ := S
      simp only at p0 p1 p2 p3 p4 q0 q1 q2 q3 q4
      go_wp2_with fail
      go_region_with (go_at_call 99; refine (eqMsg_x kd ky tm vl mr _).mono ?_; rintro e w3 ⟨rfl, hb⟩; have HB3 := Lib.hid ((HB.out.drew).trans (hb.mono hsz)); clear hb)
      all_goals
        clear p0 p1 p2 p3 p4 q0 q1 q2 q3 q4
        go_wp2
        go_roundw
        case rel => exact ⟨j + 1, by omega, by go_num, HB3.out⟩
        case measure => simp [intOf]; omega
    · obtain rfl : j = l.length := by omega
      clear hbw
      go_wp2
      go_ret
      exact ⟨rfl, HB.out⟩
/-- The marks of n records from m on. -/
def markQ (m i : Nat) : Mq := ⟨((m + 5 * i : Nat) : Int), ((m + 5 * i + 1 : Nat) : Int), ((m + 5 * i + 2 : Nat) : Int), ((m + 5 * i + 3 : Nat) : Int), ((m + 5 * i + 4 : Nat) : Int)⟩
def marksQ (m n : Nat) : List Mq := (List.range n).map (markQ m)
theorem marksQ_len (m n : Nat) : (marksQ m n).length = n := by simp [marksQ]
theorem marksQ_at (m n i : Nat) (hi : i < n) : qel (marksQ m n) i = markQ m i := by simp [marksQ, qel, rel, List.getD, hi]
def markToQ (m : Nat) (l : List Mq) (j : Nat) : List Mq := marksQ m j ++ l.drop j
theorem markToQ_zero (m : Nat) (l : List Mq) : markToQ m l 0 = l := by simp [markToQ, marksQ]
theorem markToQ_len (m : Nat) (l : List Mq) (j : Nat) (hj : j ≤ l.length) : (markToQ m l j).length = l.length := by simp [markToQ, marksQ_len]; omega
theorem markToQ_all (m : Nat) (l : List Mq) : markToQ m l l.length = marksQ m l.length := by simp [markToQ]
theorem markToQ_step (m : Nat) (l : List Mq) (j : Nat) (hj : j < l.length) : ((((((flatQ (markToQ m l j)).set (j * 5) (.int .i64 ((m + 5 * j : Nat) : Int))).set (j * 5 + 1) (.int .i64 ((m + 5 * j + 1 : Nat) : Int))).set (j * 5 + 2) (.int .i64 ((m + 5 * j + 2 : Nat) : Int))).set (j * 5 + 3) (.int .i64 ((m + 5 * j + 3 : Nat) : Int))).set (j * 5 + 4) (.int .i64 ((m + 5 * j + 4 : Nat) : Int))) = flatQ (markToQ m l (j + 1)) := by
  have e1 : marksQ m (j + 1) = marksQ m j ++ [markQ m j] := by simp [marksQ, List.range_succ]
  have e2 : l.drop j = qel l j :: l.drop (j + 1) := rel_drop qD hj
  have hl : (flatQ (marksQ m j)).length = j * 5 := by rw [flatQ_len, marksQ_len]
  unfold markToQ
  rw [e1, e2, flatQ_append, flatQ_append, flatQ_append]
  have e3 : ∀ (f : Mq) (r : List Mq), flatQ (f :: r) = qC f ++ flatQ r := fun _ _ => rfl
  have e4 : ∀ (f : Mq), flatQ [f] = qC f := fun f => by simp [flatQ, flatR]
  rw [e3, e4]
  rw [List.set_append_right _ _ (by omega), List.set_append_right _ _ (by omega), List.set_append_right _ _ (by omega), List.set_append_right _ _ (by omega), List.set_append_right _ _ (by omega), hl]
  have i0 : j * 5 - j * 5 = 0 := by omega
  have i1 : j * 5 + 1 - j * 5 = 1 := by omega
  have i2 : j * 5 + 2 - j * 5 = 2 := by omega
  have i3 : j * 5 + 3 - j * 5 = 3 := by omega
  have i4 : j * 5 + 4 - j * 5 = 4 := by omega
  rw [i0, i1, i2, i3, i4]
  simp [qC, markQ]
set_option maxRecDepth 100000 in
set_option maxHeartbeats 2000000 in
theorem markMsgS_m (a : Option Addr) (n c m : Nat) (M : Int) (l : List Mq) (lo : Nat) (w : World) (hr : w.ownsRow lo 127 5 (.slice a n c) n (flatQ l)) (hM : M = (m : Int)) (hn : n = l.length) (hlo : lo ≤ w.heap.size) (hlen : n ≤ 1048576) (hm : m ≤ 1073741824) :
    Calls Tryz.prog 54 #[.slice a n c, .int .i64 M] w fun e w' => e = .returned (.int .i64 (M + 5 * (n : Int))) ∧ MarkedR 127 5 lo a c n (flatQ (marksQ m n)) w w' := by
  subst hM
  subst hn
  have hc := ownR_cap hr
  have HR := Lib.hid hr
  clear hr
  go_enter Tryz.func54, Tryz.ntmps54
  go_wp2
  go_loopw [1, 5] (fun k i wr => ∃ j : Nat, j ≤ l.length ∧ i = .int .i64 j ∧ k = .int .i64 ((m : Int) + 5 * (j : Int)) ∧ wr.ownsRow lo 127 5 (.slice a l.length c) l.length (flatQ (markToQ m l j)) ∧ w.grownBy wr (Value.slice a l.length c).ownBlock) (fun _ i _ => l.length - (intOf i).toNat)
  case atStart => exact ⟨0, Nat.zero_le _, rfl, by simp, by rw [markToQ_zero]; exact HR.out, World.grownBy.refl _ _⟩
  case round =>
    obtain ⟨j, hj, rfl, rfl, hown, hg⟩ := hrel
    by_cases hlt : j < l.length
    · obtain ⟨g, rfl, _, _⟩ := ownR_block hown (by omega)
      have e0 : ((m + 5 * j : Nat) : Int) = (m : Int) + 5 * (j : Int) := by omega
      have e1 : ((m + 5 * j + 1 : Nat) : Int) = (m : Int) + 5 * (j : Int) + 1 := by omega
      have e2 : ((m + 5 * j + 2 : Nat) : Int) = (m : Int) + 5 * (j : Int) + 1 + 1 := by omega
      have e3 : ((m + 5 * j + 3 : Nat) : Int) = (m : Int) + 5 * (j : Int) + 1 + 1 + 1 := by omega
      have e4 : ((m + 5 * j + 4 : Nat) : Int) = (m : Int) + 5 * (j : Int) + 1 + 1 + 1 + 1 := by omega
      have hstep := markToQ_step m l j hlt
      rw [e0, e1, e2, e3, e4] at hstep
      have hll := flatQ_len (markToQ m l j)
      rw [markToQ_len m l j hj] at hll
      have s0 := hown.stored (j * 5) (.int .i64 ((m : Int) + 5 * (j : Int)))
      have s1 := s0.1.stored (j * 5 + 1) (.int .i64 ((m : Int) + 5 * (j : Int) + 1))
      have s2 := s1.1.stored (j * 5 + 2) (.int .i64 ((m : Int) + 5 * (j : Int) + 1 + 1))
      have s3 := s2.1.stored (j * 5 + 3) (.int .i64 ((m : Int) + 5 * (j : Int) + 1 + 1 + 1))
      have s4 := s3.1.stored (j * 5 + 4) (.int .i64 ((m : Int) + 5 * (j : Int) + 1 + 1 + 1 + 1))
      rw [hstep] at s4
      obtain ⟨u0, c0⟩ : ∃ u, wr.cell? ⟨g, j * 5, none⟩ = some u := ⟨_, (hown.cellAt (j * 5) (by omega)).trans (List.getElem?_eq_getElem (by omega))⟩
      obtain ⟨u1, c1⟩ : ∃ u, (wr.setCell ⟨g, j * 5, none⟩ (.int .i64 ((m : Int) + 5 * (j : Int)))).cell? ⟨g, j * 5 + 1, none⟩ = some u := ⟨_, (s0.1.cellAt (j * 5 + 1) (by omega)).trans (List.getElem?_eq_getElem (by rw [List.length_set]; omega))⟩
      obtain ⟨u2, c2⟩ : ∃ u, ((wr.setCell ⟨g, j * 5, none⟩ (.int .i64 ((m : Int) + 5 * (j : Int)))).setCell ⟨g, j * 5 + 1, none⟩ (.int .i64 ((m : Int) + 5 * (j : Int) + 1))).cell? ⟨g, j * 5 + 2, none⟩ = some u := ⟨_, (s1.1.cellAt (j * 5 + 2) (by omega)).trans (List.getElem?_eq_getElem (by rw [List.length_set, List.length_set]; omega))⟩
      obtain ⟨u3, c3⟩ : ∃ u, (((wr.setCell ⟨g, j * 5, none⟩ (.int .i64 ((m : Int) + 5 * (j : Int)))).setCell ⟨g, j * 5 + 1, none⟩ (.int .i64 ((m : Int) + 5 * (j : Int) + 1))).setCell ⟨g, j * 5 + 2, none⟩ (.int .i64 ((m : Int) + 5 * (j : Int) + 1 + 1))).cell? ⟨g, j * 5 + 3, none⟩ = some u := ⟨_, (s2.1.cellAt (j * 5 + 3) (by omega)).trans (List.getElem?_eq_getElem (by rw [List.length_set, List.length_set, List.length_set]; omega))⟩
      obtain ⟨u4, c4⟩ : ∃ u, ((((wr.setCell ⟨g, j * 5, none⟩ (.int .i64 ((m : Int) + 5 * (j : Int)))).setCell ⟨g, j * 5 + 1, none⟩ (.int .i64 ((m : Int) + 5 * (j : Int) + 1))).setCell ⟨g, j * 5 + 2, none⟩ (.int .i64 ((m : Int) + 5 * (j : Int) + 1 + 1))).setCell ⟨g, j * 5 + 3, none⟩ (.int .i64 ((m : Int) + 5 * (j : Int) + 1 + 1 + 1))).cell? ⟨g, j * 5 + 4, none⟩ = some u := ⟨_, (s3.1.cellAt (j * 5 + 4) (by omega)).trans (List.getElem?_eq_getElem (by rw [List.length_set, List.length_set, List.length_set, List.length_set]; omega))⟩
      have f0 := hown.frozenAt (j * 5)
      have f1 := s0.1.frozenAt (j * 5 + 1)
      have f2 := s1.1.frozenAt (j * 5 + 2)
      have f3 := s2.1.frozenAt (j * 5 + 3)
      have f4 := s3.1.frozenAt (j * 5 + 4)
      have G0 := Lib.hid (grown_trans (grown_trans (grown_trans (grown_trans (grown_trans hg s0.2) s1.2) s2.2) s3.2) s4.2)
      have S3 := Lib.hid s4.1
      clear hstep hll s0 s1 s2 s3 s4 hown hg e0 e1 e2 e3 e4
      go_wp2
      go_roundw
      case rel => exact ⟨j + 1, by omega, by go_num, by go_num, S3.out, G0.out⟩
      case measure => simp [intOf]; omega
    · obtain rfl : j = l.length := by omega
      rw [markToQ_all] at hown
      have HO := Lib.hid hown
      have HG := Lib.hid hg
      have HP : Hid (MarkedR 127 5 lo a c l.length (flatQ (marksQ m l.length)) w wr) := ⟨HO.out, ⟨HG.out.os, HG.out.tape, HG.out.output, HG.out.size, fun k hk => HG.out.block k (by omega) (fun e => by have := (HO.out.lt k e.symm).1; omega)⟩, HG.out⟩
      clear hown hg
      go_wp2
      go_ret
      exact ⟨rfl, HP.out⟩
end Go.Proofs.YtnfhlfbkdhpacaaGreatDoor
