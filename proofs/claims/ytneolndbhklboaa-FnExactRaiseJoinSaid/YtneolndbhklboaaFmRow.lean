/- Rows of Frame: the record, and the contracts of the laws' own helpers over it (made by mkrows.py). -/
import Derived.Test.YtneolndbhklboaaProg
import Derived.Test.YtneolndbhklboaaRecs
import Derived.WalkKit
import Derived.WalkSpells
import Derived.ProofKit
import Derived.Lib.Hide
import Derived.Outline
import Derived.Laws.MakeOwn
import Derived.Laws.OwnMore
import Derived.Deep.RegionWith
namespace Go.Proofs.Ytneolndbhklboaa
open Go.RowKit

structure Fm where
  k : Int
  y : Int
  t : Int
  v : Int
deriving DecidableEq
def qD : Fm := ⟨0, 0, 0, 0⟩
def qC (S : Fm) : List Value := [.int .i64 S.k, .int .i64 S.y, .int .i64 S.t, .int .i64 S.v]
theorem qC_len (S : Fm) : (qC S).length = 4 := rfl
/-- The record at i. -/
def qel (l : List Fm) (i : Nat) : Fm := rel qD l i
def flatQ (l : List Fm) : List Value := flatR qC l
theorem flatQ_len (l : List Fm) : (flatQ l).length = l.length * 4 := flatR_len qC 4 qC_len l
theorem flatQ_append (l m : List Fm) : flatQ (l ++ m) = flatQ l ++ flatQ m := flatR_append qC l m
theorem qel_take {l : List Fm} {i : Nat} (hi : i < l.length) : l.take (i + 1) = l.take i ++ [qel l i] := rel_take qD hi
/-- A slice of records, all below block hi, reads as l. -/
abbrev Fms (w : World) (hi : Nat) (a : Option Addr) (c : Nat) (l : List Fm) : Prop := Recs qC 4 qD w hi a c l
theorem Fms.six {w : World} {hi c : Nat} {a : Option Addr} {l : List Fm} (h : Fms w hi a c l) (hne : 0 < l.length) : ∃ b off, a = some ⟨b, off, none⟩ ∧ b < hi ∧ ∀ i, i < l.length → w.cell? ⟨b, off + i * 4, none⟩ = some (.int .i64 (qel l i).k) ∧ w.cell? ⟨b, off + i * 4 + 1, none⟩ = some (.int .i64 (qel l i).y) ∧ w.cell? ⟨b, off + i * 4 + 2, none⟩ = some (.int .i64 (qel l i).t) ∧ w.cell? ⟨b, off + i * 4 + 3, none⟩ = some (.int .i64 (qel l i).v) := by
  obtain ⟨b, off, ha, hlt, hc⟩ := h.cells hne
  exact ⟨b, off, ha, hlt, fun i hi => ⟨hc i hi 0 (by omega), hc i hi 1 (by omega), hc i hi 2 (by omega), hc i hi 3 (by omega)⟩⟩
theorem Fms.of_own {w : World} {T : TypeId} {lo n c : Nat} {a : Option Addr} {l : List Fm} (h : w.ownsRow lo T 4 (.slice a n c) n (flatQ l)) : Fms w w.heap.size a c l := Recs.of_own qC_len (by omega) h
theorem Rw.qs {w : World} {T : TypeId} {lo up n c : Nat} {a : Option Addr} {l : List Fm} (h : Rw T 4 lo up a n c (flatQ l) w) : Fms w w.heap.size a c l := Fms.of_own h.own
theorem Rw.qlen {w : World} {T : TypeId} {lo up n c : Nat} {a : Option Addr} {l : List Fm} (h : Rw T 4 lo up a n c (flatQ l) w) : n = l.length := ownR_len qC_len (by omega) h.own
theorem own_fm {w : World} {lo g n c : Nat} {T : TypeId} {l : List Fm} (h : w.ownsRow lo T 4 (.slice (some ⟨g, 0, none⟩) n c) n (flatQ l)) (j : Nat) (hj : j < l.length) : w.cell? ⟨g, j * 4, none⟩ = some (.int .i64 (qel l j).k) ∧ w.cell? ⟨g, j * 4 + 1, none⟩ = some (.int .i64 (qel l j).y) ∧ w.cell? ⟨g, j * 4 + 2, none⟩ = some (.int .i64 (qel l j).t) ∧ w.cell? ⟨g, j * 4 + 3, none⟩ = some (.int .i64 (qel l j).v) := by
  have hf := fun q hq => flatR_at qC 4 qD qC_len l j q hj hq
  have hn : n = l.length := ownR_len qC_len (by omega) h
  exact ⟨(h.cellAt (j * 4) (by omega)).trans (hf 0 (by omega)), (h.cellAt (j * 4 + 1) (by omega)).trans (hf 1 (by omega)), (h.cellAt (j * 4 + 2) (by omega)).trans (hf 2 (by omega)), (h.cellAt (j * 4 + 3) (by omega)).trans (hf 3 (by omega))⟩

theorem toFrame_x (k y t v : Int) (w : World) : Calls Try.prog 53 #[(.agg #[.int .i64 k, .int .i64 y, .int .i64 t, .int .i64 v])] w fun e w' => e = .returned (.agg #[.int .i64 k, .int .i64 y, .int .i64 t, .int .i64 v]) ∧ Below w.heap.size w w' := by
  have BB := Lib.hid fun v0 v1 v2 v3 : Value => ((((Below.refl w.heap.size w).alloc (Nat.le_refl _) (.cells #[.int .i64 k, .int .i64 y, .int .i64 t, .int .i64 v] 72)).alloc (by simp) (.cells #[.int .i64 0, .int .i64 0, .int .i64 0, .int .i64 0] 38)).alloc (by simp; omega) (.cells #[v0, v1, v2, v3] 38))
  go_enter Try.func53, Try.ntmps53
  go_wp2
  exact bodyPost_ret (v := (.agg #[.int .i64 k, .int .i64 y, .int .i64 t, .int .i64 v])) (by simp [results, Try.results53, go_sem]) rfl ⟨rfl, (((Below.refl _ _).alloc (Nat.le_refl _) _).alloc (by simp) _).alloc (by simp; omega) _⟩
theorem eqFrame_x (k y t v : Int) (w : World) : Calls Try.prog 74 #[(.agg #[.int .i64 k, .int .i64 y, .int .i64 t, .int .i64 v]), (.agg #[.int .i64 k, .int .i64 y, .int .i64 t, .int .i64 v])] w fun e w' => e = .returned (.bool true) ∧ Below w.heap.size w w' := by
  have BB := Lib.hid (((Below.refl w.heap.size w).alloc (Nat.le_refl _) (.cells #[.int .i64 k, .int .i64 y, .int .i64 t, .int .i64 v] 38)).alloc (by simp) (.cells #[.int .i64 k, .int .i64 y, .int .i64 t, .int .i64 v] 38))
  have hk : (k != k) = false := by simp
  have hy : (y != y) = false := by simp
  have ht : (t != t) = false := by simp
  have hv : (v != v) = false := by simp
  go_enter Try.func74, Try.ntmps74
  go_wp2
  go_ret
  exact ⟨rfl, BB.out⟩
theorem szFrameS_any (a : Option Addr) (n c : Nat) (w : World) (hn : n ≤ 9223372036854775807) :
    Calls Try.prog 22 #[.slice a n c, .int .i64 1048576] w fun e w' => e = .returned (.int .i64 (if (1048576 : Int) - (n : Int) < 0 then -1 else 1048576 - (n : Int))) ∧ w = w' := by
  by_cases h : (1048576 : Int) - (n : Int) < 0
  · rw [if_pos h]
    go_enter Try.func22, Try.ntmps22
    go_wp2
    go_ret
    exact ⟨rfl, rfl⟩
  · rw [if_neg h]
    go_enter Try.func22, Try.ntmps22
    go_wp2
    go_ret
    exact ⟨rfl, rfl⟩
theorem infoFrame : (Try.prog.info? 38).map (fun i => (i.zero, i.size, i.bytes)) = some (some (.agg #[.int .i64 0, .int .i64 0, .int .i64 0, .int .i64 0]), 4, 32) := by kernel_rfl
theorem run_make_Fm (n : Nat) (hn : n ≤ 1048576) : ∃ CS : Array Value, CS.size = n * 4 ∧ ∀ W : World, (Instr.makeSlice 24 (.int .i64 (n : Int)) (.int .i64 (n : Int))).run Try.prog W = .ok (.slice (some ⟨W.heap.size, 0, none⟩) n n) (W.alloc (.cells CS 38)) := by
  obtain ⟨i, hi, hzz⟩ := Option.map_eq_some_iff.1 infoFrame
  simp only [Prod.mk.injEq] at hzz
  obtain ⟨hz, hs, hb⟩ := hzz
  refine ⟨madeCells (Value.cells (.agg #[.int .i64 0, .int .i64 0, .int .i64 0, .int .i64 0])) (n * 4), size_madeCells _ _, fun W => ?_⟩
  have h := run_make (P := Try.prog) W 24 38 i _ Try.underlying24 hi hz .i64 .i64 n n (by omega) (Int.le_refl _) (by rw [hb]; omega) (by omega)
  simp only [Int.toNat_natCast, hs] at h
  exact h
/-- The copy, j records done. -/
structure CopiedFm (g : Nat) (l : List Fm) (j : Nat) (W : World) : Prop where
  ex : ∃ cs : Array Value, Blk W g 38 cs ∧ cs.size = l.length * 4 ∧ ∀ i q, i < j → q < 4 → cs[i * 4 + q]? = (qC (qel l i))[q]?
theorem CopiedFm.start {g : Nat} {l : List Fm} {W : World} {cs : Array Value} (h : Blk W g 38 cs) (hs : cs.size = l.length * 4) : CopiedFm g l 0 W :=
  ⟨⟨cs, h, hs, fun i q hi => absurd hi (by omega)⟩⟩
theorem CopiedFm.step {g j : Nat} {l : List Fm} {W W' : World} (h : CopiedFm g l j W) (hj : j < l.length) (hb : Below W.heap.size W W') : CopiedFm g l (j + 1) ((((W'.setCell ⟨g, j * 4, none⟩ (.int .i64 (qel l j).k)).setCell ⟨g, j * 4 + 1, none⟩ (.int .i64 (qel l j).y)).setCell ⟨g, j * 4 + 2, none⟩ (.int .i64 (qel l j).t)).setCell ⟨g, j * 4 + 3, none⟩ (.int .i64 (qel l j).v)) := by
  obtain ⟨cs, hB, hs, hc⟩ := h.ex
  refine ⟨⟨_, (((((hB.below hb).put_ (j * 4) _).put_ (j * 4 + 1) _).put_ (j * 4 + 2) _).put_ (j * 4 + 3) _), by simpa using hs, fun i q hi hq => ?_⟩⟩
  by_cases he : i = j
  · subst he
    have h5 : q = 0 ∨ q = 1 ∨ q = 2 ∨ q = 3 := by omega
    rcases h5 with rfl | rfl | rfl | rfl
    all_goals
      simp [Array.getElem?_setIfInBounds, qC]
      try omega
  · have h0 := hc i q (by omega) hq
    rw [Array.getElem?_setIfInBounds_ne (by omega), Array.getElem?_setIfInBounds_ne (by omega), Array.getElem?_setIfInBounds_ne (by omega), Array.getElem?_setIfInBounds_ne (by omega)]
    exact h0
theorem CopiedFm.owns {g lo : Nat} {l : List Fm} {W : World} (h : CopiedFm g l l.length W) (hl : l.length ≤ 1048576) (hlo : lo ≤ g) : W.ownsRow lo 38 4 (.slice (some ⟨g, 0, none⟩) l.length l.length) l.length (flatQ l) := by
  obtain ⟨cs, hB, hs, hc⟩ := h.ex
  refine ⟨flatQ_len l, .inr ⟨g, l.length, cs, rfl, hlo, hB, Nat.le_refl _, by unfold maxLen; omega, hs, ?_⟩⟩
  have hl2 : cs.toList.length = l.length * 4 := by rw [Array.length_toList, hs]
  rw [List.take_of_length_le (by omega)]
  refine List.ext_getElem? fun m => ?_
  by_cases hm : m < l.length * 4
  · have h1 := hc (m / 4) (m % 4) (by omega) (by omega)
    have h2 := flatR_at qC 4 qD qC_len l (m / 4) (m % 4) (by omega) (by omega)
    have e1 : m / 4 * 4 + m % 4 = m := by omega
    rw [e1] at h1 h2
    rw [Array.getElem?_toList, h1]
    exact h2.symm
  · rw [List.getElem?_eq_none (by omega), List.getElem?_eq_none (by rw [flatQ_len]; omega)]
set_option maxHeartbeats 1000000 in
set_option maxRecDepth 100000 in
theorem toFrameS_any (a : Option Addr) (n c : Nat) (l : List Fm) (hi : Nat) (w : World) (hr : Fms w hi a c l) (hn : n = l.length) (hB : hi ≤ w.heap.size) (hlen : l.length ≤ 1048576) :
    Calls Try.prog 24 #[.slice a n c] w (FreshR qC 38 4 l w) := by
  subst hn
  obtain ⟨CS, hcs, hmk⟩ := run_make_Fm l.length hlen
  have hc1 := hr.cap
  have hc2 := hr.big
  have HR := Lib.hid hr
  have C0 := Lib.hid (CopiedFm.start (Blk.new w 38 CS) hcs)
  have B0 := Lib.hid ((Below.refl w.heap.size w).alloc (Nat.le_refl _) (.cells CS 38))
  clear hr hcs
  go_enter Try.func24, Try.ntmps24
  go_wp2
  go_loopw [4] (fun i wr => ∃ j : Nat, j ≤ l.length ∧ i = .int .i64 j ∧ CopiedFm w.heap.size l j wr ∧ Below w.heap.size w wr) (fun i _ => l.length - (intOf i).toNat)
  case atStart => exact ⟨0, Nat.zero_le _, rfl, C0.out, B0.out⟩
  case round =>
    obtain ⟨j, hj, rfl, hcp, hb⟩ := hrel
    have hsz := hb.size
    have HB := Lib.hid hb
    have HC := Lib.hid hcp
    by_cases hlt : j < l.length
    · obtain ⟨b, off, rfl, hbh, hcell⟩ := Fms.six (HR.out.below (hb.mono hB)) (by omega)
      obtain ⟨q0, q1, q2, q3⟩ := hcell j hlt
      have HST := Lib.hid (fun (W' : World) hb => hcp.step (W' := W') hlt hb)
      have hlt' : (j : Int) < (l.length : Int) := by omega
      clear hcell hb hcp
      generalize qel l j = S at q0 q1 q2 q3 HST
      obtain ⟨k, y, t, v⟩ := S
      simp only at q0 q1 q2 q3 HST
      have HTS := Lib.hid (fun W => toFrame_x k y t v W)
      go_wp2_with fail
      refine (HTS.out _).mono ?_
      rintro e w3 ⟨rfl, hb3⟩
      have HS3 := Lib.hid (HST.out w3 hb3)
      have HB3 := Lib.hid (HB.out.trans (hb3.mono hsz))
      have s3 := hb3.size
      have hfz : ∀ i, w3.frozen? ⟨w.heap.size, i, none⟩ = false := by
        obtain ⟨cs, hBk, hs_, _⟩ := HC.out.ex
        exact (hBk.below hb3).frozen
      have hcl : ∀ q, q < 4 → ∃ v, w3.cell? ⟨w.heap.size, j * 4 + q, none⟩ = some v := fun q hq => by
        obtain ⟨cs, hBk, hs_, _⟩ := HC.out.ex
        rw [(hBk.below hb3).cell]
        exact ⟨cs[j * 4 + q]'(by omega), by rw [Array.getElem?_eq_getElem]⟩
      obtain ⟨v0, c0⟩ := hcl 0 (by omega)
      obtain ⟨v1, c1⟩ := hcl 1 (by omega)
      obtain ⟨v2, c2⟩ := hcl 2 (by omega)
      obtain ⟨v3, c3⟩ := hcl 3 (by omega)
      rw [Nat.add_zero] at c0
      clear hb3 hcl q0 q1 q2 q3
      go_wp2
      go_roundw
      case rel => exact ⟨j + 1, by omega, by go_num, HS3.out, ((((HB3.out.setCell (p := ⟨w.heap.size, j * 4, none⟩) (Nat.le_refl _) _).setCell (p := ⟨w.heap.size, j * 4 + 1, none⟩) (Nat.le_refl _) _).setCell (p := ⟨w.heap.size, j * 4 + 2, none⟩) (Nat.le_refl _) _).setCell (p := ⟨w.heap.size, j * 4 + 3, none⟩) (Nat.le_refl _) _)⟩
      case measure => simp [intOf]; omega
    · obtain rfl : j = l.length := by omega
      have HP : Hid (FreshR qC 38 4 l w (.returned (.slice (some ⟨w.heap.size, 0, none⟩) l.length l.length)) wr) := ⟨_, _, rfl, hcp.owns hlen (Nat.le_refl _), hb⟩
      clear hcp hb
      go_wp2
      go_ret
      exact HP.out
set_option maxHeartbeats 1000000 in
set_option maxRecDepth 100000 in
theorem eqFrameS_any (a b : Option Addr) (n m ca cb : Nat) (l : List Fm) (ha hb : Nat) (w : World) (h1 : Fms w ha a ca l) (h2 : Fms w hb b cb l) (hn : n = l.length) (hm : m = l.length) (hB1 : ha ≤ w.heap.size) (hB2 : hb ≤ w.heap.size) :
    Calls Try.prog 26 #[.slice a n ca, .slice b m cb] w fun e w' => e = .returned (.bool true) ∧ Below w.heap.size w w' := by
  subst hn
  subst hm
  have hc1 := h1.cap
  have hc2 := h1.big
  have hc3 := h2.cap
  have hc4 := h2.big
  have H1 := Lib.hid h1
  have H2 := Lib.hid h2
  clear h1 h2
  go_enter Try.func26, Try.ntmps26
  go_wp2
  go_loopw [5] (fun i wr => ∃ j : Nat, j ≤ l.length ∧ i = .int .i64 j ∧ Below w.heap.size w wr) (fun i _ => l.length - (intOf i).toNat)
  case atStart => exact ⟨0, Nat.zero_le _, rfl, Below.refl _ _⟩
  case round =>
    obtain ⟨j, hj, rfl, hbw⟩ := hrel
    have hsz := hbw.size
    have HB := Lib.hid hbw
    by_cases hlt : j < l.length
    · obtain ⟨b1, off1, rfl, _, hcell1⟩ := Fms.six (H1.out.below (hbw.mono hB1)) (by omega)
      obtain ⟨b2, off2, rfl, _, hcell2⟩ := Fms.six (H2.out.below (hbw.mono hB2)) (by omega)
      obtain ⟨p0, p1, p2, p3⟩ := hcell1 j hlt
      obtain ⟨q0, q1, q2, q3⟩ := hcell2 j hlt
      have hlt' : (j : Int) < (l.length : Int) := by omega
      clear hcell1 hcell2 hbw
      generalize qel l j = S at p0 p1 p2 p3 q0 q1 q2 q3
      obtain ⟨k, y, t, v⟩ := S
      simp only at p0 p1 p2 p3 q0 q1 q2 q3
      go_wp2_with fail
      go_region_with (go_at_call 74; refine (eqFrame_x k y t v _).mono ?_; rintro e w3 ⟨rfl, hb⟩; have HB3 := Lib.hid ((HB.out.drew).trans (hb.mono hsz)); clear hb)
      all_goals
        clear p0 p1 p2 p3 q0 q1 q2 q3
        go_wp2
        go_roundw
        case rel => exact ⟨j + 1, by omega, by go_num, HB3.out⟩
        case measure => simp [intOf]; omega
    · obtain rfl : j = l.length := by omega
      clear hbw
      go_wp2
      go_ret
      exact ⟨rfl, HB.out⟩
/-- The marks of n records from m on. -/
def markQ (m i : Nat) : Fm := ⟨((m + 4 * i : Nat) : Int), ((m + 4 * i + 1 : Nat) : Int), ((m + 4 * i + 2 : Nat) : Int), ((m + 4 * i + 3 : Nat) : Int)⟩
def marksQ (m n : Nat) : List Fm := (List.range n).map (markQ m)
theorem marksQ_len (m n : Nat) : (marksQ m n).length = n := by simp [marksQ]
theorem marksQ_at (m n i : Nat) (hi : i < n) : qel (marksQ m n) i = markQ m i := by simp [marksQ, qel, rel, List.getD, hi]
def markToQ (m : Nat) (l : List Fm) (j : Nat) : List Fm := marksQ m j ++ l.drop j
theorem markToQ_zero (m : Nat) (l : List Fm) : markToQ m l 0 = l := by simp [markToQ, marksQ]
theorem markToQ_len (m : Nat) (l : List Fm) (j : Nat) (hj : j ≤ l.length) : (markToQ m l j).length = l.length := by simp [markToQ, marksQ_len]; omega
theorem markToQ_all (m : Nat) (l : List Fm) : markToQ m l l.length = marksQ m l.length := by simp [markToQ]
theorem markToQ_step (m : Nat) (l : List Fm) (j : Nat) (hj : j < l.length) : (((((flatQ (markToQ m l j)).set (j * 4) (.int .i64 ((m + 4 * j : Nat) : Int))).set (j * 4 + 1) (.int .i64 ((m + 4 * j + 1 : Nat) : Int))).set (j * 4 + 2) (.int .i64 ((m + 4 * j + 2 : Nat) : Int))).set (j * 4 + 3) (.int .i64 ((m + 4 * j + 3 : Nat) : Int))) = flatQ (markToQ m l (j + 1)) := by
  have e1 : marksQ m (j + 1) = marksQ m j ++ [markQ m j] := by simp [marksQ, List.range_succ]
  have e2 : l.drop j = qel l j :: l.drop (j + 1) := rel_drop qD hj
  have hl : (flatQ (marksQ m j)).length = j * 4 := by rw [flatQ_len, marksQ_len]
  unfold markToQ
  rw [e1, e2, flatQ_append, flatQ_append, flatQ_append]
  have e3 : ∀ (f : Fm) (r : List Fm), flatQ (f :: r) = qC f ++ flatQ r := fun _ _ => rfl
  have e4 : ∀ (f : Fm), flatQ [f] = qC f := fun f => by simp [flatQ, flatR]
  rw [e3, e4]
  rw [List.set_append_right _ _ (by omega), List.set_append_right _ _ (by omega), List.set_append_right _ _ (by omega), List.set_append_right _ _ (by omega), hl]
  have i0 : j * 4 - j * 4 = 0 := by omega
  have i1 : j * 4 + 1 - j * 4 = 1 := by omega
  have i2 : j * 4 + 2 - j * 4 = 2 := by omega
  have i3 : j * 4 + 3 - j * 4 = 3 := by omega
  rw [i0, i1, i2, i3]
  simp [qC, markQ]
set_option maxRecDepth 100000 in
set_option maxHeartbeats 2000000 in
theorem markFrameS_m (a : Option Addr) (n c m : Nat) (M : Int) (l : List Fm) (lo : Nat) (w : World) (hr : w.ownsRow lo 38 4 (.slice a n c) n (flatQ l)) (hM : M = (m : Int)) (hn : n = l.length) (hlo : lo ≤ w.heap.size) (hlen : n ≤ 1048576) (hm : m ≤ 1073741824) :
    Calls Try.prog 27 #[.slice a n c, .int .i64 M] w fun e w' => e = .returned (.int .i64 (M + 4 * (n : Int))) ∧ MarkedR 38 4 lo a c n (flatQ (marksQ m n)) w w' := by
  subst hM
  subst hn
  have hc := ownR_cap hr
  have HR := Lib.hid hr
  clear hr
  go_enter Try.func27, Try.ntmps27
  go_wp2
  go_loopw [1, 5] (fun k i wr => ∃ j : Nat, j ≤ l.length ∧ i = .int .i64 j ∧ k = .int .i64 ((m : Int) + 4 * (j : Int)) ∧ wr.ownsRow lo 38 4 (.slice a l.length c) l.length (flatQ (markToQ m l j)) ∧ w.grownBy wr (Value.slice a l.length c).ownBlock) (fun _ i _ => l.length - (intOf i).toNat)
  case atStart => exact ⟨0, Nat.zero_le _, rfl, by simp, by rw [markToQ_zero]; exact HR.out, World.grownBy.refl _ _⟩
  case round =>
    obtain ⟨j, hj, rfl, rfl, hown, hg⟩ := hrel
    by_cases hlt : j < l.length
    · obtain ⟨g, rfl, _, _⟩ := ownR_block hown (by omega)
      have e0 : ((m + 4 * j : Nat) : Int) = (m : Int) + 4 * (j : Int) := by omega
      have e1 : ((m + 4 * j + 1 : Nat) : Int) = (m : Int) + 4 * (j : Int) + 1 := by omega
      have e2 : ((m + 4 * j + 2 : Nat) : Int) = (m : Int) + 4 * (j : Int) + 1 + 1 := by omega
      have e3 : ((m + 4 * j + 3 : Nat) : Int) = (m : Int) + 4 * (j : Int) + 1 + 1 + 1 := by omega
      have hstep := markToQ_step m l j hlt
      rw [e0, e1, e2, e3] at hstep
      have hll := flatQ_len (markToQ m l j)
      rw [markToQ_len m l j hj] at hll
      have s0 := hown.stored (j * 4) (.int .i64 ((m : Int) + 4 * (j : Int)))
      have s1 := s0.1.stored (j * 4 + 1) (.int .i64 ((m : Int) + 4 * (j : Int) + 1))
      have s2 := s1.1.stored (j * 4 + 2) (.int .i64 ((m : Int) + 4 * (j : Int) + 1 + 1))
      have s3 := s2.1.stored (j * 4 + 3) (.int .i64 ((m : Int) + 4 * (j : Int) + 1 + 1 + 1))
      rw [hstep] at s3
      obtain ⟨u0, c0⟩ : ∃ u, wr.cell? ⟨g, j * 4, none⟩ = some u := ⟨_, (hown.cellAt (j * 4) (by omega)).trans (List.getElem?_eq_getElem (by omega))⟩
      obtain ⟨u1, c1⟩ : ∃ u, (wr.setCell ⟨g, j * 4, none⟩ (.int .i64 ((m : Int) + 4 * (j : Int)))).cell? ⟨g, j * 4 + 1, none⟩ = some u := ⟨_, (s0.1.cellAt (j * 4 + 1) (by omega)).trans (List.getElem?_eq_getElem (by rw [List.length_set]; omega))⟩
      obtain ⟨u2, c2⟩ : ∃ u, ((wr.setCell ⟨g, j * 4, none⟩ (.int .i64 ((m : Int) + 4 * (j : Int)))).setCell ⟨g, j * 4 + 1, none⟩ (.int .i64 ((m : Int) + 4 * (j : Int) + 1))).cell? ⟨g, j * 4 + 2, none⟩ = some u := ⟨_, (s1.1.cellAt (j * 4 + 2) (by omega)).trans (List.getElem?_eq_getElem (by rw [List.length_set, List.length_set]; omega))⟩
      obtain ⟨u3, c3⟩ : ∃ u, (((wr.setCell ⟨g, j * 4, none⟩ (.int .i64 ((m : Int) + 4 * (j : Int)))).setCell ⟨g, j * 4 + 1, none⟩ (.int .i64 ((m : Int) + 4 * (j : Int) + 1))).setCell ⟨g, j * 4 + 2, none⟩ (.int .i64 ((m : Int) + 4 * (j : Int) + 1 + 1))).cell? ⟨g, j * 4 + 3, none⟩ = some u := ⟨_, (s2.1.cellAt (j * 4 + 3) (by omega)).trans (List.getElem?_eq_getElem (by rw [List.length_set, List.length_set, List.length_set]; omega))⟩
      have f0 := hown.frozenAt (j * 4)
      have f1 := s0.1.frozenAt (j * 4 + 1)
      have f2 := s1.1.frozenAt (j * 4 + 2)
      have f3 := s2.1.frozenAt (j * 4 + 3)
      have G0 := Lib.hid (grown_trans (grown_trans (grown_trans (grown_trans hg s0.2) s1.2) s2.2) s3.2)
      have S3 := Lib.hid s3.1
      clear hstep hll s0 s1 s2 s3 hown hg e0 e1 e2 e3
      go_wp2
      go_roundw
      case rel => exact ⟨j + 1, by omega, by go_num, by go_num, S3.out, G0.out⟩
      case measure => simp [intOf]; omega
    · obtain rfl : j = l.length := by omega
      rw [markToQ_all] at hown
      have HO := Lib.hid hown
      have HG := Lib.hid hg
      have HP : Hid (MarkedR 38 4 lo a c l.length (flatQ (marksQ m l.length)) w wr) := ⟨HO.out, ⟨HG.out.os, HG.out.tape, HG.out.output, HG.out.size, fun k hk => HG.out.block k (by omega) (fun e => by have := (HO.out.lt k e.symm).1; omega)⟩, HG.out⟩
      clear hown hg
      go_wp2
      go_ret
      exact ⟨rfl, HP.out⟩
set_option maxRecDepth 100000 in
set_option maxHeartbeats 2000000 in
theorem heldFrameS_m (a : Option Addr) (n c m : Nat) (M : Int) (hi : Nat) (w : World) (hr : Fms w hi a c (marksQ m n)) (hM : M = (m : Int)) (hlen : n ≤ 1048576) (hm : m ≤ 1073741824) :
    Calls Try.prog 80 #[.slice a n c, .int .i64 M] w fun e w' => e = .returned (.int .i64 (M + 4 * (n : Int))) ∧ Below w.heap.size w w' := by
  subst hM
  have hc1 := hr.cap
  have hc2 := hr.big
  rw [marksQ_len] at hc1
  have HR := Lib.hid hr
  clear hr
  go_enter Try.func80, Try.ntmps80
  go_wp2
  go_loop [1, 5] (fun k i => ∃ j : Nat, j ≤ n ∧ i = .int .i64 j ∧ k = .int .i64 ((m : Int) + 4 * (j : Int))) (fun _ i => n - (intOf i).toNat)
  case atStart => exact ⟨0, Nat.zero_le _, rfl, by simp⟩
  case round =>
    obtain ⟨j, hj, rfl, rfl⟩ := hrel
    by_cases hlt : j < n
    · obtain ⟨b, off, rfl, _, hcell⟩ := Fms.six HR.out (by rw [marksQ_len]; omega)
      obtain ⟨z0, z1, z2, z3⟩ := hcell j (by rw [marksQ_len]; exact hlt)
      rw [marksQ_at m n j hlt] at z0 z1 z2 z3
      have e0 : (markQ m j).k = (m : Int) + 4 * (j : Int) := by simp [markQ]
      have e1 : (markQ m j).y = (m : Int) + 4 * (j : Int) + 1 := by simp [markQ]
      have e2 : (markQ m j).t = (m : Int) + 4 * (j : Int) + 1 + 1 := by simp [markQ]; omega
      have e3 : (markQ m j).v = (m : Int) + 4 * (j : Int) + 1 + 1 + 1 := by simp [markQ]; omega
      rw [e0] at z0
      rw [e1] at z1
      rw [e2] at z2
      rw [e3] at z3
      have d0 : (((m : Int) + 4 * (j : Int)) != ((m : Int) + 4 * (j : Int))) = false := by simp
      have d1 : (((m : Int) + 4 * (j : Int) + 1) != ((m : Int) + 4 * (j : Int) + 1)) = false := by simp
      have d2 : (((m : Int) + 4 * (j : Int) + 1 + 1) != ((m : Int) + 4 * (j : Int) + 1 + 1)) = false := by simp
      have d3 : (((m : Int) + 4 * (j : Int) + 1 + 1 + 1) != ((m : Int) + 4 * (j : Int) + 1 + 1 + 1)) = false := by simp
      clear hcell e0 e1 e2 e3
      go_wp2
      go_round
      case rel => exact ⟨j + 1, by omega, by go_num, by go_num⟩
      case measure => simp [intOf]; omega
    · obtain rfl : j = n := by omega
      go_wp2
      go_ret
      exact ⟨rfl, Below.refl _ _⟩
end Go.Proofs.Ytneolndbhklboaa
