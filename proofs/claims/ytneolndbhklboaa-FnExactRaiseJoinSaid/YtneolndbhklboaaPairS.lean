/- Rows of Pair: the record, and the contracts of the laws' own helpers over it (made by mkrows.py). -/
import Derived.Test.YtneolndbhklboaaProg
import Derived.Test.YtneolndbhklboaaRecs
import Derived.WalkKit
import Derived.WalkSpells
import Derived.ProofKit
import Derived.Lib.Hide
import Derived.Outline
import Derived.Laws.MakeOwn
import Derived.Laws.OwnMore
import Derived.Deep.RegionWith
namespace Go.Proofs.Ytneolndbhklboaa
open Go.RowKit

structure Pr where
  ky : Int
  lt : Int
  rt : Int
  lv : Int
  rv : Int
deriving DecidableEq
def gD : Pr := ⟨0, 0, 0, 0, 0⟩
def gC (S : Pr) : List Value := [.int .i64 S.ky, .int .i64 S.lt, .int .i64 S.rt, .int .i64 S.lv, .int .i64 S.rv]
theorem gC_len (S : Pr) : (gC S).length = 5 := rfl
/-- The record at i. -/
def gel (l : List Pr) (i : Nat) : Pr := rel gD l i
def flatG (l : List Pr) : List Value := flatR gC l
theorem flatG_len (l : List Pr) : (flatG l).length = l.length * 5 := flatR_len gC 5 gC_len l
theorem flatG_append (l m : List Pr) : flatG (l ++ m) = flatG l ++ flatG m := flatR_append gC l m
theorem gel_take {l : List Pr} {i : Nat} (hi : i < l.length) : l.take (i + 1) = l.take i ++ [gel l i] := rel_take gD hi
/-- A slice of records, all below block hi, reads as l. -/
abbrev Prs (w : World) (hi : Nat) (a : Option Addr) (c : Nat) (l : List Pr) : Prop := Recs gC 5 gD w hi a c l
theorem Prs.six {w : World} {hi c : Nat} {a : Option Addr} {l : List Pr} (h : Prs w hi a c l) (hne : 0 < l.length) : ∃ b off, a = some ⟨b, off, none⟩ ∧ b < hi ∧ ∀ i, i < l.length → w.cell? ⟨b, off + i * 5, none⟩ = some (.int .i64 (gel l i).ky) ∧ w.cell? ⟨b, off + i * 5 + 1, none⟩ = some (.int .i64 (gel l i).lt) ∧ w.cell? ⟨b, off + i * 5 + 2, none⟩ = some (.int .i64 (gel l i).rt) ∧ w.cell? ⟨b, off + i * 5 + 3, none⟩ = some (.int .i64 (gel l i).lv) ∧ w.cell? ⟨b, off + i * 5 + 4, none⟩ = some (.int .i64 (gel l i).rv) := by
  obtain ⟨b, off, ha, hlt, hc⟩ := h.cells hne
  exact ⟨b, off, ha, hlt, fun i hi => ⟨hc i hi 0 (by omega), hc i hi 1 (by omega), hc i hi 2 (by omega), hc i hi 3 (by omega), hc i hi 4 (by omega)⟩⟩
theorem Prs.of_own {w : World} {T : TypeId} {lo n c : Nat} {a : Option Addr} {l : List Pr} (h : w.ownsRow lo T 5 (.slice a n c) n (flatG l)) : Prs w w.heap.size a c l := Recs.of_own gC_len (by omega) h
theorem Rw.gs {w : World} {T : TypeId} {lo up n c : Nat} {a : Option Addr} {l : List Pr} (h : Rw T 5 lo up a n c (flatG l) w) : Prs w w.heap.size a c l := Prs.of_own h.own
theorem Rw.glen {w : World} {T : TypeId} {lo up n c : Nat} {a : Option Addr} {l : List Pr} (h : Rw T 5 lo up a n c (flatG l) w) : n = l.length := ownR_len gC_len (by omega) h.own
theorem own_pr {w : World} {lo g n c : Nat} {T : TypeId} {l : List Pr} (h : w.ownsRow lo T 5 (.slice (some ⟨g, 0, none⟩) n c) n (flatG l)) (j : Nat) (hj : j < l.length) : w.cell? ⟨g, j * 5, none⟩ = some (.int .i64 (gel l j).ky) ∧ w.cell? ⟨g, j * 5 + 1, none⟩ = some (.int .i64 (gel l j).lt) ∧ w.cell? ⟨g, j * 5 + 2, none⟩ = some (.int .i64 (gel l j).rt) ∧ w.cell? ⟨g, j * 5 + 3, none⟩ = some (.int .i64 (gel l j).lv) ∧ w.cell? ⟨g, j * 5 + 4, none⟩ = some (.int .i64 (gel l j).rv) := by
  have hf := fun q hq => flatR_at gC 5 gD gC_len l j q hj hq
  have hn : n = l.length := ownR_len gC_len (by omega) h
  exact ⟨(h.cellAt (j * 5) (by omega)).trans (hf 0 (by omega)), (h.cellAt (j * 5 + 1) (by omega)).trans (hf 1 (by omega)), (h.cellAt (j * 5 + 2) (by omega)).trans (hf 2 (by omega)), (h.cellAt (j * 5 + 3) (by omega)).trans (hf 3 (by omega)), (h.cellAt (j * 5 + 4) (by omega)).trans (hf 4 (by omega))⟩

theorem toPair_x (ky lt rt lv rv : Int) (w : World) : Calls Try.prog 36 #[(.agg #[.int .i64 ky, .int .i64 lt, .int .i64 rt, .int .i64 lv, .int .i64 rv])] w fun e w' => e = .returned (.agg #[.int .i64 ky, .int .i64 lt, .int .i64 rt, .int .i64 lv, .int .i64 rv]) ∧ Below w.heap.size w w' := by
  have BB := Lib.hid fun v0 v1 v2 v3 v4 : Value => ((((Below.refl w.heap.size w).alloc (Nat.le_refl _) (.cells #[.int .i64 ky, .int .i64 lt, .int .i64 rt, .int .i64 lv, .int .i64 rv] 51)).alloc (by simp) (.cells #[.int .i64 0, .int .i64 0, .int .i64 0, .int .i64 0, .int .i64 0] 53)).alloc (by simp; omega) (.cells #[v0, v1, v2, v3, v4] 53))
  go_enter Try.func36, Try.ntmps36
  go_wp2
  exact bodyPost_ret (v := (.agg #[.int .i64 ky, .int .i64 lt, .int .i64 rt, .int .i64 lv, .int .i64 rv])) (by simp [results, Try.results36, go_sem]) rfl ⟨rfl, (((Below.refl _ _).alloc (Nat.le_refl _) _).alloc (by simp) _).alloc (by simp; omega) _⟩
theorem eqPair_x (ky lt rt lv rv : Int) (w : World) : Calls Try.prog 73 #[(.agg #[.int .i64 ky, .int .i64 lt, .int .i64 rt, .int .i64 lv, .int .i64 rv]), (.agg #[.int .i64 ky, .int .i64 lt, .int .i64 rt, .int .i64 lv, .int .i64 rv])] w fun e w' => e = .returned (.bool true) ∧ Below w.heap.size w w' := by
  have BB := Lib.hid (((Below.refl w.heap.size w).alloc (Nat.le_refl _) (.cells #[.int .i64 ky, .int .i64 lt, .int .i64 rt, .int .i64 lv, .int .i64 rv] 53)).alloc (by simp) (.cells #[.int .i64 ky, .int .i64 lt, .int .i64 rt, .int .i64 lv, .int .i64 rv] 53))
  have hky : (ky != ky) = false := by simp
  have hlt : (lt != lt) = false := by simp
  have hrt : (rt != rt) = false := by simp
  have hlv : (lv != lv) = false := by simp
  have hrv : (rv != rv) = false := by simp
  go_enter Try.func73, Try.ntmps73
  go_wp2
  go_ret
  exact ⟨rfl, BB.out⟩
theorem szPairS_any (a : Option Addr) (n c : Nat) (w : World) (hn : n ≤ 9223372036854775807) :
    Calls Try.prog 38 #[.slice a n c, .int .i64 1048576] w fun e w' => e = .returned (.int .i64 (if (1048576 : Int) - (n : Int) < 0 then -1 else 1048576 - (n : Int))) ∧ w = w' := by
  by_cases h : (1048576 : Int) - (n : Int) < 0
  · rw [if_pos h]
    go_enter Try.func38, Try.ntmps38
    go_wp2
    go_ret
    exact ⟨rfl, rfl⟩
  · rw [if_neg h]
    go_enter Try.func38, Try.ntmps38
    go_wp2
    go_ret
    exact ⟨rfl, rfl⟩
theorem infoPair : (Try.prog.info? 53).map (fun i => (i.zero, i.size, i.bytes)) = some (some (.agg #[.int .i64 0, .int .i64 0, .int .i64 0, .int .i64 0, .int .i64 0]), 5, 40) := by kernel_rfl
theorem run_make_Pr (n : Nat) (hn : n ≤ 1048576) : ∃ CS : Array Value, CS.size = n * 5 ∧ ∀ W : World, (Instr.makeSlice 30 (.int .i64 (n : Int)) (.int .i64 (n : Int))).run Try.prog W = .ok (.slice (some ⟨W.heap.size, 0, none⟩) n n) (W.alloc (.cells CS 53)) := by
  obtain ⟨i, hi, hzz⟩ := Option.map_eq_some_iff.1 infoPair
  simp only [Prod.mk.injEq] at hzz
  obtain ⟨hz, hs, hb⟩ := hzz
  refine ⟨madeCells (Value.cells (.agg #[.int .i64 0, .int .i64 0, .int .i64 0, .int .i64 0, .int .i64 0])) (n * 5), size_madeCells _ _, fun W => ?_⟩
  have h := run_make (P := Try.prog) W 30 53 i _ Try.underlying30 hi hz .i64 .i64 n n (by omega) (Int.le_refl _) (by rw [hb]; omega) (by omega)
  simp only [Int.toNat_natCast, hs] at h
  exact h
/-- The copy, j records done. -/
structure CopiedPr (g : Nat) (l : List Pr) (j : Nat) (W : World) : Prop where
  ex : ∃ cs : Array Value, Blk W g 53 cs ∧ cs.size = l.length * 5 ∧ ∀ i q, i < j → q < 5 → cs[i * 5 + q]? = (gC (gel l i))[q]?
theorem CopiedPr.start {g : Nat} {l : List Pr} {W : World} {cs : Array Value} (h : Blk W g 53 cs) (hs : cs.size = l.length * 5) : CopiedPr g l 0 W :=
  ⟨⟨cs, h, hs, fun i q hi => absurd hi (by omega)⟩⟩
theorem CopiedPr.step {g j : Nat} {l : List Pr} {W W' : World} (h : CopiedPr g l j W) (hj : j < l.length) (hb : Below W.heap.size W W') : CopiedPr g l (j + 1) (((((W'.setCell ⟨g, j * 5, none⟩ (.int .i64 (gel l j).ky)).setCell ⟨g, j * 5 + 1, none⟩ (.int .i64 (gel l j).lt)).setCell ⟨g, j * 5 + 2, none⟩ (.int .i64 (gel l j).rt)).setCell ⟨g, j * 5 + 3, none⟩ (.int .i64 (gel l j).lv)).setCell ⟨g, j * 5 + 4, none⟩ (.int .i64 (gel l j).rv)) := by
  obtain ⟨cs, hB, hs, hc⟩ := h.ex
  refine ⟨⟨_, ((((((hB.below hb).put_ (j * 5) _).put_ (j * 5 + 1) _).put_ (j * 5 + 2) _).put_ (j * 5 + 3) _).put_ (j * 5 + 4) _), by simpa using hs, fun i q hi hq => ?_⟩⟩
  by_cases he : i = j
  · subst he
    have h5 : q = 0 ∨ q = 1 ∨ q = 2 ∨ q = 3 ∨ q = 4 := by omega
    rcases h5 with rfl | rfl | rfl | rfl | rfl
    all_goals
      simp [Array.getElem?_setIfInBounds, gC]
      try omega
  · have h0 := hc i q (by omega) hq
    rw [Array.getElem?_setIfInBounds_ne (by omega), Array.getElem?_setIfInBounds_ne (by omega), Array.getElem?_setIfInBounds_ne (by omega), Array.getElem?_setIfInBounds_ne (by omega), Array.getElem?_setIfInBounds_ne (by omega)]
    exact h0
theorem CopiedPr.owns {g lo : Nat} {l : List Pr} {W : World} (h : CopiedPr g l l.length W) (hl : l.length ≤ 1048576) (hlo : lo ≤ g) : W.ownsRow lo 53 5 (.slice (some ⟨g, 0, none⟩) l.length l.length) l.length (flatG l) := by
  obtain ⟨cs, hB, hs, hc⟩ := h.ex
  refine ⟨flatG_len l, .inr ⟨g, l.length, cs, rfl, hlo, hB, Nat.le_refl _, by unfold maxLen; omega, hs, ?_⟩⟩
  have hl2 : cs.toList.length = l.length * 5 := by rw [Array.length_toList, hs]
  rw [List.take_of_length_le (by omega)]
  refine List.ext_getElem? fun m => ?_
  by_cases hm : m < l.length * 5
  · have h1 := hc (m / 5) (m % 5) (by omega) (by omega)
    have h2 := flatR_at gC 5 gD gC_len l (m / 5) (m % 5) (by omega) (by omega)
    have e1 : m / 5 * 5 + m % 5 = m := by omega
    rw [e1] at h1 h2
    rw [Array.getElem?_toList, h1]
    exact h2.symm
  · rw [List.getElem?_eq_none (by omega), List.getElem?_eq_none (by rw [flatG_len]; omega)]
set_option maxHeartbeats 1000000 in
set_option maxRecDepth 100000 in
theorem toPairS_any (a : Option Addr) (n c : Nat) (l : List Pr) (hi : Nat) (w : World) (hr : Prs w hi a c l) (hn : n = l.length) (hB : hi ≤ w.heap.size) (hlen : l.length ≤ 1048576) :
    Calls Try.prog 40 #[.slice a n c] w (FreshR gC 53 5 l w) := by
  subst hn
  obtain ⟨CS, hcs, hmk⟩ := run_make_Pr l.length hlen
  have hc1 := hr.cap
  have hc2 := hr.big
  have HR := Lib.hid hr
  have C0 := Lib.hid (CopiedPr.start (Blk.new w 53 CS) hcs)
  have B0 := Lib.hid ((Below.refl w.heap.size w).alloc (Nat.le_refl _) (.cells CS 53))
  clear hr hcs
  go_enter Try.func40, Try.ntmps40
  go_wp2
  go_loopw [4] (fun i wr => ∃ j : Nat, j ≤ l.length ∧ i = .int .i64 j ∧ CopiedPr w.heap.size l j wr ∧ Below w.heap.size w wr) (fun i _ => l.length - (intOf i).toNat)
  case atStart => exact ⟨0, Nat.zero_le _, rfl, C0.out, B0.out⟩
  case round =>
    obtain ⟨j, hj, rfl, hcp, hb⟩ := hrel
    have hsz := hb.size
    have HB := Lib.hid hb
    have HC := Lib.hid hcp
    by_cases hlt : j < l.length
    · obtain ⟨b, off, rfl, hbh, hcell⟩ := Prs.six (HR.out.below (hb.mono hB)) (by omega)
      obtain ⟨q0, q1, q2, q3, q4⟩ := hcell j hlt
      have HST := Lib.hid (fun (W' : World) hb => hcp.step (W' := W') hlt hb)
      have hlt' : (j : Int) < (l.length : Int) := by omega
      clear hcell hb hcp
      generalize gel l j = S at q0 q1 q2 q3 q4 HST
      obtain ⟨ky, lt, rt, lv, rv⟩ := S
      simp only at q0 q1 q2 q3 q4 HST
      have HTS := Lib.hid (fun W => toPair_x ky lt rt lv rv W)
      go_wp2_with fail
      refine (HTS.out _).mono ?_
      rintro e w3 ⟨rfl, hb3⟩
      have HS3 := Lib.hid (HST.out w3 hb3)
      have HB3 := Lib.hid (HB.out.trans (hb3.mono hsz))
      have s3 := hb3.size
      have hfz : ∀ i, w3.frozen? ⟨w.heap.size, i, none⟩ = false := by
        obtain ⟨cs, hBk, hs_, _⟩ := HC.out.ex
        exact (hBk.below hb3).frozen
      have hcl : ∀ q, q < 5 → ∃ v, w3.cell? ⟨w.heap.size, j * 5 + q, none⟩ = some v := fun q hq => by
        obtain ⟨cs, hBk, hs_, _⟩ := HC.out.ex
        rw [(hBk.below hb3).cell]
        exact ⟨cs[j * 5 + q]'(by omega), by rw [Array.getElem?_eq_getElem]⟩
      obtain ⟨v0, c0⟩ := hcl 0 (by omega)
      obtain ⟨v1, c1⟩ := hcl 1 (by omega)
      obtain ⟨v2, c2⟩ := hcl 2 (by omega)
      obtain ⟨v3, c3⟩ := hcl 3 (by omega)
      obtain ⟨v4, c4⟩ := hcl 4 (by omega)
      rw [Nat.add_zero] at c0
      clear hb3 hcl q0 q1 q2 q3 q4
      go_wp2
      go_roundw
      case rel => exact ⟨j + 1, by omega, by go_num, HS3.out, (((((HB3.out.setCell (p := ⟨w.heap.size, j * 5, none⟩) (Nat.le_refl _) _).setCell (p := ⟨w.heap.size, j * 5 + 1, none⟩) (Nat.le_refl _) _).setCell (p := ⟨w.heap.size, j * 5 + 2, none⟩) (Nat.le_refl _) _).setCell (p := ⟨w.heap.size, j * 5 + 3, none⟩) (Nat.le_refl _) _).setCell (p := ⟨w.heap.size, j * 5 + 4, none⟩) (Nat.le_refl _) _)⟩
      case measure => simp [intOf]; omega
    · obtain rfl : j = l.length := by omega
      have HP : Hid (FreshR gC 53 5 l w (.returned (.slice (some ⟨w.heap.size, 0, none⟩) l.length l.length)) wr) := ⟨_, _, rfl, hcp.owns hlen (Nat.le_refl _), hb⟩
      clear hcp hb
      go_wp2
      go_ret
      exact HP.out
set_option maxHeartbeats 1000000 in
set_option maxRecDepth 100000 in
theorem eqPairS_any (a b : Option Addr) (n m ca cb : Nat) (l : List Pr) (ha hb : Nat) (w : World) (h1 : Prs w ha a ca l) (h2 : Prs w hb b cb l) (hn : n = l.length) (hm : m = l.length) (hB1 : ha ≤ w.heap.size) (hB2 : hb ≤ w.heap.size) :
    Calls Try.prog 25 #[.slice a n ca, .slice b m cb] w fun e w' => e = .returned (.bool true) ∧ Below w.heap.size w w' := by
  subst hn
  subst hm
  have hc1 := h1.cap
  have hc2 := h1.big
  have hc3 := h2.cap
  have hc4 := h2.big
  have H1 := Lib.hid h1
  have H2 := Lib.hid h2
  clear h1 h2
  go_enter Try.func25, Try.ntmps25
  go_wp2
  go_loopw [5] (fun i wr => ∃ j : Nat, j ≤ l.length ∧ i = .int .i64 j ∧ Below w.heap.size w wr) (fun i _ => l.length - (intOf i).toNat)
  case atStart => exact ⟨0, Nat.zero_le _, rfl, Below.refl _ _⟩
  case round =>
    obtain ⟨j, hj, rfl, hbw⟩ := hrel
    have hsz := hbw.size
    have HB := Lib.hid hbw
    by_cases hlt : j < l.length
    · obtain ⟨b1, off1, rfl, _, hcell1⟩ := Prs.six (H1.out.below (hbw.mono hB1)) (by omega)
      obtain ⟨b2, off2, rfl, _, hcell2⟩ := Prs.six (H2.out.below (hbw.mono hB2)) (by omega)
      obtain ⟨p0, p1, p2, p3, p4⟩ := hcell1 j hlt
      obtain ⟨q0, q1, q2, q3, q4⟩ := hcell2 j hlt
      have hlt' : (j : Int) < (l.length : Int) := by omega
      clear hcell1 hcell2 hbw
      generalize gel l j = S at p0 p1 p2 p3 p4 q0 q1 q2 q3 q4
      obtain ⟨ky, lt, rt, lv, rv⟩ := S
      simp only at p0 p1 p2 p3 p4 q0 q1 q2 q3 q4
      go_wp2_with fail
      go_region_with (go_at_call 73; refine (eqPair_x ky lt rt lv rv _).mono ?_; rintro e w3 ⟨rfl, hb⟩; have HB3 := Lib.hid ((HB.out.drew).trans (hb.mono hsz)); clear hb)
      all_goals
        clear p0 p1 p2 p3 p4 q0 q1 q2 q3 q4
        go_wp2
        go_roundw
        case rel => exact ⟨j + 1, by omega, by go_num, HB3.out⟩
        case measure => simp [intOf]; omega
    · obtain rfl : j = l.length := by omega
      clear hbw
      go_wp2
      go_ret
      exact ⟨rfl, HB.out⟩
/-- The marks of n records from m on. -/
def markG (m i : Nat) : Pr := ⟨((m + 5 * i : Nat) : Int), ((m + 5 * i + 1 : Nat) : Int), ((m + 5 * i + 2 : Nat) : Int), ((m + 5 * i + 3 : Nat) : Int), ((m + 5 * i + 4 : Nat) : Int)⟩
def marksG (m n : Nat) : List Pr := (List.range n).map (markG m)
theorem marksG_len (m n : Nat) : (marksG m n).length = n := by simp [marksG]
theorem marksG_at (m n i : Nat) (hi : i < n) : gel (marksG m n) i = markG m i := by simp [marksG, gel, rel, List.getD, hi]
def markToG (m : Nat) (l : List Pr) (j : Nat) : List Pr := marksG m j ++ l.drop j
theorem markToG_zero (m : Nat) (l : List Pr) : markToG m l 0 = l := by simp [markToG, marksG]
theorem markToG_len (m : Nat) (l : List Pr) (j : Nat) (hj : j ≤ l.length) : (markToG m l j).length = l.length := by simp [markToG, marksG_len]; omega
theorem markToG_all (m : Nat) (l : List Pr) : markToG m l l.length = marksG m l.length := by simp [markToG]
theorem markToG_step (m : Nat) (l : List Pr) (j : Nat) (hj : j < l.length) : ((((((flatG (markToG m l j)).set (j * 5) (.int .i64 ((m + 5 * j : Nat) : Int))).set (j * 5 + 1) (.int .i64 ((m + 5 * j + 1 : Nat) : Int))).set (j * 5 + 2) (.int .i64 ((m + 5 * j + 2 : Nat) : Int))).set (j * 5 + 3) (.int .i64 ((m + 5 * j + 3 : Nat) : Int))).set (j * 5 + 4) (.int .i64 ((m + 5 * j + 4 : Nat) : Int))) = flatG (markToG m l (j + 1)) := by
  have e1 : marksG m (j + 1) = marksG m j ++ [markG m j] := by simp [marksG, List.range_succ]
  have e2 : l.drop j = gel l j :: l.drop (j + 1) := rel_drop gD hj
  have hl : (flatG (marksG m j)).length = j * 5 := by rw [flatG_len, marksG_len]
  unfold markToG
  rw [e1, e2, flatG_append, flatG_append, flatG_append]
  have e3 : ∀ (f : Pr) (r : List Pr), flatG (f :: r) = gC f ++ flatG r := fun _ _ => rfl
  have e4 : ∀ (f : Pr), flatG [f] = gC f := fun f => by simp [flatG, flatR]
  rw [e3, e4]
  rw [List.set_append_right _ _ (by omega), List.set_append_right _ _ (by omega), List.set_append_right _ _ (by omega), List.set_append_right _ _ (by omega), List.set_append_right _ _ (by omega), hl]
  have i0 : j * 5 - j * 5 = 0 := by omega
  have i1 : j * 5 + 1 - j * 5 = 1 := by omega
  have i2 : j * 5 + 2 - j * 5 = 2 := by omega
  have i3 : j * 5 + 3 - j * 5 = 3 := by omega
  have i4 : j * 5 + 4 - j * 5 = 4 := by omega
  rw [i0, i1, i2, i3, i4]
  simp [gC, markG]
set_option maxRecDepth 100000 in
set_option maxHeartbeats 2000000 in
theorem markPairS_m (a : Option Addr) (n c m : Nat) (M : Int) (l : List Pr) (lo : Nat) (w : World) (hr : w.ownsRow lo 53 5 (.slice a n c) n (flatG l)) (hM : M = (m : Int)) (hn : n = l.length) (hlo : lo ≤ w.heap.size) (hlen : n ≤ 1048576) (hm : m ≤ 1073741824) :
    Calls Try.prog 28 #[.slice a n c, .int .i64 M] w fun e w' => e = .returned (.int .i64 (M + 5 * (n : Int))) ∧ MarkedR 53 5 lo a c n (flatG (marksG m n)) w w' := by
  subst hM
  subst hn
  have hc := ownR_cap hr
  have HR := Lib.hid hr
  clear hr
  go_enter Try.func28, Try.ntmps28
  go_wp2
  go_loopw [1, 5] (fun k i wr => ∃ j : Nat, j ≤ l.length ∧ i = .int .i64 j ∧ k = .int .i64 ((m : Int) + 5 * (j : Int)) ∧ wr.ownsRow lo 53 5 (.slice a l.length c) l.length (flatG (markToG m l j)) ∧ w.grownBy wr (Value.slice a l.length c).ownBlock) (fun _ i _ => l.length - (intOf i).toNat)
  case atStart => exact ⟨0, Nat.zero_le _, rfl, by simp, by rw [markToG_zero]; exact HR.out, World.grownBy.refl _ _⟩
  case round =>
    obtain ⟨j, hj, rfl, rfl, hown, hg⟩ := hrel
    by_cases hlt : j < l.length
    · obtain ⟨g, rfl, _, _⟩ := ownR_block hown (by omega)
      have e0 : ((m + 5 * j : Nat) : Int) = (m : Int) + 5 * (j : Int) := by omega
      have e1 : ((m + 5 * j + 1 : Nat) : Int) = (m : Int) + 5 * (j : Int) + 1 := by omega
      have e2 : ((m + 5 * j + 2 : Nat) : Int) = (m : Int) + 5 * (j : Int) + 1 + 1 := by omega
      have e3 : ((m + 5 * j + 3 : Nat) : Int) = (m : Int) + 5 * (j : Int) + 1 + 1 + 1 := by omega
      have e4 : ((m + 5 * j + 4 : Nat) : Int) = (m : Int) + 5 * (j : Int) + 1 + 1 + 1 + 1 := by omega
      have hstep := markToG_step m l j hlt
      rw [e0, e1, e2, e3, e4] at hstep
      have hll := flatG_len (markToG m l j)
      rw [markToG_len m l j hj] at hll
      have s0 := hown.stored (j * 5) (.int .i64 ((m : Int) + 5 * (j : Int)))
      have s1 := s0.1.stored (j * 5 + 1) (.int .i64 ((m : Int) + 5 * (j : Int) + 1))
      have s2 := s1.1.stored (j * 5 + 2) (.int .i64 ((m : Int) + 5 * (j : Int) + 1 + 1))
      have s3 := s2.1.stored (j * 5 + 3) (.int .i64 ((m : Int) + 5 * (j : Int) + 1 + 1 + 1))
      have s4 := s3.1.stored (j * 5 + 4) (.int .i64 ((m : Int) + 5 * (j : Int) + 1 + 1 + 1 + 1))
      rw [hstep] at s4
      obtain ⟨u0, c0⟩ : ∃ u, wr.cell? ⟨g, j * 5, none⟩ = some u := ⟨_, (hown.cellAt (j * 5) (by omega)).trans (List.getElem?_eq_getElem (by omega))⟩
      obtain ⟨u1, c1⟩ : ∃ u, (wr.setCell ⟨g, j * 5, none⟩ (.int .i64 ((m : Int) + 5 * (j : Int)))).cell? ⟨g, j * 5 + 1, none⟩ = some u := ⟨_, (s0.1.cellAt (j * 5 + 1) (by omega)).trans (List.getElem?_eq_getElem (by rw [List.length_set]; omega))⟩
      obtain ⟨u2, c2⟩ : ∃ u, ((wr.setCell ⟨g, j * 5, none⟩ (.int .i64 ((m : Int) + 5 * (j : Int)))).setCell ⟨g, j * 5 + 1, none⟩ (.int .i64 ((m : Int) + 5 * (j : Int) + 1))).cell? ⟨g, j * 5 + 2, none⟩ = some u := ⟨_, (s1.1.cellAt (j * 5 + 2) (by omega)).trans (List.getElem?_eq_getElem (by rw [List.length_set, List.length_set]; omega))⟩
      obtain ⟨u3, c3⟩ : ∃ u, (((wr.setCell ⟨g, j * 5, none⟩ (.int .i64 ((m : Int) + 5 * (j : Int)))).setCell ⟨g, j * 5 + 1, none⟩ (.int .i64 ((m : Int) + 5 * (j : Int) + 1))).setCell ⟨g, j * 5 + 2, none⟩ (.int .i64 ((m : Int) + 5 * (j : Int) + 1 + 1))).cell? ⟨g, j * 5 + 3, none⟩ = some u := ⟨_, (s2.1.cellAt (j * 5 + 3) (by omega)).trans (List.getElem?_eq_getElem (by rw [List.length_set, List.length_set, List.length_set]; omega))⟩
      obtain ⟨u4, c4⟩ : ∃ u, ((((wr.setCell ⟨g, j * 5, none⟩ (.int .i64 ((m : Int) + 5 * (j : Int)))).setCell ⟨g, j * 5 + 1, none⟩ (.int .i64 ((m : Int) + 5 * (j : Int) + 1))).setCell ⟨g, j * 5 + 2, none⟩ (.int .i64 ((m : Int) + 5 * (j : Int) + 1 + 1))).setCell ⟨g, j * 5 + 3, none⟩ (.int .i64 ((m : Int) + 5 * (j : Int) + 1 + 1 + 1))).cell? ⟨g, j * 5 + 4, none⟩ = some u := ⟨_, (s3.1.cellAt (j * 5 + 4) (by omega)).trans (List.getElem?_eq_getElem (by rw [List.length_set, List.length_set, List.length_set, List.length_set]; omega))⟩
      have f0 := hown.frozenAt (j * 5)
      have f1 := s0.1.frozenAt (j * 5 + 1)
      have f2 := s1.1.frozenAt (j * 5 + 2)
      have f3 := s2.1.frozenAt (j * 5 + 3)
      have f4 := s3.1.frozenAt (j * 5 + 4)
      have G0 := Lib.hid (grown_trans (grown_trans (grown_trans (grown_trans (grown_trans hg s0.2) s1.2) s2.2) s3.2) s4.2)
      have S3 := Lib.hid s4.1
      clear hstep hll s0 s1 s2 s3 s4 hown hg e0 e1 e2 e3 e4
      go_wp2
      go_roundw
      case rel => exact ⟨j + 1, by omega, by go_num, by go_num, S3.out, G0.out⟩
      case measure => simp [intOf]; omega
    · obtain rfl : j = l.length := by omega
      rw [markToG_all] at hown
      have HO := Lib.hid hown
      have HG := Lib.hid hg
      have HP : Hid (MarkedR 53 5 lo a c l.length (flatG (marksG m l.length)) w wr) := ⟨HO.out, ⟨HG.out.os, HG.out.tape, HG.out.output, HG.out.size, fun k hk => HG.out.block k (by omega) (fun e => by have := (HO.out.lt k e.symm).1; omega)⟩, HG.out⟩
      clear hown hg
      go_wp2
      go_ret
      exact ⟨rfl, HP.out⟩
set_option maxRecDepth 100000 in
set_option maxHeartbeats 2000000 in
theorem heldPairS_m (a : Option Addr) (n c m : Nat) (M : Int) (hi : Nat) (w : World) (hr : Prs w hi a c (marksG m n)) (hM : M = (m : Int)) (hlen : n ≤ 1048576) (hm : m ≤ 1073741824) :
    Calls Try.prog 29 #[.slice a n c, .int .i64 M] w fun e w' => e = .returned (.int .i64 (M + 5 * (n : Int))) ∧ Below w.heap.size w w' := by
  subst hM
  have hc1 := hr.cap
  have hc2 := hr.big
  rw [marksG_len] at hc1
  have HR := Lib.hid hr
  clear hr
  go_enter Try.func29, Try.ntmps29
  go_wp2
  go_loop [1, 5] (fun k i => ∃ j : Nat, j ≤ n ∧ i = .int .i64 j ∧ k = .int .i64 ((m : Int) + 5 * (j : Int))) (fun _ i => n - (intOf i).toNat)
  case atStart => exact ⟨0, Nat.zero_le _, rfl, by simp⟩
  case round =>
    obtain ⟨j, hj, rfl, rfl⟩ := hrel
    by_cases hlt : j < n
    · obtain ⟨b, off, rfl, _, hcell⟩ := Prs.six HR.out (by rw [marksG_len]; omega)
      obtain ⟨z0, z1, z2, z3, z4⟩ := hcell j (by rw [marksG_len]; exact hlt)
      rw [marksG_at m n j hlt] at z0 z1 z2 z3 z4
      have e0 : (markG m j).ky = (m : Int) + 5 * (j : Int) := by simp [markG]
      have e1 : (markG m j).lt = (m : Int) + 5 * (j : Int) + 1 := by simp [markG]
      have e2 : (markG m j).rt = (m : Int) + 5 * (j : Int) + 1 + 1 := by simp [markG]; omega
      have e3 : (markG m j).lv = (m : Int) + 5 * (j : Int) + 1 + 1 + 1 := by simp [markG]; omega
      have e4 : (markG m j).rv = (m : Int) + 5 * (j : Int) + 1 + 1 + 1 + 1 := by simp [markG]; omega
      rw [e0] at z0
      rw [e1] at z1
      rw [e2] at z2
      rw [e3] at z3
      rw [e4] at z4
      have d0 : (((m : Int) + 5 * (j : Int)) != ((m : Int) + 5 * (j : Int))) = false := by simp
      have d1 : (((m : Int) + 5 * (j : Int) + 1) != ((m : Int) + 5 * (j : Int) + 1)) = false := by simp
      have d2 : (((m : Int) + 5 * (j : Int) + 1 + 1) != ((m : Int) + 5 * (j : Int) + 1 + 1)) = false := by simp
      have d3 : (((m : Int) + 5 * (j : Int) + 1 + 1 + 1) != ((m : Int) + 5 * (j : Int) + 1 + 1 + 1)) = false := by simp
      have d4 : (((m : Int) + 5 * (j : Int) + 1 + 1 + 1 + 1) != ((m : Int) + 5 * (j : Int) + 1 + 1 + 1 + 1)) = false := by simp
      clear hcell e0 e1 e2 e3 e4
      go_wp2
      go_round
      case rel => exact ⟨j + 1, by omega, by go_num, by go_num⟩
      case measure => simp [intOf]; omega
    · obtain rfl : j = n := by omega
      go_wp2
      go_ret
      exact ⟨rfl, Below.refl _ _⟩
end Go.Proofs.Ytneolndbhklboaa
