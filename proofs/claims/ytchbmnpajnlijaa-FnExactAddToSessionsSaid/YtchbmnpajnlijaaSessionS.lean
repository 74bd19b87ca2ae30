/- Rows of Session: the record, and the contracts of the laws' own helpers over it (made by mkrows.py). -/
import Derived.Test.YtchbmnpajnlijaaProg
import Derived.Test.YtchbmnpajnlijaaRecs
import Derived.WalkKit
import Derived.WalkSpells
import Derived.ProofKit
import Derived.Lib.Hide
import Derived.Outline
import Derived.Laws.MakeOwn
import Derived.Laws.OwnMore
import Derived.Deep.RegionWith
namespace Go.Proofs.Ytchbmnpajnlijaa
open Go.RowKit

structure Ss where
  ky : Int
  fr : Int
  tt : Int
  ct : Int
  sm : Int
deriving DecidableEq
def zD : Ss := ⟨0, 0, 0, 0, 0⟩
def zC (S : Ss) : List Value := [.int .i64 S.ky, .int .i64 S.fr, .int .i64 S.tt, .int .i64 S.ct, .int .i64 S.sm]
theorem zC_len (S : Ss) : (zC S).length = 5 := rfl
/-- The record at i. -/
def zel (l : List Ss) (i : Nat) : Ss := rel zD l i
def flatZ (l : List Ss) : List Value := flatR zC l
theorem flatZ_len (l : List Ss) : (flatZ l).length = l.length * 5 := flatR_len zC 5 zC_len l
theorem flatZ_append (l m : List Ss) : flatZ (l ++ m) = flatZ l ++ flatZ m := flatR_append zC l m
theorem zel_take {l : List Ss} {i : Nat} (hi : i < l.length) : l.take (i + 1) = l.take i ++ [zel l i] := rel_take zD hi
/-- A slice of records, all below block hi, reads as l. -/
abbrev Sss (w : World) (hi : Nat) (a : Option Addr) (c : Nat) (l : List Ss) : Prop := Recs zC 5 zD w hi a c l
theorem Sss.six {w : World} {hi c : Nat} {a : Option Addr} {l : List Ss} (h : Sss w hi a c l) (hne : 0 < l.length) : ∃ b off, a = some ⟨b, off, none⟩ ∧ b < hi ∧ ∀ i, i < l.length → w.cell? ⟨b, off + i * 5, none⟩ = some (.int .i64 (zel l i).ky) ∧ w.cell? ⟨b, off + i * 5 + 1, none⟩ = some (.int .i64 (zel l i).fr) ∧ w.cell? ⟨b, off + i * 5 + 2, none⟩ = some (.int .i64 (zel l i).tt) ∧ w.cell? ⟨b, off + i * 5 + 3, none⟩ = some (.int .i64 (zel l i).ct) ∧ w.cell? ⟨b, off + i * 5 + 4, none⟩ = some (.int .i64 (zel l i).sm) := by
  obtain ⟨b, off, ha, hlt, hc⟩ := h.cells hne
  exact ⟨b, off, ha, hlt, fun i hi => ⟨hc i hi 0 (by omega), hc i hi 1 (by omega), hc i hi 2 (by omega), hc i hi 3 (by omega), hc i hi 4 (by omega)⟩⟩
theorem Sss.of_own {w : World} {T : TypeId} {lo n c : Nat} {a : Option Addr} {l : List Ss} (h : w.ownsRow lo T 5 (.slice a n c) n (flatZ l)) : Sss w w.heap.size a c l := Recs.of_own zC_len (by omega) h
theorem Rw.zs {w : World} {T : TypeId} {lo up n c : Nat} {a : Option Addr} {l : List Ss} (h : Rw T 5 lo up a n c (flatZ l) w) : Sss w w.heap.size a c l := Sss.of_own h.own
theorem Rw.zlen {w : World} {T : TypeId} {lo up n c : Nat} {a : Option Addr} {l : List Ss} (h : Rw T 5 lo up a n c (flatZ l) w) : n = l.length := ownR_len zC_len (by omega) h.own
theorem own_ss {w : World} {lo g n c : Nat} {T : TypeId} {l : List Ss} (h : w.ownsRow lo T 5 (.slice (some ⟨g, 0, none⟩) n c) n (flatZ l)) (j : Nat) (hj : j < l.length) : w.cell? ⟨g, j * 5, none⟩ = some (.int .i64 (zel l j).ky) ∧ w.cell? ⟨g, j * 5 + 1, none⟩ = some (.int .i64 (zel l j).fr) ∧ w.cell? ⟨g, j * 5 + 2, none⟩ = some (.int .i64 (zel l j).tt) ∧ w.cell? ⟨g, j * 5 + 3, none⟩ = some (.int .i64 (zel l j).ct) ∧ w.cell? ⟨g, j * 5 + 4, none⟩ = some (.int .i64 (zel l j).sm) := by
  have hf := fun q hq => flatR_at zC 5 zD zC_len l j q hj hq
  have hn : n = l.length := ownR_len zC_len (by omega) h
  exact ⟨(h.cellAt (j * 5) (by omega)).trans (hf 0 (by omega)), (h.cellAt (j * 5 + 1) (by omega)).trans (hf 1 (by omega)), (h.cellAt (j * 5 + 2) (by omega)).trans (hf 2 (by omega)), (h.cellAt (j * 5 + 3) (by omega)).trans (hf 3 (by omega)), (h.cellAt (j * 5 + 4) (by omega)).trans (hf 4 (by omega))⟩

theorem toSession_x (ky fr tt ct sm : Int) (w : World) : Calls Try.prog 24 #[(.agg #[.int .i64 ky, .int .i64 fr, .int .i64 tt, .int .i64 ct, .int .i64 sm])] w fun e w' => e = .returned (.agg #[.int .i64 ky, .int .i64 fr, .int .i64 tt, .int .i64 ct, .int .i64 sm]) ∧ Below w.heap.size w w' := by
  have BB := Lib.hid fun v0 v1 v2 v3 v4 : Value => ((((Below.refl w.heap.size w).alloc (Nat.le_refl _) (.cells #[.int .i64 ky, .int .i64 fr, .int .i64 tt, .int .i64 ct, .int .i64 sm] 31)).alloc (by simp) (.cells #[.int .i64 0, .int .i64 0, .int .i64 0, .int .i64 0, .int .i64 0] 33)).alloc (by simp; omega) (.cells #[v0, v1, v2, v3, v4] 33))
  go_enter Try.func24, Try.ntmps24
  go_wp2
  exact bodyPost_ret (v := (.agg #[.int .i64 ky, .int .i64 fr, .int .i64 tt, .int .i64 ct, .int .i64 sm])) (by simp [results, Try.results24, go_sem]) rfl ⟨rfl, (((Below.refl _ _).alloc (Nat.le_refl _) _).alloc (by simp) _).alloc (by simp; omega) _⟩
theorem eqSession_x (ky fr tt ct sm : Int) (w : World) : Calls Try.prog 70 #[(.agg #[.int .i64 ky, .int .i64 fr, .int .i64 tt, .int .i64 ct, .int .i64 sm]), (.agg #[.int .i64 ky, .int .i64 fr, .int .i64 tt, .int .i64 ct, .int .i64 sm])] w fun e w' => e = .returned (.bool true) ∧ Below w.heap.size w w' := by
  have BB := Lib.hid (((Below.refl w.heap.size w).alloc (Nat.le_refl _) (.cells #[.int .i64 ky, .int .i64 fr, .int .i64 tt, .int .i64 ct, .int .i64 sm] 33)).alloc (by simp) (.cells #[.int .i64 ky, .int .i64 fr, .int .i64 tt, .int .i64 ct, .int .i64 sm] 33))
  have hky : (ky != ky) = false := by simp
  have hfr : (fr != fr) = false := by simp
  have htt : (tt != tt) = false := by simp
  have hct : (ct != ct) = false := by simp
  have hsm : (sm != sm) = false := by simp
  go_enter Try.func70, Try.ntmps70
  go_wp2
  go_ret
  exact ⟨rfl, BB.out⟩
theorem szSessionS_any (a : Option Addr) (n c : Nat) (w : World) (hn : n ≤ 9223372036854775807) :
    Calls Try.prog 26 #[.slice a n c, .int .i64 1048576] w fun e w' => e = .returned (.int .i64 (if (1048576 : Int) - (n : Int) < 0 then -1 else 1048576 - (n : Int))) ∧ w = w' := by
  by_cases h : (1048576 : Int) - (n : Int) < 0
  · rw [if_pos h]
    go_enter Try.func26, Try.ntmps26
    go_wp2
    go_ret
    exact ⟨rfl, rfl⟩
  · rw [if_neg h]
    go_enter Try.func26, Try.ntmps26
    go_wp2
    go_ret
    exact ⟨rfl, rfl⟩
theorem infoSession : (Try.prog.info? 33).map (fun i => (i.zero, i.size, i.bytes)) = some (some (.agg #[.int .i64 0, .int .i64 0, .int .i64 0, .int .i64 0, .int .i64 0]), 5, 40) := by kernel_rfl
theorem run_make_Ss (n : Nat) (hn : n ≤ 1048576) : ∃ CS : Array Value, CS.size = n * 5 ∧ ∀ W : World, (Instr.makeSlice 39 (.int .i64 (n : Int)) (.int .i64 (n : Int))).run Try.prog W = .ok (.slice (some ⟨W.heap.size, 0, none⟩) n n) (W.alloc (.cells CS 33)) := by
  obtain ⟨i, hi, hzz⟩ := Option.map_eq_some_iff.1 infoSession
  simp only [Prod.mk.injEq] at hzz
  obtain ⟨hz, hs, hb⟩ := hzz
  refine ⟨madeCells (Value.cells (.agg #[.int .i64 0, .int .i64 0, .int .i64 0, .int .i64 0, .int .i64 0])) (n * 5), size_madeCells _ _, fun W => ?_⟩
  have h := run_make (P := Try.prog) W 39 33 i _ Try.underlying39 hi hz .i64 .i64 n n (by omega) (Int.le_refl _) (by rw [hb]; omega) (by omega)
  simp only [Int.toNat_natCast, hs] at h
  exact h
/-- The copy, j records done. -/
structure CopiedSs (g : Nat) (l : List Ss) (j : Nat) (W : World) : Prop where
  ex : ∃ cs : Array Value, Blk W g 33 cs ∧ cs.size = l.length * 5 ∧ ∀ i q, i < j → q < 5 → cs[i * 5 + q]? = (zC (zel l i))[q]?
theorem CopiedSs.start {g : Nat} {l : List Ss} {W : World} {cs : Array Value} (h : Blk W g 33 cs) (hs : cs.size = l.length * 5) : CopiedSs g l 0 W :=
  ⟨⟨cs, h, hs, fun i q hi => absurd hi (by omega)⟩⟩
theorem CopiedSs.step {g j : Nat} {l : List Ss} {W W' : World} (h : CopiedSs g l j W) (hj : j < l.length) (hb : Below W.heap.size W W') : CopiedSs g l (j + 1) (((((W'.setCell ⟨g, j * 5, none⟩ (.int .i64 (zel l j).ky)).setCell ⟨g, j * 5 + 1, none⟩ (.int .i64 (zel l j).fr)).setCell ⟨g, j * 5 + 2, none⟩ (.int .i64 (zel l j).tt)).setCell ⟨g, j * 5 + 3, none⟩ (.int .i64 (zel l j).ct)).setCell ⟨g, j * 5 + 4, none⟩ (.int .i64 (zel l j).sm)) := by
  obtain ⟨cs, hB, hs, hc⟩ := h.ex
  refine ⟨⟨_, ((((((hB.below hb).put_ (j * 5) _).put_ (j * 5 + 1) _).put_ (j * 5 + 2) _).put_ (j * 5 + 3) _).put_ (j * 5 + 4) _), by simpa using hs, fun i q hi hq => ?_⟩⟩
  by_cases he : i = j
  · subst he
    have h5 : q = 0 ∨ q = 1 ∨ q = 2 ∨ q = 3 ∨ q = 4 := by omega
    rcases h5 with rfl | rfl | rfl | rfl | rfl
    all_goals
      simp [Array.getElem?_setIfInBounds, zC]
      try omega
  · have h0 := hc i q (by omega) hq
    rw [Array.getElem?_setIfInBounds_ne (by omega), Array.getElem?_setIfInBounds_ne (by omega), Array.getElem?_setIfInBounds_ne (by omega), Array.getElem?_setIfInBounds_ne (by omega), Array.getElem?_setIfInBounds_ne (by omega)]
    exact h0
theorem CopiedSs.owns {g lo : Nat} {l : List Ss} {W : World} (h : CopiedSs g l l.length W) (hl : l.length ≤ 1048576) (hlo : lo ≤ g) : W.ownsRow lo 33 5 (.slice (some ⟨g, 0, none⟩) l.length l.length) l.length (flatZ l) := by
  obtain ⟨cs, hB, hs, hc⟩ := h.ex
  refine ⟨flatZ_len l, .inr ⟨g, l.length, cs, rfl, hlo, hB, Nat.le_refl _, by unfold maxLen; omega, hs, ?_⟩⟩
  have hl2 : cs.toList.length = l.length * 5 := by rw [Array.length_toList, hs]
  rw [List.take_of_length_le (by omega)]
  refine List.ext_getElem? fun m => ?_
  by_cases hm : m < l.length * 5
  · have h1 := hc (m / 5) (m % 5) (by omega) (by omega)
    have h2 := flatR_at zC 5 zD zC_len l (m / 5) (m % 5) (by omega) (by omega)
    have e1 : m / 5 * 5 + m % 5 = m := by omega
    rw [e1] at h1 h2
    rw [Array.getElem?_toList, h1]
    exact h2.symm
  · rw [List.getElem?_eq_none (by omega), List.getElem?_eq_none (by rw [flatZ_len]; omega)]
set_option maxHeartbeats 1000000 in
set_option maxRecDepth 100000 in
theorem toSessionS_any (a : Option Addr) (n c : Nat) (l : List Ss) (hi : Nat) (w : World) (hr : Sss w hi a c l) (hn : n = l.length) (hB : hi ≤ w.heap.size) (hlen : l.length ≤ 1048576) :
    Calls Try.prog 28 #[.slice a n c] w (FreshR zC 33 5 l w) := by
  subst hn
  obtain ⟨CS, hcs, hmk⟩ := run_make_Ss l.length hlen
  have hc1 := hr.cap
  have hc2 := hr.big
  have HR := Lib.hid hr
  have C0 := Lib.hid (CopiedSs.start (Blk.new w 33 CS) hcs)
  have B0 := Lib.hid ((Below.refl w.heap.size w).alloc (Nat.le_refl _) (.cells CS 33))
  clear hr hcs
  go_enter Try.func28, Try.ntmps28
  go_wp2
  go_loopw [4] (fun i wr => ∃ j : Nat, j ≤ l.length ∧ i = .int .i64 j ∧ CopiedSs w.heap.size l j wr ∧ Below w.heap.size w wr) (fun i _ => l.length - (intOf i).toNat)
  case atStart => exact ⟨0, Nat.zero_le _, rfl, C0.out, B0.out⟩
  case round =>
    obtain ⟨j, hj, rfl, hcp, hb⟩ := hrel
    have hsz := hb.size
    have HB := Lib.hid hb
    have HC := Lib.hid hcp
    by_cases hlt : j < l.length
    · obtain ⟨b, off, rfl, hbh, hcell⟩ := Sss.six (HR.out.below (hb.mono hB)) (by omega)
      obtain ⟨q0, q1, q2, q3, q4⟩ := hcell j hlt
      have HST := Lib.hid (fun (W' : World) hb => hcp.step (W' := W') hlt hb)
      have hlt' : (j : Int) < (l.length : Int) := by omega
      clear hcell hb hcp
      generalize zel l j = S at q0 q1 q2 q3 q4 HST
      obtain ⟨ky, fr, tt, ct, sm⟩ := S
      simp only at q0 q1 q2 q3 q4 HST
      have HTS := Lib.hid (fun W => toSession_x ky fr tt ct sm W)
      go_wp2_with fail
      refine (HTS.out _).mono ?_
      rintro e w3 ⟨rfl, hb3⟩
      have HS3 := Lib.hid (HST.out w3 hb3)
      have HB3 := Lib.hid (HB.out.trans (hb3.mono hsz))
      have s3 := hb3.size
      have hfz : ∀ i, w3.frozen? ⟨w.heap.size, i, none⟩ = false := by
        obtain ⟨cs, hBk, hs_, _⟩ := HC.out.ex
        exact (hBk.below hb3).frozen
      have hcl : ∀ q, q < 5 → ∃ v, w3.cell? ⟨w.heap.size, j * 5 + q, none⟩ = some v := fun q hq => by
        obtain ⟨cs, hBk, hs_, _⟩ := HC.out.ex
        rw [(hBk.below hb3).cell]
        exact ⟨cs[j * 5 + q]'(by omega), by rw [Array.getElem?_eq_getElem]⟩
      obtain ⟨v0, c0⟩ := hcl 0 (by omega)
      obtain ⟨v1, c1⟩ := hcl 1 (by omega)
      obtain ⟨v2, c2⟩ := hcl 2 (by omega)
      obtain ⟨v3, c3⟩ := hcl 3 (by omega)
      obtain ⟨v4, c4⟩ := hcl 4 (by omega)
      rw [Nat.add_zero] at c0
      clear hb3 hcl q0 q1 q2 q3 q4
      go_wp2
      go_roundw
      case rel => exact ⟨j + 1, by omega, by go_num, HS3.out, (((((HB3.out.setCell (p := ⟨w.heap.size, j * 5, none⟩) (Nat.le_refl _) _).setCell (p := ⟨w.heap.size, j * 5 + 1, none⟩) (Nat.le_refl _) _).setCell (p := ⟨w.heap.size, j * 5 + 2, none⟩) (Nat.le_refl _) _).setCell (p := ⟨w.heap.size, j * 5 + 3, none⟩) (Nat.le_refl _) _).setCell (p := ⟨w.heap.size, j * 5 + 4, none⟩) (Nat.le_refl _) _)⟩
      case measure => simp [intOf]; omega
    · obtain rfl : j = l.length := by omega
      have HP : Hid (FreshR zC 33 5 l w (.returned (.slice (some ⟨w.heap.size, 0, none⟩) l.length l.length)) wr) := ⟨_, _, rfl, hcp.owns hlen (Nat.le_refl _), hb⟩
      clear hcp hb
      go_wp2
      go_ret
      exact HP.out
set_option maxHeartbeats 1000000 in
set_option maxRecDepth 100000 in
theorem eqSessionS_any (a b : Option Addr) (n m ca cb : Nat) (l : List Ss) (ha hb : Nat) (w : World) (h1 : Sss w ha a ca l) (h2 : Sss w hb b cb l) (hn : n = l.length) (hm : m = l.length) (hB1 : ha ≤ w.heap.size) (hB2 : hb ≤ w.heap.size) :
    Calls Try.prog 30 #[.slice a n ca, .slice b m cb] w fun e w' => e = .returned (.bool true) ∧ Below w.heap.size w w' := by
  subst hn
  subst hm
  have hc1 := h1.cap
  have hc2 := h1.big
  have hc3 := h2.cap
  have hc4 := h2.big
  have H1 := Lib.hid h1
  have H2 := Lib.hid h2
  clear h1 h2
  go_enter Try.func30, Try.ntmps30
  go_wp2
  go_loopw [5] (fun i wr => ∃ j : Nat, j ≤ l.length ∧ i = .int .i64 j ∧ Below w.heap.size w wr) (fun i _ => l.length - (intOf i).toNat)
  case atStart => exact ⟨0, Nat.zero_le _, rfl, Below.refl _ _⟩
  case round =>
    obtain ⟨j, hj, rfl, hbw⟩ := hrel
    have hsz := hbw.size
    have HB := Lib.hid hbw
    by_cases hlt : j < l.length
    · obtain ⟨b1, off1, rfl, _, hcell1⟩ := Sss.six (H1.out.below (hbw.mono hB1)) (by omega)
      obtain ⟨b2, off2, rfl, _, hcell2⟩ := Sss.six (H2.out.below (hbw.mono hB2)) (by omega)
      obtain ⟨p0, p1, p2, p3, p4⟩ := hcell1 j hlt
      obtain ⟨q0, q1, q2, q3, q4⟩ := hcell2 j hlt
      have hlt' : (j : Int) < (l.length : Int) := by omega
      clear hcell1 hcell2 hbw
      generalize zel l j = S at p0 p1 p2 p3 p4 q0 q1 q2 q3 q4
      obtain ⟨ky, fr, tt, ct, sm⟩ := S
      simp only at p0 p1 p2 p3 p4 q0 q1 q2 q3 q4
      go_wp2_with fail
      go_region_with (go_at_call 70; refine (eqSession_x ky fr tt ct sm _).mono ?_; rintro e w3 ⟨rfl, hb⟩; have HB3 := Lib.hid ((HB.out.drew).trans (hb.mono hsz)); clear hb)
      all_goals
        clear p0 p1 p2 p3 p4 q0 q1 q2 q3 q4
        go_wp2
        go_roundw
        case rel => exact ⟨j + 1, by omega, by go_num, HB3.out⟩
        case measure => simp [intOf]; omega
    · obtain rfl : j = l.length := by omega
      clear hbw
      go_wp2
      go_ret
      exact ⟨rfl, HB.out⟩
/-- The marks of n records from m on. -/
def markZ (m i : Nat) : Ss := ⟨((m + 5 * i : Nat) : Int), ((m + 5 * i + 1 : Nat) : Int), ((m + 5 * i + 2 : Nat) : Int), ((m + 5 * i + 3 : Nat) : Int), ((m + 5 * i + 4 : Nat) : Int)⟩
def marksZ (m n : Nat) : List Ss := (List.range n).map (markZ m)
theorem marksZ_len (m n : Nat) : (marksZ m n).length = n := by simp [marksZ]
theorem marksZ_at (m n i : Nat) (hi : i < n) : zel (marksZ m n) i = markZ m i := by simp [marksZ, zel, rel, List.getD, hi]
def markToZ (m : Nat) (l : List Ss) (j : Nat) : List Ss := marksZ m j ++ l.drop j
theorem markToZ_zero (m : Nat) (l : List Ss) : markToZ m l 0 = l := by simp [markToZ, marksZ]
theorem markToZ_len (m : Nat) (l : List Ss) (j : Nat) (hj : j ≤ l.length) : (markToZ m l j).length = l.length := by simp [markToZ, marksZ_len]; omega
theorem markToZ_all (m : Nat) (l : List Ss) : markToZ m l l.length = marksZ m l.length := by simp [markToZ]
theorem markToZ_step (m : Nat) (l : List Ss) (j : Nat) (hj : j < l.length) : ((((((flatZ (markToZ m l j)).set (j * 5) (.int .i64 ((m + 5 * j : Nat) : Int))).set (j * 5 + 1) (.int .i64 ((m + 5 * j + 1 : Nat) : Int))).set (j * 5 + 2) (.int .i64 ((m + 5 * j + 2 : Nat) : Int))).set (j * 5 + 3) (.int .i64 ((m + 5 * j + 3 : Nat) : Int))).set (j * 5 + 4) (.int .i64 ((m + 5 * j + 4 : Nat) : Int))) = flatZ (markToZ m l (j + 1)) := by
  have e1 : marksZ m (j + 1) = marksZ m j ++ [markZ m j] := by simp [marksZ, List.range_succ]
  have e2 : l.drop j = zel l j :: l.drop (j + 1) := rel_drop zD hj
  have hl : (flatZ (marksZ m j)).length = j * 5 := by rw [flatZ_len, marksZ_len]
  unfold markToZ
  rw [e1, e2, flatZ_append, flatZ_append, flatZ_append]
  have e3 : ∀ (f : Ss) (r : List Ss), flatZ (f :: r) = zC f ++ flatZ r := fun _ _ => rfl
  have e4 : ∀ (f : Ss), flatZ [f] = zC f := fun f => by simp [flatZ, flatR]
  rw [e3, e4]
  rw [List.set_append_right _ _ (by omega), List.set_append_right _ _ (by omega), List.set_append_right _ _ (by omega), List.set_append_right _ _ (by omega), List.set_append_right _ _ (by omega), hl]
  have i0 : j * 5 - j * 5 = 0 := by omega
  have i1 : j * 5 + 1 - j * 5 = 1 := by omega
  have i2 : j * 5 + 2 - j * 5 = 2 := by omega
  have i3 : j * 5 + 3 - j * 5 = 3 := by omega
  have i4 : j * 5 + 4 - j * 5 = 4 := by omega
  rw [i0, i1, i2, i3, i4]
  simp [zC, markZ]
set_option maxRecDepth 100000 in
set_option maxHeartbeats 2000000 in
theorem markSessionS_m (a : Option Addr) (n c m : Nat) (M : Int) (l : List Ss) (lo : Nat) (w : World) (hr : w.ownsRow lo 33 5 (.slice a n c) n (flatZ l)) (hM : M = (m : Int)) (hn : n = l.length) (hlo : lo ≤ w.heap.size) (hlen : n ≤ 1048576) (hm : m ≤ 1073741824) :
    Calls Try.prog 48 #[.slice a n c, .int .i64 M] w fun e w' => e = .returned (.int .i64 (M + 5 * (n : Int))) ∧ MarkedR 33 5 lo a c n (flatZ (marksZ m n)) w w' := by
  subst hM
  subst hn
  have hc := ownR_cap hr
  have HR := Lib.hid hr
  clear hr
  go_enter Try.func48, Try.ntmps48
  go_wp2
  go_loopw [1, 5] (fun k i wr => ∃ j : Nat, j ≤ l.length ∧ i = .int .i64 j ∧ k = .int .i64 ((m : Int) + 5 * (j : Int)) ∧ wr.ownsRow lo 33 5 (.slice a l.length c) l.length (flatZ (markToZ m l j)) ∧ w.grownBy wr (Value.slice a l.length c).ownBlock) (fun _ i _ => l.length - (intOf i).toNat)
  case atStart => exact ⟨0, Nat.zero_le _, rfl, by simp, by rw [markToZ_zero]; exact HR.out, World.grownBy.refl _ _⟩
  case round =>
    obtain ⟨j, hj, rfl, rfl, hown, hg⟩ := hrel
    by_cases hlt : j < l.length
    · obtain ⟨g, rfl, _, _⟩ := ownR_block hown (by omega)
      have e0 : ((m + 5 * j : Nat) : Int) = (m : Int) + 5 * (j : Int) := by omega
      have e1 : ((m + 5 * j + 1 : Nat) : Int) = (m : Int) + 5 * (j : Int) + 1 := by omega
      have e2 : ((m + 5 * j + 2 : Nat) : Int) = (m : Int) + 5 * (j : Int) + 1 + 1 := by omega
      have e3 : ((m + 5 * j + 3 : Nat) : Int) = (m : Int) + 5 * (j : Int) + 1 + 1 + 1 := by omega
      have e4 : ((m + 5 * j + 4 : Nat) : Int) = (m : Int) + 5 * (j : Int) + 1 + 1 + 1 + 1 := by omega
      have hstep := markToZ_step m l j hlt
      rw [e0, e1, e2, e3, e4] at hstep
      have hll := flatZ_len (markToZ m l j)
      rw [markToZ_len m l j hj] at hll
      have s0 := hown.stored (j * 5) (.int .i64 ((m : Int) + 5 * (j : Int)))
      have s1 := s0.1.stored (j * 5 + 1) (.int .i64 ((m : Int) + 5 * (j : Int) + 1))
      have s2 := s1.1.stored (j * 5 + 2) (.int .i64 ((m : Int) + 5 * (j : Int) + 1 + 1))
      have s3 := s2.1.stored (j * 5 + 3) (.int .i64 ((m : Int) + 5 * (j : Int) + 1 + 1 + 1))
      have s4 := s3.1.stored (j * 5 + 4) (.int .i64 ((m : Int) + 5 * (j : Int) + 1 + 1 + 1 + 1))
      rw [hstep] at s4
      obtain ⟨u0, c0⟩ : ∃ u, wr.cell? ⟨g, j * 5, none⟩ = some u := ⟨_, (hown.cellAt (j * 5) (by omega)).trans (List.getElem?_eq_getElem (by omega))⟩
      obtain ⟨u1, c1⟩ : ∃ u, (wr.setCell ⟨g, j * 5, none⟩ (.int .i64 ((m : Int) + 5 * (j : Int)))).cell? ⟨g, j * 5 + 1, none⟩ = some u := ⟨_, (s0.1.cellAt (j * 5 + 1) (by omega)).trans (List.getElem?_eq_getElem (by rw [List.length_set]; omega))⟩
      obtain ⟨u2, c2⟩ : ∃ u, ((wr.setCell ⟨g, j * 5, none⟩ (.int .i64 ((m : Int) + 5 * (j : Int)))).setCell ⟨g, j * 5 + 1, none⟩ (.int .i64 ((m : Int) + 5 * (j : Int) + 1))).cell? ⟨g, j * 5 + 2, none⟩ = some u := ⟨_, (s1.1.cellAt (j * 5 + 2) (by omega)).trans (List.getElem?_eq_getElem (by rw [List.length_set, List.length_set]; omega))⟩
      obtain ⟨u3, c3⟩ : ∃ u, (((wr.setCell ⟨g, j * 5, none⟩ (.int .i64 ((m : Int) + 5 * (j : Int)))).setCell ⟨g, j * 5 + 1, none⟩ (.int .i64 ((m : Int) + 5 * (j : Int) + 1))).setCell ⟨g, j * 5 + 2, none⟩ (.int .i64 ((m : Int) + 5 * (j : Int) + 1 + 1))).cell? ⟨g, j * 5 + 3, none⟩ = some u := ⟨_, (s2.1.cellAt (j * 5 + 3) (by omega)).trans (List.getElem?_eq_getElem (by rw [List.length_set, List.length_set, List.length_set]; omega))⟩
      obtain ⟨u4, c4⟩ : ∃ u, ((((wr.setCell ⟨g, j * 5, none⟩ (.int .i64 ((m : Int) + 5 * (j : Int)))).setCell ⟨g, j * 5 + 1, none⟩ (.int .i64 ((m : Int) + 5 * (j : Int) + 1))).setCell ⟨g, j * 5 + 2, none⟩ (.int .i64 ((m : Int) + 5 * (j : Int) + 1 + 1))).setCell ⟨g, j * 5 + 3, none⟩ (.int .i64 ((m : Int) + 5 * (j : Int) + 1 + 1 + 1))).cell? ⟨g, j * 5 + 4, none⟩ = some u := ⟨_, (s3.1.cellAt (j * 5 + 4) (by omega)).trans (List.getElem?_eq_getElem (by rw [List.length_set, List.length_set, List.length_set, List.length_set]; omega))⟩
      have f0 := hown.frozenAt (j * 5)
      have f1 := s0.1.frozenAt (j * 5 + 1)
      have f2 := s1.1.frozenAt (j * 5 + 2)
      have f3 := s2.1.frozenAt (j * 5 + 3)
      have f4 := s3.1.frozenAt (j * 5 + 4)
      have G0 := Lib.hid (grown_trans (grown_trans (grown_trans (grown_trans (grown_trans hg s0.2) s1.2) s2.2) s3.2) s4.2)
      have S3 := Lib.hid s4.1
      clear hstep hll s0 s1 s2 s3 s4 hown hg e0 e1 e2 e3 e4
      go_wp2
      go_roundw
      case rel => exact ⟨j + 1, by omega, by go_num, by go_num, S3.out, G0.out⟩
      case measure => simp [intOf]; omega
    · obtain rfl : j = l.length := by omega
      rw [markToZ_all] at hown
      have HO := Lib.hid hown
      have HG := Lib.hid hg
      have HP : Hid (MarkedR 33 5 lo a c l.length (flatZ (marksZ m l.length)) w wr) := ⟨HO.out, ⟨HG.out.os, HG.out.tape, HG.out.output, HG.out.size, fun k hk => HG.out.block k (by omega) (fun e => by have := (HO.out.lt k e.symm).1; omega)⟩, HG.out⟩
      clear hown hg
      go_wp2
      go_ret
      exact ⟨rfl, HP.out⟩
set_option maxRecDepth 100000 in
set_option maxHeartbeats 2000000 in
theorem heldSessionS_m (a : Option Addr) (n c m : Nat) (M : Int) (hi : Nat) (w : World) (hr : Sss w hi a c (marksZ m n)) (hM : M = (m : Int)) (hlen : n ≤ 1048576) (hm : m ≤ 1073741824) :
    Calls Try.prog 49 #[.slice a n c, .int .i64 M] w fun e w' => e = .returned (.int .i64 (M + 5 * (n : Int))) ∧ Below w.heap.size w w' := by
  subst hM
  have hc1 := hr.cap
  have hc2 := hr.big
  rw [marksZ_len] at hc1
  have HR := Lib.hid hr
  clear hr
  go_enter Try.func49, Try.ntmps49
  go_wp2
  go_loop [1, 5] (fun k i => ∃ j : Nat, j ≤ n ∧ i = .int .i64 j ∧ k = .int .i64 ((m : Int) + 5 * (j : Int))) (fun _ i => n - (intOf i).toNat)
  case atStart => exact ⟨0, Nat.zero_le _, rfl, by simp⟩
  case round =>
    obtain ⟨j, hj, rfl, rfl⟩ := hrel
    by_cases hlt : j < n
    · obtain ⟨b, off, rfl, _, hcell⟩ := Sss.six HR.out (by rw [marksZ_len]; omega)
      obtain ⟨z0, z1, z2, z3, z4⟩ := hcell j (by rw [marksZ_len]; exact hlt)
      rw [marksZ_at m n j hlt] at z0 z1 z2 z3 z4
      have e0 : (markZ m j).ky = (m : Int) + 5 * (j : Int) := by simp [markZ]
      have e1 : (markZ m j).fr = (m : Int) + 5 * (j : Int) + 1 := by simp [markZ]
      have e2 : (markZ m j).tt = (m : Int) + 5 * (j : Int) + 1 + 1 := by simp [markZ]; omega
      have e3 : (markZ m j).ct = (m : Int) + 5 * (j : Int) + 1 + 1 + 1 := by simp [markZ]; omega
      have e4 : (markZ m j).sm = (m : Int) + 5 * (j : Int) + 1 + 1 + 1 + 1 := by simp [markZ]; omega
      rw [e0] at z0
      rw [e1] at z1
      rw [e2] at z2
      rw [e3] at z3
      rw [e4] at z4
      have d0 : (((m : Int) + 5 * (j : Int)) != ((m : Int) + 5 * (j : Int))) = false := by simp
      have d1 : (((m : Int) + 5 * (j : Int) + 1) != ((m : Int) + 5 * (j : Int) + 1)) = false := by simp
      have d2 : (((m : Int) + 5 * (j : Int) + 1 + 1) != ((m : Int) + 5 * (j : Int) + 1 + 1)) = false := by simp
      have d3 : (((m : Int) + 5 * (j : Int) + 1 + 1 + 1) != ((m : Int) + 5 * (j : Int) + 1 + 1 + 1)) = false := by simp
      have d4 : (((m : Int) + 5 * (j : Int) + 1 + 1 + 1 + 1) != ((m : Int) + 5 * (j : Int) + 1 + 1 + 1 + 1)) = false := by simp
      clear hcell e0 e1 e2 e3 e4
      go_wp2
      go_round
      case rel => exact ⟨j + 1, by omega, by go_num, by go_num⟩
      case measure => simp [intOf]; omega
    · obtain rfl : j = n := by omega
      go_wp2
      go_ret
      exact ⟨rfl, Below.refl _ _⟩
end Go.Proofs.Ytchbmnpajnlijaa
