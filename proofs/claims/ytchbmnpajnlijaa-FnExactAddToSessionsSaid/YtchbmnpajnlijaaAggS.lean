/- Rows of Agg: the record, and the contracts of the laws' own helpers over it (made by mkrows.py). -/
import Derived.Test.YtchbmnpajnlijaaProg
import Derived.Test.YtchbmnpajnlijaaRecs
import Derived.WalkKit
import Derived.WalkSpells
import Derived.ProofKit
import Derived.Lib.Hide
import Derived.Outline
import Derived.Laws.MakeOwn
import Derived.Laws.OwnMore
import Derived.Deep.RegionWith
namespace Go.Proofs.Ytchbmnpajnlijaa
open Go.RowKit

structure Ag where
  win : Int
  key : Int
  cnt : Int
  sum : Int
  mn : Int
  mx : Int
deriving DecidableEq
def aD : Ag := ⟨0, 0, 0, 0, 0, 0⟩
def aC (S : Ag) : List Value := [.int .i64 S.win, .int .i64 S.key, .int .i64 S.cnt, .int .i64 S.sum, .int .i64 S.mn, .int .i64 S.mx]
theorem aC_len (S : Ag) : (aC S).length = 6 := rfl
/-- The record at i. -/
def ael (l : List Ag) (i : Nat) : Ag := rel aD l i
def flatA (l : List Ag) : List Value := flatR aC l
theorem flatA_len (l : List Ag) : (flatA l).length = l.length * 6 := flatR_len aC 6 aC_len l
theorem flatA_append (l m : List Ag) : flatA (l ++ m) = flatA l ++ flatA m := flatR_append aC l m
theorem ael_take {l : List Ag} {i : Nat} (hi : i < l.length) : l.take (i + 1) = l.take i ++ [ael l i] := rel_take aD hi
/-- A slice of records, all below block hi, reads as l. -/
abbrev Ags (w : World) (hi : Nat) (a : Option Addr) (c : Nat) (l : List Ag) : Prop := Recs aC 6 aD w hi a c l
theorem Ags.six {w : World} {hi c : Nat} {a : Option Addr} {l : List Ag} (h : Ags w hi a c l) (hne : 0 < l.length) : ∃ b off, a = some ⟨b, off, none⟩ ∧ b < hi ∧ ∀ i, i < l.length → w.cell? ⟨b, off + i * 6, none⟩ = some (.int .i64 (ael l i).win) ∧ w.cell? ⟨b, off + i * 6 + 1, none⟩ = some (.int .i64 (ael l i).key) ∧ w.cell? ⟨b, off + i * 6 + 2, none⟩ = some (.int .i64 (ael l i).cnt) ∧ w.cell? ⟨b, off + i * 6 + 3, none⟩ = some (.int .i64 (ael l i).sum) ∧ w.cell? ⟨b, off + i * 6 + 4, none⟩ = some (.int .i64 (ael l i).mn) ∧ w.cell? ⟨b, off + i * 6 + 5, none⟩ = some (.int .i64 (ael l i).mx) := by
  obtain ⟨b, off, ha, hlt, hc⟩ := h.cells hne
  exact ⟨b, off, ha, hlt, fun i hi => ⟨hc i hi 0 (by omega), hc i hi 1 (by omega), hc i hi 2 (by omega), hc i hi 3 (by omega), hc i hi 4 (by omega), hc i hi 5 (by omega)⟩⟩
theorem Ags.of_own {w : World} {T : TypeId} {lo n c : Nat} {a : Option Addr} {l : List Ag} (h : w.ownsRow lo T 6 (.slice a n c) n (flatA l)) : Ags w w.heap.size a c l := Recs.of_own aC_len (by omega) h
theorem Rw.as {w : World} {T : TypeId} {lo up n c : Nat} {a : Option Addr} {l : List Ag} (h : Rw T 6 lo up a n c (flatA l) w) : Ags w w.heap.size a c l := Ags.of_own h.own
theorem Rw.alen {w : World} {T : TypeId} {lo up n c : Nat} {a : Option Addr} {l : List Ag} (h : Rw T 6 lo up a n c (flatA l) w) : n = l.length := ownR_len aC_len (by omega) h.own
theorem own_ag {w : World} {lo g n c : Nat} {T : TypeId} {l : List Ag} (h : w.ownsRow lo T 6 (.slice (some ⟨g, 0, none⟩) n c) n (flatA l)) (j : Nat) (hj : j < l.length) : w.cell? ⟨g, j * 6, none⟩ = some (.int .i64 (ael l j).win) ∧ w.cell? ⟨g, j * 6 + 1, none⟩ = some (.int .i64 (ael l j).key) ∧ w.cell? ⟨g, j * 6 + 2, none⟩ = some (.int .i64 (ael l j).cnt) ∧ w.cell? ⟨g, j * 6 + 3, none⟩ = some (.int .i64 (ael l j).sum) ∧ w.cell? ⟨g, j * 6 + 4, none⟩ = some (.int .i64 (ael l j).mn) ∧ w.cell? ⟨g, j * 6 + 5, none⟩ = some (.int .i64 (ael l j).mx) := by
  have hf := fun q hq => flatR_at aC 6 aD aC_len l j q hj hq
  have hn : n = l.length := ownR_len aC_len (by omega) h
  exact ⟨(h.cellAt (j * 6) (by omega)).trans (hf 0 (by omega)), (h.cellAt (j * 6 + 1) (by omega)).trans (hf 1 (by omega)), (h.cellAt (j * 6 + 2) (by omega)).trans (hf 2 (by omega)), (h.cellAt (j * 6 + 3) (by omega)).trans (hf 3 (by omega)), (h.cellAt (j * 6 + 4) (by omega)).trans (hf 4 (by omega)), (h.cellAt (j * 6 + 5) (by omega)).trans (hf 5 (by omega))⟩

theorem toAgg_x (win key cnt sum mn mx : Int) (w : World) : Calls Try.prog 81 #[(.agg #[.int .i64 win, .int .i64 key, .int .i64 cnt, .int .i64 sum, .int .i64 mn, .int .i64 mx])] w fun e w' => e = .returned (.agg #[.int .i64 win, .int .i64 key, .int .i64 cnt, .int .i64 sum, .int .i64 mn, .int .i64 mx]) ∧ Below w.heap.size w w' := by
  have BB := Lib.hid fun v0 v1 v2 v3 v4 v5 : Value => ((((Below.refl w.heap.size w).alloc (Nat.le_refl _) (.cells #[.int .i64 win, .int .i64 key, .int .i64 cnt, .int .i64 sum, .int .i64 mn, .int .i64 mx] 97)).alloc (by simp) (.cells #[.int .i64 0, .int .i64 0, .int .i64 0, .int .i64 0, .int .i64 0, .int .i64 0] 86)).alloc (by simp; omega) (.cells #[v0, v1, v2, v3, v4, v5] 86))
  go_enter Try.func81, Try.ntmps81
  go_wp2
  exact bodyPost_ret (v := (.agg #[.int .i64 win, .int .i64 key, .int .i64 cnt, .int .i64 sum, .int .i64 mn, .int .i64 mx])) (by simp [results, Try.results81, go_sem]) rfl ⟨rfl, (((Below.refl _ _).alloc (Nat.le_refl _) _).alloc (by simp) _).alloc (by simp; omega) _⟩
theorem eqAgg_x (win key cnt sum mn mx : Int) (w : World) : Calls Try.prog 76 #[(.agg #[.int .i64 win, .int .i64 key, .int .i64 cnt, .int .i64 sum, .int .i64 mn, .int .i64 mx]), (.agg #[.int .i64 win, .int .i64 key, .int .i64 cnt, .int .i64 sum, .int .i64 mn, .int .i64 mx])] w fun e w' => e = .returned (.bool true) ∧ Below w.heap.size w w' := by
  have BB := Lib.hid (((Below.refl w.heap.size w).alloc (Nat.le_refl _) (.cells #[.int .i64 win, .int .i64 key, .int .i64 cnt, .int .i64 sum, .int .i64 mn, .int .i64 mx] 86)).alloc (by simp) (.cells #[.int .i64 win, .int .i64 key, .int .i64 cnt, .int .i64 sum, .int .i64 mn, .int .i64 mx] 86))
  have hwin : (win != win) = false := by simp
  have hkey : (key != key) = false := by simp
  have hcnt : (cnt != cnt) = false := by simp
  have hsum : (sum != sum) = false := by simp
  have hmn : (mn != mn) = false := by simp
  have hmx : (mx != mx) = false := by simp
  go_enter Try.func76, Try.ntmps76
  go_wp2
  go_ret
  exact ⟨rfl, BB.out⟩
theorem szAggS_any (a : Option Addr) (n c : Nat) (w : World) (hn : n ≤ 9223372036854775807) :
    Calls Try.prog 40 #[.slice a n c, .int .i64 1048576] w fun e w' => e = .returned (.int .i64 (if (1048576 : Int) - (n : Int) < 0 then -1 else 1048576 - (n : Int))) ∧ w = w' := by
  by_cases h : (1048576 : Int) - (n : Int) < 0
  · rw [if_pos h]
    go_enter Try.func40, Try.ntmps40
    go_wp2
    go_ret
    exact ⟨rfl, rfl⟩
  · rw [if_neg h]
    go_enter Try.func40, Try.ntmps40
    go_wp2
    go_ret
    exact ⟨rfl, rfl⟩
theorem infoAgg : (Try.prog.info? 86).map (fun i => (i.zero, i.size, i.bytes)) = some (some (.agg #[.int .i64 0, .int .i64 0, .int .i64 0, .int .i64 0, .int .i64 0, .int .i64 0]), 6, 48) := by kernel_rfl
theorem run_make_Ag (n : Nat) (hn : n ≤ 1048576) : ∃ CS : Array Value, CS.size = n * 6 ∧ ∀ W : World, (Instr.makeSlice 45 (.int .i64 (n : Int)) (.int .i64 (n : Int))).run Try.prog W = .ok (.slice (some ⟨W.heap.size, 0, none⟩) n n) (W.alloc (.cells CS 86)) := by
  obtain ⟨i, hi, hzz⟩ := Option.map_eq_some_iff.1 infoAgg
  simp only [Prod.mk.injEq] at hzz
  obtain ⟨hz, hs, hb⟩ := hzz
  refine ⟨madeCells (Value.cells (.agg #[.int .i64 0, .int .i64 0, .int .i64 0, .int .i64 0, .int .i64 0, .int .i64 0])) (n * 6), size_madeCells _ _, fun W => ?_⟩
  have h := run_make (P := Try.prog) W 45 86 i _ Try.underlying45 hi hz .i64 .i64 n n (by omega) (Int.le_refl _) (by rw [hb]; omega) (by omega)
  simp only [Int.toNat_natCast, hs] at h
  exact h
/-- The copy, j records done. -/
structure CopiedAg (g : Nat) (l : List Ag) (j : Nat) (W : World) : Prop where
  ex : ∃ cs : Array Value, Blk W g 86 cs ∧ cs.size = l.length * 6 ∧ ∀ i q, i < j → q < 6 → cs[i * 6 + q]? = (aC (ael l i))[q]?
theorem CopiedAg.start {g : Nat} {l : List Ag} {W : World} {cs : Array Value} (h : Blk W g 86 cs) (hs : cs.size = l.length * 6) : CopiedAg g l 0 W :=
  ⟨⟨cs, h, hs, fun i q hi => absurd hi (by omega)⟩⟩
theorem CopiedAg.step {g j : Nat} {l : List Ag} {W W' : World} (h : CopiedAg g l j W) (hj : j < l.length) (hb : Below W.heap.size W W') : CopiedAg g l (j + 1) ((((((W'.setCell ⟨g, j * 6, none⟩ (.int .i64 (ael l j).win)).setCell ⟨g, j * 6 + 1, none⟩ (.int .i64 (ael l j).key)).setCell ⟨g, j * 6 + 2, none⟩ (.int .i64 (ael l j).cnt)).setCell ⟨g, j * 6 + 3, none⟩ (.int .i64 (ael l j).sum)).setCell ⟨g, j * 6 + 4, none⟩ (.int .i64 (ael l j).mn)).setCell ⟨g, j * 6 + 5, none⟩ (.int .i64 (ael l j).mx)) := by
  obtain ⟨cs, hB, hs, hc⟩ := h.ex
  refine ⟨⟨_, (((((((hB.below hb).put_ (j * 6) _).put_ (j * 6 + 1) _).put_ (j * 6 + 2) _).put_ (j * 6 + 3) _).put_ (j * 6 + 4) _).put_ (j * 6 + 5) _), by simpa using hs, fun i q hi hq => ?_⟩⟩
  by_cases he : i = j
  · subst he
    have h5 : q = 0 ∨ q = 1 ∨ q = 2 ∨ q = 3 ∨ q = 4 ∨ q = 5 := by omega
    rcases h5 with rfl | rfl | rfl | rfl | rfl | rfl
    all_goals
      simp [Array.getElem?_setIfInBounds, aC]
      try omega
  · have h0 := hc i q (by omega) hq
    rw [Array.getElem?_setIfInBounds_ne (by omega), Array.getElem?_setIfInBounds_ne (by omega), Array.getElem?_setIfInBounds_ne (by omega), Array.getElem?_setIfInBounds_ne (by omega), Array.getElem?_setIfInBounds_ne (by omega), Array.getElem?_setIfInBounds_ne (by omega)]
    exact h0
theorem CopiedAg.owns {g lo : Nat} {l : List Ag} {W : World} (h : CopiedAg g l l.length W) (hl : l.length ≤ 1048576) (hlo : lo ≤ g) : W.ownsRow lo 86 6 (.slice (some ⟨g, 0, none⟩) l.length l.length) l.length (flatA l) := by
  obtain ⟨cs, hB, hs, hc⟩ := h.ex
  refine ⟨flatA_len l, .inr ⟨g, l.length, cs, rfl, hlo, hB, Nat.le_refl _, by unfold maxLen; omega, hs, ?_⟩⟩
  have hl2 : cs.toList.length = l.length * 6 := by rw [Array.length_toList, hs]
  rw [List.take_of_length_le (by omega)]
  refine List.ext_getElem? fun m => ?_
  by_cases hm : m < l.length * 6
  · have h1 := hc (m / 6) (m % 6) (by omega) (by omega)
    have h2 := flatR_at aC 6 aD aC_len l (m / 6) (m % 6) (by omega) (by omega)
    have e1 : m / 6 * 6 + m % 6 = m := by omega
    rw [e1] at h1 h2
    rw [Array.getElem?_toList, h1]
    exact h2.symm
  · rw [List.getElem?_eq_none (by omega), List.getElem?_eq_none (by rw [flatA_len]; omega)]
set_option maxHeartbeats 1000000 in
set_option maxRecDepth 100000 in
theorem toAggS_any (a : Option Addr) (n c : Nat) (l : List Ag) (hi : Nat) (w : World) (hr : Ags w hi a c l) (hn : n = l.length) (hB : hi ≤ w.heap.size) (hlen : l.length ≤ 1048576) :
    Calls Try.prog 42 #[.slice a n c] w (FreshR aC 86 6 l w) := by
  subst hn
  obtain ⟨CS, hcs, hmk⟩ := run_make_Ag l.length hlen
  have hc1 := hr.cap
  have hc2 := hr.big
  have HR := Lib.hid hr
  have C0 := Lib.hid (CopiedAg.start (Blk.new w 86 CS) hcs)
  have B0 := Lib.hid ((Below.refl w.heap.size w).alloc (Nat.le_refl _) (.cells CS 86))
  clear hr hcs
  go_enter Try.func42, Try.ntmps42
  go_wp2
  go_loopw [4] (fun i wr => ∃ j : Nat, j ≤ l.length ∧ i = .int .i64 j ∧ CopiedAg w.heap.size l j wr ∧ Below w.heap.size w wr) (fun i _ => l.length - (intOf i).toNat)
  case atStart => exact ⟨0, Nat.zero_le _, rfl, C0.out, B0.out⟩
  case round =>
    obtain ⟨j, hj, rfl, hcp, hb⟩ := hrel
    have hsz := hb.size
    have HB := Lib.hid hb
    have HC := Lib.hid hcp
    by_cases hlt : j < l.length
    · obtain ⟨b, off, rfl, hbh, hcell⟩ := Ags.six (HR.out.below (hb.mono hB)) (by omega)
      obtain ⟨q0, q1, q2, q3, q4, q5⟩ := hcell j hlt
      have HST := Lib.hid (fun (W' : World) hb => hcp.step (W' := W') hlt hb)
      have hlt' : (j : Int) < (l.length : Int) := by omega
      clear hcell hb hcp
      generalize ael l j = S at q0 q1 q2 q3 q4 q5 HST
      obtain ⟨win, key, cnt, sum, mn, mx⟩ := S
      simp only at q0 q1 q2 q3 q4 q5 HST
      have HTS := Lib.hid (fun W => toAgg_x win key cnt sum mn mx W)
      go_wp2_with fail
      refine (HTS.out _).mono ?_
      rintro e w3 ⟨rfl, hb3⟩
      have HS3 := Lib.hid (HST.out w3 hb3)
      have HB3 := Lib.hid (HB.out.trans (hb3.mono hsz))
      have s3 := hb3.size
      have hfz : ∀ i, w3.frozen? ⟨w.heap.size, i, none⟩ = false := by
        obtain ⟨cs, hBk, hs_, _⟩ := HC.out.ex
        exact (hBk.below hb3).frozen
      have hcl : ∀ q, q < 6 → ∃ v, w3.cell? ⟨w.heap.size, j * 6 + q, none⟩ = some v := fun q hq => by
        obtain ⟨cs, hBk, hs_, _⟩ := HC.out.ex
        rw [(hBk.below hb3).cell]
        exact ⟨cs[j * 6 + q]'(by omega), by rw [Array.getElem?_eq_getElem]⟩
      obtain ⟨v0, c0⟩ := hcl 0 (by omega)
      obtain ⟨v1, c1⟩ := hcl 1 (by omega)
      obtain ⟨v2, c2⟩ := hcl 2 (by omega)
      obtain ⟨v3, c3⟩ := hcl 3 (by omega)
      obtain ⟨v4, c4⟩ := hcl 4 (by omega)
      obtain ⟨v5, c5⟩ := hcl 5 (by omega)
      rw [Nat.add_zero] at c0
      clear hb3 hcl q0 q1 q2 q3 q4 q5
      go_wp2
      go_roundw
      case rel => exact ⟨j + 1, by omega, by go_num, HS3.out, ((((((HB3.out.setCell (p := ⟨w.heap.size, j * 6, none⟩) (Nat.le_refl _) _).setCell (p := ⟨w.heap.size, j * 6 + 1, none⟩) (Nat.le_refl _) _).setCell (p := ⟨w.heap.size, j * 6 + 2, none⟩) (Nat.le_refl _) _).setCell (p := ⟨w.heap.size, j * 6 + 3, none⟩) (Nat.le_refl _) _).setCell (p := ⟨w.heap.size, j * 6 + 4, none⟩) (Nat.le_refl _) _).setCell (p := ⟨w.heap.size, j * 6 + 5, none⟩) (Nat.le_refl _) _)⟩
      case measure => simp [intOf]; omega
    · obtain rfl : j = l.length := by omega
      have HP : Hid (FreshR aC 86 6 l w (.returned (.slice (some ⟨w.heap.size, 0, none⟩) l.length l.length)) wr) := ⟨_, _, rfl, hcp.owns hlen (Nat.le_refl _), hb⟩
      clear hcp hb
      go_wp2
      go_ret
      exact HP.out
set_option maxHeartbeats 1000000 in
set_option maxRecDepth 100000 in
theorem eqAggS_any (a b : Option Addr) (n m ca cb : Nat) (l : List Ag) (ha hb : Nat) (w : World) (h1 : Ags w ha a ca l) (h2 : Ags w hb b cb l) (hn : n = l.length) (hm : m = l.length) (hB1 : ha ≤ w.heap.size) (hB2 : hb ≤ w.heap.size) :
    Calls Try.prog 35 #[.slice a n ca, .slice b m cb] w fun e w' => e = .returned (.bool true) ∧ Below w.heap.size w w' := by
  subst hn
  subst hm
  have hc1 := h1.cap
  have hc2 := h1.big
  have hc3 := h2.cap
  have hc4 := h2.big
  have H1 := Lib.hid h1
  have H2 := Lib.hid h2
  clear h1 h2
  go_enter Try.func35, Try.ntmps35
  go_wp2
  go_loopw [5] (fun i wr => ∃ j : Nat, j ≤ l.length ∧ i = .int .i64 j ∧ Below w.heap.size w wr) (fun i _ => l.length - (intOf i).toNat)
  case atStart => exact ⟨0, Nat.zero_le _, rfl, Below.refl _ _⟩
  case round =>
    obtain ⟨j, hj, rfl, hbw⟩ := hrel
    have hsz := hbw.size
    have HB := Lib.hid hbw
    by_cases hlt : j < l.length
    · obtain ⟨b1, off1, rfl, _, hcell1⟩ := Ags.six (H1.out.below (hbw.mono hB1)) (by omega)
      obtain ⟨b2, off2, rfl, _, hcell2⟩ := Ags.six (H2.out.below (hbw.mono hB2)) (by omega)
      obtain ⟨p0, p1, p2, p3, p4, p5⟩ := hcell1 j hlt
      obtain ⟨q0, q1, q2, q3, q4, q5⟩ := hcell2 j hlt
      have hlt' : (j : Int) < (l.length : Int) := by omega
      clear hcell1 hcell2 hbw
      generalize ael l j = S at p0 p1 p2 p3 p4 p5 q0 q1 q2 q3 q4 q5
      obtain ⟨win, key, cnt, sum, mn, mx⟩ := S
      simp only at p0 p1 p2 p3 p4 p5 q0 q1 q2 q3 q4 q5
      go_wp2_with fail
      go_region_with (go_at_call 76; refine (eqAgg_x win key cnt sum mn mx _).mono ?_; rintro e w3 ⟨rfl, hb⟩; have HB3 := Lib.hid ((HB.out.drew).trans (hb.mono hsz)); clear hb)
      all_goals
        clear p0 p1 p2 p3 p4 p5 q0 q1 q2 q3 q4 q5
        go_wp2
        go_roundw
        case rel => exact ⟨j + 1, by omega, by go_num, HB3.out⟩
        case measure => simp [intOf]; omega
    · obtain rfl : j = l.length := by omega
      clear hbw
      go_wp2
      go_ret
      exact ⟨rfl, HB.out⟩
/-- The marks of n records from m on. -/
def markA (m i : Nat) : Ag := ⟨((m + 6 * i : Nat) : Int), ((m + 6 * i + 1 : Nat) : Int), ((m + 6 * i + 2 : Nat) : Int), ((m + 6 * i + 3 : Nat) : Int), ((m + 6 * i + 4 : Nat) : Int), ((m + 6 * i + 5 : Nat) : Int)⟩
def marksA (m n : Nat) : List Ag := (List.range n).map (markA m)
theorem marksA_len (m n : Nat) : (marksA m n).length = n := by simp [marksA]
theorem marksA_at (m n i : Nat) (hi : i < n) : ael (marksA m n) i = markA m i := by simp [marksA, ael, rel, List.getD, hi]
def markToA (m : Nat) (l : List Ag) (j : Nat) : List Ag := marksA m j ++ l.drop j
theorem markToA_zero (m : Nat) (l : List Ag) : markToA m l 0 = l := by simp [markToA, marksA]
theorem markToA_len (m : Nat) (l : List Ag) (j : Nat) (hj : j ≤ l.length) : (markToA m l j).length = l.length := by simp [markToA, marksA_len]; omega
theorem markToA_all (m : Nat) (l : List Ag) : markToA m l l.length = marksA m l.length := by simp [markToA]
theorem markToA_step (m : Nat) (l : List Ag) (j : Nat) (hj : j < l.length) : (((((((flatA (markToA m l j)).set (j * 6) (.int .i64 ((m + 6 * j : Nat) : Int))).set (j * 6 + 1) (.int .i64 ((m + 6 * j + 1 : Nat) : Int))).set (j * 6 + 2) (.int .i64 ((m + 6 * j + 2 : Nat) : Int))).set (j * 6 + 3) (.int .i64 ((m + 6 * j + 3 : Nat) : Int))).set (j * 6 + 4) (.int .i64 ((m + 6 * j + 4 : Nat) : Int))).set (j * 6 + 5) (.int .i64 ((m + 6 * j + 5 : Nat) : Int))) = flatA (markToA m l (j + 1)) := by
  have e1 : marksA m (j + 1) = marksA m j ++ [markA m j] := by simp [marksA, List.range_succ]
  have e2 : l.drop j = ael l j :: l.drop (j + 1) := rel_drop aD hj
  have hl : (flatA (marksA m j)).length = j * 6 := by rw [flatA_len, marksA_len]
  unfold markToA
  rw [e1, e2, flatA_append, flatA_append, flatA_append]
  have e3 : ∀ (f : Ag) (r : List Ag), flatA (f :: r) = aC f ++ flatA r := fun _ _ => rfl
  have e4 : ∀ (f : Ag), flatA [f] = aC f := fun f => by simp [flatA, flatR]
  rw [e3, e4]
  rw [List.set_append_right _ _ (by omega), List.set_append_right _ _ (by omega), List.set_append_right _ _ (by omega), List.set_append_right _ _ (by omega), List.set_append_right _ _ (by omega), List.set_append_right _ _ (by omega), hl]
  have i0 : j * 6 - j * 6 = 0 := by omega
  have i1 : j * 6 + 1 - j * 6 = 1 := by omega
  have i2 : j * 6 + 2 - j * 6 = 2 := by omega
  have i3 : j * 6 + 3 - j * 6 = 3 := by omega
  have i4 : j * 6 + 4 - j * 6 = 4 := by omega
  have i5 : j * 6 + 5 - j * 6 = 5 := by omega
  rw [i0, i1, i2, i3, i4, i5]
  simp [aC, markA]
set_option maxRecDepth 100000 in
set_option maxHeartbeats 2000000 in
theorem markAggS_m (a : Option Addr) (n c m : Nat) (M : Int) (l : List Ag) (lo : Nat) (w : World) (hr : w.ownsRow lo 86 6 (.slice a n c) n (flatA l)) (hM : M = (m : Int)) (hn : n = l.length) (hlo : lo ≤ w.heap.size) (hlen : n ≤ 1048576) (hm : m ≤ 1073741824) :
    Calls Try.prog 38 #[.slice a n c, .int .i64 M] w fun e w' => e = .returned (.int .i64 (M + 6 * (n : Int))) ∧ MarkedR 86 6 lo a c n (flatA (marksA m n)) w w' := by
  subst hM
  subst hn
  have hc := ownR_cap hr
  have HR := Lib.hid hr
  clear hr
  go_enter Try.func38, Try.ntmps38
  go_wp2
  go_loopw [1, 5] (fun k i wr => ∃ j : Nat, j ≤ l.length ∧ i = .int .i64 j ∧ k = .int .i64 ((m : Int) + 6 * (j : Int)) ∧ wr.ownsRow lo 86 6 (.slice a l.length c) l.length (flatA (markToA m l j)) ∧ w.grownBy wr (Value.slice a l.length c).ownBlock) (fun _ i _ => l.length - (intOf i).toNat)
  case atStart => exact ⟨0, Nat.zero_le _, rfl, by simp, by rw [markToA_zero]; exact HR.out, World.grownBy.refl _ _⟩
  case round =>
    obtain ⟨j, hj, rfl, rfl, hown, hg⟩ := hrel
    by_cases hlt : j < l.length
    · obtain ⟨g, rfl, _, _⟩ := ownR_block hown (by omega)
      have e0 : ((m + 6 * j : Nat) : Int) = (m : Int) + 6 * (j : Int) := by omega
      have e1 : ((m + 6 * j + 1 : Nat) : Int) = (m : Int) + 6 * (j : Int) + 1 := by omega
      have e2 : ((m + 6 * j + 2 : Nat) : Int) = (m : Int) + 6 * (j : Int) + 1 + 1 := by omega
      have e3 : ((m + 6 * j + 3 : Nat) : Int) = (m : Int) + 6 * (j : Int) + 1 + 1 + 1 := by omega
      have e4 : ((m + 6 * j + 4 : Nat) : Int) = (m : Int) + 6 * (j : Int) + 1 + 1 + 1 + 1 := by omega
      have e5 : ((m + 6 * j + 5 : Nat) : Int) = (m : Int) + 6 * (j : Int) + 1 + 1 + 1 + 1 + 1 := by omega
      have hstep := markToA_step m l j hlt
      rw [e0, e1, e2, e3, e4, e5] at hstep
      have hll := flatA_len (markToA m l j)
      rw [markToA_len m l j hj] at hll
      have s0 := hown.stored (j * 6) (.int .i64 ((m : Int) + 6 * (j : Int)))
      have s1 := s0.1.stored (j * 6 + 1) (.int .i64 ((m : Int) + 6 * (j : Int) + 1))
      have s2 := s1.1.stored (j * 6 + 2) (.int .i64 ((m : Int) + 6 * (j : Int) + 1 + 1))
      have s3 := s2.1.stored (j * 6 + 3) (.int .i64 ((m : Int) + 6 * (j : Int) + 1 + 1 + 1))
      have s4 := s3.1.stored (j * 6 + 4) (.int .i64 ((m : Int) + 6 * (j : Int) + 1 + 1 + 1 + 1))
      have s5 := s4.1.stored (j * 6 + 5) (.int .i64 ((m : Int) + 6 * (j : Int) + 1 + 1 + 1 + 1 + 1))
      rw [hstep] at s5
      obtain ⟨u0, c0⟩ : ∃ u, wr.cell? ⟨g, j * 6, none⟩ = some u := ⟨_, (hown.cellAt (j * 6) (by omega)).trans (List.getElem?_eq_getElem (by omega))⟩
      obtain ⟨u1, c1⟩ : ∃ u, (wr.setCell ⟨g, j * 6, none⟩ (.int .i64 ((m : Int) + 6 * (j : Int)))).cell? ⟨g, j * 6 + 1, none⟩ = some u := ⟨_, (s0.1.cellAt (j * 6 + 1) (by omega)).trans (List.getElem?_eq_getElem (by rw [List.length_set]; omega))⟩
      obtain ⟨u2, c2⟩ : ∃ u, ((wr.setCell ⟨g, j * 6, none⟩ (.int .i64 ((m : Int) + 6 * (j : Int)))).setCell ⟨g, j * 6 + 1, none⟩ (.int .i64 ((m : Int) + 6 * (j : Int) + 1))).cell? ⟨g, j * 6 + 2, none⟩ = some u := ⟨_, (s1.1.cellAt (j * 6 + 2) (by omega)).trans (List.getElem?_eq_getElem (by rw [List.length_set, List.length_set]; omega))⟩
      obtain ⟨u3, c3⟩ : ∃ u, (((wr.setCell ⟨g, j * 6, none⟩ (.int .i64 ((m : Int) + 6 * (j : Int)))).setCell ⟨g, j * 6 + 1, none⟩ (.int .i64 ((m : Int) + 6 * (j : Int) + 1))).setCell ⟨g, j * 6 + 2, none⟩ (.int .i64 ((m : Int) + 6 * (j : Int) + 1 + 1))).cell? ⟨g, j * 6 + 3, none⟩ = some u := ⟨_, (s2.1.cellAt (j * 6 + 3) (by omega)).trans (List.getElem?_eq_getElem (by rw [List.length_set, List.length_set, List.length_set]; omega))⟩
      obtain ⟨u4, c4⟩ : ∃ u, ((((wr.setCell ⟨g, j * 6, none⟩ (.int .i64 ((m : Int) + 6 * (j : Int)))).setCell ⟨g, j * 6 + 1, none⟩ (.int .i64 ((m : Int) + 6 * (j : Int) + 1))).setCell ⟨g, j * 6 + 2, none⟩ (.int .i64 ((m : Int) + 6 * (j : Int) + 1 + 1))).setCell ⟨g, j * 6 + 3, none⟩ (.int .i64 ((m : Int) + 6 * (j : Int) + 1 + 1 + 1))).cell? ⟨g, j * 6 + 4, none⟩ = some u := ⟨_, (s3.1.cellAt (j * 6 + 4) (by omega)).trans (List.getElem?_eq_getElem (by rw [List.length_set, List.length_set, List.length_set, List.length_set]; omega))⟩
      obtain ⟨u5, c5⟩ : ∃ u, (((((wr.setCell ⟨g, j * 6, none⟩ (.int .i64 ((m : Int) + 6 * (j : Int)))).setCell ⟨g, j * 6 + 1, none⟩ (.int .i64 ((m : Int) + 6 * (j : Int) + 1))).setCell ⟨g, j * 6 + 2, none⟩ (.int .i64 ((m : Int) + 6 * (j : Int) + 1 + 1))).setCell ⟨g, j * 6 + 3, none⟩ (.int .i64 ((m : Int) + 6 * (j : Int) + 1 + 1 + 1))).setCell ⟨g, j * 6 + 4, none⟩ (.int .i64 ((m : Int) + 6 * (j : Int) + 1 + 1 + 1 + 1))).cell? ⟨g, j * 6 + 5, none⟩ = some u := ⟨_, (s4.1.cellAt (j * 6 + 5) (by omega)).trans (List.getElem?_eq_getElem (by rw [List.length_set, List.length_set, List.length_set, List.length_set, List.length_set]; omega))⟩
      have f0 := hown.frozenAt (j * 6)
      have f1 := s0.1.frozenAt (j * 6 + 1)
      have f2 := s1.1.frozenAt (j * 6 + 2)
      have f3 := s2.1.frozenAt (j * 6 + 3)
      have f4 := s3.1.frozenAt (j * 6 + 4)
      have f5 := s4.1.frozenAt (j * 6 + 5)
      have G0 := Lib.hid (grown_trans (grown_trans (grown_trans (grown_trans (grown_trans (grown_trans hg s0.2) s1.2) s2.2) s3.2) s4.2) s5.2)
      have S3 := Lib.hid s5.1
      clear hstep hll s0 s1 s2 s3 s4 s5 hown hg e0 e1 e2 e3 e4 e5
      go_wp2
      go_roundw
      case rel => exact ⟨j + 1, by omega, by go_num, by go_num, S3.out, G0.out⟩
      case measure => simp [intOf]; omega
    · obtain rfl : j = l.length := by omega
      rw [markToA_all] at hown
      have HO := Lib.hid hown
      have HG := Lib.hid hg
      have HP : Hid (MarkedR 86 6 lo a c l.length (flatA (marksA m l.length)) w wr) := ⟨HO.out, ⟨HG.out.os, HG.out.tape, HG.out.output, HG.out.size, fun k hk => HG.out.block k (by omega) (fun e => by have := (HO.out.lt k e.symm).1; omega)⟩, HG.out⟩
      clear hown hg
      go_wp2
      go_ret
      exact ⟨rfl, HP.out⟩
set_option maxRecDepth 100000 in
set_option maxHeartbeats 2000000 in
theorem heldAggS_m (a : Option Addr) (n c m : Nat) (M : Int) (hi : Nat) (w : World) (hr : Ags w hi a c (marksA m n)) (hM : M = (m : Int)) (hlen : n ≤ 1048576) (hm : m ≤ 1073741824) :
    Calls Try.prog 39 #[.slice a n c, .int .i64 M] w fun e w' => e = .returned (.int .i64 (M + 6 * (n : Int))) ∧ Below w.heap.size w w' := by
  subst hM
  have hc1 := hr.cap
  have hc2 := hr.big
  rw [marksA_len] at hc1
  have HR := Lib.hid hr
  clear hr
  go_enter Try.func39, Try.ntmps39
  go_wp2
  go_loop [1, 5] (fun k i => ∃ j : Nat, j ≤ n ∧ i = .int .i64 j ∧ k = .int .i64 ((m : Int) + 6 * (j : Int))) (fun _ i => n - (intOf i).toNat)
  case atStart => exact ⟨0, Nat.zero_le _, rfl, by simp⟩
  case round =>
    obtain ⟨j, hj, rfl, rfl⟩ := hrel
    by_cases hlt : j < n
    · obtain ⟨b, off, rfl, _, hcell⟩ := Ags.six HR.out (by rw [marksA_len]; omega)
      obtain ⟨z0, z1, z2, z3, z4, z5⟩ := hcell j (by rw [marksA_len]; exact hlt)
      rw [marksA_at m n j hlt] at z0 z1 z2 z3 z4 z5
      have e0 : (markA m j).win = (m : Int) + 6 * (j : Int) := by simp [markA]
      have e1 : (markA m j).key = (m : Int) + 6 * (j : Int) + 1 := by simp [markA]
      have e2 : (markA m j).cnt = (m : Int) + 6 * (j : Int) + 1 + 1 := by simp [markA]; omega
      have e3 : (markA m j).sum = (m : Int) + 6 * (j : Int) + 1 + 1 + 1 := by simp [markA]; omega
      have e4 : (markA m j).mn = (m : Int) + 6 * (j : Int) + 1 + 1 + 1 + 1 := by simp [markA]; omega
      have e5 : (markA m j).mx = (m : Int) + 6 * (j : Int) + 1 + 1 + 1 + 1 + 1 := by simp [markA]; omega
      rw [e0] at z0
      rw [e1] at z1
      rw [e2] at z2
      rw [e3] at z3
      rw [e4] at z4
      rw [e5] at z5
      have d0 : (((m : Int) + 6 * (j : Int)) != ((m : Int) + 6 * (j : Int))) = false := by simp
      have d1 : (((m : Int) + 6 * (j : Int) + 1) != ((m : Int) + 6 * (j : Int) + 1)) = false := by simp
      have d2 : (((m : Int) + 6 * (j : Int) + 1 + 1) != ((m : Int) + 6 * (j : Int) + 1 + 1)) = false := by simp
      have d3 : (((m : Int) + 6 * (j : Int) + 1 + 1 + 1) != ((m : Int) + 6 * (j : Int) + 1 + 1 + 1)) = false := by simp
      have d4 : (((m : Int) + 6 * (j : Int) + 1 + 1 + 1 + 1) != ((m : Int) + 6 * (j : Int) + 1 + 1 + 1 + 1)) = false := by simp
      have d5 : (((m : Int) + 6 * (j : Int) + 1 + 1 + 1 + 1 + 1) != ((m : Int) + 6 * (j : Int) + 1 + 1 + 1 + 1 + 1)) = false := by simp
      clear hcell e0 e1 e2 e3 e4 e5
      go_wp2
      go_round
      case rel => exact ⟨j + 1, by omega, by go_num, by go_num⟩
      case measure => simp [intOf]; omega
    · obtain rfl : j = n := by omega
      go_wp2
      go_ret
      exact ⟨rfl, Below.refl _ _⟩
end Go.Proofs.Ytchbmnpajnlijaa
