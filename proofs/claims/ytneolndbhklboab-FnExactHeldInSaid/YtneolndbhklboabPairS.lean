/- Rows of Pair: the record, and the contracts of the laws' own helpers over it (made by mkrows.py). -/
import Derived.Test.YtneolndbhklboabProg
import Derived.Test.YtneolndbhklboabRecs
import Derived.WalkKit
import Derived.WalkSpells
import Derived.ProofKit
import Derived.Lib.Hide
import Derived.Outline
import Derived.Laws.MakeOwn
import Derived.Laws.OwnMore
import Derived.Deep.RegionWith
namespace Go.Proofs.Ytneolndbhklboab
open Go.RowKit

structure Pr where
  ky : Int
  lt : Int
  rt : Int
  lv : Int
  rv : Int
deriving DecidableEq
def gD : Pr := ⟨0, 0, 0, 0, 0⟩
def gC (S : Pr) : List Value := [.int .i64 S.ky, .int .i64 S.lt, .int .i64 S.rt, .int .i64 S.lv, .int .i64 S.rv]
theorem gC_len (S : Pr) : (gC S).length = 5 := rfl
/-- The record at i. -/
def gel (l : List Pr) (i : Nat) : Pr := rel gD l i
def flatG (l : List Pr) : List Value := flatR gC l
theorem flatG_len (l : List Pr) : (flatG l).length = l.length * 5 := flatR_len gC 5 gC_len l
theorem flatG_append (l m : List Pr) : flatG (l ++ m) = flatG l ++ flatG m := flatR_append gC l m
theorem gel_take {l : List Pr} {i : Nat} (hi : i < l.length) : l.take (i + 1) = l.take i ++ [gel l i] := rel_take gD hi
/-- A slice of records, all below block hi, reads as l. -/
abbrev Prs (w : World) (hi : Nat) (a : Option Addr) (c : Nat) (l : List Pr) : Prop := Recs gC 5 gD w hi a c l
theorem Prs.six {w : World} {hi c : Nat} {a : Option Addr} {l : List Pr} (h : Prs w hi a c l) (hne : 0 < l.length) : ∃ b off, a = some ⟨b, off, none⟩ ∧ b < hi ∧ ∀ i, i < l.length → w.cell? ⟨b, off + i * 5, none⟩ = some (.int .i64 (gel l i).ky) ∧ w.cell? ⟨b, off + i * 5 + 1, none⟩ = some (.int .i64 (gel l i).lt) ∧ w.cell? ⟨b, off + i * 5 + 2, none⟩ = some (.int .i64 (gel l i).rt) ∧ w.cell? ⟨b, off + i * 5 + 3, none⟩ = some (.int .i64 (gel l i).lv) ∧ w.cell? ⟨b, off + i * 5 + 4, none⟩ = some (.int .i64 (gel l i).rv) := by
  obtain ⟨b, off, ha, hlt, hc⟩ := h.cells hne
  exact ⟨b, off, ha, hlt, fun i hi => ⟨hc i hi 0 (by omega), hc i hi 1 (by omega), hc i hi 2 (by omega), hc i hi 3 (by omega), hc i hi 4 (by omega)⟩⟩
theorem Prs.of_own {w : World} {T : TypeId} {lo n c : Nat} {a : Option Addr} {l : List Pr} (h : w.ownsRow lo T 5 (.slice a n c) n (flatG l)) : Prs w w.heap.size a c l := Recs.of_own gC_len (by omega) h
theorem Rw.gs {w : World} {T : TypeId} {lo up n c : Nat} {a : Option Addr} {l : List Pr} (h : Rw T 5 lo up a n c (flatG l) w) : Prs w w.heap.size a c l := Prs.of_own h.own
theorem Rw.glen {w : World} {T : TypeId} {lo up n c : Nat} {a : Option Addr} {l : List Pr} (h : Rw T 5 lo up a n c (flatG l) w) : n = l.length := ownR_len gC_len (by omega) h.own
theorem own_pr {w : World} {lo g n c : Nat} {T : TypeId} {l : List Pr} (h : w.ownsRow lo T 5 (.slice (some ⟨g, 0, none⟩) n c) n (flatG l)) (j : Nat) (hj : j < l.length) : w.cell? ⟨g, j * 5, none⟩ = some (.int .i64 (gel l j).ky) ∧ w.cell? ⟨g, j * 5 + 1, none⟩ = some (.int .i64 (gel l j).lt) ∧ w.cell? ⟨g, j * 5 + 2, none⟩ = some (.int .i64 (gel l j).rt) ∧ w.cell? ⟨g, j * 5 + 3, none⟩ = some (.int .i64 (gel l j).lv) ∧ w.cell? ⟨g, j * 5 + 4, none⟩ = some (.int .i64 (gel l j).rv) := by
  have hf := fun q hq => flatR_at gC 5 gD gC_len l j q hj hq
  have hn : n = l.length := ownR_len gC_len (by omega) h
  exact ⟨(h.cellAt (j * 5) (by omega)).trans (hf 0 (by omega)), (h.cellAt (j * 5 + 1) (by omega)).trans (hf 1 (by omega)), (h.cellAt (j * 5 + 2) (by omega)).trans (hf 2 (by omega)), (h.cellAt (j * 5 + 3) (by omega)).trans (hf 3 (by omega)), (h.cellAt (j * 5 + 4) (by omega)).trans (hf 4 (by omega))⟩

theorem eqPair_x (ky lt rt lv rv : Int) (w : World) : Calls Try.prog 36 #[(.agg #[.int .i64 ky, .int .i64 lt, .int .i64 rt, .int .i64 lv, .int .i64 rv]), (.agg #[.int .i64 ky, .int .i64 lt, .int .i64 rt, .int .i64 lv, .int .i64 rv])] w fun e w' => e = .returned (.bool true) ∧ Below w.heap.size w w' := by
  have BB := Lib.hid (((Below.refl w.heap.size w).alloc (Nat.le_refl _) (.cells #[.int .i64 ky, .int .i64 lt, .int .i64 rt, .int .i64 lv, .int .i64 rv] 58)).alloc (by simp) (.cells #[.int .i64 ky, .int .i64 lt, .int .i64 rt, .int .i64 lv, .int .i64 rv] 58))
  have hky : (ky != ky) = false := by simp
  have hlt : (lt != lt) = false := by simp
  have hrt : (rt != rt) = false := by simp
  have hlv : (lv != lv) = false := by simp
  have hrv : (rv != rv) = false := by simp
  go_enter Try.func36, Try.ntmps36
  go_wp2
  go_ret
  exact ⟨rfl, BB.out⟩
set_option maxHeartbeats 1000000 in
set_option maxRecDepth 100000 in
theorem eqPairS_any (a b : Option Addr) (n m ca cb : Nat) (l : List Pr) (ha hb : Nat) (w : World) (h1 : Prs w ha a ca l) (h2 : Prs w hb b cb l) (hn : n = l.length) (hm : m = l.length) (hB1 : ha ≤ w.heap.size) (hB2 : hb ≤ w.heap.size) :
    Calls Try.prog 15 #[.slice a n ca, .slice b m cb] w fun e w' => e = .returned (.bool true) ∧ Below w.heap.size w w' := by
  subst hn
  subst hm
  have hc1 := h1.cap
  have hc2 := h1.big
  have hc3 := h2.cap
  have hc4 := h2.big
  have H1 := Lib.hid h1
  have H2 := Lib.hid h2
  clear h1 h2
  go_enter Try.func15, Try.ntmps15
  go_wp2
  go_loopw [5] (fun i wr => ∃ j : Nat, j ≤ l.length ∧ i = .int .i64 j ∧ Below w.heap.size w wr) (fun i _ => l.length - (intOf i).toNat)
  case atStart => exact ⟨0, Nat.zero_le _, rfl, Below.refl _ _⟩
  case round =>
    obtain ⟨j, hj, rfl, hbw⟩ := hrel
    have hsz := hbw.size
    have HB := Lib.hid hbw
    by_cases hlt : j < l.length
    · obtain ⟨b1, off1, rfl, _, hcell1⟩ := Prs.six (H1.out.below (hbw.mono hB1)) (by omega)
      obtain ⟨b2, off2, rfl, _, hcell2⟩ := Prs.six (H2.out.below (hbw.mono hB2)) (by omega)
      obtain ⟨p0, p1, p2, p3, p4⟩ := hcell1 j hlt
      obtain ⟨q0, q1, q2, q3, q4⟩ := hcell2 j hlt
      have hlt' : (j : Int) < (l.length : Int) := by omega
      clear hcell1 hcell2 hbw
      generalize gel l j = S at p0 p1 p2 p3 p4 q0 q1 q2 q3 q4
      obtain ⟨ky, lt, rt, lv, rv⟩ := S
      simp only at p0 p1 p2 p3 p4 q0 q1 q2 q3 q4
      go_wp2_with fail
      go_region_with (go_at_call 36; refine (eqPair_x ky lt rt lv rv _).mono ?_; rintro e w3 ⟨rfl, hb⟩; have HB3 := Lib.hid ((HB.out.drew).trans (hb.mono hsz)); clear hb)
      all_goals
        clear p0 p1 p2 p3 p4 q0 q1 q2 q3 q4
        go_wp2
        go_roundw
        case rel => exact ⟨j + 1, by omega, by go_num, HB3.out⟩
        case measure => simp [intOf]; omega
    · obtain rfl : j = l.length := by omega
      clear hbw
      go_wp2
      go_ret
      exact ⟨rfl, HB.out⟩
/-- The marks of n records from m on. -/
def markG (m i : Nat) : Pr := ⟨((m + 5 * i : Nat) : Int), ((m + 5 * i + 1 : Nat) : Int), ((m + 5 * i + 2 : Nat) : Int), ((m + 5 * i + 3 : Nat) : Int), ((m + 5 * i + 4 : Nat) : Int)⟩
def marksG (m n : Nat) : List Pr := (List.range n).map (markG m)
theorem marksG_len (m n : Nat) : (marksG m n).length = n := by simp [marksG]
theorem marksG_at (m n i : Nat) (hi : i < n) : gel (marksG m n) i = markG m i := by simp [marksG, gel, rel, List.getD, hi]
def markToG (m : Nat) (l : List Pr) (j : Nat) : List Pr := marksG m j ++ l.drop j
theorem markToG_zero (m : Nat) (l : List Pr) : markToG m l 0 = l := by simp [markToG, marksG]
theorem markToG_len (m : Nat) (l : List Pr) (j : Nat) (hj : j ≤ l.length) : (markToG m l j).length = l.length := by simp [markToG, marksG_len]; omega
theorem markToG_all (m : Nat) (l : List Pr) : markToG m l l.length = marksG m l.length := by simp [markToG]
theorem markToG_step (m : Nat) (l : List Pr) (j : Nat) (hj : j < l.length) : ((((((flatG (markToG m l j)).set (j * 5) (.int .i64 ((m + 5 * j : Nat) : Int))).set (j * 5 + 1) (.int .i64 ((m + 5 * j + 1 : Nat) : Int))).set (j * 5 + 2) (.int .i64 ((m + 5 * j + 2 : Nat) : Int))).set (j * 5 + 3) (.int .i64 ((m + 5 * j + 3 : Nat) : Int))).set (j * 5 + 4) (.int .i64 ((m + 5 * j + 4 : Nat) : Int))) = flatG (markToG m l (j + 1)) := by
  have e1 : marksG m (j + 1) = marksG m j ++ [markG m j] := by simp [marksG, List.range_succ]
  have e2 : l.drop j = gel l j :: l.drop (j + 1) := rel_drop gD hj
  have hl : (flatG (marksG m j)).length = j * 5 := by rw [flatG_len, marksG_len]
  unfold markToG
  rw [e1, e2, flatG_append, flatG_append, flatG_append]
  have e3 : ∀ (f : Pr) (r : List Pr), flatG (f :: r) = gC f ++ flatG r := fun _ _ => rfl
  have e4 : ∀ (f : Pr), flatG [f] = gC f := fun f => by simp [flatG, flatR]
  rw [e3, e4]
  rw [List.set_append_right _ _ (by omega), List.set_append_right _ _ (by omega), List.set_append_right _ _ (by omega), List.set_append_right _ _ (by omega), List.set_append_right _ _ (by omega), hl]
  have i0 : j * 5 - j * 5 = 0 := by omega
  have i1 : j * 5 + 1 - j * 5 = 1 := by omega
  have i2 : j * 5 + 2 - j * 5 = 2 := by omega
  have i3 : j * 5 + 3 - j * 5 = 3 := by omega
  have i4 : j * 5 + 4 - j * 5 = 4 := by omega
  rw [i0, i1, i2, i3, i4]
  simp [gC, markG]
set_option maxRecDepth 100000 in
set_option maxHeartbeats 2000000 in
theorem markPairS_m (a : Option Addr) (n c m : Nat) (M : Int) (l : List Pr) (lo : Nat) (w : World) (hr : w.ownsRow lo 58 5 (.slice a n c) n (flatG l)) (hM : M = (m : Int)) (hn : n = l.length) (hlo : lo ≤ w.heap.size) (hlen : n ≤ 1048576) (hm : m ≤ 1073741824) :
    Calls Try.prog 22 #[.slice a n c, .int .i64 M] w fun e w' => e = .returned (.int .i64 (M + 5 * (n : Int))) ∧ MarkedR 58 5 lo a c n (flatG (marksG m n)) w w' := by
  subst hM
  subst hn
  have hc := ownR_cap hr
  have HR := Lib.hid hr
  clear hr
  go_enter Try.func22, Try.ntmps22
  go_wp2
  go_loopw [1, 5] (fun k i wr => ∃ j : Nat, j ≤ l.length ∧ i = .int .i64 j ∧ k = .int .i64 ((m : Int) + 5 * (j : Int)) ∧ wr.ownsRow lo 58 5 (.slice a l.length c) l.length (flatG (markToG m l j)) ∧ w.grownBy wr (Value.slice a l.length c).ownBlock) (fun _ i _ => l.length - (intOf i).toNat)
  case atStart => exact ⟨0, Nat.zero_le _, rfl, by simp, by rw [markToG_zero]; exact HR.out, World.grownBy.refl _ _⟩
  case round =>
    obtain ⟨j, hj, rfl, rfl, hown, hg⟩ := hrel
    by_cases hlt : j < l.length
    · obtain ⟨g, rfl, _, _⟩ := ownR_block hown (by omega)
      have e0 : ((m + 5 * j : Nat) : Int) = (m : Int) + 5 * (j : Int) := by omega
      have e1 : ((m + 5 * j + 1 : Nat) : Int) = (m : Int) + 5 * (j : Int) + 1 := by omega
      have e2 : ((m + 5 * j + 2 : Nat) : Int) = (m : Int) + 5 * (j : Int) + 1 + 1 := by omega
      have e3 : ((m + 5 * j + 3 : Nat) : Int) = (m : Int) + 5 * (j : Int) + 1 + 1 + 1 := by omega
      have e4 : ((m + 5 * j + 4 : Nat) : Int) = (m : Int) + 5 * (j : Int) + 1 + 1 + 1 + 1 := by omega
      have hstep := markToG_step m l j hlt
      rw [e0, e1, e2, e3, e4] at hstep
      have hll := flatG_len (markToG m l j)
      rw [markToG_len m l j hj] at hll
      have s0 := hown.stored (j * 5) (.int .i64 ((m : Int) + 5 * (j : Int)))
      have s1 := s0.1.stored (j * 5 + 1) (.int .i64 ((m : Int) + 5 * (j : Int) + 1))
      have s2 := s1.1.stored (j * 5 + 2) (.int .i64 ((m : Int) + 5 * (j : Int) + 1 + 1))
      have s3 := s2.1.stored (j * 5 + 3) (.int .i64 ((m : Int) + 5 * (j : Int) + 1 + 1 + 1))
      have s4 := s3.1.stored (j * 5 + 4) (.int .i64 ((m : Int) + 5 * (j : Int) + 1 + 1 + 1 + 1))
      rw [hstep] at s4
      obtain ⟨u0, c0⟩ : ∃ u, wr.cell? ⟨g, j * 5, none⟩ = some u := ⟨_, (hown.cellAt (j * 5) (by omega)).trans (List.getElem?_eq_getElem (by omega))⟩
      obtain ⟨u1, c1⟩ : ∃ u, (wr.setCell ⟨g, j * 5, none⟩ (.int .i64 ((m : Int) + 5 * (j : Int)))).cell? ⟨g, j * 5 + 1, none⟩ = some u := ⟨_, (s0.1.cellAt (j * 5 + 1) (by omega)).trans (List.getElem?_eq_getElem (by rw [List.length_set]; omega))⟩
      obtain ⟨u2, c2⟩ : ∃ u, ((wr.setCell ⟨g, j * 5, none⟩ (.int .i64 ((m : Int) + 5 * (j : Int)))).setCell ⟨g, j * 5 + 1, none⟩ (.int .i64 ((m : Int) + 5 * (j : Int) + 1))).cell? ⟨g, j * 5 + 2, none⟩ = some u := ⟨_, (s1.1.cellAt (j * 5 + 2) (by omega)).trans (List.getElem?_eq_getElem (by rw [List.length_set, List.length_set]; omega))⟩
      obtain ⟨u3, c3⟩ : ∃ u, (((wr.setCell ⟨g, j * 5, none⟩ (.int .i64 ((m : Int) + 5 * (j : Int)))).setCell ⟨g, j * 5 + 1, none⟩ (.int .i64 ((m : Int) + 5 * (j : Int) + 1))).setCell ⟨g, j * 5 + 2, none⟩ (.int .i64 ((m : Int) + 5 * (j : Int) + 1 + 1))).cell? ⟨g, j * 5 + 3, none⟩ = some u := ⟨_, (s2.1.cellAt (j * 5 + 3) (by omega)).trans (List.getElem?_eq_getElem (by rw [List.length_set, List.length_set, List.length_set]; omega))⟩
      obtain ⟨u4, c4⟩ : ∃ u, ((((wr.setCell ⟨g, j * 5, none⟩ (.int .i64 ((m : Int) + 5 * (j : Int)))).setCell ⟨g, j * 5 + 1, none⟩ (.int .i64 ((m : Int) + 5 * (j : Int) + 1))).setCell ⟨g, j * 5 + 2, none⟩ (.int .i64 ((m : Int) + 5 * (j : Int) + 1 + 1))).setCell ⟨g, j * 5 + 3, none⟩ (.int .i64 ((m : Int) + 5 * (j : Int) + 1 + 1 + 1))).cell? ⟨g, j * 5 + 4, none⟩ = some u := ⟨_, (s3.1.cellAt (j * 5 + 4) (by omega)).trans (List.getElem?_eq_getElem (by rw [List.length_set, List.length_set, List.length_set, List.length_set]; omega))⟩
      have f0 := hown.frozenAt (j * 5)
      have f1 := s0.1.frozenAt (j * 5 + 1)
      have f2 := s1.1.frozenAt (j * 5 + 2)
      have f3 := s2.1.frozenAt (j * 5 + 3)
      have f4 := s3.1.frozenAt (j * 5 + 4)
      have G0 := Lib.hid (grown_trans (grown_trans (grown_trans (grown_trans (grown_trans hg s0.2) s1.2) s2.2) s3.2) s4.2)
      have S3 := Lib.hid s4.1
      clear hstep hll s0 s1 s2 s3 s4 hown hg e0 e1 e2 e3 e4
      go_wp2
      go_roundw
      case rel => exact ⟨j + 1, by omega, by go_num, by go_num, S3.out, G0.out⟩
      case measure => simp [intOf]; omega
    · obtain rfl : j = l.length := by omega
      rw [markToG_all] at hown
      have HO := Lib.hid hown
      have HG := Lib.hid hg
      have HP : Hid (MarkedR 58 5 lo a c l.length (flatG (marksG m l.length)) w wr) := ⟨HO.out, ⟨HG.out.os, HG.out.tape, HG.out.output, HG.out.size, fun k hk => HG.out.block k (by omega) (fun e => by have := (HO.out.lt k e.symm).1; omega)⟩, HG.out⟩
      clear hown hg
      go_wp2
      go_ret
      exact ⟨rfl, HP.out⟩
set_option maxRecDepth 100000 in
set_option maxHeartbeats 2000000 in
theorem heldPairS_m (a : Option Addr) (n c m : Nat) (M : Int) (hi : Nat) (w : World) (hr : Prs w hi a c (marksG m n)) (hM : M = (m : Int)) (hlen : n ≤ 1048576) (hm : m ≤ 1073741824) :
    Calls Try.prog 25 #[.slice a n c, .int .i64 M] w fun e w' => e = .returned (.int .i64 (M + 5 * (n : Int))) ∧ Below w.heap.size w w' := by
  subst hM
  have hc1 := hr.cap
  have hc2 := hr.big
  rw [marksG_len] at hc1
  have HR := Lib.hid hr
  clear hr
  go_enter Try.func25, Try.ntmps25
  go_wp2
  go_loop [1, 5] (fun k i => ∃ j : Nat, j ≤ n ∧ i = .int .i64 j ∧ k = .int .i64 ((m : Int) + 5 * (j : Int))) (fun _ i => n - (intOf i).toNat)
  case atStart => exact ⟨0, Nat.zero_le _, rfl, by simp⟩
  case round =>
    obtain ⟨j, hj, rfl, rfl⟩ := hrel
    by_cases hlt : j < n
    · obtain ⟨b, off, rfl, _, hcell⟩ := Prs.six HR.out (by rw [marksG_len]; omega)
      obtain ⟨z0, z1, z2, z3, z4⟩ := hcell j (by rw [marksG_len]; exact hlt)
      rw [marksG_at m n j hlt] at z0 z1 z2 z3 z4
      have e0 : (markG m j).ky = (m : Int) + 5 * (j : Int) := by simp [markG]
      have e1 : (markG m j).lt = (m : Int) + 5 * (j : Int) + 1 := by simp [markG]
      have e2 : (markG m j).rt = (m : Int) + 5 * (j : Int) + 1 + 1 := by simp [markG]; omega
      have e3 : (markG m j).lv = (m : Int) + 5 * (j : Int) + 1 + 1 + 1 := by simp [markG]; omega
      have e4 : (markG m j).rv = (m : Int) + 5 * (j : Int) + 1 + 1 + 1 + 1 := by simp [markG]; omega
      rw [e0] at z0
      rw [e1] at z1
      rw [e2] at z2
      rw [e3] at z3
      rw [e4] at z4
      have d0 : (((m : Int) + 5 * (j : Int)) != ((m : Int) + 5 * (j : Int))) = false := by simp
      have d1 : (((m : Int) + 5 * (j : Int) + 1) != ((m : Int) + 5 * (j : Int) + 1)) = false := by simp
      have d2 : (((m : Int) + 5 * (j : Int) + 1 + 1) != ((m : Int) + 5 * (j : Int) + 1 + 1)) = false := by simp
      have d3 : (((m : Int) + 5 * (j : Int) + 1 + 1 + 1) != ((m : Int) + 5 * (j : Int) + 1 + 1 + 1)) = false := by simp
      have d4 : (((m : Int) + 5 * (j : Int) + 1 + 1 + 1 + 1) != ((m : Int) + 5 * (j : Int) + 1 + 1 + 1 + 1)) = false := by simp
      clear hcell e0 e1 e2 e3 e4
      go_wp2
      go_round
      case rel => exact ⟨j + 1, by omega, by go_num, by go_num⟩
      case measure => simp [intOf]; omega
    · obtain rfl : j = n := by omega
      go_wp2
      go_ret
      exact ⟨rfl, Below.refl _ _⟩
end Go.Proofs.Ytneolndbhklboab
