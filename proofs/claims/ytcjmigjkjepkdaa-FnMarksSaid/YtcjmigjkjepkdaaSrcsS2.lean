/- The laws' own helpers over slices of sources: the size, the copy, the comparison. -/
import Derived.Test.YtcjmigjkjepkdaaSrcsS
import Derived.Test.YtcjmigjkjepkdaaRowsS2
import Derived.Deep.RegionWith
namespace Go.Proofs.Ytcjmigjkjepkdaa
open Go.RowKit

theorem infoSrc : (Try.prog.info? 28).map (fun i => (i.zero, i.size, i.bytes)) = some (some (.agg #[.int .i64 0, .int .i64 0, .int .i64 0, .bool false, .bool false]), 5, 32) := by kernel_rfl
theorem run_make_src (n : Nat) (hn : n ≤ 1048576) : ∃ CS : Array Value, CS.size = n * 5 ∧ ∀ W : World, (Instr.makeSlice 33 (.int .i64 (n : Int)) (.int .i64 (n : Int))).run Try.prog W = .ok (.slice (some ⟨W.heap.size, 0, none⟩) n n) (W.alloc (.cells CS 28)) := by
  obtain ⟨i, hi, hzz⟩ := Option.map_eq_some_iff.1 infoSrc
  simp only [Prod.mk.injEq] at hzz
  obtain ⟨hz, hs, hb⟩ := hzz
  refine ⟨madeCells (Value.cells (.agg #[.int .i64 0, .int .i64 0, .int .i64 0, .bool false, .bool false])) (n * 5), size_madeCells _ _, fun W => ?_⟩
  have h := run_make (P := Try.prog) W 33 28 i _ Try.underlying33 hi hz .i64 .i64 n n (by omega) (Int.le_refl _) (by rw [hb]; omega) (by omega)
  simp only [Int.toNat_natCast, hs] at h
  exact h

def srV (S : Src) : List Value := [.int .i64 S.x, .int .i64 S.m, .int .i64 S.s, .bool S.i, .bool S.o]
/-- The copy, k sources done. -/
structure CopiedS (g : Nat) (l : List Src) (k : Nat) (W : World) : Prop where
  ex : ∃ cs : Array Value, Blk W g 28 cs ∧ cs.size = l.length * 5 ∧ ∀ i q, i < k → q < 5 → cs[i * 5 + q]? = (srV (sl l i))[q]?
theorem CopiedS.start {g : Nat} {l : List Src} {W : World} {cs : Array Value} (h : Blk W g 28 cs) (hs : cs.size = l.length * 5) : CopiedS g l 0 W :=
  ⟨⟨cs, h, hs, fun i q hi => absurd hi (by omega)⟩⟩
theorem CopiedS.step {g k : Nat} {l : List Src} {W W' : World} (h : CopiedS g l k W) (hk : k < l.length) (hb : Below W.heap.size W W') :
    CopiedS g l (k + 1) (((((W'.setCell ⟨g, k * 5, none⟩ (.int .i64 (sl l k).x)).setCell ⟨g, k * 5 + 1, none⟩ (.int .i64 (sl l k).m)).setCell ⟨g, k * 5 + 2, none⟩ (.int .i64 (sl l k).s)).setCell ⟨g, k * 5 + 3, none⟩ (.bool (sl l k).i)).setCell ⟨g, k * 5 + 4, none⟩ (.bool (sl l k).o)) := by
  obtain ⟨cs, hB, hs, hc⟩ := h.ex
  refine ⟨⟨_, (((((hB.below hb).set__ (k * 5) _).set__ (k * 5 + 1) _).set__ (k * 5 + 2) _).set__ (k * 5 + 3) _).set__ (k * 5 + 4) _, by simpa using hs, fun i q hi hq => ?_⟩⟩
  by_cases he : i = k
  · subst he
    have h5 : q = 0 ∨ q = 1 ∨ q = 2 ∨ q = 3 ∨ q = 4 := by omega
    rcases h5 with rfl | rfl | rfl | rfl | rfl
    all_goals
      simp [Array.getElem?_setIfInBounds, srV]
      try omega
  · have h0 := hc i q (by omega) hq
    rw [Array.getElem?_setIfInBounds_ne (by omega), Array.getElem?_setIfInBounds_ne (by omega), Array.getElem?_setIfInBounds_ne (by omega), Array.getElem?_setIfInBounds_ne (by omega), Array.getElem?_setIfInBounds_ne (by omega)]
    exact h0
theorem CopiedS.srcs {g : Nat} {l : List Src} {W : World} (h : CopiedS g l l.length W) (hl : l.length ≤ 1048576) : Srcs W W.heap.size (some ⟨g, 0, none⟩) l.length l := by
  obtain ⟨cs, hB, hs, hc⟩ := h.ex
  refine ⟨Nat.le_refl _, by omega, .inr ⟨g, 0, rfl, hB.lt, fun i hi => ?_⟩⟩
  have k0 := hc i 0 hi (by omega)
  have k1 := hc i 1 hi (by omega)
  have k2 := hc i 2 hi (by omega)
  have k3 := hc i 3 hi (by omega)
  have k4 := hc i 4 hi (by omega)
  simp only [Nat.zero_add, hB.cell]
  exact ⟨by simpa [srV] using k0, by simpa [srV] using k1, by simpa [srV] using k2, by simpa [srV] using k3, by simpa [srV] using k4⟩
/-- A call that hands back sources of its own. -/
def FreshSrcs (l : List Src) (w : World) (e : Ending) (w' : World) : Prop :=
  ∃ a c, e = .returned (.slice a l.length c) ∧ Srcs w' w'.heap.size a c l ∧ Below w.heap.size w w'

theorem szSrcs_any (a : Option Addr) (n c : Nat) (w : World) (hn : n ≤ 9223372036854775807) :
    Calls Try.prog 14 #[.slice a n c, .int .i64 1048576] w fun e w' => e = .returned (.int .i64 (if (1048576 : Int) - (n : Int) < 0 then -1 else 1048576 - (n : Int))) ∧ w = w' := by
  by_cases h : (1048576 : Int) - (n : Int) < 0
  · rw [if_pos h]
    go_enter Try.func14, Try.ntmps14
    go_wp2
    go_ret
    exact ⟨rfl, rfl⟩
  · rw [if_neg h]
    go_enter Try.func14, Try.ntmps14
    go_wp2
    go_ret
    exact ⟨rfl, rfl⟩

set_option maxHeartbeats 1000000 in
set_option maxRecDepth 100000 in
theorem toSrcs_any (a : Option Addr) (n c : Nat) (l : List Src) (hi : Nat) (w : World) (hr : Srcs w hi a c l) (hn : n = l.length) (hB : hi ≤ w.heap.size) (hlen : l.length ≤ 1048576) :
    Calls Try.prog 15 #[.slice a n c] w (FreshSrcs l w) := by
  subst hn
  obtain ⟨CS, hcs, hmk⟩ := run_make_src l.length hlen
  have hc1 := hr.cap
  have hc2 := hr.big
  have HR := Lib.hid hr
  have C0 := Lib.hid (CopiedS.start (Blk.new w 28 CS) hcs)
  have B0 := Lib.hid ((Below.refl w.heap.size w).alloc (Nat.le_refl _) (.cells CS 28))
  clear hr hcs
  go_enter Try.func15, Try.ntmps15
  go_wp2
  go_loopw [4] (fun i wr => ∃ k : Nat, k ≤ l.length ∧ i = .int .i64 k ∧ CopiedS w.heap.size l k wr ∧ Below w.heap.size w wr) (fun i _ => l.length - (intOf i).toNat)
  case atStart => exact ⟨0, Nat.zero_le _, rfl, C0.out, B0.out⟩
  case round =>
    obtain ⟨k, hk, rfl, hcp, hb⟩ := hrel
    have hsz := hb.size
    have HB := Lib.hid hb
    have HC := Lib.hid hcp
    by_cases hlt : k < l.length
    · obtain ⟨b, off, rfl, hbh, hcell⟩ := (HR.out.below (hb.mono hB)).lies.resolve_left (by intro h; subst h; simp at hlt)
      obtain ⟨q0, q1, q2, q3, q4⟩ := hcell k hlt
      have HST := Lib.hid (fun (W' : World) hb => hcp.step (W' := W') hlt hb)
      have hlt' : (k : Int) < (l.length : Int) := by omega
      clear hcell hb hcp
      generalize sl l k = S at q0 q1 q2 q3 q4 HST
      obtain ⟨x, m, s, i, o⟩ := S
      simp only at q0 q1 q2 q3 q4 HST
      have HTS := Lib.hid (fun W => toSource_x x m s i o W)
      go_wp2_with fail
      refine (HTS.out _).mono ?_
      rintro e w3 ⟨rfl, hb3⟩
      have HS3 := Lib.hid (HST.out w3 hb3)
      have HB3 := Lib.hid (HB.out.trans (hb3.mono hsz))
      have s3 := hb3.size
      have hfz : ∀ j, w3.frozen? ⟨w.heap.size, j, none⟩ = false := by
        obtain ⟨cs, hBk, hs_, _⟩ := HC.out.ex
        exact (hBk.below hb3).frozen
      have hcl : ∀ q, q < 5 → ∃ v, w3.cell? ⟨w.heap.size, k * 5 + q, none⟩ = some v := fun q hq => by
        obtain ⟨cs, hBk, hs_, _⟩ := HC.out.ex
        rw [(hBk.below hb3).cell]
        exact ⟨cs[k * 5 + q]'(by omega), by rw [Array.getElem?_eq_getElem]⟩
      obtain ⟨v0, c0⟩ := hcl 0 (by omega)
      obtain ⟨v1, c1⟩ := hcl 1 (by omega)
      obtain ⟨v2, c2⟩ := hcl 2 (by omega)
      obtain ⟨v3, c3⟩ := hcl 3 (by omega)
      obtain ⟨v4, c4⟩ := hcl 4 (by omega)
      rw [Nat.add_zero] at c0
      clear hb3 hcl q0 q1 q2 q3 q4
      go_wp2
      go_roundw
      case rel => exact ⟨k + 1, by omega, by go_num, HS3.out, ((((HB3.out.setCell (p := ⟨w.heap.size, k * 5, none⟩) (Nat.le_refl _) _).setCell (p := ⟨w.heap.size, k * 5 + 1, none⟩) (Nat.le_refl _) _).setCell (p := ⟨w.heap.size, k * 5 + 2, none⟩) (Nat.le_refl _) _).setCell (p := ⟨w.heap.size, k * 5 + 3, none⟩) (Nat.le_refl _) _).setCell (p := ⟨w.heap.size, k * 5 + 4, none⟩) (Nat.le_refl _) _⟩
      case measure => simp [intOf]; omega
    · obtain rfl : k = l.length := by omega
      have HP : Hid (FreshSrcs l w (.returned (.slice (some ⟨w.heap.size, 0, none⟩) l.length l.length)) wr) := ⟨_, _, rfl, hcp.srcs hlen, hb⟩
      clear hcp hb
      go_wp2
      go_ret
      exact HP.out

set_option maxHeartbeats 1000000 in
set_option maxRecDepth 100000 in
theorem eqSrcs_any (a b : Option Addr) (n m ca cb : Nat) (l : List Src) (ha hb : Nat) (w : World) (h1 : Srcs w ha a ca l) (h2 : Srcs w hb b cb l) (hn : n = l.length) (hm : m = l.length) (hB1 : ha ≤ w.heap.size) (hB2 : hb ≤ w.heap.size) :
    Calls Try.prog 16 #[.slice a n ca, .slice b m cb] w fun e w' => e = .returned (.bool true) ∧ Below w.heap.size w w' := by
  subst hn
  subst hm
  have hc1 := h1.cap
  have hc2 := h1.big
  have hc3 := h2.cap
  have hc4 := h2.big
  have H1 := Lib.hid h1
  have H2 := Lib.hid h2
  clear h1 h2
  go_enter Try.func16, Try.ntmps16
  go_wp2
  go_loopw [5] (fun i wr => ∃ k : Nat, k ≤ l.length ∧ i = .int .i64 k ∧ Below w.heap.size w wr) (fun i _ => l.length - (intOf i).toNat)
  case atStart => exact ⟨0, Nat.zero_le _, rfl, Below.refl _ _⟩
  case round =>
    obtain ⟨k, hk, rfl, hbw⟩ := hrel
    have hsz := hbw.size
    have HB := Lib.hid hbw
    by_cases hlt : k < l.length
    · obtain ⟨b1, off1, rfl, _, hcell1⟩ := (H1.out.below (hbw.mono hB1)).lies.resolve_left (by intro h; subst h; simp at hlt)
      obtain ⟨b2, off2, rfl, _, hcell2⟩ := (H2.out.below (hbw.mono hB2)).lies.resolve_left (by intro h; subst h; simp at hlt)
      obtain ⟨p0, p1, p2, p3, p4⟩ := hcell1 k hlt
      obtain ⟨q0, q1, q2, q3, q4⟩ := hcell2 k hlt
      have hlt' : (k : Int) < (l.length : Int) := by omega
      clear hcell1 hcell2 hbw
      generalize sl l k = S at p0 p1 p2 p3 p4 q0 q1 q2 q3 q4
      obtain ⟨x, m, s, i, o⟩ := S
      simp only at p0 p1 p2 p3 p4 q0 q1 q2 q3 q4
      go_wp2_with fail
      go_region_with (go_at_call 38; refine (eqSource_x x m s i o _).mono ?_; rintro e w3 ⟨rfl, hb⟩; have HB3 := Lib.hid ((HB.out.drew).trans (hb.mono hsz)); clear hb)
      all_goals
        clear p0 p1 p2 p3 p4 q0 q1 q2 q3 q4
        go_wp2
        go_roundw
        case rel => exact ⟨k + 1, by omega, by go_num, HB3.out⟩
        case measure => simp [intOf]; omega
    · obtain rfl : k = l.length := by omega
      clear hbw
      go_wp2
      go_ret
      exact ⟨rfl, HB.out⟩
end Go.Proofs.Ytcjmigjkjepkdaa
