/- An engine: how it reads, a copy of the call's own; the laws' own helpers over engines. (made by tools/mkeng.py) -/
import Derived.Test.YtnfhlfbkdhpacaaGreatDoorConnRow
import Derived.Test.YtnfhlfbkdhpacaaGreatDoorMsgRows
import Derived.Test.YtnfhlfbkdhpacaaGreatDoorShardRow
import Derived.Test.YtnfhlfbkdhpacaaGreatDoorJoint1
import Derived.Test.YtnfhlfbkdhpacaaGreatDoorSetup1
namespace Go.Proofs.YtnfhlfbkdhpacaaGreatDoor
open Go.RowKit

/-- An engine, as it is read. -/
structure En where
  s0 : Int
  s1 : Int
  s2 : Int
  s3 : Int
  s4 : Int
  s5 : Int
  s6 : Int
  s7 : Int
  s8 : Int
  now : Int
  mode : Int
  cs : List Cn
  inq : List Mq
  qs : List (List Mq)
  sh : List Sh
  out : List Ag
  mark : Int
  sent : List Int
  t0 : Int
  t1 : Int
  t2 : Int
  t3 : Int
  t4 : Int
  t5 : Int
/-- Where its six slices lie. -/
structure Pl where
  a0 : Option Addr
  c0 : Nat
  a1 : Option Addr
  c1 : Nat
  a2 : Option Addr
  c2 : Nat
  a3 : Option Addr
  c3 : Nat
  a4 : Option Addr
  c4 : Nat
  a5 : Option Addr
  c5 : Nat
/-- Its value. -/
abbrev ev (E : En) (p : Pl) : Value := .agg #[.int .i64 E.s0, .int .i64 E.s1, .int .i64 E.s2, .int .i64 E.s3, .int .i64 E.s4, .int .i64 E.s5, .int .i64 E.s6, .int .i64 E.s7, .int .i64 E.s8, .int .i64 E.now, .int .i64 E.mode, .slice p.a0 E.cs.length p.c0, .slice p.a1 E.inq.length p.c1, .slice p.a2 E.qs.length p.c2, .slice p.a3 E.sh.length p.c3, .slice p.a4 E.out.length p.c4, .int .i64 E.mark, .slice p.a5 E.sent.length p.c5, .int .i64 E.t0, .int .i64 E.t1, .int .i64 E.t2, .int .i64 E.t3, .int .i64 E.t4, .int .i64 E.t5]
/-- Its slices, all below block hi, read so. -/
structure EnR (w : World) (hi : Nat) (p : Pl) (E : En) : Prop where
  cs : HRow hdCn 7 cnD w hi p.a0 p.c0 E.cs
  inq : Mqs w hi p.a1 p.c1 E.inq
  qs : HRow hdMq 1 ([] : List Mq) w hi p.a2 p.c2 E.qs
  sh : HRow hdSh 4 shD w hi p.a3 p.c3 E.sh
  out : Ags w hi p.a4 p.c4 E.out
  sent : Nums .i64 w hi p.a5 p.c5 E.sent
/-- The same in memory of the call's own. -/
structure EnO (w : World) (lo : Nat) (p : Pl) (E : En) : Prop where
  cs : HOwn hdCn 7 cnD 95 w lo p.a0 p.c0 E.cs
  inq : w.ownsRow lo 127 5 (.slice p.a1 E.inq.length p.c1) E.inq.length (flatQ E.inq)
  qs : HOwn hdMq 1 ([] : List Mq) 39 w lo p.a2 p.c2 E.qs
  sh : HOwn hdSh 4 shD 111 w lo p.a3 p.c3 E.sh
  out : w.ownsRow lo 136 6 (.slice p.a4 E.out.length p.c4) E.out.length (flatA E.out)
  sent : w.ownsRow lo 3 1 (.slice p.a5 E.sent.length p.c5) E.sent.length (E.sent.map (Value.int .i64))
theorem EnR.below {w w' : World} {hi : Nat} {p : Pl} {E : En} (h : EnR w hi p E) (hb : Below hi w w') : EnR w' hi p E := ⟨h.cs.below hb, h.inq.below hb, h.qs.below hb, h.sh.below hb, h.out.below hb, h.sent.below hb⟩
theorem EnR.more {w : World} {hi hi' : Nat} {p : Pl} {E : En} (h : EnR w hi p E) (hh : hi ≤ hi') : EnR w hi' p E := ⟨h.cs.more hh, h.inq.more hh, h.qs.more hh, h.sh.more hh, h.out.more hh, h.sent.more hh⟩
theorem EnO.rd {w : World} {lo : Nat} {p : Pl} {E : En} (h : EnO w lo p E) : EnR w w.heap.size p E := ⟨h.cs.row, Mqs.of_own h.inq, h.qs.row, h.sh.row, Ags.of_own h.out, (Nums.of_own h.sent).2⟩
theorem EnO.below {w w' : World} {lo : Nat} {p : Pl} {E : En} (h : EnO w lo p E) (hb : Below w.heap.size w w') : EnO w' lo p E := ⟨h.cs.below hb, owns_below h.inq hb, h.qs.below hb, h.sh.below hb, owns_below h.out hb, owns_below h.sent hb⟩
theorem EnO.set {w : World} {lo : Nat} {p : Pl} {E : En} (h : EnO w lo p E) {q : Addr} (hq : q.block < lo) (v : Value) : EnO (w.setCell q v) lo p E := ⟨HOwn.set h.cs hq v, ownsR_setCell_below h.inq hq v, HOwn.set h.qs hq v, HOwn.set h.sh hq v, ownsR_setCell_below h.out hq v, ownsR_setCell_below h.sent hq v⟩
theorem ownsRow_setCells {T : TypeId} {lo sz n g : Nat} {v : Value} {xs : List Value} (vs : List Value) (hg : g < lo) : ∀ {w : World} (o : Nat), w.ownsRow lo T sz v n xs → (w.setCells g o vs).ownsRow lo T sz v n xs := by
  induction vs with
  | nil => intro w o h; exact h
  | cons u vs ih =>
    intro w o h
    exact ih (o + 1) (ownsR_setCell_below h (p := ⟨g, o, none⟩) hg u)
theorem EnO.setCells {w : World} {lo g : Nat} {p : Pl} {E : En} (vs : List Value) (hg : g < lo) (o : Nat) (h : EnO w lo p E) : EnO (w.setCells g o vs) lo p E := ⟨HOwn.setCells vs hg o h.cs, ownsRow_setCells vs hg o h.inq, HOwn.setCells vs hg o h.qs, HOwn.setCells vs hg o h.sh, ownsRow_setCells vs hg o h.out, ownsRow_setCells vs hg o h.sent⟩
theorem EnO.less {w : World} {lo lo' : Nat} {p : Pl} {E : En} (h : EnO w lo p E) (hh : lo' ≤ lo) : EnO w lo' p E := ⟨h.cs.less hh, owns_less h.inq hh, h.qs.less hh, h.sh.less hh, owns_less h.out hh, owns_less h.sent hh⟩
/-- All of it together fits. -/
def EnFits (E : En) : Prop := (E.cs.length + totH hdCn cnD E.cs E.cs.length) + (E.inq.length) + (E.qs.length + totH hdMq ([] : List Mq) E.qs E.qs.length) + (E.sh.length + totH hdSh shD E.sh E.sh.length) + (E.out.length) + (E.sent.length) ≤ 1048576
set_option maxHeartbeats 1000000 in
theorem toTally_y (t0 t1 t2 t3 t4 t5 : Int) (w : World) : Calls Tryz.prog 39 #[.agg #[.int .i64 t0, .int .i64 t1, .int .i64 t2, .int .i64 t3, .int .i64 t4, .int .i64 t5]] w fun e w' => e = .returned (.agg #[.int .i64 t0, .int .i64 t1, .int .i64 t2, .int .i64 t3, .int .i64 t4, .int .i64 t5]) ∧ Below w.heap.size w w' := by
  have BB := Lib.hid fun v0 v1 v2 v3 v4 v5 : Value => ((((Below.refl w.heap.size w).alloc (Nat.le_refl _) (.cells #[.int .i64 t0, .int .i64 t1, .int .i64 t2, .int .i64 t3, .int .i64 t4, .int .i64 t5] 31)).alloc (by simp) (.cells #[.int .i64 0, .int .i64 0, .int .i64 0, .int .i64 0, .int .i64 0, .int .i64 0] 43)).alloc (by simp; omega) (.cells #[v0, v1, v2, v3, v4, v5] 43))
  go_enter Tryz.func39, Tryz.ntmps39
  go_wp2
  exact bodyPost_ret (v := .agg #[.int .i64 t0, .int .i64 t1, .int .i64 t2, .int .i64 t3, .int .i64 t4, .int .i64 t5]) (by simp [results, Tryz.results39, go_sem]) rfl ⟨rfl, (((Below.refl _ _).alloc (Nat.le_refl _) _).alloc (by simp) _).alloc (by simp; omega) _⟩
set_option maxHeartbeats 1000000 in
theorem eqTally_y (t0 t1 t2 t3 t4 t5 : Int) (w : World) : Calls Tryz.prog 52 #[.agg #[.int .i64 t0, .int .i64 t1, .int .i64 t2, .int .i64 t3, .int .i64 t4, .int .i64 t5], .agg #[.int .i64 t0, .int .i64 t1, .int .i64 t2, .int .i64 t3, .int .i64 t4, .int .i64 t5]] w fun e w' => e = .returned (.bool true) ∧ Below w.heap.size w w' := by
  have BB := Lib.hid (((Below.refl w.heap.size w).alloc (Nat.le_refl _) (.cells #[.int .i64 t0, .int .i64 t1, .int .i64 t2, .int .i64 t3, .int .i64 t4, .int .i64 t5] 43)).alloc (by simp) (.cells #[.int .i64 t0, .int .i64 t1, .int .i64 t2, .int .i64 t3, .int .i64 t4, .int .i64 t5] 43))
  have ht0 : (t0 != t0) = false := by simp
  have ht1 : (t1 != t1) = false := by simp
  have ht2 : (t2 != t2) = false := by simp
  have ht3 : (t3 != t3) = false := by simp
  have ht4 : (t4 != t4) = false := by simp
  have ht5 : (t5 != t5) = false := by simp
  go_enter Tryz.func52, Tryz.ntmps52
  go_wp2
  go_ret
  exact ⟨rfl, BB.out⟩
set_option maxHeartbeats 1000000 in
theorem eqSetup_y (s0 s1 s2 s3 s4 s5 s6 s7 s8 : Int) (w : World) : Calls Tryz.prog 45 #[.agg #[.int .i64 s0, .int .i64 s1, .int .i64 s2, .int .i64 s3, .int .i64 s4, .int .i64 s5, .int .i64 s6, .int .i64 s7, .int .i64 s8], .agg #[.int .i64 s0, .int .i64 s1, .int .i64 s2, .int .i64 s3, .int .i64 s4, .int .i64 s5, .int .i64 s6, .int .i64 s7, .int .i64 s8]] w fun e w' => e = .returned (.bool true) ∧ Below w.heap.size w w' := by
  have BB := Lib.hid (((Below.refl w.heap.size w).alloc (Nat.le_refl _) (.cells #[.int .i64 s0, .int .i64 s1, .int .i64 s2, .int .i64 s3, .int .i64 s4, .int .i64 s5, .int .i64 s6, .int .i64 s7, .int .i64 s8] 37)).alloc (by simp) (.cells #[.int .i64 s0, .int .i64 s1, .int .i64 s2, .int .i64 s3, .int .i64 s4, .int .i64 s5, .int .i64 s6, .int .i64 s7, .int .i64 s8] 37))
  have hs0 : (s0 != s0) = false := by simp
  have hs1 : (s1 != s1) = false := by simp
  have hs2 : (s2 != s2) = false := by simp
  have hs3 : (s3 != s3) = false := by simp
  have hs4 : (s4 != s4) = false := by simp
  have hs5 : (s5 != s5) = false := by simp
  have hs6 : (s6 != s6) = false := by simp
  have hs7 : (s7 != s7) = false := by simp
  have hs8 : (s8 != s8) = false := by simp
  go_enter Tryz.func45, Tryz.ntmps45
  go_wp2
  go_ret
  exact ⟨rfl, BB.out⟩
theorem szMsgS_b (a : Option Addr) (n c : Nat) (left : Int) (w : World) (hl0 : 0 ≤ left) (hl1 : left ≤ 1048576) (hn : n ≤ 9223372036854775807) :
    Calls Tryz.prog 26 #[.slice a n c, .int .i64 left] w fun e w' => ∃ L : Int, e = .returned (.int .i64 L) ∧ -1 ≤ L ∧ L ≤ left ∧ (0 ≤ L → (n : Int) + L ≤ left) ∧ Below w.heap.size w w' :=
  (szMsgS_any a n c left w hl0 hl1 hn).mono fun e w' ⟨h, k⟩ => ⟨_, h, by split <;> omega, by split <;> omega, fun _ => by split at * <;> omega, by rw [← k]; exact Below.refl _ _⟩
theorem szAggS_b (a : Option Addr) (n c : Nat) (left : Int) (w : World) (hl0 : 0 ≤ left) (hl1 : left ≤ 1048576) (hn : n ≤ 9223372036854775807) :
    Calls Tryz.prog 29 #[.slice a n c, .int .i64 left] w fun e w' => ∃ L : Int, e = .returned (.int .i64 L) ∧ -1 ≤ L ∧ L ≤ left ∧ (0 ≤ L → (n : Int) + L ≤ left) ∧ Below w.heap.size w w' :=
  (szAggS_n a n c left w hl0 hl1 hn).mono fun e w' ⟨h, k⟩ => ⟨_, h, by split <;> omega, by split <;> omega, fun _ => by split at * <;> omega, by rw [← k]; exact Below.refl _ _⟩
theorem szInts_b (a : Option Addr) (n c : Nat) (left : Int) (w : World) (hl0 : 0 ≤ left) (hl1 : left ≤ 1048576) (hn : n ≤ 9223372036854775807) :
    Calls Tryz.prog 30 #[.slice a n c, .int .i64 left] w fun e w' => ∃ L : Int, e = .returned (.int .i64 L) ∧ -1 ≤ L ∧ L ≤ left ∧ (0 ≤ L → (n : Int) + L ≤ left) ∧ Below w.heap.size w w' :=
  (szInts_n a n c left w hl0 hl1 hn).mono fun e w' ⟨h, k⟩ => ⟨_, h, by split <;> omega, by split <;> omega, fun _ => by split at * <;> omega, by rw [← k]; exact Below.refl _ _⟩
set_option maxHeartbeats 4000000 in
set_option maxRecDepth 100000 in
theorem szEngine_any (E : En) (p : Pl) (w : World) (hr : EnR w w.heap.size p E) :
    Calls Tryz.prog 8 #[ev E p, .int .i64 1048576] w fun e w' => ∃ L : Int, e = .returned (.int .i64 L) ∧ -1 ≤ L ∧ (0 ≤ L → EnFits E) ∧ Below w.heap.size w w' := by
  have hr1 := hr.below ((Below.refl w.heap.size w).alloc (Nat.le_refl _) (.cells #[.int .i64 E.s0, .int .i64 E.s1, .int .i64 E.s2, .int .i64 E.s3, .int .i64 E.s4, .int .i64 E.s5, .int .i64 E.s6, .int .i64 E.s7, .int .i64 E.s8, .int .i64 E.now, .int .i64 E.mode, .slice p.a0 E.cs.length p.c0, .slice p.a1 E.inq.length p.c1, .slice p.a2 E.qs.length p.c2, .slice p.a3 E.sh.length p.c3, .slice p.a4 E.out.length p.c4, .int .i64 E.mark, .slice p.a5 E.sent.length p.c5, .int .i64 E.t0, .int .i64 E.t1, .int .i64 E.t2, .int .i64 E.t3, .int .i64 E.t4, .int .i64 E.t5] 33))
  have B0 := Lib.hid ((Below.refl w.heap.size w).alloc (Nat.le_refl _) (.cells #[.int .i64 E.s0, .int .i64 E.s1, .int .i64 E.s2, .int .i64 E.s3, .int .i64 E.s4, .int .i64 E.s5, .int .i64 E.s6, .int .i64 E.s7, .int .i64 E.s8, .int .i64 E.now, .int .i64 E.mode, .slice p.a0 E.cs.length p.c0, .slice p.a1 E.inq.length p.c1, .slice p.a2 E.qs.length p.c2, .slice p.a3 E.sh.length p.c3, .slice p.a4 E.out.length p.c4, .int .i64 E.mark, .slice p.a5 E.sent.length p.c5, .int .i64 E.t0, .int .i64 E.t1, .int .i64 E.t2, .int .i64 E.t3, .int .i64 E.t4, .int .i64 E.t5] 33))
  have K0 := Lib.hid (Blk.new w 33 #[.int .i64 E.s0, .int .i64 E.s1, .int .i64 E.s2, .int .i64 E.s3, .int .i64 E.s4, .int .i64 E.s5, .int .i64 E.s6, .int .i64 E.s7, .int .i64 E.s8, .int .i64 E.now, .int .i64 E.mode, .slice p.a0 E.cs.length p.c0, .slice p.a1 E.inq.length p.c1, .slice p.a2 E.qs.length p.c2, .slice p.a3 E.sh.length p.c3, .slice p.a4 E.out.length p.c4, .int .i64 E.mark, .slice p.a5 E.sent.length p.c5, .int .i64 E.t0, .int .i64 E.t1, .int .i64 E.t2, .int .i64 E.t3, .int .i64 E.t4, .int .i64 E.t5])
  have HR := Lib.hid (hr1.more (show w.heap.size ≤ (w.alloc (.cells #[.int .i64 E.s0, .int .i64 E.s1, .int .i64 E.s2, .int .i64 E.s3, .int .i64 E.s4, .int .i64 E.s5, .int .i64 E.s6, .int .i64 E.s7, .int .i64 E.s8, .int .i64 E.now, .int .i64 E.mode, .slice p.a0 E.cs.length p.c0, .slice p.a1 E.inq.length p.c1, .slice p.a2 E.qs.length p.c2, .slice p.a3 E.sh.length p.c3, .slice p.a4 E.out.length p.c4, .int .i64 E.mark, .slice p.a5 E.sent.length p.c5, .int .i64 E.t0, .int .i64 E.t1, .int .i64 E.t2, .int .i64 E.t3, .int .i64 E.t4, .int .i64 E.t5] 33)).heap.size by simp))
  clear hr hr1
  obtain ⟨s0, s1, s2, s3, s4, s5, s6, s7, s8, now, mode, cs, inq, qs, sh, out, mark, sent, t0, t1, t2, t3, t4, t5⟩ := E
  obtain ⟨a0, c0, a1, c1, a2, c2, a3, c3, a4, c4, a5, c5⟩ := p
  simp only at B0 K0 HR ⊢
  go_enter Tryz.func8, Tryz.ntmps8
  go_wp2_with fail
  refine (szConnR_any a0 _ c0 cs _ 1048576 _ (by omega) (by omega) HR.out.cs rfl (Nat.le_refl _)).mono ?_
  rintro e w1 ⟨L0, rfl, l0a, l0b, l0c, hb⟩
  have K1 := Lib.hid (K0.out.below hb)
  have qK := K1.out.cell
  have hs := hb.size
  have B1 := Lib.hid (B0.out.trans (hb.mono B0.out.size))
  have HR := Lib.hid ((HR.out.below hb).more hs)
  clear hb hs
  by_cases n0 : L0 < 0
  · go_wp2
    go_ret
    exact ⟨-1, rfl, by omega, by omega, B1.out⟩
  go_wp2_with fail
  clear qK
  have hcap := Nat.le_trans HR.out.inq.cap HR.out.inq.big
  refine (szMsgS_b a1 inq.length c1 L0 _ (by omega) (by omega) hcap).mono ?_
  rintro e w2 ⟨L1, rfl, l1a, l1b, l1c, hb⟩
  clear hcap
  have K2 := Lib.hid (K1.out.below hb)
  have qK := K2.out.cell
  have hs := hb.size
  have B2 := Lib.hid (B1.out.trans (hb.mono B1.out.size))
  have HR := Lib.hid ((HR.out.below hb).more hs)
  clear hb hs
  by_cases n1 : L1 < 0
  · go_wp2
    go_ret
    exact ⟨-1, rfl, by omega, by omega, B2.out⟩
  go_wp2_with fail
  clear qK
  refine (szMsgSR_any a2 _ c2 qs _ L1 _ (by omega) (by omega) HR.out.qs rfl (Nat.le_refl _)).mono ?_
  rintro e w3 ⟨L2, rfl, l2a, l2b, l2c, hb⟩
  have K3 := Lib.hid (K2.out.below hb)
  have qK := K3.out.cell
  have hs := hb.size
  have B3 := Lib.hid (B2.out.trans (hb.mono B2.out.size))
  have HR := Lib.hid ((HR.out.below hb).more hs)
  clear hb hs
  by_cases n2 : L2 < 0
  · go_wp2
    go_ret
    exact ⟨-1, rfl, by omega, by omega, B3.out⟩
  go_wp2_with fail
  clear qK
  refine (szShardR_any a3 _ c3 sh _ L2 _ (by omega) (by omega) HR.out.sh rfl (Nat.le_refl _)).mono ?_
  rintro e w4 ⟨L3, rfl, l3a, l3b, l3c, hb⟩
  have K4 := Lib.hid (K3.out.below hb)
  have qK := K4.out.cell
  have hs := hb.size
  have B4 := Lib.hid (B3.out.trans (hb.mono B3.out.size))
  have HR := Lib.hid ((HR.out.below hb).more hs)
  clear hb hs
  by_cases n3 : L3 < 0
  · go_wp2
    go_ret
    exact ⟨-1, rfl, by omega, by omega, B4.out⟩
  go_wp2_with fail
  clear qK
  have hcap := Nat.le_trans HR.out.out.cap HR.out.out.big
  refine (szAggS_b a4 out.length c4 L3 _ (by omega) (by omega) hcap).mono ?_
  rintro e w5 ⟨L4, rfl, l4a, l4b, l4c, hb⟩
  clear hcap
  have K5 := Lib.hid (K4.out.below hb)
  have qK := K5.out.cell
  have hs := hb.size
  have B5 := Lib.hid (B4.out.trans (hb.mono B4.out.size))
  have HR := Lib.hid ((HR.out.below hb).more hs)
  clear hb hs
  by_cases n4 : L4 < 0
  · go_wp2
    go_ret
    exact ⟨-1, rfl, by omega, by omega, B5.out⟩
  go_wp2_with fail
  clear qK
  have hcap := Nat.le_trans HR.out.sent.cap HR.out.sent.big
  refine (szInts_b a5 sent.length c5 L4 _ (by omega) (by omega) hcap).mono ?_
  rintro e w6 ⟨L5, rfl, l5a, l5b, l5c, hb⟩
  clear hcap
  have K6 := Lib.hid (K5.out.below hb)
  have qK := K6.out.cell
  have hs := hb.size
  have B6 := Lib.hid (B5.out.trans (hb.mono B5.out.size))
  have HR := Lib.hid ((HR.out.below hb).more hs)
  clear hb hs
  by_cases n5 : L5 < 0
  · go_wp2
    go_ret
    exact ⟨-1, rfl, by omega, by omega, B6.out⟩
  go_wp2
  go_ret
  exact ⟨_, rfl, by omega, fun _ => by unfold EnFits; simp only; omega, B6.out⟩
end Go.Proofs.YtnfhlfbkdhpacaaGreatDoor
