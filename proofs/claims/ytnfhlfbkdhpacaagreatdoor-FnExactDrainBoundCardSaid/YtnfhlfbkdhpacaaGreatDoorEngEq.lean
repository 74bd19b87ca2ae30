/- laws.eqEngine: an engine and itself. (made by tools/mkeng.py) -/
import Derived.Test.YtnfhlfbkdhpacaaGreatDoorEngS
namespace Go.Proofs.YtnfhlfbkdhpacaaGreatDoor
open Go.RowKit
set_option maxHeartbeats 16000000 in
set_option maxRecDepth 100000 in
theorem eqEngine_any (E : En) (p q : Pl) (w : World) (hr : EnR w w.heap.size p E) (hs : EnR w w.heap.size q E) :
    Calls Tryz.prog 13 #[ev E p, ev E q] w fun e w' => e = .returned (.bool true) ∧ Below w.heap.size w w' := by
  obtain ⟨s0, s1, s2, s3, s4, s5, s6, s7, s8, now, mode, cs, inq, qs, sh, out, mark, sent, t0, t1, t2, t3, t4, t5⟩ := E
  obtain ⟨a0, c0, a1, c1, a2, c2, a3, c3, a4, c4, a5, c5⟩ := p
  obtain ⟨x0, y0, x1, y1, x2, y2, x3, y3, x4, y4, x5, y5⟩ := q
  change Calls _ _ #[.agg #[.int .i64 s0, .int .i64 s1, .int .i64 s2, .int .i64 s3, .int .i64 s4, .int .i64 s5, .int .i64 s6, .int .i64 s7, .int .i64 s8, .int .i64 now, .int .i64 mode, .slice a0 cs.length c0, .slice a1 inq.length c1, .slice a2 qs.length c2, .slice a3 sh.length c3, .slice a4 out.length c4, .int .i64 mark, .slice a5 sent.length c5, .int .i64 t0, .int .i64 t1, .int .i64 t2, .int .i64 t3, .int .i64 t4, .int .i64 t5], .agg #[.int .i64 s0, .int .i64 s1, .int .i64 s2, .int .i64 s3, .int .i64 s4, .int .i64 s5, .int .i64 s6, .int .i64 s7, .int .i64 s8, .int .i64 now, .int .i64 mode, .slice x0 cs.length y0, .slice x1 inq.length y1, .slice x2 qs.length y2, .slice x3 sh.length y3, .slice x4 out.length y4, .int .i64 mark, .slice x5 sent.length y5, .int .i64 t0, .int .i64 t1, .int .i64 t2, .int .i64 t3, .int .i64 t4, .int .i64 t5]] _ _
  have b1 := (Below.refl w.heap.size w).alloc (Nat.le_refl _) (.cells #[.int .i64 s0, .int .i64 s1, .int .i64 s2, .int .i64 s3, .int .i64 s4, .int .i64 s5, .int .i64 s6, .int .i64 s7, .int .i64 s8, .int .i64 now, .int .i64 mode, .slice a0 cs.length c0, .slice a1 inq.length c1, .slice a2 qs.length c2, .slice a3 sh.length c3, .slice a4 out.length c4, .int .i64 mark, .slice a5 sent.length c5, .int .i64 t0, .int .i64 t1, .int .i64 t2, .int .i64 t3, .int .i64 t4, .int .i64 t5] 45)
  have b2 := b1.alloc (by simp) (.cells #[.int .i64 s0, .int .i64 s1, .int .i64 s2, .int .i64 s3, .int .i64 s4, .int .i64 s5, .int .i64 s6, .int .i64 s7, .int .i64 s8, .int .i64 now, .int .i64 mode, .slice x0 cs.length y0, .slice x1 inq.length y1, .slice x2 qs.length y2, .slice x3 sh.length y3, .slice x4 out.length y4, .int .i64 mark, .slice x5 sent.length y5, .int .i64 t0, .int .i64 t1, .int .i64 t2, .int .i64 t3, .int .i64 t4, .int .i64 t5] 45)
  have HR := Lib.hid ((hr.below b2).more (show w.heap.size ≤ ((w.alloc (.cells #[.int .i64 s0, .int .i64 s1, .int .i64 s2, .int .i64 s3, .int .i64 s4, .int .i64 s5, .int .i64 s6, .int .i64 s7, .int .i64 s8, .int .i64 now, .int .i64 mode, .slice a0 cs.length c0, .slice a1 inq.length c1, .slice a2 qs.length c2, .slice a3 sh.length c3, .slice a4 out.length c4, .int .i64 mark, .slice a5 sent.length c5, .int .i64 t0, .int .i64 t1, .int .i64 t2, .int .i64 t3, .int .i64 t4, .int .i64 t5] 45)).alloc (.cells #[.int .i64 s0, .int .i64 s1, .int .i64 s2, .int .i64 s3, .int .i64 s4, .int .i64 s5, .int .i64 s6, .int .i64 s7, .int .i64 s8, .int .i64 now, .int .i64 mode, .slice x0 cs.length y0, .slice x1 inq.length y1, .slice x2 qs.length y2, .slice x3 sh.length y3, .slice x4 out.length y4, .int .i64 mark, .slice x5 sent.length y5, .int .i64 t0, .int .i64 t1, .int .i64 t2, .int .i64 t3, .int .i64 t4, .int .i64 t5] 45)).heap.size by simp; omega))
  have HS := Lib.hid ((hs.below b2).more (show w.heap.size ≤ ((w.alloc (.cells #[.int .i64 s0, .int .i64 s1, .int .i64 s2, .int .i64 s3, .int .i64 s4, .int .i64 s5, .int .i64 s6, .int .i64 s7, .int .i64 s8, .int .i64 now, .int .i64 mode, .slice a0 cs.length c0, .slice a1 inq.length c1, .slice a2 qs.length c2, .slice a3 sh.length c3, .slice a4 out.length c4, .int .i64 mark, .slice a5 sent.length c5, .int .i64 t0, .int .i64 t1, .int .i64 t2, .int .i64 t3, .int .i64 t4, .int .i64 t5] 45)).alloc (.cells #[.int .i64 s0, .int .i64 s1, .int .i64 s2, .int .i64 s3, .int .i64 s4, .int .i64 s5, .int .i64 s6, .int .i64 s7, .int .i64 s8, .int .i64 now, .int .i64 mode, .slice x0 cs.length y0, .slice x1 inq.length y1, .slice x2 qs.length y2, .slice x3 sh.length y3, .slice x4 out.length y4, .int .i64 mark, .slice x5 sent.length y5, .int .i64 t0, .int .i64 t1, .int .i64 t2, .int .i64 t3, .int .i64 t4, .int .i64 t5] 45)).heap.size by simp; omega))
  have K0 := Lib.hid ((Blk.new w 45 #[.int .i64 s0, .int .i64 s1, .int .i64 s2, .int .i64 s3, .int .i64 s4, .int .i64 s5, .int .i64 s6, .int .i64 s7, .int .i64 s8, .int .i64 now, .int .i64 mode, .slice a0 cs.length c0, .slice a1 inq.length c1, .slice a2 qs.length c2, .slice a3 sh.length c3, .slice a4 out.length c4, .int .i64 mark, .slice a5 sent.length c5, .int .i64 t0, .int .i64 t1, .int .i64 t2, .int .i64 t3, .int .i64 t4, .int .i64 t5]).alloc (.cells #[.int .i64 s0, .int .i64 s1, .int .i64 s2, .int .i64 s3, .int .i64 s4, .int .i64 s5, .int .i64 s6, .int .i64 s7, .int .i64 s8, .int .i64 now, .int .i64 mode, .slice x0 cs.length y0, .slice x1 inq.length y1, .slice x2 qs.length y2, .slice x3 sh.length y3, .slice x4 out.length y4, .int .i64 mark, .slice x5 sent.length y5, .int .i64 t0, .int .i64 t1, .int .i64 t2, .int .i64 t3, .int .i64 t4, .int .i64 t5] 45))
  have K1 := Lib.hid (Blk.new (w.alloc (.cells #[.int .i64 s0, .int .i64 s1, .int .i64 s2, .int .i64 s3, .int .i64 s4, .int .i64 s5, .int .i64 s6, .int .i64 s7, .int .i64 s8, .int .i64 now, .int .i64 mode, .slice a0 cs.length c0, .slice a1 inq.length c1, .slice a2 qs.length c2, .slice a3 sh.length c3, .slice a4 out.length c4, .int .i64 mark, .slice a5 sent.length c5, .int .i64 t0, .int .i64 t1, .int .i64 t2, .int .i64 t3, .int .i64 t4, .int .i64 t5] 45)) 45 #[.int .i64 s0, .int .i64 s1, .int .i64 s2, .int .i64 s3, .int .i64 s4, .int .i64 s5, .int .i64 s6, .int .i64 s7, .int .i64 s8, .int .i64 now, .int .i64 mode, .slice x0 cs.length y0, .slice x1 inq.length y1, .slice x2 qs.length y2, .slice x3 sh.length y3, .slice x4 out.length y4, .int .i64 mark, .slice x5 sent.length y5, .int .i64 t0, .int .i64 t1, .int .i64 t2, .int .i64 t3, .int .i64 t4, .int .i64 t5])
  have B0 := Lib.hid b2
  clear hr hs b1 b2
  have e_s0 : (s0 != s0) = false := by simp
  have e_s1 : (s1 != s1) = false := by simp
  have e_s2 : (s2 != s2) = false := by simp
  have e_s3 : (s3 != s3) = false := by simp
  have e_s4 : (s4 != s4) = false := by simp
  have e_s5 : (s5 != s5) = false := by simp
  have e_s6 : (s6 != s6) = false := by simp
  have e_s7 : (s7 != s7) = false := by simp
  have e_s8 : (s8 != s8) = false := by simp
  have e_now : (now != now) = false := by simp
  have e_mode : (mode != mode) = false := by simp
  have e_mark : (mark != mark) = false := by simp
  have e_t0 : (t0 != t0) = false := by simp
  have e_t1 : (t1 != t1) = false := by simp
  have e_t2 : (t2 != t2) = false := by simp
  have e_t3 : (t3 != t3) = false := by simp
  have e_t4 : (t4 != t4) = false := by simp
  have e_t5 : (t5 != t5) = false := by simp
  go_enter Tryz.func13, Tryz.ntmps13
  go_wp2_with fail
  refine (eqSetup_y s0 s1 s2 s3 s4 s5 s6 s7 s8 _).mono ?_
  rintro e w1 ⟨rfl, hb⟩
  have k0 := K0.out.below hb
  have k1 := K1.out.below hb
  simp only [World.size_alloc] at k0 k1
  have K0 := Lib.hid k0
  have K1 := Lib.hid k1
  have qA := k0.cell
  have qB := k1.cell
  clear k0 k1
  have hs := hb.size
  have HR := Lib.hid ((HR.out.below hb).more hs)
  have HS := Lib.hid ((HS.out.below hb).more hs)
  have B0 := Lib.hid (B0.out.trans (hb.mono B0.out.size))
  clear hb hs
  go_wp2_with fail
  clear qA qB
  refine (eqConnR_any _ _ _ _ _ _ cs _ _ _ HR.out.cs HS.out.cs rfl rfl (by omega) (by omega)).mono ?_
  rintro e w2 ⟨rfl, hb⟩
  have k0 := K0.out.below hb
  have k1 := K1.out.below hb
  have K0 := Lib.hid k0
  have K1 := Lib.hid k1
  have qA := k0.cell
  have qB := k1.cell
  clear k0 k1
  have hs := hb.size
  have HR := Lib.hid ((HR.out.below hb).more hs)
  have HS := Lib.hid ((HS.out.below hb).more hs)
  have B0 := Lib.hid (B0.out.trans (hb.mono B0.out.size))
  clear hb hs
  go_wp2_with fail
  clear qA qB
  refine (eqMsgS_any _ _ _ _ _ _ inq _ _ _ HR.out.inq HS.out.inq rfl rfl (by omega) (by omega)).mono ?_
  rintro e w3 ⟨rfl, hb⟩
  have k0 := K0.out.below hb
  have k1 := K1.out.below hb
  have K0 := Lib.hid k0
  have K1 := Lib.hid k1
  have qA := k0.cell
  have qB := k1.cell
  clear k0 k1
  have hs := hb.size
  have HR := Lib.hid ((HR.out.below hb).more hs)
  have HS := Lib.hid ((HS.out.below hb).more hs)
  have B0 := Lib.hid (B0.out.trans (hb.mono B0.out.size))
  clear hb hs
  go_wp2_with fail
  clear qA qB
  refine (eqMsgSR_any _ _ _ _ _ _ qs _ _ _ HR.out.qs HS.out.qs rfl rfl (by omega) (by omega)).mono ?_
  rintro e w4 ⟨rfl, hb⟩
  have k0 := K0.out.below hb
  have k1 := K1.out.below hb
  have K0 := Lib.hid k0
  have K1 := Lib.hid k1
  have qA := k0.cell
  have qB := k1.cell
  clear k0 k1
  have hs := hb.size
  have HR := Lib.hid ((HR.out.below hb).more hs)
  have HS := Lib.hid ((HS.out.below hb).more hs)
  have B0 := Lib.hid (B0.out.trans (hb.mono B0.out.size))
  clear hb hs
  go_wp2_with fail
  clear qA qB
  refine (eqShardR_any _ _ _ _ _ _ sh _ _ _ HR.out.sh HS.out.sh rfl rfl (by omega) (by omega)).mono ?_
  rintro e w5 ⟨rfl, hb⟩
  have k0 := K0.out.below hb
  have k1 := K1.out.below hb
  have K0 := Lib.hid k0
  have K1 := Lib.hid k1
  have qA := k0.cell
  have qB := k1.cell
  clear k0 k1
  have hs := hb.size
  have HR := Lib.hid ((HR.out.below hb).more hs)
  have HS := Lib.hid ((HS.out.below hb).more hs)
  have B0 := Lib.hid (B0.out.trans (hb.mono B0.out.size))
  clear hb hs
  go_wp2_with fail
  clear qA qB
  refine (eqAggS_any _ _ _ _ _ _ out _ _ _ HR.out.out HS.out.out rfl rfl (by omega) (by omega)).mono ?_
  rintro e w6 ⟨rfl, hb⟩
  have k0 := K0.out.below hb
  have k1 := K1.out.below hb
  have K0 := Lib.hid k0
  have K1 := Lib.hid k1
  have qA := k0.cell
  have qB := k1.cell
  clear k0 k1
  have hs := hb.size
  have HR := Lib.hid ((HR.out.below hb).more hs)
  have HS := Lib.hid ((HS.out.below hb).more hs)
  have B0 := Lib.hid (B0.out.trans (hb.mono B0.out.size))
  clear hb hs
  go_wp2_with fail
  clear qA qB
  refine (eqInts_n _ _ _ _ _ _ sent _ _ _ HR.out.sent HS.out.sent rfl rfl).mono ?_
  rintro e w7 ⟨rfl, nd, hw⟩
  have hb : Below w6.heap.size w6 w7 := by rw [hw]; exact below_drewN (Below.refl _ _) nd
  clear hw
  have k0 := K0.out.below hb
  have k1 := K1.out.below hb
  have K0 := Lib.hid k0
  have K1 := Lib.hid k1
  have qA := k0.cell
  have qB := k1.cell
  clear k0 k1
  have hs := hb.size
  have HR := Lib.hid ((HR.out.below hb).more hs)
  have HS := Lib.hid ((HS.out.below hb).more hs)
  have B0 := Lib.hid (B0.out.trans (hb.mono B0.out.size))
  clear hb hs
  go_wp2_with fail
  clear qA qB
  refine (eqTally_y t0 t1 t2 t3 t4 t5 _).mono ?_
  rintro e w8 ⟨rfl, hb⟩
  have k0 := K0.out.below hb
  have k1 := K1.out.below hb
  have K0 := Lib.hid k0
  have K1 := Lib.hid k1
  have qA := k0.cell
  have qB := k1.cell
  clear k0 k1
  have hs := hb.size
  have HR := Lib.hid ((HR.out.below hb).more hs)
  have HS := Lib.hid ((HS.out.below hb).more hs)
  have B0 := Lib.hid (B0.out.trans (hb.mono B0.out.size))
  clear hb hs
  go_wp2
  go_ret
  exact ⟨rfl, B0.out⟩
end Go.Proofs.YtnfhlfbkdhpacaaGreatDoor
