/- laws.toEngine: the copy of an engine. (made by tools/mkeng.py) -/
import Derived.Test.YtnfhlfbkdhpacaaGreatDoorEngS
import Derived.Test.YtnfhlfbkdhpacaaGreatDoorJoint1
namespace Go.Proofs.YtnfhlfbkdhpacaaGreatDoor
open Go.RowKit
set_option maxHeartbeats 16000000 in
set_option maxRecDepth 100000 in
theorem toEngine_any (E : En) (p : Pl) (w : World) (hr : EnR w w.heap.size p E) (hf : EnFits E) :
    Calls Tryz.prog 10 #[ev E p] w fun e w' => ∃ p', e = .returned (ev E p') ∧ EnO w' w.heap.size p' E ∧ Below w.heap.size w w' := by
  unfold EnFits at hf
  obtain ⟨s0, s1, s2, s3, s4, s5, s6, s7, s8, now, mode, cs, inq, qs, sh, out, mark, sent, t0, t1, t2, t3, t4, t5⟩ := E
  obtain ⟨a0, c0, a1, c1, a2, c2, a3, c3, a4, c4, a5, c5⟩ := p
  simp only at hf
  change Calls _ _ #[.agg #[.int .i64 s0, .int .i64 s1, .int .i64 s2, .int .i64 s3, .int .i64 s4, .int .i64 s5, .int .i64 s6, .int .i64 s7, .int .i64 s8, .int .i64 now, .int .i64 mode, .slice a0 cs.length c0, .slice a1 inq.length c1, .slice a2 qs.length c2, .slice a3 sh.length c3, .slice a4 out.length c4, .int .i64 mark, .slice a5 sent.length c5, .int .i64 t0, .int .i64 t1, .int .i64 t2, .int .i64 t3, .int .i64 t4, .int .i64 t5]] _ _
  have b1 := (Below.refl w.heap.size w).alloc (Nat.le_refl _) (.cells #[.int .i64 s0, .int .i64 s1, .int .i64 s2, .int .i64 s3, .int .i64 s4, .int .i64 s5, .int .i64 s6, .int .i64 s7, .int .i64 s8, .int .i64 now, .int .i64 mode, .slice a0 cs.length c0, .slice a1 inq.length c1, .slice a2 qs.length c2, .slice a3 sh.length c3, .slice a4 out.length c4, .int .i64 mark, .slice a5 sent.length c5, .int .i64 t0, .int .i64 t1, .int .i64 t2, .int .i64 t3, .int .i64 t4, .int .i64 t5] 33)
  have b2 := b1.alloc (by simp) (.cells #[.int .i64 0, .int .i64 0, .int .i64 0, .int .i64 0, .int .i64 0, .int .i64 0, .int .i64 0, .int .i64 0, .int .i64 0, .int .i64 0, .int .i64 0, .slice none 0 0, .slice none 0 0, .slice none 0 0, .slice none 0 0, .slice none 0 0, .int .i64 0, .slice none 0 0, .int .i64 0, .int .i64 0, .int .i64 0, .int .i64 0, .int .i64 0, .int .i64 0] 45)
  have b3 := b2.alloc (by simp; omega) (.cells #[.int .i64 0, .int .i64 0, .int .i64 0, .int .i64 0, .int .i64 0, .int .i64 0, .int .i64 0, .int .i64 0, .int .i64 0, .int .i64 0, .int .i64 0, .slice none 0 0, .slice none 0 0, .slice none 0 0, .slice none 0 0, .slice none 0 0, .int .i64 0, .slice none 0 0, .int .i64 0, .int .i64 0, .int .i64 0, .int .i64 0, .int .i64 0, .int .i64 0] 45)
  have HR := Lib.hid (hr.below b3)
  have K0 := Lib.hid (((Blk.new w 33 #[.int .i64 s0, .int .i64 s1, .int .i64 s2, .int .i64 s3, .int .i64 s4, .int .i64 s5, .int .i64 s6, .int .i64 s7, .int .i64 s8, .int .i64 now, .int .i64 mode, .slice a0 cs.length c0, .slice a1 inq.length c1, .slice a2 qs.length c2, .slice a3 sh.length c3, .slice a4 out.length c4, .int .i64 mark, .slice a5 sent.length c5, .int .i64 t0, .int .i64 t1, .int .i64 t2, .int .i64 t3, .int .i64 t4, .int .i64 t5]).alloc (.cells #[.int .i64 0, .int .i64 0, .int .i64 0, .int .i64 0, .int .i64 0, .int .i64 0, .int .i64 0, .int .i64 0, .int .i64 0, .int .i64 0, .int .i64 0, .slice none 0 0, .slice none 0 0, .slice none 0 0, .slice none 0 0, .slice none 0 0, .int .i64 0, .slice none 0 0, .int .i64 0, .int .i64 0, .int .i64 0, .int .i64 0, .int .i64 0, .int .i64 0] 45)).alloc (.cells #[.int .i64 0, .int .i64 0, .int .i64 0, .int .i64 0, .int .i64 0, .int .i64 0, .int .i64 0, .int .i64 0, .int .i64 0, .int .i64 0, .int .i64 0, .slice none 0 0, .slice none 0 0, .slice none 0 0, .slice none 0 0, .slice none 0 0, .int .i64 0, .slice none 0 0, .int .i64 0, .int .i64 0, .int .i64 0, .int .i64 0, .int .i64 0, .int .i64 0] 45))
  have K1 := Lib.hid ((Blk.new (w.alloc (.cells #[.int .i64 s0, .int .i64 s1, .int .i64 s2, .int .i64 s3, .int .i64 s4, .int .i64 s5, .int .i64 s6, .int .i64 s7, .int .i64 s8, .int .i64 now, .int .i64 mode, .slice a0 cs.length c0, .slice a1 inq.length c1, .slice a2 qs.length c2, .slice a3 sh.length c3, .slice a4 out.length c4, .int .i64 mark, .slice a5 sent.length c5, .int .i64 t0, .int .i64 t1, .int .i64 t2, .int .i64 t3, .int .i64 t4, .int .i64 t5] 33)) 45 #[.int .i64 0, .int .i64 0, .int .i64 0, .int .i64 0, .int .i64 0, .int .i64 0, .int .i64 0, .int .i64 0, .int .i64 0, .int .i64 0, .int .i64 0, .slice none 0 0, .slice none 0 0, .slice none 0 0, .slice none 0 0, .slice none 0 0, .int .i64 0, .slice none 0 0, .int .i64 0, .int .i64 0, .int .i64 0, .int .i64 0, .int .i64 0, .int .i64 0]).alloc (.cells #[.int .i64 0, .int .i64 0, .int .i64 0, .int .i64 0, .int .i64 0, .int .i64 0, .int .i64 0, .int .i64 0, .int .i64 0, .int .i64 0, .int .i64 0, .slice none 0 0, .slice none 0 0, .slice none 0 0, .slice none 0 0, .slice none 0 0, .int .i64 0, .slice none 0 0, .int .i64 0, .int .i64 0, .int .i64 0, .int .i64 0, .int .i64 0, .int .i64 0] 45))
  have K2 := Lib.hid (Blk.new ((w.alloc (.cells #[.int .i64 s0, .int .i64 s1, .int .i64 s2, .int .i64 s3, .int .i64 s4, .int .i64 s5, .int .i64 s6, .int .i64 s7, .int .i64 s8, .int .i64 now, .int .i64 mode, .slice a0 cs.length c0, .slice a1 inq.length c1, .slice a2 qs.length c2, .slice a3 sh.length c3, .slice a4 out.length c4, .int .i64 mark, .slice a5 sent.length c5, .int .i64 t0, .int .i64 t1, .int .i64 t2, .int .i64 t3, .int .i64 t4, .int .i64 t5] 33)).alloc (.cells #[.int .i64 0, .int .i64 0, .int .i64 0, .int .i64 0, .int .i64 0, .int .i64 0, .int .i64 0, .int .i64 0, .int .i64 0, .int .i64 0, .int .i64 0, .slice none 0 0, .slice none 0 0, .slice none 0 0, .slice none 0 0, .slice none 0 0, .int .i64 0, .slice none 0 0, .int .i64 0, .int .i64 0, .int .i64 0, .int .i64 0, .int .i64 0, .int .i64 0] 45)) 45 #[.int .i64 0, .int .i64 0, .int .i64 0, .int .i64 0, .int .i64 0, .int .i64 0, .int .i64 0, .int .i64 0, .int .i64 0, .int .i64 0, .int .i64 0, .slice none 0 0, .slice none 0 0, .slice none 0 0, .slice none 0 0, .slice none 0 0, .int .i64 0, .slice none 0 0, .int .i64 0, .int .i64 0, .int .i64 0, .int .i64 0, .int .i64 0, .int .i64 0])
  have B3 := Lib.hid b3
  clear hr b1 b2 b3
  go_enter Tryz.func10, Tryz.ntmps10
  go_wp2_with fail
  refine (toSetup_x s0 s1 s2 s3 s4 s5 s6 s7 s8 _).mono ?_
  rintro e w1 ⟨rfl, hb⟩
  have k0 := Blk.below (K0.out) hb
  have k1 := Blk.below (K1.out) hb
  have k2 := Blk.below (K2.out) hb
  have s := hb.size
  simp only [World.size_alloc] at k0 k1 k2 s
  have HR := Lib.hid (HR.out.below (hb.mono (by simp only [World.size_alloc]; omega)))
  have bb := B3.out.trans (hb.mono (by simp only [World.size_alloc]; omega))
  clear hb
  have qA := k0.cell
  have qC := k2.cell
  have fC := k2.frozen
  have HV : Hid (Blk (((((((((((w1.setCell ⟨w.heap.size + 1 + 1, 0, none⟩ (.int .i64 s0)).setCell ⟨w.heap.size + 1 + 1, 1, none⟩ (.int .i64 s1)).setCell ⟨w.heap.size + 1 + 1, 2, none⟩ (.int .i64 s2)).setCell ⟨w.heap.size + 1 + 1, 3, none⟩ (.int .i64 s3)).setCell ⟨w.heap.size + 1 + 1, 4, none⟩ (.int .i64 s4)).setCell ⟨w.heap.size + 1 + 1, 5, none⟩ (.int .i64 s5)).setCell ⟨w.heap.size + 1 + 1, 6, none⟩ (.int .i64 s6)).setCell ⟨w.heap.size + 1 + 1, 7, none⟩ (.int .i64 s7)).setCell ⟨w.heap.size + 1 + 1, 8, none⟩ (.int .i64 s8)).setCell ⟨w.heap.size + 1 + 1, 9, none⟩ (.int .i64 now)).setCell ⟨w.heap.size + 1 + 1, 10, none⟩ (.int .i64 mode)) (w.heap.size) 33 #[.int .i64 s0, .int .i64 s1, .int .i64 s2, .int .i64 s3, .int .i64 s4, .int .i64 s5, .int .i64 s6, .int .i64 s7, .int .i64 s8, .int .i64 now, .int .i64 mode, .slice a0 cs.length c0, .slice a1 inq.length c1, .slice a2 qs.length c2, .slice a3 sh.length c3, .slice a4 out.length c4, .int .i64 mark, .slice a5 sent.length c5, .int .i64 t0, .int .i64 t1, .int .i64 t2, .int .i64 t3, .int .i64 t4, .int .i64 t5] ∧ Blk (((((((((((w1.setCell ⟨w.heap.size + 1 + 1, 0, none⟩ (.int .i64 s0)).setCell ⟨w.heap.size + 1 + 1, 1, none⟩ (.int .i64 s1)).setCell ⟨w.heap.size + 1 + 1, 2, none⟩ (.int .i64 s2)).setCell ⟨w.heap.size + 1 + 1, 3, none⟩ (.int .i64 s3)).setCell ⟨w.heap.size + 1 + 1, 4, none⟩ (.int .i64 s4)).setCell ⟨w.heap.size + 1 + 1, 5, none⟩ (.int .i64 s5)).setCell ⟨w.heap.size + 1 + 1, 6, none⟩ (.int .i64 s6)).setCell ⟨w.heap.size + 1 + 1, 7, none⟩ (.int .i64 s7)).setCell ⟨w.heap.size + 1 + 1, 8, none⟩ (.int .i64 s8)).setCell ⟨w.heap.size + 1 + 1, 9, none⟩ (.int .i64 now)).setCell ⟨w.heap.size + 1 + 1, 10, none⟩ (.int .i64 mode)) (w.heap.size + 1) 45 #[.int .i64 0, .int .i64 0, .int .i64 0, .int .i64 0, .int .i64 0, .int .i64 0, .int .i64 0, .int .i64 0, .int .i64 0, .int .i64 0, .int .i64 0, .slice none 0 0, .slice none 0 0, .slice none 0 0, .slice none 0 0, .slice none 0 0, .int .i64 0, .slice none 0 0, .int .i64 0, .int .i64 0, .int .i64 0, .int .i64 0, .int .i64 0, .int .i64 0] ∧ Blk (((((((((((w1.setCell ⟨w.heap.size + 1 + 1, 0, none⟩ (.int .i64 s0)).setCell ⟨w.heap.size + 1 + 1, 1, none⟩ (.int .i64 s1)).setCell ⟨w.heap.size + 1 + 1, 2, none⟩ (.int .i64 s2)).setCell ⟨w.heap.size + 1 + 1, 3, none⟩ (.int .i64 s3)).setCell ⟨w.heap.size + 1 + 1, 4, none⟩ (.int .i64 s4)).setCell ⟨w.heap.size + 1 + 1, 5, none⟩ (.int .i64 s5)).setCell ⟨w.heap.size + 1 + 1, 6, none⟩ (.int .i64 s6)).setCell ⟨w.heap.size + 1 + 1, 7, none⟩ (.int .i64 s7)).setCell ⟨w.heap.size + 1 + 1, 8, none⟩ (.int .i64 s8)).setCell ⟨w.heap.size + 1 + 1, 9, none⟩ (.int .i64 now)).setCell ⟨w.heap.size + 1 + 1, 10, none⟩ (.int .i64 mode)) (w.heap.size + 1 + 1) 45 #[.int .i64 s0, .int .i64 s1, .int .i64 s2, .int .i64 s3, .int .i64 s4, .int .i64 s5, .int .i64 s6, .int .i64 s7, .int .i64 s8, .int .i64 now, .int .i64 mode, .slice none 0 0, .slice none 0 0, .slice none 0 0, .slice none 0 0, .slice none 0 0, .int .i64 0, .slice none 0 0, .int .i64 0, .int .i64 0, .int .i64 0, .int .i64 0, .int .i64 0, .int .i64 0] ∧ Below w.heap.size w (((((((((((w1.setCell ⟨w.heap.size + 1 + 1, 0, none⟩ (.int .i64 s0)).setCell ⟨w.heap.size + 1 + 1, 1, none⟩ (.int .i64 s1)).setCell ⟨w.heap.size + 1 + 1, 2, none⟩ (.int .i64 s2)).setCell ⟨w.heap.size + 1 + 1, 3, none⟩ (.int .i64 s3)).setCell ⟨w.heap.size + 1 + 1, 4, none⟩ (.int .i64 s4)).setCell ⟨w.heap.size + 1 + 1, 5, none⟩ (.int .i64 s5)).setCell ⟨w.heap.size + 1 + 1, 6, none⟩ (.int .i64 s6)).setCell ⟨w.heap.size + 1 + 1, 7, none⟩ (.int .i64 s7)).setCell ⟨w.heap.size + 1 + 1, 8, none⟩ (.int .i64 s8)).setCell ⟨w.heap.size + 1 + 1, 9, none⟩ (.int .i64 now)).setCell ⟨w.heap.size + 1 + 1, 10, none⟩ (.int .i64 mode)) ∧ (((((((((((w1.setCell ⟨w.heap.size + 1 + 1, 0, none⟩ (.int .i64 s0)).setCell ⟨w.heap.size + 1 + 1, 1, none⟩ (.int .i64 s1)).setCell ⟨w.heap.size + 1 + 1, 2, none⟩ (.int .i64 s2)).setCell ⟨w.heap.size + 1 + 1, 3, none⟩ (.int .i64 s3)).setCell ⟨w.heap.size + 1 + 1, 4, none⟩ (.int .i64 s4)).setCell ⟨w.heap.size + 1 + 1, 5, none⟩ (.int .i64 s5)).setCell ⟨w.heap.size + 1 + 1, 6, none⟩ (.int .i64 s6)).setCell ⟨w.heap.size + 1 + 1, 7, none⟩ (.int .i64 s7)).setCell ⟨w.heap.size + 1 + 1, 8, none⟩ (.int .i64 s8)).setCell ⟨w.heap.size + 1 + 1, 9, none⟩ (.int .i64 now)).setCell ⟨w.heap.size + 1 + 1, 10, none⟩ (.int .i64 mode)).heap.size = w1.heap.size ∧ EnR (((((((((((w1.setCell ⟨w.heap.size + 1 + 1, 0, none⟩ (.int .i64 s0)).setCell ⟨w.heap.size + 1 + 1, 1, none⟩ (.int .i64 s1)).setCell ⟨w.heap.size + 1 + 1, 2, none⟩ (.int .i64 s2)).setCell ⟨w.heap.size + 1 + 1, 3, none⟩ (.int .i64 s3)).setCell ⟨w.heap.size + 1 + 1, 4, none⟩ (.int .i64 s4)).setCell ⟨w.heap.size + 1 + 1, 5, none⟩ (.int .i64 s5)).setCell ⟨w.heap.size + 1 + 1, 6, none⟩ (.int .i64 s6)).setCell ⟨w.heap.size + 1 + 1, 7, none⟩ (.int .i64 s7)).setCell ⟨w.heap.size + 1 + 1, 8, none⟩ (.int .i64 s8)).setCell ⟨w.heap.size + 1 + 1, 9, none⟩ (.int .i64 now)).setCell ⟨w.heap.size + 1 + 1, 10, none⟩ (.int .i64 mode)) w.heap.size ⟨a0, c0, a1, c1, a2, c2, a3, c3, a4, c4, a5, c5⟩ ⟨s0, s1, s2, s3, s4, s5, s6, s7, s8, now, mode, cs, inq, qs, sh, out, mark, sent, t0, t1, t2, t3, t4, t5⟩) :=
    Lib.hid ⟨(hblk_far (hblk_far (hblk_far (hblk_far (hblk_far (hblk_far (hblk_far (hblk_far (hblk_far (hblk_far (hblk_far k0 (p := ⟨w.heap.size + 1 + 1, 0, none⟩) (by simp; omega) _) (p := ⟨w.heap.size + 1 + 1, 1, none⟩) (by simp; omega) _) (p := ⟨w.heap.size + 1 + 1, 2, none⟩) (by simp; omega) _) (p := ⟨w.heap.size + 1 + 1, 3, none⟩) (by simp; omega) _) (p := ⟨w.heap.size + 1 + 1, 4, none⟩) (by simp; omega) _) (p := ⟨w.heap.size + 1 + 1, 5, none⟩) (by simp; omega) _) (p := ⟨w.heap.size + 1 + 1, 6, none⟩) (by simp; omega) _) (p := ⟨w.heap.size + 1 + 1, 7, none⟩) (by simp; omega) _) (p := ⟨w.heap.size + 1 + 1, 8, none⟩) (by simp; omega) _) (p := ⟨w.heap.size + 1 + 1, 9, none⟩) (by simp; omega) _) (p := ⟨w.heap.size + 1 + 1, 10, none⟩) (by simp; omega) _), (hblk_far (hblk_far (hblk_far (hblk_far (hblk_far (hblk_far (hblk_far (hblk_far (hblk_far (hblk_far (hblk_far k1 (p := ⟨w.heap.size + 1 + 1, 0, none⟩) (by simp) _) (p := ⟨w.heap.size + 1 + 1, 1, none⟩) (by simp) _) (p := ⟨w.heap.size + 1 + 1, 2, none⟩) (by simp) _) (p := ⟨w.heap.size + 1 + 1, 3, none⟩) (by simp) _) (p := ⟨w.heap.size + 1 + 1, 4, none⟩) (by simp) _) (p := ⟨w.heap.size + 1 + 1, 5, none⟩) (by simp) _) (p := ⟨w.heap.size + 1 + 1, 6, none⟩) (by simp) _) (p := ⟨w.heap.size + 1 + 1, 7, none⟩) (by simp) _) (p := ⟨w.heap.size + 1 + 1, 8, none⟩) (by simp) _) (p := ⟨w.heap.size + 1 + 1, 9, none⟩) (by simp) _) (p := ⟨w.heap.size + 1 + 1, 10, none⟩) (by simp) _), by simpa using (Blk.put_ (Blk.put_ (Blk.put_ (Blk.put_ (Blk.put_ (Blk.put_ (Blk.put_ (Blk.put_ (Blk.put_ (Blk.put_ (Blk.put_ k2 0 (.int .i64 s0)) 1 (.int .i64 s1)) 2 (.int .i64 s2)) 3 (.int .i64 s3)) 4 (.int .i64 s4)) 5 (.int .i64 s5)) 6 (.int .i64 s6)) 7 (.int .i64 s7)) 8 (.int .i64 s8)) 9 (.int .i64 now)) 10 (.int .i64 mode)), (((((((((((bb.setCell (p := ⟨w.heap.size + 1 + 1, 0, none⟩) (by simp; omega) _).setCell (p := ⟨w.heap.size + 1 + 1, 1, none⟩) (by simp; omega) _).setCell (p := ⟨w.heap.size + 1 + 1, 2, none⟩) (by simp; omega) _).setCell (p := ⟨w.heap.size + 1 + 1, 3, none⟩) (by simp; omega) _).setCell (p := ⟨w.heap.size + 1 + 1, 4, none⟩) (by simp; omega) _).setCell (p := ⟨w.heap.size + 1 + 1, 5, none⟩) (by simp; omega) _).setCell (p := ⟨w.heap.size + 1 + 1, 6, none⟩) (by simp; omega) _).setCell (p := ⟨w.heap.size + 1 + 1, 7, none⟩) (by simp; omega) _).setCell (p := ⟨w.heap.size + 1 + 1, 8, none⟩) (by simp; omega) _).setCell (p := ⟨w.heap.size + 1 + 1, 9, none⟩) (by simp; omega) _).setCell (p := ⟨w.heap.size + 1 + 1, 10, none⟩) (by simp; omega) _), by simp, (EnR.below (EnR.below (EnR.below (EnR.below (EnR.below (EnR.below (EnR.below (EnR.below (EnR.below (EnR.below (EnR.below HR.out ((Below.refl w.heap.size _).setCell (p := ⟨w.heap.size + 1 + 1, 0, none⟩) (by simp; omega) _)) ((Below.refl w.heap.size _).setCell (p := ⟨w.heap.size + 1 + 1, 1, none⟩) (by simp; omega) _)) ((Below.refl w.heap.size _).setCell (p := ⟨w.heap.size + 1 + 1, 2, none⟩) (by simp; omega) _)) ((Below.refl w.heap.size _).setCell (p := ⟨w.heap.size + 1 + 1, 3, none⟩) (by simp; omega) _)) ((Below.refl w.heap.size _).setCell (p := ⟨w.heap.size + 1 + 1, 4, none⟩) (by simp; omega) _)) ((Below.refl w.heap.size _).setCell (p := ⟨w.heap.size + 1 + 1, 5, none⟩) (by simp; omega) _)) ((Below.refl w.heap.size _).setCell (p := ⟨w.heap.size + 1 + 1, 6, none⟩) (by simp; omega) _)) ((Below.refl w.heap.size _).setCell (p := ⟨w.heap.size + 1 + 1, 7, none⟩) (by simp; omega) _)) ((Below.refl w.heap.size _).setCell (p := ⟨w.heap.size + 1 + 1, 8, none⟩) (by simp; omega) _)) ((Below.refl w.heap.size _).setCell (p := ⟨w.heap.size + 1 + 1, 9, none⟩) (by simp; omega) _)) ((Below.refl w.heap.size _).setCell (p := ⟨w.heap.size + 1 + 1, 10, none⟩) (by simp; omega) _))⟩
  clear k0 k1 k2 bb 
  go_wp2_with fail
  clear qA qC fC
  generalize (((((((((((w1.setCell ⟨w.heap.size + 1 + 1, 0, none⟩ (.int .i64 s0)).setCell ⟨w.heap.size + 1 + 1, 1, none⟩ (.int .i64 s1)).setCell ⟨w.heap.size + 1 + 1, 2, none⟩ (.int .i64 s2)).setCell ⟨w.heap.size + 1 + 1, 3, none⟩ (.int .i64 s3)).setCell ⟨w.heap.size + 1 + 1, 4, none⟩ (.int .i64 s4)).setCell ⟨w.heap.size + 1 + 1, 5, none⟩ (.int .i64 s5)).setCell ⟨w.heap.size + 1 + 1, 6, none⟩ (.int .i64 s6)).setCell ⟨w.heap.size + 1 + 1, 7, none⟩ (.int .i64 s7)).setCell ⟨w.heap.size + 1 + 1, 8, none⟩ (.int .i64 s8)).setCell ⟨w.heap.size + 1 + 1, 9, none⟩ (.int .i64 now)).setCell ⟨w.heap.size + 1 + 1, 10, none⟩ (.int .i64 mode)) = V1 at HV ⊢
  clear HR
  obtain ⟨k0, k1, k2, bv, sv, hr⟩ := HV.out
  have HR := Lib.hid hr
  clear HV hr
  have s : w.heap.size + 1 + 1 + 1 ≤ V1.heap.size := by omega
  refine (toConnR_any a0 _ c0 cs _ _ HR.out.cs rfl (by omega) (by omega) (by omega)).mono ?_
  rintro e w2 ⟨x0, y0, rfl, ho, hb⟩
  have k0 := Blk.below (k0) hb
  have k1 := Blk.below (k1) hb
  have k2 := Blk.below (k2) hb
  have s := hb.size
  have HR := Lib.hid (HR.out.below (hb.mono (by omega)))
  have bb := bv.trans (hb.mono (by omega))
  have o_cs : HOwn hdCn 7 cnD 95 w2 (w.heap.size + 1 + 1 + 1) x0 y0 cs := HOwn.less ho (by omega)
  clear ho
  clear hb
  have qA := k0.cell
  have qC := k2.cell
  have fC := k2.frozen
  have HV : Hid (Blk (w2.setCell ⟨w.heap.size + 1 + 1, 11, none⟩ (.slice x0 cs.length y0)) (w.heap.size) 33 #[.int .i64 s0, .int .i64 s1, .int .i64 s2, .int .i64 s3, .int .i64 s4, .int .i64 s5, .int .i64 s6, .int .i64 s7, .int .i64 s8, .int .i64 now, .int .i64 mode, .slice a0 cs.length c0, .slice a1 inq.length c1, .slice a2 qs.length c2, .slice a3 sh.length c3, .slice a4 out.length c4, .int .i64 mark, .slice a5 sent.length c5, .int .i64 t0, .int .i64 t1, .int .i64 t2, .int .i64 t3, .int .i64 t4, .int .i64 t5] ∧ Blk (w2.setCell ⟨w.heap.size + 1 + 1, 11, none⟩ (.slice x0 cs.length y0)) (w.heap.size + 1) 45 #[.int .i64 0, .int .i64 0, .int .i64 0, .int .i64 0, .int .i64 0, .int .i64 0, .int .i64 0, .int .i64 0, .int .i64 0, .int .i64 0, .int .i64 0, .slice none 0 0, .slice none 0 0, .slice none 0 0, .slice none 0 0, .slice none 0 0, .int .i64 0, .slice none 0 0, .int .i64 0, .int .i64 0, .int .i64 0, .int .i64 0, .int .i64 0, .int .i64 0] ∧ Blk (w2.setCell ⟨w.heap.size + 1 + 1, 11, none⟩ (.slice x0 cs.length y0)) (w.heap.size + 1 + 1) 45 #[.int .i64 s0, .int .i64 s1, .int .i64 s2, .int .i64 s3, .int .i64 s4, .int .i64 s5, .int .i64 s6, .int .i64 s7, .int .i64 s8, .int .i64 now, .int .i64 mode, .slice x0 cs.length y0, .slice none 0 0, .slice none 0 0, .slice none 0 0, .slice none 0 0, .int .i64 0, .slice none 0 0, .int .i64 0, .int .i64 0, .int .i64 0, .int .i64 0, .int .i64 0, .int .i64 0] ∧ Below w.heap.size w (w2.setCell ⟨w.heap.size + 1 + 1, 11, none⟩ (.slice x0 cs.length y0)) ∧ (w2.setCell ⟨w.heap.size + 1 + 1, 11, none⟩ (.slice x0 cs.length y0)).heap.size = w2.heap.size ∧ EnR (w2.setCell ⟨w.heap.size + 1 + 1, 11, none⟩ (.slice x0 cs.length y0)) w.heap.size ⟨a0, c0, a1, c1, a2, c2, a3, c3, a4, c4, a5, c5⟩ ⟨s0, s1, s2, s3, s4, s5, s6, s7, s8, now, mode, cs, inq, qs, sh, out, mark, sent, t0, t1, t2, t3, t4, t5⟩ ∧ HOwn hdCn 7 cnD 95 (w2.setCell ⟨w.heap.size + 1 + 1, 11, none⟩ (.slice x0 cs.length y0)) (w.heap.size + 1 + 1 + 1) x0 y0 cs) :=
    Lib.hid ⟨(hblk_far k0 (p := ⟨w.heap.size + 1 + 1, 11, none⟩) (by simp; omega) _), (hblk_far k1 (p := ⟨w.heap.size + 1 + 1, 11, none⟩) (by simp) _), by simpa using (Blk.put_ k2 11 (.slice x0 cs.length y0)), (bb.setCell (p := ⟨w.heap.size + 1 + 1, 11, none⟩) (by simp; omega) _), by simp, (EnR.below HR.out ((Below.refl w.heap.size _).setCell (p := ⟨w.heap.size + 1 + 1, 11, none⟩) (by simp; omega) _)), (HOwn.set o_cs (show (⟨w.heap.size + 1 + 1, 11, none⟩ : Addr).block < w.heap.size + 1 + 1 + 1 by simp) _)⟩
  clear k0 k1 k2 bb o_cs
  go_wp2_with fail
  clear qA qC fC
  generalize (w2.setCell ⟨w.heap.size + 1 + 1, 11, none⟩ (.slice x0 cs.length y0)) = V2 at HV ⊢
  clear HR
  obtain ⟨k0, k1, k2, bv, sv, hr, r_cs⟩ := HV.out
  have HR := Lib.hid hr
  clear HV hr
  have s : w.heap.size + 1 + 1 + 1 ≤ V2.heap.size := by omega
  refine (toMsgS_any a1 _ c1 inq _ _ HR.out.inq rfl (by omega) (by omega)).mono ?_
  rintro e w3 ⟨x1, y1, rfl, ho, hb⟩
  have k0 := Blk.below (k0) hb
  have k1 := Blk.below (k1) hb
  have k2 := Blk.below (k2) hb
  have s := hb.size
  have HR := Lib.hid (HR.out.below (hb.mono (by omega)))
  have bb := bv.trans (hb.mono (by omega))
  have o_cs := HOwn.below r_cs hb
  have o_inq : (w3).ownsRow (w.heap.size + 1 + 1 + 1) 127 5 (.slice x1 inq.length y1) inq.length (flatQ inq) := owns_less ho (by omega)
  clear ho
  clear hb
  have qA := k0.cell
  have qC := k2.cell
  have fC := k2.frozen
  have HV : Hid (Blk (w3.setCell ⟨w.heap.size + 1 + 1, 12, none⟩ (.slice x1 inq.length y1)) (w.heap.size) 33 #[.int .i64 s0, .int .i64 s1, .int .i64 s2, .int .i64 s3, .int .i64 s4, .int .i64 s5, .int .i64 s6, .int .i64 s7, .int .i64 s8, .int .i64 now, .int .i64 mode, .slice a0 cs.length c0, .slice a1 inq.length c1, .slice a2 qs.length c2, .slice a3 sh.length c3, .slice a4 out.length c4, .int .i64 mark, .slice a5 sent.length c5, .int .i64 t0, .int .i64 t1, .int .i64 t2, .int .i64 t3, .int .i64 t4, .int .i64 t5] ∧ Blk (w3.setCell ⟨w.heap.size + 1 + 1, 12, none⟩ (.slice x1 inq.length y1)) (w.heap.size + 1) 45 #[.int .i64 0, .int .i64 0, .int .i64 0, .int .i64 0, .int .i64 0, .int .i64 0, .int .i64 0, .int .i64 0, .int .i64 0, .int .i64 0, .int .i64 0, .slice none 0 0, .slice none 0 0, .slice none 0 0, .slice none 0 0, .slice none 0 0, .int .i64 0, .slice none 0 0, .int .i64 0, .int .i64 0, .int .i64 0, .int .i64 0, .int .i64 0, .int .i64 0] ∧ Blk (w3.setCell ⟨w.heap.size + 1 + 1, 12, none⟩ (.slice x1 inq.length y1)) (w.heap.size + 1 + 1) 45 #[.int .i64 s0, .int .i64 s1, .int .i64 s2, .int .i64 s3, .int .i64 s4, .int .i64 s5, .int .i64 s6, .int .i64 s7, .int .i64 s8, .int .i64 now, .int .i64 mode, .slice x0 cs.length y0, .slice x1 inq.length y1, .slice none 0 0, .slice none 0 0, .slice none 0 0, .int .i64 0, .slice none 0 0, .int .i64 0, .int .i64 0, .int .i64 0, .int .i64 0, .int .i64 0, .int .i64 0] ∧ Below w.heap.size w (w3.setCell ⟨w.heap.size + 1 + 1, 12, none⟩ (.slice x1 inq.length y1)) ∧ (w3.setCell ⟨w.heap.size + 1 + 1, 12, none⟩ (.slice x1 inq.length y1)).heap.size = w3.heap.size ∧ EnR (w3.setCell ⟨w.heap.size + 1 + 1, 12, none⟩ (.slice x1 inq.length y1)) w.heap.size ⟨a0, c0, a1, c1, a2, c2, a3, c3, a4, c4, a5, c5⟩ ⟨s0, s1, s2, s3, s4, s5, s6, s7, s8, now, mode, cs, inq, qs, sh, out, mark, sent, t0, t1, t2, t3, t4, t5⟩ ∧ HOwn hdCn 7 cnD 95 (w3.setCell ⟨w.heap.size + 1 + 1, 12, none⟩ (.slice x1 inq.length y1)) (w.heap.size + 1 + 1 + 1) x0 y0 cs ∧ ((w3.setCell ⟨w.heap.size + 1 + 1, 12, none⟩ (.slice x1 inq.length y1))).ownsRow (w.heap.size + 1 + 1 + 1) 127 5 (.slice x1 inq.length y1) inq.length (flatQ inq)) :=
    Lib.hid ⟨(hblk_far k0 (p := ⟨w.heap.size + 1 + 1, 12, none⟩) (by simp; omega) _), (hblk_far k1 (p := ⟨w.heap.size + 1 + 1, 12, none⟩) (by simp) _), by simpa using (Blk.put_ k2 12 (.slice x1 inq.length y1)), (bb.setCell (p := ⟨w.heap.size + 1 + 1, 12, none⟩) (by simp; omega) _), by simp, (EnR.below HR.out ((Below.refl w.heap.size _).setCell (p := ⟨w.heap.size + 1 + 1, 12, none⟩) (by simp; omega) _)), (HOwn.set o_cs (show (⟨w.heap.size + 1 + 1, 12, none⟩ : Addr).block < w.heap.size + 1 + 1 + 1 by simp) _), (ownsR_setCell_below o_inq (show (⟨w.heap.size + 1 + 1, 12, none⟩ : Addr).block < w.heap.size + 1 + 1 + 1 by simp) _)⟩
  clear k0 k1 k2 bb o_cs o_inq
  go_wp2_with fail
  clear qA qC fC
  generalize (w3.setCell ⟨w.heap.size + 1 + 1, 12, none⟩ (.slice x1 inq.length y1)) = V3 at HV ⊢
  clear HR
  obtain ⟨k0, k1, k2, bv, sv, hr, r_cs, r_inq⟩ := HV.out
  have HR := Lib.hid hr
  clear HV hr
  have s : w.heap.size + 1 + 1 + 1 ≤ V3.heap.size := by omega
  refine (toMsgSR_any a2 _ c2 qs _ _ HR.out.qs rfl (by omega) (by omega) (by omega)).mono ?_
  rintro e w4 ⟨x2, y2, rfl, ho, hb⟩
  have k0 := Blk.below (k0) hb
  have k1 := Blk.below (k1) hb
  have k2 := Blk.below (k2) hb
  have s := hb.size
  have HR := Lib.hid (HR.out.below (hb.mono (by omega)))
  have bb := bv.trans (hb.mono (by omega))
  have o_cs := HOwn.below r_cs hb
  have o_inq := owns_below r_inq hb
  have o_qs : HOwn hdMq 1 ([] : List Mq) 39 w4 (w.heap.size + 1 + 1 + 1) x2 y2 qs := HOwn.less ho (by omega)
  clear ho
  clear hb
  have qA := k0.cell
  have qC := k2.cell
  have fC := k2.frozen
  have HV : Hid (Blk (w4.setCell ⟨w.heap.size + 1 + 1, 13, none⟩ (.slice x2 qs.length y2)) (w.heap.size) 33 #[.int .i64 s0, .int .i64 s1, .int .i64 s2, .int .i64 s3, .int .i64 s4, .int .i64 s5, .int .i64 s6, .int .i64 s7, .int .i64 s8, .int .i64 now, .int .i64 mode, .slice a0 cs.length c0, .slice a1 inq.length c1, .slice a2 qs.length c2, .slice a3 sh.length c3, .slice a4 out.length c4, .int .i64 mark, .slice a5 sent.length c5, .int .i64 t0, .int .i64 t1, .int .i64 t2, .int .i64 t3, .int .i64 t4, .int .i64 t5] ∧ Blk (w4.setCell ⟨w.heap.size + 1 + 1, 13, none⟩ (.slice x2 qs.length y2)) (w.heap.size + 1) 45 #[.int .i64 0, .int .i64 0, .int .i64 0, .int .i64 0, .int .i64 0, .int .i64 0, .int .i64 0, .int .i64 0, .int .i64 0, .int .i64 0, .int .i64 0, .slice none 0 0, .slice none 0 0, .slice none 0 0, .slice none 0 0, .slice none 0 0, .int .i64 0, .slice none 0 0, .int .i64 0, .int .i64 0, .int .i64 0, .int .i64 0, .int .i64 0, .int .i64 0] ∧ Blk (w4.setCell ⟨w.heap.size + 1 + 1, 13, none⟩ (.slice x2 qs.length y2)) (w.heap.size + 1 + 1) 45 #[.int .i64 s0, .int .i64 s1, .int .i64 s2, .int .i64 s3, .int .i64 s4, .int .i64 s5, .int .i64 s6, .int .i64 s7, .int .i64 s8, .int .i64 now, .int .i64 mode, .slice x0 cs.length y0, .slice x1 inq.length y1, .slice x2 qs.length y2, .slice none 0 0, .slice none 0 0, .int .i64 0, .slice none 0 0, .int .i64 0, .int .i64 0, .int .i64 0, .int .i64 0, .int .i64 0, .int .i64 0] ∧ Below w.heap.size w (w4.setCell ⟨w.heap.size + 1 + 1, 13, none⟩ (.slice x2 qs.length y2)) ∧ (w4.setCell ⟨w.heap.size + 1 + 1, 13, none⟩ (.slice x2 qs.length y2)).heap.size = w4.heap.size ∧ EnR (w4.setCell ⟨w.heap.size + 1 + 1, 13, none⟩ (.slice x2 qs.length y2)) w.heap.size ⟨a0, c0, a1, c1, a2, c2, a3, c3, a4, c4, a5, c5⟩ ⟨s0, s1, s2, s3, s4, s5, s6, s7, s8, now, mode, cs, inq, qs, sh, out, mark, sent, t0, t1, t2, t3, t4, t5⟩ ∧ HOwn hdCn 7 cnD 95 (w4.setCell ⟨w.heap.size + 1 + 1, 13, none⟩ (.slice x2 qs.length y2)) (w.heap.size + 1 + 1 + 1) x0 y0 cs ∧ ((w4.setCell ⟨w.heap.size + 1 + 1, 13, none⟩ (.slice x2 qs.length y2))).ownsRow (w.heap.size + 1 + 1 + 1) 127 5 (.slice x1 inq.length y1) inq.length (flatQ inq) ∧ HOwn hdMq 1 ([] : List Mq) 39 (w4.setCell ⟨w.heap.size + 1 + 1, 13, none⟩ (.slice x2 qs.length y2)) (w.heap.size + 1 + 1 + 1) x2 y2 qs) :=
    Lib.hid ⟨(hblk_far k0 (p := ⟨w.heap.size + 1 + 1, 13, none⟩) (by simp; omega) _), (hblk_far k1 (p := ⟨w.heap.size + 1 + 1, 13, none⟩) (by simp) _), by simpa using (Blk.put_ k2 13 (.slice x2 qs.length y2)), (bb.setCell (p := ⟨w.heap.size + 1 + 1, 13, none⟩) (by simp; omega) _), by simp, (EnR.below HR.out ((Below.refl w.heap.size _).setCell (p := ⟨w.heap.size + 1 + 1, 13, none⟩) (by simp; omega) _)), (HOwn.set o_cs (show (⟨w.heap.size + 1 + 1, 13, none⟩ : Addr).block < w.heap.size + 1 + 1 + 1 by simp) _), (ownsR_setCell_below o_inq (show (⟨w.heap.size + 1 + 1, 13, none⟩ : Addr).block < w.heap.size + 1 + 1 + 1 by simp) _), (HOwn.set o_qs (show (⟨w.heap.size + 1 + 1, 13, none⟩ : Addr).block < w.heap.size + 1 + 1 + 1 by simp) _)⟩
  clear k0 k1 k2 bb o_cs o_inq o_qs
  go_wp2_with fail
  clear qA qC fC
  generalize (w4.setCell ⟨w.heap.size + 1 + 1, 13, none⟩ (.slice x2 qs.length y2)) = V4 at HV ⊢
  clear HR
  obtain ⟨k0, k1, k2, bv, sv, hr, r_cs, r_inq, r_qs⟩ := HV.out
  have HR := Lib.hid hr
  clear HV hr
  have s : w.heap.size + 1 + 1 + 1 ≤ V4.heap.size := by omega
  refine (toShardR_any a3 _ c3 sh _ _ HR.out.sh rfl (by omega) (by omega) (by omega)).mono ?_
  rintro e w5 ⟨x3, y3, rfl, ho, hb⟩
  have k0 := Blk.below (k0) hb
  have k1 := Blk.below (k1) hb
  have k2 := Blk.below (k2) hb
  have s := hb.size
  have HR := Lib.hid (HR.out.below (hb.mono (by omega)))
  have bb := bv.trans (hb.mono (by omega))
  have o_cs := HOwn.below r_cs hb
  have o_inq := owns_below r_inq hb
  have o_qs := HOwn.below r_qs hb
  have o_sh : HOwn hdSh 4 shD 111 w5 (w.heap.size + 1 + 1 + 1) x3 y3 sh := HOwn.less ho (by omega)
  clear ho
  clear hb
  have qA := k0.cell
  have qC := k2.cell
  have fC := k2.frozen
  have HV : Hid (Blk (w5.setCell ⟨w.heap.size + 1 + 1, 14, none⟩ (.slice x3 sh.length y3)) (w.heap.size) 33 #[.int .i64 s0, .int .i64 s1, .int .i64 s2, .int .i64 s3, .int .i64 s4, .int .i64 s5, .int .i64 s6, .int .i64 s7, .int .i64 s8, .int .i64 now, .int .i64 mode, .slice a0 cs.length c0, .slice a1 inq.length c1, .slice a2 qs.length c2, .slice a3 sh.length c3, .slice a4 out.length c4, .int .i64 mark, .slice a5 sent.length c5, .int .i64 t0, .int .i64 t1, .int .i64 t2, .int .i64 t3, .int .i64 t4, .int .i64 t5] ∧ Blk (w5.setCell ⟨w.heap.size + 1 + 1, 14, none⟩ (.slice x3 sh.length y3)) (w.heap.size + 1) 45 #[.int .i64 0, .int .i64 0, .int .i64 0, .int .i64 0, .int .i64 0, .int .i64 0, .int .i64 0, .int .i64 0, .int .i64 0, .int .i64 0, .int .i64 0, .slice none 0 0, .slice none 0 0, .slice none 0 0, .slice none 0 0, .slice none 0 0, .int .i64 0, .slice none 0 0, .int .i64 0, .int .i64 0, .int .i64 0, .int .i64 0, .int .i64 0, .int .i64 0] ∧ Blk (w5.setCell ⟨w.heap.size + 1 + 1, 14, none⟩ (.slice x3 sh.length y3)) (w.heap.size + 1 + 1) 45 #[.int .i64 s0, .int .i64 s1, .int .i64 s2, .int .i64 s3, .int .i64 s4, .int .i64 s5, .int .i64 s6, .int .i64 s7, .int .i64 s8, .int .i64 now, .int .i64 mode, .slice x0 cs.length y0, .slice x1 inq.length y1, .slice x2 qs.length y2, .slice x3 sh.length y3, .slice none 0 0, .int .i64 0, .slice none 0 0, .int .i64 0, .int .i64 0, .int .i64 0, .int .i64 0, .int .i64 0, .int .i64 0] ∧ Below w.heap.size w (w5.setCell ⟨w.heap.size + 1 + 1, 14, none⟩ (.slice x3 sh.length y3)) ∧ (w5.setCell ⟨w.heap.size + 1 + 1, 14, none⟩ (.slice x3 sh.length y3)).heap.size = w5.heap.size ∧ EnR (w5.setCell ⟨w.heap.size + 1 + 1, 14, none⟩ (.slice x3 sh.length y3)) w.heap.size ⟨a0, c0, a1, c1, a2, c2, a3, c3, a4, c4, a5, c5⟩ ⟨s0, s1, s2, s3, s4, s5, s6, s7, s8, now, mode, cs, inq, qs, sh, out, mark, sent, t0, t1, t2, t3, t4, t5⟩ ∧ HOwn hdCn 7 cnD 95 (w5.setCell ⟨w.heap.size + 1 + 1, 14, none⟩ (.slice x3 sh.length y3)) (w.heap.size + 1 + 1 + 1) x0 y0 cs ∧ ((w5.setCell ⟨w.heap.size + 1 + 1, 14, none⟩ (.slice x3 sh.length y3))).ownsRow (w.heap.size + 1 + 1 + 1) 127 5 (.slice x1 inq.length y1) inq.length (flatQ inq) ∧ HOwn hdMq 1 ([] : List Mq) 39 (w5.setCell ⟨w.heap.size + 1 + 1, 14, none⟩ (.slice x3 sh.length y3)) (w.heap.size + 1 + 1 + 1) x2 y2 qs ∧ HOwn hdSh 4 shD 111 (w5.setCell ⟨w.heap.size + 1 + 1, 14, none⟩ (.slice x3 sh.length y3)) (w.heap.size + 1 + 1 + 1) x3 y3 sh) :=
    Lib.hid ⟨(hblk_far k0 (p := ⟨w.heap.size + 1 + 1, 14, none⟩) (by simp; omega) _), (hblk_far k1 (p := ⟨w.heap.size + 1 + 1, 14, none⟩) (by simp) _), by simpa using (Blk.put_ k2 14 (.slice x3 sh.length y3)), (bb.setCell (p := ⟨w.heap.size + 1 + 1, 14, none⟩) (by simp; omega) _), by simp, (EnR.below HR.out ((Below.refl w.heap.size _).setCell (p := ⟨w.heap.size + 1 + 1, 14, none⟩) (by simp; omega) _)), (HOwn.set o_cs (show (⟨w.heap.size + 1 + 1, 14, none⟩ : Addr).block < w.heap.size + 1 + 1 + 1 by simp) _), (ownsR_setCell_below o_inq (show (⟨w.heap.size + 1 + 1, 14, none⟩ : Addr).block < w.heap.size + 1 + 1 + 1 by simp) _), (HOwn.set o_qs (show (⟨w.heap.size + 1 + 1, 14, none⟩ : Addr).block < w.heap.size + 1 + 1 + 1 by simp) _), (HOwn.set o_sh (show (⟨w.heap.size + 1 + 1, 14, none⟩ : Addr).block < w.heap.size + 1 + 1 + 1 by simp) _)⟩
  clear k0 k1 k2 bb o_cs o_inq o_qs o_sh
  go_wp2_with fail
  clear qA qC fC
  generalize (w5.setCell ⟨w.heap.size + 1 + 1, 14, none⟩ (.slice x3 sh.length y3)) = V5 at HV ⊢
  clear HR
  obtain ⟨k0, k1, k2, bv, sv, hr, r_cs, r_inq, r_qs, r_sh⟩ := HV.out
  have HR := Lib.hid hr
  clear HV hr
  have s : w.heap.size + 1 + 1 + 1 ≤ V5.heap.size := by omega
  refine (toAggS_any a4 _ c4 out _ _ HR.out.out rfl (by omega) (by omega)).mono ?_
  rintro e w6 ⟨x4, y4, rfl, ho, hb⟩
  have k0 := Blk.below (k0) hb
  have k1 := Blk.below (k1) hb
  have k2 := Blk.below (k2) hb
  have s := hb.size
  have HR := Lib.hid (HR.out.below (hb.mono (by omega)))
  have bb := bv.trans (hb.mono (by omega))
  have o_cs := HOwn.below r_cs hb
  have o_inq := owns_below r_inq hb
  have o_qs := HOwn.below r_qs hb
  have o_sh := HOwn.below r_sh hb
  have o_out : (w6).ownsRow (w.heap.size + 1 + 1 + 1) 136 6 (.slice x4 out.length y4) out.length (flatA out) := owns_less ho (by omega)
  clear ho
  clear hb
  have qA := k0.cell
  have qC := k2.cell
  have fC := k2.frozen
  have HV : Hid (Blk ((w6.setCell ⟨w.heap.size + 1 + 1, 15, none⟩ (.slice x4 out.length y4)).setCell ⟨w.heap.size + 1 + 1, 16, none⟩ (.int .i64 mark)) (w.heap.size) 33 #[.int .i64 s0, .int .i64 s1, .int .i64 s2, .int .i64 s3, .int .i64 s4, .int .i64 s5, .int .i64 s6, .int .i64 s7, .int .i64 s8, .int .i64 now, .int .i64 mode, .slice a0 cs.length c0, .slice a1 inq.length c1, .slice a2 qs.length c2, .slice a3 sh.length c3, .slice a4 out.length c4, .int .i64 mark, .slice a5 sent.length c5, .int .i64 t0, .int .i64 t1, .int .i64 t2, .int .i64 t3, .int .i64 t4, .int .i64 t5] ∧ Blk ((w6.setCell ⟨w.heap.size + 1 + 1, 15, none⟩ (.slice x4 out.length y4)).setCell ⟨w.heap.size + 1 + 1, 16, none⟩ (.int .i64 mark)) (w.heap.size + 1) 45 #[.int .i64 0, .int .i64 0, .int .i64 0, .int .i64 0, .int .i64 0, .int .i64 0, .int .i64 0, .int .i64 0, .int .i64 0, .int .i64 0, .int .i64 0, .slice none 0 0, .slice none 0 0, .slice none 0 0, .slice none 0 0, .slice none 0 0, .int .i64 0, .slice none 0 0, .int .i64 0, .int .i64 0, .int .i64 0, .int .i64 0, .int .i64 0, .int .i64 0] ∧ Blk ((w6.setCell ⟨w.heap.size + 1 + 1, 15, none⟩ (.slice x4 out.length y4)).setCell ⟨w.heap.size + 1 + 1, 16, none⟩ (.int .i64 mark)) (w.heap.size + 1 + 1) 45 #[.int .i64 s0, .int .i64 s1, .int .i64 s2, .int .i64 s3, .int .i64 s4, .int .i64 s5, .int .i64 s6, .int .i64 s7, .int .i64 s8, .int .i64 now, .int .i64 mode, .slice x0 cs.length y0, .slice x1 inq.length y1, .slice x2 qs.length y2, .slice x3 sh.length y3, .slice x4 out.length y4, .int .i64 mark, .slice none 0 0, .int .i64 0, .int .i64 0, .int .i64 0, .int .i64 0, .int .i64 0, .int .i64 0] ∧ Below w.heap.size w ((w6.setCell ⟨w.heap.size + 1 + 1, 15, none⟩ (.slice x4 out.length y4)).setCell ⟨w.heap.size + 1 + 1, 16, none⟩ (.int .i64 mark)) ∧ ((w6.setCell ⟨w.heap.size + 1 + 1, 15, none⟩ (.slice x4 out.length y4)).setCell ⟨w.heap.size + 1 + 1, 16, none⟩ (.int .i64 mark)).heap.size = w6.heap.size ∧ EnR ((w6.setCell ⟨w.heap.size + 1 + 1, 15, none⟩ (.slice x4 out.length y4)).setCell ⟨w.heap.size + 1 + 1, 16, none⟩ (.int .i64 mark)) w.heap.size ⟨a0, c0, a1, c1, a2, c2, a3, c3, a4, c4, a5, c5⟩ ⟨s0, s1, s2, s3, s4, s5, s6, s7, s8, now, mode, cs, inq, qs, sh, out, mark, sent, t0, t1, t2, t3, t4, t5⟩ ∧ HOwn hdCn 7 cnD 95 ((w6.setCell ⟨w.heap.size + 1 + 1, 15, none⟩ (.slice x4 out.length y4)).setCell ⟨w.heap.size + 1 + 1, 16, none⟩ (.int .i64 mark)) (w.heap.size + 1 + 1 + 1) x0 y0 cs ∧ (((w6.setCell ⟨w.heap.size + 1 + 1, 15, none⟩ (.slice x4 out.length y4)).setCell ⟨w.heap.size + 1 + 1, 16, none⟩ (.int .i64 mark))).ownsRow (w.heap.size + 1 + 1 + 1) 127 5 (.slice x1 inq.length y1) inq.length (flatQ inq) ∧ HOwn hdMq 1 ([] : List Mq) 39 ((w6.setCell ⟨w.heap.size + 1 + 1, 15, none⟩ (.slice x4 out.length y4)).setCell ⟨w.heap.size + 1 + 1, 16, none⟩ (.int .i64 mark)) (w.heap.size + 1 + 1 + 1) x2 y2 qs ∧ HOwn hdSh 4 shD 111 ((w6.setCell ⟨w.heap.size + 1 + 1, 15, none⟩ (.slice x4 out.length y4)).setCell ⟨w.heap.size + 1 + 1, 16, none⟩ (.int .i64 mark)) (w.heap.size + 1 + 1 + 1) x3 y3 sh ∧ (((w6.setCell ⟨w.heap.size + 1 + 1, 15, none⟩ (.slice x4 out.length y4)).setCell ⟨w.heap.size + 1 + 1, 16, none⟩ (.int .i64 mark))).ownsRow (w.heap.size + 1 + 1 + 1) 136 6 (.slice x4 out.length y4) out.length (flatA out)) :=
    Lib.hid ⟨(hblk_far (hblk_far k0 (p := ⟨w.heap.size + 1 + 1, 15, none⟩) (by simp; omega) _) (p := ⟨w.heap.size + 1 + 1, 16, none⟩) (by simp; omega) _), (hblk_far (hblk_far k1 (p := ⟨w.heap.size + 1 + 1, 15, none⟩) (by simp) _) (p := ⟨w.heap.size + 1 + 1, 16, none⟩) (by simp) _), by simpa using (Blk.put_ (Blk.put_ k2 15 (.slice x4 out.length y4)) 16 (.int .i64 mark)), ((bb.setCell (p := ⟨w.heap.size + 1 + 1, 15, none⟩) (by simp; omega) _).setCell (p := ⟨w.heap.size + 1 + 1, 16, none⟩) (by simp; omega) _), by simp, (EnR.below (EnR.below HR.out ((Below.refl w.heap.size _).setCell (p := ⟨w.heap.size + 1 + 1, 15, none⟩) (by simp; omega) _)) ((Below.refl w.heap.size _).setCell (p := ⟨w.heap.size + 1 + 1, 16, none⟩) (by simp; omega) _)), (HOwn.set (HOwn.set o_cs (show (⟨w.heap.size + 1 + 1, 15, none⟩ : Addr).block < w.heap.size + 1 + 1 + 1 by simp) _) (show (⟨w.heap.size + 1 + 1, 16, none⟩ : Addr).block < w.heap.size + 1 + 1 + 1 by simp) _), (ownsR_setCell_below (ownsR_setCell_below o_inq (show (⟨w.heap.size + 1 + 1, 15, none⟩ : Addr).block < w.heap.size + 1 + 1 + 1 by simp) _) (show (⟨w.heap.size + 1 + 1, 16, none⟩ : Addr).block < w.heap.size + 1 + 1 + 1 by simp) _), (HOwn.set (HOwn.set o_qs (show (⟨w.heap.size + 1 + 1, 15, none⟩ : Addr).block < w.heap.size + 1 + 1 + 1 by simp) _) (show (⟨w.heap.size + 1 + 1, 16, none⟩ : Addr).block < w.heap.size + 1 + 1 + 1 by simp) _), (HOwn.set (HOwn.set o_sh (show (⟨w.heap.size + 1 + 1, 15, none⟩ : Addr).block < w.heap.size + 1 + 1 + 1 by simp) _) (show (⟨w.heap.size + 1 + 1, 16, none⟩ : Addr).block < w.heap.size + 1 + 1 + 1 by simp) _), (ownsR_setCell_below (ownsR_setCell_below o_out (show (⟨w.heap.size + 1 + 1, 15, none⟩ : Addr).block < w.heap.size + 1 + 1 + 1 by simp) _) (show (⟨w.heap.size + 1 + 1, 16, none⟩ : Addr).block < w.heap.size + 1 + 1 + 1 by simp) _)⟩
  clear k0 k1 k2 bb o_cs o_inq o_qs o_sh o_out
  go_wp2_with fail
  clear qA qC fC
  generalize ((w6.setCell ⟨w.heap.size + 1 + 1, 15, none⟩ (.slice x4 out.length y4)).setCell ⟨w.heap.size + 1 + 1, 16, none⟩ (.int .i64 mark)) = V6 at HV ⊢
  clear HR
  obtain ⟨k0, k1, k2, bv, sv, hr, r_cs, r_inq, r_qs, r_sh, r_out⟩ := HV.out
  have HR := Lib.hid hr
  clear HV hr
  have s : w.heap.size + 1 + 1 + 1 ≤ V6.heap.size := by omega
  refine (toInts_n a5 _ c5 sent _ _ HR.out.sent rfl (by omega) (by omega)).mono ?_
  rintro e w7 ⟨x5, y5, rfl, ho, hb⟩
  have k0 := Blk.below (k0) hb
  have k1 := Blk.below (k1) hb
  have k2 := Blk.below (k2) hb
  have s := hb.size
  have HR := Lib.hid (HR.out.below (hb.mono (by omega)))
  have bb := bv.trans (hb.mono (by omega))
  have o_cs := HOwn.below r_cs hb
  have o_inq := owns_below r_inq hb
  have o_qs := HOwn.below r_qs hb
  have o_sh := HOwn.below r_sh hb
  have o_out := owns_below r_out hb
  have o_sent : (w7).ownsRow (w.heap.size + 1 + 1 + 1) 3 1 (.slice x5 sent.length y5) sent.length (sent.map (Value.int .i64)) := owns_less ho (by omega)
  clear ho
  clear hb
  have qA := k0.cell
  have qC := k2.cell
  have fC := k2.frozen
  have HV : Hid (Blk (w7.setCell ⟨w.heap.size + 1 + 1, 17, none⟩ (.slice x5 sent.length y5)) (w.heap.size) 33 #[.int .i64 s0, .int .i64 s1, .int .i64 s2, .int .i64 s3, .int .i64 s4, .int .i64 s5, .int .i64 s6, .int .i64 s7, .int .i64 s8, .int .i64 now, .int .i64 mode, .slice a0 cs.length c0, .slice a1 inq.length c1, .slice a2 qs.length c2, .slice a3 sh.length c3, .slice a4 out.length c4, .int .i64 mark, .slice a5 sent.length c5, .int .i64 t0, .int .i64 t1, .int .i64 t2, .int .i64 t3, .int .i64 t4, .int .i64 t5] ∧ Blk (w7.setCell ⟨w.heap.size + 1 + 1, 17, none⟩ (.slice x5 sent.length y5)) (w.heap.size + 1) 45 #[.int .i64 0, .int .i64 0, .int .i64 0, .int .i64 0, .int .i64 0, .int .i64 0, .int .i64 0, .int .i64 0, .int .i64 0, .int .i64 0, .int .i64 0, .slice none 0 0, .slice none 0 0, .slice none 0 0, .slice none 0 0, .slice none 0 0, .int .i64 0, .slice none 0 0, .int .i64 0, .int .i64 0, .int .i64 0, .int .i64 0, .int .i64 0, .int .i64 0] ∧ Blk (w7.setCell ⟨w.heap.size + 1 + 1, 17, none⟩ (.slice x5 sent.length y5)) (w.heap.size + 1 + 1) 45 #[.int .i64 s0, .int .i64 s1, .int .i64 s2, .int .i64 s3, .int .i64 s4, .int .i64 s5, .int .i64 s6, .int .i64 s7, .int .i64 s8, .int .i64 now, .int .i64 mode, .slice x0 cs.length y0, .slice x1 inq.length y1, .slice x2 qs.length y2, .slice x3 sh.length y3, .slice x4 out.length y4, .int .i64 mark, .slice x5 sent.length y5, .int .i64 0, .int .i64 0, .int .i64 0, .int .i64 0, .int .i64 0, .int .i64 0] ∧ Below w.heap.size w (w7.setCell ⟨w.heap.size + 1 + 1, 17, none⟩ (.slice x5 sent.length y5)) ∧ (w7.setCell ⟨w.heap.size + 1 + 1, 17, none⟩ (.slice x5 sent.length y5)).heap.size = w7.heap.size ∧ EnR (w7.setCell ⟨w.heap.size + 1 + 1, 17, none⟩ (.slice x5 sent.length y5)) w.heap.size ⟨a0, c0, a1, c1, a2, c2, a3, c3, a4, c4, a5, c5⟩ ⟨s0, s1, s2, s3, s4, s5, s6, s7, s8, now, mode, cs, inq, qs, sh, out, mark, sent, t0, t1, t2, t3, t4, t5⟩ ∧ HOwn hdCn 7 cnD 95 (w7.setCell ⟨w.heap.size + 1 + 1, 17, none⟩ (.slice x5 sent.length y5)) (w.heap.size + 1 + 1 + 1) x0 y0 cs ∧ ((w7.setCell ⟨w.heap.size + 1 + 1, 17, none⟩ (.slice x5 sent.length y5))).ownsRow (w.heap.size + 1 + 1 + 1) 127 5 (.slice x1 inq.length y1) inq.length (flatQ inq) ∧ HOwn hdMq 1 ([] : List Mq) 39 (w7.setCell ⟨w.heap.size + 1 + 1, 17, none⟩ (.slice x5 sent.length y5)) (w.heap.size + 1 + 1 + 1) x2 y2 qs ∧ HOwn hdSh 4 shD 111 (w7.setCell ⟨w.heap.size + 1 + 1, 17, none⟩ (.slice x5 sent.length y5)) (w.heap.size + 1 + 1 + 1) x3 y3 sh ∧ ((w7.setCell ⟨w.heap.size + 1 + 1, 17, none⟩ (.slice x5 sent.length y5))).ownsRow (w.heap.size + 1 + 1 + 1) 136 6 (.slice x4 out.length y4) out.length (flatA out) ∧ ((w7.setCell ⟨w.heap.size + 1 + 1, 17, none⟩ (.slice x5 sent.length y5))).ownsRow (w.heap.size + 1 + 1 + 1) 3 1 (.slice x5 sent.length y5) sent.length (sent.map (Value.int .i64))) :=
    Lib.hid ⟨(hblk_far k0 (p := ⟨w.heap.size + 1 + 1, 17, none⟩) (by simp; omega) _), (hblk_far k1 (p := ⟨w.heap.size + 1 + 1, 17, none⟩) (by simp) _), by simpa using (Blk.put_ k2 17 (.slice x5 sent.length y5)), (bb.setCell (p := ⟨w.heap.size + 1 + 1, 17, none⟩) (by simp; omega) _), by simp, (EnR.below HR.out ((Below.refl w.heap.size _).setCell (p := ⟨w.heap.size + 1 + 1, 17, none⟩) (by simp; omega) _)), (HOwn.set o_cs (show (⟨w.heap.size + 1 + 1, 17, none⟩ : Addr).block < w.heap.size + 1 + 1 + 1 by simp) _), (ownsR_setCell_below o_inq (show (⟨w.heap.size + 1 + 1, 17, none⟩ : Addr).block < w.heap.size + 1 + 1 + 1 by simp) _), (HOwn.set o_qs (show (⟨w.heap.size + 1 + 1, 17, none⟩ : Addr).block < w.heap.size + 1 + 1 + 1 by simp) _), (HOwn.set o_sh (show (⟨w.heap.size + 1 + 1, 17, none⟩ : Addr).block < w.heap.size + 1 + 1 + 1 by simp) _), (ownsR_setCell_below o_out (show (⟨w.heap.size + 1 + 1, 17, none⟩ : Addr).block < w.heap.size + 1 + 1 + 1 by simp) _), (ownsR_setCell_below o_sent (show (⟨w.heap.size + 1 + 1, 17, none⟩ : Addr).block < w.heap.size + 1 + 1 + 1 by simp) _)⟩
  clear k0 k1 k2 bb o_cs o_inq o_qs o_sh o_out o_sent
  go_wp2_with fail
  clear qA qC fC
  generalize (w7.setCell ⟨w.heap.size + 1 + 1, 17, none⟩ (.slice x5 sent.length y5)) = V7 at HV ⊢
  clear HR
  obtain ⟨k0, k1, k2, bv, sv, hr, r_cs, r_inq, r_qs, r_sh, r_out, r_sent⟩ := HV.out
  have HR := Lib.hid hr
  clear HV hr
  have s : w.heap.size + 1 + 1 + 1 ≤ V7.heap.size := by omega
  refine (toTally_y t0 t1 t2 t3 t4 t5 _).mono ?_
  rintro e w8 ⟨rfl, hb⟩
  have k0 := Blk.below (k0) hb
  have k1 := Blk.below (k1) hb
  have k2 := Blk.below (k2) hb
  have s := hb.size
  have HR := Lib.hid (HR.out.below (hb.mono (by omega)))
  have bb := bv.trans (hb.mono (by omega))
  have o_cs := HOwn.below r_cs hb
  have o_inq := owns_below r_inq hb
  have o_qs := HOwn.below r_qs hb
  have o_sh := HOwn.below r_sh hb
  have o_out := owns_below r_out hb
  have o_sent := owns_below r_sent hb
  clear hb
  have qA := k0.cell
  have qC := k2.cell
  have fC := k2.frozen
  obtain ⟨W9, hW9⟩ : ∃ W9, W9 = w8.setCells (w.heap.size + 1 + 1) 18 [.int .i64 t0, .int .i64 t1, .int .i64 t2, .int .i64 t3, .int .i64 t4, .int .i64 t5] := ⟨_, rfl⟩
  have SVt : w8.there (w.heap.size + 1 + 1) 18 6 := blk_there k2 (by simp)
  have k29 : Blk W9 (w.heap.size + 1 + 1) 45 #[.int .i64 s0, .int .i64 s1, .int .i64 s2, .int .i64 s3, .int .i64 s4, .int .i64 s5, .int .i64 s6, .int .i64 s7, .int .i64 s8, .int .i64 now, .int .i64 mode, .slice x0 cs.length y0, .slice x1 inq.length y1, .slice x2 qs.length y2, .slice x3 sh.length y3, .slice x4 out.length y4, .int .i64 mark, .slice x5 sent.length y5, .int .i64 t0, .int .i64 t1, .int .i64 t2, .int .i64 t3, .int .i64 t4, .int .i64 t5] := by rw [hW9]; exact blk_setL (CS := [.int .i64 s0, .int .i64 s1, .int .i64 s2, .int .i64 s3, .int .i64 s4, .int .i64 s5, .int .i64 s6, .int .i64 s7, .int .i64 s8, .int .i64 now, .int .i64 mode, .slice x0 cs.length y0, .slice x1 inq.length y1, .slice x2 qs.length y2, .slice x3 sh.length y3, .slice x4 out.length y4, .int .i64 mark, .slice x5 sent.length y5, .int .i64 0, .int .i64 0, .int .i64 0, .int .i64 0, .int .i64 0, .int .i64 0]) [.int .i64 t0, .int .i64 t1, .int .i64 t2, .int .i64 t3, .int .i64 t4, .int .i64 t5] 18 k2 (by simp)
  have k19 : Blk W9 (w.heap.size + 1) 45 #[.int .i64 0, .int .i64 0, .int .i64 0, .int .i64 0, .int .i64 0, .int .i64 0, .int .i64 0, .int .i64 0, .int .i64 0, .int .i64 0, .int .i64 0, .slice none 0 0, .slice none 0 0, .slice none 0 0, .slice none 0 0, .slice none 0 0, .int .i64 0, .slice none 0 0, .int .i64 0, .int .i64 0, .int .i64 0, .int .i64 0, .int .i64 0, .int .i64 0] := by rw [hW9]; exact far_setCells _ (by omega) _ k1
  obtain ⟨W10, hW10⟩ : ∃ W10, W10 = W9.setCells (w.heap.size + 1) 0 [.int .i64 s0, .int .i64 s1, .int .i64 s2, .int .i64 s3, .int .i64 s4, .int .i64 s5, .int .i64 s6, .int .i64 s7, .int .i64 s8, .int .i64 now, .int .i64 mode, .slice x0 cs.length y0, .slice x1 inq.length y1, .slice x2 qs.length y2, .slice x3 sh.length y3, .slice x4 out.length y4, .int .i64 mark, .slice x5 sent.length y5, .int .i64 t0, .int .i64 t1, .int .i64 t2, .int .i64 t3, .int .i64 t4, .int .i64 t5] := ⟨_, rfl⟩
  have SUt : W9.there (w.heap.size + 1) 0 24 := blk_there k19 (by simp)
  have k10 : Blk W10 (w.heap.size + 1) 45 #[.int .i64 s0, .int .i64 s1, .int .i64 s2, .int .i64 s3, .int .i64 s4, .int .i64 s5, .int .i64 s6, .int .i64 s7, .int .i64 s8, .int .i64 now, .int .i64 mode, .slice x0 cs.length y0, .slice x1 inq.length y1, .slice x2 qs.length y2, .slice x3 sh.length y3, .slice x4 out.length y4, .int .i64 mark, .slice x5 sent.length y5, .int .i64 t0, .int .i64 t1, .int .i64 t2, .int .i64 t3, .int .i64 t4, .int .i64 t5] := by rw [hW10]; exact blk_setL (CS := [.int .i64 0, .int .i64 0, .int .i64 0, .int .i64 0, .int .i64 0, .int .i64 0, .int .i64 0, .int .i64 0, .int .i64 0, .int .i64 0, .int .i64 0, .slice none 0 0, .slice none 0 0, .slice none 0 0, .slice none 0 0, .slice none 0 0, .int .i64 0, .slice none 0 0, .int .i64 0, .int .i64 0, .int .i64 0, .int .i64 0, .int .i64 0, .int .i64 0]) [.int .i64 s0, .int .i64 s1, .int .i64 s2, .int .i64 s3, .int .i64 s4, .int .i64 s5, .int .i64 s6, .int .i64 s7, .int .i64 s8, .int .i64 now, .int .i64 mode, .slice x0 cs.length y0, .slice x1 inq.length y1, .slice x2 qs.length y2, .slice x3 sh.length y3, .slice x4 out.length y4, .int .i64 mark, .slice x5 sent.length y5, .int .i64 t0, .int .i64 t1, .int .i64 t2, .int .i64 t3, .int .i64 t4, .int .i64 t5] 0 k19 (by simp)
  have HP : Hid (EnO W10 w.heap.size ⟨x0, y0, x1, y1, x2, y2, x3, y3, x4, y4, x5, y5⟩ ⟨s0, s1, s2, s3, s4, s5, s6, s7, s8, now, mode, cs, inq, qs, sh, out, mark, sent, t0, t1, t2, t3, t4, t5⟩ ∧ Below w.heap.size w W10) := Lib.hid (by
    rw [hW10, hW9]
    refine ⟨EnO.less (EnO.setCells _ (show w.heap.size + 1 < w.heap.size + 1 + 1 + 1 by omega) _ (EnO.setCells _ (show w.heap.size + 1 + 1 < w.heap.size + 1 + 1 + 1 by omega) _ ⟨o_cs, o_inq, o_qs, o_sh, o_out, o_sent⟩)) (by omega), below_setCells _ (by omega) _ (below_setCells _ (by omega) _ bb)⟩)
  have rg9 := range_blk k29
  have iT : (Tryz.prog.info? 43).map (·.size) = some 6 := by kernel_rfl
  have iE : (Tryz.prog.info? 45).map (·.size) = some 24 := by kernel_rfl
  have SVT := Lib.hid SVt
  have SUT := Lib.hid SUt
  have RG9 := Lib.hid rg9
  have IT := Lib.hid iT
  have IE := Lib.hid iE
  have HW9 := Lib.hid hW9.symm
  have HW10 := Lib.hid hW10.symm
  have K10 := Lib.hid k10
  clear k0 k1 k2 bb k29 k19 k10 hW9 hW10 qC fC o_cs o_inq o_qs o_sh o_out o_sent SVt SUt rg9 iT iE
  go_wp2_with (first
    | (refine wpList_store_to rfl 43 _ _ rfl (w.heap.size + 1 + 1) 18 #[.int .i64 t0, .int .i64 t1, .int .i64 t2, .int .i64 t3, .int .i64 t4, .int .i64 t5] rfl rfl SVT.out IT.out (by simp [Value.oneCell']) HW9.out ?_)
    | (refine wpList_load_mid rfl 45 _ rfl (w.heap.size + 1 + 1) 0 rfl [.int .i64 s0, .int .i64 s1, .int .i64 s2, .int .i64 s3, .int .i64 s4, .int .i64 s5, .int .i64 s6, .int .i64 s7, .int .i64 s8, .int .i64 now, .int .i64 mode, .slice x0 cs.length y0, .slice x1 inq.length y1, .slice x2 qs.length y2, .slice x3 sh.length y3, .slice x4 out.length y4, .int .i64 mark, .slice x5 sent.length y5, .int .i64 t0, .int .i64 t1, .int .i64 t2, .int .i64 t3, .int .i64 t4, .int .i64 t5] _ RG9.out Tryz.underlying45 rfl IE.out ?_)
    | (refine wpList_store_to rfl 45 _ _ rfl (w.heap.size + 1) 0 #[.int .i64 s0, .int .i64 s1, .int .i64 s2, .int .i64 s3, .int .i64 s4, .int .i64 s5, .int .i64 s6, .int .i64 s7, .int .i64 s8, .int .i64 now, .int .i64 mode, .slice x0 cs.length y0, .slice x1 inq.length y1, .slice x2 qs.length y2, .slice x3 sh.length y3, .slice x4 out.length y4, .int .i64 mark, .slice x5 sent.length y5, .int .i64 t0, .int .i64 t1, .int .i64 t2, .int .i64 t3, .int .i64 t4, .int .i64 t5] rfl rfl SUT.out IE.out (by simp [Value.oneCell']) HW10.out ?_))
  exact bodyPost_ret (results_cell_row Tryz.results10 _ _ _ 45 #[.int .i64 s0, .int .i64 s1, .int .i64 s2, .int .i64 s3, .int .i64 s4, .int .i64 s5, .int .i64 s6, .int .i64 s7, .int .i64 s8, .int .i64 now, .int .i64 mode, .slice x0 cs.length y0, .slice x1 inq.length y1, .slice x2 qs.length y2, .slice x3 sh.length y3, .slice x4 out.length y4, .int .i64 mark, .slice x5 sent.length y5, .int .i64 t0, .int .i64 t1, .int .i64 t2, .int .i64 t3, .int .i64 t4, .int .i64 t5] _ _ rfl K10.out Tryz.underlying45 rfl IE.out) rfl ⟨⟨x0, y0, x1, y1, x2, y2, x3, y3, x4, y4, x5, y5⟩, rfl, HP.out⟩
end Go.Proofs.YtnfhlfbkdhpacaaGreatDoor
