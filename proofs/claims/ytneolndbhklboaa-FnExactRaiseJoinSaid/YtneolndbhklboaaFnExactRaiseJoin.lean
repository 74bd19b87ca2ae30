/- impl.RaiseJoin answers as spec.RaiseJoin at every join of up to 1048576 events (beyond, the law says nothing), every width and every mark, in memory of its own, and leaves the join as it was. No conditions. -/
import Derived.Test.YtneolndbhklboaaRows
import Derived.Test.YtneolndbhklboaaOpenJoin
import Derived.Test.YtneolndbhklboaaRaiseAll
import Derived.Test.YtneolndbhklboaaHeld
import Derived.WalkSmall
import Derived.WalkKit
import Derived.ProofKit
import Derived.OpenShut
import Derived.ShutString
import Derived.ChangeOld
import Derived.Below
namespace Go.Proofs.Ytneolndbhklboaa.fnExactRaiseJoin
open Go.ChangeShapes Go.WideShapes Go.ChangeAt Go.RowKit
set_option linter.unusedVariables false

theorem own : ownKnob Try.prog.godebug = none := by kernel_rfl
theorem laidOut : laidOutB Try.prog = true := by kernel_rfl


set_option maxHeartbeats 4000000 in
set_option maxRecDepth 100000 in
theorem walk (w : World) (a : Option Addr) (n c : Nat) (b : Option Addr) (m d : Nat) (mk : Int) (hmk : Is64 mk) (l r : List Fm) (hn : n = l.length) (hm : m = r.length) (hs : Fms w w.heap.size a c l) (hs2 : Fms w w.heap.size b d r) (by_ : Int) (hby : Is64 by_) (x : Int) (hx : Is64 x) :
    Calls Try.prog 12 #[.agg #[.slice a n c, .slice b m d, .int .i64 mk], .int .i64 by_, .int .i64 x] w fun e w' => e = .returned (.bool true) ∧ Below w.heap.size w w' := by
  have hc1 := hs.cap
  have hc2 := hs.big
  have hc3 := hs2.cap
  have hc4 := hs2.big
  subst hn
  subst hm
  have HZ := Lib.hid (fun W => szJoin_any a b l.length r.length c d mk W (by omega) (by omega))
  have BB := Lib.hid (Below.refl w.heap.size w)
  by_cases hbig : (1048576 : Int) - (l.length : Int) - (r.length : Int) < 0
  · rw [if_pos hbig] at HZ
    clear hbig
    go_enter Try.func12, Try.ntmps12
    go_wp2_with fail
    refine (HZ.out _).mono ?_
    rintro e w1 ⟨rfl, hb⟩
    have B1 := Lib.hid ((BB.out.alloc (Nat.le_refl _) _).trans (hb.mono (by simp <;> omega)))
    clear hb
    go_wp2
    go_ret
    exact ⟨rfl, B1.out⟩
  · have hle : l.length ≤ 1048576 := by omega
    have hle2 : r.length ≤ 1048576 := by omega
    rw [if_neg hbig] at HZ
    have hz0 : ¬ (1048576 : Int) - (l.length : Int) - (r.length : Int) < 0 := hbig
    generalize (1048576 : Int) - (l.length : Int) - (r.length : Int) = left at HZ hz0
    have A0 := Lib.hid hs
    have A02 := Lib.hid hs2
    clear hbig
    have SP := Lib.hid (fun (W : World) a1 c1 b1 d1 (h1 : Fms W W.heap.size a1 c1 l) (h2 : Fms W W.heap.size b1 d1 r) => sRaise_any a1 b1 c1 d1 l r mk by_ x _ W h1 h2 (Nat.le_refl _) hle hle2)
    have IP := Lib.hid (fun (W : World) a1 c1 b1 d1 (h1 : Fms W W.heap.size a1 c1 l) (h2 : Fms W W.heap.size b1 d1 r) => iRaise_any a1 b1 c1 d1 l r mk by_ x _ W h1 h2 (Nat.le_refl _) hle hle2)
    have hlen := raiseJ_len (L := l) (R := r) (mk := mk) (by_ := by_) (x := x)
    generalize raiseJ ⟨l, r, mk⟩ by_ x = Z at SP IP hlen
    obtain ⟨⟨L, R, M⟩, C⟩ := Z
    have SP : Hid (∀ (W : World) a1 c1 b1 d1, Fms W W.heap.size a1 c1 l → Fms W W.heap.size b1 d1 r → Calls Try.prog 55 #[.agg #[.slice a1 l.length c1, .slice b1 r.length d1, .int .i64 mk], .int .i64 by_, .int .i64 x] W (RaisePost L R M C W)) := SP
    have IP : Hid (∀ (W : World) a1 c1 b1 d1, Fms W W.heap.size a1 c1 l → Fms W W.heap.size b1 d1 r → Calls Try.prog 56 #[.agg #[.slice a1 l.length c1, .slice b1 r.length d1, .int .i64 mk], .int .i64 by_, .int .i64 x] W (RaisePost L R M C W)) := IP
    have hL : L.length ≤ 1048576 := Nat.le_trans hlen.1 hle
    have hR : R.length ≤ 1048576 := Nat.le_trans hlen.2 hle2
    have hok : (C != C) = false := by simp
    clear hs hs2 hmk hby hx hlen
    have A_1 := Lib.hid (A0.out.below (((Below.refl w.heap.size w).alloc (Nat.le_refl _) (.cells #[.slice a l.length c, .slice b r.length d, .int .i64 mk] 63)).mono (by first | omega | (simp only [World.size_alloc]; omega) | (simp only [size_drew_]; omega) | (simp only [World.size_alloc, size_drew_]; omega))))
    clear A0
    have A2_1 := Lib.hid (A02.out.below (((Below.refl w.heap.size w).alloc (Nat.le_refl _) (.cells #[.slice a l.length c, .slice b r.length d, .int .i64 mk] 63)).mono (by first | omega | (simp only [World.size_alloc]; omega) | (simp only [size_drew_]; omega) | (simp only [World.size_alloc, size_drew_]; omega))))
    clear A02
    have BB_1 := Lib.hid (BB.out.alloc (by first | omega | (simp only [World.size_alloc]; omega) | (simp only [size_drew_]; omega) | (simp only [World.size_alloc, size_drew_]; omega)) (.cells #[.slice a l.length c, .slice b r.length d, .int .i64 mk] 63))
    clear BB
    have R_1 := Lib.hid (Blk.new w 63 #[.slice a l.length c, .slice b r.length d, .int .i64 mk])
    go_enter Try.func12, Try.ntmps12
    go_wp2_with fail
    refine (HZ.out _).mono ?_
    rintro e w2 ⟨rfl, hb⟩
    have A_2 := Lib.hid (A_1.out.below (hb.mono (by first | omega | (simp only [World.size_alloc]; omega) | (simp only [size_drew_]; omega) | (simp only [World.size_alloc, size_drew_]; omega))))
    clear A_1
    have A2_2 := Lib.hid (A2_1.out.below (hb.mono (by first | omega | (simp only [World.size_alloc]; omega) | (simp only [size_drew_]; omega) | (simp only [World.size_alloc, size_drew_]; omega))))
    clear A2_1
    have R_2 := Lib.hid (R_1.out.below hb)
    clear R_1
    have BB_2 := Lib.hid (BB_1.out.trans (hb.mono (by first | omega | (simp only [World.size_alloc]; omega) | (simp only [size_drew_]; omega) | (simp only [World.size_alloc, size_drew_]; omega))))
    clear BB_1
    have s2 := hb.size
    simp only [World.size_alloc] at s2
    clear hb
    have qR_2 := R_2.out.cell
    go_wp2_with fail
    refine (toJoin_any a b _ _ c d mk l r _ _ A_2.out A2_2.out rfl rfl (by first | omega | (simp only [World.size_alloc]; omega) | (simp only [size_drew_]; omega) | (simp only [World.size_alloc, size_drew_]; omega)) hle hle2).mono ?_
    rintro e w3 ⟨a3, c3, a3b, c3b, rfl, ho, hb⟩
    clear qR_2
    have A_3 := Lib.hid (A_2.out.below (hb.mono (by first | omega | (simp only [World.size_alloc]; omega) | (simp only [size_drew_]; omega) | (simp only [World.size_alloc, size_drew_]; omega))))
    clear A_2
    have A2_3 := Lib.hid (A2_2.out.below (hb.mono (by first | omega | (simp only [World.size_alloc]; omega) | (simp only [size_drew_]; omega) | (simp only [World.size_alloc, size_drew_]; omega))))
    clear A2_2
    have R_3 := Lib.hid (R_2.out.below hb)
    clear R_2
    have BB_3 := Lib.hid (BB_2.out.trans (hb.mono (by first | omega | (simp only [World.size_alloc]; omega) | (simp only [size_drew_]; omega) | (simp only [World.size_alloc, size_drew_]; omega))))
    clear BB_2
    have X1_3 := Lib.hid ho
    clear ho
    have s3 := hb.size
    clear hb
    go_wp2_with fail
    refine (SP.out _ _ _ _ _ X1_3.out.r0.qs X1_3.out.r1.qs).mono ?_
    rintro e w4 ⟨a4, c4, a4b, c4b, rfl, ho, hb⟩
    have A_4 := Lib.hid (A_3.out.below (hb.mono (by first | omega | (simp only [World.size_alloc]; omega) | (simp only [size_drew_]; omega) | (simp only [World.size_alloc, size_drew_]; omega))))
    clear A_3
    have A2_4 := Lib.hid (A2_3.out.below (hb.mono (by first | omega | (simp only [World.size_alloc]; omega) | (simp only [size_drew_]; omega) | (simp only [World.size_alloc, size_drew_]; omega))))
    clear A2_3
    have R_4 := Lib.hid (R_3.out.below hb)
    clear R_3
    have X1_4 := Lib.hid (X1_3.out.below hb (by first | omega | (simp only [World.size_alloc]; omega) | (simp only [size_drew_]; omega) | (simp only [World.size_alloc, size_drew_]; omega)))
    clear X1_3
    have BB_4 := Lib.hid (BB_3.out.trans (hb.mono (by first | omega | (simp only [World.size_alloc]; omega) | (simp only [size_drew_]; omega) | (simp only [World.size_alloc, size_drew_]; omega))))
    clear BB_3
    have RP_4 := Lib.hid ho
    clear ho
    have s4 := hb.size
    clear hb
    clear X1_4
    have A_5 := Lib.hid (A_4.out.below (((Below.refl w4.heap.size w4).alloc (Nat.le_refl _) (.cells #[.slice a4 (L).length c4, .slice a4b (R).length c4b, .int .i64 M] 29)).mono (by first | omega | (simp only [World.size_alloc]; omega) | (simp only [size_drew_]; omega) | (simp only [World.size_alloc, size_drew_]; omega))))
    clear A_4
    have A2_5 := Lib.hid (A2_4.out.below (((Below.refl w4.heap.size w4).alloc (Nat.le_refl _) (.cells #[.slice a4 (L).length c4, .slice a4b (R).length c4b, .int .i64 M] 29)).mono (by first | omega | (simp only [World.size_alloc]; omega) | (simp only [size_drew_]; omega) | (simp only [World.size_alloc, size_drew_]; omega))))
    clear A2_4
    have R_5 := Lib.hid (R_4.out.alloc (.cells #[.slice a4 (L).length c4, .slice a4b (R).length c4b, .int .i64 M] 29))
    clear R_4
    have RP_5 := Lib.hid (RP_4.out.below ((Below.refl w4.heap.size w4).alloc (Nat.le_refl _) (.cells #[.slice a4 (L).length c4, .slice a4b (R).length c4b, .int .i64 M] 29)) (by first | omega | (simp only [World.size_alloc]; omega) | (simp only [size_drew_]; omega) | (simp only [World.size_alloc, size_drew_]; omega)))
    clear RP_4
    have BB_5 := Lib.hid (BB_4.out.alloc (by first | omega | (simp only [World.size_alloc]; omega) | (simp only [size_drew_]; omega) | (simp only [World.size_alloc, size_drew_]; omega)) (.cells #[.slice a4 (L).length c4, .slice a4b (R).length c4b, .int .i64 M] 29))
    clear BB_4
    have OP_5 := Lib.hid (Blk.new w4 29 #[.slice a4 (L).length c4, .slice a4b (R).length c4b, .int .i64 M])
    have qR_5 := R_5.out.cell
    go_wp2_with fail
    refine (toJoin_any a b _ _ c d mk l r _ _ A_5.out A2_5.out rfl rfl (by first | omega | (simp only [World.size_alloc]; omega) | (simp only [size_drew_]; omega) | (simp only [World.size_alloc, size_drew_]; omega)) hle hle2).mono ?_
    rintro e w6 ⟨a6, c6, a6b, c6b, rfl, ho, hb⟩
    clear qR_5
    have A_6 := Lib.hid (A_5.out.below (hb.mono (by first | omega | (simp only [World.size_alloc]; omega) | (simp only [size_drew_]; omega) | (simp only [World.size_alloc, size_drew_]; omega))))
    clear A_5
    have A2_6 := Lib.hid (A2_5.out.below (hb.mono (by first | omega | (simp only [World.size_alloc]; omega) | (simp only [size_drew_]; omega) | (simp only [World.size_alloc, size_drew_]; omega))))
    clear A2_5
    have R_6 := Lib.hid (R_5.out.below hb)
    clear R_5
    have RP_6 := Lib.hid (RP_5.out.below hb (by first | omega | (simp only [World.size_alloc]; omega) | (simp only [size_drew_]; omega) | (simp only [World.size_alloc, size_drew_]; omega)))
    clear RP_5
    have OP_6 := Lib.hid (OP_5.out.below hb)
    clear OP_5
    have BB_6 := Lib.hid (BB_5.out.trans (hb.mono (by first | omega | (simp only [World.size_alloc]; omega) | (simp only [size_drew_]; omega) | (simp only [World.size_alloc, size_drew_]; omega))))
    clear BB_5
    have X_6 := Lib.hid ho
    clear ho
    have s6 := hb.size
    simp only [World.size_alloc] at s6
    clear hb
    have A_7 := Lib.hid (A_6.out.below (((Below.refl w6.heap.size w6).alloc (Nat.le_refl _) (.cells #[.slice a6 (l).length c6, .slice a6b (r).length c6b, .int .i64 mk] 29)).mono (by first | omega | (simp only [World.size_alloc]; omega) | (simp only [size_drew_]; omega) | (simp only [World.size_alloc, size_drew_]; omega))))
    clear A_6
    have A2_7 := Lib.hid (A2_6.out.below (((Below.refl w6.heap.size w6).alloc (Nat.le_refl _) (.cells #[.slice a6 (l).length c6, .slice a6b (r).length c6b, .int .i64 mk] 29)).mono (by first | omega | (simp only [World.size_alloc]; omega) | (simp only [size_drew_]; omega) | (simp only [World.size_alloc, size_drew_]; omega))))
    clear A2_6
    have R_7 := Lib.hid (R_6.out.alloc (.cells #[.slice a6 (l).length c6, .slice a6b (r).length c6b, .int .i64 mk] 29))
    clear R_6
    have RP_7 := Lib.hid (RP_6.out.below ((Below.refl w6.heap.size w6).alloc (Nat.le_refl _) (.cells #[.slice a6 (l).length c6, .slice a6b (r).length c6b, .int .i64 mk] 29)) (by first | omega | (simp only [World.size_alloc]; omega) | (simp only [size_drew_]; omega) | (simp only [World.size_alloc, size_drew_]; omega)))
    clear RP_6
    have OP_7 := Lib.hid (OP_6.out.alloc (.cells #[.slice a6 (l).length c6, .slice a6b (r).length c6b, .int .i64 mk] 29))
    clear OP_6
    have X_7 := Lib.hid (X_6.out.below ((Below.refl w6.heap.size w6).alloc (Nat.le_refl _) (.cells #[.slice a6 (l).length c6, .slice a6b (r).length c6b, .int .i64 mk] 29)) (by first | omega | (simp only [World.size_alloc]; omega) | (simp only [size_drew_]; omega) | (simp only [World.size_alloc, size_drew_]; omega)))
    clear X_6
    have BB_7 := Lib.hid (BB_6.out.alloc (by first | omega | (simp only [World.size_alloc]; omega) | (simp only [size_drew_]; omega) | (simp only [World.size_alloc, size_drew_]; omega)) (.cells #[.slice a6 (l).length c6, .slice a6b (r).length c6b, .int .i64 mk] 29))
    clear BB_6
    have OX_7 := Lib.hid (Blk.new w6 29 #[.slice a6 (l).length c6, .slice a6b (r).length c6b, .int .i64 mk])
    have qOX_7 := OX_7.out.cell
    go_wp2_with fail
    refine (IP.out _ _ _ _ _ X_7.out.r0.qs X_7.out.r1.qs).mono ?_
    rintro e w8 ⟨a8, c8, a8b, c8b, rfl, ho, hb⟩
    clear qOX_7
    have A_8 := Lib.hid (A_7.out.below (hb.mono (by first | omega | (simp only [World.size_alloc]; omega) | (simp only [size_drew_]; omega) | (simp only [World.size_alloc, size_drew_]; omega))))
    clear A_7
    have A2_8 := Lib.hid (A2_7.out.below (hb.mono (by first | omega | (simp only [World.size_alloc]; omega) | (simp only [size_drew_]; omega) | (simp only [World.size_alloc, size_drew_]; omega))))
    clear A2_7
    have R_8 := Lib.hid (R_7.out.below hb)
    clear R_7
    have RP_8 := Lib.hid (RP_7.out.below hb (by first | omega | (simp only [World.size_alloc]; omega) | (simp only [size_drew_]; omega) | (simp only [World.size_alloc, size_drew_]; omega)))
    clear RP_7
    have OP_8 := Lib.hid (OP_7.out.below hb)
    clear OP_7
    have X_8 := Lib.hid (X_7.out.below hb (by first | omega | (simp only [World.size_alloc]; omega) | (simp only [size_drew_]; omega) | (simp only [World.size_alloc, size_drew_]; omega)))
    clear X_7
    have OX_8 := Lib.hid (OX_7.out.below hb)
    clear OX_7
    have BB_8 := Lib.hid (BB_7.out.trans (hb.mono (by first | omega | (simp only [World.size_alloc]; omega) | (simp only [size_drew_]; omega) | (simp only [World.size_alloc, size_drew_]; omega))))
    clear BB_7
    have RQ_8 := Lib.hid ho
    clear ho
    have s8 := hb.size
    simp only [World.size_alloc] at s8
    clear hb
    have A_9 := Lib.hid (A_8.out.below (((Below.refl w8.heap.size w8).alloc (Nat.le_refl _) (.cells #[.slice a8 (L).length c8, .slice a8b (R).length c8b, .int .i64 M] 29)).mono (by first | omega | (simp only [World.size_alloc]; omega) | (simp only [size_drew_]; omega) | (simp only [World.size_alloc, size_drew_]; omega))))
    clear A_8
    have A2_9 := Lib.hid (A2_8.out.below (((Below.refl w8.heap.size w8).alloc (Nat.le_refl _) (.cells #[.slice a8 (L).length c8, .slice a8b (R).length c8b, .int .i64 M] 29)).mono (by first | omega | (simp only [World.size_alloc]; omega) | (simp only [size_drew_]; omega) | (simp only [World.size_alloc, size_drew_]; omega))))
    clear A2_8
    have R_9 := Lib.hid (R_8.out.alloc (.cells #[.slice a8 (L).length c8, .slice a8b (R).length c8b, .int .i64 M] 29))
    clear R_8
    have RP_9 := Lib.hid (RP_8.out.below ((Below.refl w8.heap.size w8).alloc (Nat.le_refl _) (.cells #[.slice a8 (L).length c8, .slice a8b (R).length c8b, .int .i64 M] 29)) (by first | omega | (simp only [World.size_alloc]; omega) | (simp only [size_drew_]; omega) | (simp only [World.size_alloc, size_drew_]; omega)))
    clear RP_8
    have OP_9 := Lib.hid (OP_8.out.alloc (.cells #[.slice a8 (L).length c8, .slice a8b (R).length c8b, .int .i64 M] 29))
    clear OP_8
    have X_9 := Lib.hid (X_8.out.below ((Below.refl w8.heap.size w8).alloc (Nat.le_refl _) (.cells #[.slice a8 (L).length c8, .slice a8b (R).length c8b, .int .i64 M] 29)) (by first | omega | (simp only [World.size_alloc]; omega) | (simp only [size_drew_]; omega) | (simp only [World.size_alloc, size_drew_]; omega)))
    clear X_8
    have OX_9 := Lib.hid (OX_8.out.alloc (.cells #[.slice a8 (L).length c8, .slice a8b (R).length c8b, .int .i64 M] 29))
    clear OX_8
    have RQ_9 := Lib.hid (RQ_8.out.below ((Below.refl w8.heap.size w8).alloc (Nat.le_refl _) (.cells #[.slice a8 (L).length c8, .slice a8b (R).length c8b, .int .i64 M] 29)) (by first | omega | (simp only [World.size_alloc]; omega) | (simp only [size_drew_]; omega) | (simp only [World.size_alloc, size_drew_]; omega)))
    clear RQ_8
    have BB_9 := Lib.hid (BB_8.out.alloc (by first | omega | (simp only [World.size_alloc]; omega) | (simp only [size_drew_]; omega) | (simp only [World.size_alloc, size_drew_]; omega)) (.cells #[.slice a8 (L).length c8, .slice a8b (R).length c8b, .int .i64 M] 29))
    clear BB_8
    have OQ_9 := Lib.hid (Blk.new w8 29 #[.slice a8 (L).length c8, .slice a8b (R).length c8b, .int .i64 M])
    have qOQ_9 := OQ_9.out.cell
    have qOP_9 := OP_9.out.cell
    go_wp2_with fail
    refine (eqJoin_any _ _ _ _ _ _ _ _ _ _ _ _ M L R _ _ _ RQ_9.out.r0.qs RQ_9.out.r1.qs RP_9.out.r0.qs RP_9.out.r1.qs rfl rfl rfl rfl (Nat.le_refl _) (Nat.le_refl _)).mono ?_
    rintro e w10 ⟨rfl, hb⟩
    clear qOQ_9 qOP_9
    have A_10 := Lib.hid (A_9.out.below (hb.mono (by first | omega | (simp only [World.size_alloc]; omega) | (simp only [size_drew_]; omega) | (simp only [World.size_alloc, size_drew_]; omega))))
    clear A_9
    have A2_10 := Lib.hid (A2_9.out.below (hb.mono (by first | omega | (simp only [World.size_alloc]; omega) | (simp only [size_drew_]; omega) | (simp only [World.size_alloc, size_drew_]; omega))))
    clear A2_9
    have R_10 := Lib.hid (R_9.out.below hb)
    clear R_9
    have RP_10 := Lib.hid (RP_9.out.below hb (by first | omega | (simp only [World.size_alloc]; omega) | (simp only [size_drew_]; omega) | (simp only [World.size_alloc, size_drew_]; omega)))
    clear RP_9
    have OP_10 := Lib.hid (OP_9.out.below hb)
    clear OP_9
    have X_10 := Lib.hid (X_9.out.below hb (by first | omega | (simp only [World.size_alloc]; omega) | (simp only [size_drew_]; omega) | (simp only [World.size_alloc, size_drew_]; omega)))
    clear X_9
    have OX_10 := Lib.hid (OX_9.out.below hb)
    clear OX_9
    have RQ_10 := Lib.hid (RQ_9.out.below hb (by first | omega | (simp only [World.size_alloc]; omega) | (simp only [size_drew_]; omega) | (simp only [World.size_alloc, size_drew_]; omega)))
    clear RQ_9
    have OQ_10 := Lib.hid (OQ_9.out.below hb)
    clear OQ_9
    have BB_10 := Lib.hid (BB_9.out.trans (hb.mono (by first | omega | (simp only [World.size_alloc]; omega) | (simp only [size_drew_]; omega) | (simp only [World.size_alloc, size_drew_]; omega))))
    clear BB_9
    have s10 := hb.size
    simp only [World.size_alloc] at s10
    clear hb
    go_wp2_with fail
    have hOXs0 := OX_10.out.cell
    have hRs0 := R_10.out.cell
    have A_11 := Lib.hid (A_10.out.below (((Below.refl w10.heap.size w10).drew).mono (by first | omega | (simp only [World.size_alloc]; omega) | (simp only [size_drew_]; omega) | (simp only [World.size_alloc, size_drew_]; omega))))
    clear A_10
    have A2_11 := Lib.hid (A2_10.out.below (((Below.refl w10.heap.size w10).drew).mono (by first | omega | (simp only [World.size_alloc]; omega) | (simp only [size_drew_]; omega) | (simp only [World.size_alloc, size_drew_]; omega))))
    clear A2_10
    have R_11 := Lib.hid (R_10.out.drew)
    clear R_10
    have RP_11 := Lib.hid (RP_10.out.below ((Below.refl w10.heap.size w10).drew) (by first | omega | (simp only [World.size_alloc]; omega) | (simp only [size_drew_]; omega) | (simp only [World.size_alloc, size_drew_]; omega)))
    clear RP_10
    have OP_11 := Lib.hid (OP_10.out.drew)
    clear OP_10
    have X_11 := Lib.hid (X_10.out.below ((Below.refl w10.heap.size w10).drew) (by first | omega | (simp only [World.size_alloc]; omega) | (simp only [size_drew_]; omega) | (simp only [World.size_alloc, size_drew_]; omega)))
    clear X_10
    have OX_11 := Lib.hid (OX_10.out.drew)
    clear OX_10
    have RQ_11 := Lib.hid (RQ_10.out.below ((Below.refl w10.heap.size w10).drew) (by first | omega | (simp only [World.size_alloc]; omega) | (simp only [size_drew_]; omega) | (simp only [World.size_alloc, size_drew_]; omega)))
    clear RQ_10
    have OQ_11 := Lib.hid (OQ_10.out.drew)
    clear OQ_10
    have BB_11 := Lib.hid (BB_10.out.drew)
    clear BB_10
    go_region_held3 (fun W => W.cell? ⟨w6.heap.size, 0, none⟩ = some (.slice a6 (l).length c6) ∧ W.cell? ⟨w6.heap.size, 1, none⟩ = some (.slice a6b (r).length c6b) ∧ W.cell? ⟨w6.heap.size, 2, none⟩ = some (.int .i64 mk) ∧ W.cell? ⟨w.heap.size, 0, none⟩ = some (.slice a l.length c) ∧ W.cell? ⟨w.heap.size, 1, none⟩ = some (.slice b r.length d) ∧ W.cell? ⟨w.heap.size, 2, none⟩ = some (.int .i64 mk))
      (first | exact ⟨hOXs0 0, hOXs0 1, hOXs0 2, hRs0 0, hRs0 1, hRs0 2⟩ | exact ⟨hOXs1 0, hOXs1 1, hOXs1 2, hRs1 0, hRs1 1, hRs1 2⟩ | exact ⟨hOXs2 0, hOXs2 1, hOXs2 2, hRs2 0, hRs2 1, hRs2 2⟩)
      (first
        | (go_at_call 45; refine (toJoin_any a b _ _ c d mk l r _ _ A_11.out A2_11.out rfl rfl (by first | omega | (simp only [World.size_alloc]; omega) | (simp only [size_drew_]; omega) | (simp only [World.size_alloc, size_drew_]; omega)) hle hle2).mono ?_; rintro e w12 ⟨a12, c12, a12b, c12b, rfl, ho, hb⟩; have A_12 := Lib.hid (A_11.out.below (hb.mono (by first | omega | (simp only [World.size_alloc]; omega) | (simp only [size_drew_]; omega) | (simp only [World.size_alloc, size_drew_]; omega)))); clear A_11; have A2_12 := Lib.hid (A2_11.out.below (hb.mono (by first | omega | (simp only [World.size_alloc]; omega) | (simp only [size_drew_]; omega) | (simp only [World.size_alloc, size_drew_]; omega)))); clear A2_11; have R_12 := Lib.hid (R_11.out.below hb); clear R_11; have RP_12 := Lib.hid (RP_11.out.below hb (by first | omega | (simp only [World.size_alloc]; omega) | (simp only [size_drew_]; omega) | (simp only [World.size_alloc, size_drew_]; omega))); clear RP_11; have OP_12 := Lib.hid (OP_11.out.below hb); clear OP_11; have X_12 := Lib.hid (X_11.out.below hb (by first | omega | (simp only [World.size_alloc]; omega) | (simp only [size_drew_]; omega) | (simp only [World.size_alloc, size_drew_]; omega))); clear X_11; have OX_12 := Lib.hid (OX_11.out.below hb); clear OX_11; have RQ_12 := Lib.hid (RQ_11.out.below hb (by first | omega | (simp only [World.size_alloc]; omega) | (simp only [size_drew_]; omega) | (simp only [World.size_alloc, size_drew_]; omega))); clear RQ_11; have OQ_12 := Lib.hid (OQ_11.out.below hb); clear OQ_11; have BB_12 := Lib.hid (BB_11.out.trans (hb.mono (by first | omega | (simp only [World.size_alloc]; omega) | (simp only [size_drew_]; omega) | (simp only [World.size_alloc, size_drew_]; omega)))); clear BB_11; have Z_12 := Lib.hid ho; clear ho; have s12 := hb.size; simp only [size_drew_] at s12; clear hb; clear hOXs0 hRs0; have hOXs1 := OX_12.out.cell; have hRs1 := R_12.out.cell)
        | (go_at_call 47; refine (eqJoin_any _ _ _ _ _ _ _ _ _ _ _ _ mk l r _ _ _ X_12.out.r0.qs X_12.out.r1.qs Z_12.out.r0.qs Z_12.out.r1.qs rfl rfl rfl rfl (Nat.le_refl _) (Nat.le_refl _)).mono ?_; rintro e w13 ⟨rfl, hb⟩; have A_13 := Lib.hid (A_12.out.below (hb.mono (by first | omega | (simp only [World.size_alloc]; omega) | (simp only [size_drew_]; omega) | (simp only [World.size_alloc, size_drew_]; omega)))); clear A_12; have A2_13 := Lib.hid (A2_12.out.below (hb.mono (by first | omega | (simp only [World.size_alloc]; omega) | (simp only [size_drew_]; omega) | (simp only [World.size_alloc, size_drew_]; omega)))); clear A2_12; have R_13 := Lib.hid (R_12.out.below hb); clear R_12; have RP_13 := Lib.hid (RP_12.out.below hb (by first | omega | (simp only [World.size_alloc]; omega) | (simp only [size_drew_]; omega) | (simp only [World.size_alloc, size_drew_]; omega))); clear RP_12; have OP_13 := Lib.hid (OP_12.out.below hb); clear OP_12; have X_13 := Lib.hid (X_12.out.below hb (by first | omega | (simp only [World.size_alloc]; omega) | (simp only [size_drew_]; omega) | (simp only [World.size_alloc, size_drew_]; omega))); clear X_12; have OX_13 := Lib.hid (OX_12.out.below hb); clear OX_12; have RQ_13 := Lib.hid (RQ_12.out.below hb (by first | omega | (simp only [World.size_alloc]; omega) | (simp only [size_drew_]; omega) | (simp only [World.size_alloc, size_drew_]; omega))); clear RQ_12; have OQ_13 := Lib.hid (OQ_12.out.below hb); clear OQ_12; have Z_13 := Lib.hid (Z_12.out.below hb (by first | omega | (simp only [World.size_alloc]; omega) | (simp only [size_drew_]; omega) | (simp only [World.size_alloc, size_drew_]; omega))); clear Z_12; have BB_13 := Lib.hid (BB_12.out.trans (hb.mono (by first | omega | (simp only [World.size_alloc]; omega) | (simp only [size_drew_]; omega) | (simp only [World.size_alloc, size_drew_]; omega)))); clear BB_12; have s13 := hb.size; clear hb; clear hOXs1 hRs1; have hOXs2 := OX_13.out.cell; have hRs2 := R_13.out.cell))
    clear hOXs2 hRs2
    clear Z_13
    have qOX_13 := OX_13.out.cell
    go_wp2_with fail
    refine (markJoin_m _ _ _ _ 1 mk _ l r _ _ _ _ X_13.out rfl (by first | omega | (simp only [World.size_alloc]; omega) | (simp only [size_drew_]; omega) | (simp only [World.size_alloc, size_drew_]; omega)) (by first | omega | (simp only [World.size_alloc]; omega) | (simp only [size_drew_]; omega) | (simp only [World.size_alloc, size_drew_]; omega)) (by omega) (by omega) (by omega)).mono ?_
    rintro e w14 ⟨rfl, hm⟩
    clear qOX_13
    have X_14 := Lib.hid hm.many
    have hb := hm.spn.below (by first | omega | (simp only [World.size_alloc]; omega) | (simp only [size_drew_]; omega) | (simp only [World.size_alloc, size_drew_]; omega))
    have A_14 := Lib.hid (A_13.out.below (hb.mono (by first | omega | (simp only [World.size_alloc]; omega) | (simp only [size_drew_]; omega) | (simp only [World.size_alloc, size_drew_]; omega))))
    clear A_13
    have A2_14 := Lib.hid (A2_13.out.below (hb.mono (by first | omega | (simp only [World.size_alloc]; omega) | (simp only [size_drew_]; omega) | (simp only [World.size_alloc, size_drew_]; omega))))
    clear A2_13
    have R_14 := Lib.hid (R_13.out.spn hm.spn (by first | omega | (simp only [World.size_alloc]; omega) | (simp only [size_drew_]; omega) | (simp only [World.size_alloc, size_drew_]; omega)))
    clear R_13
    have RP_14 := Lib.hid (RP_13.out.spn hm.spn (by first | omega | (simp only [World.size_alloc]; omega) | (simp only [size_drew_]; omega) | (simp only [World.size_alloc, size_drew_]; omega)))
    clear RP_13
    have OP_14 := Lib.hid (OP_13.out.spn hm.spn (by first | omega | (simp only [World.size_alloc]; omega) | (simp only [size_drew_]; omega) | (simp only [World.size_alloc, size_drew_]; omega)))
    clear OP_13
    have OX_14 := Lib.hid (OX_13.out.spn hm.spn (by first | omega | (simp only [World.size_alloc]; omega) | (simp only [size_drew_]; omega) | (simp only [World.size_alloc, size_drew_]; omega)))
    clear OX_13
    have RQ_14 := Lib.hid (RQ_13.out.spn hm.spn (by first | omega | (simp only [World.size_alloc]; omega) | (simp only [size_drew_]; omega) | (simp only [World.size_alloc, size_drew_]; omega)))
    clear RQ_13
    have OQ_14 := Lib.hid (OQ_13.out.spn hm.spn (by first | omega | (simp only [World.size_alloc]; omega) | (simp only [size_drew_]; omega) | (simp only [World.size_alloc, size_drew_]; omega)))
    clear OQ_13
    have BB_14 := Lib.hid (BB_13.out.trans (hb.mono (by first | omega | (simp only [World.size_alloc]; omega) | (simp only [size_drew_]; omega) | (simp only [World.size_alloc, size_drew_]; omega))))
    clear BB_13
    clear X_13
    have s14 := hb.size
    clear hb hm
    have qOQ_14 := OQ_14.out.cell
    have qOP_14 := OP_14.out.cell
    go_wp2_with fail
    refine (eqJoin_any _ _ _ _ _ _ _ _ _ _ _ _ M L R _ _ _ RQ_14.out.r0.qs RQ_14.out.r1.qs RP_14.out.r0.qs RP_14.out.r1.qs rfl rfl rfl rfl (Nat.le_refl _) (Nat.le_refl _)).mono ?_
    rintro e w15 ⟨rfl, hb⟩
    clear qOQ_14 qOP_14
    have A_15 := Lib.hid (A_14.out.below (hb.mono (by first | omega | (simp only [World.size_alloc]; omega) | (simp only [size_drew_]; omega) | (simp only [World.size_alloc, size_drew_]; omega))))
    clear A_14
    have A2_15 := Lib.hid (A2_14.out.below (hb.mono (by first | omega | (simp only [World.size_alloc]; omega) | (simp only [size_drew_]; omega) | (simp only [World.size_alloc, size_drew_]; omega))))
    clear A2_14
    have R_15 := Lib.hid (R_14.out.below hb)
    clear R_14
    have RP_15 := Lib.hid (RP_14.out.below hb (by first | omega | (simp only [World.size_alloc]; omega) | (simp only [size_drew_]; omega) | (simp only [World.size_alloc, size_drew_]; omega)))
    clear RP_14
    have OP_15 := Lib.hid (OP_14.out.below hb)
    clear OP_14
    have X_15 := Lib.hid (X_14.out.below hb (by first | omega | (simp only [World.size_alloc]; omega) | (simp only [size_drew_]; omega) | (simp only [World.size_alloc, size_drew_]; omega)))
    clear X_14
    have OX_15 := Lib.hid (OX_14.out.below hb)
    clear OX_14
    have RQ_15 := Lib.hid (RQ_14.out.below hb (by first | omega | (simp only [World.size_alloc]; omega) | (simp only [size_drew_]; omega) | (simp only [World.size_alloc, size_drew_]; omega)))
    clear RQ_14
    have OQ_15 := Lib.hid (OQ_14.out.below hb)
    clear OQ_14
    have BB_15 := Lib.hid (BB_14.out.trans (hb.mono (by first | omega | (simp only [World.size_alloc]; omega) | (simp only [size_drew_]; omega) | (simp only [World.size_alloc, size_drew_]; omega))))
    clear BB_14
    have s15 := hb.size
    clear hb
    have qOQ_15 := OQ_15.out.cell
    go_wp2_with fail
    refine (markJoin_m _ _ _ _ 1 M _ L R _ _ _ _ RQ_15.out rfl (by first | omega | (simp only [World.size_alloc]; omega) | (simp only [size_drew_]; omega) | (simp only [World.size_alloc, size_drew_]; omega)) (by first | omega | (simp only [World.size_alloc]; omega) | (simp only [size_drew_]; omega) | (simp only [World.size_alloc, size_drew_]; omega)) (by omega) (by omega) (by omega)).mono ?_
    rintro e w16 ⟨rfl, hm⟩
    clear qOQ_15
    have RQ_16 := Lib.hid hm.many
    have hb := hm.spn.below (by first | omega | (simp only [World.size_alloc]; omega) | (simp only [size_drew_]; omega) | (simp only [World.size_alloc, size_drew_]; omega))
    have A_16 := Lib.hid (A_15.out.below (hb.mono (by first | omega | (simp only [World.size_alloc]; omega) | (simp only [size_drew_]; omega) | (simp only [World.size_alloc, size_drew_]; omega))))
    clear A_15
    have A2_16 := Lib.hid (A2_15.out.below (hb.mono (by first | omega | (simp only [World.size_alloc]; omega) | (simp only [size_drew_]; omega) | (simp only [World.size_alloc, size_drew_]; omega))))
    clear A2_15
    have R_16 := Lib.hid (R_15.out.spn hm.spn (by first | omega | (simp only [World.size_alloc]; omega) | (simp only [size_drew_]; omega) | (simp only [World.size_alloc, size_drew_]; omega)))
    clear R_15
    have RP_16 := Lib.hid (RP_15.out.spn hm.spn (by first | omega | (simp only [World.size_alloc]; omega) | (simp only [size_drew_]; omega) | (simp only [World.size_alloc, size_drew_]; omega)))
    clear RP_15
    have OP_16 := Lib.hid (OP_15.out.spn hm.spn (by first | omega | (simp only [World.size_alloc]; omega) | (simp only [size_drew_]; omega) | (simp only [World.size_alloc, size_drew_]; omega)))
    clear OP_15
    have X_16 := Lib.hid (X_15.out.spn hm.spn (by first | omega | (simp only [World.size_alloc]; omega) | (simp only [size_drew_]; omega) | (simp only [World.size_alloc, size_drew_]; omega)))
    clear X_15
    have OX_16 := Lib.hid (OX_15.out.spn hm.spn (by first | omega | (simp only [World.size_alloc]; omega) | (simp only [size_drew_]; omega) | (simp only [World.size_alloc, size_drew_]; omega)))
    clear OX_15
    have OQ_16 := Lib.hid (OQ_15.out.spn hm.spn (by first | omega | (simp only [World.size_alloc]; omega) | (simp only [size_drew_]; omega) | (simp only [World.size_alloc, size_drew_]; omega)))
    clear OQ_15
    have BB_16 := Lib.hid (BB_15.out.trans (hb.mono (by first | omega | (simp only [World.size_alloc]; omega) | (simp only [size_drew_]; omega) | (simp only [World.size_alloc, size_drew_]; omega))))
    clear BB_15
    clear RQ_15
    have s16 := hb.size
    clear hb hm
    have qOQ_16 := OQ_16.out.cell
    go_wp2_with fail
    refine (heldJoin_m _ _ _ _ _ _ 1 M _ _ _ RQ_16.out.r0.qs RQ_16.out.r1.qs (Nat.le_refl _) rfl (by omega) (by omega) (by omega)).mono ?_
    rintro e w17 ⟨rfl, hb⟩
    clear qOQ_16
    have A_17 := Lib.hid (A_16.out.below (hb.mono (by first | omega | (simp only [World.size_alloc]; omega) | (simp only [size_drew_]; omega) | (simp only [World.size_alloc, size_drew_]; omega))))
    clear A_16
    have A2_17 := Lib.hid (A2_16.out.below (hb.mono (by first | omega | (simp only [World.size_alloc]; omega) | (simp only [size_drew_]; omega) | (simp only [World.size_alloc, size_drew_]; omega))))
    clear A2_16
    have R_17 := Lib.hid (R_16.out.below hb)
    clear R_16
    have RP_17 := Lib.hid (RP_16.out.below hb (by first | omega | (simp only [World.size_alloc]; omega) | (simp only [size_drew_]; omega) | (simp only [World.size_alloc, size_drew_]; omega)))
    clear RP_16
    have OP_17 := Lib.hid (OP_16.out.below hb)
    clear OP_16
    have X_17 := Lib.hid (X_16.out.below hb (by first | omega | (simp only [World.size_alloc]; omega) | (simp only [size_drew_]; omega) | (simp only [World.size_alloc, size_drew_]; omega)))
    clear X_16
    have OX_17 := Lib.hid (OX_16.out.below hb)
    clear OX_16
    have RQ_17 := Lib.hid (RQ_16.out.below hb (by first | omega | (simp only [World.size_alloc]; omega) | (simp only [size_drew_]; omega) | (simp only [World.size_alloc, size_drew_]; omega)))
    clear RQ_16
    have OQ_17 := Lib.hid (OQ_16.out.below hb)
    clear OQ_16
    have BB_17 := Lib.hid (BB_16.out.trans (hb.mono (by first | omega | (simp only [World.size_alloc]; omega) | (simp only [size_drew_]; omega) | (simp only [World.size_alloc, size_drew_]; omega))))
    clear BB_16
    have s17 := hb.size
    clear hb
    have qR_17 := R_17.out.cell
    go_wp2_with fail
    refine (toJoin_any a b _ _ c d mk l r _ _ A_17.out A2_17.out rfl rfl (by first | omega | (simp only [World.size_alloc]; omega) | (simp only [size_drew_]; omega) | (simp only [World.size_alloc, size_drew_]; omega)) hle hle2).mono ?_
    rintro e w18 ⟨a18, c18, a18b, c18b, rfl, ho, hb⟩
    clear qR_17
    have A_18 := Lib.hid (A_17.out.below (hb.mono (by first | omega | (simp only [World.size_alloc]; omega) | (simp only [size_drew_]; omega) | (simp only [World.size_alloc, size_drew_]; omega))))
    clear A_17
    have A2_18 := Lib.hid (A2_17.out.below (hb.mono (by first | omega | (simp only [World.size_alloc]; omega) | (simp only [size_drew_]; omega) | (simp only [World.size_alloc, size_drew_]; omega))))
    clear A2_17
    have R_18 := Lib.hid (R_17.out.below hb)
    clear R_17
    have RP_18 := Lib.hid (RP_17.out.below hb (by first | omega | (simp only [World.size_alloc]; omega) | (simp only [size_drew_]; omega) | (simp only [World.size_alloc, size_drew_]; omega)))
    clear RP_17
    have OP_18 := Lib.hid (OP_17.out.below hb)
    clear OP_17
    have X_18 := Lib.hid (X_17.out.below hb (by first | omega | (simp only [World.size_alloc]; omega) | (simp only [size_drew_]; omega) | (simp only [World.size_alloc, size_drew_]; omega)))
    clear X_17
    have OX_18 := Lib.hid (OX_17.out.below hb)
    clear OX_17
    have RQ_18 := Lib.hid (RQ_17.out.below hb (by first | omega | (simp only [World.size_alloc]; omega) | (simp only [size_drew_]; omega) | (simp only [World.size_alloc, size_drew_]; omega)))
    clear RQ_17
    have OQ_18 := Lib.hid (OQ_17.out.below hb)
    clear OQ_17
    have BB_18 := Lib.hid (BB_17.out.trans (hb.mono (by first | omega | (simp only [World.size_alloc]; omega) | (simp only [size_drew_]; omega) | (simp only [World.size_alloc, size_drew_]; omega))))
    clear BB_17
    have Y1_18 := Lib.hid ho
    clear ho
    have s18 := hb.size
    clear hb
    go_wp2_with fail
    refine (IP.out _ _ _ _ _ Y1_18.out.r0.qs Y1_18.out.r1.qs).mono ?_
    rintro e w19 ⟨a19, c19, a19b, c19b, rfl, ho, hb⟩
    have A_19 := Lib.hid (A_18.out.below (hb.mono (by first | omega | (simp only [World.size_alloc]; omega) | (simp only [size_drew_]; omega) | (simp only [World.size_alloc, size_drew_]; omega))))
    clear A_18
    have A2_19 := Lib.hid (A2_18.out.below (hb.mono (by first | omega | (simp only [World.size_alloc]; omega) | (simp only [size_drew_]; omega) | (simp only [World.size_alloc, size_drew_]; omega))))
    clear A2_18
    have R_19 := Lib.hid (R_18.out.below hb)
    clear R_18
    have RP_19 := Lib.hid (RP_18.out.below hb (by first | omega | (simp only [World.size_alloc]; omega) | (simp only [size_drew_]; omega) | (simp only [World.size_alloc, size_drew_]; omega)))
    clear RP_18
    have OP_19 := Lib.hid (OP_18.out.below hb)
    clear OP_18
    have X_19 := Lib.hid (X_18.out.below hb (by first | omega | (simp only [World.size_alloc]; omega) | (simp only [size_drew_]; omega) | (simp only [World.size_alloc, size_drew_]; omega)))
    clear X_18
    have OX_19 := Lib.hid (OX_18.out.below hb)
    clear OX_18
    have RQ_19 := Lib.hid (RQ_18.out.below hb (by first | omega | (simp only [World.size_alloc]; omega) | (simp only [size_drew_]; omega) | (simp only [World.size_alloc, size_drew_]; omega)))
    clear RQ_18
    have OQ_19 := Lib.hid (OQ_18.out.below hb)
    clear OQ_18
    have Y1_19 := Lib.hid (Y1_18.out.below hb (by first | omega | (simp only [World.size_alloc]; omega) | (simp only [size_drew_]; omega) | (simp only [World.size_alloc, size_drew_]; omega)))
    clear Y1_18
    have BB_19 := Lib.hid (BB_18.out.trans (hb.mono (by first | omega | (simp only [World.size_alloc]; omega) | (simp only [size_drew_]; omega) | (simp only [World.size_alloc, size_drew_]; omega))))
    clear BB_18
    have RH_19 := Lib.hid ho
    clear ho
    have s19 := hb.size
    clear hb
    clear Y1_19
    have A_20 := Lib.hid (A_19.out.below (((Below.refl w19.heap.size w19).alloc (Nat.le_refl _) (.cells #[.slice a19 (L).length c19, .slice a19b (R).length c19b, .int .i64 M] 29)).mono (by first | omega | (simp only [World.size_alloc]; omega) | (simp only [size_drew_]; omega) | (simp only [World.size_alloc, size_drew_]; omega))))
    clear A_19
    have A2_20 := Lib.hid (A2_19.out.below (((Below.refl w19.heap.size w19).alloc (Nat.le_refl _) (.cells #[.slice a19 (L).length c19, .slice a19b (R).length c19b, .int .i64 M] 29)).mono (by first | omega | (simp only [World.size_alloc]; omega) | (simp only [size_drew_]; omega) | (simp only [World.size_alloc, size_drew_]; omega))))
    clear A2_19
    have R_20 := Lib.hid (R_19.out.alloc (.cells #[.slice a19 (L).length c19, .slice a19b (R).length c19b, .int .i64 M] 29))
    clear R_19
    have RP_20 := Lib.hid (RP_19.out.below ((Below.refl w19.heap.size w19).alloc (Nat.le_refl _) (.cells #[.slice a19 (L).length c19, .slice a19b (R).length c19b, .int .i64 M] 29)) (by first | omega | (simp only [World.size_alloc]; omega) | (simp only [size_drew_]; omega) | (simp only [World.size_alloc, size_drew_]; omega)))
    clear RP_19
    have OP_20 := Lib.hid (OP_19.out.alloc (.cells #[.slice a19 (L).length c19, .slice a19b (R).length c19b, .int .i64 M] 29))
    clear OP_19
    have X_20 := Lib.hid (X_19.out.below ((Below.refl w19.heap.size w19).alloc (Nat.le_refl _) (.cells #[.slice a19 (L).length c19, .slice a19b (R).length c19b, .int .i64 M] 29)) (by first | omega | (simp only [World.size_alloc]; omega) | (simp only [size_drew_]; omega) | (simp only [World.size_alloc, size_drew_]; omega)))
    clear X_19
    have OX_20 := Lib.hid (OX_19.out.alloc (.cells #[.slice a19 (L).length c19, .slice a19b (R).length c19b, .int .i64 M] 29))
    clear OX_19
    have RQ_20 := Lib.hid (RQ_19.out.below ((Below.refl w19.heap.size w19).alloc (Nat.le_refl _) (.cells #[.slice a19 (L).length c19, .slice a19b (R).length c19b, .int .i64 M] 29)) (by first | omega | (simp only [World.size_alloc]; omega) | (simp only [size_drew_]; omega) | (simp only [World.size_alloc, size_drew_]; omega)))
    clear RQ_19
    have OQ_20 := Lib.hid (OQ_19.out.alloc (.cells #[.slice a19 (L).length c19, .slice a19b (R).length c19b, .int .i64 M] 29))
    clear OQ_19
    have RH_20 := Lib.hid (RH_19.out.below ((Below.refl w19.heap.size w19).alloc (Nat.le_refl _) (.cells #[.slice a19 (L).length c19, .slice a19b (R).length c19b, .int .i64 M] 29)) (by first | omega | (simp only [World.size_alloc]; omega) | (simp only [size_drew_]; omega) | (simp only [World.size_alloc, size_drew_]; omega)))
    clear RH_19
    have BB_20 := Lib.hid (BB_19.out.alloc (by first | omega | (simp only [World.size_alloc]; omega) | (simp only [size_drew_]; omega) | (simp only [World.size_alloc, size_drew_]; omega)) (.cells #[.slice a19 (L).length c19, .slice a19b (R).length c19b, .int .i64 M] 29))
    clear BB_19
    have OH_20 := Lib.hid (Blk.new w19 29 #[.slice a19 (L).length c19, .slice a19b (R).length c19b, .int .i64 M])
    have qOH_20 := OH_20.out.cell
    have qOP_20 := OP_20.out.cell
    go_wp2_with fail
    refine (eqJoin_any _ _ _ _ _ _ _ _ _ _ _ _ M L R _ _ _ RH_20.out.r0.qs RH_20.out.r1.qs RP_20.out.r0.qs RP_20.out.r1.qs rfl rfl rfl rfl (Nat.le_refl _) (Nat.le_refl _)).mono ?_
    rintro e w21 ⟨rfl, hb⟩
    clear qOH_20 qOP_20
    have A_21 := Lib.hid (A_20.out.below (hb.mono (by first | omega | (simp only [World.size_alloc]; omega) | (simp only [size_drew_]; omega) | (simp only [World.size_alloc, size_drew_]; omega))))
    clear A_20
    have A2_21 := Lib.hid (A2_20.out.below (hb.mono (by first | omega | (simp only [World.size_alloc]; omega) | (simp only [size_drew_]; omega) | (simp only [World.size_alloc, size_drew_]; omega))))
    clear A2_20
    have R_21 := Lib.hid (R_20.out.below hb)
    clear R_20
    have RP_21 := Lib.hid (RP_20.out.below hb (by first | omega | (simp only [World.size_alloc]; omega) | (simp only [size_drew_]; omega) | (simp only [World.size_alloc, size_drew_]; omega)))
    clear RP_20
    have OP_21 := Lib.hid (OP_20.out.below hb)
    clear OP_20
    have X_21 := Lib.hid (X_20.out.below hb (by first | omega | (simp only [World.size_alloc]; omega) | (simp only [size_drew_]; omega) | (simp only [World.size_alloc, size_drew_]; omega)))
    clear X_20
    have OX_21 := Lib.hid (OX_20.out.below hb)
    clear OX_20
    have RQ_21 := Lib.hid (RQ_20.out.below hb (by first | omega | (simp only [World.size_alloc]; omega) | (simp only [size_drew_]; omega) | (simp only [World.size_alloc, size_drew_]; omega)))
    clear RQ_20
    have OQ_21 := Lib.hid (OQ_20.out.below hb)
    clear OQ_20
    have RH_21 := Lib.hid (RH_20.out.below hb (by first | omega | (simp only [World.size_alloc]; omega) | (simp only [size_drew_]; omega) | (simp only [World.size_alloc, size_drew_]; omega)))
    clear RH_20
    have OH_21 := Lib.hid (OH_20.out.below hb)
    clear OH_20
    have BB_21 := Lib.hid (BB_20.out.trans (hb.mono (by first | omega | (simp only [World.size_alloc]; omega) | (simp only [size_drew_]; omega) | (simp only [World.size_alloc, size_drew_]; omega))))
    clear BB_20
    have s21 := hb.size
    simp only [World.size_alloc] at s21
    clear hb
    have qOQ_21 := OQ_21.out.cell
    go_wp2_with fail
    refine (heldJoin_m _ _ _ _ _ _ 1 M _ _ _ RQ_21.out.r0.qs RQ_21.out.r1.qs (Nat.le_refl _) rfl (by omega) (by omega) (by omega)).mono ?_
    rintro e w22 ⟨rfl, hb⟩
    clear qOQ_21
    have A_22 := Lib.hid (A_21.out.below (hb.mono (by first | omega | (simp only [World.size_alloc]; omega) | (simp only [size_drew_]; omega) | (simp only [World.size_alloc, size_drew_]; omega))))
    clear A_21
    have A2_22 := Lib.hid (A2_21.out.below (hb.mono (by first | omega | (simp only [World.size_alloc]; omega) | (simp only [size_drew_]; omega) | (simp only [World.size_alloc, size_drew_]; omega))))
    clear A2_21
    have R_22 := Lib.hid (R_21.out.below hb)
    clear R_21
    have RP_22 := Lib.hid (RP_21.out.below hb (by first | omega | (simp only [World.size_alloc]; omega) | (simp only [size_drew_]; omega) | (simp only [World.size_alloc, size_drew_]; omega)))
    clear RP_21
    have OP_22 := Lib.hid (OP_21.out.below hb)
    clear OP_21
    have X_22 := Lib.hid (X_21.out.below hb (by first | omega | (simp only [World.size_alloc]; omega) | (simp only [size_drew_]; omega) | (simp only [World.size_alloc, size_drew_]; omega)))
    clear X_21
    have OX_22 := Lib.hid (OX_21.out.below hb)
    clear OX_21
    have RQ_22 := Lib.hid (RQ_21.out.below hb (by first | omega | (simp only [World.size_alloc]; omega) | (simp only [size_drew_]; omega) | (simp only [World.size_alloc, size_drew_]; omega)))
    clear RQ_21
    have OQ_22 := Lib.hid (OQ_21.out.below hb)
    clear OQ_21
    have RH_22 := Lib.hid (RH_21.out.below hb (by first | omega | (simp only [World.size_alloc]; omega) | (simp only [size_drew_]; omega) | (simp only [World.size_alloc, size_drew_]; omega)))
    clear RH_21
    have OH_22 := Lib.hid (OH_21.out.below hb)
    clear OH_21
    have BB_22 := Lib.hid (BB_21.out.trans (hb.mono (by first | omega | (simp only [World.size_alloc]; omega) | (simp only [size_drew_]; omega) | (simp only [World.size_alloc, size_drew_]; omega))))
    clear BB_21
    have s22 := hb.size
    clear hb
    go_wp2
    go_ret
    exact ⟨rfl, BB_22.out⟩

set_option maxRecDepth 100000 in
theorem lifted (os : Os) (started : os.Started) (H : Type) (enc : TypeId × Value → H) :
    ReturnsInHanded {} Try.checked os 12 .any (Rows.fnExactRaiseJoinSpec.pre6 enc Try.prog Try.f12 Rows.fnExactRaiseJoinRow.domain false) (Rows.fnExactRaiseJoinSpec.post enc Try.prog Try.f12 false true false false) := by
  refine returnsInHanded_of_change (C := Try.checked) own started (by kernel_rfl) Try.func12
    (ChangeSpec.witness6 (enc := enc) (C := Try.checked) false ⟨#[], #[.agg #[.slice none 0 0, .slice none 0 0, .int .i64 0], .int .i64 0, .int .i64 0], []⟩ 8 (by kernel_rfl) (by kernel_rfl) (by kernel_rfl) (by kernel_rfl)) ?_
  intro W base args ds gs before hval0 hW hcnd _
  have hval : ∀ (j : Nat) t v, Try.f12.params[j]? = some t → args[j]? = some v → Value.okWide Try.prog W .any base t v := hval0
  have hW' := hW
  obtain ⟨p, q, hA0, hV, rfl, hfz, hnd⟩ := hW
  have hA : DataW.TrodAll enc Try.prog W 0 (fun _ => true) true Try.f12.params.toList args.toList ds p := hA0
  rw [Try.params12] at hA hval
  obtain ⟨v0, vs0, d0, ds0, p0, q0, hargs, rfl, rfl, h0, r0⟩ := trodAll_cons hA
  obtain ⟨v1, vs1, d1, ds1, p1, q1, rfl, rfl, rfl, h1, r1⟩ := trodAll_cons r0
  obtain ⟨v2, vs2, d2, ds2, p2, q2, rfl, rfl, rfl, h2, r2⟩ := trodAll_cons r1
  obtain ⟨rfl, rfl, rfl⟩ := trodAll_nil r2
  obtain rfl : args = #[v0, v1, v2] := by cases args; simp_all
  obtain ⟨rfl, rfl⟩ := trodVars_none hV
  have lt0 : ∀ x ∈ p0, x.block < W.heap.size := by obtain ⟨m, hm⟩ := h0; exact DataW.trod_lt m _ _ _ hm
  obtain ⟨a0, n0, c0, b0_, m0, e0, mk0, rfl, hk0, l0, r0_, hn0, hm0, hs0, hs20⟩ := arg_join (hval 0 63 v0 rfl rfl) h0
  have lt1 : ∀ x ∈ p1, x.block < W.heap.size := by obtain ⟨m, hm⟩ := h1; exact DataW.trod_lt m _ _ _ hm
  obtain ⟨x1, rfl, hx1⟩ := arg_int (hval 1 3 v1 rfl rfl) h1
  have lt2 : ∀ x ∈ p2, x.block < W.heap.size := by obtain ⟨m, hm⟩ := h2; exact DataW.trod_lt m _ _ _ hm
  obtain ⟨x2, rfl, hx2⟩ := arg_int (hval 2 3 v2 rfl rfl) h2
  clear hA0 hval0
  refine (walk W a0 n0 c0 b0_ m0 e0 mk0 hk0 l0 r0_ hn0 hm0 hs0 hs20 x1 hx1 x2 hx2).mono fun e W' ⟨he, bel⟩ => ?_
  subst he
  exact ⟨_, rfl, _, _, _, [], _, [], hW', trodAll_mk1 (shut_bool Try.underlying4 _), (trodAll_cons_mk (Below.trod laidOut (by kernel_rfl) (of_decide_eq_true (by kernel_rfl)) h0 bel lt0) (trodAll_cons_mk (Below.trod laidOut (by kernel_rfl) (of_decide_eq_true (by kernel_rfl)) h1 bel lt1) (trodAll_cons_mk (Below.trod laidOut (by kernel_rfl) (of_decide_eq_true (by kernel_rfl)) h2 bel lt2) trodAll_mk0))), rfl, bel.frame _, fun h => by cases h⟩

theorem over : Rows.fnExactRaiseJoinRow.holds Try.pinned (OpenSpec.ofChange Rows.fnExactRaiseJoinSpec) :=
  OpenClaim.holds_of_wide 12 Try.f12 rfl rfl rfl rfl rfl rfl rfl ⟨rfl, rfl, rfl, rfl, rfl⟩ rfl rfl rfl rfl rfl (by kernel_rfl) Try.func12 (by kernel_rfl)
    (of_decide_eq_true (by kernel_rfl)) (by unfold Func.isWrapper; first | (rw [if_pos (by decide +kernel)]; kernel_rfl) | (rw [if_neg (by decide +kernel)]; exact ⟨rfl, rfl⟩))
    (fun os started H enc _ => lifted os started H enc)

theorem proved : Rows.FnExactRaiseJoinSaid := over
#print axioms proved
end Go.Proofs.Ytneolndbhklboaa.fnExactRaiseJoin
