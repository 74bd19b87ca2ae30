/- impl.Unmatched answers as spec.Unmatched at every two lists of up to 1048576 frames together (beyond, the law says nothing) and every int, in memory of its own, and leaves the lists as they were. No conditions. -/
import Derived.Test.YtneolndbhklboaaRows
import Derived.Test.YtneolndbhklboaaOpenFmA
import Derived.Test.YtneolndbhklboaaJnI4
import Derived.Test.YtneolndbhklboaaJnS4
import Derived.Test.YtneolndbhklboaaSzFm
import Derived.Test.YtneolndbhklboaaRingS
import Derived.Test.YtneolndbhklboaaHeld
import Derived.WalkSmall
import Derived.WalkKit
import Derived.ProofKit
import Derived.OpenShut
import Derived.ShutString
import Derived.ChangeOld
import Derived.Below
namespace Go.Proofs.Ytneolndbhklboaa.fnExactUnmatched
open Go.ChangeShapes Go.WideShapes Go.ChangeAt Go.RowKit
set_option linter.unusedVariables false

theorem own : ownKnob Try.prog.godebug = none := by kernel_rfl
theorem laidOut : laidOutB Try.prog = true := by kernel_rfl


set_option maxHeartbeats 4000000 in
set_option maxRecDepth 100000 in
theorem walk (w : World) (a : Option Addr) (n c : Nat) (l : List Fm) (hn : n = l.length) (hs : Fms w w.heap.size a c l) (a2 : Option Addr) (n2 c2 : Nat) (l2 : List Fm) (hn2 : n2 = l2.length) (hs2 : Fms w w.heap.size a2 c2 l2) (by_ : Int) (hby : Is64 by_) :
    Calls Try.prog 5 #[.slice a n c, .slice a2 n2 c2, .int .i64 by_] w fun e w' => e = .returned (.bool true) ∧ Below w.heap.size w w' := by
  have hc1 := hs.cap
  have hc2 := hs.big
  have hc3 := hs2.cap
  have hc4 := hs2.big
  subst hn
  subst hn2
  have HZ := Lib.hid (fun W => szFrameS_at a l.length c 1048576 W (by omega) (by omega))
  have BB := Lib.hid (Below.refl w.heap.size w)
  by_cases hbig : 1048576 < l.length
  · have hz : (if ((1048576 : Nat) : Int) - (l.length : Int) < 0 then (-1 : Int) else ((1048576 : Nat) : Int) - (l.length : Int)) = -1 := if_pos (by omega)
    rw [hz] at HZ
    clear hz
    go_enter Try.func5, Try.ntmps5
    go_wp2_with fail
    refine (HZ.out _).mono ?_
    rintro e w1 ⟨rfl, rfl⟩
    go_wp2
    go_ret
    exact ⟨rfl, BB.out⟩
  · obtain ⟨m, hm⟩ : ∃ m : Nat, m = 1048576 - l.length := ⟨_, rfl⟩
    have hz : (if ((1048576 : Nat) : Int) - (l.length : Int) < 0 then (-1 : Int) else ((1048576 : Nat) : Int) - (l.length : Int)) = (m : Int) := by rw [if_neg (by omega)]; omega
    rw [hz] at HZ
    clear hz
    have HZ2 := Lib.hid (fun W => szFrameS_at a2 l2.length c2 m W (by omega) (by omega))
    have hm0 : ¬ (m : Int) < 0 := by omega
    by_cases hbig2 : m < l2.length
    · have hz : (if (m : Int) - (l2.length : Int) < 0 then (-1 : Int) else (m : Int) - (l2.length : Int)) = -1 := if_pos (by omega)
      rw [hz] at HZ2
      clear hz hm
      go_enter Try.func5, Try.ntmps5
      go_wp2_with fail
      refine (HZ.out _).mono ?_
      rintro e w1 ⟨rfl, rfl⟩
      go_wp2_with fail
      refine (HZ2.out _).mono ?_
      rintro e w2 ⟨rfl, rfl⟩
      go_wp2
      go_ret
      exact ⟨rfl, BB.out⟩
    · obtain ⟨m2, hm2⟩ : ∃ m2 : Nat, m2 = m - l2.length := ⟨_, rfl⟩
      have hz : (if (m : Int) - (l2.length : Int) < 0 then (-1 : Int) else (m : Int) - (l2.length : Int)) = (m2 : Int) := by rw [if_neg (by omega)]; omega
      rw [hz] at HZ2
      have hm20 : ¬ (m2 : Int) < 0 := by omega
      have hle : l.length ≤ 1048576 := by omega
      have hle2 : l2.length ≤ 1048576 := by omega
      clear hz hm hm2
      have A0 := Lib.hid hs
      have A02 := Lib.hid hs2
      have SP := Lib.hid (fun (W : World) a1 c1 b1 d1 (h1 : Fms W W.heap.size a1 c1 l) (h2 : Fms W W.heap.size b1 d1 l2) => sUn_any a1 b1 l.length l2.length c1 d1 l l2 by_ _ W h1 h2 rfl rfl (Nat.le_refl _))
      have IP := Lib.hid (fun (W : World) a1 c1 b1 d1 (h1 : Fms W W.heap.size a1 c1 l) (h2 : Fms W W.heap.size b1 d1 l2) => iUn_any a1 b1 l.length l2.length c1 d1 l l2 by_ _ W h1 h2 rfl rfl (Nat.le_refl _))
      have hZ : (umJ l l2 by_).length ≤ 1048576 := by
        unfold umJ
        split
        · exact Nat.le_trans umTo_len hle
        · simp
      generalize umJ l l2 by_ = Z at SP IP hZ
      clear hs hs2 hby
      go_enter Try.func5, Try.ntmps5
      go_wp2_with fail
      refine (HZ.out _).mono ?_
      rintro e w' ⟨rfl, rfl⟩
      go_wp2_with fail
      refine (HZ2.out _).mono ?_
      rintro e w' ⟨rfl, rfl⟩
      go_wp2_with fail
      refine (toFrameS_any _ _ _ l _ _ A0.out rfl (by first | omega | (simp only [World.size_alloc]; omega) | (simp only [size_drew_]; omega) | (simp only [World.size_alloc, size_drew_]; omega)) hle).mono ?_
      rintro e w3 ⟨a3, c3, rfl, ho, hb⟩
      have A_3 := Lib.hid (A0.out.below (hb.mono (by first | omega | (simp only [World.size_alloc]; omega) | (simp only [size_drew_]; omega) | (simp only [World.size_alloc, size_drew_]; omega))))
      clear A0
      have A2_3 := Lib.hid (A02.out.below (hb.mono (by first | omega | (simp only [World.size_alloc]; omega) | (simp only [size_drew_]; omega) | (simp only [World.size_alloc, size_drew_]; omega))))
      clear A02
      have BB_3 := Lib.hid (BB.out.trans (hb.mono (by first | omega | (simp only [World.size_alloc]; omega) | (simp only [size_drew_]; omega) | (simp only [World.size_alloc, size_drew_]; omega))))
      clear BB
      have X1_3 := Lib.hid (Rw.new ho)
      clear ho
      have s3 := hb.size
      clear hb
      go_wp2_with fail
      refine (toFrameS_any _ _ _ l2 _ _ A2_3.out rfl (by first | omega | (simp only [World.size_alloc]; omega) | (simp only [size_drew_]; omega) | (simp only [World.size_alloc, size_drew_]; omega)) hle2).mono ?_
      rintro e w4 ⟨a4, c4, rfl, ho, hb⟩
      have A_4 := Lib.hid (A_3.out.below (hb.mono (by first | omega | (simp only [World.size_alloc]; omega) | (simp only [size_drew_]; omega) | (simp only [World.size_alloc, size_drew_]; omega))))
      clear A_3
      have A2_4 := Lib.hid (A2_3.out.below (hb.mono (by first | omega | (simp only [World.size_alloc]; omega) | (simp only [size_drew_]; omega) | (simp only [World.size_alloc, size_drew_]; omega))))
      clear A2_3
      have X1_4 := Lib.hid (X1_3.out.below hb (by first | omega | (simp only [World.size_alloc]; omega) | (simp only [size_drew_]; omega) | (simp only [World.size_alloc, size_drew_]; omega)))
      clear X1_3
      have BB_4 := Lib.hid (BB_3.out.trans (hb.mono (by first | omega | (simp only [World.size_alloc]; omega) | (simp only [size_drew_]; omega) | (simp only [World.size_alloc, size_drew_]; omega))))
      clear BB_3
      have X2_4 := Lib.hid (Rw.new ho)
      clear ho
      have s4 := hb.size
      clear hb
      go_wp2_with fail
      refine (SP.out _ _ _ _ _ X1_4.out.qs X2_4.out.qs).mono ?_
      rintro e w5 ⟨a5, c5, rfl, ho, hb⟩
      have A_5 := Lib.hid (A_4.out.below (hb.mono (by first | omega | (simp only [World.size_alloc]; omega) | (simp only [size_drew_]; omega) | (simp only [World.size_alloc, size_drew_]; omega))))
      clear A_4
      have A2_5 := Lib.hid (A2_4.out.below (hb.mono (by first | omega | (simp only [World.size_alloc]; omega) | (simp only [size_drew_]; omega) | (simp only [World.size_alloc, size_drew_]; omega))))
      clear A2_4
      have X1_5 := Lib.hid (X1_4.out.below hb (by first | omega | (simp only [World.size_alloc]; omega) | (simp only [size_drew_]; omega) | (simp only [World.size_alloc, size_drew_]; omega)))
      clear X1_4
      have X2_5 := Lib.hid (X2_4.out.below hb (by first | omega | (simp only [World.size_alloc]; omega) | (simp only [size_drew_]; omega) | (simp only [World.size_alloc, size_drew_]; omega)))
      clear X2_4
      have BB_5 := Lib.hid (BB_4.out.trans (hb.mono (by first | omega | (simp only [World.size_alloc]; omega) | (simp only [size_drew_]; omega) | (simp only [World.size_alloc, size_drew_]; omega))))
      clear BB_4
      have R__5 := Lib.hid (Rw.new ho)
      clear ho
      have s5 := hb.size
      clear hb
      clear X1_5 X2_5
      go_wp2_with fail
      refine (toFrameS_any _ _ _ l _ _ A_5.out rfl (by first | omega | (simp only [World.size_alloc]; omega) | (simp only [size_drew_]; omega) | (simp only [World.size_alloc, size_drew_]; omega)) hle).mono ?_
      rintro e w6 ⟨a6, c6, rfl, ho, hb⟩
      have A_6 := Lib.hid (A_5.out.below (hb.mono (by first | omega | (simp only [World.size_alloc]; omega) | (simp only [size_drew_]; omega) | (simp only [World.size_alloc, size_drew_]; omega))))
      clear A_5
      have A2_6 := Lib.hid (A2_5.out.below (hb.mono (by first | omega | (simp only [World.size_alloc]; omega) | (simp only [size_drew_]; omega) | (simp only [World.size_alloc, size_drew_]; omega))))
      clear A2_5
      have R__6 := Lib.hid (R__5.out.below hb (by first | omega | (simp only [World.size_alloc]; omega) | (simp only [size_drew_]; omega) | (simp only [World.size_alloc, size_drew_]; omega)))
      clear R__5
      have BB_6 := Lib.hid (BB_5.out.trans (hb.mono (by first | omega | (simp only [World.size_alloc]; omega) | (simp only [size_drew_]; omega) | (simp only [World.size_alloc, size_drew_]; omega))))
      clear BB_5
      have X_6 := Lib.hid (Rw.new ho)
      clear ho
      have s6 := hb.size
      clear hb
      go_wp2_with fail
      refine (toFrameS_any _ _ _ l2 _ _ A2_6.out rfl (by first | omega | (simp only [World.size_alloc]; omega) | (simp only [size_drew_]; omega) | (simp only [World.size_alloc, size_drew_]; omega)) hle2).mono ?_
      rintro e w7 ⟨a7, c7, rfl, ho, hb⟩
      have A_7 := Lib.hid (A_6.out.below (hb.mono (by first | omega | (simp only [World.size_alloc]; omega) | (simp only [size_drew_]; omega) | (simp only [World.size_alloc, size_drew_]; omega))))
      clear A_6
      have A2_7 := Lib.hid (A2_6.out.below (hb.mono (by first | omega | (simp only [World.size_alloc]; omega) | (simp only [size_drew_]; omega) | (simp only [World.size_alloc, size_drew_]; omega))))
      clear A2_6
      have R__7 := Lib.hid (R__6.out.below hb (by first | omega | (simp only [World.size_alloc]; omega) | (simp only [size_drew_]; omega) | (simp only [World.size_alloc, size_drew_]; omega)))
      clear R__6
      have X_7 := Lib.hid (X_6.out.below hb (by first | omega | (simp only [World.size_alloc]; omega) | (simp only [size_drew_]; omega) | (simp only [World.size_alloc, size_drew_]; omega)))
      clear X_6
      have BB_7 := Lib.hid (BB_6.out.trans (hb.mono (by first | omega | (simp only [World.size_alloc]; omega) | (simp only [size_drew_]; omega) | (simp only [World.size_alloc, size_drew_]; omega))))
      clear BB_6
      have Y_7 := Lib.hid (Rw.new ho)
      clear ho
      have s7 := hb.size
      clear hb
      go_wp2_with fail
      refine (IP.out _ _ _ _ _ X_7.out.qs Y_7.out.qs).mono ?_
      rintro e w8 ⟨a8, c8, rfl, ho, hb⟩
      have A_8 := Lib.hid (A_7.out.below (hb.mono (by first | omega | (simp only [World.size_alloc]; omega) | (simp only [size_drew_]; omega) | (simp only [World.size_alloc, size_drew_]; omega))))
      clear A_7
      have A2_8 := Lib.hid (A2_7.out.below (hb.mono (by first | omega | (simp only [World.size_alloc]; omega) | (simp only [size_drew_]; omega) | (simp only [World.size_alloc, size_drew_]; omega))))
      clear A2_7
      have R__8 := Lib.hid (R__7.out.below hb (by first | omega | (simp only [World.size_alloc]; omega) | (simp only [size_drew_]; omega) | (simp only [World.size_alloc, size_drew_]; omega)))
      clear R__7
      have X_8 := Lib.hid (X_7.out.below hb (by first | omega | (simp only [World.size_alloc]; omega) | (simp only [size_drew_]; omega) | (simp only [World.size_alloc, size_drew_]; omega)))
      clear X_7
      have Y_8 := Lib.hid (Y_7.out.below hb (by first | omega | (simp only [World.size_alloc]; omega) | (simp only [size_drew_]; omega) | (simp only [World.size_alloc, size_drew_]; omega)))
      clear Y_7
      have BB_8 := Lib.hid (BB_7.out.trans (hb.mono (by first | omega | (simp only [World.size_alloc]; omega) | (simp only [size_drew_]; omega) | (simp only [World.size_alloc, size_drew_]; omega))))
      clear BB_7
      have G_8 := Lib.hid (Rw.new ho)
      clear ho
      have s8 := hb.size
      clear hb
      go_wp2_with fail
      refine (eqInts_b _ _ _ _ _ _ Z _ _ _ G_8.out.nums R__8.out.nums rfl rfl).mono ?_
      rintro e w9 ⟨rfl, hb⟩
      have A_9 := Lib.hid (A_8.out.below (hb.mono (by first | omega | (simp only [World.size_alloc]; omega) | (simp only [size_drew_]; omega) | (simp only [World.size_alloc, size_drew_]; omega))))
      clear A_8
      have A2_9 := Lib.hid (A2_8.out.below (hb.mono (by first | omega | (simp only [World.size_alloc]; omega) | (simp only [size_drew_]; omega) | (simp only [World.size_alloc, size_drew_]; omega))))
      clear A2_8
      have R__9 := Lib.hid (R__8.out.below hb (by first | omega | (simp only [World.size_alloc]; omega) | (simp only [size_drew_]; omega) | (simp only [World.size_alloc, size_drew_]; omega)))
      clear R__8
      have X_9 := Lib.hid (X_8.out.below hb (by first | omega | (simp only [World.size_alloc]; omega) | (simp only [size_drew_]; omega) | (simp only [World.size_alloc, size_drew_]; omega)))
      clear X_8
      have Y_9 := Lib.hid (Y_8.out.below hb (by first | omega | (simp only [World.size_alloc]; omega) | (simp only [size_drew_]; omega) | (simp only [World.size_alloc, size_drew_]; omega)))
      clear Y_8
      have G_9 := Lib.hid (G_8.out.below hb (by first | omega | (simp only [World.size_alloc]; omega) | (simp only [size_drew_]; omega) | (simp only [World.size_alloc, size_drew_]; omega)))
      clear G_8
      have BB_9 := Lib.hid (BB_8.out.trans (hb.mono (by first | omega | (simp only [World.size_alloc]; omega) | (simp only [size_drew_]; omega) | (simp only [World.size_alloc, size_drew_]; omega))))
      clear BB_8
      have s9 := hb.size
      clear hb
      go_wp2_with fail
      refine (toFrameS_any _ _ _ l _ _ A_9.out rfl (by first | omega | (simp only [World.size_alloc]; omega) | (simp only [size_drew_]; omega) | (simp only [World.size_alloc, size_drew_]; omega)) hle).mono ?_
      rintro e w10 ⟨a10, c10, rfl, ho, hb⟩
      have A_10 := Lib.hid (A_9.out.below (hb.mono (by first | omega | (simp only [World.size_alloc]; omega) | (simp only [size_drew_]; omega) | (simp only [World.size_alloc, size_drew_]; omega))))
      clear A_9
      have A2_10 := Lib.hid (A2_9.out.below (hb.mono (by first | omega | (simp only [World.size_alloc]; omega) | (simp only [size_drew_]; omega) | (simp only [World.size_alloc, size_drew_]; omega))))
      clear A2_9
      have R__10 := Lib.hid (R__9.out.below hb (by first | omega | (simp only [World.size_alloc]; omega) | (simp only [size_drew_]; omega) | (simp only [World.size_alloc, size_drew_]; omega)))
      clear R__9
      have X_10 := Lib.hid (X_9.out.below hb (by first | omega | (simp only [World.size_alloc]; omega) | (simp only [size_drew_]; omega) | (simp only [World.size_alloc, size_drew_]; omega)))
      clear X_9
      have Y_10 := Lib.hid (Y_9.out.below hb (by first | omega | (simp only [World.size_alloc]; omega) | (simp only [size_drew_]; omega) | (simp only [World.size_alloc, size_drew_]; omega)))
      clear Y_9
      have G_10 := Lib.hid (G_9.out.below hb (by first | omega | (simp only [World.size_alloc]; omega) | (simp only [size_drew_]; omega) | (simp only [World.size_alloc, size_drew_]; omega)))
      clear G_9
      have BB_10 := Lib.hid (BB_9.out.trans (hb.mono (by first | omega | (simp only [World.size_alloc]; omega) | (simp only [size_drew_]; omega) | (simp only [World.size_alloc, size_drew_]; omega))))
      clear BB_9
      have Z_10 := Lib.hid (Rw.new ho)
      clear ho
      have s10 := hb.size
      clear hb
      go_wp2_with fail
      refine (eqFrameS_any _ _ _ _ _ _ l _ _ _ X_10.out.qs Z_10.out.qs rfl rfl (Nat.le_refl _) (Nat.le_refl _)).mono ?_
      rintro e w11 ⟨rfl, hb⟩
      have A_11 := Lib.hid (A_10.out.below (hb.mono (by first | omega | (simp only [World.size_alloc]; omega) | (simp only [size_drew_]; omega) | (simp only [World.size_alloc, size_drew_]; omega))))
      clear A_10
      have A2_11 := Lib.hid (A2_10.out.below (hb.mono (by first | omega | (simp only [World.size_alloc]; omega) | (simp only [size_drew_]; omega) | (simp only [World.size_alloc, size_drew_]; omega))))
      clear A2_10
      have R__11 := Lib.hid (R__10.out.below hb (by first | omega | (simp only [World.size_alloc]; omega) | (simp only [size_drew_]; omega) | (simp only [World.size_alloc, size_drew_]; omega)))
      clear R__10
      have X_11 := Lib.hid (X_10.out.below hb (by first | omega | (simp only [World.size_alloc]; omega) | (simp only [size_drew_]; omega) | (simp only [World.size_alloc, size_drew_]; omega)))
      clear X_10
      have Y_11 := Lib.hid (Y_10.out.below hb (by first | omega | (simp only [World.size_alloc]; omega) | (simp only [size_drew_]; omega) | (simp only [World.size_alloc, size_drew_]; omega)))
      clear Y_10
      have G_11 := Lib.hid (G_10.out.below hb (by first | omega | (simp only [World.size_alloc]; omega) | (simp only [size_drew_]; omega) | (simp only [World.size_alloc, size_drew_]; omega)))
      clear G_10
      have Z_11 := Lib.hid (Z_10.out.below hb (by first | omega | (simp only [World.size_alloc]; omega) | (simp only [size_drew_]; omega) | (simp only [World.size_alloc, size_drew_]; omega)))
      clear Z_10
      have BB_11 := Lib.hid (BB_10.out.trans (hb.mono (by first | omega | (simp only [World.size_alloc]; omega) | (simp only [size_drew_]; omega) | (simp only [World.size_alloc, size_drew_]; omega))))
      clear BB_10
      have s11 := hb.size
      clear hb
      clear Z_11
      go_wp2_with fail
      refine (toFrameS_any _ _ _ l2 _ _ A2_11.out rfl (by first | omega | (simp only [World.size_alloc]; omega) | (simp only [size_drew_]; omega) | (simp only [World.size_alloc, size_drew_]; omega)) hle2).mono ?_
      rintro e w12 ⟨a12, c12, rfl, ho, hb⟩
      have A_12 := Lib.hid (A_11.out.below (hb.mono (by first | omega | (simp only [World.size_alloc]; omega) | (simp only [size_drew_]; omega) | (simp only [World.size_alloc, size_drew_]; omega))))
      clear A_11
      have A2_12 := Lib.hid (A2_11.out.below (hb.mono (by first | omega | (simp only [World.size_alloc]; omega) | (simp only [size_drew_]; omega) | (simp only [World.size_alloc, size_drew_]; omega))))
      clear A2_11
      have R__12 := Lib.hid (R__11.out.below hb (by first | omega | (simp only [World.size_alloc]; omega) | (simp only [size_drew_]; omega) | (simp only [World.size_alloc, size_drew_]; omega)))
      clear R__11
      have X_12 := Lib.hid (X_11.out.below hb (by first | omega | (simp only [World.size_alloc]; omega) | (simp only [size_drew_]; omega) | (simp only [World.size_alloc, size_drew_]; omega)))
      clear X_11
      have Y_12 := Lib.hid (Y_11.out.below hb (by first | omega | (simp only [World.size_alloc]; omega) | (simp only [size_drew_]; omega) | (simp only [World.size_alloc, size_drew_]; omega)))
      clear Y_11
      have G_12 := Lib.hid (G_11.out.below hb (by first | omega | (simp only [World.size_alloc]; omega) | (simp only [size_drew_]; omega) | (simp only [World.size_alloc, size_drew_]; omega)))
      clear G_11
      have BB_12 := Lib.hid (BB_11.out.trans (hb.mono (by first | omega | (simp only [World.size_alloc]; omega) | (simp only [size_drew_]; omega) | (simp only [World.size_alloc, size_drew_]; omega))))
      clear BB_11
      have Z_12 := Lib.hid (Rw.new ho)
      clear ho
      have s12 := hb.size
      clear hb
      go_wp2_with fail
      refine (eqFrameS_any _ _ _ _ _ _ l2 _ _ _ Y_12.out.qs Z_12.out.qs rfl rfl (Nat.le_refl _) (Nat.le_refl _)).mono ?_
      rintro e w13 ⟨rfl, hb⟩
      have A_13 := Lib.hid (A_12.out.below (hb.mono (by first | omega | (simp only [World.size_alloc]; omega) | (simp only [size_drew_]; omega) | (simp only [World.size_alloc, size_drew_]; omega))))
      clear A_12
      have A2_13 := Lib.hid (A2_12.out.below (hb.mono (by first | omega | (simp only [World.size_alloc]; omega) | (simp only [size_drew_]; omega) | (simp only [World.size_alloc, size_drew_]; omega))))
      clear A2_12
      have R__13 := Lib.hid (R__12.out.below hb (by first | omega | (simp only [World.size_alloc]; omega) | (simp only [size_drew_]; omega) | (simp only [World.size_alloc, size_drew_]; omega)))
      clear R__12
      have X_13 := Lib.hid (X_12.out.below hb (by first | omega | (simp only [World.size_alloc]; omega) | (simp only [size_drew_]; omega) | (simp only [World.size_alloc, size_drew_]; omega)))
      clear X_12
      have Y_13 := Lib.hid (Y_12.out.below hb (by first | omega | (simp only [World.size_alloc]; omega) | (simp only [size_drew_]; omega) | (simp only [World.size_alloc, size_drew_]; omega)))
      clear Y_12
      have G_13 := Lib.hid (G_12.out.below hb (by first | omega | (simp only [World.size_alloc]; omega) | (simp only [size_drew_]; omega) | (simp only [World.size_alloc, size_drew_]; omega)))
      clear G_12
      have Z_13 := Lib.hid (Z_12.out.below hb (by first | omega | (simp only [World.size_alloc]; omega) | (simp only [size_drew_]; omega) | (simp only [World.size_alloc, size_drew_]; omega)))
      clear Z_12
      have BB_13 := Lib.hid (BB_12.out.trans (hb.mono (by first | omega | (simp only [World.size_alloc]; omega) | (simp only [size_drew_]; omega) | (simp only [World.size_alloc, size_drew_]; omega))))
      clear BB_12
      have s13 := hb.size
      clear hb
      clear Z_13
      go_wp2_with fail
      refine (markFrameS_m _ _ _ 1 _ l _ _ X_13.out.own (by first | rfl | omega) rfl (by first | omega | (simp only [World.size_alloc]; omega) | (simp only [size_drew_]; omega) | (simp only [World.size_alloc, size_drew_]; omega)) (by omega) (by omega)).mono ?_
      rintro e w14 ⟨rfl, hm⟩
      have hb := hm.below
      have X_14 := Lib.hid (Rw.mk hm.own X_13.out.up)
      have A_14 := Lib.hid (A_13.out.below (hb.mono (by first | omega | (simp only [World.size_alloc]; omega) | (simp only [size_drew_]; omega) | (simp only [World.size_alloc, size_drew_]; omega))))
      clear A_13
      have A2_14 := Lib.hid (A2_13.out.below (hb.mono (by first | omega | (simp only [World.size_alloc]; omega) | (simp only [size_drew_]; omega) | (simp only [World.size_alloc, size_drew_]; omega))))
      clear A2_13
      have R__14 := Lib.hid (R__13.out.other X_13.out hm.grown (by first | omega | (simp only [World.size_alloc]; omega) | (simp only [size_drew_]; omega) | (simp only [World.size_alloc, size_drew_]; omega)))
      clear R__13
      have Y_14 := Lib.hid (Y_13.out.other X_13.out hm.grown (by first | omega | (simp only [World.size_alloc]; omega) | (simp only [size_drew_]; omega) | (simp only [World.size_alloc, size_drew_]; omega)))
      clear Y_13
      have G_14 := Lib.hid (G_13.out.other X_13.out hm.grown (by first | omega | (simp only [World.size_alloc]; omega) | (simp only [size_drew_]; omega) | (simp only [World.size_alloc, size_drew_]; omega)))
      clear G_13
      have BB_14 := Lib.hid (BB_13.out.trans (hb.mono (by first | omega | (simp only [World.size_alloc]; omega) | (simp only [size_drew_]; omega) | (simp only [World.size_alloc, size_drew_]; omega))))
      clear BB_13
      clear X_13
      have s14 := hb.size
      clear hb hm
      go_wp2_with fail
      refine (markFrameS_m _ _ _ (1 + 4 * l.length) _ l2 _ _ Y_14.out.own (by first | rfl | omega) rfl (by first | omega | (simp only [World.size_alloc]; omega) | (simp only [size_drew_]; omega) | (simp only [World.size_alloc, size_drew_]; omega)) (by omega) (by omega)).mono ?_
      rintro e w15 ⟨rfl, hm⟩
      have hb := hm.below
      have Y_15 := Lib.hid (Rw.mk hm.own Y_14.out.up)
      have A_15 := Lib.hid (A_14.out.below (hb.mono (by first | omega | (simp only [World.size_alloc]; omega) | (simp only [size_drew_]; omega) | (simp only [World.size_alloc, size_drew_]; omega))))
      clear A_14
      have A2_15 := Lib.hid (A2_14.out.below (hb.mono (by first | omega | (simp only [World.size_alloc]; omega) | (simp only [size_drew_]; omega) | (simp only [World.size_alloc, size_drew_]; omega))))
      clear A2_14
      have R__15 := Lib.hid (R__14.out.other Y_14.out hm.grown (by first | omega | (simp only [World.size_alloc]; omega) | (simp only [size_drew_]; omega) | (simp only [World.size_alloc, size_drew_]; omega)))
      clear R__14
      have X_15 := Lib.hid (X_14.out.other Y_14.out hm.grown (by first | omega | (simp only [World.size_alloc]; omega) | (simp only [size_drew_]; omega) | (simp only [World.size_alloc, size_drew_]; omega)))
      clear X_14
      have G_15 := Lib.hid (G_14.out.other Y_14.out hm.grown (by first | omega | (simp only [World.size_alloc]; omega) | (simp only [size_drew_]; omega) | (simp only [World.size_alloc, size_drew_]; omega)))
      clear G_14
      have BB_15 := Lib.hid (BB_14.out.trans (hb.mono (by first | omega | (simp only [World.size_alloc]; omega) | (simp only [size_drew_]; omega) | (simp only [World.size_alloc, size_drew_]; omega))))
      clear BB_14
      clear Y_14
      have s15 := hb.size
      clear hb hm
      go_wp2_with fail
      refine (eqInts_b _ _ _ _ _ _ Z _ _ _ G_15.out.nums R__15.out.nums rfl rfl).mono ?_
      rintro e w16 ⟨rfl, hb⟩
      have A_16 := Lib.hid (A_15.out.below (hb.mono (by first | omega | (simp only [World.size_alloc]; omega) | (simp only [size_drew_]; omega) | (simp only [World.size_alloc, size_drew_]; omega))))
      clear A_15
      have A2_16 := Lib.hid (A2_15.out.below (hb.mono (by first | omega | (simp only [World.size_alloc]; omega) | (simp only [size_drew_]; omega) | (simp only [World.size_alloc, size_drew_]; omega))))
      clear A2_15
      have R__16 := Lib.hid (R__15.out.below hb (by first | omega | (simp only [World.size_alloc]; omega) | (simp only [size_drew_]; omega) | (simp only [World.size_alloc, size_drew_]; omega)))
      clear R__15
      have X_16 := Lib.hid (X_15.out.below hb (by first | omega | (simp only [World.size_alloc]; omega) | (simp only [size_drew_]; omega) | (simp only [World.size_alloc, size_drew_]; omega)))
      clear X_15
      have Y_16 := Lib.hid (Y_15.out.below hb (by first | omega | (simp only [World.size_alloc]; omega) | (simp only [size_drew_]; omega) | (simp only [World.size_alloc, size_drew_]; omega)))
      clear Y_15
      have G_16 := Lib.hid (G_15.out.below hb (by first | omega | (simp only [World.size_alloc]; omega) | (simp only [size_drew_]; omega) | (simp only [World.size_alloc, size_drew_]; omega)))
      clear G_15
      have BB_16 := Lib.hid (BB_15.out.trans (hb.mono (by first | omega | (simp only [World.size_alloc]; omega) | (simp only [size_drew_]; omega) | (simp only [World.size_alloc, size_drew_]; omega))))
      clear BB_15
      have s16 := hb.size
      clear hb
      go_wp2_with fail
      refine (markInts_m _ _ _ 1 _ Z _ _ G_16.out.own rfl rfl (by first | omega | (simp only [World.size_alloc]; omega) | (simp only [size_drew_]; omega) | (simp only [World.size_alloc, size_drew_]; omega)) (by omega) (by omega)).mono ?_
      rintro e w17 ⟨rfl, hm⟩
      have hb := hm.below
      have G_17 := Lib.hid (Rw.mk hm.own G_16.out.up)
      have A_17 := Lib.hid (A_16.out.below (hb.mono (by first | omega | (simp only [World.size_alloc]; omega) | (simp only [size_drew_]; omega) | (simp only [World.size_alloc, size_drew_]; omega))))
      clear A_16
      have A2_17 := Lib.hid (A2_16.out.below (hb.mono (by first | omega | (simp only [World.size_alloc]; omega) | (simp only [size_drew_]; omega) | (simp only [World.size_alloc, size_drew_]; omega))))
      clear A2_16
      have R__17 := Lib.hid (R__16.out.other G_16.out hm.grown (by first | omega | (simp only [World.size_alloc]; omega) | (simp only [size_drew_]; omega) | (simp only [World.size_alloc, size_drew_]; omega)))
      clear R__16
      have X_17 := Lib.hid (X_16.out.other G_16.out hm.grown (by first | omega | (simp only [World.size_alloc]; omega) | (simp only [size_drew_]; omega) | (simp only [World.size_alloc, size_drew_]; omega)))
      clear X_16
      have Y_17 := Lib.hid (Y_16.out.other G_16.out hm.grown (by first | omega | (simp only [World.size_alloc]; omega) | (simp only [size_drew_]; omega) | (simp only [World.size_alloc, size_drew_]; omega)))
      clear Y_16
      have BB_17 := Lib.hid (BB_16.out.trans (hb.mono (by first | omega | (simp only [World.size_alloc]; omega) | (simp only [size_drew_]; omega) | (simp only [World.size_alloc, size_drew_]; omega))))
      clear BB_16
      clear G_16
      have s17 := hb.size
      clear hb hm
      go_wp2_with fail
      refine (heldInts_m _ _ _ 1 _ _ _ G_17.out.nums rfl (by omega) (by omega)).mono ?_
      rintro e w18 ⟨rfl, hb⟩
      have A_18 := Lib.hid (A_17.out.below (hb.mono (by first | omega | (simp only [World.size_alloc]; omega) | (simp only [size_drew_]; omega) | (simp only [World.size_alloc, size_drew_]; omega))))
      clear A_17
      have A2_18 := Lib.hid (A2_17.out.below (hb.mono (by first | omega | (simp only [World.size_alloc]; omega) | (simp only [size_drew_]; omega) | (simp only [World.size_alloc, size_drew_]; omega))))
      clear A2_17
      have R__18 := Lib.hid (R__17.out.below hb (by first | omega | (simp only [World.size_alloc]; omega) | (simp only [size_drew_]; omega) | (simp only [World.size_alloc, size_drew_]; omega)))
      clear R__17
      have X_18 := Lib.hid (X_17.out.below hb (by first | omega | (simp only [World.size_alloc]; omega) | (simp only [size_drew_]; omega) | (simp only [World.size_alloc, size_drew_]; omega)))
      clear X_17
      have Y_18 := Lib.hid (Y_17.out.below hb (by first | omega | (simp only [World.size_alloc]; omega) | (simp only [size_drew_]; omega) | (simp only [World.size_alloc, size_drew_]; omega)))
      clear Y_17
      have G_18 := Lib.hid (G_17.out.below hb (by first | omega | (simp only [World.size_alloc]; omega) | (simp only [size_drew_]; omega) | (simp only [World.size_alloc, size_drew_]; omega)))
      clear G_17
      have BB_18 := Lib.hid (BB_17.out.trans (hb.mono (by first | omega | (simp only [World.size_alloc]; omega) | (simp only [size_drew_]; omega) | (simp only [World.size_alloc, size_drew_]; omega))))
      clear BB_17
      have s18 := hb.size
      clear hb
      go_wp2_with fail
      refine (toFrameS_any _ _ _ l _ _ A_18.out rfl (by first | omega | (simp only [World.size_alloc]; omega) | (simp only [size_drew_]; omega) | (simp only [World.size_alloc, size_drew_]; omega)) hle).mono ?_
      rintro e w19 ⟨a19, c19, rfl, ho, hb⟩
      have A_19 := Lib.hid (A_18.out.below (hb.mono (by first | omega | (simp only [World.size_alloc]; omega) | (simp only [size_drew_]; omega) | (simp only [World.size_alloc, size_drew_]; omega))))
      clear A_18
      have A2_19 := Lib.hid (A2_18.out.below (hb.mono (by first | omega | (simp only [World.size_alloc]; omega) | (simp only [size_drew_]; omega) | (simp only [World.size_alloc, size_drew_]; omega))))
      clear A2_18
      have R__19 := Lib.hid (R__18.out.below hb (by first | omega | (simp only [World.size_alloc]; omega) | (simp only [size_drew_]; omega) | (simp only [World.size_alloc, size_drew_]; omega)))
      clear R__18
      have X_19 := Lib.hid (X_18.out.below hb (by first | omega | (simp only [World.size_alloc]; omega) | (simp only [size_drew_]; omega) | (simp only [World.size_alloc, size_drew_]; omega)))
      clear X_18
      have Y_19 := Lib.hid (Y_18.out.below hb (by first | omega | (simp only [World.size_alloc]; omega) | (simp only [size_drew_]; omega) | (simp only [World.size_alloc, size_drew_]; omega)))
      clear Y_18
      have G_19 := Lib.hid (G_18.out.below hb (by first | omega | (simp only [World.size_alloc]; omega) | (simp only [size_drew_]; omega) | (simp only [World.size_alloc, size_drew_]; omega)))
      clear G_18
      have BB_19 := Lib.hid (BB_18.out.trans (hb.mono (by first | omega | (simp only [World.size_alloc]; omega) | (simp only [size_drew_]; omega) | (simp only [World.size_alloc, size_drew_]; omega))))
      clear BB_18
      have X3_19 := Lib.hid (Rw.new ho)
      clear ho
      have s19 := hb.size
      clear hb
      go_wp2_with fail
      refine (toFrameS_any _ _ _ l2 _ _ A2_19.out rfl (by first | omega | (simp only [World.size_alloc]; omega) | (simp only [size_drew_]; omega) | (simp only [World.size_alloc, size_drew_]; omega)) hle2).mono ?_
      rintro e w20 ⟨a20, c20, rfl, ho, hb⟩
      have A_20 := Lib.hid (A_19.out.below (hb.mono (by first | omega | (simp only [World.size_alloc]; omega) | (simp only [size_drew_]; omega) | (simp only [World.size_alloc, size_drew_]; omega))))
      clear A_19
      have A2_20 := Lib.hid (A2_19.out.below (hb.mono (by first | omega | (simp only [World.size_alloc]; omega) | (simp only [size_drew_]; omega) | (simp only [World.size_alloc, size_drew_]; omega))))
      clear A2_19
      have R__20 := Lib.hid (R__19.out.below hb (by first | omega | (simp only [World.size_alloc]; omega) | (simp only [size_drew_]; omega) | (simp only [World.size_alloc, size_drew_]; omega)))
      clear R__19
      have X_20 := Lib.hid (X_19.out.below hb (by first | omega | (simp only [World.size_alloc]; omega) | (simp only [size_drew_]; omega) | (simp only [World.size_alloc, size_drew_]; omega)))
      clear X_19
      have Y_20 := Lib.hid (Y_19.out.below hb (by first | omega | (simp only [World.size_alloc]; omega) | (simp only [size_drew_]; omega) | (simp only [World.size_alloc, size_drew_]; omega)))
      clear Y_19
      have G_20 := Lib.hid (G_19.out.below hb (by first | omega | (simp only [World.size_alloc]; omega) | (simp only [size_drew_]; omega) | (simp only [World.size_alloc, size_drew_]; omega)))
      clear G_19
      have X3_20 := Lib.hid (X3_19.out.below hb (by first | omega | (simp only [World.size_alloc]; omega) | (simp only [size_drew_]; omega) | (simp only [World.size_alloc, size_drew_]; omega)))
      clear X3_19
      have BB_20 := Lib.hid (BB_19.out.trans (hb.mono (by first | omega | (simp only [World.size_alloc]; omega) | (simp only [size_drew_]; omega) | (simp only [World.size_alloc, size_drew_]; omega))))
      clear BB_19
      have Y3_20 := Lib.hid (Rw.new ho)
      clear ho
      have s20 := hb.size
      clear hb
      go_wp2_with fail
      refine (IP.out _ _ _ _ _ X3_20.out.qs Y3_20.out.qs).mono ?_
      rintro e w21 ⟨a21, c21, rfl, ho, hb⟩
      have A_21 := Lib.hid (A_20.out.below (hb.mono (by first | omega | (simp only [World.size_alloc]; omega) | (simp only [size_drew_]; omega) | (simp only [World.size_alloc, size_drew_]; omega))))
      clear A_20
      have A2_21 := Lib.hid (A2_20.out.below (hb.mono (by first | omega | (simp only [World.size_alloc]; omega) | (simp only [size_drew_]; omega) | (simp only [World.size_alloc, size_drew_]; omega))))
      clear A2_20
      have R__21 := Lib.hid (R__20.out.below hb (by first | omega | (simp only [World.size_alloc]; omega) | (simp only [size_drew_]; omega) | (simp only [World.size_alloc, size_drew_]; omega)))
      clear R__20
      have X_21 := Lib.hid (X_20.out.below hb (by first | omega | (simp only [World.size_alloc]; omega) | (simp only [size_drew_]; omega) | (simp only [World.size_alloc, size_drew_]; omega)))
      clear X_20
      have Y_21 := Lib.hid (Y_20.out.below hb (by first | omega | (simp only [World.size_alloc]; omega) | (simp only [size_drew_]; omega) | (simp only [World.size_alloc, size_drew_]; omega)))
      clear Y_20
      have G_21 := Lib.hid (G_20.out.below hb (by first | omega | (simp only [World.size_alloc]; omega) | (simp only [size_drew_]; omega) | (simp only [World.size_alloc, size_drew_]; omega)))
      clear G_20
      have X3_21 := Lib.hid (X3_20.out.below hb (by first | omega | (simp only [World.size_alloc]; omega) | (simp only [size_drew_]; omega) | (simp only [World.size_alloc, size_drew_]; omega)))
      clear X3_20
      have Y3_21 := Lib.hid (Y3_20.out.below hb (by first | omega | (simp only [World.size_alloc]; omega) | (simp only [size_drew_]; omega) | (simp only [World.size_alloc, size_drew_]; omega)))
      clear Y3_20
      have BB_21 := Lib.hid (BB_20.out.trans (hb.mono (by first | omega | (simp only [World.size_alloc]; omega) | (simp only [size_drew_]; omega) | (simp only [World.size_alloc, size_drew_]; omega))))
      clear BB_20
      have H__21 := Lib.hid (Rw.new ho)
      clear ho
      have s21 := hb.size
      clear hb
      clear X3_21 Y3_21
      go_wp2_with fail
      refine (eqInts_b _ _ _ _ _ _ Z _ _ _ H__21.out.nums R__21.out.nums rfl rfl).mono ?_
      rintro e w22 ⟨rfl, hb⟩
      have A_22 := Lib.hid (A_21.out.below (hb.mono (by first | omega | (simp only [World.size_alloc]; omega) | (simp only [size_drew_]; omega) | (simp only [World.size_alloc, size_drew_]; omega))))
      clear A_21
      have A2_22 := Lib.hid (A2_21.out.below (hb.mono (by first | omega | (simp only [World.size_alloc]; omega) | (simp only [size_drew_]; omega) | (simp only [World.size_alloc, size_drew_]; omega))))
      clear A2_21
      have R__22 := Lib.hid (R__21.out.below hb (by first | omega | (simp only [World.size_alloc]; omega) | (simp only [size_drew_]; omega) | (simp only [World.size_alloc, size_drew_]; omega)))
      clear R__21
      have X_22 := Lib.hid (X_21.out.below hb (by first | omega | (simp only [World.size_alloc]; omega) | (simp only [size_drew_]; omega) | (simp only [World.size_alloc, size_drew_]; omega)))
      clear X_21
      have Y_22 := Lib.hid (Y_21.out.below hb (by first | omega | (simp only [World.size_alloc]; omega) | (simp only [size_drew_]; omega) | (simp only [World.size_alloc, size_drew_]; omega)))
      clear Y_21
      have G_22 := Lib.hid (G_21.out.below hb (by first | omega | (simp only [World.size_alloc]; omega) | (simp only [size_drew_]; omega) | (simp only [World.size_alloc, size_drew_]; omega)))
      clear G_21
      have H__22 := Lib.hid (H__21.out.below hb (by first | omega | (simp only [World.size_alloc]; omega) | (simp only [size_drew_]; omega) | (simp only [World.size_alloc, size_drew_]; omega)))
      clear H__21
      have BB_22 := Lib.hid (BB_21.out.trans (hb.mono (by first | omega | (simp only [World.size_alloc]; omega) | (simp only [size_drew_]; omega) | (simp only [World.size_alloc, size_drew_]; omega))))
      clear BB_21
      have s22 := hb.size
      clear hb
      go_wp2_with fail
      refine (heldInts_m _ _ _ 1 _ _ _ G_22.out.nums rfl (by omega) (by omega)).mono ?_
      rintro e w23 ⟨rfl, hb⟩
      have A_23 := Lib.hid (A_22.out.below (hb.mono (by first | omega | (simp only [World.size_alloc]; omega) | (simp only [size_drew_]; omega) | (simp only [World.size_alloc, size_drew_]; omega))))
      clear A_22
      have A2_23 := Lib.hid (A2_22.out.below (hb.mono (by first | omega | (simp only [World.size_alloc]; omega) | (simp only [size_drew_]; omega) | (simp only [World.size_alloc, size_drew_]; omega))))
      clear A2_22
      have R__23 := Lib.hid (R__22.out.below hb (by first | omega | (simp only [World.size_alloc]; omega) | (simp only [size_drew_]; omega) | (simp only [World.size_alloc, size_drew_]; omega)))
      clear R__22
      have X_23 := Lib.hid (X_22.out.below hb (by first | omega | (simp only [World.size_alloc]; omega) | (simp only [size_drew_]; omega) | (simp only [World.size_alloc, size_drew_]; omega)))
      clear X_22
      have Y_23 := Lib.hid (Y_22.out.below hb (by first | omega | (simp only [World.size_alloc]; omega) | (simp only [size_drew_]; omega) | (simp only [World.size_alloc, size_drew_]; omega)))
      clear Y_22
      have G_23 := Lib.hid (G_22.out.below hb (by first | omega | (simp only [World.size_alloc]; omega) | (simp only [size_drew_]; omega) | (simp only [World.size_alloc, size_drew_]; omega)))
      clear G_22
      have H__23 := Lib.hid (H__22.out.below hb (by first | omega | (simp only [World.size_alloc]; omega) | (simp only [size_drew_]; omega) | (simp only [World.size_alloc, size_drew_]; omega)))
      clear H__22
      have BB_23 := Lib.hid (BB_22.out.trans (hb.mono (by first | omega | (simp only [World.size_alloc]; omega) | (simp only [size_drew_]; omega) | (simp only [World.size_alloc, size_drew_]; omega))))
      clear BB_22
      have s23 := hb.size
      clear hb
      go_wp2
      go_ret
      exact ⟨rfl, BB_23.out⟩

set_option maxRecDepth 100000 in
theorem lifted (os : Os) (started : os.Started) (H : Type) (enc : TypeId × Value → H) :
    ReturnsInHanded {} Try.checked os 5 .any (Rows.fnExactUnmatchedSpec.pre6 enc Try.prog Try.f5 Rows.fnExactUnmatchedRow.domain false) (Rows.fnExactUnmatchedSpec.post enc Try.prog Try.f5 false true false false) := by
  refine returnsInHanded_of_change (C := Try.checked) own started (by kernel_rfl) Try.func5
    (ChangeSpec.witness6 (enc := enc) (C := Try.checked) false ⟨#[], #[.slice none 0 0, .slice none 0 0, .int .i64 0], []⟩ 8 (by kernel_rfl) (by kernel_rfl) (by kernel_rfl) (by kernel_rfl)) ?_
  intro W base args ds gs before hval0 hW hcnd _
  have hval : ∀ (j : Nat) t v, Try.f5.params[j]? = some t → args[j]? = some v → Value.okWide Try.prog W .any base t v := hval0
  have hW' := hW
  obtain ⟨p, q, hA0, hV, rfl, hfz, hnd⟩ := hW
  have hA : DataW.TrodAll enc Try.prog W 0 (fun _ => true) true Try.f5.params.toList args.toList ds p := hA0
  rw [Try.params5] at hA hval
  obtain ⟨v0, vs0, d0, ds0, p0, q0, hargs, rfl, rfl, h0, r0⟩ := trodAll_cons hA
  obtain ⟨v1, vs1, d1, ds1, p1, q1, rfl, rfl, rfl, h1, r1⟩ := trodAll_cons r0
  obtain ⟨v2, vs2, d2, ds2, p2, q2, rfl, rfl, rfl, h2, r2⟩ := trodAll_cons r1
  obtain ⟨rfl, rfl, rfl⟩ := trodAll_nil r2
  obtain rfl : args = #[v0, v1, v2] := by cases args; simp_all
  obtain ⟨rfl, rfl⟩ := trodVars_none hV
  have lt0 : ∀ x ∈ p0, x.block < W.heap.size := by obtain ⟨m, hm⟩ := h0; exact DataW.trod_lt m _ _ _ hm
  obtain ⟨a0, n0, c0, rfl, l0, hn0, hs0⟩ := arg_fms (hval 0 41 v0 rfl rfl) h0
  have lt1 : ∀ x ∈ p1, x.block < W.heap.size := by obtain ⟨m, hm⟩ := h1; exact DataW.trod_lt m _ _ _ hm
  obtain ⟨a1, n1, c1, rfl, l1, hn1, hs1⟩ := arg_fms (hval 1 41 v1 rfl rfl) h1
  have lt2 : ∀ x ∈ p2, x.block < W.heap.size := by obtain ⟨m, hm⟩ := h2; exact DataW.trod_lt m _ _ _ hm
  obtain ⟨x2, rfl, hx2⟩ := arg_int (hval 2 3 v2 rfl rfl) h2
  clear hA0 hval0
  refine (walk W a0 n0 c0 l0 hn0 hs0 a1 n1 c1 l1 hn1 hs1 x2 hx2).mono fun e W' ⟨he, bel⟩ => ?_
  subst he
  exact ⟨_, rfl, _, _, _, [], _, [], hW', trodAll_mk1 (shut_bool Try.underlying4 _), (trodAll_cons_mk (Below.trod laidOut (by kernel_rfl) (of_decide_eq_true (by kernel_rfl)) h0 bel lt0) (trodAll_cons_mk (Below.trod laidOut (by kernel_rfl) (of_decide_eq_true (by kernel_rfl)) h1 bel lt1) (trodAll_cons_mk (Below.trod laidOut (by kernel_rfl) (of_decide_eq_true (by kernel_rfl)) h2 bel lt2) trodAll_mk0))), rfl, bel.frame _, fun h => by cases h⟩

theorem over : Rows.fnExactUnmatchedRow.holds Try.pinned (OpenSpec.ofChange Rows.fnExactUnmatchedSpec) :=
  OpenClaim.holds_of_wide 5 Try.f5 rfl rfl rfl rfl rfl rfl rfl ⟨rfl, rfl, rfl, rfl, rfl⟩ rfl rfl rfl rfl rfl (by kernel_rfl) Try.func5 (by kernel_rfl)
    (of_decide_eq_true (by kernel_rfl)) (by unfold Func.isWrapper; first | (rw [if_pos (by decide +kernel)]; kernel_rfl) | (rw [if_neg (by decide +kernel)]; exact ⟨rfl, rfl⟩))
    (fun os started H enc _ => lifted os started H enc)

theorem proved : Rows.FnExactUnmatchedSaid := over
#print axioms proved
end Go.Proofs.Ytneolndbhklboaa.fnExactUnmatched
