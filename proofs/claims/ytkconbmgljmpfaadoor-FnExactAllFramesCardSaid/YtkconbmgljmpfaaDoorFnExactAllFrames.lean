/- impl.AllFrames answers as spec.AllFrames at every list of bytes (up to 1048576 of them: beyond, the law says nothing), in memory of its own, and leaves it as it was: FnExactAllFrames returns true. Conditions: the two faults of the program are as its text lays them (tied). -/
import Derived.Test.YtkconbmgljmpfaaDoorRows
import Derived.Test.YtkconbmgljmpfaaDoorCards
import Derived.Test.YtkconbmgljmpfaaDoorTie
import Derived.Test.YtkconbmgljmpfaaDoorOpen
import Derived.Test.YtkconbmgljmpfaaDoorFlt
import Derived.Test.YtkconbmgljmpfaaDoorAllSpec
import Derived.Test.YtkconbmgljmpfaaDoorFramesS
import Derived.Test.YtkconbmgljmpfaaDoorLawS
import Derived.Test.YtkconbmgljmpfaaDoorHeld
import Derived.Test.YtkconbmgljmpfaaDoorMark
import Derived.WalkSmall
import Derived.WalkKit
import Derived.ProofKit
import Derived.OpenShut
import Derived.OpenVars
import Derived.Lay
import Derived.Deep.DeepHandedRow
import Derived.ShutString
import Derived.ChangeOld
import Derived.Below
namespace Go.Proofs.YtkconbmgljmpfaaDoor.fnExactAllFrames
open Go.ChangeShapes Go.WideShapes Go.ChangeAt Go.RowKit
set_option linter.unusedVariables false

theorem own : ownKnob Tryd.prog.godebug = none := by kernel_rfl
theorem laidOut : laidOutB Tryd.prog = true := by kernel_rfl


set_option maxHeartbeats 4000000 in
set_option maxRecDepth 100000 in
theorem walk (w : World) (a : Option Addr) (n c : Nat) (xs : List Int) (hn : n = xs.length) (hx : IsB xs) (hs : Nums .u8 w w.heap.size a c xs) (aB aS : Addr) (hf : Flt w w.heap.size aB aS) :
    Calls Tryd.prog 7 #[.slice a n c] w fun e w' => e = .returned (.bool true) ∧ Below w.heap.size w w' := by
  have hc1 := hs.cap
  have hc2 := hs.big
  subst hn
  by_cases hbig : 1048576 < xs.length
  · go_enter Tryd.func7, Tryd.ntmps7
    go_wp2
    go_ret
    exact ⟨rfl, Below.refl _ _⟩
  · have hle : xs.length ≤ 1048576 := by omega
    have BB := Lib.hid (Below.refl w.heap.size w)
    have A0 := Lib.hid hs
    have F0 := Lib.hid hf
    have hL := af_len xs
    have ST := Lib.hid (fun (W : World) a1 c1 (h1 : Nums .u8 W W.heap.size a1 c1 xs) => specAll_any _ a1 xs.length c1 xs W h1 rfl (Nat.le_refl _) hx)
    have IT := Lib.hid (fun (W : World) a1 c1 (h1 : Nums .u8 W W.heap.size a1 c1 xs) (h2 : Flt W W.heap.size aB aS) => implAll_any _ a1 xs.length c1 xs aB aS W h1 rfl (Nat.le_refl _) hx h2)
    generalize (af xs).list = L at ST IT hL
    generalize (af xs).n = N at ST IT
    generalize (af xs).bad = B at ST IT
    have hN : (N != N) = false := by simp
    have hB : (B != B) = false := by simp
    clear hs hf hx
    go_enter Tryd.func7, Tryd.ntmps7
    go_wp2_with fail
    refine (toBytes_any a _ c xs _ _ A0.out rfl (by first | omega | (simp only [World.size_alloc]; omega) | (simp only [size_drew_]; omega) | (simp only [World.size_alloc, size_drew_]; omega)) hle).mono ?_
    rintro e w1 ⟨a1, c1, rfl, ho, hb⟩
    have A_1 := Lib.hid (A0.out.below (hb.mono (by first | omega | (simp only [World.size_alloc]; omega) | (simp only [size_drew_]; omega) | (simp only [World.size_alloc, size_drew_]; omega))))
    clear A0
    have F_1 := Lib.hid (F0.out.below (hb.mono (by first | omega | (simp only [World.size_alloc]; omega) | (simp only [size_drew_]; omega) | (simp only [World.size_alloc, size_drew_]; omega))))
    clear F0
    have BB_1 := Lib.hid (BB.out.trans (hb.mono (by first | omega | (simp only [World.size_alloc]; omega) | (simp only [size_drew_]; omega) | (simp only [World.size_alloc, size_drew_]; omega))))
    clear BB
    have X1_1 := Lib.hid (Rw.new ho)
    clear ho
    have s1 := hb.size
    clear hb
    go_wp2_with fail
    refine (ST.out _ _ _ X1_1.out.nums).mono ?_
    rintro e w2 ⟨a2, c2, rfl, ho, hb⟩
    have A_2 := Lib.hid (A_1.out.below (hb.mono (by first | omega | (simp only [World.size_alloc]; omega) | (simp only [size_drew_]; omega) | (simp only [World.size_alloc, size_drew_]; omega))))
    clear A_1
    have F_2 := Lib.hid (F_1.out.below (hb.mono (by first | omega | (simp only [World.size_alloc]; omega) | (simp only [size_drew_]; omega) | (simp only [World.size_alloc, size_drew_]; omega))))
    clear F_1
    have X1_2 := Lib.hid (X1_1.out.below hb (by first | omega | (simp only [World.size_alloc]; omega) | (simp only [size_drew_]; omega) | (simp only [World.size_alloc, size_drew_]; omega)))
    clear X1_1
    have BB_2 := Lib.hid (BB_1.out.trans (hb.mono (by first | omega | (simp only [World.size_alloc]; omega) | (simp only [size_drew_]; omega) | (simp only [World.size_alloc, size_drew_]; omega))))
    clear BB_1
    have R_2 := Lib.hid (Rw.new ho)
    clear ho
    have s2 := hb.size
    clear hb
    clear X1_2
    go_wp2_with fail
    refine (toBytes_any a _ c xs _ _ A_2.out rfl (by first | omega | (simp only [World.size_alloc]; omega) | (simp only [size_drew_]; omega) | (simp only [World.size_alloc, size_drew_]; omega)) hle).mono ?_
    rintro e w3 ⟨a3, c3, rfl, ho, hb⟩
    have A_3 := Lib.hid (A_2.out.below (hb.mono (by first | omega | (simp only [World.size_alloc]; omega) | (simp only [size_drew_]; omega) | (simp only [World.size_alloc, size_drew_]; omega))))
    clear A_2
    have F_3 := Lib.hid (F_2.out.below (hb.mono (by first | omega | (simp only [World.size_alloc]; omega) | (simp only [size_drew_]; omega) | (simp only [World.size_alloc, size_drew_]; omega))))
    clear F_2
    have R_3 := Lib.hid (R_2.out.below hb (by first | omega | (simp only [World.size_alloc]; omega) | (simp only [size_drew_]; omega) | (simp only [World.size_alloc, size_drew_]; omega)))
    clear R_2
    have BB_3 := Lib.hid (BB_2.out.trans (hb.mono (by first | omega | (simp only [World.size_alloc]; omega) | (simp only [size_drew_]; omega) | (simp only [World.size_alloc, size_drew_]; omega))))
    clear BB_2
    have X_3 := Lib.hid (Rw.new ho)
    clear ho
    have s3 := hb.size
    clear hb
    go_wp2_with fail
    refine (IT.out _ _ _ X_3.out.nums (F_3.out.more (by first | omega | (simp only [World.size_alloc]; omega) | (simp only [size_drew_]; omega) | (simp only [World.size_alloc, size_drew_]; omega)))).mono ?_
    rintro e w4 ⟨a4, c4, rfl, ho, hb⟩
    have A_4 := Lib.hid (A_3.out.below (hb.mono (by first | omega | (simp only [World.size_alloc]; omega) | (simp only [size_drew_]; omega) | (simp only [World.size_alloc, size_drew_]; omega))))
    clear A_3
    have F_4 := Lib.hid (F_3.out.below (hb.mono (by first | omega | (simp only [World.size_alloc]; omega) | (simp only [size_drew_]; omega) | (simp only [World.size_alloc, size_drew_]; omega))))
    clear F_3
    have R_4 := Lib.hid (R_3.out.below hb (by first | omega | (simp only [World.size_alloc]; omega) | (simp only [size_drew_]; omega) | (simp only [World.size_alloc, size_drew_]; omega)))
    clear R_3
    have X_4 := Lib.hid (X_3.out.below hb (by first | omega | (simp only [World.size_alloc]; omega) | (simp only [size_drew_]; omega) | (simp only [World.size_alloc, size_drew_]; omega)))
    clear X_3
    have BB_4 := Lib.hid (BB_3.out.trans (hb.mono (by first | omega | (simp only [World.size_alloc]; omega) | (simp only [size_drew_]; omega) | (simp only [World.size_alloc, size_drew_]; omega))))
    clear BB_3
    have G_4 := Lib.hid (Rw.new ho)
    clear ho
    have s4 := hb.size
    clear hb
    go_wp2_with fail
    refine (eqFrames_any _ _ _ _ _ _ L _ G_4.out.own R_4.out.own).mono ?_
    rintro e w5 ⟨rfl, hb⟩
    have A_5 := Lib.hid (A_4.out.below (hb.mono (by first | omega | (simp only [World.size_alloc]; omega) | (simp only [size_drew_]; omega) | (simp only [World.size_alloc, size_drew_]; omega))))
    clear A_4
    have F_5 := Lib.hid (F_4.out.below (hb.mono (by first | omega | (simp only [World.size_alloc]; omega) | (simp only [size_drew_]; omega) | (simp only [World.size_alloc, size_drew_]; omega))))
    clear F_4
    have R_5 := Lib.hid (R_4.out.below hb (by first | omega | (simp only [World.size_alloc]; omega) | (simp only [size_drew_]; omega) | (simp only [World.size_alloc, size_drew_]; omega)))
    clear R_4
    have X_5 := Lib.hid (X_4.out.below hb (by first | omega | (simp only [World.size_alloc]; omega) | (simp only [size_drew_]; omega) | (simp only [World.size_alloc, size_drew_]; omega)))
    clear X_4
    have G_5 := Lib.hid (G_4.out.below hb (by first | omega | (simp only [World.size_alloc]; omega) | (simp only [size_drew_]; omega) | (simp only [World.size_alloc, size_drew_]; omega)))
    clear G_4
    have BB_5 := Lib.hid (BB_4.out.trans (hb.mono (by first | omega | (simp only [World.size_alloc]; omega) | (simp only [size_drew_]; omega) | (simp only [World.size_alloc, size_drew_]; omega))))
    clear BB_4
    have s5 := hb.size
    clear hb
    go_wp2_with fail
    refine (toBytes_any a _ c xs _ _ A_5.out rfl (by first | omega | (simp only [World.size_alloc]; omega) | (simp only [size_drew_]; omega) | (simp only [World.size_alloc, size_drew_]; omega)) hle).mono ?_
    rintro e w6 ⟨a6, c6, rfl, ho, hb⟩
    have A_6 := Lib.hid (A_5.out.below (hb.mono (by first | omega | (simp only [World.size_alloc]; omega) | (simp only [size_drew_]; omega) | (simp only [World.size_alloc, size_drew_]; omega))))
    clear A_5
    have F_6 := Lib.hid (F_5.out.below (hb.mono (by first | omega | (simp only [World.size_alloc]; omega) | (simp only [size_drew_]; omega) | (simp only [World.size_alloc, size_drew_]; omega))))
    clear F_5
    have R_6 := Lib.hid (R_5.out.below hb (by first | omega | (simp only [World.size_alloc]; omega) | (simp only [size_drew_]; omega) | (simp only [World.size_alloc, size_drew_]; omega)))
    clear R_5
    have X_6 := Lib.hid (X_5.out.below hb (by first | omega | (simp only [World.size_alloc]; omega) | (simp only [size_drew_]; omega) | (simp only [World.size_alloc, size_drew_]; omega)))
    clear X_5
    have G_6 := Lib.hid (G_5.out.below hb (by first | omega | (simp only [World.size_alloc]; omega) | (simp only [size_drew_]; omega) | (simp only [World.size_alloc, size_drew_]; omega)))
    clear G_5
    have BB_6 := Lib.hid (BB_5.out.trans (hb.mono (by first | omega | (simp only [World.size_alloc]; omega) | (simp only [size_drew_]; omega) | (simp only [World.size_alloc, size_drew_]; omega))))
    clear BB_5
    have Z_6 := Lib.hid (Rw.new ho)
    clear ho
    have s6 := hb.size
    clear hb
    go_wp2_with fail
    refine (eqBytes_b _ _ _ _ _ _ xs _ _ _ X_6.out.nums Z_6.out.nums rfl rfl).mono ?_
    rintro e w7 ⟨rfl, hb⟩
    have A_7 := Lib.hid (A_6.out.below (hb.mono (by first | omega | (simp only [World.size_alloc]; omega) | (simp only [size_drew_]; omega) | (simp only [World.size_alloc, size_drew_]; omega))))
    clear A_6
    have F_7 := Lib.hid (F_6.out.below (hb.mono (by first | omega | (simp only [World.size_alloc]; omega) | (simp only [size_drew_]; omega) | (simp only [World.size_alloc, size_drew_]; omega))))
    clear F_6
    have R_7 := Lib.hid (R_6.out.below hb (by first | omega | (simp only [World.size_alloc]; omega) | (simp only [size_drew_]; omega) | (simp only [World.size_alloc, size_drew_]; omega)))
    clear R_6
    have X_7 := Lib.hid (X_6.out.below hb (by first | omega | (simp only [World.size_alloc]; omega) | (simp only [size_drew_]; omega) | (simp only [World.size_alloc, size_drew_]; omega)))
    clear X_6
    have G_7 := Lib.hid (G_6.out.below hb (by first | omega | (simp only [World.size_alloc]; omega) | (simp only [size_drew_]; omega) | (simp only [World.size_alloc, size_drew_]; omega)))
    clear G_6
    have Z_7 := Lib.hid (Z_6.out.below hb (by first | omega | (simp only [World.size_alloc]; omega) | (simp only [size_drew_]; omega) | (simp only [World.size_alloc, size_drew_]; omega)))
    clear Z_6
    have BB_7 := Lib.hid (BB_6.out.trans (hb.mono (by first | omega | (simp only [World.size_alloc]; omega) | (simp only [size_drew_]; omega) | (simp only [World.size_alloc, size_drew_]; omega))))
    clear BB_6
    have s7 := hb.size
    clear hb
    clear Z_7
    go_wp2_with fail
    refine (markBytes_m _ _ _ 1 _ xs _ _ X_7.out.own rfl rfl (by first | omega | (simp only [World.size_alloc]; omega) | (simp only [size_drew_]; omega) | (simp only [World.size_alloc, size_drew_]; omega)) (by omega) (by omega)).mono ?_
    rintro e w8 ⟨rfl, hm⟩
    have hb := hm.below
    have X_8 := Lib.hid (Rw.mk hm.own X_7.out.up)
    have A_8 := Lib.hid (A_7.out.below (hb.mono (by first | omega | (simp only [World.size_alloc]; omega) | (simp only [size_drew_]; omega) | (simp only [World.size_alloc, size_drew_]; omega))))
    clear A_7
    have F_8 := Lib.hid (F_7.out.below (hb.mono (by first | omega | (simp only [World.size_alloc]; omega) | (simp only [size_drew_]; omega) | (simp only [World.size_alloc, size_drew_]; omega))))
    clear F_7
    have R_8 := Lib.hid (R_7.out.other X_7.out hm.grown (by first | omega | (simp only [World.size_alloc]; omega) | (simp only [size_drew_]; omega) | (simp only [World.size_alloc, size_drew_]; omega)))
    clear R_7
    have G_8 := Lib.hid (G_7.out.other X_7.out hm.grown (by first | omega | (simp only [World.size_alloc]; omega) | (simp only [size_drew_]; omega) | (simp only [World.size_alloc, size_drew_]; omega)))
    clear G_7
    have BB_8 := Lib.hid (BB_7.out.trans (hb.mono (by first | omega | (simp only [World.size_alloc]; omega) | (simp only [size_drew_]; omega) | (simp only [World.size_alloc, size_drew_]; omega))))
    clear BB_7
    clear X_7
    have s8 := hb.size
    clear hb hm
    go_wp2_with fail
    refine (eqFrames_any _ _ _ _ _ _ L _ G_8.out.own R_8.out.own).mono ?_
    rintro e w9 ⟨rfl, hb⟩
    have A_9 := Lib.hid (A_8.out.below (hb.mono (by first | omega | (simp only [World.size_alloc]; omega) | (simp only [size_drew_]; omega) | (simp only [World.size_alloc, size_drew_]; omega))))
    clear A_8
    have F_9 := Lib.hid (F_8.out.below (hb.mono (by first | omega | (simp only [World.size_alloc]; omega) | (simp only [size_drew_]; omega) | (simp only [World.size_alloc, size_drew_]; omega))))
    clear F_8
    have R_9 := Lib.hid (R_8.out.below hb (by first | omega | (simp only [World.size_alloc]; omega) | (simp only [size_drew_]; omega) | (simp only [World.size_alloc, size_drew_]; omega)))
    clear R_8
    have X_9 := Lib.hid (X_8.out.below hb (by first | omega | (simp only [World.size_alloc]; omega) | (simp only [size_drew_]; omega) | (simp only [World.size_alloc, size_drew_]; omega)))
    clear X_8
    have G_9 := Lib.hid (G_8.out.below hb (by first | omega | (simp only [World.size_alloc]; omega) | (simp only [size_drew_]; omega) | (simp only [World.size_alloc, size_drew_]; omega)))
    clear G_8
    have BB_9 := Lib.hid (BB_8.out.trans (hb.mono (by first | omega | (simp only [World.size_alloc]; omega) | (simp only [size_drew_]; omega) | (simp only [World.size_alloc, size_drew_]; omega))))
    clear BB_8
    have s9 := hb.size
    clear hb
    go_wp2_with fail
    refine (markFrames_m _ _ _ 1 _ L _ _ G_9.out.own rfl rfl (by first | omega | (simp only [World.size_alloc]; omega) | (simp only [size_drew_]; omega) | (simp only [World.size_alloc, size_drew_]; omega)) (by omega) (by omega)).mono ?_
    rintro e w10 ⟨rfl, hm⟩
    have hb := hm.below
    have G_10 := Lib.hid (Rw.mk hm.own G_9.out.up)
    have A_10 := Lib.hid (A_9.out.below (hb.mono (by first | omega | (simp only [World.size_alloc]; omega) | (simp only [size_drew_]; omega) | (simp only [World.size_alloc, size_drew_]; omega))))
    clear A_9
    have F_10 := Lib.hid (F_9.out.below (hb.mono (by first | omega | (simp only [World.size_alloc]; omega) | (simp only [size_drew_]; omega) | (simp only [World.size_alloc, size_drew_]; omega))))
    clear F_9
    have R_10 := Lib.hid (R_9.out.other G_9.out hm.grown (by first | omega | (simp only [World.size_alloc]; omega) | (simp only [size_drew_]; omega) | (simp only [World.size_alloc, size_drew_]; omega)))
    clear R_9
    have X_10 := Lib.hid (X_9.out.other G_9.out hm.grown (by first | omega | (simp only [World.size_alloc]; omega) | (simp only [size_drew_]; omega) | (simp only [World.size_alloc, size_drew_]; omega)))
    clear X_9
    have BB_10 := Lib.hid (BB_9.out.trans (hb.mono (by first | omega | (simp only [World.size_alloc]; omega) | (simp only [size_drew_]; omega) | (simp only [World.size_alloc, size_drew_]; omega))))
    clear BB_9
    clear G_9
    have s10 := hb.size
    clear hb hm
    go_wp2_with fail
    refine (heldFrames_m _ _ _ 1 _ _ _ G_10.out.own rfl (by omega) (by omega)).mono ?_
    rintro e w11 ⟨rfl, hb⟩
    have A_11 := Lib.hid (A_10.out.below (hb.mono (by first | omega | (simp only [World.size_alloc]; omega) | (simp only [size_drew_]; omega) | (simp only [World.size_alloc, size_drew_]; omega))))
    clear A_10
    have F_11 := Lib.hid (F_10.out.below (hb.mono (by first | omega | (simp only [World.size_alloc]; omega) | (simp only [size_drew_]; omega) | (simp only [World.size_alloc, size_drew_]; omega))))
    clear F_10
    have R_11 := Lib.hid (R_10.out.below hb (by first | omega | (simp only [World.size_alloc]; omega) | (simp only [size_drew_]; omega) | (simp only [World.size_alloc, size_drew_]; omega)))
    clear R_10
    have X_11 := Lib.hid (X_10.out.below hb (by first | omega | (simp only [World.size_alloc]; omega) | (simp only [size_drew_]; omega) | (simp only [World.size_alloc, size_drew_]; omega)))
    clear X_10
    have G_11 := Lib.hid (G_10.out.below hb (by first | omega | (simp only [World.size_alloc]; omega) | (simp only [size_drew_]; omega) | (simp only [World.size_alloc, size_drew_]; omega)))
    clear G_10
    have BB_11 := Lib.hid (BB_10.out.trans (hb.mono (by first | omega | (simp only [World.size_alloc]; omega) | (simp only [size_drew_]; omega) | (simp only [World.size_alloc, size_drew_]; omega))))
    clear BB_10
    have s11 := hb.size
    clear hb
    go_wp2_with fail
    refine (toBytes_any a _ c xs _ _ A_11.out rfl (by first | omega | (simp only [World.size_alloc]; omega) | (simp only [size_drew_]; omega) | (simp only [World.size_alloc, size_drew_]; omega)) hle).mono ?_
    rintro e w12 ⟨a12, c12, rfl, ho, hb⟩
    have A_12 := Lib.hid (A_11.out.below (hb.mono (by first | omega | (simp only [World.size_alloc]; omega) | (simp only [size_drew_]; omega) | (simp only [World.size_alloc, size_drew_]; omega))))
    clear A_11
    have F_12 := Lib.hid (F_11.out.below (hb.mono (by first | omega | (simp only [World.size_alloc]; omega) | (simp only [size_drew_]; omega) | (simp only [World.size_alloc, size_drew_]; omega))))
    clear F_11
    have R_12 := Lib.hid (R_11.out.below hb (by first | omega | (simp only [World.size_alloc]; omega) | (simp only [size_drew_]; omega) | (simp only [World.size_alloc, size_drew_]; omega)))
    clear R_11
    have X_12 := Lib.hid (X_11.out.below hb (by first | omega | (simp only [World.size_alloc]; omega) | (simp only [size_drew_]; omega) | (simp only [World.size_alloc, size_drew_]; omega)))
    clear X_11
    have G_12 := Lib.hid (G_11.out.below hb (by first | omega | (simp only [World.size_alloc]; omega) | (simp only [size_drew_]; omega) | (simp only [World.size_alloc, size_drew_]; omega)))
    clear G_11
    have BB_12 := Lib.hid (BB_11.out.trans (hb.mono (by first | omega | (simp only [World.size_alloc]; omega) | (simp only [size_drew_]; omega) | (simp only [World.size_alloc, size_drew_]; omega))))
    clear BB_11
    have X2_12 := Lib.hid (Rw.new ho)
    clear ho
    have s12 := hb.size
    clear hb
    go_wp2_with fail
    refine (IT.out _ _ _ X2_12.out.nums (F_12.out.more (by first | omega | (simp only [World.size_alloc]; omega) | (simp only [size_drew_]; omega) | (simp only [World.size_alloc, size_drew_]; omega)))).mono ?_
    rintro e w13 ⟨a13, c13, rfl, ho, hb⟩
    have A_13 := Lib.hid (A_12.out.below (hb.mono (by first | omega | (simp only [World.size_alloc]; omega) | (simp only [size_drew_]; omega) | (simp only [World.size_alloc, size_drew_]; omega))))
    clear A_12
    have F_13 := Lib.hid (F_12.out.below (hb.mono (by first | omega | (simp only [World.size_alloc]; omega) | (simp only [size_drew_]; omega) | (simp only [World.size_alloc, size_drew_]; omega))))
    clear F_12
    have R_13 := Lib.hid (R_12.out.below hb (by first | omega | (simp only [World.size_alloc]; omega) | (simp only [size_drew_]; omega) | (simp only [World.size_alloc, size_drew_]; omega)))
    clear R_12
    have X_13 := Lib.hid (X_12.out.below hb (by first | omega | (simp only [World.size_alloc]; omega) | (simp only [size_drew_]; omega) | (simp only [World.size_alloc, size_drew_]; omega)))
    clear X_12
    have G_13 := Lib.hid (G_12.out.below hb (by first | omega | (simp only [World.size_alloc]; omega) | (simp only [size_drew_]; omega) | (simp only [World.size_alloc, size_drew_]; omega)))
    clear G_12
    have X2_13 := Lib.hid (X2_12.out.below hb (by first | omega | (simp only [World.size_alloc]; omega) | (simp only [size_drew_]; omega) | (simp only [World.size_alloc, size_drew_]; omega)))
    clear X2_12
    have BB_13 := Lib.hid (BB_12.out.trans (hb.mono (by first | omega | (simp only [World.size_alloc]; omega) | (simp only [size_drew_]; omega) | (simp only [World.size_alloc, size_drew_]; omega))))
    clear BB_12
    have H__13 := Lib.hid (Rw.new ho)
    clear ho
    have s13 := hb.size
    clear hb
    clear X2_13
    go_wp2_with fail
    refine (eqFrames_any _ _ _ _ _ _ L _ H__13.out.own R_13.out.own).mono ?_
    rintro e w14 ⟨rfl, hb⟩
    have A_14 := Lib.hid (A_13.out.below (hb.mono (by first | omega | (simp only [World.size_alloc]; omega) | (simp only [size_drew_]; omega) | (simp only [World.size_alloc, size_drew_]; omega))))
    clear A_13
    have F_14 := Lib.hid (F_13.out.below (hb.mono (by first | omega | (simp only [World.size_alloc]; omega) | (simp only [size_drew_]; omega) | (simp only [World.size_alloc, size_drew_]; omega))))
    clear F_13
    have R_14 := Lib.hid (R_13.out.below hb (by first | omega | (simp only [World.size_alloc]; omega) | (simp only [size_drew_]; omega) | (simp only [World.size_alloc, size_drew_]; omega)))
    clear R_13
    have X_14 := Lib.hid (X_13.out.below hb (by first | omega | (simp only [World.size_alloc]; omega) | (simp only [size_drew_]; omega) | (simp only [World.size_alloc, size_drew_]; omega)))
    clear X_13
    have G_14 := Lib.hid (G_13.out.below hb (by first | omega | (simp only [World.size_alloc]; omega) | (simp only [size_drew_]; omega) | (simp only [World.size_alloc, size_drew_]; omega)))
    clear G_13
    have H__14 := Lib.hid (H__13.out.below hb (by first | omega | (simp only [World.size_alloc]; omega) | (simp only [size_drew_]; omega) | (simp only [World.size_alloc, size_drew_]; omega)))
    clear H__13
    have BB_14 := Lib.hid (BB_13.out.trans (hb.mono (by first | omega | (simp only [World.size_alloc]; omega) | (simp only [size_drew_]; omega) | (simp only [World.size_alloc, size_drew_]; omega))))
    clear BB_13
    have s14 := hb.size
    clear hb
    go_wp2_with fail
    refine (heldFrames_m _ _ _ 1 _ _ _ G_14.out.own rfl (by omega) (by omega)).mono ?_
    rintro e w15 ⟨rfl, hb⟩
    have A_15 := Lib.hid (A_14.out.below (hb.mono (by first | omega | (simp only [World.size_alloc]; omega) | (simp only [size_drew_]; omega) | (simp only [World.size_alloc, size_drew_]; omega))))
    clear A_14
    have F_15 := Lib.hid (F_14.out.below (hb.mono (by first | omega | (simp only [World.size_alloc]; omega) | (simp only [size_drew_]; omega) | (simp only [World.size_alloc, size_drew_]; omega))))
    clear F_14
    have R_15 := Lib.hid (R_14.out.below hb (by first | omega | (simp only [World.size_alloc]; omega) | (simp only [size_drew_]; omega) | (simp only [World.size_alloc, size_drew_]; omega)))
    clear R_14
    have X_15 := Lib.hid (X_14.out.below hb (by first | omega | (simp only [World.size_alloc]; omega) | (simp only [size_drew_]; omega) | (simp only [World.size_alloc, size_drew_]; omega)))
    clear X_14
    have G_15 := Lib.hid (G_14.out.below hb (by first | omega | (simp only [World.size_alloc]; omega) | (simp only [size_drew_]; omega) | (simp only [World.size_alloc, size_drew_]; omega)))
    clear G_14
    have H__15 := Lib.hid (H__14.out.below hb (by first | omega | (simp only [World.size_alloc]; omega) | (simp only [size_drew_]; omega) | (simp only [World.size_alloc, size_drew_]; omega)))
    clear H__14
    have BB_15 := Lib.hid (BB_14.out.trans (hb.mono (by first | omega | (simp only [World.size_alloc]; omega) | (simp only [size_drew_]; omega) | (simp only [World.size_alloc, size_drew_]; omega))))
    clear BB_14
    have s15 := hb.size
    clear hb
    go_wp2
    go_ret
    exact ⟨rfl, BB_15.out⟩

theorem plainList : (Rows.fnExactAllFramesRow.laid.all fun x => x.2.handleName?.isNone) = true := by kernel_rfl
noncomputable def world (os : Os) : World := World.laidAll Tryd.prog os Rows.fnExactAllFramesRow.laid
theorem world_shaped (os : Os) : ((world os).forCall (fun _ _ => 0) ⟨#[], #[.slice none 0 0], []⟩).Shaped Tryd.prog := World.shaped_of_ZipB (by kernel_rfl) (by kernel_rfl)
theorem world_laid (os : Os) : laidMetH Tryd.prog Rows.fnExactAllFramesRow.laid ((world os).forCall (fun _ _ => 0) ⟨#[], #[.slice none 0 0], []⟩).memory := by
  rw [MakeChecks.laidMetH_plain _ _ _ plainList]; exact laidMet_laidAll _ (by kernel_rfl) (by kernel_rfl)

set_option maxRecDepth 100000 in
theorem lifted (os : Os) (started : os.Started) (H : Type) (enc : TypeId × Value → H) (F : Stop.Interp) :
    ReturnsInHanded {} Tryd.checked os 7 .any ((OpenSpec.ofChange Rows.fnExactAllFramesSpec).preRow enc Tryd.prog Tryd.f7 Rows.fnExactAllFramesRow.domain false Rows.fnExactAllFramesRow.laid) (((OpenSpec.ofChange Rows.fnExactAllFramesSpec).at F).post enc Tryd.prog Tryd.f7 false true false false) := by
  refine returnsInHanded_of_row (C := Tryd.checked) (s := OpenSpec.ofChange Rows.fnExactAllFramesSpec) own started (by kernel_rfl) Tryd.func7 ?_ ?_
  · obtain ⟨w, tape, i, h1, h2, h3, h4, ⟨⟨h5, h6⟩, h7⟩, h8⟩ := ChangeSpec.witness_shaped (enc := enc) (C := Tryd.checked) (os := os) (f := 7) (fn := Tryd.f7) (s := Rows.fnExactAllFramesSpec) (conds := Rows.fnExactAllFramesRow.domain) (apart := false) (X := fun w _ => laidMetH Tryd.prog Rows.fnExactAllFramesRow.laid w) false (world os) #[.slice none 0 0] 8 (World.laidAll_os _ _ _)
      (world_shaped os) (by kernel_rfl) (by kernel_rfl) (by kernel_rfl) (world_laid os)
    exact ⟨w, tape, i, h1, h2, h3, h4, ⟨⟨h5, h6⟩, h7⟩, h8⟩
  intro W base args ds gs before hval0 hW _ _ _ hL hsh _
  have hval : ∀ (j : Nat) t v, Tryd.f7.params[j]? = some t → args[j]? = some v → Value.okWide Tryd.prog W .any base t v := hval0
  have hW' := hW
  obtain ⟨p, q, hA0, hV, rfl, hfz, hnd⟩ := hW
  have hA : DataW.TrodAll enc Tryd.prog W 0 (fun _ => true) true Tryd.f7.params.toList args.toList ds p := hA0
  rw [Tryd.params7] at hA hval
  obtain ⟨v0, vs0, d0, ds0, p0, q0, hargs, rfl, rfl, h0, r0⟩ := trodAll_cons hA
  obtain ⟨rfl, rfl, rfl⟩ := trodAll_nil r0
  obtain rfl : args = #[v0] := by cases args; simp_all
  have hVb := fun W' (bel : Below W.heap.size W W') => Below.trodVars laidOut bel (by kernel_rfl) hV
  obtain ⟨g1, g2, rfl⟩ := vars_two hV
  obtain ⟨aB, aS, hflt⟩ := flt_of plainList hL
  have lt0 : ∀ x ∈ p0, x.block < W.heap.size := by obtain ⟨m, hm⟩ := h0; exact DataW.trod_lt m _ _ _ hm
  obtain ⟨a0, n0, c0, rfl, xs0, hn0, hb0, hs0⟩ := arg_bytes (hval 0 22 v0 rfl rfl) h0
  clear hA0 hval0
  refine (walk W a0 n0 c0 xs0 hn0 hb0 hs0 aB aS hflt).mono fun e W' ⟨he, bel⟩ => ?_
  subst he
  exact ⟨_, rfl, _, _, _, [], _, _, hW', trodAll_mk1 (shut_bool Tryd.underlying4 _), (trodAll_cons_mk (Below.trod laidOut (by kernel_rfl) (of_decide_eq_true (by kernel_rfl)) h0 bel lt0) trodAll_mk0), hVb W' bel, bel.frame _, fun h => by cases h⟩

theorem said : Rows.FnExactAllFramesSaid :=
  OpenClaim.holds_of_cond 7 Tryd.f7 rfl rfl rfl rfl rfl rfl rfl ⟨rfl, rfl, rfl, rfl, rfl⟩ rfl rfl rfl rfl rfl (by kernel_rfl) Tryd.func7 (by kernel_rfl)
    (of_decide_eq_true (by kernel_rfl)) (by unfold Func.isWrapper; first | (rw [if_pos (by decide +kernel)]; kernel_rfl) | (rw [if_neg (by decide +kernel)]; exact ⟨rfl, rfl⟩))
    (fun os started H enc _ F => by rw [OpenClaim.pre_eq_preRow]; exact lifted os started H enc F)

theorem plain (f : FuncId) (fn : Func) (hf : Tryd.pinned.checked.prog.funcNamed "loop.example/g00728/laws.FnExactAllFrames" = some f) (hfn : Tryd.pinned.checked.prog.funcs[f]? = some fn) :
    true = Tryd.pinned.checked.prog.looks [] ∧ ∀ (j : Nat) t, fn.params[j]? = some t → Tryd.pinned.checked.prog.wantsStandIn t = false := by
  obtain rfl : f = 7 := Option.some.inj ((show Tryd.prog.funcNamed "loop.example/g00728/laws.FnExactAllFrames" = some 7 by kernel_rfl).symm.trans hf) |>.symm
  obtain rfl : fn = Tryd.f7 := (Option.some.inj (Tryd.func7.symm.trans hfn)).symm
  refine ⟨by kernel_rfl, fun j t ht => ?_⟩
  rw [Tryd.params7] at ht
  obtain rfl : t = 22 := by simpa using Array.mem_of_getElem? ht
  exact (show Tryd.prog.wantsStandIn 22 = false by kernel_rfl)

theorem card : Rows.FnExactAllFramesCardSaid :=
  Claim7.holds_tied_plain_at .later [] _ _ _ _ said (fun _ h => by cases h) (by kernel_rfl) (fun _ h => by cases h) fnExactAllFrames_row_tie rfl ⟨rfl, rfl⟩ (by kernel_rfl) rfl plain (by kernel_rfl)
#print axioms card
end Go.Proofs.YtkconbmgljmpfaaDoor.fnExactAllFrames
