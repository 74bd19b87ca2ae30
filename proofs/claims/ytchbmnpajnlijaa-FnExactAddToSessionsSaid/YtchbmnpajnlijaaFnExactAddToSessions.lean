/- impl.AddToSessions answers as spec.AddToSessions at every list of up to 1048576 sessions (beyond, the law says nothing), every frame and every int, in memory of its own, and leaves its arguments as they were. No conditions. -/
import Derived.Test.YtchbmnpajnlijaaRows
import Derived.Test.YtchbmnpajnlijaaOpenSess
import Derived.Test.YtchbmnpajnlijaaOpenFmA
import Derived.Test.YtchbmnpajnlijaaSes5
import Derived.Test.YtchbmnpajnlijaaCal8
import Derived.Test.YtchbmnpajnlijaaLeave
import Derived.Test.YtchbmnpajnlijaaHeld
import Derived.WalkSmall
import Derived.WalkKit
import Derived.ProofKit
import Derived.OpenShut
import Derived.ShutString
import Derived.ChangeOld
import Derived.Below
namespace Go.Proofs.Ytchbmnpajnlijaa.fnExactAddToSessions
open Go.ChangeShapes Go.WideShapes Go.ChangeAt Go.RowKit
set_option linter.unusedVariables false

theorem own : ownKnob Try.prog.godebug = none := by kernel_rfl
theorem laidOut : laidOutB Try.prog = true := by kernel_rfl

theorem szSes_at (a : Option Addr) (n c m : Nat) (w : World) (hn : n ≤ 9223372036854775807) (hm : m ≤ 1048576) :
    Calls Try.prog 26 #[.slice a n c, .int .i64 (m : Int)] w fun e w' => e = .returned (.int .i64 (if (m : Int) - (n : Int) < 0 then -1 else (m : Int) - (n : Int))) ∧ w = w' := by
  by_cases h : (m : Int) - (n : Int) < 0
  · rw [if_pos h]
    go_enter Try.func26, Try.ntmps26
    go_wp2
    go_ret
    exact ⟨rfl, rfl⟩
  · rw [if_neg h]
    go_enter Try.func26, Try.ntmps26
    go_wp2
    go_ret
    exact ⟨rfl, rfl⟩
theorem addTo_len {l : List Ss} {F : Fm} {gap : Int} (h : l.length ≤ 1048576) : (addToZ l F gap).1.length ≤ 1048576 := by
  unfold addToZ
  split
  · rename_i hh
    have := hh.2.2
    show (addZ F.y F.t F.v gap l).length ≤ 1048576
    omega
  · exact h

set_option maxHeartbeats 4000000 in
set_option maxRecDepth 100000 in
theorem walk (w : World) (a : Option Addr) (n c : Nat) (l : List Ss) (hn : n = l.length) (hs : Sss w w.heap.size a c l) (k y t v : Int) (x : Int) (_hx : Is64 x) :
    Calls Try.prog 12 #[.slice a n c, (.agg #[.int .i64 k, .int .i64 y, .int .i64 t, .int .i64 v]), .int .i64 x] w fun e w' => e = .returned (.bool true) ∧ Below w.heap.size w w' := by
  have hc1 := hs.cap
  have hc2 := hs.big
  subst hn
  have HZ := Lib.hid (fun W => szSes_at a l.length c 1048576 W (by omega) (by omega))
  have BB := Lib.hid (Below.refl w.heap.size w)
  by_cases hbig : 1048576 < l.length
  · have hz : (if ((1048576 : Nat) : Int) - (l.length : Int) < 0 then (-1 : Int) else ((1048576 : Nat) : Int) - (l.length : Int)) = -1 := if_pos (by omega)
    rw [hz] at HZ
    clear hz
    go_enter Try.func12, Try.ntmps12
    go_wp2_with fail
    refine (HZ.out _).mono ?_
    rintro e w1 ⟨rfl, rfl⟩
    go_wp2
    go_ret
    exact ⟨rfl, BB.out.alloc (Nat.le_refl _) _⟩
  · obtain ⟨m, hm⟩ : ∃ m : Nat, m = 1048576 - l.length := ⟨_, rfl⟩
    have hz : (if ((1048576 : Nat) : Int) - (l.length : Int) < 0 then (-1 : Int) else ((1048576 : Nat) : Int) - (l.length : Int)) = (m : Int) := by rw [if_neg (by omega)]; omega
    rw [hz] at HZ
    have hm0 : ¬ (m : Int) < 0 := by omega
    have hle : l.length ≤ 1048576 := by omega
    clear hz hm
    have A0 := Lib.hid hs
    have SP := Lib.hid (fun (W : World) a1 c1 (h1 : Sss W W.heap.size a1 c1 l) => specAddTo_any a1 l.length c1 l k y t v x _ W h1 rfl (Nat.le_refl _) hle)
    have IP := Lib.hid (fun (W : World) a1 c1 (h1 : Sss W W.heap.size a1 c1 l) => implAddTo_any a1 l.length c1 l k y t v x _ W h1 rfl (Nat.le_refl _) hle)
    have hL : (addToZ l ⟨k, y, t, v⟩ x).1.length ≤ 1048576 := addTo_len hle
    generalize addToZ l ⟨k, y, t, v⟩ x = R at SP IP hL
    obtain ⟨L, B⟩ := R
    simp only at hL
    have SP : Hid (∀ (W : World) a1 c1, Sss W W.heap.size a1 c1 l → Calls Try.prog 50 #[.slice a1 l.length c1, (.agg #[.int .i64 k, .int .i64 y, .int .i64 t, .int .i64 v]), .int .i64 x] W fun e w' => ∃ aR cR, e = .returned (.tuple #[.slice aR L.length cR, .bool B]) ∧ w'.ownsRow W.heap.size 33 5 (.slice aR L.length cR) L.length (flatZ L) ∧ Below W.heap.size W w') := SP
    have IP : Hid (∀ (W : World) a1 c1, Sss W W.heap.size a1 c1 l → Calls Try.prog 52 #[.slice a1 l.length c1, (.agg #[.int .i64 k, .int .i64 y, .int .i64 t, .int .i64 v]), .int .i64 x] W fun e w' => ∃ aR cR, e = .returned (.tuple #[.slice aR L.length cR, .bool B]) ∧ w'.ownsRow W.heap.size 33 5 (.slice aR L.length cR) L.length (flatZ L) ∧ Below W.heap.size W w') := IP
    have hB : (B != B) = false := by simp
    clear hs
    have A_1 := Lib.hid (A0.out.below (((Below.refl w.heap.size w).alloc (Nat.le_refl _) (.cells #[.int .i64 k, .int .i64 y, .int .i64 t, .int .i64 v] 63)).mono (by first | omega | (simp only [World.size_alloc]; omega) | (simp only [size_drew_]; omega) | (simp only [World.size_alloc, size_drew_]; omega))))
    clear A0
    have BB_1 := Lib.hid (BB.out.alloc (by first | omega | (simp only [World.size_alloc]; omega) | (simp only [size_drew_]; omega) | (simp only [World.size_alloc, size_drew_]; omega)) (.cells #[.int .i64 k, .int .i64 y, .int .i64 t, .int .i64 v] 63))
    clear BB
    have F_1 := Lib.hid (Blk.new w 63 #[.int .i64 k, .int .i64 y, .int .i64 t, .int .i64 v])
    go_enter Try.func12, Try.ntmps12
    go_wp2_with fail
    refine (HZ.out _).mono ?_
    rintro e w' ⟨rfl, rfl⟩
    go_wp2_with fail
    have hFs0 := F_1.out.cell
    have A_3 := Lib.hid (A_1.out.below (((Below.refl (w.alloc (.cells #[.int .i64 k, .int .i64 y, .int .i64 t, .int .i64 v] 63)).heap.size (w.alloc (.cells #[.int .i64 k, .int .i64 y, .int .i64 t, .int .i64 v] 63))).drew).mono (by first | omega | (simp only [World.size_alloc]; omega) | (simp only [size_drew_]; omega) | (simp only [World.size_alloc, size_drew_]; omega))))
    clear A_1
    have F_3 := Lib.hid (F_1.out.drew)
    clear F_1
    have BB_3 := Lib.hid (BB_1.out.drew)
    clear BB_1
    go_region_held3 (fun W => W.cell? ⟨w.heap.size, 0, none⟩ = some (.int .i64 k) ∧ W.cell? ⟨w.heap.size, 1, none⟩ = some (.int .i64 y) ∧ W.cell? ⟨w.heap.size, 2, none⟩ = some (.int .i64 t) ∧ W.cell? ⟨w.heap.size, 3, none⟩ = some (.int .i64 v))
      (first | exact ⟨hFs0 0, hFs0 1, hFs0 2, hFs0 3⟩ | exact ⟨hFs1 0, hFs1 1, hFs1 2, hFs1 3⟩ | exact ⟨hFs2 0, hFs2 1, hFs2 2, hFs2 3⟩ | exact ⟨hFs3 0, hFs3 1, hFs3 2, hFs3 3⟩)
      (first
        | (go_at_call 28; refine (toSessionS_any _ _ _ l _ _ A_3.out rfl (by first | omega | (simp only [World.size_alloc]; omega) | (simp only [size_drew_]; omega) | (simp only [World.size_alloc, size_drew_]; omega)) hle).mono ?_; rintro e w4 ⟨a4, c4, rfl, ho, hb⟩; have A_4 := Lib.hid (A_3.out.below (hb.mono (by first | omega | (simp only [World.size_alloc]; omega) | (simp only [size_drew_]; omega) | (simp only [World.size_alloc, size_drew_]; omega)))); clear A_3; have F_4 := Lib.hid (F_3.out.below hb); clear F_3; have BB_4 := Lib.hid (BB_3.out.trans (hb.mono (by first | omega | (simp only [World.size_alloc]; omega) | (simp only [size_drew_]; omega) | (simp only [World.size_alloc, size_drew_]; omega)))); clear BB_3; have X1_4 := Lib.hid (Rw.new ho); clear ho; have s4 := hb.size; simp only [size_drew_, World.size_alloc] at s4; clear hb; clear hFs0; have hFs1 := F_4.out.cell)
        | (go_at_call 51; refine (toFrame_any k y t v _).mono ?_; rintro e w5 ⟨rfl, hb⟩; have A_5 := Lib.hid (A_4.out.below (hb.mono (by first | omega | (simp only [World.size_alloc]; omega) | (simp only [size_drew_]; omega) | (simp only [World.size_alloc, size_drew_]; omega)))); clear A_4; have F_5 := Lib.hid (F_4.out.below hb); clear F_4; have X1_5 := Lib.hid (X1_4.out.below hb (by first | omega | (simp only [World.size_alloc]; omega) | (simp only [size_drew_]; omega) | (simp only [World.size_alloc, size_drew_]; omega))); clear X1_4; have BB_5 := Lib.hid (BB_4.out.trans (hb.mono (by first | omega | (simp only [World.size_alloc]; omega) | (simp only [size_drew_]; omega) | (simp only [World.size_alloc, size_drew_]; omega)))); clear BB_4; have s5 := hb.size; clear hb; clear hFs1; have hFs2 := F_5.out.cell)
        | (go_at_call 50; refine (SP.out _ _ _ X1_5.out.zs).mono ?_; rintro e w6 ⟨a6, c6, rfl, ho, hb⟩; have A_6 := Lib.hid (A_5.out.below (hb.mono (by first | omega | (simp only [World.size_alloc]; omega) | (simp only [size_drew_]; omega) | (simp only [World.size_alloc, size_drew_]; omega)))); clear A_5; have F_6 := Lib.hid (F_5.out.below hb); clear F_5; have X1_6 := Lib.hid (X1_5.out.below hb (by first | omega | (simp only [World.size_alloc]; omega) | (simp only [size_drew_]; omega) | (simp only [World.size_alloc, size_drew_]; omega))); clear X1_5; have BB_6 := Lib.hid (BB_5.out.trans (hb.mono (by first | omega | (simp only [World.size_alloc]; omega) | (simp only [size_drew_]; omega) | (simp only [World.size_alloc, size_drew_]; omega)))); clear BB_5; have R__6 := Lib.hid (Rw.new ho); clear ho; have s6 := hb.size; clear hb; clear hFs2; have hFs3 := F_6.out.cell))
    clear hFs3
    clear X1_6
    go_wp2_with fail
    refine (toSessionS_any _ _ _ l _ _ A_6.out rfl (by first | omega | (simp only [World.size_alloc]; omega) | (simp only [size_drew_]; omega) | (simp only [World.size_alloc, size_drew_]; omega)) hle).mono ?_
    rintro e w7 ⟨a7, c7, rfl, ho, hb⟩
    have A_7 := Lib.hid (A_6.out.below (hb.mono (by first | omega | (simp only [World.size_alloc]; omega) | (simp only [size_drew_]; omega) | (simp only [World.size_alloc, size_drew_]; omega))))
    clear A_6
    have F_7 := Lib.hid (F_6.out.below hb)
    clear F_6
    have R__7 := Lib.hid (R__6.out.below hb (by first | omega | (simp only [World.size_alloc]; omega) | (simp only [size_drew_]; omega) | (simp only [World.size_alloc, size_drew_]; omega)))
    clear R__6
    have BB_7 := Lib.hid (BB_6.out.trans (hb.mono (by first | omega | (simp only [World.size_alloc]; omega) | (simp only [size_drew_]; omega) | (simp only [World.size_alloc, size_drew_]; omega))))
    clear BB_6
    have X_7 := Lib.hid (Rw.new ho)
    clear ho
    have s7 := hb.size
    clear hb
    have qF_7 := F_7.out.cell
    go_wp2_with fail
    refine (toFrame_any k y t v _).mono ?_
    rintro e w8 ⟨rfl, hb⟩
    clear qF_7
    have A_8 := Lib.hid (A_7.out.below (hb.mono (by first | omega | (simp only [World.size_alloc]; omega) | (simp only [size_drew_]; omega) | (simp only [World.size_alloc, size_drew_]; omega))))
    clear A_7
    have F_8 := Lib.hid (F_7.out.below hb)
    clear F_7
    have R__8 := Lib.hid (R__7.out.below hb (by first | omega | (simp only [World.size_alloc]; omega) | (simp only [size_drew_]; omega) | (simp only [World.size_alloc, size_drew_]; omega)))
    clear R__7
    have X_8 := Lib.hid (X_7.out.below hb (by first | omega | (simp only [World.size_alloc]; omega) | (simp only [size_drew_]; omega) | (simp only [World.size_alloc, size_drew_]; omega)))
    clear X_7
    have BB_8 := Lib.hid (BB_7.out.trans (hb.mono (by first | omega | (simp only [World.size_alloc]; omega) | (simp only [size_drew_]; omega) | (simp only [World.size_alloc, size_drew_]; omega))))
    clear BB_7
    have s8 := hb.size
    clear hb
    go_wp2_with fail
    refine (IP.out _ _ _ X_8.out.zs).mono ?_
    rintro e w9 ⟨a9, c9, rfl, ho, hb⟩
    have A_9 := Lib.hid (A_8.out.below (hb.mono (by first | omega | (simp only [World.size_alloc]; omega) | (simp only [size_drew_]; omega) | (simp only [World.size_alloc, size_drew_]; omega))))
    clear A_8
    have F_9 := Lib.hid (F_8.out.below hb)
    clear F_8
    have R__9 := Lib.hid (R__8.out.below hb (by first | omega | (simp only [World.size_alloc]; omega) | (simp only [size_drew_]; omega) | (simp only [World.size_alloc, size_drew_]; omega)))
    clear R__8
    have X_9 := Lib.hid (X_8.out.below hb (by first | omega | (simp only [World.size_alloc]; omega) | (simp only [size_drew_]; omega) | (simp only [World.size_alloc, size_drew_]; omega)))
    clear X_8
    have BB_9 := Lib.hid (BB_8.out.trans (hb.mono (by first | omega | (simp only [World.size_alloc]; omega) | (simp only [size_drew_]; omega) | (simp only [World.size_alloc, size_drew_]; omega))))
    clear BB_8
    have G_9 := Lib.hid (Rw.new ho)
    clear ho
    have s9 := hb.size
    clear hb
    go_wp2_with fail
    refine (eqSessionS_any _ _ _ _ _ _ L _ _ _ G_9.out.zs R__9.out.zs rfl rfl (Nat.le_refl _) (Nat.le_refl _)).mono ?_
    rintro e w10 ⟨rfl, hb⟩
    have A_10 := Lib.hid (A_9.out.below (hb.mono (by first | omega | (simp only [World.size_alloc]; omega) | (simp only [size_drew_]; omega) | (simp only [World.size_alloc, size_drew_]; omega))))
    clear A_9
    have F_10 := Lib.hid (F_9.out.below hb)
    clear F_9
    have R__10 := Lib.hid (R__9.out.below hb (by first | omega | (simp only [World.size_alloc]; omega) | (simp only [size_drew_]; omega) | (simp only [World.size_alloc, size_drew_]; omega)))
    clear R__9
    have X_10 := Lib.hid (X_9.out.below hb (by first | omega | (simp only [World.size_alloc]; omega) | (simp only [size_drew_]; omega) | (simp only [World.size_alloc, size_drew_]; omega)))
    clear X_9
    have G_10 := Lib.hid (G_9.out.below hb (by first | omega | (simp only [World.size_alloc]; omega) | (simp only [size_drew_]; omega) | (simp only [World.size_alloc, size_drew_]; omega)))
    clear G_9
    have BB_10 := Lib.hid (BB_9.out.trans (hb.mono (by first | omega | (simp only [World.size_alloc]; omega) | (simp only [size_drew_]; omega) | (simp only [World.size_alloc, size_drew_]; omega))))
    clear BB_9
    have s10 := hb.size
    clear hb
    go_wp2_with fail
    refine (toSessionS_any _ _ _ l _ _ A_10.out rfl (by first | omega | (simp only [World.size_alloc]; omega) | (simp only [size_drew_]; omega) | (simp only [World.size_alloc, size_drew_]; omega)) hle).mono ?_
    rintro e w11 ⟨a11, c11, rfl, ho, hb⟩
    have A_11 := Lib.hid (A_10.out.below (hb.mono (by first | omega | (simp only [World.size_alloc]; omega) | (simp only [size_drew_]; omega) | (simp only [World.size_alloc, size_drew_]; omega))))
    clear A_10
    have F_11 := Lib.hid (F_10.out.below hb)
    clear F_10
    have R__11 := Lib.hid (R__10.out.below hb (by first | omega | (simp only [World.size_alloc]; omega) | (simp only [size_drew_]; omega) | (simp only [World.size_alloc, size_drew_]; omega)))
    clear R__10
    have X_11 := Lib.hid (X_10.out.below hb (by first | omega | (simp only [World.size_alloc]; omega) | (simp only [size_drew_]; omega) | (simp only [World.size_alloc, size_drew_]; omega)))
    clear X_10
    have G_11 := Lib.hid (G_10.out.below hb (by first | omega | (simp only [World.size_alloc]; omega) | (simp only [size_drew_]; omega) | (simp only [World.size_alloc, size_drew_]; omega)))
    clear G_10
    have BB_11 := Lib.hid (BB_10.out.trans (hb.mono (by first | omega | (simp only [World.size_alloc]; omega) | (simp only [size_drew_]; omega) | (simp only [World.size_alloc, size_drew_]; omega))))
    clear BB_10
    have Z_11 := Lib.hid (Rw.new ho)
    clear ho
    have s11 := hb.size
    clear hb
    go_wp2_with fail
    refine (eqSessionS_any _ _ _ _ _ _ l _ _ _ X_11.out.zs Z_11.out.zs rfl rfl (Nat.le_refl _) (Nat.le_refl _)).mono ?_
    rintro e w12 ⟨rfl, hb⟩
    have A_12 := Lib.hid (A_11.out.below (hb.mono (by first | omega | (simp only [World.size_alloc]; omega) | (simp only [size_drew_]; omega) | (simp only [World.size_alloc, size_drew_]; omega))))
    clear A_11
    have F_12 := Lib.hid (F_11.out.below hb)
    clear F_11
    have R__12 := Lib.hid (R__11.out.below hb (by first | omega | (simp only [World.size_alloc]; omega) | (simp only [size_drew_]; omega) | (simp only [World.size_alloc, size_drew_]; omega)))
    clear R__11
    have X_12 := Lib.hid (X_11.out.below hb (by first | omega | (simp only [World.size_alloc]; omega) | (simp only [size_drew_]; omega) | (simp only [World.size_alloc, size_drew_]; omega)))
    clear X_11
    have G_12 := Lib.hid (G_11.out.below hb (by first | omega | (simp only [World.size_alloc]; omega) | (simp only [size_drew_]; omega) | (simp only [World.size_alloc, size_drew_]; omega)))
    clear G_11
    have Z_12 := Lib.hid (Z_11.out.below hb (by first | omega | (simp only [World.size_alloc]; omega) | (simp only [size_drew_]; omega) | (simp only [World.size_alloc, size_drew_]; omega)))
    clear Z_11
    have BB_12 := Lib.hid (BB_11.out.trans (hb.mono (by first | omega | (simp only [World.size_alloc]; omega) | (simp only [size_drew_]; omega) | (simp only [World.size_alloc, size_drew_]; omega))))
    clear BB_11
    have s12 := hb.size
    clear hb
    clear Z_12
    go_wp2_with fail
    refine (markSessionS_m _ _ _ 1 _ l _ _ X_12.out.own (by first | rfl | omega) rfl (by first | omega | (simp only [World.size_alloc]; omega) | (simp only [size_drew_]; omega) | (simp only [World.size_alloc, size_drew_]; omega)) (by omega) (by omega)).mono ?_
    rintro e w13 ⟨rfl, hm⟩
    have hb := hm.below
    have X_13 := Lib.hid (Rw.mk hm.own X_12.out.up)
    have A_13 := Lib.hid (A_12.out.below (hb.mono (by first | omega | (simp only [World.size_alloc]; omega) | (simp only [size_drew_]; omega) | (simp only [World.size_alloc, size_drew_]; omega))))
    clear A_12
    have F_13 := Lib.hid (F_12.out.far X_12.out hm.grown (by first | omega | (simp only [World.size_alloc]; omega) | (simp only [size_drew_]; omega) | (simp only [World.size_alloc, size_drew_]; omega)))
    clear F_12
    have R__13 := Lib.hid (R__12.out.other X_12.out hm.grown (by first | omega | (simp only [World.size_alloc]; omega) | (simp only [size_drew_]; omega) | (simp only [World.size_alloc, size_drew_]; omega)))
    clear R__12
    have G_13 := Lib.hid (G_12.out.other X_12.out hm.grown (by first | omega | (simp only [World.size_alloc]; omega) | (simp only [size_drew_]; omega) | (simp only [World.size_alloc, size_drew_]; omega)))
    clear G_12
    have BB_13 := Lib.hid (BB_12.out.trans (hb.mono (by first | omega | (simp only [World.size_alloc]; omega) | (simp only [size_drew_]; omega) | (simp only [World.size_alloc, size_drew_]; omega))))
    clear BB_12
    clear X_12
    have s13 := hb.size
    clear hb hm
    go_wp2_with fail
    refine (eqSessionS_any _ _ _ _ _ _ L _ _ _ G_13.out.zs R__13.out.zs rfl rfl (Nat.le_refl _) (Nat.le_refl _)).mono ?_
    rintro e w14 ⟨rfl, hb⟩
    have A_14 := Lib.hid (A_13.out.below (hb.mono (by first | omega | (simp only [World.size_alloc]; omega) | (simp only [size_drew_]; omega) | (simp only [World.size_alloc, size_drew_]; omega))))
    clear A_13
    have F_14 := Lib.hid (F_13.out.below hb)
    clear F_13
    have R__14 := Lib.hid (R__13.out.below hb (by first | omega | (simp only [World.size_alloc]; omega) | (simp only [size_drew_]; omega) | (simp only [World.size_alloc, size_drew_]; omega)))
    clear R__13
    have X_14 := Lib.hid (X_13.out.below hb (by first | omega | (simp only [World.size_alloc]; omega) | (simp only [size_drew_]; omega) | (simp only [World.size_alloc, size_drew_]; omega)))
    clear X_13
    have G_14 := Lib.hid (G_13.out.below hb (by first | omega | (simp only [World.size_alloc]; omega) | (simp only [size_drew_]; omega) | (simp only [World.size_alloc, size_drew_]; omega)))
    clear G_13
    have BB_14 := Lib.hid (BB_13.out.trans (hb.mono (by first | omega | (simp only [World.size_alloc]; omega) | (simp only [size_drew_]; omega) | (simp only [World.size_alloc, size_drew_]; omega))))
    clear BB_13
    have s14 := hb.size
    clear hb
    go_wp2_with fail
    refine (markSessionS_m _ _ _ 1 _ L _ _ G_14.out.own (by first | rfl | omega) rfl (by first | omega | (simp only [World.size_alloc]; omega) | (simp only [size_drew_]; omega) | (simp only [World.size_alloc, size_drew_]; omega)) (by omega) (by omega)).mono ?_
    rintro e w15 ⟨rfl, hm⟩
    have hb := hm.below
    have G_15 := Lib.hid (Rw.mk hm.own G_14.out.up)
    have A_15 := Lib.hid (A_14.out.below (hb.mono (by first | omega | (simp only [World.size_alloc]; omega) | (simp only [size_drew_]; omega) | (simp only [World.size_alloc, size_drew_]; omega))))
    clear A_14
    have F_15 := Lib.hid (F_14.out.far G_14.out hm.grown (by first | omega | (simp only [World.size_alloc]; omega) | (simp only [size_drew_]; omega) | (simp only [World.size_alloc, size_drew_]; omega)))
    clear F_14
    have R__15 := Lib.hid (R__14.out.other G_14.out hm.grown (by first | omega | (simp only [World.size_alloc]; omega) | (simp only [size_drew_]; omega) | (simp only [World.size_alloc, size_drew_]; omega)))
    clear R__14
    have X_15 := Lib.hid (X_14.out.other G_14.out hm.grown (by first | omega | (simp only [World.size_alloc]; omega) | (simp only [size_drew_]; omega) | (simp only [World.size_alloc, size_drew_]; omega)))
    clear X_14
    have BB_15 := Lib.hid (BB_14.out.trans (hb.mono (by first | omega | (simp only [World.size_alloc]; omega) | (simp only [size_drew_]; omega) | (simp only [World.size_alloc, size_drew_]; omega))))
    clear BB_14
    clear G_14
    have s15 := hb.size
    clear hb hm
    go_wp2_with fail
    refine (heldSessionS_m _ _ _ 1 _ _ _ G_15.out.zs rfl (by omega) (by omega)).mono ?_
    rintro e w16 ⟨rfl, hb⟩
    have A_16 := Lib.hid (A_15.out.below (hb.mono (by first | omega | (simp only [World.size_alloc]; omega) | (simp only [size_drew_]; omega) | (simp only [World.size_alloc, size_drew_]; omega))))
    clear A_15
    have F_16 := Lib.hid (F_15.out.below hb)
    clear F_15
    have R__16 := Lib.hid (R__15.out.below hb (by first | omega | (simp only [World.size_alloc]; omega) | (simp only [size_drew_]; omega) | (simp only [World.size_alloc, size_drew_]; omega)))
    clear R__15
    have X_16 := Lib.hid (X_15.out.below hb (by first | omega | (simp only [World.size_alloc]; omega) | (simp only [size_drew_]; omega) | (simp only [World.size_alloc, size_drew_]; omega)))
    clear X_15
    have G_16 := Lib.hid (G_15.out.below hb (by first | omega | (simp only [World.size_alloc]; omega) | (simp only [size_drew_]; omega) | (simp only [World.size_alloc, size_drew_]; omega)))
    clear G_15
    have BB_16 := Lib.hid (BB_15.out.trans (hb.mono (by first | omega | (simp only [World.size_alloc]; omega) | (simp only [size_drew_]; omega) | (simp only [World.size_alloc, size_drew_]; omega))))
    clear BB_15
    have s16 := hb.size
    clear hb
    go_wp2_with fail
    have hFs0 := F_16.out.cell
    have A_17 := Lib.hid (A_16.out.below (((Below.refl w16.heap.size w16).drew).mono (by first | omega | (simp only [World.size_alloc]; omega) | (simp only [size_drew_]; omega) | (simp only [World.size_alloc, size_drew_]; omega))))
    clear A_16
    have F_17 := Lib.hid (F_16.out.drew)
    clear F_16
    have R__17 := Lib.hid (R__16.out.below ((Below.refl w16.heap.size w16).drew) (by first | omega | (simp only [World.size_alloc]; omega) | (simp only [size_drew_]; omega) | (simp only [World.size_alloc, size_drew_]; omega)))
    clear R__16
    have X_17 := Lib.hid (X_16.out.below ((Below.refl w16.heap.size w16).drew) (by first | omega | (simp only [World.size_alloc]; omega) | (simp only [size_drew_]; omega) | (simp only [World.size_alloc, size_drew_]; omega)))
    clear X_16
    have G_17 := Lib.hid (G_16.out.below ((Below.refl w16.heap.size w16).drew) (by first | omega | (simp only [World.size_alloc]; omega) | (simp only [size_drew_]; omega) | (simp only [World.size_alloc, size_drew_]; omega)))
    clear G_16
    have BB_17 := Lib.hid (BB_16.out.drew)
    clear BB_16
    go_region_held3 (fun W => W.cell? ⟨w.heap.size, 0, none⟩ = some (.int .i64 k) ∧ W.cell? ⟨w.heap.size, 1, none⟩ = some (.int .i64 y) ∧ W.cell? ⟨w.heap.size, 2, none⟩ = some (.int .i64 t) ∧ W.cell? ⟨w.heap.size, 3, none⟩ = some (.int .i64 v))
      (first | exact ⟨hFs0 0, hFs0 1, hFs0 2, hFs0 3⟩ | exact ⟨hFs1 0, hFs1 1, hFs1 2, hFs1 3⟩ | exact ⟨hFs2 0, hFs2 1, hFs2 2, hFs2 3⟩ | exact ⟨hFs3 0, hFs3 1, hFs3 2, hFs3 3⟩)
      (first
        | (go_at_call 28; refine (toSessionS_any _ _ _ l _ _ A_17.out rfl (by first | omega | (simp only [World.size_alloc]; omega) | (simp only [size_drew_]; omega) | (simp only [World.size_alloc, size_drew_]; omega)) hle).mono ?_; rintro e w18 ⟨a18, c18, rfl, ho, hb⟩; have A_18 := Lib.hid (A_17.out.below (hb.mono (by first | omega | (simp only [World.size_alloc]; omega) | (simp only [size_drew_]; omega) | (simp only [World.size_alloc, size_drew_]; omega)))); clear A_17; have F_18 := Lib.hid (F_17.out.below hb); clear F_17; have R__18 := Lib.hid (R__17.out.below hb (by first | omega | (simp only [World.size_alloc]; omega) | (simp only [size_drew_]; omega) | (simp only [World.size_alloc, size_drew_]; omega))); clear R__17; have X_18 := Lib.hid (X_17.out.below hb (by first | omega | (simp only [World.size_alloc]; omega) | (simp only [size_drew_]; omega) | (simp only [World.size_alloc, size_drew_]; omega))); clear X_17; have G_18 := Lib.hid (G_17.out.below hb (by first | omega | (simp only [World.size_alloc]; omega) | (simp only [size_drew_]; omega) | (simp only [World.size_alloc, size_drew_]; omega))); clear G_17; have BB_18 := Lib.hid (BB_17.out.trans (hb.mono (by first | omega | (simp only [World.size_alloc]; omega) | (simp only [size_drew_]; omega) | (simp only [World.size_alloc, size_drew_]; omega)))); clear BB_17; have X2_18 := Lib.hid (Rw.new ho); clear ho; have s18 := hb.size; simp only [size_drew_] at s18; clear hb; clear hFs0; have hFs1 := F_18.out.cell)
        | (go_at_call 51; refine (toFrame_any k y t v _).mono ?_; rintro e w19 ⟨rfl, hb⟩; have A_19 := Lib.hid (A_18.out.below (hb.mono (by first | omega | (simp only [World.size_alloc]; omega) | (simp only [size_drew_]; omega) | (simp only [World.size_alloc, size_drew_]; omega)))); clear A_18; have F_19 := Lib.hid (F_18.out.below hb); clear F_18; have R__19 := Lib.hid (R__18.out.below hb (by first | omega | (simp only [World.size_alloc]; omega) | (simp only [size_drew_]; omega) | (simp only [World.size_alloc, size_drew_]; omega))); clear R__18; have X_19 := Lib.hid (X_18.out.below hb (by first | omega | (simp only [World.size_alloc]; omega) | (simp only [size_drew_]; omega) | (simp only [World.size_alloc, size_drew_]; omega))); clear X_18; have G_19 := Lib.hid (G_18.out.below hb (by first | omega | (simp only [World.size_alloc]; omega) | (simp only [size_drew_]; omega) | (simp only [World.size_alloc, size_drew_]; omega))); clear G_18; have X2_19 := Lib.hid (X2_18.out.below hb (by first | omega | (simp only [World.size_alloc]; omega) | (simp only [size_drew_]; omega) | (simp only [World.size_alloc, size_drew_]; omega))); clear X2_18; have BB_19 := Lib.hid (BB_18.out.trans (hb.mono (by first | omega | (simp only [World.size_alloc]; omega) | (simp only [size_drew_]; omega) | (simp only [World.size_alloc, size_drew_]; omega)))); clear BB_18; have s19 := hb.size; clear hb; clear hFs1; have hFs2 := F_19.out.cell)
        | (go_at_call 52; refine (IP.out _ _ _ X2_19.out.zs).mono ?_; rintro e w20 ⟨a20, c20, rfl, ho, hb⟩; have A_20 := Lib.hid (A_19.out.below (hb.mono (by first | omega | (simp only [World.size_alloc]; omega) | (simp only [size_drew_]; omega) | (simp only [World.size_alloc, size_drew_]; omega)))); clear A_19; have F_20 := Lib.hid (F_19.out.below hb); clear F_19; have R__20 := Lib.hid (R__19.out.below hb (by first | omega | (simp only [World.size_alloc]; omega) | (simp only [size_drew_]; omega) | (simp only [World.size_alloc, size_drew_]; omega))); clear R__19; have X_20 := Lib.hid (X_19.out.below hb (by first | omega | (simp only [World.size_alloc]; omega) | (simp only [size_drew_]; omega) | (simp only [World.size_alloc, size_drew_]; omega))); clear X_19; have G_20 := Lib.hid (G_19.out.below hb (by first | omega | (simp only [World.size_alloc]; omega) | (simp only [size_drew_]; omega) | (simp only [World.size_alloc, size_drew_]; omega))); clear G_19; have X2_20 := Lib.hid (X2_19.out.below hb (by first | omega | (simp only [World.size_alloc]; omega) | (simp only [size_drew_]; omega) | (simp only [World.size_alloc, size_drew_]; omega))); clear X2_19; have BB_20 := Lib.hid (BB_19.out.trans (hb.mono (by first | omega | (simp only [World.size_alloc]; omega) | (simp only [size_drew_]; omega) | (simp only [World.size_alloc, size_drew_]; omega)))); clear BB_19; have H__20 := Lib.hid (Rw.new ho); clear ho; have s20 := hb.size; clear hb; clear hFs2; have hFs3 := F_20.out.cell))
    clear hFs3
    clear X2_20
    go_wp2_with fail
    refine (eqSessionS_any _ _ _ _ _ _ L _ _ _ H__20.out.zs R__20.out.zs rfl rfl (Nat.le_refl _) (Nat.le_refl _)).mono ?_
    rintro e w21 ⟨rfl, hb⟩
    have A_21 := Lib.hid (A_20.out.below (hb.mono (by first | omega | (simp only [World.size_alloc]; omega) | (simp only [size_drew_]; omega) | (simp only [World.size_alloc, size_drew_]; omega))))
    clear A_20
    have F_21 := Lib.hid (F_20.out.below hb)
    clear F_20
    have R__21 := Lib.hid (R__20.out.below hb (by first | omega | (simp only [World.size_alloc]; omega) | (simp only [size_drew_]; omega) | (simp only [World.size_alloc, size_drew_]; omega)))
    clear R__20
    have X_21 := Lib.hid (X_20.out.below hb (by first | omega | (simp only [World.size_alloc]; omega) | (simp only [size_drew_]; omega) | (simp only [World.size_alloc, size_drew_]; omega)))
    clear X_20
    have G_21 := Lib.hid (G_20.out.below hb (by first | omega | (simp only [World.size_alloc]; omega) | (simp only [size_drew_]; omega) | (simp only [World.size_alloc, size_drew_]; omega)))
    clear G_20
    have H__21 := Lib.hid (H__20.out.below hb (by first | omega | (simp only [World.size_alloc]; omega) | (simp only [size_drew_]; omega) | (simp only [World.size_alloc, size_drew_]; omega)))
    clear H__20
    have BB_21 := Lib.hid (BB_20.out.trans (hb.mono (by first | omega | (simp only [World.size_alloc]; omega) | (simp only [size_drew_]; omega) | (simp only [World.size_alloc, size_drew_]; omega))))
    clear BB_20
    have s21 := hb.size
    clear hb
    go_wp2_with fail
    refine (heldSessionS_m _ _ _ 1 _ _ _ G_21.out.zs rfl (by omega) (by omega)).mono ?_
    rintro e w22 ⟨rfl, hb⟩
    have A_22 := Lib.hid (A_21.out.below (hb.mono (by first | omega | (simp only [World.size_alloc]; omega) | (simp only [size_drew_]; omega) | (simp only [World.size_alloc, size_drew_]; omega))))
    clear A_21
    have F_22 := Lib.hid (F_21.out.below hb)
    clear F_21
    have R__22 := Lib.hid (R__21.out.below hb (by first | omega | (simp only [World.size_alloc]; omega) | (simp only [size_drew_]; omega) | (simp only [World.size_alloc, size_drew_]; omega)))
    clear R__21
    have X_22 := Lib.hid (X_21.out.below hb (by first | omega | (simp only [World.size_alloc]; omega) | (simp only [size_drew_]; omega) | (simp only [World.size_alloc, size_drew_]; omega)))
    clear X_21
    have G_22 := Lib.hid (G_21.out.below hb (by first | omega | (simp only [World.size_alloc]; omega) | (simp only [size_drew_]; omega) | (simp only [World.size_alloc, size_drew_]; omega)))
    clear G_21
    have H__22 := Lib.hid (H__21.out.below hb (by first | omega | (simp only [World.size_alloc]; omega) | (simp only [size_drew_]; omega) | (simp only [World.size_alloc, size_drew_]; omega)))
    clear H__21
    have BB_22 := Lib.hid (BB_21.out.trans (hb.mono (by first | omega | (simp only [World.size_alloc]; omega) | (simp only [size_drew_]; omega) | (simp only [World.size_alloc, size_drew_]; omega))))
    clear BB_21
    have s22 := hb.size
    clear hb
    go_wp2
    go_ret
    exact ⟨rfl, BB_22.out⟩

set_option maxRecDepth 100000 in
theorem lifted (os : Os) (started : os.Started) (H : Type) (enc : TypeId × Value → H) :
    ReturnsInHanded {} Try.checked os 12 .any (Rows.fnExactAddToSessionsSpec.pre6 enc Try.prog Try.f12 Rows.fnExactAddToSessionsRow.domain false) (Rows.fnExactAddToSessionsSpec.post enc Try.prog Try.f12 false true false false) := by
  refine returnsInHanded_of_change (C := Try.checked) own started (by kernel_rfl) Try.func12
    (ChangeSpec.witness6 (enc := enc) (C := Try.checked) false ⟨#[], #[.slice none 0 0, (.agg #[.int .i64 0, .int .i64 0, .int .i64 0, .int .i64 0]), .int .i64 0], []⟩ 8 (by kernel_rfl) (by kernel_rfl) (by kernel_rfl) (by kernel_rfl)) ?_
  intro W base args ds gs before hval0 hW hcnd _
  have hval : ∀ (j : Nat) t v, Try.f12.params[j]? = some t → args[j]? = some v → Value.okWide Try.prog W .any base t v := hval0
  have hW' := hW
  obtain ⟨p, q, hA0, hV, rfl, hfz, hnd⟩ := hW
  have hA : DataW.TrodAll enc Try.prog W 0 (fun _ => true) true Try.f12.params.toList args.toList ds p := hA0
  rw [Try.params12] at hA hval
  obtain ⟨v0, vs0, d0, ds0, p0, q0, hargs, rfl, rfl, h0, r0⟩ := trodAll_cons hA
  obtain ⟨v1, vs1, d1, ds1, p1, q1, rfl, rfl, rfl, h1, r1⟩ := trodAll_cons r0
  obtain ⟨v2, vs2, d2, ds2, p2, q2, rfl, rfl, rfl, h2, r2⟩ := trodAll_cons r1
  obtain ⟨rfl, rfl, rfl⟩ := trodAll_nil r2
  obtain rfl : args = #[v0, v1, v2] := by cases args; simp_all
  obtain ⟨rfl, rfl⟩ := trodVars_none hV
  have lt0 : ∀ x ∈ p0, x.block < W.heap.size := by obtain ⟨m, hm⟩ := h0; exact DataW.trod_lt m _ _ _ hm
  obtain ⟨a0, n0, c0, rfl, l0, hn0, hs0⟩ := arg_sess (hval 0 36 v0 rfl rfl) h0
  have lt1 : ∀ x ∈ p1, x.block < W.heap.size := by obtain ⟨m, hm⟩ := h1; exact DataW.trod_lt m _ _ _ hm
  obtain ⟨k1, y1, t1, u1, rfl⟩ := arg_frame (hval 1 63 v1 rfl rfl) h1
  have lt2 : ∀ x ∈ p2, x.block < W.heap.size := by obtain ⟨m, hm⟩ := h2; exact DataW.trod_lt m _ _ _ hm
  obtain ⟨x2, rfl, hx2⟩ := arg_int (hval 2 3 v2 rfl rfl) h2
  clear hA0 hval0
  refine (walk W a0 n0 c0 l0 hn0 hs0 k1 y1 t1 u1 x2 hx2).mono fun e W' ⟨he, bel⟩ => ?_
  subst he
  exact ⟨_, rfl, _, _, _, [], _, [], hW', trodAll_mk1 (shut_bool Try.underlying4 _), (trodAll_cons_mk (Below.trod laidOut (by kernel_rfl) (of_decide_eq_true (by kernel_rfl)) h0 bel lt0) (trodAll_cons_mk (Below.trod laidOut (by kernel_rfl) (of_decide_eq_true (by kernel_rfl)) h1 bel lt1) (trodAll_cons_mk (Below.trod laidOut (by kernel_rfl) (of_decide_eq_true (by kernel_rfl)) h2 bel lt2) trodAll_mk0))), rfl, bel.frame _, fun h => by cases h⟩

theorem over : Rows.fnExactAddToSessionsRow.holds Try.pinned (OpenSpec.ofChange Rows.fnExactAddToSessionsSpec) :=
  OpenClaim.holds_of_wide_leaving 12 Try.f12 rfl rfl rfl rfl rfl rfl rfl ⟨rfl, rfl, rfl, rfl, rfl⟩ rfl rfl rfl rfl rfl (by kernel_rfl) Try.func12 (by kernel_rfl)
    (of_decide_eq_true (by kernel_rfl)) (by unfold Func.isWrapper; first | (rw [if_pos (by decide +kernel)]; kernel_rfl) | (rw [if_neg (by decide +kernel)]; exact ⟨rfl, rfl⟩))
    (fun os started H enc _ => leaving_of_handed (lifted os started H enc))

theorem proved : Rows.FnExactAddToSessionsSaid := over
#print axioms proved
end Go.Proofs.Ytchbmnpajnlijaa.fnExactAddToSessions
