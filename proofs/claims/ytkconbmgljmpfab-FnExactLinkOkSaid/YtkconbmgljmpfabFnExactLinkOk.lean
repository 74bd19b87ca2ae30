/- impl.LinkOk answers as spec.LinkOk at every ring of up to 1048576 slots (beyond, the law says nothing) and every credit, and leaves both as they were. No conditions. -/
import Derived.Test.YtkconbmgljmpfabRows
import Derived.Test.YtkconbmgljmpfabOpenRing
import Derived.Test.YtkconbmgljmpfabRing3
import Derived.Test.YtkconbmgljmpfabCred
import Derived.Test.YtkconbmgljmpfabHeld
import Derived.WalkSmall
import Derived.WalkKit
import Derived.ProofKit
import Derived.OpenShut
import Derived.ShutString
import Derived.ChangeOld
import Derived.Below
namespace Go.Proofs.Ytkconbmgljmpfab.fnExactLinkOk
open Go.ChangeShapes Go.WideShapes Go.ChangeAt Go.RowKit
set_option linter.unusedVariables false

theorem own : ownKnob Try.prog.godebug = none := by kernel_rfl
theorem laidOut : laidOutB Try.prog = true := by kernel_rfl


set_option maxHeartbeats 4000000 in
set_option maxRecDepth 100000 in
theorem walk (w : World) (a : Option Addr) (n c : Nat) (hd ct : Int) (xs : List Int) (hn : n = xs.length) (hh : Is64 hd) (hc : Is64 ct) (hs : Nums .i64 w w.heap.size a c xs) (h o : Int) :
    Calls Try.prog 5 #[.agg #[.slice a n c, .int .i64 hd, .int .i64 ct], (.agg #[.int .i64 h, .int .i64 o])] w fun e w' => e = .returned (.bool true) ∧ Below w.heap.size w w' := by
  have hc1 := hs.cap
  have hc2 := hs.big
  subst hn
  have HZ := Lib.hid (fun W => szRing_any a xs.length c hd ct W (by omega))
  have BB := Lib.hid (Below.refl w.heap.size w)
  by_cases hbig : 1048576 < xs.length
  · rw [if_pos (by omega)] at HZ
    go_enter Try.func5, Try.ntmps5
    go_wp2_with fail
    refine (HZ.out _).mono ?_
    rintro e w1 ⟨rfl, hb⟩
    have B1 := Lib.hid (((BB.out.alloc (Nat.le_refl _) _).alloc (by simp) _).trans (hb.mono (by simp <;> omega)))
    clear hb
    go_wp2
    go_ret
    exact ⟨rfl, B1.out⟩
  · have hle : xs.length ≤ 1048576 := by omega
    rw [if_neg (by omega)] at HZ
    have A0 := Lib.hid hs
    have SP := Lib.hid (fun W a1 c1 h1 => specLink_any a1 xs.length c1 hd ct h o xs _ W h1 rfl (Nat.le_refl _) hle)
    have IP := Lib.hid (fun W a1 c1 h1 => implLink_any a1 xs.length c1 hd ct h o xs _ W h1 rfl (Nat.le_refl _) hle)
    generalize lOk xs hd ct h o = K at SP IP
    have hK : (K != K) = false := by simp
    clear hs hh hc
    have A_1 := Lib.hid (A0.out.below (((Below.refl w.heap.size w).alloc (Nat.le_refl _) (.cells #[.slice a xs.length c, .int .i64 hd, .int .i64 ct] 32)).mono (by first | omega | (simp only [World.size_alloc]; omega) | (simp only [size_drew_]; omega) | (simp only [World.size_alloc, size_drew_]; omega))))
    clear A0
    have BB_1 := Lib.hid (BB.out.alloc (by first | omega | (simp only [World.size_alloc]; omega) | (simp only [size_drew_]; omega) | (simp only [World.size_alloc, size_drew_]; omega)) (.cells #[.slice a xs.length c, .int .i64 hd, .int .i64 ct] 32))
    clear BB
    have R_1 := Lib.hid (Blk.new w 32 #[.slice a xs.length c, .int .i64 hd, .int .i64 ct])
    have A_2 := Lib.hid (A_1.out.below (((Below.refl (w.alloc (.cells #[.slice a xs.length c, .int .i64 hd, .int .i64 ct] 32)).heap.size (w.alloc (.cells #[.slice a xs.length c, .int .i64 hd, .int .i64 ct] 32))).alloc (Nat.le_refl _) (.cells #[.int .i64 h, .int .i64 o] 23)).mono (by first | omega | (simp only [World.size_alloc]; omega) | (simp only [size_drew_]; omega) | (simp only [World.size_alloc, size_drew_]; omega))))
    clear A_1
    have R_2 := Lib.hid (R_1.out.alloc (.cells #[.int .i64 h, .int .i64 o] 23))
    clear R_1
    have BB_2 := Lib.hid (BB_1.out.alloc (by first | omega | (simp only [World.size_alloc]; omega) | (simp only [size_drew_]; omega) | (simp only [World.size_alloc, size_drew_]; omega)) (.cells #[.int .i64 h, .int .i64 o] 23))
    clear BB_1
    have C_2 : Hid (Blk ((w.alloc (.cells #[.slice a xs.length c, .int .i64 hd, .int .i64 ct] 32)).alloc (.cells #[.int .i64 h, .int .i64 o] 23)) (w.heap.size + 1) 23 #[.int .i64 h, .int .i64 o]) := by
      have hh := Blk.new (w.alloc (.cells #[.slice a xs.length c, .int .i64 hd, .int .i64 ct] 32)) 23 #[.int .i64 h, .int .i64 o]
      simp only [World.size_alloc] at hh
      exact hh
    go_enter Try.func5, Try.ntmps5
    go_wp2_with fail
    refine (HZ.out _).mono ?_
    rintro e w3 ⟨rfl, hb⟩
    have A_3 := Lib.hid (A_2.out.below (hb.mono (by first | omega | (simp only [World.size_alloc]; omega) | (simp only [size_drew_]; omega) | (simp only [World.size_alloc, size_drew_]; omega))))
    clear A_2
    have R_3 := Lib.hid (R_2.out.below hb)
    clear R_2
    have C_3 := Lib.hid (C_2.out.below hb)
    clear C_2
    have BB_3 := Lib.hid (BB_2.out.trans (hb.mono (by first | omega | (simp only [World.size_alloc]; omega) | (simp only [size_drew_]; omega) | (simp only [World.size_alloc, size_drew_]; omega))))
    clear BB_2
    have s3 := hb.size
    simp only [World.size_alloc] at s3
    clear hb
    go_wp2_with fail
    have hRs0 := R_3.out.cell
    have hCs0 := C_3.out.cell
    have A_4 := Lib.hid (A_3.out.below (((Below.refl w3.heap.size w3).drew).mono (by first | omega | (simp only [World.size_alloc]; omega) | (simp only [size_drew_]; omega) | (simp only [World.size_alloc, size_drew_]; omega))))
    clear A_3
    have R_4 := Lib.hid (R_3.out.drew)
    clear R_3
    have C_4 := Lib.hid (C_3.out.drew)
    clear C_3
    have BB_4 := Lib.hid (BB_3.out.drew)
    clear BB_3
    go_region_held3 (fun W => W.cell? ⟨w.heap.size, 0, none⟩ = some (.slice a xs.length c) ∧ W.cell? ⟨w.heap.size, 1, none⟩ = some (.int .i64 hd) ∧ W.cell? ⟨w.heap.size, 2, none⟩ = some (.int .i64 ct) ∧ W.cell? ⟨w.heap.size + 1, 0, none⟩ = some (.int .i64 h) ∧ W.cell? ⟨w.heap.size + 1, 1, none⟩ = some (.int .i64 o))
      (first | exact ⟨hRs0 0, hRs0 1, hRs0 2, hCs0 0, hCs0 1⟩ | exact ⟨hRs1 0, hRs1 1, hRs1 2, hCs1 0, hCs1 1⟩ | exact ⟨hRs2 0, hRs2 1, hRs2 2, hCs2 0, hCs2 1⟩ | exact ⟨hRs3 0, hRs3 1, hRs3 2, hCs3 0, hCs3 1⟩)
      (first
        | (go_at_call 15; refine (toRing_any a _ c hd ct xs _ _ A_4.out rfl (by first | omega | (simp only [World.size_alloc]; omega) | (simp only [size_drew_]; omega) | (simp only [World.size_alloc, size_drew_]; omega)) hle).mono ?_; rintro e w5 ⟨a5, c5, rfl, ho, hb⟩; have A_5 := Lib.hid (A_4.out.below (hb.mono (by first | omega | (simp only [World.size_alloc]; omega) | (simp only [size_drew_]; omega) | (simp only [World.size_alloc, size_drew_]; omega)))); clear A_4; have R_5 := Lib.hid (R_4.out.below hb); clear R_4; have C_5 := Lib.hid (C_4.out.below hb); clear C_4; have BB_5 := Lib.hid (BB_4.out.trans (hb.mono (by first | omega | (simp only [World.size_alloc]; omega) | (simp only [size_drew_]; omega) | (simp only [World.size_alloc, size_drew_]; omega)))); clear BB_4; have X1_5 := Lib.hid (Rw.new ho); clear ho; have s5 := hb.size; simp only [size_drew_] at s5; clear hb; clear hRs0 hCs0; have hRs1 := R_5.out.cell; have hCs1 := C_5.out.cell)
        | (go_at_call 8; refine (toCredit_any h o _).mono ?_; rintro e w6 ⟨rfl, hb⟩; have A_6 := Lib.hid (A_5.out.below (hb.mono (by first | omega | (simp only [World.size_alloc]; omega) | (simp only [size_drew_]; omega) | (simp only [World.size_alloc, size_drew_]; omega)))); clear A_5; have R_6 := Lib.hid (R_5.out.below hb); clear R_5; have C_6 := Lib.hid (C_5.out.below hb); clear C_5; have X1_6 := Lib.hid (X1_5.out.below hb (by first | omega | (simp only [World.size_alloc]; omega) | (simp only [size_drew_]; omega) | (simp only [World.size_alloc, size_drew_]; omega))); clear X1_5; have BB_6 := Lib.hid (BB_5.out.trans (hb.mono (by first | omega | (simp only [World.size_alloc]; omega) | (simp only [size_drew_]; omega) | (simp only [World.size_alloc, size_drew_]; omega)))); clear BB_5; have s6 := hb.size; clear hb; clear hRs1 hCs1; have hRs2 := R_6.out.cell; have hCs2 := C_6.out.cell)
        | (go_at_call 14; refine (SP.out _ _ _ X1_6.out.nums).mono ?_; rintro e w7 ⟨rfl, hb⟩; have A_7 := Lib.hid (A_6.out.below (hb.mono (by first | omega | (simp only [World.size_alloc]; omega) | (simp only [size_drew_]; omega) | (simp only [World.size_alloc, size_drew_]; omega)))); clear A_6; have R_7 := Lib.hid (R_6.out.below hb); clear R_6; have C_7 := Lib.hid (C_6.out.below hb); clear C_6; have X1_7 := Lib.hid (X1_6.out.below hb (by first | omega | (simp only [World.size_alloc]; omega) | (simp only [size_drew_]; omega) | (simp only [World.size_alloc, size_drew_]; omega))); clear X1_6; have BB_7 := Lib.hid (BB_6.out.trans (hb.mono (by first | omega | (simp only [World.size_alloc]; omega) | (simp only [size_drew_]; omega) | (simp only [World.size_alloc, size_drew_]; omega)))); clear BB_6; have s7 := hb.size; clear hb; clear hRs2 hCs2; have hRs3 := R_7.out.cell; have hCs3 := C_7.out.cell))
    clear hRs3 hCs3
    clear X1_7
    have qR_7 := R_7.out.cell
    go_wp2_with fail
    refine (toRing_any a _ c hd ct xs _ _ A_7.out rfl (by first | omega | (simp only [World.size_alloc]; omega) | (simp only [size_drew_]; omega) | (simp only [World.size_alloc, size_drew_]; omega)) hle).mono ?_
    rintro e w8 ⟨a8, c8, rfl, ho, hb⟩
    clear qR_7
    have A_8 := Lib.hid (A_7.out.below (hb.mono (by first | omega | (simp only [World.size_alloc]; omega) | (simp only [size_drew_]; omega) | (simp only [World.size_alloc, size_drew_]; omega))))
    clear A_7
    have R_8 := Lib.hid (R_7.out.below hb)
    clear R_7
    have C_8 := Lib.hid (C_7.out.below hb)
    clear C_7
    have BB_8 := Lib.hid (BB_7.out.trans (hb.mono (by first | omega | (simp only [World.size_alloc]; omega) | (simp only [size_drew_]; omega) | (simp only [World.size_alloc, size_drew_]; omega))))
    clear BB_7
    have X_8 := Lib.hid (Rw.new ho)
    clear ho
    have s8 := hb.size
    clear hb
    have A_9 := Lib.hid (A_8.out.below (((Below.refl w8.heap.size w8).alloc (Nat.le_refl _) (.cells #[.slice a8 xs.length c8, .int .i64 hd, .int .i64 ct] 35)).mono (by first | omega | (simp only [World.size_alloc]; omega) | (simp only [size_drew_]; omega) | (simp only [World.size_alloc, size_drew_]; omega))))
    clear A_8
    have R_9 := Lib.hid (R_8.out.alloc (.cells #[.slice a8 xs.length c8, .int .i64 hd, .int .i64 ct] 35))
    clear R_8
    have C_9 := Lib.hid (C_8.out.alloc (.cells #[.slice a8 xs.length c8, .int .i64 hd, .int .i64 ct] 35))
    clear C_8
    have X_9 := Lib.hid (X_8.out.below ((Below.refl w8.heap.size w8).alloc (Nat.le_refl _) (.cells #[.slice a8 xs.length c8, .int .i64 hd, .int .i64 ct] 35)) (by first | omega | (simp only [World.size_alloc]; omega) | (simp only [size_drew_]; omega) | (simp only [World.size_alloc, size_drew_]; omega)))
    clear X_8
    have BB_9 := Lib.hid (BB_8.out.alloc (by first | omega | (simp only [World.size_alloc]; omega) | (simp only [size_drew_]; omega) | (simp only [World.size_alloc, size_drew_]; omega)) (.cells #[.slice a8 xs.length c8, .int .i64 hd, .int .i64 ct] 35))
    clear BB_8
    have OX_9 := Lib.hid (Blk.new w8 35 #[.slice a8 xs.length c8, .int .i64 hd, .int .i64 ct])
    go_wp2_with fail
    have hOXs0 := OX_9.out.cell
    have hCs0 := C_9.out.cell
    have A_10 := Lib.hid (A_9.out.below (((Below.refl (w8.alloc (.cells #[.slice a8 xs.length c8, .int .i64 hd, .int .i64 ct] 35)).heap.size (w8.alloc (.cells #[.slice a8 xs.length c8, .int .i64 hd, .int .i64 ct] 35))).drew).mono (by first | omega | (simp only [World.size_alloc]; omega) | (simp only [size_drew_]; omega) | (simp only [World.size_alloc, size_drew_]; omega))))
    clear A_9
    have R_10 := Lib.hid (R_9.out.drew)
    clear R_9
    have C_10 := Lib.hid (C_9.out.drew)
    clear C_9
    have X_10 := Lib.hid (X_9.out.below ((Below.refl (w8.alloc (.cells #[.slice a8 xs.length c8, .int .i64 hd, .int .i64 ct] 35)).heap.size (w8.alloc (.cells #[.slice a8 xs.length c8, .int .i64 hd, .int .i64 ct] 35))).drew) (by first | omega | (simp only [World.size_alloc]; omega) | (simp only [size_drew_]; omega) | (simp only [World.size_alloc, size_drew_]; omega)))
    clear X_9
    have OX_10 := Lib.hid (OX_9.out.drew)
    clear OX_9
    have BB_10 := Lib.hid (BB_9.out.drew)
    clear BB_9
    go_region_held3 (fun W => W.cell? ⟨w8.heap.size, 0, none⟩ = some (.slice a8 xs.length c8) ∧ W.cell? ⟨w8.heap.size, 1, none⟩ = some (.int .i64 hd) ∧ W.cell? ⟨w8.heap.size, 2, none⟩ = some (.int .i64 ct) ∧ W.cell? ⟨w.heap.size + 1, 0, none⟩ = some (.int .i64 h) ∧ W.cell? ⟨w.heap.size + 1, 1, none⟩ = some (.int .i64 o))
      (first | exact ⟨hOXs0 0, hOXs0 1, hOXs0 2, hCs0 0, hCs0 1⟩ | exact ⟨hOXs1 0, hOXs1 1, hOXs1 2, hCs1 0, hCs1 1⟩ | exact ⟨hOXs2 0, hOXs2 1, hOXs2 2, hCs2 0, hCs2 1⟩)
      (first
        | (go_at_call 8; refine (toCredit_any h o _).mono ?_; rintro e w11 ⟨rfl, hb⟩; have A_11 := Lib.hid (A_10.out.below (hb.mono (by first | omega | (simp only [World.size_alloc]; omega) | (simp only [size_drew_]; omega) | (simp only [World.size_alloc, size_drew_]; omega)))); clear A_10; have R_11 := Lib.hid (R_10.out.below hb); clear R_10; have C_11 := Lib.hid (C_10.out.below hb); clear C_10; have X_11 := Lib.hid (X_10.out.below hb (by first | omega | (simp only [World.size_alloc]; omega) | (simp only [size_drew_]; omega) | (simp only [World.size_alloc, size_drew_]; omega))); clear X_10; have OX_11 := Lib.hid (OX_10.out.below hb); clear OX_10; have BB_11 := Lib.hid (BB_10.out.trans (hb.mono (by first | omega | (simp only [World.size_alloc]; omega) | (simp only [size_drew_]; omega) | (simp only [World.size_alloc, size_drew_]; omega)))); clear BB_10; have s11 := hb.size; simp only [size_drew_, World.size_alloc] at s11; clear hb; clear hOXs0 hCs0; have hOXs1 := OX_11.out.cell; have hCs1 := C_11.out.cell)
        | (go_at_call 16; refine (IP.out _ _ _ X_11.out.nums).mono ?_; rintro e w12 ⟨rfl, hb⟩; have A_12 := Lib.hid (A_11.out.below (hb.mono (by first | omega | (simp only [World.size_alloc]; omega) | (simp only [size_drew_]; omega) | (simp only [World.size_alloc, size_drew_]; omega)))); clear A_11; have R_12 := Lib.hid (R_11.out.below hb); clear R_11; have C_12 := Lib.hid (C_11.out.below hb); clear C_11; have X_12 := Lib.hid (X_11.out.below hb (by first | omega | (simp only [World.size_alloc]; omega) | (simp only [size_drew_]; omega) | (simp only [World.size_alloc, size_drew_]; omega))); clear X_11; have OX_12 := Lib.hid (OX_11.out.below hb); clear OX_11; have BB_12 := Lib.hid (BB_11.out.trans (hb.mono (by first | omega | (simp only [World.size_alloc]; omega) | (simp only [size_drew_]; omega) | (simp only [World.size_alloc, size_drew_]; omega)))); clear BB_11; have s12 := hb.size; clear hb; clear hOXs1 hCs1; have hOXs2 := OX_12.out.cell; have hCs2 := C_12.out.cell))
    clear hOXs2 hCs2
    go_wp2_with fail
    have hOXs0 := OX_12.out.cell
    have hRs0 := R_12.out.cell
    have A_13 := Lib.hid (A_12.out.below (((Below.refl w12.heap.size w12).drew).mono (by first | omega | (simp only [World.size_alloc]; omega) | (simp only [size_drew_]; omega) | (simp only [World.size_alloc, size_drew_]; omega))))
    clear A_12
    have R_13 := Lib.hid (R_12.out.drew)
    clear R_12
    have C_13 := Lib.hid (C_12.out.drew)
    clear C_12
    have X_13 := Lib.hid (X_12.out.below ((Below.refl w12.heap.size w12).drew) (by first | omega | (simp only [World.size_alloc]; omega) | (simp only [size_drew_]; omega) | (simp only [World.size_alloc, size_drew_]; omega)))
    clear X_12
    have OX_13 := Lib.hid (OX_12.out.drew)
    clear OX_12
    have BB_13 := Lib.hid (BB_12.out.drew)
    clear BB_12
    go_region_held3 (fun W => W.cell? ⟨w8.heap.size, 0, none⟩ = some (.slice a8 xs.length c8) ∧ W.cell? ⟨w8.heap.size, 1, none⟩ = some (.int .i64 hd) ∧ W.cell? ⟨w8.heap.size, 2, none⟩ = some (.int .i64 ct) ∧ W.cell? ⟨w.heap.size, 0, none⟩ = some (.slice a xs.length c) ∧ W.cell? ⟨w.heap.size, 1, none⟩ = some (.int .i64 hd) ∧ W.cell? ⟨w.heap.size, 2, none⟩ = some (.int .i64 ct))
      (first | exact ⟨hOXs0 0, hOXs0 1, hOXs0 2, hRs0 0, hRs0 1, hRs0 2⟩ | exact ⟨hOXs1 0, hOXs1 1, hOXs1 2, hRs1 0, hRs1 1, hRs1 2⟩ | exact ⟨hOXs2 0, hOXs2 1, hOXs2 2, hRs2 0, hRs2 1, hRs2 2⟩)
      (first
        | (go_at_call 15; refine (toRing_any a _ c hd ct xs _ _ A_13.out rfl (by first | omega | (simp only [World.size_alloc]; omega) | (simp only [size_drew_]; omega) | (simp only [World.size_alloc, size_drew_]; omega)) hle).mono ?_; rintro e w14 ⟨a14, c14, rfl, ho, hb⟩; have A_14 := Lib.hid (A_13.out.below (hb.mono (by first | omega | (simp only [World.size_alloc]; omega) | (simp only [size_drew_]; omega) | (simp only [World.size_alloc, size_drew_]; omega)))); clear A_13; have R_14 := Lib.hid (R_13.out.below hb); clear R_13; have C_14 := Lib.hid (C_13.out.below hb); clear C_13; have X_14 := Lib.hid (X_13.out.below hb (by first | omega | (simp only [World.size_alloc]; omega) | (simp only [size_drew_]; omega) | (simp only [World.size_alloc, size_drew_]; omega))); clear X_13; have OX_14 := Lib.hid (OX_13.out.below hb); clear OX_13; have BB_14 := Lib.hid (BB_13.out.trans (hb.mono (by first | omega | (simp only [World.size_alloc]; omega) | (simp only [size_drew_]; omega) | (simp only [World.size_alloc, size_drew_]; omega)))); clear BB_13; have Z_14 := Lib.hid (Rw.new ho); clear ho; have s14 := hb.size; simp only [size_drew_] at s14; clear hb; clear hOXs0 hRs0; have hOXs1 := OX_14.out.cell; have hRs1 := R_14.out.cell)
        | (go_at_call 17; refine (eqRing_any _ _ _ _ _ _ hd ct xs _ _ _ X_14.out.nums Z_14.out.nums rfl rfl (Nat.le_refl _) (Nat.le_refl _)).mono ?_; rintro e w15 ⟨rfl, hb⟩; have A_15 := Lib.hid (A_14.out.below (hb.mono (by first | omega | (simp only [World.size_alloc]; omega) | (simp only [size_drew_]; omega) | (simp only [World.size_alloc, size_drew_]; omega)))); clear A_14; have R_15 := Lib.hid (R_14.out.below hb); clear R_14; have C_15 := Lib.hid (C_14.out.below hb); clear C_14; have X_15 := Lib.hid (X_14.out.below hb (by first | omega | (simp only [World.size_alloc]; omega) | (simp only [size_drew_]; omega) | (simp only [World.size_alloc, size_drew_]; omega))); clear X_14; have OX_15 := Lib.hid (OX_14.out.below hb); clear OX_14; have Z_15 := Lib.hid (Z_14.out.below hb (by first | omega | (simp only [World.size_alloc]; omega) | (simp only [size_drew_]; omega) | (simp only [World.size_alloc, size_drew_]; omega))); clear Z_14; have BB_15 := Lib.hid (BB_14.out.trans (hb.mono (by first | omega | (simp only [World.size_alloc]; omega) | (simp only [size_drew_]; omega) | (simp only [World.size_alloc, size_drew_]; omega)))); clear BB_14; have s15 := hb.size; clear hb; clear hOXs1 hRs1; have hOXs2 := OX_15.out.cell; have hRs2 := R_15.out.cell))
    clear hOXs2 hRs2
    go_wp2
    go_ret
    exact ⟨rfl, BB_15.out⟩

set_option maxRecDepth 100000 in
theorem lifted (os : Os) (started : os.Started) (H : Type) (enc : TypeId × Value → H) :
    ReturnsInHanded {} Try.checked os 5 .any (Rows.fnExactLinkOkSpec.pre6 enc Try.prog Try.f5 Rows.fnExactLinkOkRow.domain false) (Rows.fnExactLinkOkSpec.post enc Try.prog Try.f5 false true false false) := by
  refine returnsInHanded_of_change (C := Try.checked) own started (by kernel_rfl) Try.func5
    (ChangeSpec.witness6 (enc := enc) (C := Try.checked) false ⟨#[], #[.agg #[.slice none 0 0, .int .i64 0, .int .i64 0], (.agg #[.int .i64 0, .int .i64 0])], []⟩ 8 (by kernel_rfl) (by kernel_rfl) (by kernel_rfl) (by kernel_rfl)) ?_
  intro W base args ds gs before hval0 hW hcnd _
  have hval : ∀ (j : Nat) t v, Try.f5.params[j]? = some t → args[j]? = some v → Value.okWide Try.prog W .any base t v := hval0
  have hW' := hW
  obtain ⟨p, q, hA0, hV, rfl, hfz, hnd⟩ := hW
  have hA : DataW.TrodAll enc Try.prog W 0 (fun _ => true) true Try.f5.params.toList args.toList ds p := hA0
  rw [Try.params5] at hA hval
  obtain ⟨v0, vs0, d0, ds0, p0, q0, hargs, rfl, rfl, h0, r0⟩ := trodAll_cons hA
  obtain ⟨v1, vs1, d1, ds1, p1, q1, rfl, rfl, rfl, h1, r1⟩ := trodAll_cons r0
  obtain ⟨rfl, rfl, rfl⟩ := trodAll_nil r1
  obtain rfl : args = #[v0, v1] := by cases args; simp_all
  obtain ⟨rfl, rfl⟩ := trodVars_none hV
  have lt0 : ∀ x ∈ p0, x.block < W.heap.size := by obtain ⟨m, hm⟩ := h0; exact DataW.trod_lt m _ _ _ hm
  obtain ⟨a0, n0, c0, hd0, ct0, rfl, xs0, hn0, hh0, hc0, hs0⟩ := arg_ring (hval 0 32 v0 rfl rfl) h0
  have lt1 : ∀ x ∈ p1, x.block < W.heap.size := by obtain ⟨m, hm⟩ := h1; exact DataW.trod_lt m _ _ _ hm
  obtain ⟨h1_, o1, rfl⟩ := arg_credit (hval 1 23 v1 rfl rfl) h1
  clear hA0 hval0
  refine (walk W a0 n0 c0 hd0 ct0 xs0 hn0 hh0 hc0 hs0 h1_ o1).mono fun e W' ⟨he, bel⟩ => ?_
  subst he
  exact ⟨_, rfl, _, _, _, [], _, [], hW', trodAll_mk1 (shut_bool Try.underlying4 _), (trodAll_cons_mk (Below.trod laidOut (by kernel_rfl) (of_decide_eq_true (by kernel_rfl)) h0 bel lt0) (trodAll_cons_mk (Below.trod laidOut (by kernel_rfl) (of_decide_eq_true (by kernel_rfl)) h1 bel lt1) trodAll_mk0)), rfl, bel.frame _, fun h => by cases h⟩

theorem over : Rows.fnExactLinkOkRow.holds Try.pinned (OpenSpec.ofChange Rows.fnExactLinkOkSpec) :=
  OpenClaim.holds_of_wide 5 Try.f5 rfl rfl rfl rfl rfl rfl rfl ⟨rfl, rfl, rfl, rfl, rfl⟩ rfl rfl rfl rfl rfl (by kernel_rfl) Try.func5 (by kernel_rfl)
    (of_decide_eq_true (by kernel_rfl)) (by unfold Func.isWrapper; first | (rw [if_pos (by decide +kernel)]; kernel_rfl) | (rw [if_neg (by decide +kernel)]; exact ⟨rfl, rfl⟩))
    (fun os started H enc _ => lifted os started H enc)

theorem proved : Rows.FnExactLinkOkSaid := over
#print axioms proved
end Go.Proofs.Ytkconbmgljmpfab.fnExactLinkOk
