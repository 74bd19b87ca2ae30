/- impl.TakeNext answers as spec.TakeNext at every decoder of up to 1048576 bytes (beyond, the law says nothing), in memory of its own, and leaves it as it was: FnExactTakeNext returns true. Conditions: the two faults of the program are as its text lays them (tied). -/
import Derived.Test.YtkconbmgljmpfaaDoorRows
import Derived.Test.YtkconbmgljmpfaaDoorCards
import Derived.Test.YtkconbmgljmpfaaDoorTie
import Derived.Test.YtkconbmgljmpfaaDoorOpen
import Derived.Test.YtkconbmgljmpfaaDoorFlt
import Derived.Test.YtkconbmgljmpfaaDoorNextSpec
import Derived.Test.YtkconbmgljmpfaaDoorLawS
import Derived.Test.YtkconbmgljmpfaaDoorHeld
import Derived.WalkSmall
import Derived.WalkKit
import Derived.ProofKit
import Derived.OpenShut
import Derived.OpenVars
import Derived.Lay
import Derived.Deep.DeepHandedRow
import Derived.ShutString
import Derived.ChangeOld
import Derived.Below
namespace Go.Proofs.YtkconbmgljmpfaaDoor.fnExactTakeNext
open Go.ChangeShapes Go.WideShapes Go.ChangeAt Go.RowKit
set_option linter.unusedVariables false

theorem own : ownKnob Tryd.prog.godebug = none := by kernel_rfl
theorem laidOut : laidOutB Tryd.prog = true := by kernel_rfl


/-- A decoder, a frame and a code, in memory of the call's own. -/
def NextRes2 (L : List Int) (bd : Bool) (k y t v C : Int) (w : World) (e : Ending) (w' : World) : Prop :=
  ∃ a c, e = .returned (.tuple #[.agg #[.slice a L.length c, .bool bd], (.agg #[.int .i64 k, .int .i64 y, .int .i64 t, .int .i64 v]), .int .i64 C]) ∧ w'.ownsRow w.heap.size 5 1 (.slice a L.length c) L.length (L.map (Value.int .u8)) ∧ Below w.heap.size w w'
theorem next_two {r : Nx} {L : List Int} {bd : Bool} {k y t v C : Int} (hr : r = ⟨L, bd, k, y, t, v, C⟩) {w w' : World} {e : Ending} (h : NextRes r w e w') : NextRes2 L bd k y t v C w e w' := by
  subst hr; exact h
set_option maxHeartbeats 4000000 in
set_option maxRecDepth 100000 in
theorem walk (w : World) (a : Option Addr) (n c : Nat) (b : Bool) (xs : List Int) (hn : n = xs.length) (hx : IsB xs) (hs : Nums .u8 w w.heap.size a c xs) (aB aS : Addr) (hf : Flt w w.heap.size aB aS) :
    Calls Tryd.prog 6 #[.agg #[.slice a n c, .bool b]] w fun e w' => e = .returned (.bool true) ∧ Below w.heap.size w w' := by
  have hc1 := hs.cap
  have hc2 := hs.big
  subst hn
  have HZ := Lib.hid (fun W => szDecoder_any a xs.length c b W (by omega))
  have BB := Lib.hid (Below.refl w.heap.size w)
  by_cases hbig : 1048576 < xs.length
  · rw [if_pos (by omega)] at HZ
    clear hs hf hx
    go_enter Tryd.func6, Tryd.ntmps6
    go_wp2_with fail
    refine (HZ.out _).mono ?_
    rintro e w1 ⟨rfl, hb⟩
    have B1 := Lib.hid ((BB.out.alloc (Nat.le_refl _) (.cells #[.slice a xs.length c, .bool b] 47)).trans (hb.mono (by simp)))
    clear hb
    go_wp2
    go_ret
    exact ⟨rfl, B1.out⟩
  · have hle : xs.length ≤ 1048576 := by omega
    rw [if_neg (by omega)] at HZ
    have A0 := Lib.hid hs
    have F0 := Lib.hid hf
    have hL0 := nx_len xs b
    obtain ⟨L, bd, k, y, t, v, C, hr⟩ : ∃ L bd k y t v C, nx xs b = ⟨L, bd, k, y, t, v, C⟩ := ⟨_, _, _, _, _, _, _, rfl⟩
    have hL : L.length ≤ 1048576 := by rw [hr] at hL0; exact Nat.le_trans hL0 hle
    have ST : Hid (∀ (W : World) (a1 : Option Addr) (c1 : Nat), Nums .u8 W W.heap.size a1 c1 xs → Calls Tryd.prog 28 #[.agg #[.slice a1 xs.length c1, .bool b]] W (NextRes2 L bd k y t v C W)) :=
      Lib.hid (fun W a1 c1 h1 => (specNext_any _ a1 _ c1 b xs W h1 rfl (Nat.le_refl _) hx hle).mono (fun _ _ h => next_two hr h))
    have IT : Hid (∀ (W : World) (a1 : Option Addr) (c1 : Nat), Nums .u8 W W.heap.size a1 c1 xs → Flt W W.heap.size aB aS → Calls Tryd.prog 15 #[.agg #[.slice a1 xs.length c1, .bool b]] W (NextRes2 L bd k y t v C W)) :=
      Lib.hid (fun W a1 c1 h1 h2 => (implNext_any _ a1 _ c1 b xs aB aS W h1 rfl (Nat.le_refl _) hx hle h2).mono (fun _ _ h => next_two hr h))
    have hCC : (C != C) = false := by simp
    clear hs hf hx hr hL0
    have A_1 := Lib.hid (A0.out.below (((Below.refl w.heap.size w).alloc (Nat.le_refl _) (.cells #[.slice a xs.length c, .bool b] 47)).mono (by first | omega | (simp only [World.size_alloc]; omega) | (simp only [size_drew_]; omega) | (simp only [World.size_alloc, size_drew_]; omega))))
    clear A0
    have F_1 := Lib.hid (F0.out.below (((Below.refl w.heap.size w).alloc (Nat.le_refl _) (.cells #[.slice a xs.length c, .bool b] 47)).mono (by first | omega | (simp only [World.size_alloc]; omega) | (simp only [size_drew_]; omega) | (simp only [World.size_alloc, size_drew_]; omega))))
    clear F0
    have BB_1 := Lib.hid (BB.out.alloc (by first | omega | (simp only [World.size_alloc]; omega) | (simp only [size_drew_]; omega) | (simp only [World.size_alloc, size_drew_]; omega)) (.cells #[.slice a xs.length c, .bool b] 47))
    clear BB
    have D_1 := Lib.hid (Blk.new w 47 #[.slice a xs.length c, .bool b])
    go_enter Tryd.func6, Tryd.ntmps6
    go_wp2_with fail
    refine (HZ.out _).mono ?_
    rintro e w2 ⟨rfl, hb⟩
    have A_2 := Lib.hid (A_1.out.below (hb.mono (by first | omega | (simp only [World.size_alloc]; omega) | (simp only [size_drew_]; omega) | (simp only [World.size_alloc, size_drew_]; omega))))
    clear A_1
    have F_2 := Lib.hid (F_1.out.below (hb.mono (by first | omega | (simp only [World.size_alloc]; omega) | (simp only [size_drew_]; omega) | (simp only [World.size_alloc, size_drew_]; omega))))
    clear F_1
    have D_2 := Lib.hid (D_1.out.below hb)
    clear D_1
    have BB_2 := Lib.hid (BB_1.out.trans (hb.mono (by first | omega | (simp only [World.size_alloc]; omega) | (simp only [size_drew_]; omega) | (simp only [World.size_alloc, size_drew_]; omega))))
    clear BB_1
    have s2 := hb.size
    simp only [World.size_alloc] at s2
    clear hb
    have qD_2 := D_2.out.cell
    go_wp2_with fail
    refine (toDecoder_any a _ c b xs _ _ A_2.out rfl (by first | omega | (simp only [World.size_alloc]; omega) | (simp only [size_drew_]; omega) | (simp only [World.size_alloc, size_drew_]; omega)) hle).mono ?_
    rintro e w3 ⟨a3, c3, rfl, ho, hb⟩
    clear qD_2
    have A_3 := Lib.hid (A_2.out.below (hb.mono (by first | omega | (simp only [World.size_alloc]; omega) | (simp only [size_drew_]; omega) | (simp only [World.size_alloc, size_drew_]; omega))))
    clear A_2
    have F_3 := Lib.hid (F_2.out.below (hb.mono (by first | omega | (simp only [World.size_alloc]; omega) | (simp only [size_drew_]; omega) | (simp only [World.size_alloc, size_drew_]; omega))))
    clear F_2
    have D_3 := Lib.hid (D_2.out.below hb)
    clear D_2
    have BB_3 := Lib.hid (BB_2.out.trans (hb.mono (by first | omega | (simp only [World.size_alloc]; omega) | (simp only [size_drew_]; omega) | (simp only [World.size_alloc, size_drew_]; omega))))
    clear BB_2
    have X1_3 := Lib.hid (Rw.new ho)
    clear ho
    have s3 := hb.size
    clear hb
    go_wp2_with fail
    refine (ST.out _ _ _ X1_3.out.nums).mono ?_
    rintro e w4 ⟨a4, c4, rfl, ho, hb⟩
    have A_4 := Lib.hid (A_3.out.below (hb.mono (by first | omega | (simp only [World.size_alloc]; omega) | (simp only [size_drew_]; omega) | (simp only [World.size_alloc, size_drew_]; omega))))
    clear A_3
    have F_4 := Lib.hid (F_3.out.below (hb.mono (by first | omega | (simp only [World.size_alloc]; omega) | (simp only [size_drew_]; omega) | (simp only [World.size_alloc, size_drew_]; omega))))
    clear F_3
    have D_4 := Lib.hid (D_3.out.below hb)
    clear D_3
    have X1_4 := Lib.hid (X1_3.out.below hb (by first | omega | (simp only [World.size_alloc]; omega) | (simp only [size_drew_]; omega) | (simp only [World.size_alloc, size_drew_]; omega)))
    clear X1_3
    have BB_4 := Lib.hid (BB_3.out.trans (hb.mono (by first | omega | (simp only [World.size_alloc]; omega) | (simp only [size_drew_]; omega) | (simp only [World.size_alloc, size_drew_]; omega))))
    clear BB_3
    have R_4 := Lib.hid (Rw.new ho)
    clear ho
    have s4 := hb.size
    clear hb
    clear X1_4
    have A_5 := Lib.hid (A_4.out.below (((Below.refl w4.heap.size w4).alloc (Nat.le_refl _) (.cells #[.slice a4 L.length c4, .bool bd] 30)).mono (by first | omega | (simp only [World.size_alloc]; omega) | (simp only [size_drew_]; omega) | (simp only [World.size_alloc, size_drew_]; omega))))
    clear A_4
    have F_5 := Lib.hid (F_4.out.below (((Below.refl w4.heap.size w4).alloc (Nat.le_refl _) (.cells #[.slice a4 L.length c4, .bool bd] 30)).mono (by first | omega | (simp only [World.size_alloc]; omega) | (simp only [size_drew_]; omega) | (simp only [World.size_alloc, size_drew_]; omega))))
    clear F_4
    have D_5 := Lib.hid (D_4.out.alloc (.cells #[.slice a4 L.length c4, .bool bd] 30))
    clear D_4
    have R_5 := Lib.hid (R_4.out.below ((Below.refl w4.heap.size w4).alloc (Nat.le_refl _) (.cells #[.slice a4 L.length c4, .bool bd] 30)) (by first | omega | (simp only [World.size_alloc]; omega) | (simp only [size_drew_]; omega) | (simp only [World.size_alloc, size_drew_]; omega)))
    clear R_4
    have BB_5 := Lib.hid (BB_4.out.alloc (by first | omega | (simp only [World.size_alloc]; omega) | (simp only [size_drew_]; omega) | (simp only [World.size_alloc, size_drew_]; omega)) (.cells #[.slice a4 L.length c4, .bool bd] 30))
    clear BB_4
    have OR_5 := Lib.hid (Blk.new w4 30 #[.slice a4 L.length c4, .bool bd])
    have A_6 := Lib.hid (A_5.out.below (((Below.refl (w4.alloc (.cells #[.slice a4 L.length c4, .bool bd] 30)).heap.size (w4.alloc (.cells #[.slice a4 L.length c4, .bool bd] 30))).alloc (Nat.le_refl _) (.cells #[.int .i64 k, .int .i64 y, .int .i64 t, .int .i64 v] 36)).mono (by first | omega | (simp only [World.size_alloc]; omega) | (simp only [size_drew_]; omega) | (simp only [World.size_alloc, size_drew_]; omega))))
    clear A_5
    have F_6 := Lib.hid (F_5.out.below (((Below.refl (w4.alloc (.cells #[.slice a4 L.length c4, .bool bd] 30)).heap.size (w4.alloc (.cells #[.slice a4 L.length c4, .bool bd] 30))).alloc (Nat.le_refl _) (.cells #[.int .i64 k, .int .i64 y, .int .i64 t, .int .i64 v] 36)).mono (by first | omega | (simp only [World.size_alloc]; omega) | (simp only [size_drew_]; omega) | (simp only [World.size_alloc, size_drew_]; omega))))
    clear F_5
    have D_6 := Lib.hid (D_5.out.alloc (.cells #[.int .i64 k, .int .i64 y, .int .i64 t, .int .i64 v] 36))
    clear D_5
    have R_6 := Lib.hid (R_5.out.below ((Below.refl (w4.alloc (.cells #[.slice a4 L.length c4, .bool bd] 30)).heap.size (w4.alloc (.cells #[.slice a4 L.length c4, .bool bd] 30))).alloc (Nat.le_refl _) (.cells #[.int .i64 k, .int .i64 y, .int .i64 t, .int .i64 v] 36)) (by first | omega | (simp only [World.size_alloc]; omega) | (simp only [size_drew_]; omega) | (simp only [World.size_alloc, size_drew_]; omega)))
    clear R_5
    have OR_6 := Lib.hid (OR_5.out.alloc (.cells #[.int .i64 k, .int .i64 y, .int .i64 t, .int .i64 v] 36))
    clear OR_5
    have BB_6 := Lib.hid (BB_5.out.alloc (by first | omega | (simp only [World.size_alloc]; omega) | (simp only [size_drew_]; omega) | (simp only [World.size_alloc, size_drew_]; omega)) (.cells #[.int .i64 k, .int .i64 y, .int .i64 t, .int .i64 v] 36))
    clear BB_5
    have OF_6 : Hid (Blk ((w4.alloc (.cells #[.slice a4 L.length c4, .bool bd] 30)).alloc (.cells #[.int .i64 k, .int .i64 y, .int .i64 t, .int .i64 v] 36)) (w4.heap.size + 1) 36 #[.int .i64 k, .int .i64 y, .int .i64 t, .int .i64 v]) := by
      have hh := Blk.new (w4.alloc (.cells #[.slice a4 L.length c4, .bool bd] 30)) 36 #[.int .i64 k, .int .i64 y, .int .i64 t, .int .i64 v]
      simp only [World.size_alloc] at hh
      exact hh
    have qD_6 := D_6.out.cell
    go_wp2_with fail
    refine (toDecoder_any a _ c b xs _ _ A_6.out rfl (by first | omega | (simp only [World.size_alloc]; omega) | (simp only [size_drew_]; omega) | (simp only [World.size_alloc, size_drew_]; omega)) hle).mono ?_
    rintro e w7 ⟨a7, c7, rfl, ho, hb⟩
    clear qD_6
    have A_7 := Lib.hid (A_6.out.below (hb.mono (by first | omega | (simp only [World.size_alloc]; omega) | (simp only [size_drew_]; omega) | (simp only [World.size_alloc, size_drew_]; omega))))
    clear A_6
    have F_7 := Lib.hid (F_6.out.below (hb.mono (by first | omega | (simp only [World.size_alloc]; omega) | (simp only [size_drew_]; omega) | (simp only [World.size_alloc, size_drew_]; omega))))
    clear F_6
    have D_7 := Lib.hid (D_6.out.below hb)
    clear D_6
    have R_7 := Lib.hid (R_6.out.below hb (by first | omega | (simp only [World.size_alloc]; omega) | (simp only [size_drew_]; omega) | (simp only [World.size_alloc, size_drew_]; omega)))
    clear R_6
    have OR_7 := Lib.hid (OR_6.out.below hb)
    clear OR_6
    have OF_7 := Lib.hid (OF_6.out.below hb)
    clear OF_6
    have BB_7 := Lib.hid (BB_6.out.trans (hb.mono (by first | omega | (simp only [World.size_alloc]; omega) | (simp only [size_drew_]; omega) | (simp only [World.size_alloc, size_drew_]; omega))))
    clear BB_6
    have X_7 := Lib.hid (Rw.new ho)
    clear ho
    have s7 := hb.size
    simp only [World.size_alloc] at s7
    clear hb
    have A_8 := Lib.hid (A_7.out.below (((Below.refl w7.heap.size w7).alloc (Nat.le_refl _) (.cells #[.slice a7 xs.length c7, .bool b] 30)).mono (by first | omega | (simp only [World.size_alloc]; omega) | (simp only [size_drew_]; omega) | (simp only [World.size_alloc, size_drew_]; omega))))
    clear A_7
    have F_8 := Lib.hid (F_7.out.below (((Below.refl w7.heap.size w7).alloc (Nat.le_refl _) (.cells #[.slice a7 xs.length c7, .bool b] 30)).mono (by first | omega | (simp only [World.size_alloc]; omega) | (simp only [size_drew_]; omega) | (simp only [World.size_alloc, size_drew_]; omega))))
    clear F_7
    have D_8 := Lib.hid (D_7.out.alloc (.cells #[.slice a7 xs.length c7, .bool b] 30))
    clear D_7
    have R_8 := Lib.hid (R_7.out.below ((Below.refl w7.heap.size w7).alloc (Nat.le_refl _) (.cells #[.slice a7 xs.length c7, .bool b] 30)) (by first | omega | (simp only [World.size_alloc]; omega) | (simp only [size_drew_]; omega) | (simp only [World.size_alloc, size_drew_]; omega)))
    clear R_7
    have OR_8 := Lib.hid (OR_7.out.alloc (.cells #[.slice a7 xs.length c7, .bool b] 30))
    clear OR_7
    have OF_8 := Lib.hid (OF_7.out.alloc (.cells #[.slice a7 xs.length c7, .bool b] 30))
    clear OF_7
    have X_8 := Lib.hid (X_7.out.below ((Below.refl w7.heap.size w7).alloc (Nat.le_refl _) (.cells #[.slice a7 xs.length c7, .bool b] 30)) (by first | omega | (simp only [World.size_alloc]; omega) | (simp only [size_drew_]; omega) | (simp only [World.size_alloc, size_drew_]; omega)))
    clear X_7
    have BB_8 := Lib.hid (BB_7.out.alloc (by first | omega | (simp only [World.size_alloc]; omega) | (simp only [size_drew_]; omega) | (simp only [World.size_alloc, size_drew_]; omega)) (.cells #[.slice a7 xs.length c7, .bool b] 30))
    clear BB_7
    have OX_8 := Lib.hid (Blk.new w7 30 #[.slice a7 xs.length c7, .bool b])
    have qOX_8 := OX_8.out.cell
    go_wp2_with fail
    refine (IT.out _ _ _ X_8.out.nums (F_8.out.more (by first | omega | (simp only [World.size_alloc]; omega) | (simp only [size_drew_]; omega) | (simp only [World.size_alloc, size_drew_]; omega)))).mono ?_
    rintro e w9 ⟨a9, c9, rfl, ho, hb⟩
    clear qOX_8
    have A_9 := Lib.hid (A_8.out.below (hb.mono (by first | omega | (simp only [World.size_alloc]; omega) | (simp only [size_drew_]; omega) | (simp only [World.size_alloc, size_drew_]; omega))))
    clear A_8
    have F_9 := Lib.hid (F_8.out.below (hb.mono (by first | omega | (simp only [World.size_alloc]; omega) | (simp only [size_drew_]; omega) | (simp only [World.size_alloc, size_drew_]; omega))))
    clear F_8
    have D_9 := Lib.hid (D_8.out.below hb)
    clear D_8
    have R_9 := Lib.hid (R_8.out.below hb (by first | omega | (simp only [World.size_alloc]; omega) | (simp only [size_drew_]; omega) | (simp only [World.size_alloc, size_drew_]; omega)))
    clear R_8
    have OR_9 := Lib.hid (OR_8.out.below hb)
    clear OR_8
    have OF_9 := Lib.hid (OF_8.out.below hb)
    clear OF_8
    have X_9 := Lib.hid (X_8.out.below hb (by first | omega | (simp only [World.size_alloc]; omega) | (simp only [size_drew_]; omega) | (simp only [World.size_alloc, size_drew_]; omega)))
    clear X_8
    have OX_9 := Lib.hid (OX_8.out.below hb)
    clear OX_8
    have BB_9 := Lib.hid (BB_8.out.trans (hb.mono (by first | omega | (simp only [World.size_alloc]; omega) | (simp only [size_drew_]; omega) | (simp only [World.size_alloc, size_drew_]; omega))))
    clear BB_8
    have G_9 := Lib.hid (Rw.new ho)
    clear ho
    have s9 := hb.size
    simp only [World.size_alloc] at s9
    clear hb
    have A_10 := Lib.hid (A_9.out.below (((Below.refl w9.heap.size w9).alloc (Nat.le_refl _) (.cells #[.slice a9 L.length c9, .bool bd] 30)).mono (by first | omega | (simp only [World.size_alloc]; omega) | (simp only [size_drew_]; omega) | (simp only [World.size_alloc, size_drew_]; omega))))
    clear A_9
    have F_10 := Lib.hid (F_9.out.below (((Below.refl w9.heap.size w9).alloc (Nat.le_refl _) (.cells #[.slice a9 L.length c9, .bool bd] 30)).mono (by first | omega | (simp only [World.size_alloc]; omega) | (simp only [size_drew_]; omega) | (simp only [World.size_alloc, size_drew_]; omega))))
    clear F_9
    have D_10 := Lib.hid (D_9.out.alloc (.cells #[.slice a9 L.length c9, .bool bd] 30))
    clear D_9
    have R_10 := Lib.hid (R_9.out.below ((Below.refl w9.heap.size w9).alloc (Nat.le_refl _) (.cells #[.slice a9 L.length c9, .bool bd] 30)) (by first | omega | (simp only [World.size_alloc]; omega) | (simp only [size_drew_]; omega) | (simp only [World.size_alloc, size_drew_]; omega)))
    clear R_9
    have OR_10 := Lib.hid (OR_9.out.alloc (.cells #[.slice a9 L.length c9, .bool bd] 30))
    clear OR_9
    have OF_10 := Lib.hid (OF_9.out.alloc (.cells #[.slice a9 L.length c9, .bool bd] 30))
    clear OF_9
    have X_10 := Lib.hid (X_9.out.below ((Below.refl w9.heap.size w9).alloc (Nat.le_refl _) (.cells #[.slice a9 L.length c9, .bool bd] 30)) (by first | omega | (simp only [World.size_alloc]; omega) | (simp only [size_drew_]; omega) | (simp only [World.size_alloc, size_drew_]; omega)))
    clear X_9
    have OX_10 := Lib.hid (OX_9.out.alloc (.cells #[.slice a9 L.length c9, .bool bd] 30))
    clear OX_9
    have G_10 := Lib.hid (G_9.out.below ((Below.refl w9.heap.size w9).alloc (Nat.le_refl _) (.cells #[.slice a9 L.length c9, .bool bd] 30)) (by first | omega | (simp only [World.size_alloc]; omega) | (simp only [size_drew_]; omega) | (simp only [World.size_alloc, size_drew_]; omega)))
    clear G_9
    have BB_10 := Lib.hid (BB_9.out.alloc (by first | omega | (simp only [World.size_alloc]; omega) | (simp only [size_drew_]; omega) | (simp only [World.size_alloc, size_drew_]; omega)) (.cells #[.slice a9 L.length c9, .bool bd] 30))
    clear BB_9
    have OG_10 := Lib.hid (Blk.new w9 30 #[.slice a9 L.length c9, .bool bd])
    have A_11 := Lib.hid (A_10.out.below (((Below.refl (w9.alloc (.cells #[.slice a9 L.length c9, .bool bd] 30)).heap.size (w9.alloc (.cells #[.slice a9 L.length c9, .bool bd] 30))).alloc (Nat.le_refl _) (.cells #[.int .i64 k, .int .i64 y, .int .i64 t, .int .i64 v] 36)).mono (by first | omega | (simp only [World.size_alloc]; omega) | (simp only [size_drew_]; omega) | (simp only [World.size_alloc, size_drew_]; omega))))
    clear A_10
    have F_11 := Lib.hid (F_10.out.below (((Below.refl (w9.alloc (.cells #[.slice a9 L.length c9, .bool bd] 30)).heap.size (w9.alloc (.cells #[.slice a9 L.length c9, .bool bd] 30))).alloc (Nat.le_refl _) (.cells #[.int .i64 k, .int .i64 y, .int .i64 t, .int .i64 v] 36)).mono (by first | omega | (simp only [World.size_alloc]; omega) | (simp only [size_drew_]; omega) | (simp only [World.size_alloc, size_drew_]; omega))))
    clear F_10
    have D_11 := Lib.hid (D_10.out.alloc (.cells #[.int .i64 k, .int .i64 y, .int .i64 t, .int .i64 v] 36))
    clear D_10
    have R_11 := Lib.hid (R_10.out.below ((Below.refl (w9.alloc (.cells #[.slice a9 L.length c9, .bool bd] 30)).heap.size (w9.alloc (.cells #[.slice a9 L.length c9, .bool bd] 30))).alloc (Nat.le_refl _) (.cells #[.int .i64 k, .int .i64 y, .int .i64 t, .int .i64 v] 36)) (by first | omega | (simp only [World.size_alloc]; omega) | (simp only [size_drew_]; omega) | (simp only [World.size_alloc, size_drew_]; omega)))
    clear R_10
    have OR_11 := Lib.hid (OR_10.out.alloc (.cells #[.int .i64 k, .int .i64 y, .int .i64 t, .int .i64 v] 36))
    clear OR_10
    have OF_11 := Lib.hid (OF_10.out.alloc (.cells #[.int .i64 k, .int .i64 y, .int .i64 t, .int .i64 v] 36))
    clear OF_10
    have X_11 := Lib.hid (X_10.out.below ((Below.refl (w9.alloc (.cells #[.slice a9 L.length c9, .bool bd] 30)).heap.size (w9.alloc (.cells #[.slice a9 L.length c9, .bool bd] 30))).alloc (Nat.le_refl _) (.cells #[.int .i64 k, .int .i64 y, .int .i64 t, .int .i64 v] 36)) (by first | omega | (simp only [World.size_alloc]; omega) | (simp only [size_drew_]; omega) | (simp only [World.size_alloc, size_drew_]; omega)))
    clear X_10
    have OX_11 := Lib.hid (OX_10.out.alloc (.cells #[.int .i64 k, .int .i64 y, .int .i64 t, .int .i64 v] 36))
    clear OX_10
    have G_11 := Lib.hid (G_10.out.below ((Below.refl (w9.alloc (.cells #[.slice a9 L.length c9, .bool bd] 30)).heap.size (w9.alloc (.cells #[.slice a9 L.length c9, .bool bd] 30))).alloc (Nat.le_refl _) (.cells #[.int .i64 k, .int .i64 y, .int .i64 t, .int .i64 v] 36)) (by first | omega | (simp only [World.size_alloc]; omega) | (simp only [size_drew_]; omega) | (simp only [World.size_alloc, size_drew_]; omega)))
    clear G_10
    have OG_11 := Lib.hid (OG_10.out.alloc (.cells #[.int .i64 k, .int .i64 y, .int .i64 t, .int .i64 v] 36))
    clear OG_10
    have BB_11 := Lib.hid (BB_10.out.alloc (by first | omega | (simp only [World.size_alloc]; omega) | (simp only [size_drew_]; omega) | (simp only [World.size_alloc, size_drew_]; omega)) (.cells #[.int .i64 k, .int .i64 y, .int .i64 t, .int .i64 v] 36))
    clear BB_10
    have OGF_11 : Hid (Blk ((w9.alloc (.cells #[.slice a9 L.length c9, .bool bd] 30)).alloc (.cells #[.int .i64 k, .int .i64 y, .int .i64 t, .int .i64 v] 36)) (w9.heap.size + 1) 36 #[.int .i64 k, .int .i64 y, .int .i64 t, .int .i64 v]) := by
      have hh := Blk.new (w9.alloc (.cells #[.slice a9 L.length c9, .bool bd] 30)) 36 #[.int .i64 k, .int .i64 y, .int .i64 t, .int .i64 v]
      simp only [World.size_alloc] at hh
      exact hh
    have qOG_11 := OG_11.out.cell
    have qOGF_11 := OGF_11.out.cell
    have qOR_11 := OR_11.out.cell
    have qOF_11 := OF_11.out.cell
    go_wp2_with fail
    refine (eqDecoder_any _ _ _ _ _ _ bd L _ _ _ G_11.out.nums R_11.out.nums rfl rfl (Nat.le_refl _) (Nat.le_refl _)).mono ?_
    rintro e w12 ⟨rfl, hb⟩
    clear qOG_11 qOGF_11 qOR_11 qOF_11
    have A_12 := Lib.hid (A_11.out.below (hb.mono (by first | omega | (simp only [World.size_alloc]; omega) | (simp only [size_drew_]; omega) | (simp only [World.size_alloc, size_drew_]; omega))))
    clear A_11
    have F_12 := Lib.hid (F_11.out.below (hb.mono (by first | omega | (simp only [World.size_alloc]; omega) | (simp only [size_drew_]; omega) | (simp only [World.size_alloc, size_drew_]; omega))))
    clear F_11
    have D_12 := Lib.hid (D_11.out.below hb)
    clear D_11
    have R_12 := Lib.hid (R_11.out.below hb (by first | omega | (simp only [World.size_alloc]; omega) | (simp only [size_drew_]; omega) | (simp only [World.size_alloc, size_drew_]; omega)))
    clear R_11
    have OR_12 := Lib.hid (OR_11.out.below hb)
    clear OR_11
    have OF_12 := Lib.hid (OF_11.out.below hb)
    clear OF_11
    have X_12 := Lib.hid (X_11.out.below hb (by first | omega | (simp only [World.size_alloc]; omega) | (simp only [size_drew_]; omega) | (simp only [World.size_alloc, size_drew_]; omega)))
    clear X_11
    have OX_12 := Lib.hid (OX_11.out.below hb)
    clear OX_11
    have G_12 := Lib.hid (G_11.out.below hb (by first | omega | (simp only [World.size_alloc]; omega) | (simp only [size_drew_]; omega) | (simp only [World.size_alloc, size_drew_]; omega)))
    clear G_11
    have OG_12 := Lib.hid (OG_11.out.below hb)
    clear OG_11
    have OGF_12 := Lib.hid (OGF_11.out.below hb)
    clear OGF_11
    have BB_12 := Lib.hid (BB_11.out.trans (hb.mono (by first | omega | (simp only [World.size_alloc]; omega) | (simp only [size_drew_]; omega) | (simp only [World.size_alloc, size_drew_]; omega))))
    clear BB_11
    have s12 := hb.size
    simp only [World.size_alloc] at s12
    clear hb
    have qOG_12 := OG_12.out.cell
    have qOGF_12 := OGF_12.out.cell
    have qOR_12 := OR_12.out.cell
    have qOF_12 := OF_12.out.cell
    go_wp2_with fail
    refine (eqFrame_any k y t v _).mono ?_
    rintro e w13 ⟨rfl, hb⟩
    clear qOG_12 qOGF_12 qOR_12 qOF_12
    have A_13 := Lib.hid (A_12.out.below (hb.mono (by first | omega | (simp only [World.size_alloc]; omega) | (simp only [size_drew_]; omega) | (simp only [World.size_alloc, size_drew_]; omega))))
    clear A_12
    have F_13 := Lib.hid (F_12.out.below (hb.mono (by first | omega | (simp only [World.size_alloc]; omega) | (simp only [size_drew_]; omega) | (simp only [World.size_alloc, size_drew_]; omega))))
    clear F_12
    have D_13 := Lib.hid (D_12.out.below hb)
    clear D_12
    have R_13 := Lib.hid (R_12.out.below hb (by first | omega | (simp only [World.size_alloc]; omega) | (simp only [size_drew_]; omega) | (simp only [World.size_alloc, size_drew_]; omega)))
    clear R_12
    have OR_13 := Lib.hid (OR_12.out.below hb)
    clear OR_12
    have OF_13 := Lib.hid (OF_12.out.below hb)
    clear OF_12
    have X_13 := Lib.hid (X_12.out.below hb (by first | omega | (simp only [World.size_alloc]; omega) | (simp only [size_drew_]; omega) | (simp only [World.size_alloc, size_drew_]; omega)))
    clear X_12
    have OX_13 := Lib.hid (OX_12.out.below hb)
    clear OX_12
    have G_13 := Lib.hid (G_12.out.below hb (by first | omega | (simp only [World.size_alloc]; omega) | (simp only [size_drew_]; omega) | (simp only [World.size_alloc, size_drew_]; omega)))
    clear G_12
    have OG_13 := Lib.hid (OG_12.out.below hb)
    clear OG_12
    have OGF_13 := Lib.hid (OGF_12.out.below hb)
    clear OGF_12
    have BB_13 := Lib.hid (BB_12.out.trans (hb.mono (by first | omega | (simp only [World.size_alloc]; omega) | (simp only [size_drew_]; omega) | (simp only [World.size_alloc, size_drew_]; omega))))
    clear BB_12
    have s13 := hb.size
    clear hb
    go_wp2_with fail
    have hOXs0 := OX_13.out.cell
    have hDs0 := D_13.out.cell
    have A_14 := Lib.hid (A_13.out.below (((Below.refl w13.heap.size w13).drew).mono (by first | omega | (simp only [World.size_alloc]; omega) | (simp only [size_drew_]; omega) | (simp only [World.size_alloc, size_drew_]; omega))))
    clear A_13
    have F_14 := Lib.hid (F_13.out.below (((Below.refl w13.heap.size w13).drew).mono (by first | omega | (simp only [World.size_alloc]; omega) | (simp only [size_drew_]; omega) | (simp only [World.size_alloc, size_drew_]; omega))))
    clear F_13
    have D_14 := Lib.hid (D_13.out.drew)
    clear D_13
    have R_14 := Lib.hid (R_13.out.below ((Below.refl w13.heap.size w13).drew) (by first | omega | (simp only [World.size_alloc]; omega) | (simp only [size_drew_]; omega) | (simp only [World.size_alloc, size_drew_]; omega)))
    clear R_13
    have OR_14 := Lib.hid (OR_13.out.drew)
    clear OR_13
    have OF_14 := Lib.hid (OF_13.out.drew)
    clear OF_13
    have X_14 := Lib.hid (X_13.out.below ((Below.refl w13.heap.size w13).drew) (by first | omega | (simp only [World.size_alloc]; omega) | (simp only [size_drew_]; omega) | (simp only [World.size_alloc, size_drew_]; omega)))
    clear X_13
    have OX_14 := Lib.hid (OX_13.out.drew)
    clear OX_13
    have G_14 := Lib.hid (G_13.out.below ((Below.refl w13.heap.size w13).drew) (by first | omega | (simp only [World.size_alloc]; omega) | (simp only [size_drew_]; omega) | (simp only [World.size_alloc, size_drew_]; omega)))
    clear G_13
    have OG_14 := Lib.hid (OG_13.out.drew)
    clear OG_13
    have OGF_14 := Lib.hid (OGF_13.out.drew)
    clear OGF_13
    have BB_14 := Lib.hid (BB_13.out.drew)
    clear BB_13
    go_region_held3 (fun W => W.cell? ⟨w7.heap.size, 0, none⟩ = some (.slice a7 xs.length c7) ∧ W.cell? ⟨w7.heap.size, 1, none⟩ = some (.bool b) ∧ W.cell? ⟨w.heap.size, 0, none⟩ = some (.slice a xs.length c) ∧ W.cell? ⟨w.heap.size, 1, none⟩ = some (.bool b))
      (first | exact ⟨hOXs0 0, hOXs0 1, hDs0 0, hDs0 1⟩ | exact ⟨hOXs1 0, hOXs1 1, hDs1 0, hDs1 1⟩ | exact ⟨hOXs2 0, hOXs2 1, hDs2 0, hDs2 1⟩)
      (first
        | (go_at_call 29; refine (toDecoder_any a _ c b xs _ _ A_14.out rfl (by first | omega | (simp only [World.size_alloc]; omega) | (simp only [size_drew_]; omega) | (simp only [World.size_alloc, size_drew_]; omega)) hle).mono ?_; rintro e w15 ⟨a15, c15, rfl, ho, hb⟩; have A_15 := Lib.hid (A_14.out.below (hb.mono (by first | omega | (simp only [World.size_alloc]; omega) | (simp only [size_drew_]; omega) | (simp only [World.size_alloc, size_drew_]; omega)))); clear A_14; have F_15 := Lib.hid (F_14.out.below (hb.mono (by first | omega | (simp only [World.size_alloc]; omega) | (simp only [size_drew_]; omega) | (simp only [World.size_alloc, size_drew_]; omega)))); clear F_14; have D_15 := Lib.hid (D_14.out.below hb); clear D_14; have R_15 := Lib.hid (R_14.out.below hb (by first | omega | (simp only [World.size_alloc]; omega) | (simp only [size_drew_]; omega) | (simp only [World.size_alloc, size_drew_]; omega))); clear R_14; have OR_15 := Lib.hid (OR_14.out.below hb); clear OR_14; have OF_15 := Lib.hid (OF_14.out.below hb); clear OF_14; have X_15 := Lib.hid (X_14.out.below hb (by first | omega | (simp only [World.size_alloc]; omega) | (simp only [size_drew_]; omega) | (simp only [World.size_alloc, size_drew_]; omega))); clear X_14; have OX_15 := Lib.hid (OX_14.out.below hb); clear OX_14; have G_15 := Lib.hid (G_14.out.below hb (by first | omega | (simp only [World.size_alloc]; omega) | (simp only [size_drew_]; omega) | (simp only [World.size_alloc, size_drew_]; omega))); clear G_14; have OG_15 := Lib.hid (OG_14.out.below hb); clear OG_14; have OGF_15 := Lib.hid (OGF_14.out.below hb); clear OGF_14; have BB_15 := Lib.hid (BB_14.out.trans (hb.mono (by first | omega | (simp only [World.size_alloc]; omega) | (simp only [size_drew_]; omega) | (simp only [World.size_alloc, size_drew_]; omega)))); clear BB_14; have Z_15 := Lib.hid (Rw.new ho); clear ho; have s15 := hb.size; simp only [size_drew_] at s15; clear hb; clear hOXs0 hDs0; have hOXs1 := OX_15.out.cell; have hDs1 := D_15.out.cell)
        | (go_at_call 30; refine (eqDecoder_any _ _ _ _ _ _ b xs _ _ _ X_15.out.nums Z_15.out.nums rfl rfl (Nat.le_refl _) (Nat.le_refl _)).mono ?_; rintro e w16 ⟨rfl, hb⟩; have A_16 := Lib.hid (A_15.out.below (hb.mono (by first | omega | (simp only [World.size_alloc]; omega) | (simp only [size_drew_]; omega) | (simp only [World.size_alloc, size_drew_]; omega)))); clear A_15; have F_16 := Lib.hid (F_15.out.below (hb.mono (by first | omega | (simp only [World.size_alloc]; omega) | (simp only [size_drew_]; omega) | (simp only [World.size_alloc, size_drew_]; omega)))); clear F_15; have D_16 := Lib.hid (D_15.out.below hb); clear D_15; have R_16 := Lib.hid (R_15.out.below hb (by first | omega | (simp only [World.size_alloc]; omega) | (simp only [size_drew_]; omega) | (simp only [World.size_alloc, size_drew_]; omega))); clear R_15; have OR_16 := Lib.hid (OR_15.out.below hb); clear OR_15; have OF_16 := Lib.hid (OF_15.out.below hb); clear OF_15; have X_16 := Lib.hid (X_15.out.below hb (by first | omega | (simp only [World.size_alloc]; omega) | (simp only [size_drew_]; omega) | (simp only [World.size_alloc, size_drew_]; omega))); clear X_15; have OX_16 := Lib.hid (OX_15.out.below hb); clear OX_15; have G_16 := Lib.hid (G_15.out.below hb (by first | omega | (simp only [World.size_alloc]; omega) | (simp only [size_drew_]; omega) | (simp only [World.size_alloc, size_drew_]; omega))); clear G_15; have OG_16 := Lib.hid (OG_15.out.below hb); clear OG_15; have OGF_16 := Lib.hid (OGF_15.out.below hb); clear OGF_15; have Z_16 := Lib.hid (Z_15.out.below hb (by first | omega | (simp only [World.size_alloc]; omega) | (simp only [size_drew_]; omega) | (simp only [World.size_alloc, size_drew_]; omega))); clear Z_15; have BB_16 := Lib.hid (BB_15.out.trans (hb.mono (by first | omega | (simp only [World.size_alloc]; omega) | (simp only [size_drew_]; omega) | (simp only [World.size_alloc, size_drew_]; omega)))); clear BB_15; have s16 := hb.size; clear hb; clear hOXs1 hDs1; have hOXs2 := OX_16.out.cell; have hDs2 := D_16.out.cell))
    clear hOXs2 hDs2
    clear Z_16
    have qOX_16 := OX_16.out.cell
    go_wp2_with fail
    refine (markDecoder_m _ _ _ 1 b _ xs _ _ X_16.out.own rfl rfl (by first | omega | (simp only [World.size_alloc]; omega) | (simp only [size_drew_]; omega) | (simp only [World.size_alloc, size_drew_]; omega)) (by omega) (by omega)).mono ?_
    rintro e w17 ⟨rfl, hm⟩
    clear qOX_16
    have hb := hm.below
    have X_17 := Lib.hid (Rw.mk hm.own X_16.out.up)
    have A_17 := Lib.hid (A_16.out.below (hb.mono (by first | omega | (simp only [World.size_alloc]; omega) | (simp only [size_drew_]; omega) | (simp only [World.size_alloc, size_drew_]; omega))))
    clear A_16
    have F_17 := Lib.hid (F_16.out.below (hb.mono (by first | omega | (simp only [World.size_alloc]; omega) | (simp only [size_drew_]; omega) | (simp only [World.size_alloc, size_drew_]; omega))))
    clear F_16
    have D_17 := Lib.hid (D_16.out.far X_16.out hm.grown (by first | omega | (simp only [World.size_alloc]; omega) | (simp only [size_drew_]; omega) | (simp only [World.size_alloc, size_drew_]; omega)))
    clear D_16
    have R_17 := Lib.hid (R_16.out.other X_16.out hm.grown (by first | omega | (simp only [World.size_alloc]; omega) | (simp only [size_drew_]; omega) | (simp only [World.size_alloc, size_drew_]; omega)))
    clear R_16
    have OR_17 := Lib.hid (OR_16.out.far X_16.out hm.grown (by first | omega | (simp only [World.size_alloc]; omega) | (simp only [size_drew_]; omega) | (simp only [World.size_alloc, size_drew_]; omega)))
    clear OR_16
    have OF_17 := Lib.hid (OF_16.out.far X_16.out hm.grown (by first | omega | (simp only [World.size_alloc]; omega) | (simp only [size_drew_]; omega) | (simp only [World.size_alloc, size_drew_]; omega)))
    clear OF_16
    have OX_17 := Lib.hid (OX_16.out.far X_16.out hm.grown (by first | omega | (simp only [World.size_alloc]; omega) | (simp only [size_drew_]; omega) | (simp only [World.size_alloc, size_drew_]; omega)))
    clear OX_16
    have G_17 := Lib.hid (G_16.out.other X_16.out hm.grown (by first | omega | (simp only [World.size_alloc]; omega) | (simp only [size_drew_]; omega) | (simp only [World.size_alloc, size_drew_]; omega)))
    clear G_16
    have OG_17 := Lib.hid (OG_16.out.far X_16.out hm.grown (by first | omega | (simp only [World.size_alloc]; omega) | (simp only [size_drew_]; omega) | (simp only [World.size_alloc, size_drew_]; omega)))
    clear OG_16
    have OGF_17 := Lib.hid (OGF_16.out.far X_16.out hm.grown (by first | omega | (simp only [World.size_alloc]; omega) | (simp only [size_drew_]; omega) | (simp only [World.size_alloc, size_drew_]; omega)))
    clear OGF_16
    have BB_17 := Lib.hid (BB_16.out.trans (hb.mono (by first | omega | (simp only [World.size_alloc]; omega) | (simp only [size_drew_]; omega) | (simp only [World.size_alloc, size_drew_]; omega))))
    clear BB_16
    clear X_16
    have s17 := hb.size
    clear hb hm
    have qOG_17 := OG_17.out.cell
    have qOGF_17 := OGF_17.out.cell
    have qOR_17 := OR_17.out.cell
    have qOF_17 := OF_17.out.cell
    go_wp2_with fail
    refine (eqDecoder_any _ _ _ _ _ _ bd L _ _ _ G_17.out.nums R_17.out.nums rfl rfl (Nat.le_refl _) (Nat.le_refl _)).mono ?_
    rintro e w18 ⟨rfl, hb⟩
    clear qOG_17 qOGF_17 qOR_17 qOF_17
    have A_18 := Lib.hid (A_17.out.below (hb.mono (by first | omega | (simp only [World.size_alloc]; omega) | (simp only [size_drew_]; omega) | (simp only [World.size_alloc, size_drew_]; omega))))
    clear A_17
    have F_18 := Lib.hid (F_17.out.below (hb.mono (by first | omega | (simp only [World.size_alloc]; omega) | (simp only [size_drew_]; omega) | (simp only [World.size_alloc, size_drew_]; omega))))
    clear F_17
    have D_18 := Lib.hid (D_17.out.below hb)
    clear D_17
    have R_18 := Lib.hid (R_17.out.below hb (by first | omega | (simp only [World.size_alloc]; omega) | (simp only [size_drew_]; omega) | (simp only [World.size_alloc, size_drew_]; omega)))
    clear R_17
    have OR_18 := Lib.hid (OR_17.out.below hb)
    clear OR_17
    have OF_18 := Lib.hid (OF_17.out.below hb)
    clear OF_17
    have X_18 := Lib.hid (X_17.out.below hb (by first | omega | (simp only [World.size_alloc]; omega) | (simp only [size_drew_]; omega) | (simp only [World.size_alloc, size_drew_]; omega)))
    clear X_17
    have OX_18 := Lib.hid (OX_17.out.below hb)
    clear OX_17
    have G_18 := Lib.hid (G_17.out.below hb (by first | omega | (simp only [World.size_alloc]; omega) | (simp only [size_drew_]; omega) | (simp only [World.size_alloc, size_drew_]; omega)))
    clear G_17
    have OG_18 := Lib.hid (OG_17.out.below hb)
    clear OG_17
    have OGF_18 := Lib.hid (OGF_17.out.below hb)
    clear OGF_17
    have BB_18 := Lib.hid (BB_17.out.trans (hb.mono (by first | omega | (simp only [World.size_alloc]; omega) | (simp only [size_drew_]; omega) | (simp only [World.size_alloc, size_drew_]; omega))))
    clear BB_17
    have s18 := hb.size
    clear hb
    have qOG_18 := OG_18.out.cell
    have qOGF_18 := OGF_18.out.cell
    have qOR_18 := OR_18.out.cell
    have qOF_18 := OF_18.out.cell
    go_wp2_with fail
    refine (eqFrame_any k y t v _).mono ?_
    rintro e w19 ⟨rfl, hb⟩
    clear qOG_18 qOGF_18 qOR_18 qOF_18
    have A_19 := Lib.hid (A_18.out.below (hb.mono (by first | omega | (simp only [World.size_alloc]; omega) | (simp only [size_drew_]; omega) | (simp only [World.size_alloc, size_drew_]; omega))))
    clear A_18
    have F_19 := Lib.hid (F_18.out.below (hb.mono (by first | omega | (simp only [World.size_alloc]; omega) | (simp only [size_drew_]; omega) | (simp only [World.size_alloc, size_drew_]; omega))))
    clear F_18
    have D_19 := Lib.hid (D_18.out.below hb)
    clear D_18
    have R_19 := Lib.hid (R_18.out.below hb (by first | omega | (simp only [World.size_alloc]; omega) | (simp only [size_drew_]; omega) | (simp only [World.size_alloc, size_drew_]; omega)))
    clear R_18
    have OR_19 := Lib.hid (OR_18.out.below hb)
    clear OR_18
    have OF_19 := Lib.hid (OF_18.out.below hb)
    clear OF_18
    have X_19 := Lib.hid (X_18.out.below hb (by first | omega | (simp only [World.size_alloc]; omega) | (simp only [size_drew_]; omega) | (simp only [World.size_alloc, size_drew_]; omega)))
    clear X_18
    have OX_19 := Lib.hid (OX_18.out.below hb)
    clear OX_18
    have G_19 := Lib.hid (G_18.out.below hb (by first | omega | (simp only [World.size_alloc]; omega) | (simp only [size_drew_]; omega) | (simp only [World.size_alloc, size_drew_]; omega)))
    clear G_18
    have OG_19 := Lib.hid (OG_18.out.below hb)
    clear OG_18
    have OGF_19 := Lib.hid (OGF_18.out.below hb)
    clear OGF_18
    have BB_19 := Lib.hid (BB_18.out.trans (hb.mono (by first | omega | (simp only [World.size_alloc]; omega) | (simp only [size_drew_]; omega) | (simp only [World.size_alloc, size_drew_]; omega))))
    clear BB_18
    have s19 := hb.size
    clear hb
    have qOG_19 := OG_19.out.cell
    go_wp2_with fail
    refine (markDecoder_m _ _ _ 1 bd _ L _ _ G_19.out.own rfl rfl (by first | omega | (simp only [World.size_alloc]; omega) | (simp only [size_drew_]; omega) | (simp only [World.size_alloc, size_drew_]; omega)) (by omega) (by omega)).mono ?_
    rintro e w20 ⟨rfl, hm⟩
    clear qOG_19
    have hb := hm.below
    have G_20 := Lib.hid (Rw.mk hm.own G_19.out.up)
    have A_20 := Lib.hid (A_19.out.below (hb.mono (by first | omega | (simp only [World.size_alloc]; omega) | (simp only [size_drew_]; omega) | (simp only [World.size_alloc, size_drew_]; omega))))
    clear A_19
    have F_20 := Lib.hid (F_19.out.below (hb.mono (by first | omega | (simp only [World.size_alloc]; omega) | (simp only [size_drew_]; omega) | (simp only [World.size_alloc, size_drew_]; omega))))
    clear F_19
    have D_20 := Lib.hid (D_19.out.far G_19.out hm.grown (by first | omega | (simp only [World.size_alloc]; omega) | (simp only [size_drew_]; omega) | (simp only [World.size_alloc, size_drew_]; omega)))
    clear D_19
    have R_20 := Lib.hid (R_19.out.other G_19.out hm.grown (by first | omega | (simp only [World.size_alloc]; omega) | (simp only [size_drew_]; omega) | (simp only [World.size_alloc, size_drew_]; omega)))
    clear R_19
    have OR_20 := Lib.hid (OR_19.out.far G_19.out hm.grown (by first | omega | (simp only [World.size_alloc]; omega) | (simp only [size_drew_]; omega) | (simp only [World.size_alloc, size_drew_]; omega)))
    clear OR_19
    have OF_20 := Lib.hid (OF_19.out.far G_19.out hm.grown (by first | omega | (simp only [World.size_alloc]; omega) | (simp only [size_drew_]; omega) | (simp only [World.size_alloc, size_drew_]; omega)))
    clear OF_19
    have X_20 := Lib.hid (X_19.out.other G_19.out hm.grown (by first | omega | (simp only [World.size_alloc]; omega) | (simp only [size_drew_]; omega) | (simp only [World.size_alloc, size_drew_]; omega)))
    clear X_19
    have OX_20 := Lib.hid (OX_19.out.far G_19.out hm.grown (by first | omega | (simp only [World.size_alloc]; omega) | (simp only [size_drew_]; omega) | (simp only [World.size_alloc, size_drew_]; omega)))
    clear OX_19
    have OG_20 := Lib.hid (OG_19.out.far G_19.out hm.grown (by first | omega | (simp only [World.size_alloc]; omega) | (simp only [size_drew_]; omega) | (simp only [World.size_alloc, size_drew_]; omega)))
    clear OG_19
    have OGF_20 := Lib.hid (OGF_19.out.far G_19.out hm.grown (by first | omega | (simp only [World.size_alloc]; omega) | (simp only [size_drew_]; omega) | (simp only [World.size_alloc, size_drew_]; omega)))
    clear OGF_19
    have BB_20 := Lib.hid (BB_19.out.trans (hb.mono (by first | omega | (simp only [World.size_alloc]; omega) | (simp only [size_drew_]; omega) | (simp only [World.size_alloc, size_drew_]; omega))))
    clear BB_19
    clear G_19
    have s20 := hb.size
    clear hb hm
    have qOG_20 := OG_20.out.cell
    go_wp2_with fail
    refine (heldDecoder_m _ _ _ 1 bd _ _ _ G_20.out.nums (Nat.le_refl _) rfl (by omega) (by omega)).mono ?_
    rintro e w21 ⟨rfl, hb⟩
    clear qOG_20
    have A_21 := Lib.hid (A_20.out.below (hb.mono (by first | omega | (simp only [World.size_alloc]; omega) | (simp only [size_drew_]; omega) | (simp only [World.size_alloc, size_drew_]; omega))))
    clear A_20
    have F_21 := Lib.hid (F_20.out.below (hb.mono (by first | omega | (simp only [World.size_alloc]; omega) | (simp only [size_drew_]; omega) | (simp only [World.size_alloc, size_drew_]; omega))))
    clear F_20
    have D_21 := Lib.hid (D_20.out.below hb)
    clear D_20
    have R_21 := Lib.hid (R_20.out.below hb (by first | omega | (simp only [World.size_alloc]; omega) | (simp only [size_drew_]; omega) | (simp only [World.size_alloc, size_drew_]; omega)))
    clear R_20
    have OR_21 := Lib.hid (OR_20.out.below hb)
    clear OR_20
    have OF_21 := Lib.hid (OF_20.out.below hb)
    clear OF_20
    have X_21 := Lib.hid (X_20.out.below hb (by first | omega | (simp only [World.size_alloc]; omega) | (simp only [size_drew_]; omega) | (simp only [World.size_alloc, size_drew_]; omega)))
    clear X_20
    have OX_21 := Lib.hid (OX_20.out.below hb)
    clear OX_20
    have G_21 := Lib.hid (G_20.out.below hb (by first | omega | (simp only [World.size_alloc]; omega) | (simp only [size_drew_]; omega) | (simp only [World.size_alloc, size_drew_]; omega)))
    clear G_20
    have OG_21 := Lib.hid (OG_20.out.below hb)
    clear OG_20
    have OGF_21 := Lib.hid (OGF_20.out.below hb)
    clear OGF_20
    have BB_21 := Lib.hid (BB_20.out.trans (hb.mono (by first | omega | (simp only [World.size_alloc]; omega) | (simp only [size_drew_]; omega) | (simp only [World.size_alloc, size_drew_]; omega))))
    clear BB_20
    have s21 := hb.size
    clear hb
    have qD_21 := D_21.out.cell
    go_wp2_with fail
    refine (toDecoder_any a _ c b xs _ _ A_21.out rfl (by first | omega | (simp only [World.size_alloc]; omega) | (simp only [size_drew_]; omega) | (simp only [World.size_alloc, size_drew_]; omega)) hle).mono ?_
    rintro e w22 ⟨a22, c22, rfl, ho, hb⟩
    clear qD_21
    have A_22 := Lib.hid (A_21.out.below (hb.mono (by first | omega | (simp only [World.size_alloc]; omega) | (simp only [size_drew_]; omega) | (simp only [World.size_alloc, size_drew_]; omega))))
    clear A_21
    have F_22 := Lib.hid (F_21.out.below (hb.mono (by first | omega | (simp only [World.size_alloc]; omega) | (simp only [size_drew_]; omega) | (simp only [World.size_alloc, size_drew_]; omega))))
    clear F_21
    have D_22 := Lib.hid (D_21.out.below hb)
    clear D_21
    have R_22 := Lib.hid (R_21.out.below hb (by first | omega | (simp only [World.size_alloc]; omega) | (simp only [size_drew_]; omega) | (simp only [World.size_alloc, size_drew_]; omega)))
    clear R_21
    have OR_22 := Lib.hid (OR_21.out.below hb)
    clear OR_21
    have OF_22 := Lib.hid (OF_21.out.below hb)
    clear OF_21
    have X_22 := Lib.hid (X_21.out.below hb (by first | omega | (simp only [World.size_alloc]; omega) | (simp only [size_drew_]; omega) | (simp only [World.size_alloc, size_drew_]; omega)))
    clear X_21
    have OX_22 := Lib.hid (OX_21.out.below hb)
    clear OX_21
    have G_22 := Lib.hid (G_21.out.below hb (by first | omega | (simp only [World.size_alloc]; omega) | (simp only [size_drew_]; omega) | (simp only [World.size_alloc, size_drew_]; omega)))
    clear G_21
    have OG_22 := Lib.hid (OG_21.out.below hb)
    clear OG_21
    have OGF_22 := Lib.hid (OGF_21.out.below hb)
    clear OGF_21
    have BB_22 := Lib.hid (BB_21.out.trans (hb.mono (by first | omega | (simp only [World.size_alloc]; omega) | (simp only [size_drew_]; omega) | (simp only [World.size_alloc, size_drew_]; omega))))
    clear BB_21
    have X2_22 := Lib.hid (Rw.new ho)
    clear ho
    have s22 := hb.size
    clear hb
    go_wp2_with fail
    refine (IT.out _ _ _ X2_22.out.nums (F_22.out.more (by first | omega | (simp only [World.size_alloc]; omega) | (simp only [size_drew_]; omega) | (simp only [World.size_alloc, size_drew_]; omega)))).mono ?_
    rintro e w23 ⟨a23, c23, rfl, ho, hb⟩
    have A_23 := Lib.hid (A_22.out.below (hb.mono (by first | omega | (simp only [World.size_alloc]; omega) | (simp only [size_drew_]; omega) | (simp only [World.size_alloc, size_drew_]; omega))))
    clear A_22
    have F_23 := Lib.hid (F_22.out.below (hb.mono (by first | omega | (simp only [World.size_alloc]; omega) | (simp only [size_drew_]; omega) | (simp only [World.size_alloc, size_drew_]; omega))))
    clear F_22
    have D_23 := Lib.hid (D_22.out.below hb)
    clear D_22
    have R_23 := Lib.hid (R_22.out.below hb (by first | omega | (simp only [World.size_alloc]; omega) | (simp only [size_drew_]; omega) | (simp only [World.size_alloc, size_drew_]; omega)))
    clear R_22
    have OR_23 := Lib.hid (OR_22.out.below hb)
    clear OR_22
    have OF_23 := Lib.hid (OF_22.out.below hb)
    clear OF_22
    have X_23 := Lib.hid (X_22.out.below hb (by first | omega | (simp only [World.size_alloc]; omega) | (simp only [size_drew_]; omega) | (simp only [World.size_alloc, size_drew_]; omega)))
    clear X_22
    have OX_23 := Lib.hid (OX_22.out.below hb)
    clear OX_22
    have G_23 := Lib.hid (G_22.out.below hb (by first | omega | (simp only [World.size_alloc]; omega) | (simp only [size_drew_]; omega) | (simp only [World.size_alloc, size_drew_]; omega)))
    clear G_22
    have OG_23 := Lib.hid (OG_22.out.below hb)
    clear OG_22
    have OGF_23 := Lib.hid (OGF_22.out.below hb)
    clear OGF_22
    have X2_23 := Lib.hid (X2_22.out.below hb (by first | omega | (simp only [World.size_alloc]; omega) | (simp only [size_drew_]; omega) | (simp only [World.size_alloc, size_drew_]; omega)))
    clear X2_22
    have BB_23 := Lib.hid (BB_22.out.trans (hb.mono (by first | omega | (simp only [World.size_alloc]; omega) | (simp only [size_drew_]; omega) | (simp only [World.size_alloc, size_drew_]; omega))))
    clear BB_22
    have H__23 := Lib.hid (Rw.new ho)
    clear ho
    have s23 := hb.size
    clear hb
    clear X2_23
    have A_24 := Lib.hid (A_23.out.below (((Below.refl w23.heap.size w23).alloc (Nat.le_refl _) (.cells #[.slice a23 L.length c23, .bool bd] 30)).mono (by first | omega | (simp only [World.size_alloc]; omega) | (simp only [size_drew_]; omega) | (simp only [World.size_alloc, size_drew_]; omega))))
    clear A_23
    have F_24 := Lib.hid (F_23.out.below (((Below.refl w23.heap.size w23).alloc (Nat.le_refl _) (.cells #[.slice a23 L.length c23, .bool bd] 30)).mono (by first | omega | (simp only [World.size_alloc]; omega) | (simp only [size_drew_]; omega) | (simp only [World.size_alloc, size_drew_]; omega))))
    clear F_23
    have D_24 := Lib.hid (D_23.out.alloc (.cells #[.slice a23 L.length c23, .bool bd] 30))
    clear D_23
    have R_24 := Lib.hid (R_23.out.below ((Below.refl w23.heap.size w23).alloc (Nat.le_refl _) (.cells #[.slice a23 L.length c23, .bool bd] 30)) (by first | omega | (simp only [World.size_alloc]; omega) | (simp only [size_drew_]; omega) | (simp only [World.size_alloc, size_drew_]; omega)))
    clear R_23
    have OR_24 := Lib.hid (OR_23.out.alloc (.cells #[.slice a23 L.length c23, .bool bd] 30))
    clear OR_23
    have OF_24 := Lib.hid (OF_23.out.alloc (.cells #[.slice a23 L.length c23, .bool bd] 30))
    clear OF_23
    have X_24 := Lib.hid (X_23.out.below ((Below.refl w23.heap.size w23).alloc (Nat.le_refl _) (.cells #[.slice a23 L.length c23, .bool bd] 30)) (by first | omega | (simp only [World.size_alloc]; omega) | (simp only [size_drew_]; omega) | (simp only [World.size_alloc, size_drew_]; omega)))
    clear X_23
    have OX_24 := Lib.hid (OX_23.out.alloc (.cells #[.slice a23 L.length c23, .bool bd] 30))
    clear OX_23
    have G_24 := Lib.hid (G_23.out.below ((Below.refl w23.heap.size w23).alloc (Nat.le_refl _) (.cells #[.slice a23 L.length c23, .bool bd] 30)) (by first | omega | (simp only [World.size_alloc]; omega) | (simp only [size_drew_]; omega) | (simp only [World.size_alloc, size_drew_]; omega)))
    clear G_23
    have OG_24 := Lib.hid (OG_23.out.alloc (.cells #[.slice a23 L.length c23, .bool bd] 30))
    clear OG_23
    have OGF_24 := Lib.hid (OGF_23.out.alloc (.cells #[.slice a23 L.length c23, .bool bd] 30))
    clear OGF_23
    have H__24 := Lib.hid (H__23.out.below ((Below.refl w23.heap.size w23).alloc (Nat.le_refl _) (.cells #[.slice a23 L.length c23, .bool bd] 30)) (by first | omega | (simp only [World.size_alloc]; omega) | (simp only [size_drew_]; omega) | (simp only [World.size_alloc, size_drew_]; omega)))
    clear H__23
    have BB_24 := Lib.hid (BB_23.out.alloc (by first | omega | (simp only [World.size_alloc]; omega) | (simp only [size_drew_]; omega) | (simp only [World.size_alloc, size_drew_]; omega)) (.cells #[.slice a23 L.length c23, .bool bd] 30))
    clear BB_23
    have OH_24 := Lib.hid (Blk.new w23 30 #[.slice a23 L.length c23, .bool bd])
    have A_25 := Lib.hid (A_24.out.below (((Below.refl (w23.alloc (.cells #[.slice a23 L.length c23, .bool bd] 30)).heap.size (w23.alloc (.cells #[.slice a23 L.length c23, .bool bd] 30))).alloc (Nat.le_refl _) (.cells #[.int .i64 k, .int .i64 y, .int .i64 t, .int .i64 v] 36)).mono (by first | omega | (simp only [World.size_alloc]; omega) | (simp only [size_drew_]; omega) | (simp only [World.size_alloc, size_drew_]; omega))))
    clear A_24
    have F_25 := Lib.hid (F_24.out.below (((Below.refl (w23.alloc (.cells #[.slice a23 L.length c23, .bool bd] 30)).heap.size (w23.alloc (.cells #[.slice a23 L.length c23, .bool bd] 30))).alloc (Nat.le_refl _) (.cells #[.int .i64 k, .int .i64 y, .int .i64 t, .int .i64 v] 36)).mono (by first | omega | (simp only [World.size_alloc]; omega) | (simp only [size_drew_]; omega) | (simp only [World.size_alloc, size_drew_]; omega))))
    clear F_24
    have D_25 := Lib.hid (D_24.out.alloc (.cells #[.int .i64 k, .int .i64 y, .int .i64 t, .int .i64 v] 36))
    clear D_24
    have R_25 := Lib.hid (R_24.out.below ((Below.refl (w23.alloc (.cells #[.slice a23 L.length c23, .bool bd] 30)).heap.size (w23.alloc (.cells #[.slice a23 L.length c23, .bool bd] 30))).alloc (Nat.le_refl _) (.cells #[.int .i64 k, .int .i64 y, .int .i64 t, .int .i64 v] 36)) (by first | omega | (simp only [World.size_alloc]; omega) | (simp only [size_drew_]; omega) | (simp only [World.size_alloc, size_drew_]; omega)))
    clear R_24
    have OR_25 := Lib.hid (OR_24.out.alloc (.cells #[.int .i64 k, .int .i64 y, .int .i64 t, .int .i64 v] 36))
    clear OR_24
    have OF_25 := Lib.hid (OF_24.out.alloc (.cells #[.int .i64 k, .int .i64 y, .int .i64 t, .int .i64 v] 36))
    clear OF_24
    have X_25 := Lib.hid (X_24.out.below ((Below.refl (w23.alloc (.cells #[.slice a23 L.length c23, .bool bd] 30)).heap.size (w23.alloc (.cells #[.slice a23 L.length c23, .bool bd] 30))).alloc (Nat.le_refl _) (.cells #[.int .i64 k, .int .i64 y, .int .i64 t, .int .i64 v] 36)) (by first | omega | (simp only [World.size_alloc]; omega) | (simp only [size_drew_]; omega) | (simp only [World.size_alloc, size_drew_]; omega)))
    clear X_24
    have OX_25 := Lib.hid (OX_24.out.alloc (.cells #[.int .i64 k, .int .i64 y, .int .i64 t, .int .i64 v] 36))
    clear OX_24
    have G_25 := Lib.hid (G_24.out.below ((Below.refl (w23.alloc (.cells #[.slice a23 L.length c23, .bool bd] 30)).heap.size (w23.alloc (.cells #[.slice a23 L.length c23, .bool bd] 30))).alloc (Nat.le_refl _) (.cells #[.int .i64 k, .int .i64 y, .int .i64 t, .int .i64 v] 36)) (by first | omega | (simp only [World.size_alloc]; omega) | (simp only [size_drew_]; omega) | (simp only [World.size_alloc, size_drew_]; omega)))
    clear G_24
    have OG_25 := Lib.hid (OG_24.out.alloc (.cells #[.int .i64 k, .int .i64 y, .int .i64 t, .int .i64 v] 36))
    clear OG_24
    have OGF_25 := Lib.hid (OGF_24.out.alloc (.cells #[.int .i64 k, .int .i64 y, .int .i64 t, .int .i64 v] 36))
    clear OGF_24
    have H__25 := Lib.hid (H__24.out.below ((Below.refl (w23.alloc (.cells #[.slice a23 L.length c23, .bool bd] 30)).heap.size (w23.alloc (.cells #[.slice a23 L.length c23, .bool bd] 30))).alloc (Nat.le_refl _) (.cells #[.int .i64 k, .int .i64 y, .int .i64 t, .int .i64 v] 36)) (by first | omega | (simp only [World.size_alloc]; omega) | (simp only [size_drew_]; omega) | (simp only [World.size_alloc, size_drew_]; omega)))
    clear H__24
    have OH_25 := Lib.hid (OH_24.out.alloc (.cells #[.int .i64 k, .int .i64 y, .int .i64 t, .int .i64 v] 36))
    clear OH_24
    have BB_25 := Lib.hid (BB_24.out.alloc (by first | omega | (simp only [World.size_alloc]; omega) | (simp only [size_drew_]; omega) | (simp only [World.size_alloc, size_drew_]; omega)) (.cells #[.int .i64 k, .int .i64 y, .int .i64 t, .int .i64 v] 36))
    clear BB_24
    have OHF_25 : Hid (Blk ((w23.alloc (.cells #[.slice a23 L.length c23, .bool bd] 30)).alloc (.cells #[.int .i64 k, .int .i64 y, .int .i64 t, .int .i64 v] 36)) (w23.heap.size + 1) 36 #[.int .i64 k, .int .i64 y, .int .i64 t, .int .i64 v]) := by
      have hh := Blk.new (w23.alloc (.cells #[.slice a23 L.length c23, .bool bd] 30)) 36 #[.int .i64 k, .int .i64 y, .int .i64 t, .int .i64 v]
      simp only [World.size_alloc] at hh
      exact hh
    have qOH_25 := OH_25.out.cell
    have qOHF_25 := OHF_25.out.cell
    have qOR_25 := OR_25.out.cell
    have qOF_25 := OF_25.out.cell
    go_wp2_with fail
    refine (eqDecoder_any _ _ _ _ _ _ bd L _ _ _ H__25.out.nums R_25.out.nums rfl rfl (Nat.le_refl _) (Nat.le_refl _)).mono ?_
    rintro e w26 ⟨rfl, hb⟩
    clear qOH_25 qOHF_25 qOR_25 qOF_25
    have A_26 := Lib.hid (A_25.out.below (hb.mono (by first | omega | (simp only [World.size_alloc]; omega) | (simp only [size_drew_]; omega) | (simp only [World.size_alloc, size_drew_]; omega))))
    clear A_25
    have F_26 := Lib.hid (F_25.out.below (hb.mono (by first | omega | (simp only [World.size_alloc]; omega) | (simp only [size_drew_]; omega) | (simp only [World.size_alloc, size_drew_]; omega))))
    clear F_25
    have D_26 := Lib.hid (D_25.out.below hb)
    clear D_25
    have R_26 := Lib.hid (R_25.out.below hb (by first | omega | (simp only [World.size_alloc]; omega) | (simp only [size_drew_]; omega) | (simp only [World.size_alloc, size_drew_]; omega)))
    clear R_25
    have OR_26 := Lib.hid (OR_25.out.below hb)
    clear OR_25
    have OF_26 := Lib.hid (OF_25.out.below hb)
    clear OF_25
    have X_26 := Lib.hid (X_25.out.below hb (by first | omega | (simp only [World.size_alloc]; omega) | (simp only [size_drew_]; omega) | (simp only [World.size_alloc, size_drew_]; omega)))
    clear X_25
    have OX_26 := Lib.hid (OX_25.out.below hb)
    clear OX_25
    have G_26 := Lib.hid (G_25.out.below hb (by first | omega | (simp only [World.size_alloc]; omega) | (simp only [size_drew_]; omega) | (simp only [World.size_alloc, size_drew_]; omega)))
    clear G_25
    have OG_26 := Lib.hid (OG_25.out.below hb)
    clear OG_25
    have OGF_26 := Lib.hid (OGF_25.out.below hb)
    clear OGF_25
    have H__26 := Lib.hid (H__25.out.below hb (by first | omega | (simp only [World.size_alloc]; omega) | (simp only [size_drew_]; omega) | (simp only [World.size_alloc, size_drew_]; omega)))
    clear H__25
    have OH_26 := Lib.hid (OH_25.out.below hb)
    clear OH_25
    have OHF_26 := Lib.hid (OHF_25.out.below hb)
    clear OHF_25
    have BB_26 := Lib.hid (BB_25.out.trans (hb.mono (by first | omega | (simp only [World.size_alloc]; omega) | (simp only [size_drew_]; omega) | (simp only [World.size_alloc, size_drew_]; omega))))
    clear BB_25
    have s26 := hb.size
    simp only [World.size_alloc] at s26
    clear hb
    have qOH_26 := OH_26.out.cell
    have qOHF_26 := OHF_26.out.cell
    have qOR_26 := OR_26.out.cell
    have qOF_26 := OF_26.out.cell
    go_wp2_with fail
    refine (eqFrame_any k y t v _).mono ?_
    rintro e w27 ⟨rfl, hb⟩
    clear qOH_26 qOHF_26 qOR_26 qOF_26
    have A_27 := Lib.hid (A_26.out.below (hb.mono (by first | omega | (simp only [World.size_alloc]; omega) | (simp only [size_drew_]; omega) | (simp only [World.size_alloc, size_drew_]; omega))))
    clear A_26
    have F_27 := Lib.hid (F_26.out.below (hb.mono (by first | omega | (simp only [World.size_alloc]; omega) | (simp only [size_drew_]; omega) | (simp only [World.size_alloc, size_drew_]; omega))))
    clear F_26
    have D_27 := Lib.hid (D_26.out.below hb)
    clear D_26
    have R_27 := Lib.hid (R_26.out.below hb (by first | omega | (simp only [World.size_alloc]; omega) | (simp only [size_drew_]; omega) | (simp only [World.size_alloc, size_drew_]; omega)))
    clear R_26
    have OR_27 := Lib.hid (OR_26.out.below hb)
    clear OR_26
    have OF_27 := Lib.hid (OF_26.out.below hb)
    clear OF_26
    have X_27 := Lib.hid (X_26.out.below hb (by first | omega | (simp only [World.size_alloc]; omega) | (simp only [size_drew_]; omega) | (simp only [World.size_alloc, size_drew_]; omega)))
    clear X_26
    have OX_27 := Lib.hid (OX_26.out.below hb)
    clear OX_26
    have G_27 := Lib.hid (G_26.out.below hb (by first | omega | (simp only [World.size_alloc]; omega) | (simp only [size_drew_]; omega) | (simp only [World.size_alloc, size_drew_]; omega)))
    clear G_26
    have OG_27 := Lib.hid (OG_26.out.below hb)
    clear OG_26
    have OGF_27 := Lib.hid (OGF_26.out.below hb)
    clear OGF_26
    have H__27 := Lib.hid (H__26.out.below hb (by first | omega | (simp only [World.size_alloc]; omega) | (simp only [size_drew_]; omega) | (simp only [World.size_alloc, size_drew_]; omega)))
    clear H__26
    have OH_27 := Lib.hid (OH_26.out.below hb)
    clear OH_26
    have OHF_27 := Lib.hid (OHF_26.out.below hb)
    clear OHF_26
    have BB_27 := Lib.hid (BB_26.out.trans (hb.mono (by first | omega | (simp only [World.size_alloc]; omega) | (simp only [size_drew_]; omega) | (simp only [World.size_alloc, size_drew_]; omega))))
    clear BB_26
    have s27 := hb.size
    clear hb
    have qOG_27 := OG_27.out.cell
    go_wp2_with fail
    refine (heldDecoder_m _ _ _ 1 bd _ _ _ G_27.out.nums (Nat.le_refl _) rfl (by omega) (by omega)).mono ?_
    rintro e w28 ⟨rfl, hb⟩
    clear qOG_27
    have A_28 := Lib.hid (A_27.out.below (hb.mono (by first | omega | (simp only [World.size_alloc]; omega) | (simp only [size_drew_]; omega) | (simp only [World.size_alloc, size_drew_]; omega))))
    clear A_27
    have F_28 := Lib.hid (F_27.out.below (hb.mono (by first | omega | (simp only [World.size_alloc]; omega) | (simp only [size_drew_]; omega) | (simp only [World.size_alloc, size_drew_]; omega))))
    clear F_27
    have D_28 := Lib.hid (D_27.out.below hb)
    clear D_27
    have R_28 := Lib.hid (R_27.out.below hb (by first | omega | (simp only [World.size_alloc]; omega) | (simp only [size_drew_]; omega) | (simp only [World.size_alloc, size_drew_]; omega)))
    clear R_27
    have OR_28 := Lib.hid (OR_27.out.below hb)
    clear OR_27
    have OF_28 := Lib.hid (OF_27.out.below hb)
    clear OF_27
    have X_28 := Lib.hid (X_27.out.below hb (by first | omega | (simp only [World.size_alloc]; omega) | (simp only [size_drew_]; omega) | (simp only [World.size_alloc, size_drew_]; omega)))
    clear X_27
    have OX_28 := Lib.hid (OX_27.out.below hb)
    clear OX_27
    have G_28 := Lib.hid (G_27.out.below hb (by first | omega | (simp only [World.size_alloc]; omega) | (simp only [size_drew_]; omega) | (simp only [World.size_alloc, size_drew_]; omega)))
    clear G_27
    have OG_28 := Lib.hid (OG_27.out.below hb)
    clear OG_27
    have OGF_28 := Lib.hid (OGF_27.out.below hb)
    clear OGF_27
    have H__28 := Lib.hid (H__27.out.below hb (by first | omega | (simp only [World.size_alloc]; omega) | (simp only [size_drew_]; omega) | (simp only [World.size_alloc, size_drew_]; omega)))
    clear H__27
    have OH_28 := Lib.hid (OH_27.out.below hb)
    clear OH_27
    have OHF_28 := Lib.hid (OHF_27.out.below hb)
    clear OHF_27
    have BB_28 := Lib.hid (BB_27.out.trans (hb.mono (by first | omega | (simp only [World.size_alloc]; omega) | (simp only [size_drew_]; omega) | (simp only [World.size_alloc, size_drew_]; omega))))
    clear BB_27
    have s28 := hb.size
    clear hb
    go_wp2
    go_ret
    exact ⟨rfl, BB_28.out⟩

theorem plainList : (Rows.fnExactTakeNextRow.laid.all fun x => x.2.handleName?.isNone) = true := by kernel_rfl
noncomputable def world (os : Os) : World := World.laidAll Tryd.prog os Rows.fnExactTakeNextRow.laid
theorem world_shaped (os : Os) : ((world os).forCall (fun _ _ => 0) ⟨#[], #[.agg #[.slice none 0 0, .bool false]], []⟩).Shaped Tryd.prog := World.shaped_of_ZipB (by kernel_rfl) (by kernel_rfl)
theorem world_laid (os : Os) : laidMetH Tryd.prog Rows.fnExactTakeNextRow.laid ((world os).forCall (fun _ _ => 0) ⟨#[], #[.agg #[.slice none 0 0, .bool false]], []⟩).memory := by
  rw [MakeChecks.laidMetH_plain _ _ _ plainList]; exact laidMet_laidAll _ (by kernel_rfl) (by kernel_rfl)

set_option maxRecDepth 100000 in
theorem lifted (os : Os) (started : os.Started) (H : Type) (enc : TypeId × Value → H) (F : Stop.Interp) :
    ReturnsInHanded {} Tryd.checked os 6 .any ((OpenSpec.ofChange Rows.fnExactTakeNextSpec).preRow enc Tryd.prog Tryd.f6 Rows.fnExactTakeNextRow.domain false Rows.fnExactTakeNextRow.laid) (((OpenSpec.ofChange Rows.fnExactTakeNextSpec).at F).post enc Tryd.prog Tryd.f6 false true false false) := by
  refine returnsInHanded_of_row (C := Tryd.checked) (s := OpenSpec.ofChange Rows.fnExactTakeNextSpec) own started (by kernel_rfl) Tryd.func6 ?_ ?_
  · obtain ⟨w, tape, i, h1, h2, h3, h4, ⟨⟨h5, h6⟩, h7⟩, h8⟩ := ChangeSpec.witness_shaped (enc := enc) (C := Tryd.checked) (os := os) (f := 6) (fn := Tryd.f6) (s := Rows.fnExactTakeNextSpec) (conds := Rows.fnExactTakeNextRow.domain) (apart := false) (X := fun w _ => laidMetH Tryd.prog Rows.fnExactTakeNextRow.laid w) false (world os) #[.agg #[.slice none 0 0, .bool false]] 8 (World.laidAll_os _ _ _)
      (world_shaped os) (by kernel_rfl) (by kernel_rfl) (by kernel_rfl) (world_laid os)
    exact ⟨w, tape, i, h1, h2, h3, h4, ⟨⟨h5, h6⟩, h7⟩, h8⟩
  intro W base args ds gs before hval0 hW _ _ _ hL hsh _
  have hval : ∀ (j : Nat) t v, Tryd.f6.params[j]? = some t → args[j]? = some v → Value.okWide Tryd.prog W .any base t v := hval0
  have hW' := hW
  obtain ⟨p, q, hA0, hV, rfl, hfz, hnd⟩ := hW
  have hA : DataW.TrodAll enc Tryd.prog W 0 (fun _ => true) true Tryd.f6.params.toList args.toList ds p := hA0
  rw [Tryd.params6] at hA hval
  obtain ⟨v0, vs0, d0, ds0, p0, q0, hargs, rfl, rfl, h0, r0⟩ := trodAll_cons hA
  obtain ⟨rfl, rfl, rfl⟩ := trodAll_nil r0
  obtain rfl : args = #[v0] := by cases args; simp_all
  have hVb := fun W' (bel : Below W.heap.size W W') => Below.trodVars laidOut bel (by kernel_rfl) hV
  obtain ⟨g1, g2, rfl⟩ := vars_two hV
  obtain ⟨aB, aS, hflt⟩ := flt_of plainList hL
  have lt0 : ∀ x ∈ p0, x.block < W.heap.size := by obtain ⟨m, hm⟩ := h0; exact DataW.trod_lt m _ _ _ hm
  obtain ⟨a0, n0, c0, b0, rfl, xs0, hn0, hb0, hs0⟩ := arg_decoder (hval 0 47 v0 rfl rfl) h0
  clear hA0 hval0
  refine (walk W a0 n0 c0 b0 xs0 hn0 hb0 hs0 aB aS hflt).mono fun e W' ⟨he, bel⟩ => ?_
  subst he
  exact ⟨_, rfl, _, _, _, [], _, _, hW', trodAll_mk1 (shut_bool Tryd.underlying4 _), (trodAll_cons_mk (Below.trod laidOut (by kernel_rfl) (of_decide_eq_true (by kernel_rfl)) h0 bel lt0) trodAll_mk0), hVb W' bel, bel.frame _, fun h => by cases h⟩

theorem said : Rows.FnExactTakeNextSaid :=
  OpenClaim.holds_of_cond 6 Tryd.f6 rfl rfl rfl rfl rfl rfl rfl ⟨rfl, rfl, rfl, rfl, rfl⟩ rfl rfl rfl rfl rfl (by kernel_rfl) Tryd.func6 (by kernel_rfl)
    (of_decide_eq_true (by kernel_rfl)) (by unfold Func.isWrapper; first | (rw [if_pos (by decide +kernel)]; kernel_rfl) | (rw [if_neg (by decide +kernel)]; exact ⟨rfl, rfl⟩))
    (fun os started H enc _ F => by rw [OpenClaim.pre_eq_preRow]; exact lifted os started H enc F)

theorem plain (f : FuncId) (fn : Func) (hf : Tryd.pinned.checked.prog.funcNamed "loop.example/g00728/laws.FnExactTakeNext" = some f) (hfn : Tryd.pinned.checked.prog.funcs[f]? = some fn) :
    true = Tryd.pinned.checked.prog.looks [] ∧ ∀ (j : Nat) t, fn.params[j]? = some t → Tryd.pinned.checked.prog.wantsStandIn t = false := by
  obtain rfl : f = 6 := Option.some.inj ((show Tryd.prog.funcNamed "loop.example/g00728/laws.FnExactTakeNext" = some 6 by kernel_rfl).symm.trans hf) |>.symm
  obtain rfl : fn = Tryd.f6 := (Option.some.inj (Tryd.func6.symm.trans hfn)).symm
  refine ⟨by kernel_rfl, fun j t ht => ?_⟩
  rw [Tryd.params6] at ht
  obtain rfl : t = 47 := by simpa using Array.mem_of_getElem? ht
  exact (show Tryd.prog.wantsStandIn 47 = false by kernel_rfl)

theorem card : Rows.FnExactTakeNextCardSaid :=
  Claim7.holds_tied_plain_at .later [] _ _ _ _ said (fun _ h => by cases h) (by kernel_rfl) (fun _ h => by cases h) fnExactTakeNext_row_tie rfl ⟨rfl, rfl⟩ (by kernel_rfl) rfl plain (by kernel_rfl)
#print axioms card
end Go.Proofs.YtkconbmgljmpfaaDoor.fnExactTakeNext
