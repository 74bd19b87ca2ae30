/- impl.FeedBytes answers as spec.FeedBytes at every decoder and every list of bytes (up to 1048576 bytes each: beyond, the law says nothing), in memory of its own, and leaves both as they were. No conditions. -/
import Derived.Test.YtmiapmgeacleoaaRows
import Derived.Test.YtmiapmgeacleoaaOpen
import Derived.Test.YtmiapmgeacleoaaSpecFeed
import Derived.Test.YtmiapmgeacleoaaHeld
import Derived.WalkSmall
import Derived.WalkKit
import Derived.ProofKit
import Derived.OpenShut
import Derived.ShutString
import Derived.ChangeOld
import Derived.Below
namespace Go.Proofs.Ytmiapmgeacleoaa.fnExactFeedBytes
open Go.ChangeShapes Go.WideShapes Go.ChangeAt Go.RowKit
set_option linter.unusedVariables false

theorem own : ownKnob Try.prog.godebug = none := by kernel_rfl
theorem laidOut : laidOutB Try.prog = true := by kernel_rfl


/-- The comparison, its world by Below. -/
theorem eqBytes_b (a b : Option Addr) (n m ca cb : Nat) (xs : List Int) (ha hb : Nat) (w : World) (h1 : Nums .u8 w ha a ca xs) (h2 : Nums .u8 w hb b cb xs) (hn : n = xs.length) (hm : m = xs.length) :
    Calls Try.prog 14 #[.slice a n ca, .slice b m cb] w fun e w' => e = .returned (.bool true) ∧ Below w.heap.size w w' :=
  (eqBytes_any a b n m ca cb xs ha hb w h1 h2 hn hm).mono fun e w' ⟨he, k, hw⟩ => ⟨he, by rw [hw]; exact below_drewN (Below.refl _ _) k⟩

set_option maxHeartbeats 4000000 in
set_option maxRecDepth 100000 in
theorem walk (w : World) (a : Option Addr) (n c : Nat) (b : Bool) (xs : List Int) (hn : n = xs.length) (hx : IsB xs) (hs : Nums .u8 w w.heap.size a c xs) (a' : Option Addr) (m d : Nat) (ys : List Int) (hm : m = ys.length) (hy : IsB ys) (ht : Nums .u8 w w.heap.size a' d ys) :
    Calls Try.prog 7 #[.agg #[.slice a n c, .bool b], .slice a' m d] w fun e w' => e = .returned (.bool true) ∧ Below w.heap.size w w' := by
  have hc1 := hs.cap
  have hc2 := hs.big
  have hd1 := ht.cap
  have hd2 := ht.big
  subst hn
  subst hm
  have BB := Lib.hid ((Below.refl w.heap.size w).alloc (Nat.le_refl _) (.cells #[.slice a xs.length c, .bool b] 36))
  by_cases hbig : 1048576 < ys.length
  · clear hs ht hx hy
    go_enter Try.func7, Try.ntmps7
    go_wp2
    go_ret
    exact ⟨rfl, BB.out⟩
  have HZ := Lib.hid (fun W => szDecoder_any a xs.length c b W (by omega))
  by_cases hbig2 : 1048576 < xs.length
  · rw [if_pos (by omega)] at HZ
    clear hs ht hx hy
    go_enter Try.func7, Try.ntmps7
    go_wp2_with fail
    refine (HZ.out _).mono ?_
    rintro e w1 ⟨rfl, hb⟩
    have B1 := Lib.hid (BB.out.trans (hb.mono (by simp)))
    clear hb
    go_wp2
    go_ret
    exact ⟨rfl, B1.out⟩
  · have hle : xs.length ≤ 1048576 := by omega
    have hle2 : ys.length ≤ 1048576 := by omega
    rw [if_neg (by omega)] at HZ
    have D0 := Lib.hid (Blk.new w 36 #[.slice a xs.length c, .bool b])
    have A0 := Lib.hid (hs.below ((Below.refl w.heap.size w).alloc (Nat.le_refl _) (.cells #[.slice a xs.length c, .bool b] 36)))
    have E0 := Lib.hid (ht.below ((Below.refl w.heap.size w).alloc (Nat.le_refl _) (.cells #[.slice a xs.length c, .bool b] 36)))
    have SP : Hid (∀ (a1 a2 : Option Addr) (c1 c2 : Nat) (W : World), Nums .u8 W W.heap.size a1 c1 xs → Nums .u8 W W.heap.size a2 c2 ys → Calls Try.prog 24 #[.agg #[.slice a1 xs.length c1, .bool b], .slice a2 ys.length c2] W (FreshDecOk 5 (feedL xs b ys) b (feedOk xs b ys) W)) :=
      fun a1 a2 c1 c2 W h1 h2 => specFeed_any a1 a2 _ c1 _ c2 b xs ys _ _ W h1 h2 rfl rfl (Nat.le_refl _) (Nat.le_refl _) hle
    have IP : Hid (∀ (a1 a2 : Option Addr) (c1 c2 : Nat) (W : World), Nums .u8 W W.heap.size a1 c1 xs → Nums .u8 W W.heap.size a2 c2 ys → Calls Try.prog 25 #[.agg #[.slice a1 xs.length c1, .bool b], .slice a2 ys.length c2] W (FreshDecOk 5 (feedL xs b ys) b (feedOk xs b ys) W)) :=
      fun a1 a2 c1 c2 W h1 h2 => implFeed_any a1 a2 _ c1 _ c2 b xs ys _ _ W h1 h2 rfl rfl (Nat.le_refl _) (Nat.le_refl _) hle hle2
    have hL : (feedL xs b ys).length ≤ 1048576 := feedL_le hle
    generalize feedL xs b ys = L at SP IP hL
    generalize feedOk xs b ys = ok at SP IP
    have hok : (ok != ok) = false := by simp
    clear hs ht hx hy
    go_enter Try.func7, Try.ntmps7
    go_wp2_with fail
    refine (HZ.out _).mono ?_
    rintro e w1 ⟨rfl, hb⟩
    have D_1 := Lib.hid (D0.out.below hb)
    clear D0
    have A_1 := Lib.hid (A0.out.below (hb.mono (by first | omega | (simp only [World.size_alloc]; omega) | (simp only [size_drew_]; omega) | (simp only [World.size_alloc, size_drew_]; omega))))
    clear A0
    have E_1 := Lib.hid (E0.out.below (hb.mono (by first | omega | (simp only [World.size_alloc]; omega) | (simp only [size_drew_]; omega) | (simp only [World.size_alloc, size_drew_]; omega))))
    clear E0
    have BB_1 := Lib.hid (BB.out.trans (hb.mono (by first | omega | (simp only [World.size_alloc]; omega) | (simp only [size_drew_]; omega) | (simp only [World.size_alloc, size_drew_]; omega))))
    clear BB
    have s1 := hb.size
    simp only [World.size_alloc] at s1
    clear hb
    have qD_1 := D_1.out.cell
    go_wp2_with fail
    refine (toDecoder_any a _ c b xs _ _ A_1.out rfl (by first | omega | (simp only [World.size_alloc]; omega) | (simp only [size_drew_]; omega) | (simp only [World.size_alloc, size_drew_]; omega)) hle).mono ?_
    rintro e w2 ⟨a2, c2, rfl, ho, hb⟩
    clear qD_1
    have D_2 := Lib.hid (D_1.out.below hb)
    clear D_1
    have A_2 := Lib.hid (A_1.out.below (hb.mono (by first | omega | (simp only [World.size_alloc]; omega) | (simp only [size_drew_]; omega) | (simp only [World.size_alloc, size_drew_]; omega))))
    clear A_1
    have E_2 := Lib.hid (E_1.out.below (hb.mono (by first | omega | (simp only [World.size_alloc]; omega) | (simp only [size_drew_]; omega) | (simp only [World.size_alloc, size_drew_]; omega))))
    clear E_1
    have BB_2 := Lib.hid (BB_1.out.trans (hb.mono (by first | omega | (simp only [World.size_alloc]; omega) | (simp only [size_drew_]; omega) | (simp only [World.size_alloc, size_drew_]; omega))))
    clear BB_1
    have X1_2 := Lib.hid (Rw.new ho)
    clear ho
    have s2 := hb.size
    clear hb
    go_wp2_with fail
    refine (toBytes_any a' _ d ys _ _ E_2.out rfl (by first | omega | (simp only [World.size_alloc]; omega) | (simp only [size_drew_]; omega) | (simp only [World.size_alloc, size_drew_]; omega)) hle2).mono ?_
    rintro e w3 ⟨a3, c3, rfl, ho, hb⟩
    have D_3 := Lib.hid (D_2.out.below hb)
    clear D_2
    have A_3 := Lib.hid (A_2.out.below (hb.mono (by first | omega | (simp only [World.size_alloc]; omega) | (simp only [size_drew_]; omega) | (simp only [World.size_alloc, size_drew_]; omega))))
    clear A_2
    have E_3 := Lib.hid (E_2.out.below (hb.mono (by first | omega | (simp only [World.size_alloc]; omega) | (simp only [size_drew_]; omega) | (simp only [World.size_alloc, size_drew_]; omega))))
    clear E_2
    have X1_3 := Lib.hid (X1_2.out.below hb (by first | omega | (simp only [World.size_alloc]; omega) | (simp only [size_drew_]; omega) | (simp only [World.size_alloc, size_drew_]; omega)))
    clear X1_2
    have BB_3 := Lib.hid (BB_2.out.trans (hb.mono (by first | omega | (simp only [World.size_alloc]; omega) | (simp only [size_drew_]; omega) | (simp only [World.size_alloc, size_drew_]; omega))))
    clear BB_2
    have Y1_3 := Lib.hid (Rw.new ho)
    clear ho
    have s3 := hb.size
    clear hb
    go_wp2_with fail
    refine (SP.out _ _ _ _ _ X1_3.out.nums Y1_3.out.nums).mono ?_
    rintro e w4 ⟨a4, c4, rfl, ho, hb⟩
    have D_4 := Lib.hid (D_3.out.below hb)
    clear D_3
    have A_4 := Lib.hid (A_3.out.below (hb.mono (by first | omega | (simp only [World.size_alloc]; omega) | (simp only [size_drew_]; omega) | (simp only [World.size_alloc, size_drew_]; omega))))
    clear A_3
    have E_4 := Lib.hid (E_3.out.below (hb.mono (by first | omega | (simp only [World.size_alloc]; omega) | (simp only [size_drew_]; omega) | (simp only [World.size_alloc, size_drew_]; omega))))
    clear E_3
    have X1_4 := Lib.hid (X1_3.out.below hb (by first | omega | (simp only [World.size_alloc]; omega) | (simp only [size_drew_]; omega) | (simp only [World.size_alloc, size_drew_]; omega)))
    clear X1_3
    have Y1_4 := Lib.hid (Y1_3.out.below hb (by first | omega | (simp only [World.size_alloc]; omega) | (simp only [size_drew_]; omega) | (simp only [World.size_alloc, size_drew_]; omega)))
    clear Y1_3
    have BB_4 := Lib.hid (BB_3.out.trans (hb.mono (by first | omega | (simp only [World.size_alloc]; omega) | (simp only [size_drew_]; omega) | (simp only [World.size_alloc, size_drew_]; omega))))
    clear BB_3
    have R_4 := Lib.hid (Rw.new ho)
    clear ho
    have s4 := hb.size
    clear hb
    clear X1_4 Y1_4
    have D_5 := Lib.hid (D_4.out.alloc (.cells #[.slice a4 L.length c4, .bool b] 39))
    clear D_4
    have A_5 := Lib.hid (A_4.out.below (((Below.refl w4.heap.size w4).alloc (Nat.le_refl _) (.cells #[.slice a4 L.length c4, .bool b] 39)).mono (by first | omega | (simp only [World.size_alloc]; omega) | (simp only [size_drew_]; omega) | (simp only [World.size_alloc, size_drew_]; omega))))
    clear A_4
    have E_5 := Lib.hid (E_4.out.below (((Below.refl w4.heap.size w4).alloc (Nat.le_refl _) (.cells #[.slice a4 L.length c4, .bool b] 39)).mono (by first | omega | (simp only [World.size_alloc]; omega) | (simp only [size_drew_]; omega) | (simp only [World.size_alloc, size_drew_]; omega))))
    clear E_4
    have R_5 := Lib.hid (R_4.out.below ((Below.refl w4.heap.size w4).alloc (Nat.le_refl _) (.cells #[.slice a4 L.length c4, .bool b] 39)) (by first | omega | (simp only [World.size_alloc]; omega) | (simp only [size_drew_]; omega) | (simp only [World.size_alloc, size_drew_]; omega)))
    clear R_4
    have BB_5 := Lib.hid (BB_4.out.alloc (by first | omega | (simp only [World.size_alloc]; omega) | (simp only [size_drew_]; omega) | (simp only [World.size_alloc, size_drew_]; omega)) (.cells #[.slice a4 L.length c4, .bool b] 39))
    clear BB_4
    have OR_5 := Lib.hid (Blk.new w4 39 #[.slice a4 L.length c4, .bool b])
    have qD_5 := D_5.out.cell
    go_wp2_with fail
    refine (toDecoder_any a _ c b xs _ _ A_5.out rfl (by first | omega | (simp only [World.size_alloc]; omega) | (simp only [size_drew_]; omega) | (simp only [World.size_alloc, size_drew_]; omega)) hle).mono ?_
    rintro e w6 ⟨a6, c6, rfl, ho, hb⟩
    clear qD_5
    have D_6 := Lib.hid (D_5.out.below hb)
    clear D_5
    have A_6 := Lib.hid (A_5.out.below (hb.mono (by first | omega | (simp only [World.size_alloc]; omega) | (simp only [size_drew_]; omega) | (simp only [World.size_alloc, size_drew_]; omega))))
    clear A_5
    have E_6 := Lib.hid (E_5.out.below (hb.mono (by first | omega | (simp only [World.size_alloc]; omega) | (simp only [size_drew_]; omega) | (simp only [World.size_alloc, size_drew_]; omega))))
    clear E_5
    have R_6 := Lib.hid (R_5.out.below hb (by first | omega | (simp only [World.size_alloc]; omega) | (simp only [size_drew_]; omega) | (simp only [World.size_alloc, size_drew_]; omega)))
    clear R_5
    have OR_6 := Lib.hid (OR_5.out.below hb)
    clear OR_5
    have BB_6 := Lib.hid (BB_5.out.trans (hb.mono (by first | omega | (simp only [World.size_alloc]; omega) | (simp only [size_drew_]; omega) | (simp only [World.size_alloc, size_drew_]; omega))))
    clear BB_5
    have X_6 := Lib.hid (Rw.new ho)
    clear ho
    have s6 := hb.size
    simp only [World.size_alloc] at s6
    clear hb
    have D_7 := Lib.hid (D_6.out.alloc (.cells #[.slice a6 xs.length c6, .bool b] 39))
    clear D_6
    have A_7 := Lib.hid (A_6.out.below (((Below.refl w6.heap.size w6).alloc (Nat.le_refl _) (.cells #[.slice a6 xs.length c6, .bool b] 39)).mono (by first | omega | (simp only [World.size_alloc]; omega) | (simp only [size_drew_]; omega) | (simp only [World.size_alloc, size_drew_]; omega))))
    clear A_6
    have E_7 := Lib.hid (E_6.out.below (((Below.refl w6.heap.size w6).alloc (Nat.le_refl _) (.cells #[.slice a6 xs.length c6, .bool b] 39)).mono (by first | omega | (simp only [World.size_alloc]; omega) | (simp only [size_drew_]; omega) | (simp only [World.size_alloc, size_drew_]; omega))))
    clear E_6
    have R_7 := Lib.hid (R_6.out.below ((Below.refl w6.heap.size w6).alloc (Nat.le_refl _) (.cells #[.slice a6 xs.length c6, .bool b] 39)) (by first | omega | (simp only [World.size_alloc]; omega) | (simp only [size_drew_]; omega) | (simp only [World.size_alloc, size_drew_]; omega)))
    clear R_6
    have OR_7 := Lib.hid (OR_6.out.alloc (.cells #[.slice a6 xs.length c6, .bool b] 39))
    clear OR_6
    have X_7 := Lib.hid (X_6.out.below ((Below.refl w6.heap.size w6).alloc (Nat.le_refl _) (.cells #[.slice a6 xs.length c6, .bool b] 39)) (by first | omega | (simp only [World.size_alloc]; omega) | (simp only [size_drew_]; omega) | (simp only [World.size_alloc, size_drew_]; omega)))
    clear X_6
    have BB_7 := Lib.hid (BB_6.out.alloc (by first | omega | (simp only [World.size_alloc]; omega) | (simp only [size_drew_]; omega) | (simp only [World.size_alloc, size_drew_]; omega)) (.cells #[.slice a6 xs.length c6, .bool b] 39))
    clear BB_6
    have OX_7 := Lib.hid (Blk.new w6 39 #[.slice a6 xs.length c6, .bool b])
    go_wp2_with fail
    refine (toBytes_any a' _ d ys _ _ E_7.out rfl (by first | omega | (simp only [World.size_alloc]; omega) | (simp only [size_drew_]; omega) | (simp only [World.size_alloc, size_drew_]; omega)) hle2).mono ?_
    rintro e w8 ⟨a8, c8, rfl, ho, hb⟩
    have D_8 := Lib.hid (D_7.out.below hb)
    clear D_7
    have A_8 := Lib.hid (A_7.out.below (hb.mono (by first | omega | (simp only [World.size_alloc]; omega) | (simp only [size_drew_]; omega) | (simp only [World.size_alloc, size_drew_]; omega))))
    clear A_7
    have E_8 := Lib.hid (E_7.out.below (hb.mono (by first | omega | (simp only [World.size_alloc]; omega) | (simp only [size_drew_]; omega) | (simp only [World.size_alloc, size_drew_]; omega))))
    clear E_7
    have R_8 := Lib.hid (R_7.out.below hb (by first | omega | (simp only [World.size_alloc]; omega) | (simp only [size_drew_]; omega) | (simp only [World.size_alloc, size_drew_]; omega)))
    clear R_7
    have OR_8 := Lib.hid (OR_7.out.below hb)
    clear OR_7
    have X_8 := Lib.hid (X_7.out.below hb (by first | omega | (simp only [World.size_alloc]; omega) | (simp only [size_drew_]; omega) | (simp only [World.size_alloc, size_drew_]; omega)))
    clear X_7
    have OX_8 := Lib.hid (OX_7.out.below hb)
    clear OX_7
    have BB_8 := Lib.hid (BB_7.out.trans (hb.mono (by first | omega | (simp only [World.size_alloc]; omega) | (simp only [size_drew_]; omega) | (simp only [World.size_alloc, size_drew_]; omega))))
    clear BB_7
    have Y_8 := Lib.hid (Rw.new ho)
    clear ho
    have s8 := hb.size
    simp only [World.size_alloc] at s8
    clear hb
    have qOX_8 := OX_8.out.cell
    go_wp2_with fail
    refine (IP.out _ _ _ _ _ X_8.out.nums Y_8.out.nums).mono ?_
    rintro e w9 ⟨a9, c9, rfl, ho, hb⟩
    clear qOX_8
    have D_9 := Lib.hid (D_8.out.below hb)
    clear D_8
    have A_9 := Lib.hid (A_8.out.below (hb.mono (by first | omega | (simp only [World.size_alloc]; omega) | (simp only [size_drew_]; omega) | (simp only [World.size_alloc, size_drew_]; omega))))
    clear A_8
    have E_9 := Lib.hid (E_8.out.below (hb.mono (by first | omega | (simp only [World.size_alloc]; omega) | (simp only [size_drew_]; omega) | (simp only [World.size_alloc, size_drew_]; omega))))
    clear E_8
    have R_9 := Lib.hid (R_8.out.below hb (by first | omega | (simp only [World.size_alloc]; omega) | (simp only [size_drew_]; omega) | (simp only [World.size_alloc, size_drew_]; omega)))
    clear R_8
    have OR_9 := Lib.hid (OR_8.out.below hb)
    clear OR_8
    have X_9 := Lib.hid (X_8.out.below hb (by first | omega | (simp only [World.size_alloc]; omega) | (simp only [size_drew_]; omega) | (simp only [World.size_alloc, size_drew_]; omega)))
    clear X_8
    have OX_9 := Lib.hid (OX_8.out.below hb)
    clear OX_8
    have Y_9 := Lib.hid (Y_8.out.below hb (by first | omega | (simp only [World.size_alloc]; omega) | (simp only [size_drew_]; omega) | (simp only [World.size_alloc, size_drew_]; omega)))
    clear Y_8
    have BB_9 := Lib.hid (BB_8.out.trans (hb.mono (by first | omega | (simp only [World.size_alloc]; omega) | (simp only [size_drew_]; omega) | (simp only [World.size_alloc, size_drew_]; omega))))
    clear BB_8
    have G_9 := Lib.hid (Rw.new ho)
    clear ho
    have s9 := hb.size
    clear hb
    have D_10 := Lib.hid (D_9.out.alloc (.cells #[.slice a9 L.length c9, .bool b] 39))
    clear D_9
    have A_10 := Lib.hid (A_9.out.below (((Below.refl w9.heap.size w9).alloc (Nat.le_refl _) (.cells #[.slice a9 L.length c9, .bool b] 39)).mono (by first | omega | (simp only [World.size_alloc]; omega) | (simp only [size_drew_]; omega) | (simp only [World.size_alloc, size_drew_]; omega))))
    clear A_9
    have E_10 := Lib.hid (E_9.out.below (((Below.refl w9.heap.size w9).alloc (Nat.le_refl _) (.cells #[.slice a9 L.length c9, .bool b] 39)).mono (by first | omega | (simp only [World.size_alloc]; omega) | (simp only [size_drew_]; omega) | (simp only [World.size_alloc, size_drew_]; omega))))
    clear E_9
    have R_10 := Lib.hid (R_9.out.below ((Below.refl w9.heap.size w9).alloc (Nat.le_refl _) (.cells #[.slice a9 L.length c9, .bool b] 39)) (by first | omega | (simp only [World.size_alloc]; omega) | (simp only [size_drew_]; omega) | (simp only [World.size_alloc, size_drew_]; omega)))
    clear R_9
    have OR_10 := Lib.hid (OR_9.out.alloc (.cells #[.slice a9 L.length c9, .bool b] 39))
    clear OR_9
    have X_10 := Lib.hid (X_9.out.below ((Below.refl w9.heap.size w9).alloc (Nat.le_refl _) (.cells #[.slice a9 L.length c9, .bool b] 39)) (by first | omega | (simp only [World.size_alloc]; omega) | (simp only [size_drew_]; omega) | (simp only [World.size_alloc, size_drew_]; omega)))
    clear X_9
    have OX_10 := Lib.hid (OX_9.out.alloc (.cells #[.slice a9 L.length c9, .bool b] 39))
    clear OX_9
    have Y_10 := Lib.hid (Y_9.out.below ((Below.refl w9.heap.size w9).alloc (Nat.le_refl _) (.cells #[.slice a9 L.length c9, .bool b] 39)) (by first | omega | (simp only [World.size_alloc]; omega) | (simp only [size_drew_]; omega) | (simp only [World.size_alloc, size_drew_]; omega)))
    clear Y_9
    have G_10 := Lib.hid (G_9.out.below ((Below.refl w9.heap.size w9).alloc (Nat.le_refl _) (.cells #[.slice a9 L.length c9, .bool b] 39)) (by first | omega | (simp only [World.size_alloc]; omega) | (simp only [size_drew_]; omega) | (simp only [World.size_alloc, size_drew_]; omega)))
    clear G_9
    have BB_10 := Lib.hid (BB_9.out.alloc (by first | omega | (simp only [World.size_alloc]; omega) | (simp only [size_drew_]; omega) | (simp only [World.size_alloc, size_drew_]; omega)) (.cells #[.slice a9 L.length c9, .bool b] 39))
    clear BB_9
    have OG_10 := Lib.hid (Blk.new w9 39 #[.slice a9 L.length c9, .bool b])
    have qOR_10 := OR_10.out.cell
    go_wp2_with fail
    refine (eqDecoder_any _ _ _ _ _ _ b L _ _ _ G_10.out.nums R_10.out.nums rfl rfl (Nat.le_refl _) (Nat.le_refl _)).mono ?_
    rintro e w11 ⟨rfl, hb⟩
    clear qOR_10
    have D_11 := Lib.hid (D_10.out.below hb)
    clear D_10
    have A_11 := Lib.hid (A_10.out.below (hb.mono (by first | omega | (simp only [World.size_alloc]; omega) | (simp only [size_drew_]; omega) | (simp only [World.size_alloc, size_drew_]; omega))))
    clear A_10
    have E_11 := Lib.hid (E_10.out.below (hb.mono (by first | omega | (simp only [World.size_alloc]; omega) | (simp only [size_drew_]; omega) | (simp only [World.size_alloc, size_drew_]; omega))))
    clear E_10
    have R_11 := Lib.hid (R_10.out.below hb (by first | omega | (simp only [World.size_alloc]; omega) | (simp only [size_drew_]; omega) | (simp only [World.size_alloc, size_drew_]; omega)))
    clear R_10
    have OR_11 := Lib.hid (OR_10.out.below hb)
    clear OR_10
    have X_11 := Lib.hid (X_10.out.below hb (by first | omega | (simp only [World.size_alloc]; omega) | (simp only [size_drew_]; omega) | (simp only [World.size_alloc, size_drew_]; omega)))
    clear X_10
    have OX_11 := Lib.hid (OX_10.out.below hb)
    clear OX_10
    have Y_11 := Lib.hid (Y_10.out.below hb (by first | omega | (simp only [World.size_alloc]; omega) | (simp only [size_drew_]; omega) | (simp only [World.size_alloc, size_drew_]; omega)))
    clear Y_10
    have G_11 := Lib.hid (G_10.out.below hb (by first | omega | (simp only [World.size_alloc]; omega) | (simp only [size_drew_]; omega) | (simp only [World.size_alloc, size_drew_]; omega)))
    clear G_10
    have OG_11 := Lib.hid (OG_10.out.below hb)
    clear OG_10
    have BB_11 := Lib.hid (BB_10.out.trans (hb.mono (by first | omega | (simp only [World.size_alloc]; omega) | (simp only [size_drew_]; omega) | (simp only [World.size_alloc, size_drew_]; omega))))
    clear BB_10
    have s11 := hb.size
    simp only [World.size_alloc] at s11
    clear hb
    go_wp2_with fail
    have hOXs0 := OX_11.out.cell
    have hDs0 := D_11.out.cell
    have D_12 := Lib.hid (D_11.out.drew)
    clear D_11
    have A_12 := Lib.hid (A_11.out.below (((Below.refl w11.heap.size w11).drew).mono (by first | omega | (simp only [World.size_alloc]; omega) | (simp only [size_drew_]; omega) | (simp only [World.size_alloc, size_drew_]; omega))))
    clear A_11
    have E_12 := Lib.hid (E_11.out.below (((Below.refl w11.heap.size w11).drew).mono (by first | omega | (simp only [World.size_alloc]; omega) | (simp only [size_drew_]; omega) | (simp only [World.size_alloc, size_drew_]; omega))))
    clear E_11
    have R_12 := Lib.hid (R_11.out.below ((Below.refl w11.heap.size w11).drew) (by first | omega | (simp only [World.size_alloc]; omega) | (simp only [size_drew_]; omega) | (simp only [World.size_alloc, size_drew_]; omega)))
    clear R_11
    have OR_12 := Lib.hid (OR_11.out.drew)
    clear OR_11
    have X_12 := Lib.hid (X_11.out.below ((Below.refl w11.heap.size w11).drew) (by first | omega | (simp only [World.size_alloc]; omega) | (simp only [size_drew_]; omega) | (simp only [World.size_alloc, size_drew_]; omega)))
    clear X_11
    have OX_12 := Lib.hid (OX_11.out.drew)
    clear OX_11
    have Y_12 := Lib.hid (Y_11.out.below ((Below.refl w11.heap.size w11).drew) (by first | omega | (simp only [World.size_alloc]; omega) | (simp only [size_drew_]; omega) | (simp only [World.size_alloc, size_drew_]; omega)))
    clear Y_11
    have G_12 := Lib.hid (G_11.out.below ((Below.refl w11.heap.size w11).drew) (by first | omega | (simp only [World.size_alloc]; omega) | (simp only [size_drew_]; omega) | (simp only [World.size_alloc, size_drew_]; omega)))
    clear G_11
    have OG_12 := Lib.hid (OG_11.out.drew)
    clear OG_11
    have BB_12 := Lib.hid (BB_11.out.drew)
    clear BB_11
    go_region_held3 (fun W => W.cell? ⟨w6.heap.size, 0, none⟩ = some (.slice a6 xs.length c6) ∧ W.cell? ⟨w6.heap.size, 1, none⟩ = some (.bool b) ∧ W.cell? ⟨w.heap.size, 0, none⟩ = some (.slice a xs.length c) ∧ W.cell? ⟨w.heap.size, 1, none⟩ = some (.bool b))
      (first | exact ⟨hOXs0 0, hOXs0 1, hDs0 0, hDs0 1⟩ | exact ⟨hOXs1 0, hOXs1 1, hDs1 0, hDs1 1⟩ | exact ⟨hOXs2 0, hOXs2 1, hDs2 0, hDs2 1⟩)
      (first
        | (go_at_call 21; refine (toDecoder_any a _ c b xs _ _ A_12.out rfl (by first | omega | (simp only [World.size_alloc]; omega) | (simp only [size_drew_]; omega) | (simp only [World.size_alloc, size_drew_]; omega)) hle).mono ?_; rintro e w13 ⟨a13, c13, rfl, ho, hb⟩; have D_13 := Lib.hid (D_12.out.below hb); clear D_12; have A_13 := Lib.hid (A_12.out.below (hb.mono (by first | omega | (simp only [World.size_alloc]; omega) | (simp only [size_drew_]; omega) | (simp only [World.size_alloc, size_drew_]; omega)))); clear A_12; have E_13 := Lib.hid (E_12.out.below (hb.mono (by first | omega | (simp only [World.size_alloc]; omega) | (simp only [size_drew_]; omega) | (simp only [World.size_alloc, size_drew_]; omega)))); clear E_12; have R_13 := Lib.hid (R_12.out.below hb (by first | omega | (simp only [World.size_alloc]; omega) | (simp only [size_drew_]; omega) | (simp only [World.size_alloc, size_drew_]; omega))); clear R_12; have OR_13 := Lib.hid (OR_12.out.below hb); clear OR_12; have X_13 := Lib.hid (X_12.out.below hb (by first | omega | (simp only [World.size_alloc]; omega) | (simp only [size_drew_]; omega) | (simp only [World.size_alloc, size_drew_]; omega))); clear X_12; have OX_13 := Lib.hid (OX_12.out.below hb); clear OX_12; have Y_13 := Lib.hid (Y_12.out.below hb (by first | omega | (simp only [World.size_alloc]; omega) | (simp only [size_drew_]; omega) | (simp only [World.size_alloc, size_drew_]; omega))); clear Y_12; have G_13 := Lib.hid (G_12.out.below hb (by first | omega | (simp only [World.size_alloc]; omega) | (simp only [size_drew_]; omega) | (simp only [World.size_alloc, size_drew_]; omega))); clear G_12; have OG_13 := Lib.hid (OG_12.out.below hb); clear OG_12; have BB_13 := Lib.hid (BB_12.out.trans (hb.mono (by first | omega | (simp only [World.size_alloc]; omega) | (simp only [size_drew_]; omega) | (simp only [World.size_alloc, size_drew_]; omega)))); clear BB_12; have Z_13 := Lib.hid (Rw.new ho); clear ho; have s13 := hb.size; simp only [size_drew_] at s13; clear hb; clear hOXs0 hDs0; have hOXs1 := OX_13.out.cell; have hDs1 := D_13.out.cell)
        | (go_at_call 23; refine (eqDecoder_any _ _ _ _ _ _ b xs _ _ _ X_13.out.nums Z_13.out.nums rfl rfl (Nat.le_refl _) (Nat.le_refl _)).mono ?_; rintro e w14 ⟨rfl, hb⟩; have D_14 := Lib.hid (D_13.out.below hb); clear D_13; have A_14 := Lib.hid (A_13.out.below (hb.mono (by first | omega | (simp only [World.size_alloc]; omega) | (simp only [size_drew_]; omega) | (simp only [World.size_alloc, size_drew_]; omega)))); clear A_13; have E_14 := Lib.hid (E_13.out.below (hb.mono (by first | omega | (simp only [World.size_alloc]; omega) | (simp only [size_drew_]; omega) | (simp only [World.size_alloc, size_drew_]; omega)))); clear E_13; have R_14 := Lib.hid (R_13.out.below hb (by first | omega | (simp only [World.size_alloc]; omega) | (simp only [size_drew_]; omega) | (simp only [World.size_alloc, size_drew_]; omega))); clear R_13; have OR_14 := Lib.hid (OR_13.out.below hb); clear OR_13; have X_14 := Lib.hid (X_13.out.below hb (by first | omega | (simp only [World.size_alloc]; omega) | (simp only [size_drew_]; omega) | (simp only [World.size_alloc, size_drew_]; omega))); clear X_13; have OX_14 := Lib.hid (OX_13.out.below hb); clear OX_13; have Y_14 := Lib.hid (Y_13.out.below hb (by first | omega | (simp only [World.size_alloc]; omega) | (simp only [size_drew_]; omega) | (simp only [World.size_alloc, size_drew_]; omega))); clear Y_13; have G_14 := Lib.hid (G_13.out.below hb (by first | omega | (simp only [World.size_alloc]; omega) | (simp only [size_drew_]; omega) | (simp only [World.size_alloc, size_drew_]; omega))); clear G_13; have OG_14 := Lib.hid (OG_13.out.below hb); clear OG_13; have Z_14 := Lib.hid (Z_13.out.below hb (by first | omega | (simp only [World.size_alloc]; omega) | (simp only [size_drew_]; omega) | (simp only [World.size_alloc, size_drew_]; omega))); clear Z_13; have BB_14 := Lib.hid (BB_13.out.trans (hb.mono (by first | omega | (simp only [World.size_alloc]; omega) | (simp only [size_drew_]; omega) | (simp only [World.size_alloc, size_drew_]; omega)))); clear BB_13; have s14 := hb.size; clear hb; clear hOXs1 hDs1; have hOXs2 := OX_14.out.cell; have hDs2 := D_14.out.cell))
    clear hOXs2 hDs2
    clear Z_14
    go_wp2_with fail
    refine (toBytes_any a' _ d ys _ _ E_14.out rfl (by first | omega | (simp only [World.size_alloc]; omega) | (simp only [size_drew_]; omega) | (simp only [World.size_alloc, size_drew_]; omega)) hle2).mono ?_
    rintro e w15 ⟨a15, c15, rfl, ho, hb⟩
    have D_15 := Lib.hid (D_14.out.below hb)
    clear D_14
    have A_15 := Lib.hid (A_14.out.below (hb.mono (by first | omega | (simp only [World.size_alloc]; omega) | (simp only [size_drew_]; omega) | (simp only [World.size_alloc, size_drew_]; omega))))
    clear A_14
    have E_15 := Lib.hid (E_14.out.below (hb.mono (by first | omega | (simp only [World.size_alloc]; omega) | (simp only [size_drew_]; omega) | (simp only [World.size_alloc, size_drew_]; omega))))
    clear E_14
    have R_15 := Lib.hid (R_14.out.below hb (by first | omega | (simp only [World.size_alloc]; omega) | (simp only [size_drew_]; omega) | (simp only [World.size_alloc, size_drew_]; omega)))
    clear R_14
    have OR_15 := Lib.hid (OR_14.out.below hb)
    clear OR_14
    have X_15 := Lib.hid (X_14.out.below hb (by first | omega | (simp only [World.size_alloc]; omega) | (simp only [size_drew_]; omega) | (simp only [World.size_alloc, size_drew_]; omega)))
    clear X_14
    have OX_15 := Lib.hid (OX_14.out.below hb)
    clear OX_14
    have Y_15 := Lib.hid (Y_14.out.below hb (by first | omega | (simp only [World.size_alloc]; omega) | (simp only [size_drew_]; omega) | (simp only [World.size_alloc, size_drew_]; omega)))
    clear Y_14
    have G_15 := Lib.hid (G_14.out.below hb (by first | omega | (simp only [World.size_alloc]; omega) | (simp only [size_drew_]; omega) | (simp only [World.size_alloc, size_drew_]; omega)))
    clear G_14
    have OG_15 := Lib.hid (OG_14.out.below hb)
    clear OG_14
    have BB_15 := Lib.hid (BB_14.out.trans (hb.mono (by first | omega | (simp only [World.size_alloc]; omega) | (simp only [size_drew_]; omega) | (simp only [World.size_alloc, size_drew_]; omega))))
    clear BB_14
    have V_15 := Lib.hid (Rw.new ho)
    clear ho
    have s15 := hb.size
    clear hb
    go_wp2_with fail
    refine (eqBytes_b _ _ _ _ _ _ ys _ _ _ Y_15.out.nums V_15.out.nums rfl rfl).mono ?_
    rintro e w16 ⟨rfl, hb⟩
    have D_16 := Lib.hid (D_15.out.below hb)
    clear D_15
    have A_16 := Lib.hid (A_15.out.below (hb.mono (by first | omega | (simp only [World.size_alloc]; omega) | (simp only [size_drew_]; omega) | (simp only [World.size_alloc, size_drew_]; omega))))
    clear A_15
    have E_16 := Lib.hid (E_15.out.below (hb.mono (by first | omega | (simp only [World.size_alloc]; omega) | (simp only [size_drew_]; omega) | (simp only [World.size_alloc, size_drew_]; omega))))
    clear E_15
    have R_16 := Lib.hid (R_15.out.below hb (by first | omega | (simp only [World.size_alloc]; omega) | (simp only [size_drew_]; omega) | (simp only [World.size_alloc, size_drew_]; omega)))
    clear R_15
    have OR_16 := Lib.hid (OR_15.out.below hb)
    clear OR_15
    have X_16 := Lib.hid (X_15.out.below hb (by first | omega | (simp only [World.size_alloc]; omega) | (simp only [size_drew_]; omega) | (simp only [World.size_alloc, size_drew_]; omega)))
    clear X_15
    have OX_16 := Lib.hid (OX_15.out.below hb)
    clear OX_15
    have Y_16 := Lib.hid (Y_15.out.below hb (by first | omega | (simp only [World.size_alloc]; omega) | (simp only [size_drew_]; omega) | (simp only [World.size_alloc, size_drew_]; omega)))
    clear Y_15
    have G_16 := Lib.hid (G_15.out.below hb (by first | omega | (simp only [World.size_alloc]; omega) | (simp only [size_drew_]; omega) | (simp only [World.size_alloc, size_drew_]; omega)))
    clear G_15
    have OG_16 := Lib.hid (OG_15.out.below hb)
    clear OG_15
    have V_16 := Lib.hid (V_15.out.below hb (by first | omega | (simp only [World.size_alloc]; omega) | (simp only [size_drew_]; omega) | (simp only [World.size_alloc, size_drew_]; omega)))
    clear V_15
    have BB_16 := Lib.hid (BB_15.out.trans (hb.mono (by first | omega | (simp only [World.size_alloc]; omega) | (simp only [size_drew_]; omega) | (simp only [World.size_alloc, size_drew_]; omega))))
    clear BB_15
    have s16 := hb.size
    clear hb
    clear V_16
    have qOX_16 := OX_16.out.cell
    go_wp2_with fail
    refine (markDecoder_m _ _ _ 1 b _ xs _ _ X_16.out.own rfl rfl (by first | omega | (simp only [World.size_alloc]; omega) | (simp only [size_drew_]; omega) | (simp only [World.size_alloc, size_drew_]; omega)) (by omega) (by omega)).mono ?_
    rintro e w17 ⟨rfl, hm⟩
    clear qOX_16
    have hb := hm.below
    have X_17 := Lib.hid (Rw.mk hm.own X_16.out.up)
    have D_17 := Lib.hid (D_16.out.far X_16.out hm.grown (by first | omega | (simp only [World.size_alloc]; omega) | (simp only [size_drew_]; omega) | (simp only [World.size_alloc, size_drew_]; omega)))
    clear D_16
    have A_17 := Lib.hid (A_16.out.below (hb.mono (by first | omega | (simp only [World.size_alloc]; omega) | (simp only [size_drew_]; omega) | (simp only [World.size_alloc, size_drew_]; omega))))
    clear A_16
    have E_17 := Lib.hid (E_16.out.below (hb.mono (by first | omega | (simp only [World.size_alloc]; omega) | (simp only [size_drew_]; omega) | (simp only [World.size_alloc, size_drew_]; omega))))
    clear E_16
    have R_17 := Lib.hid (R_16.out.other X_16.out hm.grown (by first | omega | (simp only [World.size_alloc]; omega) | (simp only [size_drew_]; omega) | (simp only [World.size_alloc, size_drew_]; omega)))
    clear R_16
    have OR_17 := Lib.hid (OR_16.out.far X_16.out hm.grown (by first | omega | (simp only [World.size_alloc]; omega) | (simp only [size_drew_]; omega) | (simp only [World.size_alloc, size_drew_]; omega)))
    clear OR_16
    have OX_17 := Lib.hid (OX_16.out.far X_16.out hm.grown (by first | omega | (simp only [World.size_alloc]; omega) | (simp only [size_drew_]; omega) | (simp only [World.size_alloc, size_drew_]; omega)))
    clear OX_16
    have Y_17 := Lib.hid (Y_16.out.other X_16.out hm.grown (by first | omega | (simp only [World.size_alloc]; omega) | (simp only [size_drew_]; omega) | (simp only [World.size_alloc, size_drew_]; omega)))
    clear Y_16
    have G_17 := Lib.hid (G_16.out.other X_16.out hm.grown (by first | omega | (simp only [World.size_alloc]; omega) | (simp only [size_drew_]; omega) | (simp only [World.size_alloc, size_drew_]; omega)))
    clear G_16
    have OG_17 := Lib.hid (OG_16.out.far X_16.out hm.grown (by first | omega | (simp only [World.size_alloc]; omega) | (simp only [size_drew_]; omega) | (simp only [World.size_alloc, size_drew_]; omega)))
    clear OG_16
    have BB_17 := Lib.hid (BB_16.out.trans (hb.mono (by first | omega | (simp only [World.size_alloc]; omega) | (simp only [size_drew_]; omega) | (simp only [World.size_alloc, size_drew_]; omega))))
    clear BB_16
    clear X_16
    have s17 := hb.size
    clear hb hm
    go_wp2_with fail
    refine (markBytes_m _ _ _ (1 + xs.length) _ ys _ _ Y_17.out.own (by simp) rfl (by first | omega | (simp only [World.size_alloc]; omega) | (simp only [size_drew_]; omega) | (simp only [World.size_alloc, size_drew_]; omega)) (by omega) (by omega)).mono ?_
    rintro e w18 ⟨rfl, hm⟩
    have hb := hm.below
    have Y_18 := Lib.hid (Rw.mk hm.own Y_17.out.up)
    have D_18 := Lib.hid (D_17.out.far Y_17.out hm.grown (by first | omega | (simp only [World.size_alloc]; omega) | (simp only [size_drew_]; omega) | (simp only [World.size_alloc, size_drew_]; omega)))
    clear D_17
    have A_18 := Lib.hid (A_17.out.below (hb.mono (by first | omega | (simp only [World.size_alloc]; omega) | (simp only [size_drew_]; omega) | (simp only [World.size_alloc, size_drew_]; omega))))
    clear A_17
    have E_18 := Lib.hid (E_17.out.below (hb.mono (by first | omega | (simp only [World.size_alloc]; omega) | (simp only [size_drew_]; omega) | (simp only [World.size_alloc, size_drew_]; omega))))
    clear E_17
    have R_18 := Lib.hid (R_17.out.other Y_17.out hm.grown (by first | omega | (simp only [World.size_alloc]; omega) | (simp only [size_drew_]; omega) | (simp only [World.size_alloc, size_drew_]; omega)))
    clear R_17
    have OR_18 := Lib.hid (OR_17.out.far Y_17.out hm.grown (by first | omega | (simp only [World.size_alloc]; omega) | (simp only [size_drew_]; omega) | (simp only [World.size_alloc, size_drew_]; omega)))
    clear OR_17
    have X_18 := Lib.hid (X_17.out.other Y_17.out hm.grown (by first | omega | (simp only [World.size_alloc]; omega) | (simp only [size_drew_]; omega) | (simp only [World.size_alloc, size_drew_]; omega)))
    clear X_17
    have OX_18 := Lib.hid (OX_17.out.far Y_17.out hm.grown (by first | omega | (simp only [World.size_alloc]; omega) | (simp only [size_drew_]; omega) | (simp only [World.size_alloc, size_drew_]; omega)))
    clear OX_17
    have G_18 := Lib.hid (G_17.out.other Y_17.out hm.grown (by first | omega | (simp only [World.size_alloc]; omega) | (simp only [size_drew_]; omega) | (simp only [World.size_alloc, size_drew_]; omega)))
    clear G_17
    have OG_18 := Lib.hid (OG_17.out.far Y_17.out hm.grown (by first | omega | (simp only [World.size_alloc]; omega) | (simp only [size_drew_]; omega) | (simp only [World.size_alloc, size_drew_]; omega)))
    clear OG_17
    have BB_18 := Lib.hid (BB_17.out.trans (hb.mono (by first | omega | (simp only [World.size_alloc]; omega) | (simp only [size_drew_]; omega) | (simp only [World.size_alloc, size_drew_]; omega))))
    clear BB_17
    clear Y_17
    have s18 := hb.size
    clear hb hm
    have qOG_18 := OG_18.out.cell
    have qOR_18 := OR_18.out.cell
    go_wp2_with fail
    refine (eqDecoder_any _ _ _ _ _ _ b L _ _ _ G_18.out.nums R_18.out.nums rfl rfl (Nat.le_refl _) (Nat.le_refl _)).mono ?_
    rintro e w19 ⟨rfl, hb⟩
    clear qOG_18 qOR_18
    have D_19 := Lib.hid (D_18.out.below hb)
    clear D_18
    have A_19 := Lib.hid (A_18.out.below (hb.mono (by first | omega | (simp only [World.size_alloc]; omega) | (simp only [size_drew_]; omega) | (simp only [World.size_alloc, size_drew_]; omega))))
    clear A_18
    have E_19 := Lib.hid (E_18.out.below (hb.mono (by first | omega | (simp only [World.size_alloc]; omega) | (simp only [size_drew_]; omega) | (simp only [World.size_alloc, size_drew_]; omega))))
    clear E_18
    have R_19 := Lib.hid (R_18.out.below hb (by first | omega | (simp only [World.size_alloc]; omega) | (simp only [size_drew_]; omega) | (simp only [World.size_alloc, size_drew_]; omega)))
    clear R_18
    have OR_19 := Lib.hid (OR_18.out.below hb)
    clear OR_18
    have X_19 := Lib.hid (X_18.out.below hb (by first | omega | (simp only [World.size_alloc]; omega) | (simp only [size_drew_]; omega) | (simp only [World.size_alloc, size_drew_]; omega)))
    clear X_18
    have OX_19 := Lib.hid (OX_18.out.below hb)
    clear OX_18
    have Y_19 := Lib.hid (Y_18.out.below hb (by first | omega | (simp only [World.size_alloc]; omega) | (simp only [size_drew_]; omega) | (simp only [World.size_alloc, size_drew_]; omega)))
    clear Y_18
    have G_19 := Lib.hid (G_18.out.below hb (by first | omega | (simp only [World.size_alloc]; omega) | (simp only [size_drew_]; omega) | (simp only [World.size_alloc, size_drew_]; omega)))
    clear G_18
    have OG_19 := Lib.hid (OG_18.out.below hb)
    clear OG_18
    have BB_19 := Lib.hid (BB_18.out.trans (hb.mono (by first | omega | (simp only [World.size_alloc]; omega) | (simp only [size_drew_]; omega) | (simp only [World.size_alloc, size_drew_]; omega))))
    clear BB_18
    have s19 := hb.size
    clear hb
    have qOG_19 := OG_19.out.cell
    go_wp2_with fail
    refine (markDecoder_m _ _ _ 1 b _ L _ _ G_19.out.own rfl rfl (by first | omega | (simp only [World.size_alloc]; omega) | (simp only [size_drew_]; omega) | (simp only [World.size_alloc, size_drew_]; omega)) (by omega) (by omega)).mono ?_
    rintro e w20 ⟨rfl, hm⟩
    clear qOG_19
    have hb := hm.below
    have G_20 := Lib.hid (Rw.mk hm.own G_19.out.up)
    have D_20 := Lib.hid (D_19.out.far G_19.out hm.grown (by first | omega | (simp only [World.size_alloc]; omega) | (simp only [size_drew_]; omega) | (simp only [World.size_alloc, size_drew_]; omega)))
    clear D_19
    have A_20 := Lib.hid (A_19.out.below (hb.mono (by first | omega | (simp only [World.size_alloc]; omega) | (simp only [size_drew_]; omega) | (simp only [World.size_alloc, size_drew_]; omega))))
    clear A_19
    have E_20 := Lib.hid (E_19.out.below (hb.mono (by first | omega | (simp only [World.size_alloc]; omega) | (simp only [size_drew_]; omega) | (simp only [World.size_alloc, size_drew_]; omega))))
    clear E_19
    have R_20 := Lib.hid (R_19.out.other G_19.out hm.grown (by first | omega | (simp only [World.size_alloc]; omega) | (simp only [size_drew_]; omega) | (simp only [World.size_alloc, size_drew_]; omega)))
    clear R_19
    have OR_20 := Lib.hid (OR_19.out.far G_19.out hm.grown (by first | omega | (simp only [World.size_alloc]; omega) | (simp only [size_drew_]; omega) | (simp only [World.size_alloc, size_drew_]; omega)))
    clear OR_19
    have X_20 := Lib.hid (X_19.out.other G_19.out hm.grown (by first | omega | (simp only [World.size_alloc]; omega) | (simp only [size_drew_]; omega) | (simp only [World.size_alloc, size_drew_]; omega)))
    clear X_19
    have OX_20 := Lib.hid (OX_19.out.far G_19.out hm.grown (by first | omega | (simp only [World.size_alloc]; omega) | (simp only [size_drew_]; omega) | (simp only [World.size_alloc, size_drew_]; omega)))
    clear OX_19
    have Y_20 := Lib.hid (Y_19.out.other G_19.out hm.grown (by first | omega | (simp only [World.size_alloc]; omega) | (simp only [size_drew_]; omega) | (simp only [World.size_alloc, size_drew_]; omega)))
    clear Y_19
    have OG_20 := Lib.hid (OG_19.out.far G_19.out hm.grown (by first | omega | (simp only [World.size_alloc]; omega) | (simp only [size_drew_]; omega) | (simp only [World.size_alloc, size_drew_]; omega)))
    clear OG_19
    have BB_20 := Lib.hid (BB_19.out.trans (hb.mono (by first | omega | (simp only [World.size_alloc]; omega) | (simp only [size_drew_]; omega) | (simp only [World.size_alloc, size_drew_]; omega))))
    clear BB_19
    clear G_19
    have s20 := hb.size
    clear hb hm
    have qOG_20 := OG_20.out.cell
    go_wp2_with fail
    refine (heldDecoder_m _ _ _ 1 b _ _ _ G_20.out.nums (Nat.le_refl _) rfl (by omega) (by omega)).mono ?_
    rintro e w21 ⟨rfl, hb⟩
    clear qOG_20
    have D_21 := Lib.hid (D_20.out.below hb)
    clear D_20
    have A_21 := Lib.hid (A_20.out.below (hb.mono (by first | omega | (simp only [World.size_alloc]; omega) | (simp only [size_drew_]; omega) | (simp only [World.size_alloc, size_drew_]; omega))))
    clear A_20
    have E_21 := Lib.hid (E_20.out.below (hb.mono (by first | omega | (simp only [World.size_alloc]; omega) | (simp only [size_drew_]; omega) | (simp only [World.size_alloc, size_drew_]; omega))))
    clear E_20
    have R_21 := Lib.hid (R_20.out.below hb (by first | omega | (simp only [World.size_alloc]; omega) | (simp only [size_drew_]; omega) | (simp only [World.size_alloc, size_drew_]; omega)))
    clear R_20
    have OR_21 := Lib.hid (OR_20.out.below hb)
    clear OR_20
    have X_21 := Lib.hid (X_20.out.below hb (by first | omega | (simp only [World.size_alloc]; omega) | (simp only [size_drew_]; omega) | (simp only [World.size_alloc, size_drew_]; omega)))
    clear X_20
    have OX_21 := Lib.hid (OX_20.out.below hb)
    clear OX_20
    have Y_21 := Lib.hid (Y_20.out.below hb (by first | omega | (simp only [World.size_alloc]; omega) | (simp only [size_drew_]; omega) | (simp only [World.size_alloc, size_drew_]; omega)))
    clear Y_20
    have G_21 := Lib.hid (G_20.out.below hb (by first | omega | (simp only [World.size_alloc]; omega) | (simp only [size_drew_]; omega) | (simp only [World.size_alloc, size_drew_]; omega)))
    clear G_20
    have OG_21 := Lib.hid (OG_20.out.below hb)
    clear OG_20
    have BB_21 := Lib.hid (BB_20.out.trans (hb.mono (by first | omega | (simp only [World.size_alloc]; omega) | (simp only [size_drew_]; omega) | (simp only [World.size_alloc, size_drew_]; omega))))
    clear BB_20
    have s21 := hb.size
    clear hb
    have qD_21 := D_21.out.cell
    go_wp2_with fail
    refine (toDecoder_any a _ c b xs _ _ A_21.out rfl (by first | omega | (simp only [World.size_alloc]; omega) | (simp only [size_drew_]; omega) | (simp only [World.size_alloc, size_drew_]; omega)) hle).mono ?_
    rintro e w22 ⟨a22, c22, rfl, ho, hb⟩
    clear qD_21
    have D_22 := Lib.hid (D_21.out.below hb)
    clear D_21
    have A_22 := Lib.hid (A_21.out.below (hb.mono (by first | omega | (simp only [World.size_alloc]; omega) | (simp only [size_drew_]; omega) | (simp only [World.size_alloc, size_drew_]; omega))))
    clear A_21
    have E_22 := Lib.hid (E_21.out.below (hb.mono (by first | omega | (simp only [World.size_alloc]; omega) | (simp only [size_drew_]; omega) | (simp only [World.size_alloc, size_drew_]; omega))))
    clear E_21
    have R_22 := Lib.hid (R_21.out.below hb (by first | omega | (simp only [World.size_alloc]; omega) | (simp only [size_drew_]; omega) | (simp only [World.size_alloc, size_drew_]; omega)))
    clear R_21
    have OR_22 := Lib.hid (OR_21.out.below hb)
    clear OR_21
    have X_22 := Lib.hid (X_21.out.below hb (by first | omega | (simp only [World.size_alloc]; omega) | (simp only [size_drew_]; omega) | (simp only [World.size_alloc, size_drew_]; omega)))
    clear X_21
    have OX_22 := Lib.hid (OX_21.out.below hb)
    clear OX_21
    have Y_22 := Lib.hid (Y_21.out.below hb (by first | omega | (simp only [World.size_alloc]; omega) | (simp only [size_drew_]; omega) | (simp only [World.size_alloc, size_drew_]; omega)))
    clear Y_21
    have G_22 := Lib.hid (G_21.out.below hb (by first | omega | (simp only [World.size_alloc]; omega) | (simp only [size_drew_]; omega) | (simp only [World.size_alloc, size_drew_]; omega)))
    clear G_21
    have OG_22 := Lib.hid (OG_21.out.below hb)
    clear OG_21
    have BB_22 := Lib.hid (BB_21.out.trans (hb.mono (by first | omega | (simp only [World.size_alloc]; omega) | (simp only [size_drew_]; omega) | (simp only [World.size_alloc, size_drew_]; omega))))
    clear BB_21
    have X2_22 := Lib.hid (Rw.new ho)
    clear ho
    have s22 := hb.size
    clear hb
    go_wp2_with fail
    refine (toBytes_any a' _ d ys _ _ E_22.out rfl (by first | omega | (simp only [World.size_alloc]; omega) | (simp only [size_drew_]; omega) | (simp only [World.size_alloc, size_drew_]; omega)) hle2).mono ?_
    rintro e w23 ⟨a23, c23, rfl, ho, hb⟩
    have D_23 := Lib.hid (D_22.out.below hb)
    clear D_22
    have A_23 := Lib.hid (A_22.out.below (hb.mono (by first | omega | (simp only [World.size_alloc]; omega) | (simp only [size_drew_]; omega) | (simp only [World.size_alloc, size_drew_]; omega))))
    clear A_22
    have E_23 := Lib.hid (E_22.out.below (hb.mono (by first | omega | (simp only [World.size_alloc]; omega) | (simp only [size_drew_]; omega) | (simp only [World.size_alloc, size_drew_]; omega))))
    clear E_22
    have R_23 := Lib.hid (R_22.out.below hb (by first | omega | (simp only [World.size_alloc]; omega) | (simp only [size_drew_]; omega) | (simp only [World.size_alloc, size_drew_]; omega)))
    clear R_22
    have OR_23 := Lib.hid (OR_22.out.below hb)
    clear OR_22
    have X_23 := Lib.hid (X_22.out.below hb (by first | omega | (simp only [World.size_alloc]; omega) | (simp only [size_drew_]; omega) | (simp only [World.size_alloc, size_drew_]; omega)))
    clear X_22
    have OX_23 := Lib.hid (OX_22.out.below hb)
    clear OX_22
    have Y_23 := Lib.hid (Y_22.out.below hb (by first | omega | (simp only [World.size_alloc]; omega) | (simp only [size_drew_]; omega) | (simp only [World.size_alloc, size_drew_]; omega)))
    clear Y_22
    have G_23 := Lib.hid (G_22.out.below hb (by first | omega | (simp only [World.size_alloc]; omega) | (simp only [size_drew_]; omega) | (simp only [World.size_alloc, size_drew_]; omega)))
    clear G_22
    have OG_23 := Lib.hid (OG_22.out.below hb)
    clear OG_22
    have X2_23 := Lib.hid (X2_22.out.below hb (by first | omega | (simp only [World.size_alloc]; omega) | (simp only [size_drew_]; omega) | (simp only [World.size_alloc, size_drew_]; omega)))
    clear X2_22
    have BB_23 := Lib.hid (BB_22.out.trans (hb.mono (by first | omega | (simp only [World.size_alloc]; omega) | (simp only [size_drew_]; omega) | (simp only [World.size_alloc, size_drew_]; omega))))
    clear BB_22
    have Y2_23 := Lib.hid (Rw.new ho)
    clear ho
    have s23 := hb.size
    clear hb
    go_wp2_with fail
    refine (IP.out _ _ _ _ _ X2_23.out.nums Y2_23.out.nums).mono ?_
    rintro e w24 ⟨a24, c24, rfl, ho, hb⟩
    have D_24 := Lib.hid (D_23.out.below hb)
    clear D_23
    have A_24 := Lib.hid (A_23.out.below (hb.mono (by first | omega | (simp only [World.size_alloc]; omega) | (simp only [size_drew_]; omega) | (simp only [World.size_alloc, size_drew_]; omega))))
    clear A_23
    have E_24 := Lib.hid (E_23.out.below (hb.mono (by first | omega | (simp only [World.size_alloc]; omega) | (simp only [size_drew_]; omega) | (simp only [World.size_alloc, size_drew_]; omega))))
    clear E_23
    have R_24 := Lib.hid (R_23.out.below hb (by first | omega | (simp only [World.size_alloc]; omega) | (simp only [size_drew_]; omega) | (simp only [World.size_alloc, size_drew_]; omega)))
    clear R_23
    have OR_24 := Lib.hid (OR_23.out.below hb)
    clear OR_23
    have X_24 := Lib.hid (X_23.out.below hb (by first | omega | (simp only [World.size_alloc]; omega) | (simp only [size_drew_]; omega) | (simp only [World.size_alloc, size_drew_]; omega)))
    clear X_23
    have OX_24 := Lib.hid (OX_23.out.below hb)
    clear OX_23
    have Y_24 := Lib.hid (Y_23.out.below hb (by first | omega | (simp only [World.size_alloc]; omega) | (simp only [size_drew_]; omega) | (simp only [World.size_alloc, size_drew_]; omega)))
    clear Y_23
    have G_24 := Lib.hid (G_23.out.below hb (by first | omega | (simp only [World.size_alloc]; omega) | (simp only [size_drew_]; omega) | (simp only [World.size_alloc, size_drew_]; omega)))
    clear G_23
    have OG_24 := Lib.hid (OG_23.out.below hb)
    clear OG_23
    have X2_24 := Lib.hid (X2_23.out.below hb (by first | omega | (simp only [World.size_alloc]; omega) | (simp only [size_drew_]; omega) | (simp only [World.size_alloc, size_drew_]; omega)))
    clear X2_23
    have Y2_24 := Lib.hid (Y2_23.out.below hb (by first | omega | (simp only [World.size_alloc]; omega) | (simp only [size_drew_]; omega) | (simp only [World.size_alloc, size_drew_]; omega)))
    clear Y2_23
    have BB_24 := Lib.hid (BB_23.out.trans (hb.mono (by first | omega | (simp only [World.size_alloc]; omega) | (simp only [size_drew_]; omega) | (simp only [World.size_alloc, size_drew_]; omega))))
    clear BB_23
    have H_24 := Lib.hid (Rw.new ho)
    clear ho
    have s24 := hb.size
    clear hb
    clear X2_24 Y2_24
    have D_25 := Lib.hid (D_24.out.alloc (.cells #[.slice a24 L.length c24, .bool b] 39))
    clear D_24
    have A_25 := Lib.hid (A_24.out.below (((Below.refl w24.heap.size w24).alloc (Nat.le_refl _) (.cells #[.slice a24 L.length c24, .bool b] 39)).mono (by first | omega | (simp only [World.size_alloc]; omega) | (simp only [size_drew_]; omega) | (simp only [World.size_alloc, size_drew_]; omega))))
    clear A_24
    have E_25 := Lib.hid (E_24.out.below (((Below.refl w24.heap.size w24).alloc (Nat.le_refl _) (.cells #[.slice a24 L.length c24, .bool b] 39)).mono (by first | omega | (simp only [World.size_alloc]; omega) | (simp only [size_drew_]; omega) | (simp only [World.size_alloc, size_drew_]; omega))))
    clear E_24
    have R_25 := Lib.hid (R_24.out.below ((Below.refl w24.heap.size w24).alloc (Nat.le_refl _) (.cells #[.slice a24 L.length c24, .bool b] 39)) (by first | omega | (simp only [World.size_alloc]; omega) | (simp only [size_drew_]; omega) | (simp only [World.size_alloc, size_drew_]; omega)))
    clear R_24
    have OR_25 := Lib.hid (OR_24.out.alloc (.cells #[.slice a24 L.length c24, .bool b] 39))
    clear OR_24
    have X_25 := Lib.hid (X_24.out.below ((Below.refl w24.heap.size w24).alloc (Nat.le_refl _) (.cells #[.slice a24 L.length c24, .bool b] 39)) (by first | omega | (simp only [World.size_alloc]; omega) | (simp only [size_drew_]; omega) | (simp only [World.size_alloc, size_drew_]; omega)))
    clear X_24
    have OX_25 := Lib.hid (OX_24.out.alloc (.cells #[.slice a24 L.length c24, .bool b] 39))
    clear OX_24
    have Y_25 := Lib.hid (Y_24.out.below ((Below.refl w24.heap.size w24).alloc (Nat.le_refl _) (.cells #[.slice a24 L.length c24, .bool b] 39)) (by first | omega | (simp only [World.size_alloc]; omega) | (simp only [size_drew_]; omega) | (simp only [World.size_alloc, size_drew_]; omega)))
    clear Y_24
    have G_25 := Lib.hid (G_24.out.below ((Below.refl w24.heap.size w24).alloc (Nat.le_refl _) (.cells #[.slice a24 L.length c24, .bool b] 39)) (by first | omega | (simp only [World.size_alloc]; omega) | (simp only [size_drew_]; omega) | (simp only [World.size_alloc, size_drew_]; omega)))
    clear G_24
    have OG_25 := Lib.hid (OG_24.out.alloc (.cells #[.slice a24 L.length c24, .bool b] 39))
    clear OG_24
    have H_25 := Lib.hid (H_24.out.below ((Below.refl w24.heap.size w24).alloc (Nat.le_refl _) (.cells #[.slice a24 L.length c24, .bool b] 39)) (by first | omega | (simp only [World.size_alloc]; omega) | (simp only [size_drew_]; omega) | (simp only [World.size_alloc, size_drew_]; omega)))
    clear H_24
    have BB_25 := Lib.hid (BB_24.out.alloc (by first | omega | (simp only [World.size_alloc]; omega) | (simp only [size_drew_]; omega) | (simp only [World.size_alloc, size_drew_]; omega)) (.cells #[.slice a24 L.length c24, .bool b] 39))
    clear BB_24
    have OH_25 := Lib.hid (Blk.new w24 39 #[.slice a24 L.length c24, .bool b])
    have qOR_25 := OR_25.out.cell
    go_wp2_with fail
    refine (eqDecoder_any _ _ _ _ _ _ b L _ _ _ H_25.out.nums R_25.out.nums rfl rfl (Nat.le_refl _) (Nat.le_refl _)).mono ?_
    rintro e w26 ⟨rfl, hb⟩
    clear qOR_25
    have D_26 := Lib.hid (D_25.out.below hb)
    clear D_25
    have A_26 := Lib.hid (A_25.out.below (hb.mono (by first | omega | (simp only [World.size_alloc]; omega) | (simp only [size_drew_]; omega) | (simp only [World.size_alloc, size_drew_]; omega))))
    clear A_25
    have E_26 := Lib.hid (E_25.out.below (hb.mono (by first | omega | (simp only [World.size_alloc]; omega) | (simp only [size_drew_]; omega) | (simp only [World.size_alloc, size_drew_]; omega))))
    clear E_25
    have R_26 := Lib.hid (R_25.out.below hb (by first | omega | (simp only [World.size_alloc]; omega) | (simp only [size_drew_]; omega) | (simp only [World.size_alloc, size_drew_]; omega)))
    clear R_25
    have OR_26 := Lib.hid (OR_25.out.below hb)
    clear OR_25
    have X_26 := Lib.hid (X_25.out.below hb (by first | omega | (simp only [World.size_alloc]; omega) | (simp only [size_drew_]; omega) | (simp only [World.size_alloc, size_drew_]; omega)))
    clear X_25
    have OX_26 := Lib.hid (OX_25.out.below hb)
    clear OX_25
    have Y_26 := Lib.hid (Y_25.out.below hb (by first | omega | (simp only [World.size_alloc]; omega) | (simp only [size_drew_]; omega) | (simp only [World.size_alloc, size_drew_]; omega)))
    clear Y_25
    have G_26 := Lib.hid (G_25.out.below hb (by first | omega | (simp only [World.size_alloc]; omega) | (simp only [size_drew_]; omega) | (simp only [World.size_alloc, size_drew_]; omega)))
    clear G_25
    have OG_26 := Lib.hid (OG_25.out.below hb)
    clear OG_25
    have H_26 := Lib.hid (H_25.out.below hb (by first | omega | (simp only [World.size_alloc]; omega) | (simp only [size_drew_]; omega) | (simp only [World.size_alloc, size_drew_]; omega)))
    clear H_25
    have OH_26 := Lib.hid (OH_25.out.below hb)
    clear OH_25
    have BB_26 := Lib.hid (BB_25.out.trans (hb.mono (by first | omega | (simp only [World.size_alloc]; omega) | (simp only [size_drew_]; omega) | (simp only [World.size_alloc, size_drew_]; omega))))
    clear BB_25
    have s26 := hb.size
    simp only [World.size_alloc] at s26
    clear hb
    have qOG_26 := OG_26.out.cell
    go_wp2_with fail
    refine (heldDecoder_m _ _ _ 1 b _ _ _ G_26.out.nums (Nat.le_refl _) rfl (by omega) (by omega)).mono ?_
    rintro e w27 ⟨rfl, hb⟩
    clear qOG_26
    have D_27 := Lib.hid (D_26.out.below hb)
    clear D_26
    have A_27 := Lib.hid (A_26.out.below (hb.mono (by first | omega | (simp only [World.size_alloc]; omega) | (simp only [size_drew_]; omega) | (simp only [World.size_alloc, size_drew_]; omega))))
    clear A_26
    have E_27 := Lib.hid (E_26.out.below (hb.mono (by first | omega | (simp only [World.size_alloc]; omega) | (simp only [size_drew_]; omega) | (simp only [World.size_alloc, size_drew_]; omega))))
    clear E_26
    have R_27 := Lib.hid (R_26.out.below hb (by first | omega | (simp only [World.size_alloc]; omega) | (simp only [size_drew_]; omega) | (simp only [World.size_alloc, size_drew_]; omega)))
    clear R_26
    have OR_27 := Lib.hid (OR_26.out.below hb)
    clear OR_26
    have X_27 := Lib.hid (X_26.out.below hb (by first | omega | (simp only [World.size_alloc]; omega) | (simp only [size_drew_]; omega) | (simp only [World.size_alloc, size_drew_]; omega)))
    clear X_26
    have OX_27 := Lib.hid (OX_26.out.below hb)
    clear OX_26
    have Y_27 := Lib.hid (Y_26.out.below hb (by first | omega | (simp only [World.size_alloc]; omega) | (simp only [size_drew_]; omega) | (simp only [World.size_alloc, size_drew_]; omega)))
    clear Y_26
    have G_27 := Lib.hid (G_26.out.below hb (by first | omega | (simp only [World.size_alloc]; omega) | (simp only [size_drew_]; omega) | (simp only [World.size_alloc, size_drew_]; omega)))
    clear G_26
    have OG_27 := Lib.hid (OG_26.out.below hb)
    clear OG_26
    have H_27 := Lib.hid (H_26.out.below hb (by first | omega | (simp only [World.size_alloc]; omega) | (simp only [size_drew_]; omega) | (simp only [World.size_alloc, size_drew_]; omega)))
    clear H_26
    have OH_27 := Lib.hid (OH_26.out.below hb)
    clear OH_26
    have BB_27 := Lib.hid (BB_26.out.trans (hb.mono (by first | omega | (simp only [World.size_alloc]; omega) | (simp only [size_drew_]; omega) | (simp only [World.size_alloc, size_drew_]; omega))))
    clear BB_26
    have s27 := hb.size
    clear hb
    go_wp2
    go_ret
    exact ⟨rfl, BB_27.out⟩

set_option maxRecDepth 100000 in
theorem lifted (os : Os) (started : os.Started) (H : Type) (enc : TypeId × Value → H) :
    ReturnsInHanded {} Try.checked os 7 .any (Rows.fnExactFeedBytesSpec.pre6 enc Try.prog Try.f7 Rows.fnExactFeedBytesRow.domain false) (Rows.fnExactFeedBytesSpec.post enc Try.prog Try.f7 false true false false) := by
  refine returnsInHanded_of_change (C := Try.checked) own started (by kernel_rfl) Try.func7
    (ChangeSpec.witness6 (enc := enc) (C := Try.checked) false ⟨#[], #[.agg #[.slice none 0 0, .bool false], .slice none 0 0], []⟩ 8 (by kernel_rfl) (by kernel_rfl) (by kernel_rfl) (by kernel_rfl)) ?_
  intro W base args ds gs before hval0 hW hcnd _
  have hval : ∀ (j : Nat) t v, Try.f7.params[j]? = some t → args[j]? = some v → Value.okWide Try.prog W .any base t v := hval0
  have hW' := hW
  obtain ⟨p, q, hA0, hV, rfl, hfz, hnd⟩ := hW
  have hA : DataW.TrodAll enc Try.prog W 0 (fun _ => true) true Try.f7.params.toList args.toList ds p := hA0
  rw [Try.params7] at hA hval
  obtain ⟨v0, vs0, d0, ds0, p0, q0, hargs, rfl, rfl, h0, r0⟩ := trodAll_cons hA
  obtain ⟨v1, vs1, d1, ds1, p1, q1, rfl, rfl, rfl, h1, r1⟩ := trodAll_cons r0
  obtain ⟨rfl, rfl, rfl⟩ := trodAll_nil r1
  obtain rfl : args = #[v0, v1] := by cases args; simp_all
  obtain ⟨rfl, rfl⟩ := trodVars_none hV
  have lt0 : ∀ x ∈ p0, x.block < W.heap.size := by obtain ⟨m, hm⟩ := h0; exact DataW.trod_lt m _ _ _ hm
  obtain ⟨a0, n0, c0, b0, rfl, xs0, hn0, hb0, hs0⟩ := arg_decoder (hval 0 36 v0 rfl rfl) h0
  have lt1 : ∀ x ∈ p1, x.block < W.heap.size := by obtain ⟨m, hm⟩ := h1; exact DataW.trod_lt m _ _ _ hm
  obtain ⟨a1, n1, c1, rfl, xs1, hn1, hb1, hs1⟩ := arg_bytes (hval 1 28 v1 rfl rfl) h1
  clear hA0 hval0
  refine (walk W a0 n0 c0 b0 xs0 hn0 hb0 hs0 a1 n1 c1 xs1 hn1 hb1 hs1).mono fun e W' ⟨he, bel⟩ => ?_
  subst he
  exact ⟨_, rfl, _, _, _, [], _, [], hW', trodAll_mk1 (shut_bool Try.underlying4 _), (trodAll_cons_mk (Below.trod laidOut (by kernel_rfl) (of_decide_eq_true (by kernel_rfl)) h0 bel lt0) (trodAll_cons_mk (Below.trod laidOut (by kernel_rfl) (of_decide_eq_true (by kernel_rfl)) h1 bel lt1) trodAll_mk0)), rfl, bel.frame _, fun h => by cases h⟩

theorem over : Rows.fnExactFeedBytesRow.holds Try.pinned (OpenSpec.ofChange Rows.fnExactFeedBytesSpec) :=
  OpenClaim.holds_of_wide 7 Try.f7 rfl rfl rfl rfl rfl rfl rfl ⟨rfl, rfl, rfl, rfl, rfl⟩ rfl rfl rfl rfl rfl (by kernel_rfl) Try.func7 (by kernel_rfl)
    (of_decide_eq_true (by kernel_rfl)) (by unfold Func.isWrapper; first | (rw [if_pos (by decide +kernel)]; kernel_rfl) | (rw [if_neg (by decide +kernel)]; exact ⟨rfl, rfl⟩))
    (fun os started H enc _ => lifted os started H enc)

theorem proved : Rows.FnExactFeedBytesSaid := over
#print axioms proved
end Go.Proofs.Ytmiapmgeacleoaa.fnExactFeedBytes
