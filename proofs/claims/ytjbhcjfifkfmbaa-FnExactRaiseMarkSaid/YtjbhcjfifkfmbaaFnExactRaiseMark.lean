/- impl.RaiseMark answers as spec.RaiseMark at every shard of up to 1048576 aggs (beyond, the law says nothing) and every number, in memory of its own, and leaves the shard as it was. No conditions. -/
import Derived.Test.YtjbhcjfifkfmbaaRows
import Derived.Test.YtjbhcjfifkfmbaaOpenShard
import Derived.Test.YtjbhcjfifkfmbaaRaise
import Derived.Test.YtjbhcjfifkfmbaaHeld
import Derived.WalkSmall
import Derived.WalkKit
import Derived.ProofKit
import Derived.OpenShut
import Derived.ShutString
import Derived.ChangeOld
import Derived.Below
namespace Go.Proofs.Ytjbhcjfifkfmbaa.fnExactRaiseMark
open Go.ChangeShapes Go.WideShapes Go.ChangeAt Go.RowKit
set_option linter.unusedVariables false

theorem own : ownKnob Try.prog.godebug = none := by kernel_rfl
theorem laidOut : laidOutB Try.prog = true := by kernel_rfl


set_option maxHeartbeats 4000000 in
set_option maxRecDepth 100000 in
theorem walk (w : World) (a : Option Addr) (n c : Nat) (mk lt ov : Int) (hm : Is64 mk) (hl : Is64 lt) (ho : Is64 ov) (l : List Ag) (hn : n = l.length) (hs : Ags w w.heap.size a c l) (x : Int) (hx : Is64 x) :
    Calls Try.prog 9 #[.agg #[.slice a n c, .int .i64 mk, .int .i64 lt, .int .i64 ov], .int .i64 x] w fun e w' => e = .returned (.bool true) ∧ Below w.heap.size w w' := by
  have hc1 := hs.cap
  have hc2 := hs.big
  subst hn
  have HZ := Lib.hid (fun W => szShard_any a l.length c mk lt ov W (by omega))
  have BB := Lib.hid (Below.refl w.heap.size w)
  by_cases hbig : 1048576 < l.length
  · rw [if_pos (by omega)] at HZ
    go_enter Try.func9, Try.ntmps9
    go_wp2_with fail
    refine (HZ.out _).mono ?_
    rintro e w1 ⟨rfl, hb⟩
    have B1 := Lib.hid ((BB.out.alloc (Nat.le_refl _) _).trans (hb.mono (by simp <;> omega)))
    clear hb
    go_wp2
    go_ret
    exact ⟨rfl, B1.out⟩
  · have hle : l.length ≤ 1048576 := by omega
    rw [if_neg (by omega)] at HZ
    have A0 := Lib.hid hs
    have SP := Lib.hid (fun (W : World) a1 c1 (h1 : Ags W W.heap.size a1 c1 l) => specRaise_any a1 l.length c1 mk lt ov x l _ W h1 rfl (Nat.le_refl _) hle)
    have IP := Lib.hid (fun (W : World) a1 c1 (h1 : Ags W W.heap.size a1 c1 l) => implRaise_any a1 l.length c1 mk lt ov x l _ W h1 rfl (Nat.le_refl _) hle)
    generalize raiseM l mk lt ov x = M at SP IP
    generalize raiseOk l mk lt ov x = ok at SP IP
    have hok : (ok != ok) = false := by simp
    clear hs hm hl ho hx
    have A_1 := Lib.hid (A0.out.below (((Below.refl w.heap.size w).alloc (Nat.le_refl _) (.cells #[.slice a l.length c, .int .i64 mk, .int .i64 lt, .int .i64 ov] 32)).mono (by first | omega | (simp only [World.size_alloc]; omega) | (simp only [size_drew_]; omega) | (simp only [World.size_alloc, size_drew_]; omega))))
    clear A0
    have BB_1 := Lib.hid (BB.out.alloc (by first | omega | (simp only [World.size_alloc]; omega) | (simp only [size_drew_]; omega) | (simp only [World.size_alloc, size_drew_]; omega)) (.cells #[.slice a l.length c, .int .i64 mk, .int .i64 lt, .int .i64 ov] 32))
    clear BB
    have R_1 := Lib.hid (Blk.new w 32 #[.slice a l.length c, .int .i64 mk, .int .i64 lt, .int .i64 ov])
    go_enter Try.func9, Try.ntmps9
    go_wp2_with fail
    refine (HZ.out _).mono ?_
    rintro e w2 ⟨rfl, hb⟩
    have A_2 := Lib.hid (A_1.out.below (hb.mono (by first | omega | (simp only [World.size_alloc]; omega) | (simp only [size_drew_]; omega) | (simp only [World.size_alloc, size_drew_]; omega))))
    clear A_1
    have R_2 := Lib.hid (R_1.out.below hb)
    clear R_1
    have BB_2 := Lib.hid (BB_1.out.trans (hb.mono (by first | omega | (simp only [World.size_alloc]; omega) | (simp only [size_drew_]; omega) | (simp only [World.size_alloc, size_drew_]; omega))))
    clear BB_1
    have s2 := hb.size
    simp only [World.size_alloc] at s2
    clear hb
    have qR_2 := R_2.out.cell
    go_wp2_with fail
    refine (toShard_any a _ c mk lt ov l _ _ A_2.out rfl (by first | omega | (simp only [World.size_alloc]; omega) | (simp only [size_drew_]; omega) | (simp only [World.size_alloc, size_drew_]; omega)) hle).mono ?_
    rintro e w3 ⟨a3, c3, rfl, ho, hb⟩
    clear qR_2
    have A_3 := Lib.hid (A_2.out.below (hb.mono (by first | omega | (simp only [World.size_alloc]; omega) | (simp only [size_drew_]; omega) | (simp only [World.size_alloc, size_drew_]; omega))))
    clear A_2
    have R_3 := Lib.hid (R_2.out.below hb)
    clear R_2
    have BB_3 := Lib.hid (BB_2.out.trans (hb.mono (by first | omega | (simp only [World.size_alloc]; omega) | (simp only [size_drew_]; omega) | (simp only [World.size_alloc, size_drew_]; omega))))
    clear BB_2
    have X1_3 := Lib.hid (Rw.new ho)
    clear ho
    have s3 := hb.size
    clear hb
    go_wp2_with fail
    refine (SP.out _ _ _ X1_3.out.as).mono ?_
    rintro e w4 ⟨a4, c4, rfl, ho, hb⟩
    have A_4 := Lib.hid (A_3.out.below (hb.mono (by first | omega | (simp only [World.size_alloc]; omega) | (simp only [size_drew_]; omega) | (simp only [World.size_alloc, size_drew_]; omega))))
    clear A_3
    have R_4 := Lib.hid (R_3.out.below hb)
    clear R_3
    have X1_4 := Lib.hid (X1_3.out.below hb (by first | omega | (simp only [World.size_alloc]; omega) | (simp only [size_drew_]; omega) | (simp only [World.size_alloc, size_drew_]; omega)))
    clear X1_3
    have BB_4 := Lib.hid (BB_3.out.trans (hb.mono (by first | omega | (simp only [World.size_alloc]; omega) | (simp only [size_drew_]; omega) | (simp only [World.size_alloc, size_drew_]; omega))))
    clear BB_3
    have R__4 := Lib.hid (Rw.new ho)
    clear ho
    have s4 := hb.size
    clear hb
    clear X1_4
    have A_5 := Lib.hid (A_4.out.below (((Below.refl w4.heap.size w4).alloc (Nat.le_refl _) (.cells #[.slice a4 l.length c4, .int .i64 M, .int .i64 lt, .int .i64 ov] 37)).mono (by first | omega | (simp only [World.size_alloc]; omega) | (simp only [size_drew_]; omega) | (simp only [World.size_alloc, size_drew_]; omega))))
    clear A_4
    have R_5 := Lib.hid (R_4.out.alloc (.cells #[.slice a4 l.length c4, .int .i64 M, .int .i64 lt, .int .i64 ov] 37))
    clear R_4
    have R__5 := Lib.hid (R__4.out.below ((Below.refl w4.heap.size w4).alloc (Nat.le_refl _) (.cells #[.slice a4 l.length c4, .int .i64 M, .int .i64 lt, .int .i64 ov] 37)) (by first | omega | (simp only [World.size_alloc]; omega) | (simp only [size_drew_]; omega) | (simp only [World.size_alloc, size_drew_]; omega)))
    clear R__4
    have BB_5 := Lib.hid (BB_4.out.alloc (by first | omega | (simp only [World.size_alloc]; omega) | (simp only [size_drew_]; omega) | (simp only [World.size_alloc, size_drew_]; omega)) (.cells #[.slice a4 l.length c4, .int .i64 M, .int .i64 lt, .int .i64 ov] 37))
    clear BB_4
    have OR_5 := Lib.hid (Blk.new w4 37 #[.slice a4 l.length c4, .int .i64 M, .int .i64 lt, .int .i64 ov])
    have qR_5 := R_5.out.cell
    go_wp2_with fail
    refine (toShard_any a _ c mk lt ov l _ _ A_5.out rfl (by first | omega | (simp only [World.size_alloc]; omega) | (simp only [size_drew_]; omega) | (simp only [World.size_alloc, size_drew_]; omega)) hle).mono ?_
    rintro e w6 ⟨a6, c6, rfl, ho, hb⟩
    clear qR_5
    have A_6 := Lib.hid (A_5.out.below (hb.mono (by first | omega | (simp only [World.size_alloc]; omega) | (simp only [size_drew_]; omega) | (simp only [World.size_alloc, size_drew_]; omega))))
    clear A_5
    have R_6 := Lib.hid (R_5.out.below hb)
    clear R_5
    have R__6 := Lib.hid (R__5.out.below hb (by first | omega | (simp only [World.size_alloc]; omega) | (simp only [size_drew_]; omega) | (simp only [World.size_alloc, size_drew_]; omega)))
    clear R__5
    have OR_6 := Lib.hid (OR_5.out.below hb)
    clear OR_5
    have BB_6 := Lib.hid (BB_5.out.trans (hb.mono (by first | omega | (simp only [World.size_alloc]; omega) | (simp only [size_drew_]; omega) | (simp only [World.size_alloc, size_drew_]; omega))))
    clear BB_5
    have X_6 := Lib.hid (Rw.new ho)
    clear ho
    have s6 := hb.size
    simp only [World.size_alloc] at s6
    clear hb
    have A_7 := Lib.hid (A_6.out.below (((Below.refl w6.heap.size w6).alloc (Nat.le_refl _) (.cells #[.slice a6 l.length c6, .int .i64 mk, .int .i64 lt, .int .i64 ov] 37)).mono (by first | omega | (simp only [World.size_alloc]; omega) | (simp only [size_drew_]; omega) | (simp only [World.size_alloc, size_drew_]; omega))))
    clear A_6
    have R_7 := Lib.hid (R_6.out.alloc (.cells #[.slice a6 l.length c6, .int .i64 mk, .int .i64 lt, .int .i64 ov] 37))
    clear R_6
    have R__7 := Lib.hid (R__6.out.below ((Below.refl w6.heap.size w6).alloc (Nat.le_refl _) (.cells #[.slice a6 l.length c6, .int .i64 mk, .int .i64 lt, .int .i64 ov] 37)) (by first | omega | (simp only [World.size_alloc]; omega) | (simp only [size_drew_]; omega) | (simp only [World.size_alloc, size_drew_]; omega)))
    clear R__6
    have OR_7 := Lib.hid (OR_6.out.alloc (.cells #[.slice a6 l.length c6, .int .i64 mk, .int .i64 lt, .int .i64 ov] 37))
    clear OR_6
    have X_7 := Lib.hid (X_6.out.below ((Below.refl w6.heap.size w6).alloc (Nat.le_refl _) (.cells #[.slice a6 l.length c6, .int .i64 mk, .int .i64 lt, .int .i64 ov] 37)) (by first | omega | (simp only [World.size_alloc]; omega) | (simp only [size_drew_]; omega) | (simp only [World.size_alloc, size_drew_]; omega)))
    clear X_6
    have BB_7 := Lib.hid (BB_6.out.alloc (by first | omega | (simp only [World.size_alloc]; omega) | (simp only [size_drew_]; omega) | (simp only [World.size_alloc, size_drew_]; omega)) (.cells #[.slice a6 l.length c6, .int .i64 mk, .int .i64 lt, .int .i64 ov] 37))
    clear BB_6
    have OX_7 := Lib.hid (Blk.new w6 37 #[.slice a6 l.length c6, .int .i64 mk, .int .i64 lt, .int .i64 ov])
    have qOX_7 := OX_7.out.cell
    go_wp2_with fail
    refine (IP.out _ _ _ X_7.out.as).mono ?_
    rintro e w8 ⟨a8, c8, rfl, ho, hb⟩
    clear qOX_7
    have A_8 := Lib.hid (A_7.out.below (hb.mono (by first | omega | (simp only [World.size_alloc]; omega) | (simp only [size_drew_]; omega) | (simp only [World.size_alloc, size_drew_]; omega))))
    clear A_7
    have R_8 := Lib.hid (R_7.out.below hb)
    clear R_7
    have R__8 := Lib.hid (R__7.out.below hb (by first | omega | (simp only [World.size_alloc]; omega) | (simp only [size_drew_]; omega) | (simp only [World.size_alloc, size_drew_]; omega)))
    clear R__7
    have OR_8 := Lib.hid (OR_7.out.below hb)
    clear OR_7
    have X_8 := Lib.hid (X_7.out.below hb (by first | omega | (simp only [World.size_alloc]; omega) | (simp only [size_drew_]; omega) | (simp only [World.size_alloc, size_drew_]; omega)))
    clear X_7
    have OX_8 := Lib.hid (OX_7.out.below hb)
    clear OX_7
    have BB_8 := Lib.hid (BB_7.out.trans (hb.mono (by first | omega | (simp only [World.size_alloc]; omega) | (simp only [size_drew_]; omega) | (simp only [World.size_alloc, size_drew_]; omega))))
    clear BB_7
    have G_8 := Lib.hid (Rw.new ho)
    clear ho
    have s8 := hb.size
    simp only [World.size_alloc] at s8
    clear hb
    have A_9 := Lib.hid (A_8.out.below (((Below.refl w8.heap.size w8).alloc (Nat.le_refl _) (.cells #[.slice a8 l.length c8, .int .i64 M, .int .i64 lt, .int .i64 ov] 37)).mono (by first | omega | (simp only [World.size_alloc]; omega) | (simp only [size_drew_]; omega) | (simp only [World.size_alloc, size_drew_]; omega))))
    clear A_8
    have R_9 := Lib.hid (R_8.out.alloc (.cells #[.slice a8 l.length c8, .int .i64 M, .int .i64 lt, .int .i64 ov] 37))
    clear R_8
    have R__9 := Lib.hid (R__8.out.below ((Below.refl w8.heap.size w8).alloc (Nat.le_refl _) (.cells #[.slice a8 l.length c8, .int .i64 M, .int .i64 lt, .int .i64 ov] 37)) (by first | omega | (simp only [World.size_alloc]; omega) | (simp only [size_drew_]; omega) | (simp only [World.size_alloc, size_drew_]; omega)))
    clear R__8
    have OR_9 := Lib.hid (OR_8.out.alloc (.cells #[.slice a8 l.length c8, .int .i64 M, .int .i64 lt, .int .i64 ov] 37))
    clear OR_8
    have X_9 := Lib.hid (X_8.out.below ((Below.refl w8.heap.size w8).alloc (Nat.le_refl _) (.cells #[.slice a8 l.length c8, .int .i64 M, .int .i64 lt, .int .i64 ov] 37)) (by first | omega | (simp only [World.size_alloc]; omega) | (simp only [size_drew_]; omega) | (simp only [World.size_alloc, size_drew_]; omega)))
    clear X_8
    have OX_9 := Lib.hid (OX_8.out.alloc (.cells #[.slice a8 l.length c8, .int .i64 M, .int .i64 lt, .int .i64 ov] 37))
    clear OX_8
    have G_9 := Lib.hid (G_8.out.below ((Below.refl w8.heap.size w8).alloc (Nat.le_refl _) (.cells #[.slice a8 l.length c8, .int .i64 M, .int .i64 lt, .int .i64 ov] 37)) (by first | omega | (simp only [World.size_alloc]; omega) | (simp only [size_drew_]; omega) | (simp only [World.size_alloc, size_drew_]; omega)))
    clear G_8
    have BB_9 := Lib.hid (BB_8.out.alloc (by first | omega | (simp only [World.size_alloc]; omega) | (simp only [size_drew_]; omega) | (simp only [World.size_alloc, size_drew_]; omega)) (.cells #[.slice a8 l.length c8, .int .i64 M, .int .i64 lt, .int .i64 ov] 37))
    clear BB_8
    have OG_9 := Lib.hid (Blk.new w8 37 #[.slice a8 l.length c8, .int .i64 M, .int .i64 lt, .int .i64 ov])
    have qOR_9 := OR_9.out.cell
    go_wp2_with fail
    refine (eqShard_any _ _ _ _ _ _ M lt ov l _ _ _ G_9.out.as R__9.out.as rfl rfl (Nat.le_refl _) (Nat.le_refl _)).mono ?_
    rintro e w10 ⟨rfl, hb⟩
    clear qOR_9
    have A_10 := Lib.hid (A_9.out.below (hb.mono (by first | omega | (simp only [World.size_alloc]; omega) | (simp only [size_drew_]; omega) | (simp only [World.size_alloc, size_drew_]; omega))))
    clear A_9
    have R_10 := Lib.hid (R_9.out.below hb)
    clear R_9
    have R__10 := Lib.hid (R__9.out.below hb (by first | omega | (simp only [World.size_alloc]; omega) | (simp only [size_drew_]; omega) | (simp only [World.size_alloc, size_drew_]; omega)))
    clear R__9
    have OR_10 := Lib.hid (OR_9.out.below hb)
    clear OR_9
    have X_10 := Lib.hid (X_9.out.below hb (by first | omega | (simp only [World.size_alloc]; omega) | (simp only [size_drew_]; omega) | (simp only [World.size_alloc, size_drew_]; omega)))
    clear X_9
    have OX_10 := Lib.hid (OX_9.out.below hb)
    clear OX_9
    have G_10 := Lib.hid (G_9.out.below hb (by first | omega | (simp only [World.size_alloc]; omega) | (simp only [size_drew_]; omega) | (simp only [World.size_alloc, size_drew_]; omega)))
    clear G_9
    have OG_10 := Lib.hid (OG_9.out.below hb)
    clear OG_9
    have BB_10 := Lib.hid (BB_9.out.trans (hb.mono (by first | omega | (simp only [World.size_alloc]; omega) | (simp only [size_drew_]; omega) | (simp only [World.size_alloc, size_drew_]; omega))))
    clear BB_9
    have s10 := hb.size
    simp only [World.size_alloc] at s10
    clear hb
    go_wp2_with fail
    have hOXs0 := OX_10.out.cell
    have hRs0 := R_10.out.cell
    have A_11 := Lib.hid (A_10.out.below (((Below.refl w10.heap.size w10).drew).mono (by first | omega | (simp only [World.size_alloc]; omega) | (simp only [size_drew_]; omega) | (simp only [World.size_alloc, size_drew_]; omega))))
    clear A_10
    have R_11 := Lib.hid (R_10.out.drew)
    clear R_10
    have R__11 := Lib.hid (R__10.out.below ((Below.refl w10.heap.size w10).drew) (by first | omega | (simp only [World.size_alloc]; omega) | (simp only [size_drew_]; omega) | (simp only [World.size_alloc, size_drew_]; omega)))
    clear R__10
    have OR_11 := Lib.hid (OR_10.out.drew)
    clear OR_10
    have X_11 := Lib.hid (X_10.out.below ((Below.refl w10.heap.size w10).drew) (by first | omega | (simp only [World.size_alloc]; omega) | (simp only [size_drew_]; omega) | (simp only [World.size_alloc, size_drew_]; omega)))
    clear X_10
    have OX_11 := Lib.hid (OX_10.out.drew)
    clear OX_10
    have G_11 := Lib.hid (G_10.out.below ((Below.refl w10.heap.size w10).drew) (by first | omega | (simp only [World.size_alloc]; omega) | (simp only [size_drew_]; omega) | (simp only [World.size_alloc, size_drew_]; omega)))
    clear G_10
    have OG_11 := Lib.hid (OG_10.out.drew)
    clear OG_10
    have BB_11 := Lib.hid (BB_10.out.drew)
    clear BB_10
    go_region_held3 (fun W => W.cell? ⟨w6.heap.size, 0, none⟩ = some (.slice a6 l.length c6) ∧ W.cell? ⟨w6.heap.size, 1, none⟩ = some (.int .i64 mk) ∧ W.cell? ⟨w6.heap.size, 2, none⟩ = some (.int .i64 lt) ∧ W.cell? ⟨w6.heap.size, 3, none⟩ = some (.int .i64 ov) ∧ W.cell? ⟨w.heap.size, 0, none⟩ = some (.slice a l.length c) ∧ W.cell? ⟨w.heap.size, 1, none⟩ = some (.int .i64 mk) ∧ W.cell? ⟨w.heap.size, 2, none⟩ = some (.int .i64 lt) ∧ W.cell? ⟨w.heap.size, 3, none⟩ = some (.int .i64 ov))
      (first | exact ⟨hOXs0 0, hOXs0 1, hOXs0 2, hOXs0 3, hRs0 0, hRs0 1, hRs0 2, hRs0 3⟩ | exact ⟨hOXs1 0, hOXs1 1, hOXs1 2, hOXs1 3, hRs1 0, hRs1 1, hRs1 2, hRs1 3⟩ | exact ⟨hOXs2 0, hOXs2 1, hOXs2 2, hOXs2 3, hRs2 0, hRs2 1, hRs2 2, hRs2 3⟩)
      (first
        | (go_at_call 22; refine (toShard_any a _ c mk lt ov l _ _ A_11.out rfl (by first | omega | (simp only [World.size_alloc]; omega) | (simp only [size_drew_]; omega) | (simp only [World.size_alloc, size_drew_]; omega)) hle).mono ?_; rintro e w12 ⟨a12, c12, rfl, ho, hb⟩; have A_12 := Lib.hid (A_11.out.below (hb.mono (by first | omega | (simp only [World.size_alloc]; omega) | (simp only [size_drew_]; omega) | (simp only [World.size_alloc, size_drew_]; omega)))); clear A_11; have R_12 := Lib.hid (R_11.out.below hb); clear R_11; have R__12 := Lib.hid (R__11.out.below hb (by first | omega | (simp only [World.size_alloc]; omega) | (simp only [size_drew_]; omega) | (simp only [World.size_alloc, size_drew_]; omega))); clear R__11; have OR_12 := Lib.hid (OR_11.out.below hb); clear OR_11; have X_12 := Lib.hid (X_11.out.below hb (by first | omega | (simp only [World.size_alloc]; omega) | (simp only [size_drew_]; omega) | (simp only [World.size_alloc, size_drew_]; omega))); clear X_11; have OX_12 := Lib.hid (OX_11.out.below hb); clear OX_11; have G_12 := Lib.hid (G_11.out.below hb (by first | omega | (simp only [World.size_alloc]; omega) | (simp only [size_drew_]; omega) | (simp only [World.size_alloc, size_drew_]; omega))); clear G_11; have OG_12 := Lib.hid (OG_11.out.below hb); clear OG_11; have BB_12 := Lib.hid (BB_11.out.trans (hb.mono (by first | omega | (simp only [World.size_alloc]; omega) | (simp only [size_drew_]; omega) | (simp only [World.size_alloc, size_drew_]; omega)))); clear BB_11; have Z_12 := Lib.hid (Rw.new ho); clear ho; have s12 := hb.size; simp only [size_drew_] at s12; clear hb; clear hOXs0 hRs0; have hOXs1 := OX_12.out.cell; have hRs1 := R_12.out.cell)
        | (go_at_call 24; refine (eqShard_any _ _ _ _ _ _ mk lt ov l _ _ _ X_12.out.as Z_12.out.as rfl rfl (Nat.le_refl _) (Nat.le_refl _)).mono ?_; rintro e w13 ⟨rfl, hb⟩; have A_13 := Lib.hid (A_12.out.below (hb.mono (by first | omega | (simp only [World.size_alloc]; omega) | (simp only [size_drew_]; omega) | (simp only [World.size_alloc, size_drew_]; omega)))); clear A_12; have R_13 := Lib.hid (R_12.out.below hb); clear R_12; have R__13 := Lib.hid (R__12.out.below hb (by first | omega | (simp only [World.size_alloc]; omega) | (simp only [size_drew_]; omega) | (simp only [World.size_alloc, size_drew_]; omega))); clear R__12; have OR_13 := Lib.hid (OR_12.out.below hb); clear OR_12; have X_13 := Lib.hid (X_12.out.below hb (by first | omega | (simp only [World.size_alloc]; omega) | (simp only [size_drew_]; omega) | (simp only [World.size_alloc, size_drew_]; omega))); clear X_12; have OX_13 := Lib.hid (OX_12.out.below hb); clear OX_12; have G_13 := Lib.hid (G_12.out.below hb (by first | omega | (simp only [World.size_alloc]; omega) | (simp only [size_drew_]; omega) | (simp only [World.size_alloc, size_drew_]; omega))); clear G_12; have OG_13 := Lib.hid (OG_12.out.below hb); clear OG_12; have Z_13 := Lib.hid (Z_12.out.below hb (by first | omega | (simp only [World.size_alloc]; omega) | (simp only [size_drew_]; omega) | (simp only [World.size_alloc, size_drew_]; omega))); clear Z_12; have BB_13 := Lib.hid (BB_12.out.trans (hb.mono (by first | omega | (simp only [World.size_alloc]; omega) | (simp only [size_drew_]; omega) | (simp only [World.size_alloc, size_drew_]; omega)))); clear BB_12; have s13 := hb.size; clear hb; clear hOXs1 hRs1; have hOXs2 := OX_13.out.cell; have hRs2 := R_13.out.cell))
    clear hOXs2 hRs2
    clear Z_13
    have qOX_13 := OX_13.out.cell
    go_wp2_with fail
    refine (markShard_m _ _ _ 1 mk lt ov _ l _ _ X_13.out.own rfl rfl (by first | omega | (simp only [World.size_alloc]; omega) | (simp only [size_drew_]; omega) | (simp only [World.size_alloc, size_drew_]; omega)) (by omega) (by omega)).mono ?_
    rintro e w14 ⟨rfl, hm⟩
    clear qOX_13
    have hb := hm.below
    have X_14 := Lib.hid (Rw.mk hm.own X_13.out.up)
    have A_14 := Lib.hid (A_13.out.below (hb.mono (by first | omega | (simp only [World.size_alloc]; omega) | (simp only [size_drew_]; omega) | (simp only [World.size_alloc, size_drew_]; omega))))
    clear A_13
    have R_14 := Lib.hid (R_13.out.far X_13.out hm.grown (by first | omega | (simp only [World.size_alloc]; omega) | (simp only [size_drew_]; omega) | (simp only [World.size_alloc, size_drew_]; omega)))
    clear R_13
    have R__14 := Lib.hid (R__13.out.other X_13.out hm.grown (by first | omega | (simp only [World.size_alloc]; omega) | (simp only [size_drew_]; omega) | (simp only [World.size_alloc, size_drew_]; omega)))
    clear R__13
    have OR_14 := Lib.hid (OR_13.out.far X_13.out hm.grown (by first | omega | (simp only [World.size_alloc]; omega) | (simp only [size_drew_]; omega) | (simp only [World.size_alloc, size_drew_]; omega)))
    clear OR_13
    have OX_14 := Lib.hid (OX_13.out.far X_13.out hm.grown (by first | omega | (simp only [World.size_alloc]; omega) | (simp only [size_drew_]; omega) | (simp only [World.size_alloc, size_drew_]; omega)))
    clear OX_13
    have G_14 := Lib.hid (G_13.out.other X_13.out hm.grown (by first | omega | (simp only [World.size_alloc]; omega) | (simp only [size_drew_]; omega) | (simp only [World.size_alloc, size_drew_]; omega)))
    clear G_13
    have OG_14 := Lib.hid (OG_13.out.far X_13.out hm.grown (by first | omega | (simp only [World.size_alloc]; omega) | (simp only [size_drew_]; omega) | (simp only [World.size_alloc, size_drew_]; omega)))
    clear OG_13
    have BB_14 := Lib.hid (BB_13.out.trans (hb.mono (by first | omega | (simp only [World.size_alloc]; omega) | (simp only [size_drew_]; omega) | (simp only [World.size_alloc, size_drew_]; omega))))
    clear BB_13
    clear X_13
    have s14 := hb.size
    clear hb hm
    have qOG_14 := OG_14.out.cell
    have qOR_14 := OR_14.out.cell
    go_wp2_with fail
    refine (eqShard_any _ _ _ _ _ _ M lt ov l _ _ _ G_14.out.as R__14.out.as rfl rfl (Nat.le_refl _) (Nat.le_refl _)).mono ?_
    rintro e w15 ⟨rfl, hb⟩
    clear qOG_14 qOR_14
    have A_15 := Lib.hid (A_14.out.below (hb.mono (by first | omega | (simp only [World.size_alloc]; omega) | (simp only [size_drew_]; omega) | (simp only [World.size_alloc, size_drew_]; omega))))
    clear A_14
    have R_15 := Lib.hid (R_14.out.below hb)
    clear R_14
    have R__15 := Lib.hid (R__14.out.below hb (by first | omega | (simp only [World.size_alloc]; omega) | (simp only [size_drew_]; omega) | (simp only [World.size_alloc, size_drew_]; omega)))
    clear R__14
    have OR_15 := Lib.hid (OR_14.out.below hb)
    clear OR_14
    have X_15 := Lib.hid (X_14.out.below hb (by first | omega | (simp only [World.size_alloc]; omega) | (simp only [size_drew_]; omega) | (simp only [World.size_alloc, size_drew_]; omega)))
    clear X_14
    have OX_15 := Lib.hid (OX_14.out.below hb)
    clear OX_14
    have G_15 := Lib.hid (G_14.out.below hb (by first | omega | (simp only [World.size_alloc]; omega) | (simp only [size_drew_]; omega) | (simp only [World.size_alloc, size_drew_]; omega)))
    clear G_14
    have OG_15 := Lib.hid (OG_14.out.below hb)
    clear OG_14
    have BB_15 := Lib.hid (BB_14.out.trans (hb.mono (by first | omega | (simp only [World.size_alloc]; omega) | (simp only [size_drew_]; omega) | (simp only [World.size_alloc, size_drew_]; omega))))
    clear BB_14
    have s15 := hb.size
    clear hb
    have qOG_15 := OG_15.out.cell
    go_wp2_with fail
    refine (markShard_m _ _ _ 1 M lt ov _ l _ _ G_15.out.own rfl rfl (by first | omega | (simp only [World.size_alloc]; omega) | (simp only [size_drew_]; omega) | (simp only [World.size_alloc, size_drew_]; omega)) (by omega) (by omega)).mono ?_
    rintro e w16 ⟨rfl, hm⟩
    clear qOG_15
    have hb := hm.below
    have G_16 := Lib.hid (Rw.mk hm.own G_15.out.up)
    have A_16 := Lib.hid (A_15.out.below (hb.mono (by first | omega | (simp only [World.size_alloc]; omega) | (simp only [size_drew_]; omega) | (simp only [World.size_alloc, size_drew_]; omega))))
    clear A_15
    have R_16 := Lib.hid (R_15.out.far G_15.out hm.grown (by first | omega | (simp only [World.size_alloc]; omega) | (simp only [size_drew_]; omega) | (simp only [World.size_alloc, size_drew_]; omega)))
    clear R_15
    have R__16 := Lib.hid (R__15.out.other G_15.out hm.grown (by first | omega | (simp only [World.size_alloc]; omega) | (simp only [size_drew_]; omega) | (simp only [World.size_alloc, size_drew_]; omega)))
    clear R__15
    have OR_16 := Lib.hid (OR_15.out.far G_15.out hm.grown (by first | omega | (simp only [World.size_alloc]; omega) | (simp only [size_drew_]; omega) | (simp only [World.size_alloc, size_drew_]; omega)))
    clear OR_15
    have X_16 := Lib.hid (X_15.out.other G_15.out hm.grown (by first | omega | (simp only [World.size_alloc]; omega) | (simp only [size_drew_]; omega) | (simp only [World.size_alloc, size_drew_]; omega)))
    clear X_15
    have OX_16 := Lib.hid (OX_15.out.far G_15.out hm.grown (by first | omega | (simp only [World.size_alloc]; omega) | (simp only [size_drew_]; omega) | (simp only [World.size_alloc, size_drew_]; omega)))
    clear OX_15
    have OG_16 := Lib.hid (OG_15.out.far G_15.out hm.grown (by first | omega | (simp only [World.size_alloc]; omega) | (simp only [size_drew_]; omega) | (simp only [World.size_alloc, size_drew_]; omega)))
    clear OG_15
    have BB_16 := Lib.hid (BB_15.out.trans (hb.mono (by first | omega | (simp only [World.size_alloc]; omega) | (simp only [size_drew_]; omega) | (simp only [World.size_alloc, size_drew_]; omega))))
    clear BB_15
    clear G_15
    have s16 := hb.size
    clear hb hm
    have qOG_16 := OG_16.out.cell
    go_wp2_with fail
    refine (heldShard_m _ _ _ 1 M lt ov _ _ _ G_16.out.as (Nat.le_refl _) rfl (by omega) (by omega)).mono ?_
    rintro e w17 ⟨rfl, hb⟩
    clear qOG_16
    have A_17 := Lib.hid (A_16.out.below (hb.mono (by first | omega | (simp only [World.size_alloc]; omega) | (simp only [size_drew_]; omega) | (simp only [World.size_alloc, size_drew_]; omega))))
    clear A_16
    have R_17 := Lib.hid (R_16.out.below hb)
    clear R_16
    have R__17 := Lib.hid (R__16.out.below hb (by first | omega | (simp only [World.size_alloc]; omega) | (simp only [size_drew_]; omega) | (simp only [World.size_alloc, size_drew_]; omega)))
    clear R__16
    have OR_17 := Lib.hid (OR_16.out.below hb)
    clear OR_16
    have X_17 := Lib.hid (X_16.out.below hb (by first | omega | (simp only [World.size_alloc]; omega) | (simp only [size_drew_]; omega) | (simp only [World.size_alloc, size_drew_]; omega)))
    clear X_16
    have OX_17 := Lib.hid (OX_16.out.below hb)
    clear OX_16
    have G_17 := Lib.hid (G_16.out.below hb (by first | omega | (simp only [World.size_alloc]; omega) | (simp only [size_drew_]; omega) | (simp only [World.size_alloc, size_drew_]; omega)))
    clear G_16
    have OG_17 := Lib.hid (OG_16.out.below hb)
    clear OG_16
    have BB_17 := Lib.hid (BB_16.out.trans (hb.mono (by first | omega | (simp only [World.size_alloc]; omega) | (simp only [size_drew_]; omega) | (simp only [World.size_alloc, size_drew_]; omega))))
    clear BB_16
    have s17 := hb.size
    clear hb
    have qR_17 := R_17.out.cell
    go_wp2_with fail
    refine (toShard_any a _ c mk lt ov l _ _ A_17.out rfl (by first | omega | (simp only [World.size_alloc]; omega) | (simp only [size_drew_]; omega) | (simp only [World.size_alloc, size_drew_]; omega)) hle).mono ?_
    rintro e w18 ⟨a18, c18, rfl, ho, hb⟩
    clear qR_17
    have A_18 := Lib.hid (A_17.out.below (hb.mono (by first | omega | (simp only [World.size_alloc]; omega) | (simp only [size_drew_]; omega) | (simp only [World.size_alloc, size_drew_]; omega))))
    clear A_17
    have R_18 := Lib.hid (R_17.out.below hb)
    clear R_17
    have R__18 := Lib.hid (R__17.out.below hb (by first | omega | (simp only [World.size_alloc]; omega) | (simp only [size_drew_]; omega) | (simp only [World.size_alloc, size_drew_]; omega)))
    clear R__17
    have OR_18 := Lib.hid (OR_17.out.below hb)
    clear OR_17
    have X_18 := Lib.hid (X_17.out.below hb (by first | omega | (simp only [World.size_alloc]; omega) | (simp only [size_drew_]; omega) | (simp only [World.size_alloc, size_drew_]; omega)))
    clear X_17
    have OX_18 := Lib.hid (OX_17.out.below hb)
    clear OX_17
    have G_18 := Lib.hid (G_17.out.below hb (by first | omega | (simp only [World.size_alloc]; omega) | (simp only [size_drew_]; omega) | (simp only [World.size_alloc, size_drew_]; omega)))
    clear G_17
    have OG_18 := Lib.hid (OG_17.out.below hb)
    clear OG_17
    have BB_18 := Lib.hid (BB_17.out.trans (hb.mono (by first | omega | (simp only [World.size_alloc]; omega) | (simp only [size_drew_]; omega) | (simp only [World.size_alloc, size_drew_]; omega))))
    clear BB_17
    have X2_18 := Lib.hid (Rw.new ho)
    clear ho
    have s18 := hb.size
    clear hb
    go_wp2_with fail
    refine (IP.out _ _ _ X2_18.out.as).mono ?_
    rintro e w19 ⟨a19, c19, rfl, ho, hb⟩
    have A_19 := Lib.hid (A_18.out.below (hb.mono (by first | omega | (simp only [World.size_alloc]; omega) | (simp only [size_drew_]; omega) | (simp only [World.size_alloc, size_drew_]; omega))))
    clear A_18
    have R_19 := Lib.hid (R_18.out.below hb)
    clear R_18
    have R__19 := Lib.hid (R__18.out.below hb (by first | omega | (simp only [World.size_alloc]; omega) | (simp only [size_drew_]; omega) | (simp only [World.size_alloc, size_drew_]; omega)))
    clear R__18
    have OR_19 := Lib.hid (OR_18.out.below hb)
    clear OR_18
    have X_19 := Lib.hid (X_18.out.below hb (by first | omega | (simp only [World.size_alloc]; omega) | (simp only [size_drew_]; omega) | (simp only [World.size_alloc, size_drew_]; omega)))
    clear X_18
    have OX_19 := Lib.hid (OX_18.out.below hb)
    clear OX_18
    have G_19 := Lib.hid (G_18.out.below hb (by first | omega | (simp only [World.size_alloc]; omega) | (simp only [size_drew_]; omega) | (simp only [World.size_alloc, size_drew_]; omega)))
    clear G_18
    have OG_19 := Lib.hid (OG_18.out.below hb)
    clear OG_18
    have X2_19 := Lib.hid (X2_18.out.below hb (by first | omega | (simp only [World.size_alloc]; omega) | (simp only [size_drew_]; omega) | (simp only [World.size_alloc, size_drew_]; omega)))
    clear X2_18
    have BB_19 := Lib.hid (BB_18.out.trans (hb.mono (by first | omega | (simp only [World.size_alloc]; omega) | (simp only [size_drew_]; omega) | (simp only [World.size_alloc, size_drew_]; omega))))
    clear BB_18
    have H__19 := Lib.hid (Rw.new ho)
    clear ho
    have s19 := hb.size
    clear hb
    clear X2_19
    have A_20 := Lib.hid (A_19.out.below (((Below.refl w19.heap.size w19).alloc (Nat.le_refl _) (.cells #[.slice a19 l.length c19, .int .i64 M, .int .i64 lt, .int .i64 ov] 37)).mono (by first | omega | (simp only [World.size_alloc]; omega) | (simp only [size_drew_]; omega) | (simp only [World.size_alloc, size_drew_]; omega))))
    clear A_19
    have R_20 := Lib.hid (R_19.out.alloc (.cells #[.slice a19 l.length c19, .int .i64 M, .int .i64 lt, .int .i64 ov] 37))
    clear R_19
    have R__20 := Lib.hid (R__19.out.below ((Below.refl w19.heap.size w19).alloc (Nat.le_refl _) (.cells #[.slice a19 l.length c19, .int .i64 M, .int .i64 lt, .int .i64 ov] 37)) (by first | omega | (simp only [World.size_alloc]; omega) | (simp only [size_drew_]; omega) | (simp only [World.size_alloc, size_drew_]; omega)))
    clear R__19
    have OR_20 := Lib.hid (OR_19.out.alloc (.cells #[.slice a19 l.length c19, .int .i64 M, .int .i64 lt, .int .i64 ov] 37))
    clear OR_19
    have X_20 := Lib.hid (X_19.out.below ((Below.refl w19.heap.size w19).alloc (Nat.le_refl _) (.cells #[.slice a19 l.length c19, .int .i64 M, .int .i64 lt, .int .i64 ov] 37)) (by first | omega | (simp only [World.size_alloc]; omega) | (simp only [size_drew_]; omega) | (simp only [World.size_alloc, size_drew_]; omega)))
    clear X_19
    have OX_20 := Lib.hid (OX_19.out.alloc (.cells #[.slice a19 l.length c19, .int .i64 M, .int .i64 lt, .int .i64 ov] 37))
    clear OX_19
    have G_20 := Lib.hid (G_19.out.below ((Below.refl w19.heap.size w19).alloc (Nat.le_refl _) (.cells #[.slice a19 l.length c19, .int .i64 M, .int .i64 lt, .int .i64 ov] 37)) (by first | omega | (simp only [World.size_alloc]; omega) | (simp only [size_drew_]; omega) | (simp only [World.size_alloc, size_drew_]; omega)))
    clear G_19
    have OG_20 := Lib.hid (OG_19.out.alloc (.cells #[.slice a19 l.length c19, .int .i64 M, .int .i64 lt, .int .i64 ov] 37))
    clear OG_19
    have H__20 := Lib.hid (H__19.out.below ((Below.refl w19.heap.size w19).alloc (Nat.le_refl _) (.cells #[.slice a19 l.length c19, .int .i64 M, .int .i64 lt, .int .i64 ov] 37)) (by first | omega | (simp only [World.size_alloc]; omega) | (simp only [size_drew_]; omega) | (simp only [World.size_alloc, size_drew_]; omega)))
    clear H__19
    have BB_20 := Lib.hid (BB_19.out.alloc (by first | omega | (simp only [World.size_alloc]; omega) | (simp only [size_drew_]; omega) | (simp only [World.size_alloc, size_drew_]; omega)) (.cells #[.slice a19 l.length c19, .int .i64 M, .int .i64 lt, .int .i64 ov] 37))
    clear BB_19
    have OH_20 := Lib.hid (Blk.new w19 37 #[.slice a19 l.length c19, .int .i64 M, .int .i64 lt, .int .i64 ov])
    have qOR_20 := OR_20.out.cell
    go_wp2_with fail
    refine (eqShard_any _ _ _ _ _ _ M lt ov l _ _ _ H__20.out.as R__20.out.as rfl rfl (Nat.le_refl _) (Nat.le_refl _)).mono ?_
    rintro e w21 ⟨rfl, hb⟩
    clear qOR_20
    have A_21 := Lib.hid (A_20.out.below (hb.mono (by first | omega | (simp only [World.size_alloc]; omega) | (simp only [size_drew_]; omega) | (simp only [World.size_alloc, size_drew_]; omega))))
    clear A_20
    have R_21 := Lib.hid (R_20.out.below hb)
    clear R_20
    have R__21 := Lib.hid (R__20.out.below hb (by first | omega | (simp only [World.size_alloc]; omega) | (simp only [size_drew_]; omega) | (simp only [World.size_alloc, size_drew_]; omega)))
    clear R__20
    have OR_21 := Lib.hid (OR_20.out.below hb)
    clear OR_20
    have X_21 := Lib.hid (X_20.out.below hb (by first | omega | (simp only [World.size_alloc]; omega) | (simp only [size_drew_]; omega) | (simp only [World.size_alloc, size_drew_]; omega)))
    clear X_20
    have OX_21 := Lib.hid (OX_20.out.below hb)
    clear OX_20
    have G_21 := Lib.hid (G_20.out.below hb (by first | omega | (simp only [World.size_alloc]; omega) | (simp only [size_drew_]; omega) | (simp only [World.size_alloc, size_drew_]; omega)))
    clear G_20
    have OG_21 := Lib.hid (OG_20.out.below hb)
    clear OG_20
    have H__21 := Lib.hid (H__20.out.below hb (by first | omega | (simp only [World.size_alloc]; omega) | (simp only [size_drew_]; omega) | (simp only [World.size_alloc, size_drew_]; omega)))
    clear H__20
    have OH_21 := Lib.hid (OH_20.out.below hb)
    clear OH_20
    have BB_21 := Lib.hid (BB_20.out.trans (hb.mono (by first | omega | (simp only [World.size_alloc]; omega) | (simp only [size_drew_]; omega) | (simp only [World.size_alloc, size_drew_]; omega))))
    clear BB_20
    have s21 := hb.size
    simp only [World.size_alloc] at s21
    clear hb
    have qOG_21 := OG_21.out.cell
    go_wp2_with fail
    refine (heldShard_m _ _ _ 1 M lt ov _ _ _ G_21.out.as (Nat.le_refl _) rfl (by omega) (by omega)).mono ?_
    rintro e w22 ⟨rfl, hb⟩
    clear qOG_21
    have A_22 := Lib.hid (A_21.out.below (hb.mono (by first | omega | (simp only [World.size_alloc]; omega) | (simp only [size_drew_]; omega) | (simp only [World.size_alloc, size_drew_]; omega))))
    clear A_21
    have R_22 := Lib.hid (R_21.out.below hb)
    clear R_21
    have R__22 := Lib.hid (R__21.out.below hb (by first | omega | (simp only [World.size_alloc]; omega) | (simp only [size_drew_]; omega) | (simp only [World.size_alloc, size_drew_]; omega)))
    clear R__21
    have OR_22 := Lib.hid (OR_21.out.below hb)
    clear OR_21
    have X_22 := Lib.hid (X_21.out.below hb (by first | omega | (simp only [World.size_alloc]; omega) | (simp only [size_drew_]; omega) | (simp only [World.size_alloc, size_drew_]; omega)))
    clear X_21
    have OX_22 := Lib.hid (OX_21.out.below hb)
    clear OX_21
    have G_22 := Lib.hid (G_21.out.below hb (by first | omega | (simp only [World.size_alloc]; omega) | (simp only [size_drew_]; omega) | (simp only [World.size_alloc, size_drew_]; omega)))
    clear G_21
    have OG_22 := Lib.hid (OG_21.out.below hb)
    clear OG_21
    have H__22 := Lib.hid (H__21.out.below hb (by first | omega | (simp only [World.size_alloc]; omega) | (simp only [size_drew_]; omega) | (simp only [World.size_alloc, size_drew_]; omega)))
    clear H__21
    have OH_22 := Lib.hid (OH_21.out.below hb)
    clear OH_21
    have BB_22 := Lib.hid (BB_21.out.trans (hb.mono (by first | omega | (simp only [World.size_alloc]; omega) | (simp only [size_drew_]; omega) | (simp only [World.size_alloc, size_drew_]; omega))))
    clear BB_21
    have s22 := hb.size
    clear hb
    go_wp2
    go_ret
    exact ⟨rfl, BB_22.out⟩

set_option maxRecDepth 100000 in
theorem lifted (os : Os) (started : os.Started) (H : Type) (enc : TypeId × Value → H) :
    ReturnsInHanded {} Try.checked os 9 .any (Rows.fnExactRaiseMarkSpec.pre6 enc Try.prog Try.f9 Rows.fnExactRaiseMarkRow.domain false) (Rows.fnExactRaiseMarkSpec.post enc Try.prog Try.f9 false true false false) := by
  refine returnsInHanded_of_change (C := Try.checked) own started (by kernel_rfl) Try.func9
    (ChangeSpec.witness6 (enc := enc) (C := Try.checked) false ⟨#[], #[.agg #[.slice none 0 0, .int .i64 0, .int .i64 0, .int .i64 0], .int .i64 0], []⟩ 8 (by kernel_rfl) (by kernel_rfl) (by kernel_rfl) (by kernel_rfl)) ?_
  intro W base args ds gs before hval0 hW hcnd _
  have hval : ∀ (j : Nat) t v, Try.f9.params[j]? = some t → args[j]? = some v → Value.okWide Try.prog W .any base t v := hval0
  have hW' := hW
  obtain ⟨p, q, hA0, hV, rfl, hfz, hnd⟩ := hW
  have hA : DataW.TrodAll enc Try.prog W 0 (fun _ => true) true Try.f9.params.toList args.toList ds p := hA0
  rw [Try.params9] at hA hval
  obtain ⟨v0, vs0, d0, ds0, p0, q0, hargs, rfl, rfl, h0, r0⟩ := trodAll_cons hA
  obtain ⟨v1, vs1, d1, ds1, p1, q1, rfl, rfl, rfl, h1, r1⟩ := trodAll_cons r0
  obtain ⟨rfl, rfl, rfl⟩ := trodAll_nil r1
  obtain rfl : args = #[v0, v1] := by cases args; simp_all
  obtain ⟨rfl, rfl⟩ := trodVars_none hV
  have lt0 : ∀ x ∈ p0, x.block < W.heap.size := by obtain ⟨m, hm⟩ := h0; exact DataW.trod_lt m _ _ _ hm
  obtain ⟨a0, n0, c0, mk0, lt0_, ov0, rfl, hm0, hl0, ho0, l0, hn0, hs0⟩ := arg_shard (hval 0 32 v0 rfl rfl) h0
  have lt1 : ∀ x ∈ p1, x.block < W.heap.size := by obtain ⟨m, hm⟩ := h1; exact DataW.trod_lt m _ _ _ hm
  obtain ⟨x1, rfl, hx1⟩ := arg_int (hval 1 3 v1 rfl rfl) h1
  clear hA0 hval0
  refine (walk W a0 n0 c0 mk0 lt0_ ov0 hm0 hl0 ho0 l0 hn0 hs0 x1 hx1).mono fun e W' ⟨he, bel⟩ => ?_
  subst he
  exact ⟨_, rfl, _, _, _, [], _, [], hW', trodAll_mk1 (shut_bool Try.underlying4 _), (trodAll_cons_mk (Below.trod laidOut (by kernel_rfl) (of_decide_eq_true (by kernel_rfl)) h0 bel lt0) (trodAll_cons_mk (Below.trod laidOut (by kernel_rfl) (of_decide_eq_true (by kernel_rfl)) h1 bel lt1) trodAll_mk0)), rfl, bel.frame _, fun h => by cases h⟩

theorem over : Rows.fnExactRaiseMarkRow.holds Try.pinned (OpenSpec.ofChange Rows.fnExactRaiseMarkSpec) :=
  OpenClaim.holds_of_wide 9 Try.f9 rfl rfl rfl rfl rfl rfl rfl ⟨rfl, rfl, rfl, rfl, rfl⟩ rfl rfl rfl rfl rfl (by kernel_rfl) Try.func9 (by kernel_rfl)
    (of_decide_eq_true (by kernel_rfl)) (by unfold Func.isWrapper; first | (rw [if_pos (by decide +kernel)]; kernel_rfl) | (rw [if_neg (by decide +kernel)]; exact ⟨rfl, rfl⟩))
    (fun os started H enc _ => lifted os started H enc)

theorem proved : Rows.FnExactRaiseMarkSaid := over
#print axioms proved
end Go.Proofs.Ytjbhcjfifkfmbaa.fnExactRaiseMark
