/- impl.ClosedOf answers as spec.ClosedOf at every shard of up to 1048576 aggs (beyond, the law says nothing) and every number, in memory of its own, and leaves the shard as it was. No conditions. -/
import Derived.Test.YtnfhlfbkdhpacaaRows
import Derived.Test.YtnfhlfbkdhpacaaOpenShard
import Derived.Test.YtnfhlfbkdhpacaaClosA
import Derived.Test.YtnfhlfbkdhpacaaClosS
import Derived.Test.YtnfhlfbkdhpacaaHeld
import Derived.WalkSmall
import Derived.WalkKit
import Derived.ProofKit
import Derived.OpenShut
import Derived.ShutString
import Derived.ChangeOld
import Derived.Below
namespace Go.Proofs.Ytnfhlfbkdhpacaa.fnExactClosedOf
open Go.ChangeShapes Go.WideShapes Go.ChangeAt Go.RowKit
set_option linter.unusedVariables false

theorem own : ownKnob Try.prog.godebug = none := by kernel_rfl
theorem laidOut : laidOutB Try.prog = true := by kernel_rfl


set_option maxHeartbeats 4000000 in
set_option maxRecDepth 100000 in
theorem walk (w : World) (a : Option Addr) (n c : Nat) (mk lt ov : Int) (hm : Is64 mk) (hl : Is64 lt) (ho : Is64 ov) (l : List Ag) (hn : n = l.length) (hs : Ags w w.heap.size a c l) (x : Int) (hx : Is64 x) :
    Calls Try.prog 3 #[.agg #[.slice a n c, .int .i64 mk, .int .i64 lt, .int .i64 ov], .int .i64 x] w fun e w' => e = .returned (.bool true) ∧ Below w.heap.size w w' := by
  have hc1 := hs.cap
  have hc2 := hs.big
  subst hn
  have HZ := Lib.hid (fun W => szShard_any a l.length c mk lt ov W (by omega))
  have BB := Lib.hid (Below.refl w.heap.size w)
  by_cases hbig : 1048576 < l.length
  · rw [if_pos (by omega)] at HZ
    go_enter Try.func3, Try.ntmps3
    go_wp2_with fail
    refine (HZ.out _).mono ?_
    rintro e w1 ⟨rfl, hb⟩
    have B1 := Lib.hid ((BB.out.alloc (Nat.le_refl _) _).trans (hb.mono (by simp <;> omega)))
    clear hb
    go_wp2
    go_ret
    exact ⟨rfl, B1.out⟩
  · have hle : l.length ≤ 1048576 := by omega
    rw [if_neg (by omega)] at HZ
    have A0 := Lib.hid hs
    have SP := Lib.hid (fun (W : World) a1 c1 (h1 : Ags W W.heap.size a1 c1 l) => specClosed_any a1 c1 mk lt ov x l _ W h1 (Nat.le_refl _))
    have IP := Lib.hid (fun (W : World) a1 c1 (h1 : Ags W W.heap.size a1 c1 l) => implClosed_any a1 c1 mk lt ov x l _ W h1 (Nat.le_refl _))
    have hRl : (closedL l mk lt ov x).length ≤ 1048576 := by
      unfold closedL
      split
      · exact Nat.le_trans (List.length_filter_le _ _) hle
      · simp
    generalize closedL l mk lt ov x = R at SP IP hRl
    clear hs hm hl ho hx
    have A_1 := Lib.hid (A0.out.below (((Below.refl w.heap.size w).alloc (Nat.le_refl _) (.cells #[.slice a l.length c, .int .i64 mk, .int .i64 lt, .int .i64 ov] 24)).mono (by first | omega | (simp only [World.size_alloc]; omega) | (simp only [size_drew_]; omega) | (simp only [World.size_alloc, size_drew_]; omega))))
    clear A0
    have BB_1 := Lib.hid (BB.out.alloc (by first | omega | (simp only [World.size_alloc]; omega) | (simp only [size_drew_]; omega) | (simp only [World.size_alloc, size_drew_]; omega)) (.cells #[.slice a l.length c, .int .i64 mk, .int .i64 lt, .int .i64 ov] 24))
    clear BB
    have R_1 := Lib.hid (Blk.new w 24 #[.slice a l.length c, .int .i64 mk, .int .i64 lt, .int .i64 ov])
    go_enter Try.func3, Try.ntmps3
    go_wp2_with fail
    refine (HZ.out _).mono ?_
    rintro e w2 ⟨rfl, hb⟩
    have A_2 := Lib.hid (A_1.out.below (hb.mono (by first | omega | (simp only [World.size_alloc]; omega) | (simp only [size_drew_]; omega) | (simp only [World.size_alloc, size_drew_]; omega))))
    clear A_1
    have R_2 := Lib.hid (R_1.out.below hb)
    clear R_1
    have BB_2 := Lib.hid (BB_1.out.trans (hb.mono (by first | omega | (simp only [World.size_alloc]; omega) | (simp only [size_drew_]; omega) | (simp only [World.size_alloc, size_drew_]; omega))))
    clear BB_1
    have s2 := hb.size
    simp only [World.size_alloc] at s2
    clear hb
    have qR_2 := R_2.out.cell
    go_wp2_with fail
    refine (toShard_any a _ c mk lt ov l _ _ A_2.out rfl (by first | omega | (simp only [World.size_alloc]; omega) | (simp only [size_drew_]; omega) | (simp only [World.size_alloc, size_drew_]; omega)) hle).mono ?_
    rintro e w3 ⟨a3, c3, rfl, ho, hb⟩
    clear qR_2
    have A_3 := Lib.hid (A_2.out.below (hb.mono (by first | omega | (simp only [World.size_alloc]; omega) | (simp only [size_drew_]; omega) | (simp only [World.size_alloc, size_drew_]; omega))))
    clear A_2
    have R_3 := Lib.hid (R_2.out.below hb)
    clear R_2
    have BB_3 := Lib.hid (BB_2.out.trans (hb.mono (by first | omega | (simp only [World.size_alloc]; omega) | (simp only [size_drew_]; omega) | (simp only [World.size_alloc, size_drew_]; omega))))
    clear BB_2
    have X1_3 := Lib.hid (Rw.new ho)
    clear ho
    have s3 := hb.size
    clear hb
    go_wp2_with fail
    refine (SP.out _ _ _ X1_3.out.as).mono ?_
    rintro e w4 ⟨a4, c4, rfl, ho, hb⟩
    have A_4 := Lib.hid (A_3.out.below (hb.mono (by first | omega | (simp only [World.size_alloc]; omega) | (simp only [size_drew_]; omega) | (simp only [World.size_alloc, size_drew_]; omega))))
    clear A_3
    have R_4 := Lib.hid (R_3.out.below hb)
    clear R_3
    have X1_4 := Lib.hid (X1_3.out.below hb (by first | omega | (simp only [World.size_alloc]; omega) | (simp only [size_drew_]; omega) | (simp only [World.size_alloc, size_drew_]; omega)))
    clear X1_3
    have BB_4 := Lib.hid (BB_3.out.trans (hb.mono (by first | omega | (simp only [World.size_alloc]; omega) | (simp only [size_drew_]; omega) | (simp only [World.size_alloc, size_drew_]; omega))))
    clear BB_3
    have R__4 := Lib.hid (Rw.new ho)
    clear ho
    have s4 := hb.size
    clear hb
    clear X1_4
    have qR_4 := R_4.out.cell
    go_wp2_with fail
    refine (toShard_any a _ c mk lt ov l _ _ A_4.out rfl (by first | omega | (simp only [World.size_alloc]; omega) | (simp only [size_drew_]; omega) | (simp only [World.size_alloc, size_drew_]; omega)) hle).mono ?_
    rintro e w5 ⟨a5, c5, rfl, ho, hb⟩
    clear qR_4
    have A_5 := Lib.hid (A_4.out.below (hb.mono (by first | omega | (simp only [World.size_alloc]; omega) | (simp only [size_drew_]; omega) | (simp only [World.size_alloc, size_drew_]; omega))))
    clear A_4
    have R_5 := Lib.hid (R_4.out.below hb)
    clear R_4
    have R__5 := Lib.hid (R__4.out.below hb (by first | omega | (simp only [World.size_alloc]; omega) | (simp only [size_drew_]; omega) | (simp only [World.size_alloc, size_drew_]; omega)))
    clear R__4
    have BB_5 := Lib.hid (BB_4.out.trans (hb.mono (by first | omega | (simp only [World.size_alloc]; omega) | (simp only [size_drew_]; omega) | (simp only [World.size_alloc, size_drew_]; omega))))
    clear BB_4
    have X_5 := Lib.hid (Rw.new ho)
    clear ho
    have s5 := hb.size
    clear hb
    have A_6 := Lib.hid (A_5.out.below (((Below.refl w5.heap.size w5).alloc (Nat.le_refl _) (.cells #[.slice a5 l.length c5, .int .i64 mk, .int .i64 lt, .int .i64 ov] 29)).mono (by first | omega | (simp only [World.size_alloc]; omega) | (simp only [size_drew_]; omega) | (simp only [World.size_alloc, size_drew_]; omega))))
    clear A_5
    have R_6 := Lib.hid (R_5.out.alloc (.cells #[.slice a5 l.length c5, .int .i64 mk, .int .i64 lt, .int .i64 ov] 29))
    clear R_5
    have R__6 := Lib.hid (R__5.out.below ((Below.refl w5.heap.size w5).alloc (Nat.le_refl _) (.cells #[.slice a5 l.length c5, .int .i64 mk, .int .i64 lt, .int .i64 ov] 29)) (by first | omega | (simp only [World.size_alloc]; omega) | (simp only [size_drew_]; omega) | (simp only [World.size_alloc, size_drew_]; omega)))
    clear R__5
    have X_6 := Lib.hid (X_5.out.below ((Below.refl w5.heap.size w5).alloc (Nat.le_refl _) (.cells #[.slice a5 l.length c5, .int .i64 mk, .int .i64 lt, .int .i64 ov] 29)) (by first | omega | (simp only [World.size_alloc]; omega) | (simp only [size_drew_]; omega) | (simp only [World.size_alloc, size_drew_]; omega)))
    clear X_5
    have BB_6 := Lib.hid (BB_5.out.alloc (by first | omega | (simp only [World.size_alloc]; omega) | (simp only [size_drew_]; omega) | (simp only [World.size_alloc, size_drew_]; omega)) (.cells #[.slice a5 l.length c5, .int .i64 mk, .int .i64 lt, .int .i64 ov] 29))
    clear BB_5
    have OX_6 := Lib.hid (Blk.new w5 29 #[.slice a5 l.length c5, .int .i64 mk, .int .i64 lt, .int .i64 ov])
    have qOX_6 := OX_6.out.cell
    go_wp2_with fail
    refine (IP.out _ _ _ X_6.out.as).mono ?_
    rintro e w7 ⟨a7, c7, rfl, ho, hb⟩
    clear qOX_6
    have A_7 := Lib.hid (A_6.out.below (hb.mono (by first | omega | (simp only [World.size_alloc]; omega) | (simp only [size_drew_]; omega) | (simp only [World.size_alloc, size_drew_]; omega))))
    clear A_6
    have R_7 := Lib.hid (R_6.out.below hb)
    clear R_6
    have R__7 := Lib.hid (R__6.out.below hb (by first | omega | (simp only [World.size_alloc]; omega) | (simp only [size_drew_]; omega) | (simp only [World.size_alloc, size_drew_]; omega)))
    clear R__6
    have X_7 := Lib.hid (X_6.out.below hb (by first | omega | (simp only [World.size_alloc]; omega) | (simp only [size_drew_]; omega) | (simp only [World.size_alloc, size_drew_]; omega)))
    clear X_6
    have OX_7 := Lib.hid (OX_6.out.below hb)
    clear OX_6
    have BB_7 := Lib.hid (BB_6.out.trans (hb.mono (by first | omega | (simp only [World.size_alloc]; omega) | (simp only [size_drew_]; omega) | (simp only [World.size_alloc, size_drew_]; omega))))
    clear BB_6
    have G_7 := Lib.hid (Rw.new ho)
    clear ho
    have s7 := hb.size
    simp only [World.size_alloc] at s7
    clear hb
    go_wp2_with fail
    refine (eqAggS_any _ _ _ _ _ _ R _ _ _ G_7.out.as R__7.out.as rfl rfl (Nat.le_refl _) (Nat.le_refl _)).mono ?_
    rintro e w8 ⟨rfl, hb⟩
    have A_8 := Lib.hid (A_7.out.below (hb.mono (by first | omega | (simp only [World.size_alloc]; omega) | (simp only [size_drew_]; omega) | (simp only [World.size_alloc, size_drew_]; omega))))
    clear A_7
    have R_8 := Lib.hid (R_7.out.below hb)
    clear R_7
    have R__8 := Lib.hid (R__7.out.below hb (by first | omega | (simp only [World.size_alloc]; omega) | (simp only [size_drew_]; omega) | (simp only [World.size_alloc, size_drew_]; omega)))
    clear R__7
    have X_8 := Lib.hid (X_7.out.below hb (by first | omega | (simp only [World.size_alloc]; omega) | (simp only [size_drew_]; omega) | (simp only [World.size_alloc, size_drew_]; omega)))
    clear X_7
    have OX_8 := Lib.hid (OX_7.out.below hb)
    clear OX_7
    have G_8 := Lib.hid (G_7.out.below hb (by first | omega | (simp only [World.size_alloc]; omega) | (simp only [size_drew_]; omega) | (simp only [World.size_alloc, size_drew_]; omega)))
    clear G_7
    have BB_8 := Lib.hid (BB_7.out.trans (hb.mono (by first | omega | (simp only [World.size_alloc]; omega) | (simp only [size_drew_]; omega) | (simp only [World.size_alloc, size_drew_]; omega))))
    clear BB_7
    have s8 := hb.size
    clear hb
    go_wp2_with fail
    have hOXs0 := OX_8.out.cell
    have hRs0 := R_8.out.cell
    have A_9 := Lib.hid (A_8.out.below (((Below.refl w8.heap.size w8).drew).mono (by first | omega | (simp only [World.size_alloc]; omega) | (simp only [size_drew_]; omega) | (simp only [World.size_alloc, size_drew_]; omega))))
    clear A_8
    have R_9 := Lib.hid (R_8.out.drew)
    clear R_8
    have R__9 := Lib.hid (R__8.out.below ((Below.refl w8.heap.size w8).drew) (by first | omega | (simp only [World.size_alloc]; omega) | (simp only [size_drew_]; omega) | (simp only [World.size_alloc, size_drew_]; omega)))
    clear R__8
    have X_9 := Lib.hid (X_8.out.below ((Below.refl w8.heap.size w8).drew) (by first | omega | (simp only [World.size_alloc]; omega) | (simp only [size_drew_]; omega) | (simp only [World.size_alloc, size_drew_]; omega)))
    clear X_8
    have OX_9 := Lib.hid (OX_8.out.drew)
    clear OX_8
    have G_9 := Lib.hid (G_8.out.below ((Below.refl w8.heap.size w8).drew) (by first | omega | (simp only [World.size_alloc]; omega) | (simp only [size_drew_]; omega) | (simp only [World.size_alloc, size_drew_]; omega)))
    clear G_8
    have BB_9 := Lib.hid (BB_8.out.drew)
    clear BB_8
    go_region_held3 (fun W => W.cell? ⟨w5.heap.size, 0, none⟩ = some (.slice a5 l.length c5) ∧ W.cell? ⟨w5.heap.size, 1, none⟩ = some (.int .i64 mk) ∧ W.cell? ⟨w5.heap.size, 2, none⟩ = some (.int .i64 lt) ∧ W.cell? ⟨w5.heap.size, 3, none⟩ = some (.int .i64 ov) ∧ W.cell? ⟨w.heap.size, 0, none⟩ = some (.slice a l.length c) ∧ W.cell? ⟨w.heap.size, 1, none⟩ = some (.int .i64 mk) ∧ W.cell? ⟨w.heap.size, 2, none⟩ = some (.int .i64 lt) ∧ W.cell? ⟨w.heap.size, 3, none⟩ = some (.int .i64 ov))
      (first | exact ⟨hOXs0 0, hOXs0 1, hOXs0 2, hOXs0 3, hRs0 0, hRs0 1, hRs0 2, hRs0 3⟩ | exact ⟨hOXs1 0, hOXs1 1, hOXs1 2, hOXs1 3, hRs1 0, hRs1 1, hRs1 2, hRs1 3⟩ | exact ⟨hOXs2 0, hOXs2 1, hOXs2 2, hOXs2 3, hRs2 0, hRs2 1, hRs2 2, hRs2 3⟩)
      (first
        | (go_at_call 7; refine (toShard_any a _ c mk lt ov l _ _ A_9.out rfl (by first | omega | (simp only [World.size_alloc]; omega) | (simp only [size_drew_]; omega) | (simp only [World.size_alloc, size_drew_]; omega)) hle).mono ?_; rintro e w10 ⟨a10, c10, rfl, ho, hb⟩; have A_10 := Lib.hid (A_9.out.below (hb.mono (by first | omega | (simp only [World.size_alloc]; omega) | (simp only [size_drew_]; omega) | (simp only [World.size_alloc, size_drew_]; omega)))); clear A_9; have R_10 := Lib.hid (R_9.out.below hb); clear R_9; have R__10 := Lib.hid (R__9.out.below hb (by first | omega | (simp only [World.size_alloc]; omega) | (simp only [size_drew_]; omega) | (simp only [World.size_alloc, size_drew_]; omega))); clear R__9; have X_10 := Lib.hid (X_9.out.below hb (by first | omega | (simp only [World.size_alloc]; omega) | (simp only [size_drew_]; omega) | (simp only [World.size_alloc, size_drew_]; omega))); clear X_9; have OX_10 := Lib.hid (OX_9.out.below hb); clear OX_9; have G_10 := Lib.hid (G_9.out.below hb (by first | omega | (simp only [World.size_alloc]; omega) | (simp only [size_drew_]; omega) | (simp only [World.size_alloc, size_drew_]; omega))); clear G_9; have BB_10 := Lib.hid (BB_9.out.trans (hb.mono (by first | omega | (simp only [World.size_alloc]; omega) | (simp only [size_drew_]; omega) | (simp only [World.size_alloc, size_drew_]; omega)))); clear BB_9; have Z_10 := Lib.hid (Rw.new ho); clear ho; have s10 := hb.size; simp only [size_drew_] at s10; clear hb; clear hOXs0 hRs0; have hOXs1 := OX_10.out.cell; have hRs1 := R_10.out.cell)
        | (go_at_call 10; refine (eqShard_any _ _ _ _ _ _ mk lt ov l _ _ _ X_10.out.as Z_10.out.as rfl rfl (Nat.le_refl _) (Nat.le_refl _)).mono ?_; rintro e w11 ⟨rfl, hb⟩; have A_11 := Lib.hid (A_10.out.below (hb.mono (by first | omega | (simp only [World.size_alloc]; omega) | (simp only [size_drew_]; omega) | (simp only [World.size_alloc, size_drew_]; omega)))); clear A_10; have R_11 := Lib.hid (R_10.out.below hb); clear R_10; have R__11 := Lib.hid (R__10.out.below hb (by first | omega | (simp only [World.size_alloc]; omega) | (simp only [size_drew_]; omega) | (simp only [World.size_alloc, size_drew_]; omega))); clear R__10; have X_11 := Lib.hid (X_10.out.below hb (by first | omega | (simp only [World.size_alloc]; omega) | (simp only [size_drew_]; omega) | (simp only [World.size_alloc, size_drew_]; omega))); clear X_10; have OX_11 := Lib.hid (OX_10.out.below hb); clear OX_10; have G_11 := Lib.hid (G_10.out.below hb (by first | omega | (simp only [World.size_alloc]; omega) | (simp only [size_drew_]; omega) | (simp only [World.size_alloc, size_drew_]; omega))); clear G_10; have Z_11 := Lib.hid (Z_10.out.below hb (by first | omega | (simp only [World.size_alloc]; omega) | (simp only [size_drew_]; omega) | (simp only [World.size_alloc, size_drew_]; omega))); clear Z_10; have BB_11 := Lib.hid (BB_10.out.trans (hb.mono (by first | omega | (simp only [World.size_alloc]; omega) | (simp only [size_drew_]; omega) | (simp only [World.size_alloc, size_drew_]; omega)))); clear BB_10; have s11 := hb.size; clear hb; clear hOXs1 hRs1; have hOXs2 := OX_11.out.cell; have hRs2 := R_11.out.cell))
    clear hOXs2 hRs2
    clear Z_11
    have qOX_11 := OX_11.out.cell
    go_wp2_with fail
    refine (markShard_m _ _ _ 1 mk lt ov _ l _ _ X_11.out.own rfl rfl (by first | omega | (simp only [World.size_alloc]; omega) | (simp only [size_drew_]; omega) | (simp only [World.size_alloc, size_drew_]; omega)) (by omega) (by omega)).mono ?_
    rintro e w12 ⟨rfl, hm⟩
    clear qOX_11
    have hb := hm.below
    have X_12 := Lib.hid (Rw.mk hm.own X_11.out.up)
    have A_12 := Lib.hid (A_11.out.below (hb.mono (by first | omega | (simp only [World.size_alloc]; omega) | (simp only [size_drew_]; omega) | (simp only [World.size_alloc, size_drew_]; omega))))
    clear A_11
    have R_12 := Lib.hid (R_11.out.far X_11.out hm.grown (by first | omega | (simp only [World.size_alloc]; omega) | (simp only [size_drew_]; omega) | (simp only [World.size_alloc, size_drew_]; omega)))
    clear R_11
    have R__12 := Lib.hid (R__11.out.other X_11.out hm.grown (by first | omega | (simp only [World.size_alloc]; omega) | (simp only [size_drew_]; omega) | (simp only [World.size_alloc, size_drew_]; omega)))
    clear R__11
    have OX_12 := Lib.hid (OX_11.out.far X_11.out hm.grown (by first | omega | (simp only [World.size_alloc]; omega) | (simp only [size_drew_]; omega) | (simp only [World.size_alloc, size_drew_]; omega)))
    clear OX_11
    have G_12 := Lib.hid (G_11.out.other X_11.out hm.grown (by first | omega | (simp only [World.size_alloc]; omega) | (simp only [size_drew_]; omega) | (simp only [World.size_alloc, size_drew_]; omega)))
    clear G_11
    have BB_12 := Lib.hid (BB_11.out.trans (hb.mono (by first | omega | (simp only [World.size_alloc]; omega) | (simp only [size_drew_]; omega) | (simp only [World.size_alloc, size_drew_]; omega))))
    clear BB_11
    clear X_11
    have s12 := hb.size
    clear hb hm
    go_wp2_with fail
    refine (eqAggS_any _ _ _ _ _ _ R _ _ _ G_12.out.as R__12.out.as rfl rfl (Nat.le_refl _) (Nat.le_refl _)).mono ?_
    rintro e w13 ⟨rfl, hb⟩
    have A_13 := Lib.hid (A_12.out.below (hb.mono (by first | omega | (simp only [World.size_alloc]; omega) | (simp only [size_drew_]; omega) | (simp only [World.size_alloc, size_drew_]; omega))))
    clear A_12
    have R_13 := Lib.hid (R_12.out.below hb)
    clear R_12
    have R__13 := Lib.hid (R__12.out.below hb (by first | omega | (simp only [World.size_alloc]; omega) | (simp only [size_drew_]; omega) | (simp only [World.size_alloc, size_drew_]; omega)))
    clear R__12
    have X_13 := Lib.hid (X_12.out.below hb (by first | omega | (simp only [World.size_alloc]; omega) | (simp only [size_drew_]; omega) | (simp only [World.size_alloc, size_drew_]; omega)))
    clear X_12
    have OX_13 := Lib.hid (OX_12.out.below hb)
    clear OX_12
    have G_13 := Lib.hid (G_12.out.below hb (by first | omega | (simp only [World.size_alloc]; omega) | (simp only [size_drew_]; omega) | (simp only [World.size_alloc, size_drew_]; omega)))
    clear G_12
    have BB_13 := Lib.hid (BB_12.out.trans (hb.mono (by first | omega | (simp only [World.size_alloc]; omega) | (simp only [size_drew_]; omega) | (simp only [World.size_alloc, size_drew_]; omega))))
    clear BB_12
    have s13 := hb.size
    clear hb
    go_wp2_with fail
    refine (markAggS_m _ _ _ 1 _ R _ _ G_13.out.own (by first | rfl | omega) rfl (by first | omega | (simp only [World.size_alloc]; omega) | (simp only [size_drew_]; omega) | (simp only [World.size_alloc, size_drew_]; omega)) (by omega) (by omega)).mono ?_
    rintro e w14 ⟨rfl, hm⟩
    have hb := hm.below
    have G_14 := Lib.hid (Rw.mk hm.own G_13.out.up)
    have A_14 := Lib.hid (A_13.out.below (hb.mono (by first | omega | (simp only [World.size_alloc]; omega) | (simp only [size_drew_]; omega) | (simp only [World.size_alloc, size_drew_]; omega))))
    clear A_13
    have R_14 := Lib.hid (R_13.out.far G_13.out hm.grown (by first | omega | (simp only [World.size_alloc]; omega) | (simp only [size_drew_]; omega) | (simp only [World.size_alloc, size_drew_]; omega)))
    clear R_13
    have R__14 := Lib.hid (R__13.out.other G_13.out hm.grown (by first | omega | (simp only [World.size_alloc]; omega) | (simp only [size_drew_]; omega) | (simp only [World.size_alloc, size_drew_]; omega)))
    clear R__13
    have X_14 := Lib.hid (X_13.out.other G_13.out hm.grown (by first | omega | (simp only [World.size_alloc]; omega) | (simp only [size_drew_]; omega) | (simp only [World.size_alloc, size_drew_]; omega)))
    clear X_13
    have OX_14 := Lib.hid (OX_13.out.far G_13.out hm.grown (by first | omega | (simp only [World.size_alloc]; omega) | (simp only [size_drew_]; omega) | (simp only [World.size_alloc, size_drew_]; omega)))
    clear OX_13
    have BB_14 := Lib.hid (BB_13.out.trans (hb.mono (by first | omega | (simp only [World.size_alloc]; omega) | (simp only [size_drew_]; omega) | (simp only [World.size_alloc, size_drew_]; omega))))
    clear BB_13
    clear G_13
    have s14 := hb.size
    clear hb hm
    go_wp2_with fail
    refine (heldAggS_m _ _ _ 1 _ _ _ G_14.out.as rfl (by omega) (by omega)).mono ?_
    rintro e w15 ⟨rfl, hb⟩
    have A_15 := Lib.hid (A_14.out.below (hb.mono (by first | omega | (simp only [World.size_alloc]; omega) | (simp only [size_drew_]; omega) | (simp only [World.size_alloc, size_drew_]; omega))))
    clear A_14
    have R_15 := Lib.hid (R_14.out.below hb)
    clear R_14
    have R__15 := Lib.hid (R__14.out.below hb (by first | omega | (simp only [World.size_alloc]; omega) | (simp only [size_drew_]; omega) | (simp only [World.size_alloc, size_drew_]; omega)))
    clear R__14
    have X_15 := Lib.hid (X_14.out.below hb (by first | omega | (simp only [World.size_alloc]; omega) | (simp only [size_drew_]; omega) | (simp only [World.size_alloc, size_drew_]; omega)))
    clear X_14
    have OX_15 := Lib.hid (OX_14.out.below hb)
    clear OX_14
    have G_15 := Lib.hid (G_14.out.below hb (by first | omega | (simp only [World.size_alloc]; omega) | (simp only [size_drew_]; omega) | (simp only [World.size_alloc, size_drew_]; omega)))
    clear G_14
    have BB_15 := Lib.hid (BB_14.out.trans (hb.mono (by first | omega | (simp only [World.size_alloc]; omega) | (simp only [size_drew_]; omega) | (simp only [World.size_alloc, size_drew_]; omega))))
    clear BB_14
    have s15 := hb.size
    clear hb
    have qR_15 := R_15.out.cell
    go_wp2_with fail
    refine (toShard_any a _ c mk lt ov l _ _ A_15.out rfl (by first | omega | (simp only [World.size_alloc]; omega) | (simp only [size_drew_]; omega) | (simp only [World.size_alloc, size_drew_]; omega)) hle).mono ?_
    rintro e w16 ⟨a16, c16, rfl, ho, hb⟩
    clear qR_15
    have A_16 := Lib.hid (A_15.out.below (hb.mono (by first | omega | (simp only [World.size_alloc]; omega) | (simp only [size_drew_]; omega) | (simp only [World.size_alloc, size_drew_]; omega))))
    clear A_15
    have R_16 := Lib.hid (R_15.out.below hb)
    clear R_15
    have R__16 := Lib.hid (R__15.out.below hb (by first | omega | (simp only [World.size_alloc]; omega) | (simp only [size_drew_]; omega) | (simp only [World.size_alloc, size_drew_]; omega)))
    clear R__15
    have X_16 := Lib.hid (X_15.out.below hb (by first | omega | (simp only [World.size_alloc]; omega) | (simp only [size_drew_]; omega) | (simp only [World.size_alloc, size_drew_]; omega)))
    clear X_15
    have OX_16 := Lib.hid (OX_15.out.below hb)
    clear OX_15
    have G_16 := Lib.hid (G_15.out.below hb (by first | omega | (simp only [World.size_alloc]; omega) | (simp only [size_drew_]; omega) | (simp only [World.size_alloc, size_drew_]; omega)))
    clear G_15
    have BB_16 := Lib.hid (BB_15.out.trans (hb.mono (by first | omega | (simp only [World.size_alloc]; omega) | (simp only [size_drew_]; omega) | (simp only [World.size_alloc, size_drew_]; omega))))
    clear BB_15
    have X2_16 := Lib.hid (Rw.new ho)
    clear ho
    have s16 := hb.size
    clear hb
    go_wp2_with fail
    refine (IP.out _ _ _ X2_16.out.as).mono ?_
    rintro e w17 ⟨a17, c17, rfl, ho, hb⟩
    have A_17 := Lib.hid (A_16.out.below (hb.mono (by first | omega | (simp only [World.size_alloc]; omega) | (simp only [size_drew_]; omega) | (simp only [World.size_alloc, size_drew_]; omega))))
    clear A_16
    have R_17 := Lib.hid (R_16.out.below hb)
    clear R_16
    have R__17 := Lib.hid (R__16.out.below hb (by first | omega | (simp only [World.size_alloc]; omega) | (simp only [size_drew_]; omega) | (simp only [World.size_alloc, size_drew_]; omega)))
    clear R__16
    have X_17 := Lib.hid (X_16.out.below hb (by first | omega | (simp only [World.size_alloc]; omega) | (simp only [size_drew_]; omega) | (simp only [World.size_alloc, size_drew_]; omega)))
    clear X_16
    have OX_17 := Lib.hid (OX_16.out.below hb)
    clear OX_16
    have G_17 := Lib.hid (G_16.out.below hb (by first | omega | (simp only [World.size_alloc]; omega) | (simp only [size_drew_]; omega) | (simp only [World.size_alloc, size_drew_]; omega)))
    clear G_16
    have X2_17 := Lib.hid (X2_16.out.below hb (by first | omega | (simp only [World.size_alloc]; omega) | (simp only [size_drew_]; omega) | (simp only [World.size_alloc, size_drew_]; omega)))
    clear X2_16
    have BB_17 := Lib.hid (BB_16.out.trans (hb.mono (by first | omega | (simp only [World.size_alloc]; omega) | (simp only [size_drew_]; omega) | (simp only [World.size_alloc, size_drew_]; omega))))
    clear BB_16
    have H__17 := Lib.hid (Rw.new ho)
    clear ho
    have s17 := hb.size
    clear hb
    clear X2_17
    go_wp2_with fail
    refine (eqAggS_any _ _ _ _ _ _ R _ _ _ H__17.out.as R__17.out.as rfl rfl (Nat.le_refl _) (Nat.le_refl _)).mono ?_
    rintro e w18 ⟨rfl, hb⟩
    have A_18 := Lib.hid (A_17.out.below (hb.mono (by first | omega | (simp only [World.size_alloc]; omega) | (simp only [size_drew_]; omega) | (simp only [World.size_alloc, size_drew_]; omega))))
    clear A_17
    have R_18 := Lib.hid (R_17.out.below hb)
    clear R_17
    have R__18 := Lib.hid (R__17.out.below hb (by first | omega | (simp only [World.size_alloc]; omega) | (simp only [size_drew_]; omega) | (simp only [World.size_alloc, size_drew_]; omega)))
    clear R__17
    have X_18 := Lib.hid (X_17.out.below hb (by first | omega | (simp only [World.size_alloc]; omega) | (simp only [size_drew_]; omega) | (simp only [World.size_alloc, size_drew_]; omega)))
    clear X_17
    have OX_18 := Lib.hid (OX_17.out.below hb)
    clear OX_17
    have G_18 := Lib.hid (G_17.out.below hb (by first | omega | (simp only [World.size_alloc]; omega) | (simp only [size_drew_]; omega) | (simp only [World.size_alloc, size_drew_]; omega)))
    clear G_17
    have H__18 := Lib.hid (H__17.out.below hb (by first | omega | (simp only [World.size_alloc]; omega) | (simp only [size_drew_]; omega) | (simp only [World.size_alloc, size_drew_]; omega)))
    clear H__17
    have BB_18 := Lib.hid (BB_17.out.trans (hb.mono (by first | omega | (simp only [World.size_alloc]; omega) | (simp only [size_drew_]; omega) | (simp only [World.size_alloc, size_drew_]; omega))))
    clear BB_17
    have s18 := hb.size
    clear hb
    go_wp2_with fail
    refine (heldAggS_m _ _ _ 1 _ _ _ G_18.out.as rfl (by omega) (by omega)).mono ?_
    rintro e w19 ⟨rfl, hb⟩
    have A_19 := Lib.hid (A_18.out.below (hb.mono (by first | omega | (simp only [World.size_alloc]; omega) | (simp only [size_drew_]; omega) | (simp only [World.size_alloc, size_drew_]; omega))))
    clear A_18
    have R_19 := Lib.hid (R_18.out.below hb)
    clear R_18
    have R__19 := Lib.hid (R__18.out.below hb (by first | omega | (simp only [World.size_alloc]; omega) | (simp only [size_drew_]; omega) | (simp only [World.size_alloc, size_drew_]; omega)))
    clear R__18
    have X_19 := Lib.hid (X_18.out.below hb (by first | omega | (simp only [World.size_alloc]; omega) | (simp only [size_drew_]; omega) | (simp only [World.size_alloc, size_drew_]; omega)))
    clear X_18
    have OX_19 := Lib.hid (OX_18.out.below hb)
    clear OX_18
    have G_19 := Lib.hid (G_18.out.below hb (by first | omega | (simp only [World.size_alloc]; omega) | (simp only [size_drew_]; omega) | (simp only [World.size_alloc, size_drew_]; omega)))
    clear G_18
    have H__19 := Lib.hid (H__18.out.below hb (by first | omega | (simp only [World.size_alloc]; omega) | (simp only [size_drew_]; omega) | (simp only [World.size_alloc, size_drew_]; omega)))
    clear H__18
    have BB_19 := Lib.hid (BB_18.out.trans (hb.mono (by first | omega | (simp only [World.size_alloc]; omega) | (simp only [size_drew_]; omega) | (simp only [World.size_alloc, size_drew_]; omega))))
    clear BB_18
    have s19 := hb.size
    clear hb
    go_wp2
    go_ret
    exact ⟨rfl, BB_19.out⟩

set_option maxRecDepth 100000 in
theorem lifted (os : Os) (started : os.Started) (H : Type) (enc : TypeId × Value → H) :
    ReturnsInHanded {} Try.checked os 3 .any (Rows.fnExactClosedOfSpec.pre6 enc Try.prog Try.f3 Rows.fnExactClosedOfRow.domain false) (Rows.fnExactClosedOfSpec.post enc Try.prog Try.f3 false true false false) := by
  refine returnsInHanded_of_change (C := Try.checked) own started (by kernel_rfl) Try.func3
    (ChangeSpec.witness6 (enc := enc) (C := Try.checked) false ⟨#[], #[.agg #[.slice none 0 0, .int .i64 0, .int .i64 0, .int .i64 0], .int .i64 0], []⟩ 8 (by kernel_rfl) (by kernel_rfl) (by kernel_rfl) (by kernel_rfl)) ?_
  intro W base args ds gs before hval0 hW hcnd _
  have hval : ∀ (j : Nat) t v, Try.f3.params[j]? = some t → args[j]? = some v → Value.okWide Try.prog W .any base t v := hval0
  have hW' := hW
  obtain ⟨p, q, hA0, hV, rfl, hfz, hnd⟩ := hW
  have hA : DataW.TrodAll enc Try.prog W 0 (fun _ => true) true Try.f3.params.toList args.toList ds p := hA0
  rw [Try.params3] at hA hval
  obtain ⟨v0, vs0, d0, ds0, p0, q0, hargs, rfl, rfl, h0, r0⟩ := trodAll_cons hA
  obtain ⟨v1, vs1, d1, ds1, p1, q1, rfl, rfl, rfl, h1, r1⟩ := trodAll_cons r0
  obtain ⟨rfl, rfl, rfl⟩ := trodAll_nil r1
  obtain rfl : args = #[v0, v1] := by cases args; simp_all
  obtain ⟨rfl, rfl⟩ := trodVars_none hV
  have lt0 : ∀ x ∈ p0, x.block < W.heap.size := by obtain ⟨m, hm⟩ := h0; exact DataW.trod_lt m _ _ _ hm
  obtain ⟨a0, n0, c0, mk0, lt0_, ov0, rfl, hm0, hl0, ho0, l0, hn0, hs0⟩ := arg_shard (hval 0 24 v0 rfl rfl) h0
  have lt1 : ∀ x ∈ p1, x.block < W.heap.size := by obtain ⟨m, hm⟩ := h1; exact DataW.trod_lt m _ _ _ hm
  obtain ⟨x1, rfl, hx1⟩ := arg_int (hval 1 3 v1 rfl rfl) h1
  clear hA0 hval0
  refine (walk W a0 n0 c0 mk0 lt0_ ov0 hm0 hl0 ho0 l0 hn0 hs0 x1 hx1).mono fun e W' ⟨he, bel⟩ => ?_
  subst he
  exact ⟨_, rfl, _, _, _, [], _, [], hW', trodAll_mk1 (shut_bool Try.underlying4 _), (trodAll_cons_mk (Below.trod laidOut (by kernel_rfl) (of_decide_eq_true (by kernel_rfl)) h0 bel lt0) (trodAll_cons_mk (Below.trod laidOut (by kernel_rfl) (of_decide_eq_true (by kernel_rfl)) h1 bel lt1) trodAll_mk0)), rfl, bel.frame _, fun h => by cases h⟩

theorem over : Rows.fnExactClosedOfRow.holds Try.pinned (OpenSpec.ofChange Rows.fnExactClosedOfSpec) :=
  OpenClaim.holds_of_wide 3 Try.f3 rfl rfl rfl rfl rfl rfl rfl ⟨rfl, rfl, rfl, rfl, rfl⟩ rfl rfl rfl rfl rfl (by kernel_rfl) Try.func3 (by kernel_rfl)
    (of_decide_eq_true (by kernel_rfl)) (by unfold Func.isWrapper; first | (rw [if_pos (by decide +kernel)]; kernel_rfl) | (rw [if_neg (by decide +kernel)]; exact ⟨rfl, rfl⟩))
    (fun os started H enc _ => lifted os started H enc)

theorem proved : Rows.FnExactClosedOfSaid := over
#print axioms proved
end Go.Proofs.Ytnfhlfbkdhpacaa.fnExactClosedOf
