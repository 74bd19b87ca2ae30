/- impl.TakeClosed answers as spec.TakeClosed at every shard of up to 1048576 aggs (beyond, the law says nothing), every number and either flag, in memory of its own, and leaves the shard as it was. No conditions. -/
import Derived.Test.YtnfhlfbkdhpacaaRows
import Derived.Test.YtnfhlfbkdhpacaaOpenShard
import Derived.Test.YtnfhlfbkdhpacaaTakeA
import Derived.Test.YtnfhlfbkdhpacaaHeld
import Derived.WalkSmall
import Derived.WalkKit
import Derived.ProofKit
import Derived.OpenShut
import Derived.ShutString
import Derived.ChangeOld
import Derived.Below
namespace Go.Proofs.Ytnfhlfbkdhpacaa.fnExactTakeClosed
open Go.ChangeShapes Go.WideShapes Go.ChangeAt Go.RowKit
set_option linter.unusedVariables false

theorem own : ownKnob Try.prog.godebug = none := by kernel_rfl
theorem laidOut : laidOutB Try.prog = true := by kernel_rfl


set_option maxHeartbeats 4000000 in
set_option maxRecDepth 100000 in
theorem walk (w : World) (a : Option Addr) (n c : Nat) (mk lt ov : Int) (hm : Is64 mk) (hl : Is64 lt) (ho : Is64 ov) (l : List Ag) (hn : n = l.length) (hs : Ags w w.heap.size a c l) (x : Int) (hx : Is64 x) (al : Bool) :
    Calls Try.prog 4 #[.agg #[.slice a n c, .int .i64 mk, .int .i64 lt, .int .i64 ov], .int .i64 x, .bool al] w fun e w' => e = .returned (.bool true) ∧ Below w.heap.size w w' := by
  have hc1 := hs.cap
  have hc2 := hs.big
  subst hn
  have HZ := Lib.hid (fun W => szShard_any a l.length c mk lt ov W (by omega))
  have BB := Lib.hid (Below.refl w.heap.size w)
  by_cases hbig : 1048576 < l.length
  · rw [if_pos (by omega)] at HZ
    go_enter Try.func4, Try.ntmps4
    go_wp2_with fail
    refine (HZ.out _).mono ?_
    rintro e w1 ⟨rfl, hb⟩
    have B1 := Lib.hid ((BB.out.alloc (Nat.le_refl _) _).trans (hb.mono (by simp <;> omega)))
    clear hb
    go_wp2
    go_ret
    exact ⟨rfl, B1.out⟩
  · have hle : l.length ≤ 1048576 := by omega
    rw [if_neg (by omega)] at HZ
    have A0 := Lib.hid hs
    have SP := Lib.hid (fun (W : World) a1 c1 (h1 : Ags W W.heap.size a1 c1 l) => specTake_any a1 c1 mk lt ov x al l _ W h1 (Nat.le_refl _) hle)
    have IP := Lib.hid (fun (W : World) a1 c1 (h1 : Ags W W.heap.size a1 c1 l) => implTake_any a1 c1 mk lt ov x al l _ W h1 (Nat.le_refl _) hle)
    have hRl : (tkL al l mk lt ov x).length ≤ 1048576 := by
      unfold tkL
      split
      · rw [List.length_drop]; omega
      · exact hle
    generalize tkL al l mk lt ov x = L at SP IP hRl
    generalize tkS al l mk lt ov x = S at SP IP
    generalize tkB al l mk lt ov x = ok at SP IP
    obtain ⟨y0, y1, y2, y3, y4, y5⟩ := S
    have hok : (ok != ok) = false := by simp
    clear hs hm hl ho hx
    have A_1 := Lib.hid (A0.out.below (((Below.refl w.heap.size w).alloc (Nat.le_refl _) (.cells #[.slice a l.length c, .int .i64 mk, .int .i64 lt, .int .i64 ov] 24)).mono (by first | omega | (simp only [World.size_alloc]; omega) | (simp only [size_drew_]; omega) | (simp only [World.size_alloc, size_drew_]; omega))))
    clear A0
    have BB_1 := Lib.hid (BB.out.alloc (by first | omega | (simp only [World.size_alloc]; omega) | (simp only [size_drew_]; omega) | (simp only [World.size_alloc, size_drew_]; omega)) (.cells #[.slice a l.length c, .int .i64 mk, .int .i64 lt, .int .i64 ov] 24))
    clear BB
    have R_1 := Lib.hid (Blk.new w 24 #[.slice a l.length c, .int .i64 mk, .int .i64 lt, .int .i64 ov])
    go_enter Try.func4, Try.ntmps4
    go_wp2_with fail
    refine (HZ.out _).mono ?_
    rintro e w2 ⟨rfl, hb⟩
    have A_2 := Lib.hid (A_1.out.below (hb.mono (by first | omega | (simp only [World.size_alloc]; omega) | (simp only [size_drew_]; omega) | (simp only [World.size_alloc, size_drew_]; omega))))
    clear A_1
    have R_2 := Lib.hid (R_1.out.below hb)
    clear R_1
    have BB_2 := Lib.hid (BB_1.out.trans (hb.mono (by first | omega | (simp only [World.size_alloc]; omega) | (simp only [size_drew_]; omega) | (simp only [World.size_alloc, size_drew_]; omega))))
    clear BB_1
    have s2 := hb.size
    simp only [World.size_alloc] at s2
    clear hb
    have qR_2 := R_2.out.cell
    go_wp2_with fail
    refine (toShard_any a _ c mk lt ov l _ _ A_2.out rfl (by first | omega | (simp only [World.size_alloc]; omega) | (simp only [size_drew_]; omega) | (simp only [World.size_alloc, size_drew_]; omega)) hle).mono ?_
    rintro e w3 ⟨a3, c3, rfl, ho, hb⟩
    clear qR_2
    have A_3 := Lib.hid (A_2.out.below (hb.mono (by first | omega | (simp only [World.size_alloc]; omega) | (simp only [size_drew_]; omega) | (simp only [World.size_alloc, size_drew_]; omega))))
    clear A_2
    have R_3 := Lib.hid (R_2.out.below hb)
    clear R_2
    have BB_3 := Lib.hid (BB_2.out.trans (hb.mono (by first | omega | (simp only [World.size_alloc]; omega) | (simp only [size_drew_]; omega) | (simp only [World.size_alloc, size_drew_]; omega))))
    clear BB_2
    have X1_3 := Lib.hid (Rw.new ho)
    clear ho
    have s3 := hb.size
    clear hb
    go_wp2_with fail
    refine (SP.out _ _ _ X1_3.out.as).mono ?_
    rintro e w4 ⟨a4, c4, rfl, ho, hb⟩
    have A_4 := Lib.hid (A_3.out.below (hb.mono (by first | omega | (simp only [World.size_alloc]; omega) | (simp only [size_drew_]; omega) | (simp only [World.size_alloc, size_drew_]; omega))))
    clear A_3
    have R_4 := Lib.hid (R_3.out.below hb)
    clear R_3
    have X1_4 := Lib.hid (X1_3.out.below hb (by first | omega | (simp only [World.size_alloc]; omega) | (simp only [size_drew_]; omega) | (simp only [World.size_alloc, size_drew_]; omega)))
    clear X1_3
    have BB_4 := Lib.hid (BB_3.out.trans (hb.mono (by first | omega | (simp only [World.size_alloc]; omega) | (simp only [size_drew_]; omega) | (simp only [World.size_alloc, size_drew_]; omega))))
    clear BB_3
    have R__4 := Lib.hid ho
    clear ho
    have s4 := hb.size
    clear hb
    clear X1_4
    have A_5 := Lib.hid (A_4.out.below (((Below.refl w4.heap.size w4).alloc (Nat.le_refl _) (.cells #[.slice a4 L.length c4, .int .i64 mk, .int .i64 lt, .int .i64 ov] 29)).mono (by first | omega | (simp only [World.size_alloc]; omega) | (simp only [size_drew_]; omega) | (simp only [World.size_alloc, size_drew_]; omega))))
    clear A_4
    have R_5 := Lib.hid (R_4.out.alloc (.cells #[.slice a4 L.length c4, .int .i64 mk, .int .i64 lt, .int .i64 ov] 29))
    clear R_4
    have R__5 := Lib.hid (R__4.out.below (((Below.refl w4.heap.size w4).alloc (Nat.le_refl _) (.cells #[.slice a4 L.length c4, .int .i64 mk, .int .i64 lt, .int .i64 ov] 29)).mono (by first | omega | (simp only [World.size_alloc]; omega) | (simp only [size_drew_]; omega) | (simp only [World.size_alloc, size_drew_]; omega))))
    clear R__4
    have BB_5 := Lib.hid (BB_4.out.alloc (by first | omega | (simp only [World.size_alloc]; omega) | (simp only [size_drew_]; omega) | (simp only [World.size_alloc, size_drew_]; omega)) (.cells #[.slice a4 L.length c4, .int .i64 mk, .int .i64 lt, .int .i64 ov] 29))
    clear BB_4
    have OR_5 := Lib.hid (Blk.new w4 29 #[.slice a4 L.length c4, .int .i64 mk, .int .i64 lt, .int .i64 ov])
    have A_6 := Lib.hid (A_5.out.below (((Below.refl (w4.alloc (.cells #[.slice a4 L.length c4, .int .i64 mk, .int .i64 lt, .int .i64 ov] 29)).heap.size (w4.alloc (.cells #[.slice a4 L.length c4, .int .i64 mk, .int .i64 lt, .int .i64 ov] 29))).alloc (Nat.le_refl _) (.cells #[.int .i64 y0, .int .i64 y1, .int .i64 y2, .int .i64 y3, .int .i64 y4, .int .i64 y5] 37)).mono (by first | omega | (simp only [World.size_alloc]; omega) | (simp only [size_drew_]; omega) | (simp only [World.size_alloc, size_drew_]; omega))))
    clear A_5
    have R_6 := Lib.hid (R_5.out.alloc (.cells #[.int .i64 y0, .int .i64 y1, .int .i64 y2, .int .i64 y3, .int .i64 y4, .int .i64 y5] 37))
    clear R_5
    have R__6 := Lib.hid (R__5.out.below (((Below.refl (w4.alloc (.cells #[.slice a4 L.length c4, .int .i64 mk, .int .i64 lt, .int .i64 ov] 29)).heap.size (w4.alloc (.cells #[.slice a4 L.length c4, .int .i64 mk, .int .i64 lt, .int .i64 ov] 29))).alloc (Nat.le_refl _) (.cells #[.int .i64 y0, .int .i64 y1, .int .i64 y2, .int .i64 y3, .int .i64 y4, .int .i64 y5] 37)).mono (by first | omega | (simp only [World.size_alloc]; omega) | (simp only [size_drew_]; omega) | (simp only [World.size_alloc, size_drew_]; omega))))
    clear R__5
    have OR_6 := Lib.hid (OR_5.out.alloc (.cells #[.int .i64 y0, .int .i64 y1, .int .i64 y2, .int .i64 y3, .int .i64 y4, .int .i64 y5] 37))
    clear OR_5
    have BB_6 := Lib.hid (BB_5.out.alloc (by first | omega | (simp only [World.size_alloc]; omega) | (simp only [size_drew_]; omega) | (simp only [World.size_alloc, size_drew_]; omega)) (.cells #[.int .i64 y0, .int .i64 y1, .int .i64 y2, .int .i64 y3, .int .i64 y4, .int .i64 y5] 37))
    clear BB_5
    have PR_6 : Hid (Blk ((w4.alloc (.cells #[.slice a4 L.length c4, .int .i64 mk, .int .i64 lt, .int .i64 ov] 29)).alloc (.cells #[.int .i64 y0, .int .i64 y1, .int .i64 y2, .int .i64 y3, .int .i64 y4, .int .i64 y5] 37)) (w4.heap.size + 1) 37 #[.int .i64 y0, .int .i64 y1, .int .i64 y2, .int .i64 y3, .int .i64 y4, .int .i64 y5]) := by
      have hh := Blk.new (w4.alloc (.cells #[.slice a4 L.length c4, .int .i64 mk, .int .i64 lt, .int .i64 ov] 29)) 37 #[.int .i64 y0, .int .i64 y1, .int .i64 y2, .int .i64 y3, .int .i64 y4, .int .i64 y5]
      simp only [World.size_alloc] at hh
      exact hh
    have qR_6 := R_6.out.cell
    go_wp2_with fail
    refine (toShard_any a _ c mk lt ov l _ _ A_6.out rfl (by first | omega | (simp only [World.size_alloc]; omega) | (simp only [size_drew_]; omega) | (simp only [World.size_alloc, size_drew_]; omega)) hle).mono ?_
    rintro e w7 ⟨a7, c7, rfl, ho, hb⟩
    clear qR_6
    have A_7 := Lib.hid (A_6.out.below (hb.mono (by first | omega | (simp only [World.size_alloc]; omega) | (simp only [size_drew_]; omega) | (simp only [World.size_alloc, size_drew_]; omega))))
    clear A_6
    have R_7 := Lib.hid (R_6.out.below hb)
    clear R_6
    have R__7 := Lib.hid (R__6.out.below (hb.mono (by first | omega | (simp only [World.size_alloc]; omega) | (simp only [size_drew_]; omega) | (simp only [World.size_alloc, size_drew_]; omega))))
    clear R__6
    have OR_7 := Lib.hid (OR_6.out.below hb)
    clear OR_6
    have PR_7 := Lib.hid (PR_6.out.below hb)
    clear PR_6
    have BB_7 := Lib.hid (BB_6.out.trans (hb.mono (by first | omega | (simp only [World.size_alloc]; omega) | (simp only [size_drew_]; omega) | (simp only [World.size_alloc, size_drew_]; omega))))
    clear BB_6
    have X_7 := Lib.hid (Rw.new ho)
    clear ho
    have s7 := hb.size
    simp only [World.size_alloc] at s7
    clear hb
    have A_8 := Lib.hid (A_7.out.below (((Below.refl w7.heap.size w7).alloc (Nat.le_refl _) (.cells #[.slice a7 l.length c7, .int .i64 mk, .int .i64 lt, .int .i64 ov] 29)).mono (by first | omega | (simp only [World.size_alloc]; omega) | (simp only [size_drew_]; omega) | (simp only [World.size_alloc, size_drew_]; omega))))
    clear A_7
    have R_8 := Lib.hid (R_7.out.alloc (.cells #[.slice a7 l.length c7, .int .i64 mk, .int .i64 lt, .int .i64 ov] 29))
    clear R_7
    have R__8 := Lib.hid (R__7.out.below (((Below.refl w7.heap.size w7).alloc (Nat.le_refl _) (.cells #[.slice a7 l.length c7, .int .i64 mk, .int .i64 lt, .int .i64 ov] 29)).mono (by first | omega | (simp only [World.size_alloc]; omega) | (simp only [size_drew_]; omega) | (simp only [World.size_alloc, size_drew_]; omega))))
    clear R__7
    have OR_8 := Lib.hid (OR_7.out.alloc (.cells #[.slice a7 l.length c7, .int .i64 mk, .int .i64 lt, .int .i64 ov] 29))
    clear OR_7
    have PR_8 := Lib.hid (PR_7.out.alloc (.cells #[.slice a7 l.length c7, .int .i64 mk, .int .i64 lt, .int .i64 ov] 29))
    clear PR_7
    have X_8 := Lib.hid (X_7.out.below ((Below.refl w7.heap.size w7).alloc (Nat.le_refl _) (.cells #[.slice a7 l.length c7, .int .i64 mk, .int .i64 lt, .int .i64 ov] 29)) (by first | omega | (simp only [World.size_alloc]; omega) | (simp only [size_drew_]; omega) | (simp only [World.size_alloc, size_drew_]; omega)))
    clear X_7
    have BB_8 := Lib.hid (BB_7.out.alloc (by first | omega | (simp only [World.size_alloc]; omega) | (simp only [size_drew_]; omega) | (simp only [World.size_alloc, size_drew_]; omega)) (.cells #[.slice a7 l.length c7, .int .i64 mk, .int .i64 lt, .int .i64 ov] 29))
    clear BB_7
    have OX_8 := Lib.hid (Blk.new w7 29 #[.slice a7 l.length c7, .int .i64 mk, .int .i64 lt, .int .i64 ov])
    have qOX_8 := OX_8.out.cell
    go_wp2_with fail
    refine (IP.out _ _ _ X_8.out.as).mono ?_
    rintro e w9 ⟨a9, c9, rfl, ho, hb⟩
    clear qOX_8
    have A_9 := Lib.hid (A_8.out.below (hb.mono (by first | omega | (simp only [World.size_alloc]; omega) | (simp only [size_drew_]; omega) | (simp only [World.size_alloc, size_drew_]; omega))))
    clear A_8
    have R_9 := Lib.hid (R_8.out.below hb)
    clear R_8
    have R__9 := Lib.hid (R__8.out.below (hb.mono (by first | omega | (simp only [World.size_alloc]; omega) | (simp only [size_drew_]; omega) | (simp only [World.size_alloc, size_drew_]; omega))))
    clear R__8
    have OR_9 := Lib.hid (OR_8.out.below hb)
    clear OR_8
    have PR_9 := Lib.hid (PR_8.out.below hb)
    clear PR_8
    have X_9 := Lib.hid (X_8.out.below hb (by first | omega | (simp only [World.size_alloc]; omega) | (simp only [size_drew_]; omega) | (simp only [World.size_alloc, size_drew_]; omega)))
    clear X_8
    have OX_9 := Lib.hid (OX_8.out.below hb)
    clear OX_8
    have BB_9 := Lib.hid (BB_8.out.trans (hb.mono (by first | omega | (simp only [World.size_alloc]; omega) | (simp only [size_drew_]; omega) | (simp only [World.size_alloc, size_drew_]; omega))))
    clear BB_8
    have G_9 := Lib.hid (Rw.new ho)
    clear ho
    have s9 := hb.size
    simp only [World.size_alloc] at s9
    clear hb
    have A_10 := Lib.hid (A_9.out.below (((Below.refl w9.heap.size w9).alloc (Nat.le_refl _) (.cells #[.slice a9 L.length c9, .int .i64 mk, .int .i64 lt, .int .i64 ov] 29)).mono (by first | omega | (simp only [World.size_alloc]; omega) | (simp only [size_drew_]; omega) | (simp only [World.size_alloc, size_drew_]; omega))))
    clear A_9
    have R_10 := Lib.hid (R_9.out.alloc (.cells #[.slice a9 L.length c9, .int .i64 mk, .int .i64 lt, .int .i64 ov] 29))
    clear R_9
    have R__10 := Lib.hid (R__9.out.below (((Below.refl w9.heap.size w9).alloc (Nat.le_refl _) (.cells #[.slice a9 L.length c9, .int .i64 mk, .int .i64 lt, .int .i64 ov] 29)).mono (by first | omega | (simp only [World.size_alloc]; omega) | (simp only [size_drew_]; omega) | (simp only [World.size_alloc, size_drew_]; omega))))
    clear R__9
    have OR_10 := Lib.hid (OR_9.out.alloc (.cells #[.slice a9 L.length c9, .int .i64 mk, .int .i64 lt, .int .i64 ov] 29))
    clear OR_9
    have PR_10 := Lib.hid (PR_9.out.alloc (.cells #[.slice a9 L.length c9, .int .i64 mk, .int .i64 lt, .int .i64 ov] 29))
    clear PR_9
    have X_10 := Lib.hid (X_9.out.below ((Below.refl w9.heap.size w9).alloc (Nat.le_refl _) (.cells #[.slice a9 L.length c9, .int .i64 mk, .int .i64 lt, .int .i64 ov] 29)) (by first | omega | (simp only [World.size_alloc]; omega) | (simp only [size_drew_]; omega) | (simp only [World.size_alloc, size_drew_]; omega)))
    clear X_9
    have OX_10 := Lib.hid (OX_9.out.alloc (.cells #[.slice a9 L.length c9, .int .i64 mk, .int .i64 lt, .int .i64 ov] 29))
    clear OX_9
    have G_10 := Lib.hid (G_9.out.below ((Below.refl w9.heap.size w9).alloc (Nat.le_refl _) (.cells #[.slice a9 L.length c9, .int .i64 mk, .int .i64 lt, .int .i64 ov] 29)) (by first | omega | (simp only [World.size_alloc]; omega) | (simp only [size_drew_]; omega) | (simp only [World.size_alloc, size_drew_]; omega)))
    clear G_9
    have BB_10 := Lib.hid (BB_9.out.alloc (by first | omega | (simp only [World.size_alloc]; omega) | (simp only [size_drew_]; omega) | (simp only [World.size_alloc, size_drew_]; omega)) (.cells #[.slice a9 L.length c9, .int .i64 mk, .int .i64 lt, .int .i64 ov] 29))
    clear BB_9
    have OG_10 := Lib.hid (Blk.new w9 29 #[.slice a9 L.length c9, .int .i64 mk, .int .i64 lt, .int .i64 ov])
    have A_11 := Lib.hid (A_10.out.below (((Below.refl (w9.alloc (.cells #[.slice a9 L.length c9, .int .i64 mk, .int .i64 lt, .int .i64 ov] 29)).heap.size (w9.alloc (.cells #[.slice a9 L.length c9, .int .i64 mk, .int .i64 lt, .int .i64 ov] 29))).alloc (Nat.le_refl _) (.cells #[.int .i64 y0, .int .i64 y1, .int .i64 y2, .int .i64 y3, .int .i64 y4, .int .i64 y5] 37)).mono (by first | omega | (simp only [World.size_alloc]; omega) | (simp only [size_drew_]; omega) | (simp only [World.size_alloc, size_drew_]; omega))))
    clear A_10
    have R_11 := Lib.hid (R_10.out.alloc (.cells #[.int .i64 y0, .int .i64 y1, .int .i64 y2, .int .i64 y3, .int .i64 y4, .int .i64 y5] 37))
    clear R_10
    have R__11 := Lib.hid (R__10.out.below (((Below.refl (w9.alloc (.cells #[.slice a9 L.length c9, .int .i64 mk, .int .i64 lt, .int .i64 ov] 29)).heap.size (w9.alloc (.cells #[.slice a9 L.length c9, .int .i64 mk, .int .i64 lt, .int .i64 ov] 29))).alloc (Nat.le_refl _) (.cells #[.int .i64 y0, .int .i64 y1, .int .i64 y2, .int .i64 y3, .int .i64 y4, .int .i64 y5] 37)).mono (by first | omega | (simp only [World.size_alloc]; omega) | (simp only [size_drew_]; omega) | (simp only [World.size_alloc, size_drew_]; omega))))
    clear R__10
    have OR_11 := Lib.hid (OR_10.out.alloc (.cells #[.int .i64 y0, .int .i64 y1, .int .i64 y2, .int .i64 y3, .int .i64 y4, .int .i64 y5] 37))
    clear OR_10
    have PR_11 := Lib.hid (PR_10.out.alloc (.cells #[.int .i64 y0, .int .i64 y1, .int .i64 y2, .int .i64 y3, .int .i64 y4, .int .i64 y5] 37))
    clear PR_10
    have X_11 := Lib.hid (X_10.out.below ((Below.refl (w9.alloc (.cells #[.slice a9 L.length c9, .int .i64 mk, .int .i64 lt, .int .i64 ov] 29)).heap.size (w9.alloc (.cells #[.slice a9 L.length c9, .int .i64 mk, .int .i64 lt, .int .i64 ov] 29))).alloc (Nat.le_refl _) (.cells #[.int .i64 y0, .int .i64 y1, .int .i64 y2, .int .i64 y3, .int .i64 y4, .int .i64 y5] 37)) (by first | omega | (simp only [World.size_alloc]; omega) | (simp only [size_drew_]; omega) | (simp only [World.size_alloc, size_drew_]; omega)))
    clear X_10
    have OX_11 := Lib.hid (OX_10.out.alloc (.cells #[.int .i64 y0, .int .i64 y1, .int .i64 y2, .int .i64 y3, .int .i64 y4, .int .i64 y5] 37))
    clear OX_10
    have G_11 := Lib.hid (G_10.out.below ((Below.refl (w9.alloc (.cells #[.slice a9 L.length c9, .int .i64 mk, .int .i64 lt, .int .i64 ov] 29)).heap.size (w9.alloc (.cells #[.slice a9 L.length c9, .int .i64 mk, .int .i64 lt, .int .i64 ov] 29))).alloc (Nat.le_refl _) (.cells #[.int .i64 y0, .int .i64 y1, .int .i64 y2, .int .i64 y3, .int .i64 y4, .int .i64 y5] 37)) (by first | omega | (simp only [World.size_alloc]; omega) | (simp only [size_drew_]; omega) | (simp only [World.size_alloc, size_drew_]; omega)))
    clear G_10
    have OG_11 := Lib.hid (OG_10.out.alloc (.cells #[.int .i64 y0, .int .i64 y1, .int .i64 y2, .int .i64 y3, .int .i64 y4, .int .i64 y5] 37))
    clear OG_10
    have BB_11 := Lib.hid (BB_10.out.alloc (by first | omega | (simp only [World.size_alloc]; omega) | (simp only [size_drew_]; omega) | (simp only [World.size_alloc, size_drew_]; omega)) (.cells #[.int .i64 y0, .int .i64 y1, .int .i64 y2, .int .i64 y3, .int .i64 y4, .int .i64 y5] 37))
    clear BB_10
    have PG_11 : Hid (Blk ((w9.alloc (.cells #[.slice a9 L.length c9, .int .i64 mk, .int .i64 lt, .int .i64 ov] 29)).alloc (.cells #[.int .i64 y0, .int .i64 y1, .int .i64 y2, .int .i64 y3, .int .i64 y4, .int .i64 y5] 37)) (w9.heap.size + 1) 37 #[.int .i64 y0, .int .i64 y1, .int .i64 y2, .int .i64 y3, .int .i64 y4, .int .i64 y5]) := by
      have hh := Blk.new (w9.alloc (.cells #[.slice a9 L.length c9, .int .i64 mk, .int .i64 lt, .int .i64 ov] 29)) 37 #[.int .i64 y0, .int .i64 y1, .int .i64 y2, .int .i64 y3, .int .i64 y4, .int .i64 y5]
      simp only [World.size_alloc] at hh
      exact hh
    have qOR_11 := OR_11.out.cell
    go_wp2_with fail
    refine (eqShard_any _ _ _ _ _ _ mk lt ov L _ _ _ G_11.out.as R__11.out rfl rfl (Nat.le_refl _) (by first | omega | (simp only [World.size_alloc]; omega) | (simp only [size_drew_]; omega) | (simp only [World.size_alloc, size_drew_]; omega))).mono ?_
    rintro e w12 ⟨rfl, hb⟩
    clear qOR_11
    have A_12 := Lib.hid (A_11.out.below (hb.mono (by first | omega | (simp only [World.size_alloc]; omega) | (simp only [size_drew_]; omega) | (simp only [World.size_alloc, size_drew_]; omega))))
    clear A_11
    have R_12 := Lib.hid (R_11.out.below hb)
    clear R_11
    have R__12 := Lib.hid (R__11.out.below (hb.mono (by first | omega | (simp only [World.size_alloc]; omega) | (simp only [size_drew_]; omega) | (simp only [World.size_alloc, size_drew_]; omega))))
    clear R__11
    have OR_12 := Lib.hid (OR_11.out.below hb)
    clear OR_11
    have PR_12 := Lib.hid (PR_11.out.below hb)
    clear PR_11
    have X_12 := Lib.hid (X_11.out.below hb (by first | omega | (simp only [World.size_alloc]; omega) | (simp only [size_drew_]; omega) | (simp only [World.size_alloc, size_drew_]; omega)))
    clear X_11
    have OX_12 := Lib.hid (OX_11.out.below hb)
    clear OX_11
    have G_12 := Lib.hid (G_11.out.below hb (by first | omega | (simp only [World.size_alloc]; omega) | (simp only [size_drew_]; omega) | (simp only [World.size_alloc, size_drew_]; omega)))
    clear G_11
    have OG_12 := Lib.hid (OG_11.out.below hb)
    clear OG_11
    have PG_12 := Lib.hid (PG_11.out.below hb)
    clear PG_11
    have BB_12 := Lib.hid (BB_11.out.trans (hb.mono (by first | omega | (simp only [World.size_alloc]; omega) | (simp only [size_drew_]; omega) | (simp only [World.size_alloc, size_drew_]; omega))))
    clear BB_11
    have s12 := hb.size
    simp only [World.size_alloc] at s12
    clear hb
    have qPR_12 := PR_12.out.cell
    have qPG_12 := PG_12.out.cell
    go_wp2_with fail
    refine (eqAgg_x y0 y1 y2 y3 y4 y5 _).mono ?_
    rintro e w13 ⟨rfl, hb⟩
    clear qPR_12 qPG_12
    have A_13 := Lib.hid (A_12.out.below (hb.mono (by first | omega | (simp only [World.size_alloc]; omega) | (simp only [size_drew_]; omega) | (simp only [World.size_alloc, size_drew_]; omega))))
    clear A_12
    have R_13 := Lib.hid (R_12.out.below hb)
    clear R_12
    have R__13 := Lib.hid (R__12.out.below (hb.mono (by first | omega | (simp only [World.size_alloc]; omega) | (simp only [size_drew_]; omega) | (simp only [World.size_alloc, size_drew_]; omega))))
    clear R__12
    have OR_13 := Lib.hid (OR_12.out.below hb)
    clear OR_12
    have PR_13 := Lib.hid (PR_12.out.below hb)
    clear PR_12
    have X_13 := Lib.hid (X_12.out.below hb (by first | omega | (simp only [World.size_alloc]; omega) | (simp only [size_drew_]; omega) | (simp only [World.size_alloc, size_drew_]; omega)))
    clear X_12
    have OX_13 := Lib.hid (OX_12.out.below hb)
    clear OX_12
    have G_13 := Lib.hid (G_12.out.below hb (by first | omega | (simp only [World.size_alloc]; omega) | (simp only [size_drew_]; omega) | (simp only [World.size_alloc, size_drew_]; omega)))
    clear G_12
    have OG_13 := Lib.hid (OG_12.out.below hb)
    clear OG_12
    have PG_13 := Lib.hid (PG_12.out.below hb)
    clear PG_12
    have BB_13 := Lib.hid (BB_12.out.trans (hb.mono (by first | omega | (simp only [World.size_alloc]; omega) | (simp only [size_drew_]; omega) | (simp only [World.size_alloc, size_drew_]; omega))))
    clear BB_12
    have s13 := hb.size
    clear hb
    go_wp2_with fail
    have hOXs0 := OX_13.out.cell
    have hRs0 := R_13.out.cell
    have A_14 := Lib.hid (A_13.out.below (((Below.refl w13.heap.size w13).drew).mono (by first | omega | (simp only [World.size_alloc]; omega) | (simp only [size_drew_]; omega) | (simp only [World.size_alloc, size_drew_]; omega))))
    clear A_13
    have R_14 := Lib.hid (R_13.out.drew)
    clear R_13
    have R__14 := Lib.hid (R__13.out.below (((Below.refl w13.heap.size w13).drew).mono (by first | omega | (simp only [World.size_alloc]; omega) | (simp only [size_drew_]; omega) | (simp only [World.size_alloc, size_drew_]; omega))))
    clear R__13
    have OR_14 := Lib.hid (OR_13.out.drew)
    clear OR_13
    have PR_14 := Lib.hid (PR_13.out.drew)
    clear PR_13
    have X_14 := Lib.hid (X_13.out.below ((Below.refl w13.heap.size w13).drew) (by first | omega | (simp only [World.size_alloc]; omega) | (simp only [size_drew_]; omega) | (simp only [World.size_alloc, size_drew_]; omega)))
    clear X_13
    have OX_14 := Lib.hid (OX_13.out.drew)
    clear OX_13
    have G_14 := Lib.hid (G_13.out.below ((Below.refl w13.heap.size w13).drew) (by first | omega | (simp only [World.size_alloc]; omega) | (simp only [size_drew_]; omega) | (simp only [World.size_alloc, size_drew_]; omega)))
    clear G_13
    have OG_14 := Lib.hid (OG_13.out.drew)
    clear OG_13
    have PG_14 := Lib.hid (PG_13.out.drew)
    clear PG_13
    have BB_14 := Lib.hid (BB_13.out.drew)
    clear BB_13
    go_region_held3 (fun W => W.cell? ⟨w7.heap.size, 0, none⟩ = some (.slice a7 l.length c7) ∧ W.cell? ⟨w7.heap.size, 1, none⟩ = some (.int .i64 mk) ∧ W.cell? ⟨w7.heap.size, 2, none⟩ = some (.int .i64 lt) ∧ W.cell? ⟨w7.heap.size, 3, none⟩ = some (.int .i64 ov) ∧ W.cell? ⟨w.heap.size, 0, none⟩ = some (.slice a l.length c) ∧ W.cell? ⟨w.heap.size, 1, none⟩ = some (.int .i64 mk) ∧ W.cell? ⟨w.heap.size, 2, none⟩ = some (.int .i64 lt) ∧ W.cell? ⟨w.heap.size, 3, none⟩ = some (.int .i64 ov))
      (first | exact ⟨hOXs0 0, hOXs0 1, hOXs0 2, hOXs0 3, hRs0 0, hRs0 1, hRs0 2, hRs0 3⟩ | exact ⟨hOXs1 0, hOXs1 1, hOXs1 2, hOXs1 3, hRs1 0, hRs1 1, hRs1 2, hRs1 3⟩ | exact ⟨hOXs2 0, hOXs2 1, hOXs2 2, hOXs2 3, hRs2 0, hRs2 1, hRs2 2, hRs2 3⟩)
      (first
        | (go_at_call 7; refine (toShard_any a _ c mk lt ov l _ _ A_14.out rfl (by first | omega | (simp only [World.size_alloc]; omega) | (simp only [size_drew_]; omega) | (simp only [World.size_alloc, size_drew_]; omega)) hle).mono ?_; rintro e w15 ⟨a15, c15, rfl, ho, hb⟩; have A_15 := Lib.hid (A_14.out.below (hb.mono (by first | omega | (simp only [World.size_alloc]; omega) | (simp only [size_drew_]; omega) | (simp only [World.size_alloc, size_drew_]; omega)))); clear A_14; have R_15 := Lib.hid (R_14.out.below hb); clear R_14; have R__15 := Lib.hid (R__14.out.below (hb.mono (by first | omega | (simp only [World.size_alloc]; omega) | (simp only [size_drew_]; omega) | (simp only [World.size_alloc, size_drew_]; omega)))); clear R__14; have OR_15 := Lib.hid (OR_14.out.below hb); clear OR_14; have PR_15 := Lib.hid (PR_14.out.below hb); clear PR_14; have X_15 := Lib.hid (X_14.out.below hb (by first | omega | (simp only [World.size_alloc]; omega) | (simp only [size_drew_]; omega) | (simp only [World.size_alloc, size_drew_]; omega))); clear X_14; have OX_15 := Lib.hid (OX_14.out.below hb); clear OX_14; have G_15 := Lib.hid (G_14.out.below hb (by first | omega | (simp only [World.size_alloc]; omega) | (simp only [size_drew_]; omega) | (simp only [World.size_alloc, size_drew_]; omega))); clear G_14; have OG_15 := Lib.hid (OG_14.out.below hb); clear OG_14; have PG_15 := Lib.hid (PG_14.out.below hb); clear PG_14; have BB_15 := Lib.hid (BB_14.out.trans (hb.mono (by first | omega | (simp only [World.size_alloc]; omega) | (simp only [size_drew_]; omega) | (simp only [World.size_alloc, size_drew_]; omega)))); clear BB_14; have Z_15 := Lib.hid (Rw.new ho); clear ho; have s15 := hb.size; simp only [size_drew_] at s15; clear hb; clear hOXs0 hRs0; have hOXs1 := OX_15.out.cell; have hRs1 := R_15.out.cell)
        | (go_at_call 10; refine (eqShard_any _ _ _ _ _ _ mk lt ov l _ _ _ X_15.out.as Z_15.out.as rfl rfl (Nat.le_refl _) (Nat.le_refl _)).mono ?_; rintro e w16 ⟨rfl, hb⟩; have A_16 := Lib.hid (A_15.out.below (hb.mono (by first | omega | (simp only [World.size_alloc]; omega) | (simp only [size_drew_]; omega) | (simp only [World.size_alloc, size_drew_]; omega)))); clear A_15; have R_16 := Lib.hid (R_15.out.below hb); clear R_15; have R__16 := Lib.hid (R__15.out.below (hb.mono (by first | omega | (simp only [World.size_alloc]; omega) | (simp only [size_drew_]; omega) | (simp only [World.size_alloc, size_drew_]; omega)))); clear R__15; have OR_16 := Lib.hid (OR_15.out.below hb); clear OR_15; have PR_16 := Lib.hid (PR_15.out.below hb); clear PR_15; have X_16 := Lib.hid (X_15.out.below hb (by first | omega | (simp only [World.size_alloc]; omega) | (simp only [size_drew_]; omega) | (simp only [World.size_alloc, size_drew_]; omega))); clear X_15; have OX_16 := Lib.hid (OX_15.out.below hb); clear OX_15; have G_16 := Lib.hid (G_15.out.below hb (by first | omega | (simp only [World.size_alloc]; omega) | (simp only [size_drew_]; omega) | (simp only [World.size_alloc, size_drew_]; omega))); clear G_15; have OG_16 := Lib.hid (OG_15.out.below hb); clear OG_15; have PG_16 := Lib.hid (PG_15.out.below hb); clear PG_15; have Z_16 := Lib.hid (Z_15.out.below hb (by first | omega | (simp only [World.size_alloc]; omega) | (simp only [size_drew_]; omega) | (simp only [World.size_alloc, size_drew_]; omega))); clear Z_15; have BB_16 := Lib.hid (BB_15.out.trans (hb.mono (by first | omega | (simp only [World.size_alloc]; omega) | (simp only [size_drew_]; omega) | (simp only [World.size_alloc, size_drew_]; omega)))); clear BB_15; have s16 := hb.size; clear hb; clear hOXs1 hRs1; have hOXs2 := OX_16.out.cell; have hRs2 := R_16.out.cell))
    clear hOXs2 hRs2
    clear Z_16
    have qOX_16 := OX_16.out.cell
    go_wp2_with fail
    refine (markShard_m _ _ _ 1 mk lt ov _ l _ _ X_16.out.own rfl rfl (by first | omega | (simp only [World.size_alloc]; omega) | (simp only [size_drew_]; omega) | (simp only [World.size_alloc, size_drew_]; omega)) (by omega) (by omega)).mono ?_
    rintro e w17 ⟨rfl, hm⟩
    clear qOX_16
    have hb := hm.below
    have X_17 := Lib.hid (Rw.mk hm.own X_16.out.up)
    have A_17 := Lib.hid (A_16.out.below (hb.mono (by first | omega | (simp only [World.size_alloc]; omega) | (simp only [size_drew_]; omega) | (simp only [World.size_alloc, size_drew_]; omega))))
    clear A_16
    have R_17 := Lib.hid (R_16.out.far X_16.out hm.grown (by first | omega | (simp only [World.size_alloc]; omega) | (simp only [size_drew_]; omega) | (simp only [World.size_alloc, size_drew_]; omega)))
    clear R_16
    have R__17 := Lib.hid (R__16.out.below (hb.mono (by first | omega | (simp only [World.size_alloc]; omega) | (simp only [size_drew_]; omega) | (simp only [World.size_alloc, size_drew_]; omega))))
    clear R__16
    have OR_17 := Lib.hid (OR_16.out.far X_16.out hm.grown (by first | omega | (simp only [World.size_alloc]; omega) | (simp only [size_drew_]; omega) | (simp only [World.size_alloc, size_drew_]; omega)))
    clear OR_16
    have PR_17 := Lib.hid (PR_16.out.far X_16.out hm.grown (by first | omega | (simp only [World.size_alloc]; omega) | (simp only [size_drew_]; omega) | (simp only [World.size_alloc, size_drew_]; omega)))
    clear PR_16
    have OX_17 := Lib.hid (OX_16.out.far X_16.out hm.grown (by first | omega | (simp only [World.size_alloc]; omega) | (simp only [size_drew_]; omega) | (simp only [World.size_alloc, size_drew_]; omega)))
    clear OX_16
    have G_17 := Lib.hid (G_16.out.other X_16.out hm.grown (by first | omega | (simp only [World.size_alloc]; omega) | (simp only [size_drew_]; omega) | (simp only [World.size_alloc, size_drew_]; omega)))
    clear G_16
    have OG_17 := Lib.hid (OG_16.out.far X_16.out hm.grown (by first | omega | (simp only [World.size_alloc]; omega) | (simp only [size_drew_]; omega) | (simp only [World.size_alloc, size_drew_]; omega)))
    clear OG_16
    have PG_17 := Lib.hid (PG_16.out.far X_16.out hm.grown (by first | omega | (simp only [World.size_alloc]; omega) | (simp only [size_drew_]; omega) | (simp only [World.size_alloc, size_drew_]; omega)))
    clear PG_16
    have BB_17 := Lib.hid (BB_16.out.trans (hb.mono (by first | omega | (simp only [World.size_alloc]; omega) | (simp only [size_drew_]; omega) | (simp only [World.size_alloc, size_drew_]; omega))))
    clear BB_16
    clear X_16
    have s17 := hb.size
    clear hb hm
    have qOG_17 := OG_17.out.cell
    have qOR_17 := OR_17.out.cell
    go_wp2_with fail
    refine (eqShard_any _ _ _ _ _ _ mk lt ov L _ _ _ G_17.out.as R__17.out rfl rfl (Nat.le_refl _) (by first | omega | (simp only [World.size_alloc]; omega) | (simp only [size_drew_]; omega) | (simp only [World.size_alloc, size_drew_]; omega))).mono ?_
    rintro e w18 ⟨rfl, hb⟩
    clear qOG_17 qOR_17
    have A_18 := Lib.hid (A_17.out.below (hb.mono (by first | omega | (simp only [World.size_alloc]; omega) | (simp only [size_drew_]; omega) | (simp only [World.size_alloc, size_drew_]; omega))))
    clear A_17
    have R_18 := Lib.hid (R_17.out.below hb)
    clear R_17
    have R__18 := Lib.hid (R__17.out.below (hb.mono (by first | omega | (simp only [World.size_alloc]; omega) | (simp only [size_drew_]; omega) | (simp only [World.size_alloc, size_drew_]; omega))))
    clear R__17
    have OR_18 := Lib.hid (OR_17.out.below hb)
    clear OR_17
    have PR_18 := Lib.hid (PR_17.out.below hb)
    clear PR_17
    have X_18 := Lib.hid (X_17.out.below hb (by first | omega | (simp only [World.size_alloc]; omega) | (simp only [size_drew_]; omega) | (simp only [World.size_alloc, size_drew_]; omega)))
    clear X_17
    have OX_18 := Lib.hid (OX_17.out.below hb)
    clear OX_17
    have G_18 := Lib.hid (G_17.out.below hb (by first | omega | (simp only [World.size_alloc]; omega) | (simp only [size_drew_]; omega) | (simp only [World.size_alloc, size_drew_]; omega)))
    clear G_17
    have OG_18 := Lib.hid (OG_17.out.below hb)
    clear OG_17
    have PG_18 := Lib.hid (PG_17.out.below hb)
    clear PG_17
    have BB_18 := Lib.hid (BB_17.out.trans (hb.mono (by first | omega | (simp only [World.size_alloc]; omega) | (simp only [size_drew_]; omega) | (simp only [World.size_alloc, size_drew_]; omega))))
    clear BB_17
    have s18 := hb.size
    clear hb
    have qPR_18 := PR_18.out.cell
    have qPG_18 := PG_18.out.cell
    go_wp2_with fail
    refine (eqAgg_x y0 y1 y2 y3 y4 y5 _).mono ?_
    rintro e w19 ⟨rfl, hb⟩
    clear qPR_18 qPG_18
    have A_19 := Lib.hid (A_18.out.below (hb.mono (by first | omega | (simp only [World.size_alloc]; omega) | (simp only [size_drew_]; omega) | (simp only [World.size_alloc, size_drew_]; omega))))
    clear A_18
    have R_19 := Lib.hid (R_18.out.below hb)
    clear R_18
    have R__19 := Lib.hid (R__18.out.below (hb.mono (by first | omega | (simp only [World.size_alloc]; omega) | (simp only [size_drew_]; omega) | (simp only [World.size_alloc, size_drew_]; omega))))
    clear R__18
    have OR_19 := Lib.hid (OR_18.out.below hb)
    clear OR_18
    have PR_19 := Lib.hid (PR_18.out.below hb)
    clear PR_18
    have X_19 := Lib.hid (X_18.out.below hb (by first | omega | (simp only [World.size_alloc]; omega) | (simp only [size_drew_]; omega) | (simp only [World.size_alloc, size_drew_]; omega)))
    clear X_18
    have OX_19 := Lib.hid (OX_18.out.below hb)
    clear OX_18
    have G_19 := Lib.hid (G_18.out.below hb (by first | omega | (simp only [World.size_alloc]; omega) | (simp only [size_drew_]; omega) | (simp only [World.size_alloc, size_drew_]; omega)))
    clear G_18
    have OG_19 := Lib.hid (OG_18.out.below hb)
    clear OG_18
    have PG_19 := Lib.hid (PG_18.out.below hb)
    clear PG_18
    have BB_19 := Lib.hid (BB_18.out.trans (hb.mono (by first | omega | (simp only [World.size_alloc]; omega) | (simp only [size_drew_]; omega) | (simp only [World.size_alloc, size_drew_]; omega))))
    clear BB_18
    have s19 := hb.size
    clear hb
    have qOG_19 := OG_19.out.cell
    go_wp2_with fail
    refine (markShard_m _ _ _ 1 mk lt ov _ L _ _ G_19.out.own rfl rfl (by first | omega | (simp only [World.size_alloc]; omega) | (simp only [size_drew_]; omega) | (simp only [World.size_alloc, size_drew_]; omega)) (by omega) (by omega)).mono ?_
    rintro e w20 ⟨rfl, hm⟩
    clear qOG_19
    have hb := hm.below
    have G_20 := Lib.hid (Rw.mk hm.own G_19.out.up)
    have A_20 := Lib.hid (A_19.out.below (hb.mono (by first | omega | (simp only [World.size_alloc]; omega) | (simp only [size_drew_]; omega) | (simp only [World.size_alloc, size_drew_]; omega))))
    clear A_19
    have R_20 := Lib.hid (R_19.out.far G_19.out hm.grown (by first | omega | (simp only [World.size_alloc]; omega) | (simp only [size_drew_]; omega) | (simp only [World.size_alloc, size_drew_]; omega)))
    clear R_19
    have R__20 := Lib.hid (R__19.out.below (hb.mono (by first | omega | (simp only [World.size_alloc]; omega) | (simp only [size_drew_]; omega) | (simp only [World.size_alloc, size_drew_]; omega))))
    clear R__19
    have OR_20 := Lib.hid (OR_19.out.far G_19.out hm.grown (by first | omega | (simp only [World.size_alloc]; omega) | (simp only [size_drew_]; omega) | (simp only [World.size_alloc, size_drew_]; omega)))
    clear OR_19
    have PR_20 := Lib.hid (PR_19.out.far G_19.out hm.grown (by first | omega | (simp only [World.size_alloc]; omega) | (simp only [size_drew_]; omega) | (simp only [World.size_alloc, size_drew_]; omega)))
    clear PR_19
    have X_20 := Lib.hid (X_19.out.other G_19.out hm.grown (by first | omega | (simp only [World.size_alloc]; omega) | (simp only [size_drew_]; omega) | (simp only [World.size_alloc, size_drew_]; omega)))
    clear X_19
    have OX_20 := Lib.hid (OX_19.out.far G_19.out hm.grown (by first | omega | (simp only [World.size_alloc]; omega) | (simp only [size_drew_]; omega) | (simp only [World.size_alloc, size_drew_]; omega)))
    clear OX_19
    have OG_20 := Lib.hid (OG_19.out.far G_19.out hm.grown (by first | omega | (simp only [World.size_alloc]; omega) | (simp only [size_drew_]; omega) | (simp only [World.size_alloc, size_drew_]; omega)))
    clear OG_19
    have PG_20 := Lib.hid (PG_19.out.far G_19.out hm.grown (by first | omega | (simp only [World.size_alloc]; omega) | (simp only [size_drew_]; omega) | (simp only [World.size_alloc, size_drew_]; omega)))
    clear PG_19
    have BB_20 := Lib.hid (BB_19.out.trans (hb.mono (by first | omega | (simp only [World.size_alloc]; omega) | (simp only [size_drew_]; omega) | (simp only [World.size_alloc, size_drew_]; omega))))
    clear BB_19
    clear G_19
    have s20 := hb.size
    clear hb hm
    have qOG_20 := OG_20.out.cell
    go_wp2_with fail
    refine (heldShard_m _ _ _ 1 mk lt ov _ _ _ G_20.out.as (Nat.le_refl _) rfl (by omega) (by omega)).mono ?_
    rintro e w21 ⟨rfl, hb⟩
    clear qOG_20
    have A_21 := Lib.hid (A_20.out.below (hb.mono (by first | omega | (simp only [World.size_alloc]; omega) | (simp only [size_drew_]; omega) | (simp only [World.size_alloc, size_drew_]; omega))))
    clear A_20
    have R_21 := Lib.hid (R_20.out.below hb)
    clear R_20
    have R__21 := Lib.hid (R__20.out.below (hb.mono (by first | omega | (simp only [World.size_alloc]; omega) | (simp only [size_drew_]; omega) | (simp only [World.size_alloc, size_drew_]; omega))))
    clear R__20
    have OR_21 := Lib.hid (OR_20.out.below hb)
    clear OR_20
    have PR_21 := Lib.hid (PR_20.out.below hb)
    clear PR_20
    have X_21 := Lib.hid (X_20.out.below hb (by first | omega | (simp only [World.size_alloc]; omega) | (simp only [size_drew_]; omega) | (simp only [World.size_alloc, size_drew_]; omega)))
    clear X_20
    have OX_21 := Lib.hid (OX_20.out.below hb)
    clear OX_20
    have G_21 := Lib.hid (G_20.out.below hb (by first | omega | (simp only [World.size_alloc]; omega) | (simp only [size_drew_]; omega) | (simp only [World.size_alloc, size_drew_]; omega)))
    clear G_20
    have OG_21 := Lib.hid (OG_20.out.below hb)
    clear OG_20
    have PG_21 := Lib.hid (PG_20.out.below hb)
    clear PG_20
    have BB_21 := Lib.hid (BB_20.out.trans (hb.mono (by first | omega | (simp only [World.size_alloc]; omega) | (simp only [size_drew_]; omega) | (simp only [World.size_alloc, size_drew_]; omega))))
    clear BB_20
    have s21 := hb.size
    clear hb
    have qR_21 := R_21.out.cell
    go_wp2_with fail
    refine (toShard_any a _ c mk lt ov l _ _ A_21.out rfl (by first | omega | (simp only [World.size_alloc]; omega) | (simp only [size_drew_]; omega) | (simp only [World.size_alloc, size_drew_]; omega)) hle).mono ?_
    rintro e w22 ⟨a22, c22, rfl, ho, hb⟩
    clear qR_21
    have A_22 := Lib.hid (A_21.out.below (hb.mono (by first | omega | (simp only [World.size_alloc]; omega) | (simp only [size_drew_]; omega) | (simp only [World.size_alloc, size_drew_]; omega))))
    clear A_21
    have R_22 := Lib.hid (R_21.out.below hb)
    clear R_21
    have R__22 := Lib.hid (R__21.out.below (hb.mono (by first | omega | (simp only [World.size_alloc]; omega) | (simp only [size_drew_]; omega) | (simp only [World.size_alloc, size_drew_]; omega))))
    clear R__21
    have OR_22 := Lib.hid (OR_21.out.below hb)
    clear OR_21
    have PR_22 := Lib.hid (PR_21.out.below hb)
    clear PR_21
    have X_22 := Lib.hid (X_21.out.below hb (by first | omega | (simp only [World.size_alloc]; omega) | (simp only [size_drew_]; omega) | (simp only [World.size_alloc, size_drew_]; omega)))
    clear X_21
    have OX_22 := Lib.hid (OX_21.out.below hb)
    clear OX_21
    have G_22 := Lib.hid (G_21.out.below hb (by first | omega | (simp only [World.size_alloc]; omega) | (simp only [size_drew_]; omega) | (simp only [World.size_alloc, size_drew_]; omega)))
    clear G_21
    have OG_22 := Lib.hid (OG_21.out.below hb)
    clear OG_21
    have PG_22 := Lib.hid (PG_21.out.below hb)
    clear PG_21
    have BB_22 := Lib.hid (BB_21.out.trans (hb.mono (by first | omega | (simp only [World.size_alloc]; omega) | (simp only [size_drew_]; omega) | (simp only [World.size_alloc, size_drew_]; omega))))
    clear BB_21
    have X2_22 := Lib.hid (Rw.new ho)
    clear ho
    have s22 := hb.size
    clear hb
    go_wp2_with fail
    refine (IP.out _ _ _ X2_22.out.as).mono ?_
    rintro e w23 ⟨a23, c23, rfl, ho, hb⟩
    have A_23 := Lib.hid (A_22.out.below (hb.mono (by first | omega | (simp only [World.size_alloc]; omega) | (simp only [size_drew_]; omega) | (simp only [World.size_alloc, size_drew_]; omega))))
    clear A_22
    have R_23 := Lib.hid (R_22.out.below hb)
    clear R_22
    have R__23 := Lib.hid (R__22.out.below (hb.mono (by first | omega | (simp only [World.size_alloc]; omega) | (simp only [size_drew_]; omega) | (simp only [World.size_alloc, size_drew_]; omega))))
    clear R__22
    have OR_23 := Lib.hid (OR_22.out.below hb)
    clear OR_22
    have PR_23 := Lib.hid (PR_22.out.below hb)
    clear PR_22
    have X_23 := Lib.hid (X_22.out.below hb (by first | omega | (simp only [World.size_alloc]; omega) | (simp only [size_drew_]; omega) | (simp only [World.size_alloc, size_drew_]; omega)))
    clear X_22
    have OX_23 := Lib.hid (OX_22.out.below hb)
    clear OX_22
    have G_23 := Lib.hid (G_22.out.below hb (by first | omega | (simp only [World.size_alloc]; omega) | (simp only [size_drew_]; omega) | (simp only [World.size_alloc, size_drew_]; omega)))
    clear G_22
    have OG_23 := Lib.hid (OG_22.out.below hb)
    clear OG_22
    have PG_23 := Lib.hid (PG_22.out.below hb)
    clear PG_22
    have X2_23 := Lib.hid (X2_22.out.below hb (by first | omega | (simp only [World.size_alloc]; omega) | (simp only [size_drew_]; omega) | (simp only [World.size_alloc, size_drew_]; omega)))
    clear X2_22
    have BB_23 := Lib.hid (BB_22.out.trans (hb.mono (by first | omega | (simp only [World.size_alloc]; omega) | (simp only [size_drew_]; omega) | (simp only [World.size_alloc, size_drew_]; omega))))
    clear BB_22
    have H__23 := Lib.hid (Rw.new ho)
    clear ho
    have s23 := hb.size
    clear hb
    clear X2_23
    have A_24 := Lib.hid (A_23.out.below (((Below.refl w23.heap.size w23).alloc (Nat.le_refl _) (.cells #[.slice a23 L.length c23, .int .i64 mk, .int .i64 lt, .int .i64 ov] 29)).mono (by first | omega | (simp only [World.size_alloc]; omega) | (simp only [size_drew_]; omega) | (simp only [World.size_alloc, size_drew_]; omega))))
    clear A_23
    have R_24 := Lib.hid (R_23.out.alloc (.cells #[.slice a23 L.length c23, .int .i64 mk, .int .i64 lt, .int .i64 ov] 29))
    clear R_23
    have R__24 := Lib.hid (R__23.out.below (((Below.refl w23.heap.size w23).alloc (Nat.le_refl _) (.cells #[.slice a23 L.length c23, .int .i64 mk, .int .i64 lt, .int .i64 ov] 29)).mono (by first | omega | (simp only [World.size_alloc]; omega) | (simp only [size_drew_]; omega) | (simp only [World.size_alloc, size_drew_]; omega))))
    clear R__23
    have OR_24 := Lib.hid (OR_23.out.alloc (.cells #[.slice a23 L.length c23, .int .i64 mk, .int .i64 lt, .int .i64 ov] 29))
    clear OR_23
    have PR_24 := Lib.hid (PR_23.out.alloc (.cells #[.slice a23 L.length c23, .int .i64 mk, .int .i64 lt, .int .i64 ov] 29))
    clear PR_23
    have X_24 := Lib.hid (X_23.out.below ((Below.refl w23.heap.size w23).alloc (Nat.le_refl _) (.cells #[.slice a23 L.length c23, .int .i64 mk, .int .i64 lt, .int .i64 ov] 29)) (by first | omega | (simp only [World.size_alloc]; omega) | (simp only [size_drew_]; omega) | (simp only [World.size_alloc, size_drew_]; omega)))
    clear X_23
    have OX_24 := Lib.hid (OX_23.out.alloc (.cells #[.slice a23 L.length c23, .int .i64 mk, .int .i64 lt, .int .i64 ov] 29))
    clear OX_23
    have G_24 := Lib.hid (G_23.out.below ((Below.refl w23.heap.size w23).alloc (Nat.le_refl _) (.cells #[.slice a23 L.length c23, .int .i64 mk, .int .i64 lt, .int .i64 ov] 29)) (by first | omega | (simp only [World.size_alloc]; omega) | (simp only [size_drew_]; omega) | (simp only [World.size_alloc, size_drew_]; omega)))
    clear G_23
    have OG_24 := Lib.hid (OG_23.out.alloc (.cells #[.slice a23 L.length c23, .int .i64 mk, .int .i64 lt, .int .i64 ov] 29))
    clear OG_23
    have PG_24 := Lib.hid (PG_23.out.alloc (.cells #[.slice a23 L.length c23, .int .i64 mk, .int .i64 lt, .int .i64 ov] 29))
    clear PG_23
    have H__24 := Lib.hid (H__23.out.below ((Below.refl w23.heap.size w23).alloc (Nat.le_refl _) (.cells #[.slice a23 L.length c23, .int .i64 mk, .int .i64 lt, .int .i64 ov] 29)) (by first | omega | (simp only [World.size_alloc]; omega) | (simp only [size_drew_]; omega) | (simp only [World.size_alloc, size_drew_]; omega)))
    clear H__23
    have BB_24 := Lib.hid (BB_23.out.alloc (by first | omega | (simp only [World.size_alloc]; omega) | (simp only [size_drew_]; omega) | (simp only [World.size_alloc, size_drew_]; omega)) (.cells #[.slice a23 L.length c23, .int .i64 mk, .int .i64 lt, .int .i64 ov] 29))
    clear BB_23
    have OH_24 := Lib.hid (Blk.new w23 29 #[.slice a23 L.length c23, .int .i64 mk, .int .i64 lt, .int .i64 ov])
    have A_25 := Lib.hid (A_24.out.below (((Below.refl (w23.alloc (.cells #[.slice a23 L.length c23, .int .i64 mk, .int .i64 lt, .int .i64 ov] 29)).heap.size (w23.alloc (.cells #[.slice a23 L.length c23, .int .i64 mk, .int .i64 lt, .int .i64 ov] 29))).alloc (Nat.le_refl _) (.cells #[.int .i64 y0, .int .i64 y1, .int .i64 y2, .int .i64 y3, .int .i64 y4, .int .i64 y5] 37)).mono (by first | omega | (simp only [World.size_alloc]; omega) | (simp only [size_drew_]; omega) | (simp only [World.size_alloc, size_drew_]; omega))))
    clear A_24
    have R_25 := Lib.hid (R_24.out.alloc (.cells #[.int .i64 y0, .int .i64 y1, .int .i64 y2, .int .i64 y3, .int .i64 y4, .int .i64 y5] 37))
    clear R_24
    have R__25 := Lib.hid (R__24.out.below (((Below.refl (w23.alloc (.cells #[.slice a23 L.length c23, .int .i64 mk, .int .i64 lt, .int .i64 ov] 29)).heap.size (w23.alloc (.cells #[.slice a23 L.length c23, .int .i64 mk, .int .i64 lt, .int .i64 ov] 29))).alloc (Nat.le_refl _) (.cells #[.int .i64 y0, .int .i64 y1, .int .i64 y2, .int .i64 y3, .int .i64 y4, .int .i64 y5] 37)).mono (by first | omega | (simp only [World.size_alloc]; omega) | (simp only [size_drew_]; omega) | (simp only [World.size_alloc, size_drew_]; omega))))
    clear R__24
    have OR_25 := Lib.hid (OR_24.out.alloc (.cells #[.int .i64 y0, .int .i64 y1, .int .i64 y2, .int .i64 y3, .int .i64 y4, .int .i64 y5] 37))
    clear OR_24
    have PR_25 := Lib.hid (PR_24.out.alloc (.cells #[.int .i64 y0, .int .i64 y1, .int .i64 y2, .int .i64 y3, .int .i64 y4, .int .i64 y5] 37))
    clear PR_24
    have X_25 := Lib.hid (X_24.out.below ((Below.refl (w23.alloc (.cells #[.slice a23 L.length c23, .int .i64 mk, .int .i64 lt, .int .i64 ov] 29)).heap.size (w23.alloc (.cells #[.slice a23 L.length c23, .int .i64 mk, .int .i64 lt, .int .i64 ov] 29))).alloc (Nat.le_refl _) (.cells #[.int .i64 y0, .int .i64 y1, .int .i64 y2, .int .i64 y3, .int .i64 y4, .int .i64 y5] 37)) (by first | omega | (simp only [World.size_alloc]; omega) | (simp only [size_drew_]; omega) | (simp only [World.size_alloc, size_drew_]; omega)))
    clear X_24
    have OX_25 := Lib.hid (OX_24.out.alloc (.cells #[.int .i64 y0, .int .i64 y1, .int .i64 y2, .int .i64 y3, .int .i64 y4, .int .i64 y5] 37))
    clear OX_24
    have G_25 := Lib.hid (G_24.out.below ((Below.refl (w23.alloc (.cells #[.slice a23 L.length c23, .int .i64 mk, .int .i64 lt, .int .i64 ov] 29)).heap.size (w23.alloc (.cells #[.slice a23 L.length c23, .int .i64 mk, .int .i64 lt, .int .i64 ov] 29))).alloc (Nat.le_refl _) (.cells #[.int .i64 y0, .int .i64 y1, .int .i64 y2, .int .i64 y3, .int .i64 y4, .int .i64 y5] 37)) (by first | omega | (simp only [World.size_alloc]; omega) | (simp only [size_drew_]; omega) | (simp only [World.size_alloc, size_drew_]; omega)))
    clear G_24
    have OG_25 := Lib.hid (OG_24.out.alloc (.cells #[.int .i64 y0, .int .i64 y1, .int .i64 y2, .int .i64 y3, .int .i64 y4, .int .i64 y5] 37))
    clear OG_24
    have PG_25 := Lib.hid (PG_24.out.alloc (.cells #[.int .i64 y0, .int .i64 y1, .int .i64 y2, .int .i64 y3, .int .i64 y4, .int .i64 y5] 37))
    clear PG_24
    have H__25 := Lib.hid (H__24.out.below ((Below.refl (w23.alloc (.cells #[.slice a23 L.length c23, .int .i64 mk, .int .i64 lt, .int .i64 ov] 29)).heap.size (w23.alloc (.cells #[.slice a23 L.length c23, .int .i64 mk, .int .i64 lt, .int .i64 ov] 29))).alloc (Nat.le_refl _) (.cells #[.int .i64 y0, .int .i64 y1, .int .i64 y2, .int .i64 y3, .int .i64 y4, .int .i64 y5] 37)) (by first | omega | (simp only [World.size_alloc]; omega) | (simp only [size_drew_]; omega) | (simp only [World.size_alloc, size_drew_]; omega)))
    clear H__24
    have OH_25 := Lib.hid (OH_24.out.alloc (.cells #[.int .i64 y0, .int .i64 y1, .int .i64 y2, .int .i64 y3, .int .i64 y4, .int .i64 y5] 37))
    clear OH_24
    have BB_25 := Lib.hid (BB_24.out.alloc (by first | omega | (simp only [World.size_alloc]; omega) | (simp only [size_drew_]; omega) | (simp only [World.size_alloc, size_drew_]; omega)) (.cells #[.int .i64 y0, .int .i64 y1, .int .i64 y2, .int .i64 y3, .int .i64 y4, .int .i64 y5] 37))
    clear BB_24
    have PH_25 : Hid (Blk ((w23.alloc (.cells #[.slice a23 L.length c23, .int .i64 mk, .int .i64 lt, .int .i64 ov] 29)).alloc (.cells #[.int .i64 y0, .int .i64 y1, .int .i64 y2, .int .i64 y3, .int .i64 y4, .int .i64 y5] 37)) (w23.heap.size + 1) 37 #[.int .i64 y0, .int .i64 y1, .int .i64 y2, .int .i64 y3, .int .i64 y4, .int .i64 y5]) := by
      have hh := Blk.new (w23.alloc (.cells #[.slice a23 L.length c23, .int .i64 mk, .int .i64 lt, .int .i64 ov] 29)) 37 #[.int .i64 y0, .int .i64 y1, .int .i64 y2, .int .i64 y3, .int .i64 y4, .int .i64 y5]
      simp only [World.size_alloc] at hh
      exact hh
    have qOR_25 := OR_25.out.cell
    go_wp2_with fail
    refine (eqShard_any _ _ _ _ _ _ mk lt ov L _ _ _ H__25.out.as R__25.out rfl rfl (Nat.le_refl _) (by first | omega | (simp only [World.size_alloc]; omega) | (simp only [size_drew_]; omega) | (simp only [World.size_alloc, size_drew_]; omega))).mono ?_
    rintro e w26 ⟨rfl, hb⟩
    clear qOR_25
    have A_26 := Lib.hid (A_25.out.below (hb.mono (by first | omega | (simp only [World.size_alloc]; omega) | (simp only [size_drew_]; omega) | (simp only [World.size_alloc, size_drew_]; omega))))
    clear A_25
    have R_26 := Lib.hid (R_25.out.below hb)
    clear R_25
    have R__26 := Lib.hid (R__25.out.below (hb.mono (by first | omega | (simp only [World.size_alloc]; omega) | (simp only [size_drew_]; omega) | (simp only [World.size_alloc, size_drew_]; omega))))
    clear R__25
    have OR_26 := Lib.hid (OR_25.out.below hb)
    clear OR_25
    have PR_26 := Lib.hid (PR_25.out.below hb)
    clear PR_25
    have X_26 := Lib.hid (X_25.out.below hb (by first | omega | (simp only [World.size_alloc]; omega) | (simp only [size_drew_]; omega) | (simp only [World.size_alloc, size_drew_]; omega)))
    clear X_25
    have OX_26 := Lib.hid (OX_25.out.below hb)
    clear OX_25
    have G_26 := Lib.hid (G_25.out.below hb (by first | omega | (simp only [World.size_alloc]; omega) | (simp only [size_drew_]; omega) | (simp only [World.size_alloc, size_drew_]; omega)))
    clear G_25
    have OG_26 := Lib.hid (OG_25.out.below hb)
    clear OG_25
    have PG_26 := Lib.hid (PG_25.out.below hb)
    clear PG_25
    have H__26 := Lib.hid (H__25.out.below hb (by first | omega | (simp only [World.size_alloc]; omega) | (simp only [size_drew_]; omega) | (simp only [World.size_alloc, size_drew_]; omega)))
    clear H__25
    have OH_26 := Lib.hid (OH_25.out.below hb)
    clear OH_25
    have PH_26 := Lib.hid (PH_25.out.below hb)
    clear PH_25
    have BB_26 := Lib.hid (BB_25.out.trans (hb.mono (by first | omega | (simp only [World.size_alloc]; omega) | (simp only [size_drew_]; omega) | (simp only [World.size_alloc, size_drew_]; omega))))
    clear BB_25
    have s26 := hb.size
    simp only [World.size_alloc] at s26
    clear hb
    have qPR_26 := PR_26.out.cell
    have qPH_26 := PH_26.out.cell
    go_wp2_with fail
    refine (eqAgg_x y0 y1 y2 y3 y4 y5 _).mono ?_
    rintro e w27 ⟨rfl, hb⟩
    clear qPR_26 qPH_26
    have A_27 := Lib.hid (A_26.out.below (hb.mono (by first | omega | (simp only [World.size_alloc]; omega) | (simp only [size_drew_]; omega) | (simp only [World.size_alloc, size_drew_]; omega))))
    clear A_26
    have R_27 := Lib.hid (R_26.out.below hb)
    clear R_26
    have R__27 := Lib.hid (R__26.out.below (hb.mono (by first | omega | (simp only [World.size_alloc]; omega) | (simp only [size_drew_]; omega) | (simp only [World.size_alloc, size_drew_]; omega))))
    clear R__26
    have OR_27 := Lib.hid (OR_26.out.below hb)
    clear OR_26
    have PR_27 := Lib.hid (PR_26.out.below hb)
    clear PR_26
    have X_27 := Lib.hid (X_26.out.below hb (by first | omega | (simp only [World.size_alloc]; omega) | (simp only [size_drew_]; omega) | (simp only [World.size_alloc, size_drew_]; omega)))
    clear X_26
    have OX_27 := Lib.hid (OX_26.out.below hb)
    clear OX_26
    have G_27 := Lib.hid (G_26.out.below hb (by first | omega | (simp only [World.size_alloc]; omega) | (simp only [size_drew_]; omega) | (simp only [World.size_alloc, size_drew_]; omega)))
    clear G_26
    have OG_27 := Lib.hid (OG_26.out.below hb)
    clear OG_26
    have PG_27 := Lib.hid (PG_26.out.below hb)
    clear PG_26
    have H__27 := Lib.hid (H__26.out.below hb (by first | omega | (simp only [World.size_alloc]; omega) | (simp only [size_drew_]; omega) | (simp only [World.size_alloc, size_drew_]; omega)))
    clear H__26
    have OH_27 := Lib.hid (OH_26.out.below hb)
    clear OH_26
    have PH_27 := Lib.hid (PH_26.out.below hb)
    clear PH_26
    have BB_27 := Lib.hid (BB_26.out.trans (hb.mono (by first | omega | (simp only [World.size_alloc]; omega) | (simp only [size_drew_]; omega) | (simp only [World.size_alloc, size_drew_]; omega))))
    clear BB_26
    have s27 := hb.size
    clear hb
    have qOG_27 := OG_27.out.cell
    go_wp2_with fail
    refine (heldShard_m _ _ _ 1 mk lt ov _ _ _ G_27.out.as (Nat.le_refl _) rfl (by omega) (by omega)).mono ?_
    rintro e w28 ⟨rfl, hb⟩
    clear qOG_27
    have A_28 := Lib.hid (A_27.out.below (hb.mono (by first | omega | (simp only [World.size_alloc]; omega) | (simp only [size_drew_]; omega) | (simp only [World.size_alloc, size_drew_]; omega))))
    clear A_27
    have R_28 := Lib.hid (R_27.out.below hb)
    clear R_27
    have R__28 := Lib.hid (R__27.out.below (hb.mono (by first | omega | (simp only [World.size_alloc]; omega) | (simp only [size_drew_]; omega) | (simp only [World.size_alloc, size_drew_]; omega))))
    clear R__27
    have OR_28 := Lib.hid (OR_27.out.below hb)
    clear OR_27
    have PR_28 := Lib.hid (PR_27.out.below hb)
    clear PR_27
    have X_28 := Lib.hid (X_27.out.below hb (by first | omega | (simp only [World.size_alloc]; omega) | (simp only [size_drew_]; omega) | (simp only [World.size_alloc, size_drew_]; omega)))
    clear X_27
    have OX_28 := Lib.hid (OX_27.out.below hb)
    clear OX_27
    have G_28 := Lib.hid (G_27.out.below hb (by first | omega | (simp only [World.size_alloc]; omega) | (simp only [size_drew_]; omega) | (simp only [World.size_alloc, size_drew_]; omega)))
    clear G_27
    have OG_28 := Lib.hid (OG_27.out.below hb)
    clear OG_27
    have PG_28 := Lib.hid (PG_27.out.below hb)
    clear PG_27
    have H__28 := Lib.hid (H__27.out.below hb (by first | omega | (simp only [World.size_alloc]; omega) | (simp only [size_drew_]; omega) | (simp only [World.size_alloc, size_drew_]; omega)))
    clear H__27
    have OH_28 := Lib.hid (OH_27.out.below hb)
    clear OH_27
    have PH_28 := Lib.hid (PH_27.out.below hb)
    clear PH_27
    have BB_28 := Lib.hid (BB_27.out.trans (hb.mono (by first | omega | (simp only [World.size_alloc]; omega) | (simp only [size_drew_]; omega) | (simp only [World.size_alloc, size_drew_]; omega))))
    clear BB_27
    have s28 := hb.size
    clear hb
    go_wp2
    go_ret
    exact ⟨rfl, BB_28.out⟩

set_option maxRecDepth 100000 in
theorem lifted (os : Os) (started : os.Started) (H : Type) (enc : TypeId × Value → H) :
    ReturnsInHanded {} Try.checked os 4 .any (Rows.fnExactTakeClosedSpec.pre6 enc Try.prog Try.f4 Rows.fnExactTakeClosedRow.domain false) (Rows.fnExactTakeClosedSpec.post enc Try.prog Try.f4 false true false false) := by
  refine returnsInHanded_of_change (C := Try.checked) own started (by kernel_rfl) Try.func4
    (ChangeSpec.witness6 (enc := enc) (C := Try.checked) false ⟨#[], #[.agg #[.slice none 0 0, .int .i64 0, .int .i64 0, .int .i64 0], .int .i64 0, .bool false], []⟩ 8 (by kernel_rfl) (by kernel_rfl) (by kernel_rfl) (by kernel_rfl)) ?_
  intro W base args ds gs before hval0 hW hcnd _
  have hval : ∀ (j : Nat) t v, Try.f4.params[j]? = some t → args[j]? = some v → Value.okWide Try.prog W .any base t v := hval0
  have hW' := hW
  obtain ⟨p, q, hA0, hV, rfl, hfz, hnd⟩ := hW
  have hA : DataW.TrodAll enc Try.prog W 0 (fun _ => true) true Try.f4.params.toList args.toList ds p := hA0
  rw [Try.params4] at hA hval
  obtain ⟨v0, vs0, d0, ds0, p0, q0, hargs, rfl, rfl, h0, r0⟩ := trodAll_cons hA
  obtain ⟨v1, vs1, d1, ds1, p1, q1, rfl, rfl, rfl, h1, r1⟩ := trodAll_cons r0
  obtain ⟨v2, vs2, d2, ds2, p2, q2, rfl, rfl, rfl, h2, r2⟩ := trodAll_cons r1
  obtain ⟨rfl, rfl, rfl⟩ := trodAll_nil r2
  obtain rfl : args = #[v0, v1, v2] := by cases args; simp_all
  obtain ⟨rfl, rfl⟩ := trodVars_none hV
  have lt0 : ∀ x ∈ p0, x.block < W.heap.size := by obtain ⟨m, hm⟩ := h0; exact DataW.trod_lt m _ _ _ hm
  obtain ⟨a0, n0, c0, mk0, lt0_, ov0, rfl, hm0, hl0, ho0, l0, hn0, hs0⟩ := arg_shard (hval 0 24 v0 rfl rfl) h0
  have lt1 : ∀ x ∈ p1, x.block < W.heap.size := by obtain ⟨m, hm⟩ := h1; exact DataW.trod_lt m _ _ _ hm
  obtain ⟨x1, rfl, hx1⟩ := arg_int (hval 1 3 v1 rfl rfl) h1
  have lt2 : ∀ x ∈ p2, x.block < W.heap.size := by obtain ⟨m, hm⟩ := h2; exact DataW.trod_lt m _ _ _ hm
  obtain ⟨b2, rfl⟩ := arg_bool (hval 2 4 v2 rfl rfl) h2
  clear hA0 hval0
  refine (walk W a0 n0 c0 mk0 lt0_ ov0 hm0 hl0 ho0 l0 hn0 hs0 x1 hx1 b2).mono fun e W' ⟨he, bel⟩ => ?_
  subst he
  exact ⟨_, rfl, _, _, _, [], _, [], hW', trodAll_mk1 (shut_bool Try.underlying4 _), (trodAll_cons_mk (Below.trod laidOut (by kernel_rfl) (of_decide_eq_true (by kernel_rfl)) h0 bel lt0) (trodAll_cons_mk (Below.trod laidOut (by kernel_rfl) (of_decide_eq_true (by kernel_rfl)) h1 bel lt1) (trodAll_cons_mk (Below.trod laidOut (by kernel_rfl) (of_decide_eq_true (by kernel_rfl)) h2 bel lt2) trodAll_mk0))), rfl, bel.frame _, fun h => by cases h⟩

theorem over : Rows.fnExactTakeClosedRow.holds Try.pinned (OpenSpec.ofChange Rows.fnExactTakeClosedSpec) :=
  OpenClaim.holds_of_wide 4 Try.f4 rfl rfl rfl rfl rfl rfl rfl ⟨rfl, rfl, rfl, rfl, rfl⟩ rfl rfl rfl rfl rfl (by kernel_rfl) Try.func4 (by kernel_rfl)
    (of_decide_eq_true (by kernel_rfl)) (by unfold Func.isWrapper; first | (rw [if_pos (by decide +kernel)]; kernel_rfl) | (rw [if_neg (by decide +kernel)]; exact ⟨rfl, rfl⟩))
    (fun os started H enc _ => lifted os started H enc)

theorem proved : Rows.FnExactTakeClosedSaid := over
#print axioms proved
end Go.Proofs.Ytnfhlfbkdhpacaa.fnExactTakeClosed
