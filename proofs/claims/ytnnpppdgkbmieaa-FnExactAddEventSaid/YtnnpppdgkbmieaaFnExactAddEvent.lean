/- impl.AddEvent answers as spec.AddEvent at every shard of up to 1048576 aggs (beyond, the law says nothing), every size, room and frame, in memory of its own, and leaves the shard as it was. No conditions. -/
import Derived.Test.YtnnpppdgkbmieaaRows
import Derived.Test.YtnnpppdgkbmieaaOpenFrame
import Derived.Test.YtnnpppdgkbmieaaAddImpl
import Derived.Test.YtnnpppdgkbmieaaSpecAdd
import Derived.Test.YtnnpppdgkbmieaaRaise
import Derived.Test.YtnnpppdgkbmieaaHeld
import Derived.Test.YtnnpppdgkbmieaaFrameS
import Derived.WalkSmall
import Derived.WalkKit
import Derived.ProofKit
import Derived.OpenShut
import Derived.ShutString
import Derived.ChangeOld
import Derived.Below
namespace Go.Proofs.Ytnnpppdgkbmieaa.fnExactAddEvent
open Go.ChangeShapes Go.WideShapes Go.ChangeAt Go.RowKit
set_option linter.unusedVariables false

theorem own : ownKnob Try.prog.godebug = none := by kernel_rfl
theorem laidOut : laidOutB Try.prog = true := by kernel_rfl


theorem four_ {w : World} {g : Nat} {T : TypeId} {x0 x1 x2 x3 : Value} (h : Blk w g T #[x0, x1, x2, x3]) (a b c d : Value) : Blk ((((w.setCell ⟨g, 0, none⟩ a).setCell ⟨g, 1, none⟩ b).setCell ⟨g, 2, none⟩ c).setCell ⟨g, 3, none⟩ d) g T #[a, b, c, d] := by
  simpa using (((h.put_ 0 a).put_ 1 b).put_ 2 c).put_ 3 d

set_option maxHeartbeats 4000000 in
set_option maxRecDepth 100000 in
theorem walk (w : World) (a : Option Addr) (n c : Nat) (mk lt ov : Int) (hm : Is64 mk) (hl : Is64 lt) (ho : Is64 ov) (l : List Ag) (hn : n = l.length) (hs : Ags w w.heap.size a c l) (x : Int) (hx : Is64 x) (z : Int) (hz : Is64 z) (k y t v : Int) :
    Calls Try.prog 3 #[.agg #[.slice a n c, .int .i64 mk, .int .i64 lt, .int .i64 ov], .int .i64 x, .int .i64 z, (.agg #[.int .i64 k, .int .i64 y, .int .i64 t, .int .i64 v])] w fun e w' => e = .returned (.bool true) ∧ Below w.heap.size w w' := by
  have hc1 := hs.cap
  have hc2 := hs.big
  subst hn
  have HZ := Lib.hid (fun W => szShard_any a l.length c mk lt ov W (by omega))
  have BB := Lib.hid (Below.refl w.heap.size w)
  by_cases hbig : 1048576 < l.length
  · rw [if_pos (by omega)] at HZ
    go_enter Try.func3, Try.ntmps3
    go_wp2_with fail
    refine (HZ.out _).mono ?_
    rintro e w1 ⟨rfl, hb⟩
    have B1 := Lib.hid (((BB.out.alloc (Nat.le_refl _) _).alloc (by simp) _).trans (hb.mono (by simp <;> omega)))
    clear hb
    go_wp2
    go_ret
    exact ⟨rfl, B1.out⟩
  · have hle : l.length ≤ 1048576 := by omega
    rw [if_neg (by omega)] at HZ
    have A0 := Lib.hid hs
    have CELLF := True.intro
    have hL := addR_len (mk := mk) (lt := lt) (ov := ov) (sz := x) (rm := z) (k := k) (y := y) (t := t) (v := v) hle
    have SP := Lib.hid (fun (W : World) a1 c1 (h1 : Ags W W.heap.size a1 c1 l) => specAdd_any a1 l.length c1 mk lt ov x z k y t v l _ W h1 rfl (Nat.le_refl _) hle)
    have IP := Lib.hid (fun (W : World) a1 c1 (h1 : Ags W W.heap.size a1 c1 l) => implAdd_any a1 l.length c1 mk lt ov x z k y t v l _ W h1 rfl (Nat.le_refl _) hle)
    generalize addR l mk lt ov x z k y t v = R at SP IP hL
    obtain ⟨L, LT, OV, C⟩ := R
    have SP : Hid (∀ (W : World) a1 c1, Ags W W.heap.size a1 c1 l → Calls Try.prog 10 #[.agg #[.slice a1 l.length c1, .int .i64 mk, .int .i64 lt, .int .i64 ov], .int .i64 x, .int .i64 z, (.agg #[.int .i64 k, .int .i64 y, .int .i64 t, .int .i64 v])] W fun e w' => ∃ aR cR, e = .returned (.tuple #[.agg #[.slice aR L.length cR, .int .i64 mk, .int .i64 LT, .int .i64 OV], .int .i64 C]) ∧ w'.ownsRow W.heap.size 44 6 (.slice aR L.length cR) L.length (flatA L) ∧ Below W.heap.size W w') := SP
    have IP : Hid (∀ (W : World) a1 c1, Ags W W.heap.size a1 c1 l → Calls Try.prog 13 #[.agg #[.slice a1 l.length c1, .int .i64 mk, .int .i64 lt, .int .i64 ov], .int .i64 x, .int .i64 z, (.agg #[.int .i64 k, .int .i64 y, .int .i64 t, .int .i64 v])] W fun e w' => ∃ aR cR, e = .returned (.tuple #[.agg #[.slice aR L.length cR, .int .i64 mk, .int .i64 LT, .int .i64 OV], .int .i64 C]) ∧ w'.ownsRow W.heap.size 44 6 (.slice aR L.length cR) L.length (flatA L) ∧ Below W.heap.size W w') := IP
    have hL : L.length ≤ 1048576 := hL
    have hok : (C != C) = false := by simp
    clear hs hm hl ho hx hz CELLF
    have A_1 := Lib.hid (A0.out.below (((Below.refl w.heap.size w).alloc (Nat.le_refl _) (.cells #[.slice a l.length c, .int .i64 mk, .int .i64 lt, .int .i64 ov] 24)).mono (by first | omega | (simp only [World.size_alloc]; omega) | (simp only [size_drew_]; omega) | (simp only [World.size_alloc, size_drew_]; omega))))
    clear A0
    have BB_1 := Lib.hid (BB.out.alloc (by first | omega | (simp only [World.size_alloc]; omega) | (simp only [size_drew_]; omega) | (simp only [World.size_alloc, size_drew_]; omega)) (.cells #[.slice a l.length c, .int .i64 mk, .int .i64 lt, .int .i64 ov] 24))
    clear BB
    have R_1 := Lib.hid (Blk.new w 24 #[.slice a l.length c, .int .i64 mk, .int .i64 lt, .int .i64 ov])
    have A_2 := Lib.hid (A_1.out.below (((Below.refl (w.alloc (.cells #[.slice a l.length c, .int .i64 mk, .int .i64 lt, .int .i64 ov] 24)).heap.size (w.alloc (.cells #[.slice a l.length c, .int .i64 mk, .int .i64 lt, .int .i64 ov] 24))).alloc (Nat.le_refl _) (.cells #[.int .i64 k, .int .i64 y, .int .i64 t, .int .i64 v] 26)).mono (by first | omega | (simp only [World.size_alloc]; omega) | (simp only [size_drew_]; omega) | (simp only [World.size_alloc, size_drew_]; omega))))
    clear A_1
    have R_2 := Lib.hid (R_1.out.alloc (.cells #[.int .i64 k, .int .i64 y, .int .i64 t, .int .i64 v] 26))
    clear R_1
    have BB_2 := Lib.hid (BB_1.out.alloc (by first | omega | (simp only [World.size_alloc]; omega) | (simp only [size_drew_]; omega) | (simp only [World.size_alloc, size_drew_]; omega)) (.cells #[.int .i64 k, .int .i64 y, .int .i64 t, .int .i64 v] 26))
    clear BB_1
    have F_2 : Hid (Blk ((w.alloc (.cells #[.slice a l.length c, .int .i64 mk, .int .i64 lt, .int .i64 ov] 24)).alloc (.cells #[.int .i64 k, .int .i64 y, .int .i64 t, .int .i64 v] 26)) (w.heap.size + 1) 26 #[.int .i64 k, .int .i64 y, .int .i64 t, .int .i64 v]) := by
      have hh := Blk.new (w.alloc (.cells #[.slice a l.length c, .int .i64 mk, .int .i64 lt, .int .i64 ov] 24)) 26 #[.int .i64 k, .int .i64 y, .int .i64 t, .int .i64 v]
      simp only [World.size_alloc] at hh
      exact hh
    go_enter Try.func3, Try.ntmps3
    go_wp2_with fail
    refine (HZ.out _).mono ?_
    rintro e w3 ⟨rfl, hb⟩
    have A_3 := Lib.hid (A_2.out.below (hb.mono (by first | omega | (simp only [World.size_alloc]; omega) | (simp only [size_drew_]; omega) | (simp only [World.size_alloc, size_drew_]; omega))))
    clear A_2
    have R_3 := Lib.hid (R_2.out.below hb)
    clear R_2
    have F_3 := Lib.hid (F_2.out.below hb)
    clear F_2
    have BB_3 := Lib.hid (BB_2.out.trans (hb.mono (by first | omega | (simp only [World.size_alloc]; omega) | (simp only [size_drew_]; omega) | (simp only [World.size_alloc, size_drew_]; omega))))
    clear BB_2
    have s3 := hb.size
    simp only [World.size_alloc] at s3
    clear hb
    go_upto_region 5 with fail
    go_cut [10, 11] from 25 (fun x1 x2 wx => ∃ (b : Nat) (aR : Option Addr) (cR : Nat), x1 = .pointer (some ⟨b, 0, none⟩) ∧ x2 = .int .i64 C ∧ Blk wx b 30 #[.slice aR L.length cR, .int .i64 mk, .int .i64 LT, .int .i64 OV] ∧ w3.heap.size ≤ b ∧ Rw 44 6 w3.heap.size wx.heap.size aR L.length cR (flatA L) wx ∧ Below w3.heap.size w3 wx)
    case first =>
      have Y : Hid (∀ W, Below w3.heap.size w3 W → W.cell? ⟨w.heap.size, 0, none⟩ = some (.slice a l.length c) ∧ W.cell? ⟨w.heap.size, 1, none⟩ = some (.int .i64 mk) ∧ W.cell? ⟨w.heap.size, 2, none⟩ = some (.int .i64 lt) ∧ W.cell? ⟨w.heap.size, 3, none⟩ = some (.int .i64 ov) ∧ W.cell? ⟨w.heap.size + 1, 0, none⟩ = some (.int .i64 k) ∧ W.cell? ⟨w.heap.size + 1, 1, none⟩ = some (.int .i64 y) ∧ W.cell? ⟨w.heap.size + 1, 2, none⟩ = some (.int .i64 t) ∧ W.cell? ⟨w.heap.size + 1, 3, none⟩ = some (.int .i64 v)) := Lib.hid (fun W hW => ⟨(R_3.out.below hW).cell 0, (R_3.out.below hW).cell 1, (R_3.out.below hW).cell 2, (R_3.out.below hW).cell 3, (F_3.out.below hW).cell 0, (F_3.out.below hW).cell 1, (F_3.out.below hW).cell 2, (F_3.out.below hW).cell 3⟩)
      have KB := Lib.hid (Below.refl w3.heap.size w3).drew
      have TS : Hid (∀ W, Below w3.heap.size w3 W → Calls Try.prog 11 #[.agg #[.slice a l.length c, .int .i64 mk, .int .i64 lt, .int .i64 ov]] W (FreshShard l mk lt ov W)) := Lib.hid (fun W hW => toShard_any a _ c mk lt ov l _ _ (A_3.out.below (hW.mono (by first | omega | (simp only [World.size_alloc]; omega) | (simp only [size_drew_]; omega) | (simp only [World.size_alloc, size_drew_]; omega)))) rfl (by have := hW.size; first | omega | (simp only [World.size_alloc] at this ⊢; omega)) hle)
      go_region_held3 (fun W => W.cell? ⟨w.heap.size, 0, none⟩ = some (.slice a l.length c) ∧ W.cell? ⟨w.heap.size, 1, none⟩ = some (.int .i64 mk) ∧ W.cell? ⟨w.heap.size, 2, none⟩ = some (.int .i64 lt) ∧ W.cell? ⟨w.heap.size, 3, none⟩ = some (.int .i64 ov) ∧ W.cell? ⟨w.heap.size + 1, 0, none⟩ = some (.int .i64 k) ∧ W.cell? ⟨w.heap.size + 1, 1, none⟩ = some (.int .i64 y) ∧ W.cell? ⟨w.heap.size + 1, 2, none⟩ = some (.int .i64 t) ∧ W.cell? ⟨w.heap.size + 1, 3, none⟩ = some (.int .i64 v))
        (first | with_reducible exact Y.out _ KB.out | with_reducible exact Y.out _ (KB.out.alloc KB.out.size _) | with_reducible exact Y.out _ ((Below.refl w3.heap.size w3).alloc (Nat.le_refl _) _).drew | with_reducible exact Y.out _ (below_set4 KB.out hC.out _ _ _ _))
        (first
          | (go_at_call 11; (first | (with_reducible refine (TS.out _ KB.out).mono ?_) | (with_reducible refine (TS.out _ (KB.out.alloc KB.out.size _)).mono ?_) | (with_reducible refine (TS.out _ ((Below.refl w3.heap.size w3).alloc (Nat.le_refl _) _).drew).mono ?_)); rintro e w1 ⟨aX, cX, rfl, ho, hb⟩; (first | have KX := Lib.hid (owns_less ho KB.out.size) | have KX := Lib.hid (owns_less ho (KB.out.alloc KB.out.size _).size) | have KX := Lib.hid (owns_less ho ((Below.refl w3.heap.size w3).alloc (Nat.le_refl _) _).drew.size)); clear ho; (first | (have KC0 := KC.out.below hb; have KB := Lib.hid (KB.out.trans (hb.mono KB.out.size)); clear hb; have KC := Lib.hid KC0; clear KC0; (try clear qC fC); have qC := KC.out.cell; have fC := KC.out.frozen) | (have KC0 := (Blk.new _ 30 #[.slice none 0 0, .int .i64 0, .int .i64 0, .int .i64 0]).below hb; have hC0 : w3.heap.size ≤ _ := KB.out.size; have KB := Lib.hid ((KB.out.alloc KB.out.size _).trans (hb.mono (KB.out.alloc KB.out.size _).size)); clear hb; (try simp only [size_drew_] at KC0 hC0); have KC := Lib.hid KC0; have hC := Lib.hid hC0; clear KC0 hC0; have qC := KC.out.cell; have fC := KC.out.frozen) | (have KC0 := (Blk.new w3 30 #[.slice none 0 0, .int .i64 0, .int .i64 0, .int .i64 0]).drew.below hb; have hC0 : w3.heap.size ≤ w3.heap.size := Nat.le_refl _; have KB := Lib.hid (((Below.refl w3.heap.size w3).alloc (Nat.le_refl _) _).drew.trans (hb.mono ((Below.refl w3.heap.size w3).alloc (Nat.le_refl _) _).drew.size)); clear hb; have KC := Lib.hid KC0; have hC := Lib.hid hC0; clear KC0 hC0; have qC := KC.out.cell; have fC := KC.out.frozen) | (have KB := Lib.hid (KB.out.trans (hb.mono KB.out.size)); clear hb)))
          | (go_at_call 12; refine (toFrame_any k y t v _).mono ?_; rintro e w1 ⟨rfl, hb⟩; (first | (have KC0 := KC.out.below hb; (first | have KX := Lib.hid (owns_below KX.out hb) | skip); have KB := Lib.hid (KB.out.trans (hb.mono KB.out.size)); clear hb; have KC := Lib.hid KC0; clear KC0; (try clear qC fC); have qC := KC.out.cell; have fC := KC.out.frozen) | (have KC0 := (Blk.new _ 30 #[.slice none 0 0, .int .i64 0, .int .i64 0, .int .i64 0]).below hb; (first | have KX := Lib.hid (owns_below (KX.out.alloc _) hb) | skip); have hC0 : w3.heap.size ≤ _ := KB.out.size; have KB := Lib.hid ((KB.out.alloc KB.out.size _).trans (hb.mono (KB.out.alloc KB.out.size _).size)); clear hb; (try simp only [size_drew_] at KC0 hC0); have KC := Lib.hid KC0; have hC := Lib.hid hC0; clear KC0 hC0; have qC := KC.out.cell; have fC := KC.out.frozen) | (have KC0 := (Blk.new w3 30 #[.slice none 0 0, .int .i64 0, .int .i64 0, .int .i64 0]).drew.below hb; have hC0 : w3.heap.size ≤ w3.heap.size := Nat.le_refl _; have KB := Lib.hid (((Below.refl w3.heap.size w3).alloc (Nat.le_refl _) _).drew.trans (hb.mono ((Below.refl w3.heap.size w3).alloc (Nat.le_refl _) _).drew.size)); clear hb; have KC := Lib.hid KC0; have hC := Lib.hid hC0; clear KC0 hC0; have qC := KC.out.cell; have fC := KC.out.frozen) | ((first | have KX := Lib.hid (owns_below KX.out hb) | skip); have KB := Lib.hid (KB.out.trans (hb.mono KB.out.size)); clear hb)))
          | (go_at_call 10; (first | (with_reducible refine (SP.out _ _ _ (Ags.of_own KX.out)).mono ?_) | (with_reducible refine (SP.out _ _ _ (Ags.of_own (KX.out.alloc _))).mono ?_)); rintro e w1 ⟨aR, cR, rfl, ho, hb⟩; (first | have KR := Lib.hid (owns_less ho KB.out.size) | have KR := Lib.hid (owns_less ho (KB.out.alloc KB.out.size _).size)); clear ho; (first | (have KC0 := KC.out.below hb; (first | have KX := Lib.hid (owns_below KX.out hb) | skip); have KB := Lib.hid (KB.out.trans (hb.mono KB.out.size)); clear hb; have KC := Lib.hid KC0; clear KC0; (try clear qC fC); have qC := KC.out.cell; have fC := KC.out.frozen) | (have KC0 := (Blk.new _ 30 #[.slice none 0 0, .int .i64 0, .int .i64 0, .int .i64 0]).below hb; (first | have KX := Lib.hid (owns_below (KX.out.alloc _) hb) | skip); have hC0 : w3.heap.size ≤ _ := KB.out.size; have KB := Lib.hid ((KB.out.alloc KB.out.size _).trans (hb.mono (KB.out.alloc KB.out.size _).size)); clear hb; (try simp only [size_drew_] at KC0 hC0); have KC := Lib.hid KC0; have hC := Lib.hid hC0; clear KC0 hC0; have qC := KC.out.cell; have fC := KC.out.frozen) | (have KC0 := (Blk.new w3 30 #[.slice none 0 0, .int .i64 0, .int .i64 0, .int .i64 0]).drew.below hb; have hC0 : w3.heap.size ≤ w3.heap.size := Nat.le_refl _; have KB := Lib.hid (((Below.refl w3.heap.size w3).alloc (Nat.le_refl _) _).drew.trans (hb.mono ((Below.refl w3.heap.size w3).alloc (Nat.le_refl _) _).drew.size)); clear hb; have KC := Lib.hid KC0; have hC := Lib.hid hC0; clear KC0 hC0; have qC := KC.out.cell; have fC := KC.out.frozen) | ((first | have KX := Lib.hid (owns_below KX.out hb) | skip); have KB := Lib.hid (KB.out.trans (hb.mono KB.out.size)); clear hb))))
      all_goals
        go_wp2
        go_meet
        case rel => first
          | with_reducible exact ⟨_, aR, cR, rfl, rfl, Blk.new _ _ _, KB.out.size, Rw.new (KR.out.alloc _), KB.out.alloc KB.out.size _⟩
          | with_reducible exact ⟨_, aR, cR, rfl, rfl, four_ KC.out _ _ _ _, hC.out, Rw.new (row_keep4 KR.out KC.out _ _ _ _), below_set4 KB.out hC.out _ _ _ _⟩
    case rest =>
      rename World => w4
      obtain ⟨bP, aP, cP, rfl, rfl, hbk, u4, hrow, hb⟩ := hcut
      have A_4 := Lib.hid (A_3.out.below (hb.mono (by first | omega | (simp only [World.size_alloc]; omega) | (simp only [size_drew_]; omega) | (simp only [World.size_alloc, size_drew_]; omega))))
      clear A_3
      have R_4 := Lib.hid (R_3.out.below hb)
      clear R_3
      have F_4 := Lib.hid (F_3.out.below hb)
      clear F_3
      have BB_4 := Lib.hid (BB_3.out.trans (hb.mono (by first | omega | (simp only [World.size_alloc]; omega) | (simp only [size_drew_]; omega) | (simp only [World.size_alloc, size_drew_]; omega))))
      clear BB_3
      have OP_4 := Lib.hid hbk
      have RP_4 := Lib.hid hrow
      have s4 := hb.size
      have t4 := hbk.lt
      clear hb hbk hrow
      have qR_4 := R_4.out.cell
      go_wp2_with fail
      refine (toShard_any a _ c mk lt ov l _ _ A_4.out rfl (by first | omega | (simp only [World.size_alloc]; omega) | (simp only [size_drew_]; omega) | (simp only [World.size_alloc, size_drew_]; omega)) hle).mono ?_
      rintro e w5 ⟨a5, c5, rfl, ho, hb⟩
      clear qR_4
      have A_5 := Lib.hid (A_4.out.below (hb.mono (by first | omega | (simp only [World.size_alloc]; omega) | (simp only [size_drew_]; omega) | (simp only [World.size_alloc, size_drew_]; omega))))
      clear A_4
      have R_5 := Lib.hid (R_4.out.below hb)
      clear R_4
      have F_5 := Lib.hid (F_4.out.below hb)
      clear F_4
      have OP_5 := Lib.hid (OP_4.out.below hb)
      clear OP_4
      have RP_5 := Lib.hid (RP_4.out.below hb (by first | omega | (simp only [World.size_alloc]; omega) | (simp only [size_drew_]; omega) | (simp only [World.size_alloc, size_drew_]; omega)))
      clear RP_4
      have BB_5 := Lib.hid (BB_4.out.trans (hb.mono (by first | omega | (simp only [World.size_alloc]; omega) | (simp only [size_drew_]; omega) | (simp only [World.size_alloc, size_drew_]; omega))))
      clear BB_4
      have X_5 := Lib.hid (Rw.new ho)
      clear ho
      have s5 := hb.size
      clear hb
      have A_6 := Lib.hid (A_5.out.below (((Below.refl w5.heap.size w5).alloc (Nat.le_refl _) (.cells #[.slice a5 l.length c5, .int .i64 mk, .int .i64 lt, .int .i64 ov] 30)).mono (by first | omega | (simp only [World.size_alloc]; omega) | (simp only [size_drew_]; omega) | (simp only [World.size_alloc, size_drew_]; omega))))
      clear A_5
      have R_6 := Lib.hid (R_5.out.alloc (.cells #[.slice a5 l.length c5, .int .i64 mk, .int .i64 lt, .int .i64 ov] 30))
      clear R_5
      have F_6 := Lib.hid (F_5.out.alloc (.cells #[.slice a5 l.length c5, .int .i64 mk, .int .i64 lt, .int .i64 ov] 30))
      clear F_5
      have OP_6 := Lib.hid (OP_5.out.alloc (.cells #[.slice a5 l.length c5, .int .i64 mk, .int .i64 lt, .int .i64 ov] 30))
      clear OP_5
      have RP_6 := Lib.hid (RP_5.out.below ((Below.refl w5.heap.size w5).alloc (Nat.le_refl _) (.cells #[.slice a5 l.length c5, .int .i64 mk, .int .i64 lt, .int .i64 ov] 30)) (by first | omega | (simp only [World.size_alloc]; omega) | (simp only [size_drew_]; omega) | (simp only [World.size_alloc, size_drew_]; omega)))
      clear RP_5
      have X_6 := Lib.hid (X_5.out.below ((Below.refl w5.heap.size w5).alloc (Nat.le_refl _) (.cells #[.slice a5 l.length c5, .int .i64 mk, .int .i64 lt, .int .i64 ov] 30)) (by first | omega | (simp only [World.size_alloc]; omega) | (simp only [size_drew_]; omega) | (simp only [World.size_alloc, size_drew_]; omega)))
      clear X_5
      have BB_6 := Lib.hid (BB_5.out.alloc (by first | omega | (simp only [World.size_alloc]; omega) | (simp only [size_drew_]; omega) | (simp only [World.size_alloc, size_drew_]; omega)) (.cells #[.slice a5 l.length c5, .int .i64 mk, .int .i64 lt, .int .i64 ov] 30))
      clear BB_5
      have OX_6 := Lib.hid (Blk.new w5 30 #[.slice a5 l.length c5, .int .i64 mk, .int .i64 lt, .int .i64 ov])
      go_upto_region 7 with fail
      have z6 : w5.heap.size + 1 ≤ (w5.alloc (.cells #[.slice a5 l.length c5, .int .i64 mk, .int .i64 lt, .int .i64 ov] 30)).heap.size := Nat.le_of_eq (by simp only [World.size_alloc])
      generalize (w5.alloc (.cells #[.slice a5 l.length c5, .int .i64 mk, .int .i64 lt, .int .i64 ov] 30)) = v6 at A_6 R_6 F_6 OP_6 RP_6 X_6 OX_6 BB_6 z6 ⊢
      go_cut [13, 14] from 37 (fun x1 x2 wx => ∃ (b : Nat) (aR : Option Addr) (cR : Nat), x1 = .pointer (some ⟨b, 0, none⟩) ∧ x2 = .int .i64 C ∧ Blk wx b 30 #[.slice aR L.length cR, .int .i64 mk, .int .i64 LT, .int .i64 OV] ∧ v6.heap.size ≤ b ∧ Rw 44 6 v6.heap.size wx.heap.size aR L.length cR (flatA L) wx ∧ Below v6.heap.size v6 wx)
      case first =>
        have Y : Hid (∀ W, Below v6.heap.size v6 W → W.cell? ⟨w5.heap.size, 0, none⟩ = some (.slice a5 l.length c5) ∧ W.cell? ⟨w5.heap.size, 1, none⟩ = some (.int .i64 mk) ∧ W.cell? ⟨w5.heap.size, 2, none⟩ = some (.int .i64 lt) ∧ W.cell? ⟨w5.heap.size, 3, none⟩ = some (.int .i64 ov) ∧ W.cell? ⟨w.heap.size + 1, 0, none⟩ = some (.int .i64 k) ∧ W.cell? ⟨w.heap.size + 1, 1, none⟩ = some (.int .i64 y) ∧ W.cell? ⟨w.heap.size + 1, 2, none⟩ = some (.int .i64 t) ∧ W.cell? ⟨w.heap.size + 1, 3, none⟩ = some (.int .i64 v)) := Lib.hid (fun W hW => ⟨(OX_6.out.below hW).cell 0, (OX_6.out.below hW).cell 1, (OX_6.out.below hW).cell 2, (OX_6.out.below hW).cell 3, (F_6.out.below hW).cell 0, (F_6.out.below hW).cell 1, (F_6.out.below hW).cell 2, (F_6.out.below hW).cell 3⟩)
        have KB := Lib.hid (Below.refl v6.heap.size v6).drew
        have XR : Hid (∀ W, Below v6.heap.size v6 W → Ags W W.heap.size a5 c5 l) := Lib.hid (fun W hW => (X_6.out.below hW (by first | omega | (simp only [World.size_alloc]; omega) | (simp only [size_drew_]; omega) | (simp only [World.size_alloc, size_drew_]; omega))).as)
        go_region_held3 (fun W => W.cell? ⟨w5.heap.size, 0, none⟩ = some (.slice a5 l.length c5) ∧ W.cell? ⟨w5.heap.size, 1, none⟩ = some (.int .i64 mk) ∧ W.cell? ⟨w5.heap.size, 2, none⟩ = some (.int .i64 lt) ∧ W.cell? ⟨w5.heap.size, 3, none⟩ = some (.int .i64 ov) ∧ W.cell? ⟨w.heap.size + 1, 0, none⟩ = some (.int .i64 k) ∧ W.cell? ⟨w.heap.size + 1, 1, none⟩ = some (.int .i64 y) ∧ W.cell? ⟨w.heap.size + 1, 2, none⟩ = some (.int .i64 t) ∧ W.cell? ⟨w.heap.size + 1, 3, none⟩ = some (.int .i64 v))
          (first | with_reducible exact Y.out _ KB.out | with_reducible exact Y.out _ (KB.out.alloc KB.out.size _) | with_reducible exact Y.out _ ((Below.refl v6.heap.size v6).alloc (Nat.le_refl _) _).drew | with_reducible exact Y.out _ (below_set4 KB.out hC.out _ _ _ _))
          (first
            | (go_at_call 12; refine (toFrame_any k y t v _).mono ?_; rintro e w1 ⟨rfl, hb⟩; (first | (have KC0 := KC.out.below hb; (first | have KX := Lib.hid (owns_below KX.out hb) | skip); have KB := Lib.hid (KB.out.trans (hb.mono KB.out.size)); clear hb; have KC := Lib.hid KC0; clear KC0; (try clear qC fC); have qC := KC.out.cell; have fC := KC.out.frozen) | (have KC0 := (Blk.new _ 30 #[.slice none 0 0, .int .i64 0, .int .i64 0, .int .i64 0]).below hb; (first | have KX := Lib.hid (owns_below (KX.out.alloc _) hb) | skip); have hC0 : v6.heap.size ≤ _ := KB.out.size; have KB := Lib.hid ((KB.out.alloc KB.out.size _).trans (hb.mono (KB.out.alloc KB.out.size _).size)); clear hb; (try simp only [size_drew_] at KC0 hC0); have KC := Lib.hid KC0; have hC := Lib.hid hC0; clear KC0 hC0; have qC := KC.out.cell; have fC := KC.out.frozen) | (have KC0 := (Blk.new v6 30 #[.slice none 0 0, .int .i64 0, .int .i64 0, .int .i64 0]).drew.below hb; have hC0 : v6.heap.size ≤ v6.heap.size := Nat.le_refl _; have KB := Lib.hid (((Below.refl v6.heap.size v6).alloc (Nat.le_refl _) _).drew.trans (hb.mono ((Below.refl v6.heap.size v6).alloc (Nat.le_refl _) _).drew.size)); clear hb; have KC := Lib.hid KC0; have hC := Lib.hid hC0; clear KC0 hC0; have qC := KC.out.cell; have fC := KC.out.frozen) | ((first | have KX := Lib.hid (owns_below KX.out hb) | skip); have KB := Lib.hid (KB.out.trans (hb.mono KB.out.size)); clear hb)))
            | (go_at_call 13; (first | (with_reducible refine (IP.out _ _ _ (XR.out _ KB.out)).mono ?_) | (with_reducible refine (IP.out _ _ _ (XR.out _ (KB.out.alloc KB.out.size _))).mono ?_) | (with_reducible refine (IP.out _ _ _ (XR.out _ ((Below.refl v6.heap.size v6).alloc (Nat.le_refl _) _).drew)).mono ?_)); rintro e w1 ⟨aR, cR, rfl, ho, hb⟩; (first | have KR := Lib.hid (owns_less ho KB.out.size) | have KR := Lib.hid (owns_less ho (KB.out.alloc KB.out.size _).size)); clear ho; (first | (have KC0 := KC.out.below hb; (first | have KX := Lib.hid (owns_below KX.out hb) | skip); have KB := Lib.hid (KB.out.trans (hb.mono KB.out.size)); clear hb; have KC := Lib.hid KC0; clear KC0; (try clear qC fC); have qC := KC.out.cell; have fC := KC.out.frozen) | (have KC0 := (Blk.new _ 30 #[.slice none 0 0, .int .i64 0, .int .i64 0, .int .i64 0]).below hb; (first | have KX := Lib.hid (owns_below (KX.out.alloc _) hb) | skip); have hC0 : v6.heap.size ≤ _ := KB.out.size; have KB := Lib.hid ((KB.out.alloc KB.out.size _).trans (hb.mono (KB.out.alloc KB.out.size _).size)); clear hb; (try simp only [size_drew_] at KC0 hC0); have KC := Lib.hid KC0; have hC := Lib.hid hC0; clear KC0 hC0; have qC := KC.out.cell; have fC := KC.out.frozen) | (have KC0 := (Blk.new v6 30 #[.slice none 0 0, .int .i64 0, .int .i64 0, .int .i64 0]).drew.below hb; have hC0 : v6.heap.size ≤ v6.heap.size := Nat.le_refl _; have KB := Lib.hid (((Below.refl v6.heap.size v6).alloc (Nat.le_refl _) _).drew.trans (hb.mono ((Below.refl v6.heap.size v6).alloc (Nat.le_refl _) _).drew.size)); clear hb; have KC := Lib.hid KC0; have hC := Lib.hid hC0; clear KC0 hC0; have qC := KC.out.cell; have fC := KC.out.frozen) | ((first | have KX := Lib.hid (owns_below KX.out hb) | skip); have KB := Lib.hid (KB.out.trans (hb.mono KB.out.size)); clear hb))))
        all_goals
          go_wp2
          go_meet
          case rel => first
            | with_reducible exact ⟨_, aR, cR, rfl, rfl, Blk.new _ _ _, KB.out.size, Rw.new (KR.out.alloc _), KB.out.alloc KB.out.size _⟩
            | with_reducible exact ⟨_, aR, cR, rfl, rfl, four_ KC.out _ _ _ _, hC.out, Rw.new (row_keep4 KR.out KC.out _ _ _ _), below_set4 KB.out hC.out _ _ _ _⟩
      case rest =>
        rename World => w7
        obtain ⟨bQ, aQ, cQ, rfl, rfl, hbk, u7, hrow, hb⟩ := hcut
        have A_7 := Lib.hid (A_6.out.below (hb.mono (by first | omega | (simp only [World.size_alloc]; omega) | (simp only [size_drew_]; omega) | (simp only [World.size_alloc, size_drew_]; omega))))
        clear A_6
        have R_7 := Lib.hid (R_6.out.below hb)
        clear R_6
        have F_7 := Lib.hid (F_6.out.below hb)
        clear F_6
        have OP_7 := Lib.hid (OP_6.out.below hb)
        clear OP_6
        have RP_7 := Lib.hid (RP_6.out.below hb (by first | omega | (simp only [World.size_alloc]; omega) | (simp only [size_drew_]; omega) | (simp only [World.size_alloc, size_drew_]; omega)))
        clear RP_6
        have X_7 := Lib.hid (X_6.out.below hb (by first | omega | (simp only [World.size_alloc]; omega) | (simp only [size_drew_]; omega) | (simp only [World.size_alloc, size_drew_]; omega)))
        clear X_6
        have OX_7 := Lib.hid (OX_6.out.below hb)
        clear OX_6
        have BB_7 := Lib.hid (BB_6.out.trans (hb.mono (by first | omega | (simp only [World.size_alloc]; omega) | (simp only [size_drew_]; omega) | (simp only [World.size_alloc, size_drew_]; omega))))
        clear BB_6
        have OQ_7 := Lib.hid hbk
        have RQ_7 := Lib.hid hrow
        have s7 := hb.size
        have t7 := hbk.lt
        clear hb hbk hrow
        have qOQ_7 := OQ_7.out.cell
        have qOP_7 := OP_7.out.cell
        go_wp2_with fail
        refine (eqShard_any _ _ _ _ _ _ mk LT OV L _ _ _ RQ_7.out.as RP_7.out.as rfl rfl (Nat.le_refl _) (Nat.le_refl _)).mono ?_
        rintro e w8 ⟨rfl, hb⟩
        clear qOQ_7 qOP_7
        have A_8 := Lib.hid (A_7.out.below (hb.mono (by first | omega | (simp only [World.size_alloc]; omega) | (simp only [size_drew_]; omega) | (simp only [World.size_alloc, size_drew_]; omega))))
        clear A_7
        have R_8 := Lib.hid (R_7.out.below hb)
        clear R_7
        have F_8 := Lib.hid (F_7.out.below hb)
        clear F_7
        have OP_8 := Lib.hid (OP_7.out.below hb)
        clear OP_7
        have RP_8 := Lib.hid (RP_7.out.below hb (by first | omega | (simp only [World.size_alloc]; omega) | (simp only [size_drew_]; omega) | (simp only [World.size_alloc, size_drew_]; omega)))
        clear RP_7
        have X_8 := Lib.hid (X_7.out.below hb (by first | omega | (simp only [World.size_alloc]; omega) | (simp only [size_drew_]; omega) | (simp only [World.size_alloc, size_drew_]; omega)))
        clear X_7
        have OX_8 := Lib.hid (OX_7.out.below hb)
        clear OX_7
        have OQ_8 := Lib.hid (OQ_7.out.below hb)
        clear OQ_7
        have RQ_8 := Lib.hid (RQ_7.out.below hb (by first | omega | (simp only [World.size_alloc]; omega) | (simp only [size_drew_]; omega) | (simp only [World.size_alloc, size_drew_]; omega)))
        clear RQ_7
        have BB_8 := Lib.hid (BB_7.out.trans (hb.mono (by first | omega | (simp only [World.size_alloc]; omega) | (simp only [size_drew_]; omega) | (simp only [World.size_alloc, size_drew_]; omega))))
        clear BB_7
        have s8 := hb.size
        clear hb
        go_wp2_with fail
        have hOXs0 := OX_8.out.cell
        have hRs0 := R_8.out.cell
        have A_9 := Lib.hid (A_8.out.below (((Below.refl w8.heap.size w8).drew).mono (by first | omega | (simp only [World.size_alloc]; omega) | (simp only [size_drew_]; omega) | (simp only [World.size_alloc, size_drew_]; omega))))
        clear A_8
        have R_9 := Lib.hid (R_8.out.drew)
        clear R_8
        have F_9 := Lib.hid (F_8.out.drew)
        clear F_8
        have OP_9 := Lib.hid (OP_8.out.drew)
        clear OP_8
        have RP_9 := Lib.hid (RP_8.out.below ((Below.refl w8.heap.size w8).drew) (by first | omega | (simp only [World.size_alloc]; omega) | (simp only [size_drew_]; omega) | (simp only [World.size_alloc, size_drew_]; omega)))
        clear RP_8
        have X_9 := Lib.hid (X_8.out.below ((Below.refl w8.heap.size w8).drew) (by first | omega | (simp only [World.size_alloc]; omega) | (simp only [size_drew_]; omega) | (simp only [World.size_alloc, size_drew_]; omega)))
        clear X_8
        have OX_9 := Lib.hid (OX_8.out.drew)
        clear OX_8
        have OQ_9 := Lib.hid (OQ_8.out.drew)
        clear OQ_8
        have RQ_9 := Lib.hid (RQ_8.out.below ((Below.refl w8.heap.size w8).drew) (by first | omega | (simp only [World.size_alloc]; omega) | (simp only [size_drew_]; omega) | (simp only [World.size_alloc, size_drew_]; omega)))
        clear RQ_8
        have BB_9 := Lib.hid (BB_8.out.drew)
        clear BB_8
        go_region_held3 (fun W => W.cell? ⟨w5.heap.size, 0, none⟩ = some (.slice a5 l.length c5) ∧ W.cell? ⟨w5.heap.size, 1, none⟩ = some (.int .i64 mk) ∧ W.cell? ⟨w5.heap.size, 2, none⟩ = some (.int .i64 lt) ∧ W.cell? ⟨w5.heap.size, 3, none⟩ = some (.int .i64 ov) ∧ W.cell? ⟨w.heap.size, 0, none⟩ = some (.slice a l.length c) ∧ W.cell? ⟨w.heap.size, 1, none⟩ = some (.int .i64 mk) ∧ W.cell? ⟨w.heap.size, 2, none⟩ = some (.int .i64 lt) ∧ W.cell? ⟨w.heap.size, 3, none⟩ = some (.int .i64 ov))
          (first | exact ⟨hOXs0 0, hOXs0 1, hOXs0 2, hOXs0 3, hRs0 0, hRs0 1, hRs0 2, hRs0 3⟩ | exact ⟨hOXs1 0, hOXs1 1, hOXs1 2, hOXs1 3, hRs1 0, hRs1 1, hRs1 2, hRs1 3⟩ | exact ⟨hOXs2 0, hOXs2 1, hOXs2 2, hOXs2 3, hRs2 0, hRs2 1, hRs2 2, hRs2 3⟩)
          (first
            | (go_at_call 11; refine (toShard_any a _ c mk lt ov l _ _ A_9.out rfl (by first | omega | (simp only [World.size_alloc]; omega) | (simp only [size_drew_]; omega) | (simp only [World.size_alloc, size_drew_]; omega)) hle).mono ?_; rintro e w10 ⟨a10, c10, rfl, ho, hb⟩; have A_10 := Lib.hid (A_9.out.below (hb.mono (by first | omega | (simp only [World.size_alloc]; omega) | (simp only [size_drew_]; omega) | (simp only [World.size_alloc, size_drew_]; omega)))); clear A_9; have R_10 := Lib.hid (R_9.out.below hb); clear R_9; have F_10 := Lib.hid (F_9.out.below hb); clear F_9; have OP_10 := Lib.hid (OP_9.out.below hb); clear OP_9; have RP_10 := Lib.hid (RP_9.out.below hb (by first | omega | (simp only [World.size_alloc]; omega) | (simp only [size_drew_]; omega) | (simp only [World.size_alloc, size_drew_]; omega))); clear RP_9; have X_10 := Lib.hid (X_9.out.below hb (by first | omega | (simp only [World.size_alloc]; omega) | (simp only [size_drew_]; omega) | (simp only [World.size_alloc, size_drew_]; omega))); clear X_9; have OX_10 := Lib.hid (OX_9.out.below hb); clear OX_9; have OQ_10 := Lib.hid (OQ_9.out.below hb); clear OQ_9; have RQ_10 := Lib.hid (RQ_9.out.below hb (by first | omega | (simp only [World.size_alloc]; omega) | (simp only [size_drew_]; omega) | (simp only [World.size_alloc, size_drew_]; omega))); clear RQ_9; have BB_10 := Lib.hid (BB_9.out.trans (hb.mono (by first | omega | (simp only [World.size_alloc]; omega) | (simp only [size_drew_]; omega) | (simp only [World.size_alloc, size_drew_]; omega)))); clear BB_9; have Z_10 := Lib.hid (Rw.new ho); clear ho; have s10 := hb.size; simp only [size_drew_] at s10; clear hb; clear hOXs0 hRs0; have hOXs1 := OX_10.out.cell; have hRs1 := R_10.out.cell)
            | (go_at_call 14; refine (eqShard_any _ _ _ _ _ _ mk lt ov l _ _ _ X_10.out.as Z_10.out.as rfl rfl (Nat.le_refl _) (Nat.le_refl _)).mono ?_; rintro e w11 ⟨rfl, hb⟩; have A_11 := Lib.hid (A_10.out.below (hb.mono (by first | omega | (simp only [World.size_alloc]; omega) | (simp only [size_drew_]; omega) | (simp only [World.size_alloc, size_drew_]; omega)))); clear A_10; have R_11 := Lib.hid (R_10.out.below hb); clear R_10; have F_11 := Lib.hid (F_10.out.below hb); clear F_10; have OP_11 := Lib.hid (OP_10.out.below hb); clear OP_10; have RP_11 := Lib.hid (RP_10.out.below hb (by first | omega | (simp only [World.size_alloc]; omega) | (simp only [size_drew_]; omega) | (simp only [World.size_alloc, size_drew_]; omega))); clear RP_10; have X_11 := Lib.hid (X_10.out.below hb (by first | omega | (simp only [World.size_alloc]; omega) | (simp only [size_drew_]; omega) | (simp only [World.size_alloc, size_drew_]; omega))); clear X_10; have OX_11 := Lib.hid (OX_10.out.below hb); clear OX_10; have OQ_11 := Lib.hid (OQ_10.out.below hb); clear OQ_10; have RQ_11 := Lib.hid (RQ_10.out.below hb (by first | omega | (simp only [World.size_alloc]; omega) | (simp only [size_drew_]; omega) | (simp only [World.size_alloc, size_drew_]; omega))); clear RQ_10; have Z_11 := Lib.hid (Z_10.out.below hb (by first | omega | (simp only [World.size_alloc]; omega) | (simp only [size_drew_]; omega) | (simp only [World.size_alloc, size_drew_]; omega))); clear Z_10; have BB_11 := Lib.hid (BB_10.out.trans (hb.mono (by first | omega | (simp only [World.size_alloc]; omega) | (simp only [size_drew_]; omega) | (simp only [World.size_alloc, size_drew_]; omega)))); clear BB_10; have s11 := hb.size; clear hb; clear hOXs1 hRs1; have hOXs2 := OX_11.out.cell; have hRs2 := R_11.out.cell))
        clear hOXs2 hRs2
        clear Z_11
        have qOX_11 := OX_11.out.cell
        go_wp2_with fail
        refine (markShard_m _ _ _ 1 mk lt ov _ l _ _ X_11.out.own rfl rfl (by first | omega | (simp only [World.size_alloc]; omega) | (simp only [size_drew_]; omega) | (simp only [World.size_alloc, size_drew_]; omega)) (by omega) (by omega)).mono ?_
        rintro e w12 ⟨rfl, hm⟩
        clear qOX_11
        have hb := hm.below
        have X_12 := Lib.hid (Rw.mk hm.own X_11.out.up)
        have A_12 := Lib.hid (A_11.out.below (hb.mono (by first | omega | (simp only [World.size_alloc]; omega) | (simp only [size_drew_]; omega) | (simp only [World.size_alloc, size_drew_]; omega))))
        clear A_11
        have R_12 := Lib.hid (R_11.out.grown hm.grown (own_blk_ne X_11.out.own R_11.out (by decide)))
        clear R_11
        have F_12 := Lib.hid (F_11.out.grown hm.grown (own_blk_ne X_11.out.own F_11.out (by decide)))
        clear F_11
        have OP_12 := Lib.hid (OP_11.out.grown hm.grown (own_blk_ne X_11.out.own OP_11.out (by decide)))
        clear OP_11
        have RP_12 := Lib.hid (RP_11.out.other X_11.out hm.grown (by first | omega | (simp only [World.size_alloc]; omega) | (simp only [size_drew_]; omega) | (simp only [World.size_alloc, size_drew_]; omega)))
        clear RP_11
        have OX_12 := Lib.hid (OX_11.out.grown hm.grown (own_blk_ne X_11.out.own OX_11.out (by decide)))
        clear OX_11
        have OQ_12 := Lib.hid (OQ_11.out.grown hm.grown (own_blk_ne X_11.out.own OQ_11.out (by decide)))
        clear OQ_11
        have RQ_12 := Lib.hid (RQ_11.out.other X_11.out hm.grown (by first | omega | (simp only [World.size_alloc]; omega) | (simp only [size_drew_]; omega) | (simp only [World.size_alloc, size_drew_]; omega)))
        clear RQ_11
        have BB_12 := Lib.hid (BB_11.out.trans (hb.mono (by first | omega | (simp only [World.size_alloc]; omega) | (simp only [size_drew_]; omega) | (simp only [World.size_alloc, size_drew_]; omega))))
        clear BB_11
        clear X_11
        have s12 := hb.size
        clear hb hm
        have qOQ_12 := OQ_12.out.cell
        have qOP_12 := OP_12.out.cell
        go_wp2_with fail
        refine (eqShard_any _ _ _ _ _ _ mk LT OV L _ _ _ RQ_12.out.as RP_12.out.as rfl rfl (Nat.le_refl _) (Nat.le_refl _)).mono ?_
        rintro e w13 ⟨rfl, hb⟩
        clear qOQ_12 qOP_12
        have A_13 := Lib.hid (A_12.out.below (hb.mono (by first | omega | (simp only [World.size_alloc]; omega) | (simp only [size_drew_]; omega) | (simp only [World.size_alloc, size_drew_]; omega))))
        clear A_12
        have R_13 := Lib.hid (R_12.out.below hb)
        clear R_12
        have F_13 := Lib.hid (F_12.out.below hb)
        clear F_12
        have OP_13 := Lib.hid (OP_12.out.below hb)
        clear OP_12
        have RP_13 := Lib.hid (RP_12.out.below hb (by first | omega | (simp only [World.size_alloc]; omega) | (simp only [size_drew_]; omega) | (simp only [World.size_alloc, size_drew_]; omega)))
        clear RP_12
        have X_13 := Lib.hid (X_12.out.below hb (by first | omega | (simp only [World.size_alloc]; omega) | (simp only [size_drew_]; omega) | (simp only [World.size_alloc, size_drew_]; omega)))
        clear X_12
        have OX_13 := Lib.hid (OX_12.out.below hb)
        clear OX_12
        have OQ_13 := Lib.hid (OQ_12.out.below hb)
        clear OQ_12
        have RQ_13 := Lib.hid (RQ_12.out.below hb (by first | omega | (simp only [World.size_alloc]; omega) | (simp only [size_drew_]; omega) | (simp only [World.size_alloc, size_drew_]; omega)))
        clear RQ_12
        have BB_13 := Lib.hid (BB_12.out.trans (hb.mono (by first | omega | (simp only [World.size_alloc]; omega) | (simp only [size_drew_]; omega) | (simp only [World.size_alloc, size_drew_]; omega))))
        clear BB_12
        have s13 := hb.size
        clear hb
        have qOQ_13 := OQ_13.out.cell
        go_wp2_with fail
        refine (markShard_m _ _ _ 1 mk LT OV _ L _ _ RQ_13.out.own rfl rfl (by first | omega | (simp only [World.size_alloc]; omega) | (simp only [size_drew_]; omega) | (simp only [World.size_alloc, size_drew_]; omega)) (by omega) (by omega)).mono ?_
        rintro e w14 ⟨rfl, hm⟩
        clear qOQ_13
        have hb := hm.below
        have RQ_14 := Lib.hid (Rw.mk hm.own RQ_13.out.up)
        have A_14 := Lib.hid (A_13.out.below (hb.mono (by first | omega | (simp only [World.size_alloc]; omega) | (simp only [size_drew_]; omega) | (simp only [World.size_alloc, size_drew_]; omega))))
        clear A_13
        have R_14 := Lib.hid (R_13.out.grown hm.grown (own_blk_ne RQ_13.out.own R_13.out (by decide)))
        clear R_13
        have F_14 := Lib.hid (F_13.out.grown hm.grown (own_blk_ne RQ_13.out.own F_13.out (by decide)))
        clear F_13
        have OP_14 := Lib.hid (OP_13.out.grown hm.grown (own_blk_ne RQ_13.out.own OP_13.out (by decide)))
        clear OP_13
        have RP_14 := Lib.hid (RP_13.out.other RQ_13.out hm.grown (by first | omega | (simp only [World.size_alloc]; omega) | (simp only [size_drew_]; omega) | (simp only [World.size_alloc, size_drew_]; omega)))
        clear RP_13
        have X_14 := Lib.hid (X_13.out.other RQ_13.out hm.grown (by first | omega | (simp only [World.size_alloc]; omega) | (simp only [size_drew_]; omega) | (simp only [World.size_alloc, size_drew_]; omega)))
        clear X_13
        have OX_14 := Lib.hid (OX_13.out.grown hm.grown (own_blk_ne RQ_13.out.own OX_13.out (by decide)))
        clear OX_13
        have OQ_14 := Lib.hid (OQ_13.out.grown hm.grown (own_blk_ne RQ_13.out.own OQ_13.out (by decide)))
        clear OQ_13
        have BB_14 := Lib.hid (BB_13.out.trans (hb.mono (by first | omega | (simp only [World.size_alloc]; omega) | (simp only [size_drew_]; omega) | (simp only [World.size_alloc, size_drew_]; omega))))
        clear BB_13
        clear RQ_13
        have s14 := hb.size
        clear hb hm
        have qOQ_14 := OQ_14.out.cell
        go_wp2_with fail
        refine (heldShard_m _ _ _ 1 mk LT OV _ _ _ RQ_14.out.as (Nat.le_refl _) rfl (by omega) (by omega)).mono ?_
        rintro e w15 ⟨rfl, hb⟩
        clear qOQ_14
        have A_15 := Lib.hid (A_14.out.below (hb.mono (by first | omega | (simp only [World.size_alloc]; omega) | (simp only [size_drew_]; omega) | (simp only [World.size_alloc, size_drew_]; omega))))
        clear A_14
        have R_15 := Lib.hid (R_14.out.below hb)
        clear R_14
        have F_15 := Lib.hid (F_14.out.below hb)
        clear F_14
        have OP_15 := Lib.hid (OP_14.out.below hb)
        clear OP_14
        have RP_15 := Lib.hid (RP_14.out.below hb (by first | omega | (simp only [World.size_alloc]; omega) | (simp only [size_drew_]; omega) | (simp only [World.size_alloc, size_drew_]; omega)))
        clear RP_14
        have X_15 := Lib.hid (X_14.out.below hb (by first | omega | (simp only [World.size_alloc]; omega) | (simp only [size_drew_]; omega) | (simp only [World.size_alloc, size_drew_]; omega)))
        clear X_14
        have OX_15 := Lib.hid (OX_14.out.below hb)
        clear OX_14
        have OQ_15 := Lib.hid (OQ_14.out.below hb)
        clear OQ_14
        have RQ_15 := Lib.hid (RQ_14.out.below hb (by first | omega | (simp only [World.size_alloc]; omega) | (simp only [size_drew_]; omega) | (simp only [World.size_alloc, size_drew_]; omega)))
        clear RQ_14
        have BB_15 := Lib.hid (BB_14.out.trans (hb.mono (by first | omega | (simp only [World.size_alloc]; omega) | (simp only [size_drew_]; omega) | (simp only [World.size_alloc, size_drew_]; omega))))
        clear BB_14
        have s15 := hb.size
        clear hb
        go_upto_region 24 with fail
        go_cut [18, 19] from 87 (fun x1 x2 wx => ∃ (b : Nat) (aR : Option Addr) (cR : Nat), x1 = .pointer (some ⟨b, 0, none⟩) ∧ x2 = .int .i64 C ∧ Blk wx b 30 #[.slice aR L.length cR, .int .i64 mk, .int .i64 LT, .int .i64 OV] ∧ w15.heap.size ≤ b ∧ Rw 44 6 w15.heap.size wx.heap.size aR L.length cR (flatA L) wx ∧ Below w15.heap.size w15 wx)
        case first =>
          have Y : Hid (∀ W, Below w15.heap.size w15 W → W.cell? ⟨w.heap.size, 0, none⟩ = some (.slice a l.length c) ∧ W.cell? ⟨w.heap.size, 1, none⟩ = some (.int .i64 mk) ∧ W.cell? ⟨w.heap.size, 2, none⟩ = some (.int .i64 lt) ∧ W.cell? ⟨w.heap.size, 3, none⟩ = some (.int .i64 ov) ∧ W.cell? ⟨w.heap.size + 1, 0, none⟩ = some (.int .i64 k) ∧ W.cell? ⟨w.heap.size + 1, 1, none⟩ = some (.int .i64 y) ∧ W.cell? ⟨w.heap.size + 1, 2, none⟩ = some (.int .i64 t) ∧ W.cell? ⟨w.heap.size + 1, 3, none⟩ = some (.int .i64 v)) := Lib.hid (fun W hW => ⟨(R_15.out.below hW).cell 0, (R_15.out.below hW).cell 1, (R_15.out.below hW).cell 2, (R_15.out.below hW).cell 3, (F_15.out.below hW).cell 0, (F_15.out.below hW).cell 1, (F_15.out.below hW).cell 2, (F_15.out.below hW).cell 3⟩)
          have KB := Lib.hid (Below.refl w15.heap.size w15).drew
          have TS : Hid (∀ W, Below w15.heap.size w15 W → Calls Try.prog 11 #[.agg #[.slice a l.length c, .int .i64 mk, .int .i64 lt, .int .i64 ov]] W (FreshShard l mk lt ov W)) := Lib.hid (fun W hW => toShard_any a _ c mk lt ov l _ _ (A_15.out.below (hW.mono (by first | omega | (simp only [World.size_alloc]; omega) | (simp only [size_drew_]; omega) | (simp only [World.size_alloc, size_drew_]; omega)))) rfl (by have := hW.size; first | omega | (simp only [World.size_alloc] at this ⊢; omega)) hle)
          go_region_held3 (fun W => W.cell? ⟨w.heap.size, 0, none⟩ = some (.slice a l.length c) ∧ W.cell? ⟨w.heap.size, 1, none⟩ = some (.int .i64 mk) ∧ W.cell? ⟨w.heap.size, 2, none⟩ = some (.int .i64 lt) ∧ W.cell? ⟨w.heap.size, 3, none⟩ = some (.int .i64 ov) ∧ W.cell? ⟨w.heap.size + 1, 0, none⟩ = some (.int .i64 k) ∧ W.cell? ⟨w.heap.size + 1, 1, none⟩ = some (.int .i64 y) ∧ W.cell? ⟨w.heap.size + 1, 2, none⟩ = some (.int .i64 t) ∧ W.cell? ⟨w.heap.size + 1, 3, none⟩ = some (.int .i64 v))
            (first | with_reducible exact Y.out _ KB.out | with_reducible exact Y.out _ (KB.out.alloc KB.out.size _) | with_reducible exact Y.out _ ((Below.refl w15.heap.size w15).alloc (Nat.le_refl _) _).drew | with_reducible exact Y.out _ (below_set4 KB.out hC.out _ _ _ _))
            (first
              | (go_at_call 11; (first | (with_reducible refine (TS.out _ KB.out).mono ?_) | (with_reducible refine (TS.out _ (KB.out.alloc KB.out.size _)).mono ?_) | (with_reducible refine (TS.out _ ((Below.refl w15.heap.size w15).alloc (Nat.le_refl _) _).drew).mono ?_)); rintro e w1 ⟨aX, cX, rfl, ho, hb⟩; (first | have KX := Lib.hid (owns_less ho KB.out.size) | have KX := Lib.hid (owns_less ho (KB.out.alloc KB.out.size _).size) | have KX := Lib.hid (owns_less ho ((Below.refl w15.heap.size w15).alloc (Nat.le_refl _) _).drew.size)); clear ho; (first | (have KC0 := KC.out.below hb; have KB := Lib.hid (KB.out.trans (hb.mono KB.out.size)); clear hb; have KC := Lib.hid KC0; clear KC0; (try clear qC fC); have qC := KC.out.cell; have fC := KC.out.frozen) | (have KC0 := (Blk.new _ 30 #[.slice none 0 0, .int .i64 0, .int .i64 0, .int .i64 0]).below hb; have hC0 : w15.heap.size ≤ _ := KB.out.size; have KB := Lib.hid ((KB.out.alloc KB.out.size _).trans (hb.mono (KB.out.alloc KB.out.size _).size)); clear hb; (try simp only [size_drew_] at KC0 hC0); have KC := Lib.hid KC0; have hC := Lib.hid hC0; clear KC0 hC0; have qC := KC.out.cell; have fC := KC.out.frozen) | (have KC0 := (Blk.new w15 30 #[.slice none 0 0, .int .i64 0, .int .i64 0, .int .i64 0]).drew.below hb; have hC0 : w15.heap.size ≤ w15.heap.size := Nat.le_refl _; have KB := Lib.hid (((Below.refl w15.heap.size w15).alloc (Nat.le_refl _) _).drew.trans (hb.mono ((Below.refl w15.heap.size w15).alloc (Nat.le_refl _) _).drew.size)); clear hb; have KC := Lib.hid KC0; have hC := Lib.hid hC0; clear KC0 hC0; have qC := KC.out.cell; have fC := KC.out.frozen) | (have KB := Lib.hid (KB.out.trans (hb.mono KB.out.size)); clear hb)))
              | (go_at_call 12; refine (toFrame_any k y t v _).mono ?_; rintro e w1 ⟨rfl, hb⟩; (first | (have KC0 := KC.out.below hb; (first | have KX := Lib.hid (owns_below KX.out hb) | skip); have KB := Lib.hid (KB.out.trans (hb.mono KB.out.size)); clear hb; have KC := Lib.hid KC0; clear KC0; (try clear qC fC); have qC := KC.out.cell; have fC := KC.out.frozen) | (have KC0 := (Blk.new _ 30 #[.slice none 0 0, .int .i64 0, .int .i64 0, .int .i64 0]).below hb; (first | have KX := Lib.hid (owns_below (KX.out.alloc _) hb) | skip); have hC0 : w15.heap.size ≤ _ := KB.out.size; have KB := Lib.hid ((KB.out.alloc KB.out.size _).trans (hb.mono (KB.out.alloc KB.out.size _).size)); clear hb; (try simp only [size_drew_] at KC0 hC0); have KC := Lib.hid KC0; have hC := Lib.hid hC0; clear KC0 hC0; have qC := KC.out.cell; have fC := KC.out.frozen) | (have KC0 := (Blk.new w15 30 #[.slice none 0 0, .int .i64 0, .int .i64 0, .int .i64 0]).drew.below hb; have hC0 : w15.heap.size ≤ w15.heap.size := Nat.le_refl _; have KB := Lib.hid (((Below.refl w15.heap.size w15).alloc (Nat.le_refl _) _).drew.trans (hb.mono ((Below.refl w15.heap.size w15).alloc (Nat.le_refl _) _).drew.size)); clear hb; have KC := Lib.hid KC0; have hC := Lib.hid hC0; clear KC0 hC0; have qC := KC.out.cell; have fC := KC.out.frozen) | ((first | have KX := Lib.hid (owns_below KX.out hb) | skip); have KB := Lib.hid (KB.out.trans (hb.mono KB.out.size)); clear hb)))
              | (go_at_call 13; (first | (with_reducible refine (IP.out _ _ _ (Ags.of_own KX.out)).mono ?_) | (with_reducible refine (IP.out _ _ _ (Ags.of_own (KX.out.alloc _))).mono ?_)); rintro e w1 ⟨aR, cR, rfl, ho, hb⟩; (first | have KR := Lib.hid (owns_less ho KB.out.size) | have KR := Lib.hid (owns_less ho (KB.out.alloc KB.out.size _).size)); clear ho; (first | (have KC0 := KC.out.below hb; (first | have KX := Lib.hid (owns_below KX.out hb) | skip); have KB := Lib.hid (KB.out.trans (hb.mono KB.out.size)); clear hb; have KC := Lib.hid KC0; clear KC0; (try clear qC fC); have qC := KC.out.cell; have fC := KC.out.frozen) | (have KC0 := (Blk.new _ 30 #[.slice none 0 0, .int .i64 0, .int .i64 0, .int .i64 0]).below hb; (first | have KX := Lib.hid (owns_below (KX.out.alloc _) hb) | skip); have hC0 : w15.heap.size ≤ _ := KB.out.size; have KB := Lib.hid ((KB.out.alloc KB.out.size _).trans (hb.mono (KB.out.alloc KB.out.size _).size)); clear hb; (try simp only [size_drew_] at KC0 hC0); have KC := Lib.hid KC0; have hC := Lib.hid hC0; clear KC0 hC0; have qC := KC.out.cell; have fC := KC.out.frozen) | (have KC0 := (Blk.new w15 30 #[.slice none 0 0, .int .i64 0, .int .i64 0, .int .i64 0]).drew.below hb; have hC0 : w15.heap.size ≤ w15.heap.size := Nat.le_refl _; have KB := Lib.hid (((Below.refl w15.heap.size w15).alloc (Nat.le_refl _) _).drew.trans (hb.mono ((Below.refl w15.heap.size w15).alloc (Nat.le_refl _) _).drew.size)); clear hb; have KC := Lib.hid KC0; have hC := Lib.hid hC0; clear KC0 hC0; have qC := KC.out.cell; have fC := KC.out.frozen) | ((first | have KX := Lib.hid (owns_below KX.out hb) | skip); have KB := Lib.hid (KB.out.trans (hb.mono KB.out.size)); clear hb))))
          all_goals
            go_wp2
            go_meet
            case rel => first
              | with_reducible exact ⟨_, aR, cR, rfl, rfl, Blk.new _ _ _, KB.out.size, Rw.new (KR.out.alloc _), KB.out.alloc KB.out.size _⟩
              | with_reducible exact ⟨_, aR, cR, rfl, rfl, four_ KC.out _ _ _ _, hC.out, Rw.new (row_keep4 KR.out KC.out _ _ _ _), below_set4 KB.out hC.out _ _ _ _⟩
        case rest =>
          rename World => w16
          obtain ⟨bH, aH, cH, rfl, rfl, hbk, u16, hrow, hb⟩ := hcut
          have A_16 := Lib.hid (A_15.out.below (hb.mono (by first | omega | (simp only [World.size_alloc]; omega) | (simp only [size_drew_]; omega) | (simp only [World.size_alloc, size_drew_]; omega))))
          clear A_15
          have R_16 := Lib.hid (R_15.out.below hb)
          clear R_15
          have F_16 := Lib.hid (F_15.out.below hb)
          clear F_15
          have OP_16 := Lib.hid (OP_15.out.below hb)
          clear OP_15
          have RP_16 := Lib.hid (RP_15.out.below hb (by first | omega | (simp only [World.size_alloc]; omega) | (simp only [size_drew_]; omega) | (simp only [World.size_alloc, size_drew_]; omega)))
          clear RP_15
          have X_16 := Lib.hid (X_15.out.below hb (by first | omega | (simp only [World.size_alloc]; omega) | (simp only [size_drew_]; omega) | (simp only [World.size_alloc, size_drew_]; omega)))
          clear X_15
          have OX_16 := Lib.hid (OX_15.out.below hb)
          clear OX_15
          have OQ_16 := Lib.hid (OQ_15.out.below hb)
          clear OQ_15
          have RQ_16 := Lib.hid (RQ_15.out.below hb (by first | omega | (simp only [World.size_alloc]; omega) | (simp only [size_drew_]; omega) | (simp only [World.size_alloc, size_drew_]; omega)))
          clear RQ_15
          have BB_16 := Lib.hid (BB_15.out.trans (hb.mono (by first | omega | (simp only [World.size_alloc]; omega) | (simp only [size_drew_]; omega) | (simp only [World.size_alloc, size_drew_]; omega))))
          clear BB_15
          have OH_16 := Lib.hid hbk
          have RH_16 := Lib.hid hrow
          have s16 := hb.size
          have t16 := hbk.lt
          clear hb hbk hrow
          have qOH_16 := OH_16.out.cell
          have qOP_16 := OP_16.out.cell
          go_wp2_with fail
          refine (eqShard_any _ _ _ _ _ _ mk LT OV L _ _ _ RH_16.out.as RP_16.out.as rfl rfl (Nat.le_refl _) (Nat.le_refl _)).mono ?_
          rintro e w17 ⟨rfl, hb⟩
          clear qOH_16 qOP_16
          have A_17 := Lib.hid (A_16.out.below (hb.mono (by first | omega | (simp only [World.size_alloc]; omega) | (simp only [size_drew_]; omega) | (simp only [World.size_alloc, size_drew_]; omega))))
          clear A_16
          have R_17 := Lib.hid (R_16.out.below hb)
          clear R_16
          have F_17 := Lib.hid (F_16.out.below hb)
          clear F_16
          have OP_17 := Lib.hid (OP_16.out.below hb)
          clear OP_16
          have RP_17 := Lib.hid (RP_16.out.below hb (by first | omega | (simp only [World.size_alloc]; omega) | (simp only [size_drew_]; omega) | (simp only [World.size_alloc, size_drew_]; omega)))
          clear RP_16
          have X_17 := Lib.hid (X_16.out.below hb (by first | omega | (simp only [World.size_alloc]; omega) | (simp only [size_drew_]; omega) | (simp only [World.size_alloc, size_drew_]; omega)))
          clear X_16
          have OX_17 := Lib.hid (OX_16.out.below hb)
          clear OX_16
          have OQ_17 := Lib.hid (OQ_16.out.below hb)
          clear OQ_16
          have RQ_17 := Lib.hid (RQ_16.out.below hb (by first | omega | (simp only [World.size_alloc]; omega) | (simp only [size_drew_]; omega) | (simp only [World.size_alloc, size_drew_]; omega)))
          clear RQ_16
          have OH_17 := Lib.hid (OH_16.out.below hb)
          clear OH_16
          have RH_17 := Lib.hid (RH_16.out.below hb (by first | omega | (simp only [World.size_alloc]; omega) | (simp only [size_drew_]; omega) | (simp only [World.size_alloc, size_drew_]; omega)))
          clear RH_16
          have BB_17 := Lib.hid (BB_16.out.trans (hb.mono (by first | omega | (simp only [World.size_alloc]; omega) | (simp only [size_drew_]; omega) | (simp only [World.size_alloc, size_drew_]; omega))))
          clear BB_16
          have s17 := hb.size
          clear hb
          have qOQ_17 := OQ_17.out.cell
          go_wp2_with fail
          refine (heldShard_m _ _ _ 1 mk LT OV _ _ _ RQ_17.out.as (Nat.le_refl _) rfl (by omega) (by omega)).mono ?_
          rintro e w18 ⟨rfl, hb⟩
          clear qOQ_17
          have A_18 := Lib.hid (A_17.out.below (hb.mono (by first | omega | (simp only [World.size_alloc]; omega) | (simp only [size_drew_]; omega) | (simp only [World.size_alloc, size_drew_]; omega))))
          clear A_17
          have R_18 := Lib.hid (R_17.out.below hb)
          clear R_17
          have F_18 := Lib.hid (F_17.out.below hb)
          clear F_17
          have OP_18 := Lib.hid (OP_17.out.below hb)
          clear OP_17
          have RP_18 := Lib.hid (RP_17.out.below hb (by first | omega | (simp only [World.size_alloc]; omega) | (simp only [size_drew_]; omega) | (simp only [World.size_alloc, size_drew_]; omega)))
          clear RP_17
          have X_18 := Lib.hid (X_17.out.below hb (by first | omega | (simp only [World.size_alloc]; omega) | (simp only [size_drew_]; omega) | (simp only [World.size_alloc, size_drew_]; omega)))
          clear X_17
          have OX_18 := Lib.hid (OX_17.out.below hb)
          clear OX_17
          have OQ_18 := Lib.hid (OQ_17.out.below hb)
          clear OQ_17
          have RQ_18 := Lib.hid (RQ_17.out.below hb (by first | omega | (simp only [World.size_alloc]; omega) | (simp only [size_drew_]; omega) | (simp only [World.size_alloc, size_drew_]; omega)))
          clear RQ_17
          have OH_18 := Lib.hid (OH_17.out.below hb)
          clear OH_17
          have RH_18 := Lib.hid (RH_17.out.below hb (by first | omega | (simp only [World.size_alloc]; omega) | (simp only [size_drew_]; omega) | (simp only [World.size_alloc, size_drew_]; omega)))
          clear RH_17
          have BB_18 := Lib.hid (BB_17.out.trans (hb.mono (by first | omega | (simp only [World.size_alloc]; omega) | (simp only [size_drew_]; omega) | (simp only [World.size_alloc, size_drew_]; omega))))
          clear BB_17
          have s18 := hb.size
          clear hb
          go_wp2
          go_ret
          exact ⟨rfl, BB_18.out⟩

set_option maxRecDepth 100000 in
theorem lifted (os : Os) (started : os.Started) (H : Type) (enc : TypeId × Value → H) :
    ReturnsInHanded {} Try.checked os 3 .any (Rows.fnExactAddEventSpec.pre6 enc Try.prog Try.f3 Rows.fnExactAddEventRow.domain false) (Rows.fnExactAddEventSpec.post enc Try.prog Try.f3 false true false false) := by
  refine returnsInHanded_of_change (C := Try.checked) own started (by kernel_rfl) Try.func3
    (ChangeSpec.witness6 (enc := enc) (C := Try.checked) false ⟨#[], #[.agg #[.slice none 0 0, .int .i64 0, .int .i64 0, .int .i64 0], .int .i64 0, .int .i64 0, (.agg #[.int .i64 0, .int .i64 0, .int .i64 0, .int .i64 0])], []⟩ 8 (by kernel_rfl) (by kernel_rfl) (by kernel_rfl) (by kernel_rfl)) ?_
  intro W base args ds gs before hval0 hW hcnd _
  have hval : ∀ (j : Nat) t v, Try.f3.params[j]? = some t → args[j]? = some v → Value.okWide Try.prog W .any base t v := hval0
  have hW' := hW
  obtain ⟨p, q, hA0, hV, rfl, hfz, hnd⟩ := hW
  have hA : DataW.TrodAll enc Try.prog W 0 (fun _ => true) true Try.f3.params.toList args.toList ds p := hA0
  rw [Try.params3] at hA hval
  obtain ⟨v0, vs0, d0, ds0, p0, q0, hargs, rfl, rfl, h0, r0⟩ := trodAll_cons hA
  obtain ⟨v1, vs1, d1, ds1, p1, q1, rfl, rfl, rfl, h1, r1⟩ := trodAll_cons r0
  obtain ⟨v2, vs2, d2, ds2, p2, q2, rfl, rfl, rfl, h2, r2⟩ := trodAll_cons r1
  obtain ⟨v3, vs3, d3, ds3, p3, q3, rfl, rfl, rfl, h3, r3⟩ := trodAll_cons r2
  obtain ⟨rfl, rfl, rfl⟩ := trodAll_nil r3
  obtain rfl : args = #[v0, v1, v2, v3] := by cases args; simp_all
  obtain ⟨rfl, rfl⟩ := trodVars_none hV
  have lt0 : ∀ x ∈ p0, x.block < W.heap.size := by obtain ⟨m, hm⟩ := h0; exact DataW.trod_lt m _ _ _ hm
  obtain ⟨a0, n0, c0, mk0, lt0_, ov0, rfl, hm0, hl0, ho0, l0, hn0, hs0⟩ := arg_shard (hval 0 24 v0 rfl rfl) h0
  have lt1 : ∀ x ∈ p1, x.block < W.heap.size := by obtain ⟨m, hm⟩ := h1; exact DataW.trod_lt m _ _ _ hm
  obtain ⟨x1, rfl, hx1⟩ := arg_int (hval 1 3 v1 rfl rfl) h1
  have lt2 : ∀ x ∈ p2, x.block < W.heap.size := by obtain ⟨m, hm⟩ := h2; exact DataW.trod_lt m _ _ _ hm
  obtain ⟨x2, rfl, hx2⟩ := arg_int (hval 2 3 v2 rfl rfl) h2
  have lt3 : ∀ x ∈ p3, x.block < W.heap.size := by obtain ⟨m, hm⟩ := h3; exact DataW.trod_lt m _ _ _ hm
  obtain ⟨k3, y3, t3, u3, rfl⟩ := arg_frame (hval 3 26 v3 rfl rfl) h3
  clear hA0 hval0
  refine (walk W a0 n0 c0 mk0 lt0_ ov0 hm0 hl0 ho0 l0 hn0 hs0 x1 hx1 x2 hx2 k3 y3 t3 u3).mono fun e W' ⟨he, bel⟩ => ?_
  subst he
  exact ⟨_, rfl, _, _, _, [], _, [], hW', trodAll_mk1 (shut_bool Try.underlying4 _), (trodAll_cons_mk (Below.trod laidOut (by kernel_rfl) (of_decide_eq_true (by kernel_rfl)) h0 bel lt0) (trodAll_cons_mk (Below.trod laidOut (by kernel_rfl) (of_decide_eq_true (by kernel_rfl)) h1 bel lt1) (trodAll_cons_mk (Below.trod laidOut (by kernel_rfl) (of_decide_eq_true (by kernel_rfl)) h2 bel lt2) (trodAll_cons_mk (Below.trod laidOut (by kernel_rfl) (of_decide_eq_true (by kernel_rfl)) h3 bel lt3) trodAll_mk0)))), rfl, bel.frame _, fun h => by cases h⟩

theorem over : Rows.fnExactAddEventRow.holds Try.pinned (OpenSpec.ofChange Rows.fnExactAddEventSpec) :=
  OpenClaim.holds_of_wide 3 Try.f3 rfl rfl rfl rfl rfl rfl rfl ⟨rfl, rfl, rfl, rfl, rfl⟩ rfl rfl rfl rfl rfl (by kernel_rfl) Try.func3 (by kernel_rfl)
    (of_decide_eq_true (by kernel_rfl)) (by unfold Func.isWrapper; first | (rw [if_pos (by decide +kernel)]; kernel_rfl) | (rw [if_neg (by decide +kernel)]; exact ⟨rfl, rfl⟩))
    (fun os started H enc _ => lifted os started H enc)

theorem proved : Rows.FnExactAddEventSaid := over
#print axioms proved
end Go.Proofs.Ytnnpppdgkbmieaa.fnExactAddEvent
