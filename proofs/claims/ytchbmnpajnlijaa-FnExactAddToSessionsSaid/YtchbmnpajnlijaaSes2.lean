/- Chapter 11, spec's side: l11Join, l11Add. (made by tools/mksess2.py) -/
import Derived.Test.YtchbmnpajnlijaaPlainSes2
import Derived.Test.YtchbmnpajnlijaaSessionA
import Derived.Deep.RegionWith
import Derived.Deep.QuietTactic
import Derived.BigQuiet
import Derived.StillTailTactics
import Derived.Deep.CutRange
import Derived.OwnWalk
import Derived.IntWalk
namespace Go.Proofs.Ytchbmnpajnlijaa
open Go.RowKit

set_option maxHeartbeats 8000000 in
set_option maxRecDepth 100000 in
theorem specJoin_x (a0 a1 a2 a3 a4 b0 b1 b2 b3 b4 : Int) (w : World) (hA : sesOk ⟨a0, a1, a2, a3, a4⟩ = true) (hB : sesOk ⟨b0, b1, b2, b3, b4⟩ = true) : Calls Try.prog 120 #[(.agg #[.int .i64 a0, .int .i64 a1, .int .i64 a2, .int .i64 a3, .int .i64 a4]), (.agg #[.int .i64 b0, .int .i64 b1, .int .i64 b2, .int .i64 b3, .int .i64 b4])] w fun e w' => (∃ c0 c1 c2 c3 c4 : Int, e = .returned (.agg #[.int .i64 c0, .int .i64 c1, .int .i64 c2, .int .i64 c3, .int .i64 c4]) ∧ joinZ ⟨a0, a1, a2, a3, a4⟩ ⟨b0, b1, b2, b3, b4⟩ = ⟨c0, c1, c2, c3, c4⟩) ∧ Below w.heap.size w w' := by
  have ha := sesOk_bd hA
  have hb := sesOk_bd hB
  simp only at ha hb
  have BB0 := Lib.hid fun v0 v1 v2 v3 v4 z0 z1 z2 z3 z4 : Value => (((((Below.refl w.heap.size w).alloc (Nat.le_refl _) (.cells #[.int .i64 a0, .int .i64 a1, .int .i64 a2, .int .i64 a3, .int .i64 a4] 33)).alloc (by simp) (.cells #[.int .i64 b0, .int .i64 b1, .int .i64 b2, .int .i64 b3, .int .i64 b4] 33)).alloc (by simp; omega) (.cells #[z0, z1, z2, z3, z4] 33)).alloc (by simp; omega) (.cells #[v0, v1, v2, v3, v4] 33))
  clear hA hB
  by_cases h1 : b1 < a1
  · by_cases h2 : a2 < b2
    · have HJ : Hid (joinZ ⟨a0, a1, a2, a3, a4⟩ ⟨b0, b1, b2, b3, b4⟩ = ⟨a0, b1, b2, capS (a3 + b3), capS (a4 + b4)⟩) := Lib.hid (by unfold joinZ; simp only [h1, h2, if_true])
      go_enter Try.func120, Try.ntmps120
      go_wp2_with (go_at_call 132; refine (specCap_any _ _).mono ?_; rintro e w' ⟨rfl, rfl⟩)
      exact bodyPost_ret (v := (.agg #[.int .i64 a0, .int .i64 b1, .int .i64 b2, .int .i64 (capS (a3 + b3)), .int .i64 (capS (a4 + b4))])) (by simp [results, Try.results120, go_sem]) rfl ⟨⟨_, _, _, _, _, rfl, HJ.out⟩, BB0.out _ _ _ _ _ _ _ _ _ _⟩
    · have HJ : Hid (joinZ ⟨a0, a1, a2, a3, a4⟩ ⟨b0, b1, b2, b3, b4⟩ = ⟨a0, b1, a2, capS (a3 + b3), capS (a4 + b4)⟩) := Lib.hid (by unfold joinZ; simp only [h1, h2, if_true, if_false])
      go_enter Try.func120, Try.ntmps120
      go_wp2_with (go_at_call 132; refine (specCap_any _ _).mono ?_; rintro e w' ⟨rfl, rfl⟩)
      exact bodyPost_ret (v := (.agg #[.int .i64 a0, .int .i64 b1, .int .i64 a2, .int .i64 (capS (a3 + b3)), .int .i64 (capS (a4 + b4))])) (by simp [results, Try.results120, go_sem]) rfl ⟨⟨_, _, _, _, _, rfl, HJ.out⟩, BB0.out _ _ _ _ _ _ _ _ _ _⟩
  · by_cases h2 : a2 < b2
    · have HJ : Hid (joinZ ⟨a0, a1, a2, a3, a4⟩ ⟨b0, b1, b2, b3, b4⟩ = ⟨a0, a1, b2, capS (a3 + b3), capS (a4 + b4)⟩) := Lib.hid (by unfold joinZ; simp only [h1, h2, if_true, if_false])
      go_enter Try.func120, Try.ntmps120
      go_wp2_with (go_at_call 132; refine (specCap_any _ _).mono ?_; rintro e w' ⟨rfl, rfl⟩)
      exact bodyPost_ret (v := (.agg #[.int .i64 a0, .int .i64 a1, .int .i64 b2, .int .i64 (capS (a3 + b3)), .int .i64 (capS (a4 + b4))])) (by simp [results, Try.results120, go_sem]) rfl ⟨⟨_, _, _, _, _, rfl, HJ.out⟩, BB0.out _ _ _ _ _ _ _ _ _ _⟩
    · have HJ : Hid (joinZ ⟨a0, a1, a2, a3, a4⟩ ⟨b0, b1, b2, b3, b4⟩ = ⟨a0, a1, a2, capS (a3 + b3), capS (a4 + b4)⟩) := Lib.hid (by unfold joinZ; simp only [h1, h2, if_false])
      go_enter Try.func120, Try.ntmps120
      go_wp2_with (go_at_call 132; refine (specCap_any _ _).mono ?_; rintro e w' ⟨rfl, rfl⟩)
      exact bodyPost_ret (v := (.agg #[.int .i64 a0, .int .i64 a1, .int .i64 a2, .int .i64 (capS (a3 + b3)), .int .i64 (capS (a4 + b4))])) (by simp [results, Try.results120, go_sem]) rfl ⟨⟨_, _, _, _, _, rfl, HJ.out⟩, BB0.out _ _ _ _ _ _ _ _ _ _⟩
theorem blk_set5 {W : World} {g : Nat} {x0 x1 x2 x3 x4 c0 c1 c2 c3 c4 : Value} (h : Blk W g 33 #[x0, x1, x2, x3, x4]) : Blk (((((W.setCell ⟨g, 0, none⟩ c0).setCell ⟨g, 1, none⟩ c1).setCell ⟨g, 2, none⟩ c2).setCell ⟨g, 3, none⟩ c3).setCell ⟨g, 4, none⟩ c4) g 33 #[c0, c1, c2, c3, c4] := by
  have := ((((h.put_ 0 c0).put_ 1 c1).put_ 2 c2).put_ 3 c3).put_ 4 c4
  simpa using this
theorem grown_set5 (W : World) (g : Nat) (c0 c1 c2 c3 c4 : Value) : W.grownBy (((((W.setCell ⟨g, 0, none⟩ c0).setCell ⟨g, 1, none⟩ c1).setCell ⟨g, 2, none⟩ c2).setCell ⟨g, 3, none⟩ c3).setCell ⟨g, 4, none⟩ c4) (some g) :=
  grown_trans (grown_trans (grown_trans (grown_trans (grown_setCell _ _ _ _) (grown_setCell _ _ _ _)) (grown_setCell _ _ _ _)) (grown_setCell _ _ _ _)) (grown_setCell _ _ _ _)
set_option maxHeartbeats 8000000 in
set_option maxRecDepth 100000 in
theorem specAddZ_any (a : Option Addr) (n c : Nat) (l : List Ss) (k0 y0 t0 v0 gap : Int) (hi : Nat) (w : World) (hr : Sss w hi a c l) (hn : n = l.length) (hB : hi ≤ w.heap.size) (hlen : l.length ≤ 1048576)
    (hok : ∀ i, i < l.length → sesOk (zel l i) = true) (hev : sesOk (evZ y0 t0 v0) = true) (hg : 0 ≤ gap ∧ gap ≤ 1000000) :
    Calls Try.prog 90 #[.slice a n c, (.agg #[.int .i64 k0, .int .i64 y0, .int .i64 t0, .int .i64 v0]), .int .i64 gap] w (FreshR zC 33 5 (addZ y0 t0 v0 gap l) w) := by
  subst hn
  have m1 := hr.cap
  have m2 := hr.big
  have bt : 0 ≤ t0 ∧ t0 ≤ 1000000 := (sesOk_bd hev).2.1
  have b0 := (((Below.refl w.heap.size w).alloc (Nat.le_refl _) (.cells #[.int .i64 k0, .int .i64 y0, .int .i64 t0, .int .i64 v0] 66)).alloc (by simp) (.cells #[.int .i64 y0, .int .i64 t0, .int .i64 t0, .int .i64 1, .int .i64 v0] 33)).alloc (by simp; omega) (.cells #[] 33)
  have KF0 := Lib.hid (((Blk.new w 66 #[.int .i64 k0, .int .i64 y0, .int .i64 t0, .int .i64 v0]).alloc (.cells #[.int .i64 y0, .int .i64 t0, .int .i64 t0, .int .i64 1, .int .i64 v0] 33)).alloc (.cells #[] 33))
  have ko := (Blk.new (w.alloc (.cells #[.int .i64 k0, .int .i64 y0, .int .i64 t0, .int .i64 v0] 66)) 33 #[.int .i64 y0, .int .i64 t0, .int .i64 t0, .int .i64 1, .int .i64 v0]).alloc (.cells #[] 33)
  rw [World.size_alloc] at ko
  have KO0 := Lib.hid ko
  have oz := own0Z ((w.alloc (.cells #[.int .i64 k0, .int .i64 y0, .int .i64 t0, .int .i64 v0] 66)).alloc (.cells #[.int .i64 y0, .int .i64 t0, .int .i64 t0, .int .i64 1, .int .i64 v0] 33)) (w.heap.size + 1 + 1) (by simp)
  simp only [World.size_alloc] at oz
  have O0 := Lib.hid oz
  have B0 := Lib.hid b0
  have HR := Lib.hid hr
  have HOK := Lib.hid hok
  have HEV := Lib.hid hev
  have HADD : Hid (insZ (leftZ y0 t0 gap l l.length) (oneZ y0 t0 v0 gap l l.length) = addZ y0 t0 v0 gap l) := Lib.hid rfl
  clear hr b0 ko oz hok hev
  go_enter Try.func90, Try.ntmps90
  go_wp2
  go_loopw [8, 9] (fun ls i wr => ∃ (k m : Nat) (a2 : Option Addr) (c2 : Nat), k ≤ l.length ∧ i = .int .i64 (k : Int) ∧ ls = .slice a2 m c2 ∧ m = (leftZ y0 t0 gap l k).length ∧ wr.ownsRow (w.heap.size + 1 + 1) 33 5 (.slice a2 m c2) m (flatZ (leftZ y0 t0 gap l k)) ∧ Blk wr w.heap.size 66 #[.int .i64 k0, .int .i64 y0, .int .i64 t0, .int .i64 v0] ∧ Blk wr (w.heap.size + 1) 33 #[.int .i64 (oneZ y0 t0 v0 gap l k).ky, .int .i64 (oneZ y0 t0 v0 gap l k).fr, .int .i64 (oneZ y0 t0 v0 gap l k).tt, .int .i64 (oneZ y0 t0 v0 gap l k).ct, .int .i64 (oneZ y0 t0 v0 gap l k).sm] ∧ Below w.heap.size w wr) (fun _ i _ => l.length - (intOf i).toNat)
  case atStart => exact ⟨0, 0, some ⟨w.heap.size + 1 + 1, 0, none⟩, 0, Nat.zero_le _, rfl, rfl, rfl, O0.out, KF0.out, KO0.out, B0.out⟩
  case round =>
    obtain ⟨k, m, a2, c2, hk, rfl, rfl, hm, hown, hkf, hko, hb⟩ := hrel
    have HM := Lib.hid hm
    have HO := Lib.hid hown
    have KF := Lib.hid hkf
    have HB := Lib.hid hb
    have HLE := Lib.hid (left_le (ky := y0) (t := t0) (gap := gap) hk)
    have hky := one_ky (ky := y0) (t := t0) (v := v0) (gap := gap) k hk
    have h1ok := one_ok (gap := gap) HOK.out HEV.out k hk
    clear hm hown hb
    by_cases hlt : k < l.length
    · obtain ⟨b1, off, rfl, hbh, hcell⟩ := Sss.six (HR.out.below (HB.out.mono hB)) (by omega)
      have hlt' : (k : Int) < (l.length : Int) := by omega
      have hnn : 0 ≤ (k : Int) := by omega
      obtain ⟨p0, p1, p2, p3, p4⟩ := hcell k hlt
      have hsk := HOK.out k hlt
      have bk := sesOk_bd hsk
      have XN := Lib.hid (fun h => one_near (ky := y0) (t := t0) (v := v0) (gap := gap) hlt h)
      have XF := Lib.hid (fun h => one_far (ky := y0) (t := t0) (v := v0) (gap := gap) hlt h)
      have LN := Lib.hid (fun h => left_near (ky := y0) (t := t0) (gap := gap) hlt h)
      have LF := Lib.hid (fun h => left_far (ky := y0) (t := t0) (gap := gap) hlt h)
      generalize oneZ y0 t0 v0 gap l k = O at hko hky h1ok XN XF
      obtain ⟨o0, o1, o2, o3, o4⟩ := O
      simp only at hky hko
      obtain rfl : y0 = o0 := hky.symm
      have q0 := hko.cell 0
      have q1 := hko.cell 1
      have q2 := hko.cell 2
      have q3 := hko.cell 3
      have q4 := hko.cell 4
      have f2 := hkf.cell 2
      simp only [List.getElem?_toArray, List.getElem?_cons_zero, List.getElem?_cons_succ] at q0 q1 q2 q3 q4 f2
      have KO := Lib.hid hko
      clear hcell hko hkf
      generalize hz : zel l k = S at *
      obtain ⟨u0, u1, u2, u3, u4⟩ := S
      simp only at p0 p1 p2 p3 p4 bk
      clear hz
      have wl : IntKind.i64.wrap (u1 - gap) = u1 - gap := IntWalk.i64_in _ (by omega)
      have wh : IntKind.i64.wrap (u2 + gap) = u2 + gap := IntWalk.i64_in _ (by omega)
      have hlo := KO.out.lt
      have hlf : w.heap.size < wr.heap.size := by omega
      have hsz := HB.out.size
      by_cases he : u0 = y0
      · subst he
        by_cases hl1 : u1 - gap ≤ t0
        · by_cases hl2 : t0 ≤ u2 + gap
          · have hN : nearZ u0 t0 gap ⟨u0, u1, u2, u3, u4⟩ = true := decide_eq_true ⟨rfl, hl1, hl2⟩
            have HX := Lib.hid (XN.out hN)
            have HL := Lib.hid (LN.out hN)
            have JC := Lib.hid (fun W => specJoin_x u0 u1 u2 u3 u4 u0 o1 o2 o3 o4 W hsk h1ok)
            clear XN XF LN LF hN h1ok hsk bk
            go_wp2_with fail
            refine (JC.out _).mono ?_
            rintro e w3 ⟨⟨j0, j1, j2, j3, j4, rfl, hj⟩, hb3⟩
            have HJ := Lib.hid hj
            have k3 := (KO.out.alloc (.cells #[.int .i64 u0, .int .i64 u1, .int .i64 u2, .int .i64 u3, .int .i64 u4] 33)).below hb3
            have K3 := Lib.hid k3
            have F3 := Lib.hid ((KF.out.alloc (.cells #[.int .i64 u0, .int .i64 u1, .int .i64 u2, .int .i64 u3, .int .i64 u4] 33)).below hb3)
            have O3 := Lib.hid (owns_below (HO.out.alloc (.cells #[.int .i64 u0, .int .i64 u1, .int .i64 u2, .int .i64 u3, .int .i64 u4] 33)) hb3)
            have B3 := Lib.hid ((HB.out.alloc HB.out.size (.cells #[.int .i64 u0, .int .i64 u1, .int .i64 u2, .int .i64 u3, .int .i64 u4] 33)).trans (hb3.mono (by simp; omega)))
            have r0 := k3.cell 0
            have r1 := k3.cell 1
            have r2 := k3.cell 2
            have r3 := k3.cell 3
            have r4 := k3.cell 4
            simp only [List.getElem?_toArray, List.getElem?_cons_zero, List.getElem?_cons_succ] at r0 r1 r2 r3 r4
            have rf := k3.frozen
            clear hb3 k3 hj q0 q1 q2 q3 q4 f2 p0 p1 p2 p3 p4
            go_wp2
            go_roundw
            case rel =>
              have G5 := grown_set5 w3 (w.heap.size + 1) (.int .i64 j0) (.int .i64 j1) (.int .i64 j2) (.int .i64 j3) (.int .i64 j4)
              refine ⟨k + 1, m, a2, c2, by omega, by go_num, rfl, by rw [HL.out]; exact HM.out, ?_, ?_, ?_, ?_⟩
              · rw [HL.out]
                exact O3.out.kept G5 (by
                  by_cases hz : (Value.slice a2 m c2).ownBlock = none
                  · exact .inl hz
                  · refine .inr fun e9 => ?_
                    have := (O3.out.lt _ e9).1
                    omega)
              · exact F3.out.grown G5 (by intro e9; injection e9 with e9; omega)
              · rw [HX.out, HJ.out]
                exact blk_set5 K3.out
              · exact B3.out.trans (below_grown_own G5 (by omega) B3.out.size)
            case measure => simp [intOf]; omega
          · have hN : nearZ u0 t0 gap ⟨u0, u1, u2, u3, u4⟩ = false := decide_eq_false (fun h => hl2 h.2.2)
            have HX := Lib.hid (XF.out hN)
            have HL := Lib.hid (LF.out hN)
            clear XN XF LN LF hN h1ok hsk
            obtain ⟨a3, c3, w3, hr3, ho3, hb3, _⟩ := appendZ (w := wr.alloc (.cells #[.int .i64 u0, .int .i64 u1, .int .i64 u2, .int .i64 u3, .int .i64 u4] 33)) ⟨u0, u1, u2, u3, u4⟩ HM.out (HO.out.alloc _) (by simp; omega) (by have := HLE.out; have := HM.out; omega) 39
            simp only [World.size_alloc] at hr3
            have R3 := Lib.hid hr3
            have HO3 := Lib.hid ho3
            have HB3 := Lib.hid hb3
            clear hr3 ho3 hb3 bk
            go_wp2_with (at_builtin; refine Lib.wpList_append_run _ rfl _ _ _ _ rfl _ _ rfl rfl _ _ R3.out ?_)
            go_roundw
            case rel => exact ⟨k + 1, m + 1, a3, c3, by omega, by go_num, rfl, by rw [HL.out, List.length_append, ← HM.out]; rfl, by rw [HL.out]; exact HO3.out, (KF.out.alloc _).belowB HB3.out (by omega), by rw [HX.out]; exact (KO.out.alloc _).belowB HB3.out (by omega), (HB.out.alloc HB.out.size _).trans (HB3.out.mono (by omega))⟩
            case measure => simp [intOf]; omega
        · have hN : nearZ u0 t0 gap ⟨u0, u1, u2, u3, u4⟩ = false := decide_eq_false (fun h => hl1 h.2.1)
          have HX := Lib.hid (XF.out hN)
          have HL := Lib.hid (LF.out hN)
          clear XN XF LN LF hN h1ok hsk
          obtain ⟨a3, c3, w3, hr3, ho3, hb3, _⟩ := appendZ (w := wr.alloc (.cells #[.int .i64 u0, .int .i64 u1, .int .i64 u2, .int .i64 u3, .int .i64 u4] 33)) ⟨u0, u1, u2, u3, u4⟩ HM.out (HO.out.alloc _) (by simp; omega) (by have := HLE.out; have := HM.out; omega) 39
          simp only [World.size_alloc] at hr3
          have R3 := Lib.hid hr3
          have HO3 := Lib.hid ho3
          have HB3 := Lib.hid hb3
          clear hr3 ho3 hb3 bk
          go_wp2_with (at_builtin; refine Lib.wpList_append_run _ rfl _ _ _ _ rfl _ _ rfl rfl _ _ R3.out ?_)
          go_roundw
          case rel => exact ⟨k + 1, m + 1, a3, c3, by omega, by go_num, rfl, by rw [HL.out, List.length_append, ← HM.out]; rfl, by rw [HL.out]; exact HO3.out, (KF.out.alloc _).belowB HB3.out (by omega), by rw [HX.out]; exact (KO.out.alloc _).belowB HB3.out (by omega), (HB.out.alloc HB.out.size _).trans (HB3.out.mono (by omega))⟩
          case measure => simp [intOf]; omega
      · have hN : nearZ y0 t0 gap ⟨u0, u1, u2, u3, u4⟩ = false := decide_eq_false (fun h => he h.1)
        have he2 : (u0 == y0) = false := beq_eq_false_iff_ne.2 he
        have HX := Lib.hid (XF.out hN)
        have HL := Lib.hid (LF.out hN)
        clear XN XF LN LF hN h1ok hsk
        obtain ⟨a3, c3, w3, hr3, ho3, hb3, _⟩ := appendZ (w := wr.alloc (.cells #[.int .i64 u0, .int .i64 u1, .int .i64 u2, .int .i64 u3, .int .i64 u4] 33)) ⟨u0, u1, u2, u3, u4⟩ HM.out (HO.out.alloc _) (by simp; omega) (by have := HLE.out; have := HM.out; omega) 39
        simp only [World.size_alloc] at hr3
        have R3 := Lib.hid hr3
        have HO3 := Lib.hid ho3
        have HB3 := Lib.hid hb3
        clear hr3 ho3 hb3 bk
        go_wp2_with (at_builtin; refine Lib.wpList_append_run _ rfl _ _ _ _ rfl _ _ rfl rfl _ _ R3.out ?_)
        go_roundw
        case rel => exact ⟨k + 1, m + 1, a3, c3, by omega, by go_num, rfl, by rw [HL.out, List.length_append, ← HM.out]; rfl, by rw [HL.out]; exact HO3.out, (KF.out.alloc _).belowB HB3.out (by omega), by rw [HX.out]; exact (KO.out.alloc _).belowB HB3.out (by omega), (HB.out.alloc HB.out.size _).trans (HB3.out.mono (by omega))⟩
        case measure => simp [intOf]; omega
    · obtain rfl : k = l.length := by omega
      generalize leftZ y0 t0 gap l l.length = LL at HM HO HLE HADD
      generalize oneZ y0 t0 v0 gap l l.length = O at hko hky h1ok HADD
      obtain rfl := HM.out
      obtain ⟨o0, o1, o2, o3, o4⟩ := O
      simp only at hko
      have hml : LL.length ≤ l.length := by have := HLE.out; omega
      have hno := hko.lt
      have hsz := HB.out.size
      have RL := Lib.hid (Sss.of_own HO.out)
      have KO := Lib.hid hko
      have O2 := Lib.hid (own0Z wr wr.heap.size (Nat.le_refl _))
      have B2 := Lib.hid ((Below.refl wr.heap.size wr).alloc (Nat.le_refl _) (.cells #[] 33))
      clear hkf KF hko HO HM HOK HEV hky h1ok HLE HR KF0 KO0 O0 B0
      rename World => wq
      go_wp2
      go_loopw [11, 12, 13] (fun os pb i wr => ∃ (k n3 : Nat) (a3 : Option Addr) (c3 : Nat) (b : Bool) (A : List Ss), k ≤ LL.length ∧ i = .int .i64 (k : Int) ∧ pb = .bool b ∧ os = .slice a3 n3 c3 ∧ n3 = A.length ∧ InsAt LL ⟨o0, o1, o2, o3, o4⟩ k b A ∧ wr.ownsRow wq.heap.size 33 5 (.slice a3 n3 c3) n3 (flatZ A) ∧ Below wq.heap.size wq wr) (fun _ _ i _ => LL.length - (intOf i).toNat)
      case atStart => exact ⟨0, 0, some ⟨wq.heap.size, 0, none⟩, 0, false, [], Nat.zero_le _, rfl, rfl, rfl, rfl, InsAt.start, O2.out, B2.out⟩
      case round =>
        obtain ⟨k, n3, a3, c3, b, A, hk, rfl, rfl, rfl, hn3, hP, hown, hb⟩ := hrel
        have HN := Lib.hid hn3
        have HN0 := Lib.hid hn3
        have HP := Lib.hid hP
        have RO := Lib.hid hown
        have WB := Lib.hid hb
        have hnk : n3 ≤ k + 1 := by rw [hn3]; exact hP.len hk
        clear hn3 hP hown hb O2 B2
        by_cases hlt : k < LL.length
        · obtain ⟨b2, off2, rfl, hbh2, hcell⟩ := Sss.six RL.out (by omega)
          have hlt' : (k : Int) < (LL.length : Int) := by omega
          have hnn : 0 ≤ (k : Int) := by omega
          have CK := Lib.hid (hcell k hlt)
          have X1 := Lib.hid (fun (A : List Ss) (h : InsAt LL ⟨o0, o1, o2, o3, o4⟩ k true A) => h.after hlt)
          have X2 := Lib.hid (fun (A : List Ss) (h : InsAt LL ⟨o0, o1, o2, o3, o4⟩ k false A) hs => h.ahead hlt hs)
          have X3 := Lib.hid (fun (A : List Ss) (h : InsAt LL ⟨o0, o1, o2, o3, o4⟩ k false A) hs => h.past hlt hs)
          clear hcell
          generalize zel LL k = X at CK X1 X2 X3
          obtain ⟨u0, u1, u2, u3, u4⟩ := X
          simp only at CK
          have CC : Hid (∀ W : World, Below wq.heap.size wq W → W.cell? ⟨b2, off2 + k * 5, none⟩ = some (.int .i64 u0) ∧ W.cell? ⟨b2, off2 + k * 5 + 1, none⟩ = some (.int .i64 u1) ∧ W.cell? ⟨b2, off2 + k * 5 + 2, none⟩ = some (.int .i64 u2) ∧ W.cell? ⟨b2, off2 + k * 5 + 3, none⟩ = some (.int .i64 u3) ∧ W.cell? ⟨b2, off2 + k * 5 + 4, none⟩ = some (.int .i64 u4)) := Lib.hid (fun W hW => by
            have g1 : ∀ q, W.cell? ⟨b2, q, none⟩ = wq.cell? ⟨b2, q, none⟩ := fun q => hW.cell (p := ⟨b2, q, none⟩) hbh2
            simp only [g1]
            exact CK.out)
          have CO : Hid (∀ W : World, Below wq.heap.size wq W → W.cell? ⟨w.heap.size + 1, 0, none⟩ = some (.int .i64 o0) ∧ W.cell? ⟨w.heap.size + 1, 1, none⟩ = some (.int .i64 o1) ∧ W.cell? ⟨w.heap.size + 1, 2, none⟩ = some (.int .i64 o2) ∧ W.cell? ⟨w.heap.size + 1, 3, none⟩ = some (.int .i64 o3) ∧ W.cell? ⟨w.heap.size + 1, 4, none⟩ = some (.int .i64 o4)) := Lib.hid (fun W hW => by
            have kk := KO.out.below hW
            exact ⟨kk.cell 0, kk.cell 1, kk.cell 2, kk.cell 3, kk.cell 4⟩)
          clear CK
          have hnw0 := WB.out.size
          obtain ⟨p0, p1, p2, p3, p4⟩ := CC.out wr WB.out
          obtain ⟨q0, q1, q2, q3, q4⟩ := CO.out wr WB.out
          cases b with
          | true =>
            have HP1 := Lib.hid (X1.out _ HP.out)
            clear X1 X2 X3 HP
            go_wp2_with fail
            go_quiet (fail)
            clear p0 p1 p2 p3 p4 q0 q1 q2 q3 q4
            have RO := Lib.hid (owns_drewN RO.out nq)
            have WB := Lib.hid (below_drewN WB.out nq)
            generalize wr.drewN nq = w7 at RO WB ⊢
            have hnw := WB.out.size
            obtain ⟨p0, p1, p2, p3, p4⟩ := CC.out w7 WB.out
            obtain ⟨q0, q1, q2, q3, q4⟩ := CO.out w7 WB.out
            obtain ⟨a4, c4, w8, hr3, ho3, hb3, _⟩ := appendZ (w := w7) ⟨u0, u1, u2, u3, u4⟩ HN.out RO.out WB.out.size (by omega) 39
            simp only at hr3
            have R3 := Lib.hid hr3
            clear hr3
            go_wp2_with (at_builtin; refine Lib.wpList_append_run _ rfl _ _ _ _ rfl _ _ rfl rfl _ _ R3.out ?_)
            have RO := Lib.hid ho3
            have WB := Lib.hid (WB.out.trans hb3)
            clear ho3 hb3 R3 p0 p1 p2 p3 p4 q0 q1 q2 q3 q4
            go_wp2
            go_roundw
            case rel => exact ⟨k + 1, n3 + 1, a4, c4, true, A ++ [⟨u0, u1, u2, u3, u4⟩], by omega, by go_num, rfl, rfl, by simp [HN0.out], HP1.out, RO.out, WB.out⟩
            case measure => simp [intOf]; omega
          | false =>
            by_cases h1 : o0 < u0
            · have HP1 := Lib.hid (X2.out _ HP.out (decide_eq_true (.inl h1)))
              clear X1 X2 X3 HP
              go_wp2_with fail
              go_quiet (fail)
              clear p0 p1 p2 p3 p4 q0 q1 q2 q3 q4
              have RO := Lib.hid (owns_drewN RO.out nq)
              have WB := Lib.hid (below_drewN WB.out nq)
              generalize wr.drewN nq = w7 at RO WB ⊢
              have hnw := WB.out.size
              obtain ⟨p0, p1, p2, p3, p4⟩ := CC.out w7 WB.out
              obtain ⟨q0, q1, q2, q3, q4⟩ := CO.out w7 WB.out
              obtain ⟨a4, c4, w8, hr3, ho3, hb3, _⟩ := appendZ (w := w7) ⟨o0, o1, o2, o3, o4⟩ HN.out RO.out WB.out.size (by omega) 39
              simp only at hr3
              have R3 := Lib.hid hr3
              clear hr3
              go_upto_region 17 with (at_builtin; refine Lib.wpList_append_run _ rfl _ _ _ _ rfl _ _ rfl rfl _ _ R3.out ?_)
              have RO := Lib.hid ho3
              have WB := Lib.hid (WB.out.trans hb3)
              clear ho3 hb3 R3 p0 p1 p2 p3 p4 q0 q1 q2 q3 q4
              have HN : Hid (n3 + 1 = (A ++ [(⟨o0, o1, o2, o3, o4⟩ : Ss)]).length) := Lib.hid (by simp [HN0.out])
              obtain ⟨p0, p1, p2, p3, p4⟩ := CC.out w8 WB.out
              obtain ⟨q0, q1, q2, q3, q4⟩ := CO.out w8 WB.out
              obtain ⟨a5, c5, w9, hr3, ho3, hb3, _⟩ := appendZ (w := w8) ⟨u0, u1, u2, u3, u4⟩ HN.out RO.out WB.out.size (by omega) 39
              simp only at hr3
              have R3 := Lib.hid hr3
              clear hr3
              go_wp2_with (at_builtin; refine Lib.wpList_append_run _ rfl _ _ _ _ rfl _ _ rfl rfl _ _ R3.out ?_)
              have RO := Lib.hid ho3
              have WB := Lib.hid (WB.out.trans hb3)
              clear ho3 hb3 R3 p0 p1 p2 p3 p4 q0 q1 q2 q3 q4
              go_wp2
              go_roundw
              case rel => exact ⟨k + 1, n3 + 1 + 1, a5, c5, true, A ++ [⟨o0, o1, o2, o3, o4⟩] ++ [⟨u0, u1, u2, u3, u4⟩], by omega, by go_num, rfl, rfl, by simp [HN0.out], HP1.out, RO.out, WB.out⟩
              case measure => simp [intOf]; omega
            · by_cases h2 : o0 = u0
              · have h2b : (o0 == u0) = true := by simp [h2]
                by_cases h3 : o1 < u1
                · have HP1 := Lib.hid (X2.out _ HP.out (decide_eq_true (.inr ⟨h2, h3⟩)))
                  clear X1 X2 X3 HP h2
                  go_wp2_with fail
                  go_quiet (fail)
                  clear p0 p1 p2 p3 p4 q0 q1 q2 q3 q4
                  have RO := Lib.hid (owns_drewN RO.out nq)
                  have WB := Lib.hid (below_drewN WB.out nq)
                  generalize wr.drewN nq = w7 at RO WB ⊢
                  have hnw := WB.out.size
                  obtain ⟨p0, p1, p2, p3, p4⟩ := CC.out w7 WB.out
                  obtain ⟨q0, q1, q2, q3, q4⟩ := CO.out w7 WB.out
                  obtain ⟨a4, c4, w8, hr3, ho3, hb3, _⟩ := appendZ (w := w7) ⟨o0, o1, o2, o3, o4⟩ HN.out RO.out WB.out.size (by omega) 39
                  simp only at hr3
                  have R3 := Lib.hid hr3
                  clear hr3
                  go_upto_region 17 with (at_builtin; refine Lib.wpList_append_run _ rfl _ _ _ _ rfl _ _ rfl rfl _ _ R3.out ?_)
                  have RO := Lib.hid ho3
                  have WB := Lib.hid (WB.out.trans hb3)
                  clear ho3 hb3 R3 p0 p1 p2 p3 p4 q0 q1 q2 q3 q4
                  have HN : Hid (n3 + 1 = (A ++ [(⟨o0, o1, o2, o3, o4⟩ : Ss)]).length) := Lib.hid (by simp [HN0.out])
                  obtain ⟨p0, p1, p2, p3, p4⟩ := CC.out w8 WB.out
                  obtain ⟨q0, q1, q2, q3, q4⟩ := CO.out w8 WB.out
                  obtain ⟨a5, c5, w9, hr3, ho3, hb3, _⟩ := appendZ (w := w8) ⟨u0, u1, u2, u3, u4⟩ HN.out RO.out WB.out.size (by omega) 39
                  simp only at hr3
                  have R3 := Lib.hid hr3
                  clear hr3
                  go_wp2_with (at_builtin; refine Lib.wpList_append_run _ rfl _ _ _ _ rfl _ _ rfl rfl _ _ R3.out ?_)
                  have RO := Lib.hid ho3
                  have WB := Lib.hid (WB.out.trans hb3)
                  clear ho3 hb3 R3 p0 p1 p2 p3 p4 q0 q1 q2 q3 q4
                  go_wp2
                  go_roundw
                  case rel => exact ⟨k + 1, n3 + 1 + 1, a5, c5, true, A ++ [⟨o0, o1, o2, o3, o4⟩] ++ [⟨u0, u1, u2, u3, u4⟩], by omega, by go_num, rfl, rfl, by simp [HN0.out], HP1.out, RO.out, WB.out⟩
                  case measure => simp [intOf]; omega
                · have HP1 := Lib.hid (X3.out _ HP.out (decide_eq_false (fun h => h.elim h1 (fun h => h3 h.2))))
                  clear X1 X2 X3 HP h2
                  go_wp2_with fail
                  go_quiet (fail)
                  clear p0 p1 p2 p3 p4 q0 q1 q2 q3 q4
                  have RO := Lib.hid (owns_drewN RO.out nq)
                  have WB := Lib.hid (below_drewN WB.out nq)
                  generalize wr.drewN nq = w7 at RO WB ⊢
                  have hnw := WB.out.size
                  obtain ⟨p0, p1, p2, p3, p4⟩ := CC.out w7 WB.out
                  obtain ⟨q0, q1, q2, q3, q4⟩ := CO.out w7 WB.out
                  obtain ⟨a4, c4, w8, hr3, ho3, hb3, _⟩ := appendZ (w := w7) ⟨u0, u1, u2, u3, u4⟩ HN.out RO.out WB.out.size (by omega) 39
                  simp only at hr3
                  have R3 := Lib.hid hr3
                  clear hr3
                  go_wp2_with (at_builtin; refine Lib.wpList_append_run _ rfl _ _ _ _ rfl _ _ rfl rfl _ _ R3.out ?_)
                  have RO := Lib.hid ho3
                  have WB := Lib.hid (WB.out.trans hb3)
                  clear ho3 hb3 R3 p0 p1 p2 p3 p4 q0 q1 q2 q3 q4
                  go_wp2
                  go_roundw
                  case rel => exact ⟨k + 1, n3 + 1, a4, c4, false, A ++ [⟨u0, u1, u2, u3, u4⟩], by omega, by go_num, rfl, rfl, by simp [HN0.out], HP1.out, RO.out, WB.out⟩
                  case measure => simp [intOf]; omega
              · have H2B : Hid ((o0 == u0) = false) := Lib.hid (beq_eq_false_iff_ne.2 h2)
                have H2N := Lib.hid h2
                have HP1 := Lib.hid (X3.out _ HP.out (decide_eq_false (fun h => h.elim h1 (fun h => h2 h.1))))
                clear X1 X2 X3 HP h2
                go_wp2_with fail
                refine wp_region_still_lit (by kernel_rfl) (by kernel_rfl) ?_
                iterate 21 still_step
                iterate 7
                  refine wpStill_step (fun K hK => ?_)
                  go_simp
                  rw [if_neg H2N.out]
                  refine hK _ ?_
                  clear hK K
                have h2b := H2B.out
                repeat still_step
                refine wpStill_nil ?_
                change Exit.then _ _ _ _ (World.drew _)
                clear p0 p1 p2 p3 p4 q0 q1 q2 q3 q4
                have RO := Lib.hid (owns_drewN RO.out 1)
                have WB := Lib.hid (WB.out.drew)
                change Hid ((wr.drew).ownsRow _ _ _ _ _ _) at RO
                generalize wr.drew = w7 at RO WB ⊢
                have hnw := WB.out.size
                obtain ⟨p0, p1, p2, p3, p4⟩ := CC.out w7 WB.out
                obtain ⟨q0, q1, q2, q3, q4⟩ := CO.out w7 WB.out
                obtain ⟨a4, c4, w8, hr3, ho3, hb3, _⟩ := appendZ (w := w7) ⟨u0, u1, u2, u3, u4⟩ HN.out RO.out WB.out.size (by omega) 39
                simp only at hr3
                have R3 := Lib.hid hr3
                clear hr3
                go_wp2_with (at_builtin; refine Lib.wpList_append_run _ rfl _ _ _ _ rfl _ _ rfl rfl _ _ R3.out ?_)
                have RO := Lib.hid ho3
                have WB := Lib.hid (WB.out.trans hb3)
                clear ho3 hb3 R3 p0 p1 p2 p3 p4 q0 q1 q2 q3 q4
                go_wp2
                go_roundw
                case rel => exact ⟨k + 1, n3 + 1, a4, c4, false, A ++ [⟨u0, u1, u2, u3, u4⟩], by omega, by go_num, rfl, rfl, by simp [HN0.out], HP1.out, RO.out, WB.out⟩
                case measure => simp [intOf]; omega
        · obtain rfl : k = LL.length := by omega
          obtain ⟨q0, q1, q2, q3, q4⟩ : wr.cell? ⟨w.heap.size + 1, 0, none⟩ = some (.int .i64 o0) ∧ wr.cell? ⟨w.heap.size + 1, 1, none⟩ = some (.int .i64 o1) ∧ wr.cell? ⟨w.heap.size + 1, 2, none⟩ = some (.int .i64 o2) ∧ wr.cell? ⟨w.heap.size + 1, 3, none⟩ = some (.int .i64 o3) ∧ wr.cell? ⟨w.heap.size + 1, 4, none⟩ = some (.int .i64 o4) := by
            have kk := KO.out.below WB.out
            exact ⟨kk.cell 0, kk.cell 1, kk.cell 2, kk.cell 3, kk.cell 4⟩
          cases b with
          | true =>
            have HZ : Hid (FreshR zC 33 5 (addZ y0 t0 v0 gap l) w (.returned (.slice a3 n3 c3)) wr) := Lib.hid (by
              have e := HP.out.end_yes.trans HADD.out
              have o := RO.out
              have e2 := HN.out
              rw [← e]
              subst e2
              exact ⟨a3, c3, rfl, owns_less o hsz, HB.out.trans (WB.out.mono hsz)⟩)
            go_wp2
            exact bodyPost_ret (v := .slice a3 n3 c3) (by simp [results, Try.results90, go_sem]) rfl HZ.out
          | false =>
            obtain ⟨a4, c4, w8, hr3, ho3, hb3, _⟩ := appendZ (w := wr) ⟨o0, o1, o2, o3, o4⟩ HN.out RO.out WB.out.size (by omega) 39
            simp only at hr3
            have R3 := Lib.hid hr3
            have HZ : Hid (FreshR zC 33 5 (addZ y0 t0 v0 gap l) w (.returned (.slice a4 (n3 + 1) c4)) w8) := Lib.hid (by
              have e := HP.out.end_no.trans HADD.out
              have e2 : n3 + 1 = (A ++ [(⟨o0, o1, o2, o3, o4⟩ : Ss)]).length := by simp [HN.out]
              rw [← e]
              have o := owns_less ho3 hsz
              rw [e2] at o ⊢
              exact ⟨a4, c4, rfl, o, HB.out.trans ((WB.out.trans hb3).mono hsz)⟩)
            clear hr3 ho3 hb3
            go_wp2_with (at_builtin; refine Lib.wpList_append_run _ rfl _ _ _ _ rfl _ _ rfl rfl _ _ R3.out ?_)
            go_wp2
            exact bodyPost_ret (v := .slice a4 (n3 + 1) c4) (by simp [results, Try.results90, go_sem]) rfl HZ.out
end Go.Proofs.Ytchbmnpajnlijaa
