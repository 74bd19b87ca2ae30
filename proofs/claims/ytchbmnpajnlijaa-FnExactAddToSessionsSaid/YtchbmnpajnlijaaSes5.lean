/- Chapter 11, spec's side: AddToSessions. (made by tools/mksess5.py) -/
import Derived.Test.YtchbmnpajnlijaaSes4
namespace Go.Proofs.Ytchbmnpajnlijaa
open Go.RowKit
set_option maxHeartbeats 4000000 in
set_option maxRecDepth 100000 in
theorem specAddTo_any (a : Option Addr) (n c : Nat) (l : List Ss) (f0 f1 f2 f3 gap : Int) (hi : Nat) (w : World) (hr : Sss w hi a c l) (hn : n = l.length) (hB : hi ≤ w.heap.size) (hlen : l.length ≤ 1048576) :
    Calls Try.prog 50 #[.slice a n c, (.agg #[.int .i64 f0, .int .i64 f1, .int .i64 f2, .int .i64 f3]), .int .i64 gap] w (AddToPost (addToZ l ⟨f0, f1, f2, f3⟩ gap) w) := by
  subst hn
  have m1 := hr.cap
  have m2 := hr.big
  have HR := Lib.hid hr
  have b0 := ((Below.refl w.heap.size w).alloc (Nat.le_refl _) (.cells #[.int .i64 f0, .int .i64 f1, .int .i64 f2, .int .i64 f3] 66)).alloc (by simp) (.cells #[] 33)
  have B0 := Lib.hid b0
  have KF0 := Lib.hid ((Blk.new w 66 #[.int .i64 f0, .int .i64 f1, .int .i64 f2, .int .i64 f3]).alloc (.cells #[] 33))
  have oz := own0Z (w.alloc (.cells #[.int .i64 f0, .int .i64 f1, .int .i64 f2, .int .i64 f3] 66)) (w.heap.size + 1) (by simp)
  simp only [World.size_alloc] at oz
  have O0 := Lib.hid oz
  have OKC := Lib.hid (fun (W : World) (h : Sss W hi a c l) (h2 : hi ≤ W.heap.size) => specOkS_any a l.length c l gap hi W h rfl h2)
  have FOC := Lib.hid (fun W => specFrameOk_any f0 f1 f2 f3 W)
  clear hr b0 oz
  go_enter Try.func50, Try.ntmps50
  go_wp2
  go_loopw [8, 9] (fun ls i wr => ∃ (k : Nat) (a2 : Option Addr) (c2 : Nat), k ≤ l.length ∧ i = .int .i64 (k : Int) ∧ ls = .slice a2 k c2 ∧ wr.ownsRow (w.heap.size + 1) 33 5 (.slice a2 k c2) k (flatZ (l.take k)) ∧ Blk wr w.heap.size 66 #[.int .i64 f0, .int .i64 f1, .int .i64 f2, .int .i64 f3] ∧ Below w.heap.size w wr) (fun _ i _ => l.length - (intOf i).toNat)
  case atStart => exact ⟨0, some ⟨w.heap.size + 1, 0, none⟩, 0, Nat.zero_le _, rfl, rfl, O0.out, KF0.out, B0.out⟩
  case round =>
    obtain ⟨k, a2, c2, hk, rfl, rfl, hown, hkf, hb⟩ := hrel
    have HO := Lib.hid hown
    have HB := Lib.hid hb
    have KF := Lib.hid hkf
    clear hown hb hkf B0 KF0 O0
    have hsz := HB.out.size
    have hlf := KF.out.lt
    by_cases hlt : k < l.length
    · obtain ⟨b1, off, rfl, hbh, hcell⟩ := Sss.six (HR.out.below (HB.out.mono hB)) (by omega)
      have hlt' : (k : Int) < (l.length : Int) := by omega
      have hnn : 0 ≤ (k : Int) := by omega
      obtain ⟨p0, p1, p2, p3, p4⟩ := hcell k hlt
      have HT : Hid (l.take (k + 1) = l.take k ++ [zel l k]) := Lib.hid (zel_take hlt)
      clear hcell
      generalize zel l k = X at *
      obtain ⟨u0, u1, u2, u3, u4⟩ := X
      simp only at p0 p1 p2 p3 p4
      obtain ⟨a4, c4, w8, hr3, ho3, hb3, _⟩ := appendZ (w := wr) ⟨u0, u1, u2, u3, u4⟩ (show k = (l.take k).length by rw [List.length_take]; omega) HO.out (by omega) (by omega) 39
      simp only at hr3
      have R3 := Lib.hid hr3
      have RO := Lib.hid ho3
      have WB := Lib.hid hb3
      clear hr3 ho3 hb3
      go_wp2_with (at_builtin; refine Lib.wpList_append_run _ rfl _ _ _ _ rfl _ _ rfl rfl _ _ R3.out ?_)
      go_roundw
      case rel => exact ⟨k + 1, a4, c4, by omega, by go_num, rfl, by rw [HT.out]; exact RO.out, KF.out.belowB WB.out (by omega), HB.out.trans (WB.out.mono (by omega))⟩
      case measure => simp [intOf]; omega
    · obtain rfl : k = l.length := by omega
      have HOS : Hid (wr.ownsRow w.heap.size 33 5 (.slice a2 l.length c2) l.length (flatZ l)) := Lib.hid (by
        have o := owns_less HO.out (show w.heap.size ≤ w.heap.size + 1 by omega)
        rw [List.take_length] at o
        exact o)
      clear HO
      have FS : Hid (addToZ l ⟨f0, f1, f2, f3⟩ gap = (l, false) → ∀ W, Below wr.heap.size wr W → AddToPost (addToZ l ⟨f0, f1, f2, f3⟩ gap) w (.returned (.tuple #[.slice a2 l.length c2, .bool false])) W) := Lib.hid (fun e W hW => by
        rw [e]
        exact ⟨a2, c2, rfl, owns_below HOS.out hW, HB.out.trans (hW.mono HB.out.size)⟩)
      rename World => wq
      cases hs : okS l gap with
      | false =>
        have FS := Lib.hid (FS.out (addToZ_no1 hs))
        rw [hs] at OKC
        clear FOC
        go_wp2_with fail
        refine (OKC.out _ (HR.out.below (HB.out.mono hB)) (by omega)).mono ?_
        rintro e w3 ⟨rfl, hb⟩
        have HB3 := Lib.hid hb
        clear hb
        go_wp2
        exact bodyPost_ret (v := .tuple #[.slice a2 l.length c2, .bool false]) (by simp [results, Try.results50, go_sem]) rfl (FS.out _ HB3.out)
      | true =>
        obtain ⟨hl200, hgap, hgood⟩ := okS_bd hs
        have hg := inB_bd hgap
        have HOKS := Lib.hid (goodTo_oks hgood)
        rw [hs] at OKC
        cases hf : fOk f0 f1 f2 f3 with
        | false =>
          have FS := Lib.hid (FS.out (addToZ_no2 (by unfold evQ; rw [hf]; rfl)))
          rw [hf] at FOC
          clear hs hgap hgood hf
          go_wp2_with fail
          refine (OKC.out _ (HR.out.below (HB.out.mono hB)) (by omega)).mono ?_
          rintro e w3 ⟨rfl, hb⟩
          have HB3 := Lib.hid hb
          have K3 := KF.out.below hb
          have z0 := K3.cell 0
          have z1 := K3.cell 1
          have z2 := K3.cell 2
          have z3 := K3.cell 3
          simp only [List.getElem?_toArray, List.getElem?_cons_zero, List.getElem?_cons_succ] at z0 z1 z2 z3
          clear hb
          go_wp2_with fail
          refine (FOC.out _).mono ?_
          rintro e w4 ⟨rfl, hb⟩
          have HB4 := Lib.hid (HB3.out.trans (hb.mono HB3.out.size))
          clear hb z0 z1 z2 z3
          go_wp2
          exact bodyPost_ret (v := .tuple #[.slice a2 l.length c2, .bool false]) (by simp [results, Try.results50, go_sem]) rfl (FS.out _ HB4.out)
        | true =>
          rw [hf] at FOC
          by_cases h1 : f0 = 1
          · have hev : evQ ⟨f0, f1, f2, f3⟩ = true := by unfold evQ; rw [hf]; simp [h1]
            have hq1 : (f0 != 1) = false := by simp [h1]
            have AD := Lib.hid (fun (W : World) (h : Sss W hi a c l) (h2 : hi ≤ W.heap.size) => specAddZ_any a l.length c l f0 f1 f2 f3 gap hi W h rfl h2 hlen HOKS.out (evQ_ok hev) hg)
            have HY := Lib.hid (fun h => addToZ_yes hs hev h)
            have HN := Lib.hid (fun h => addToZ_no3 (l := l) (F := ⟨f0, f1, f2, f3⟩) (gap := gap) h)
            clear hs hgap hgood hf hev h1
            simp only at AD HY HN
            generalize addZ f1 f2 f3 gap l = A at AD HY HN
            go_wp2_with fail
            refine (OKC.out _ (HR.out.below (HB.out.mono hB)) (by omega)).mono ?_
            rintro e w3 ⟨rfl, hb⟩
            have HB3 := Lib.hid hb
            have K3 := Lib.hid (KF.out.below hb)
            have z0 := K3.out.cell 0
            have z1 := K3.out.cell 1
            have z2 := K3.out.cell 2
            have z3 := K3.out.cell 3
            simp only [List.getElem?_toArray, List.getElem?_cons_zero, List.getElem?_cons_succ] at z0 z1 z2 z3
            clear hb
            go_wp2_with fail
            refine (FOC.out _).mono ?_
            rintro e w4 ⟨rfl, hb⟩
            have HB4 := Lib.hid (HB3.out.trans (hb.mono HB3.out.size))
            have K4 := Lib.hid (K3.out.below hb)
            clear hb z0 z1 z2 z3
            have z0 := K4.out.cell 0
            have z1 := K4.out.cell 1
            have z2 := K4.out.cell 2
            have z3 := K4.out.cell 3
            simp only [List.getElem?_toArray, List.getElem?_cons_zero, List.getElem?_cons_succ] at z0 z1 z2 z3
            go_wp2_with fail
            refine (AD.out _ (HR.out.below ((HB.out.trans (HB4.out.mono HB.out.size)).mono hB)) (by have := HB4.out.size; omega)).mono ?_
            rintro e w5 ⟨a5, c5, rfl, ho5, hb5⟩
            have HO5 := Lib.hid ho5
            have HB5 := Lib.hid (HB4.out.trans (hb5.mono HB4.out.size))
            clear ho5 hb5 z0 z1 z2 z3
            by_cases h200 : A.length ≤ 200
            · have hd : ¬ (200 : Int) < (A.length : Int) := by omega
              have FY : Hid (AddToPost (addToZ l ⟨f0, f1, f2, f3⟩ gap) w (.returned (.tuple #[.slice a5 A.length c5, .bool true])) w5) := Lib.hid (by
                rw [HY.out h200]
                exact ⟨a5, c5, rfl, owns_less HO5.out (by have := HB4.out.size; omega), HB.out.trans (HB5.out.mono HB.out.size)⟩)
              clear HY HN
              go_wp2
              exact bodyPost_ret (v := .tuple #[.slice a5 A.length c5, .bool true]) (by simp [results, Try.results50, go_sem]) rfl FY.out
            · have hd : (200 : Int) < (A.length : Int) := by omega
              have FS := Lib.hid (FS.out (HN.out h200))
              clear HY HN
              go_wp2
              exact bodyPost_ret (v := .tuple #[.slice a2 l.length c2, .bool false]) (by simp [results, Try.results50, go_sem]) rfl (FS.out _ HB5.out)
          · have FS := Lib.hid (FS.out (addToZ_no2 (by unfold evQ; simp [h1])))
            have hq1 : (f0 != 1) = true := by simp [h1]
            clear hs hgap hgood hf h1
            go_wp2_with fail
            refine (OKC.out _ (HR.out.below (HB.out.mono hB)) (by omega)).mono ?_
            rintro e w3 ⟨rfl, hb⟩
            have HB3 := Lib.hid hb
            have K3 := Lib.hid (KF.out.below hb)
            have z0 := K3.out.cell 0
            have z1 := K3.out.cell 1
            have z2 := K3.out.cell 2
            have z3 := K3.out.cell 3
            simp only [List.getElem?_toArray, List.getElem?_cons_zero, List.getElem?_cons_succ] at z0 z1 z2 z3
            clear hb
            go_wp2_with fail
            refine (FOC.out _).mono ?_
            rintro e w4 ⟨rfl, hb⟩
            have HB4 := Lib.hid (HB3.out.trans (hb.mono HB3.out.size))
            have K4 := K3.out.below hb
            clear hb z0 z1 z2 z3
            have z0 := K4.cell 0
            simp only [List.getElem?_toArray, List.getElem?_cons_zero] at z0
            go_wp2
            exact bodyPost_ret (v := .tuple #[.slice a2 l.length c2, .bool false]) (by simp [results, Try.results50, go_sem]) rfl (FS.out _ HB4.out)
end Go.Proofs.Ytchbmnpajnlijaa
