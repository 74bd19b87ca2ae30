/- The windows that slide: FoldSlides answers as its model, each event is in at most CoverCount windows, all of which have its time, and counts once in each of them: at every code of up to 1048576 bytes (beyond, the law says nothing). -/
import Derived.Test.YtchbmnpajnlijaaRows
import Derived.Test.YtchbmnpajnlijaaOpenBase
import Derived.Test.YtchbmnpajnlijaaSlJoint
import Derived.Test.YtchbmnpajnlijaaFs1
import Derived.Test.YtchbmnpajnlijaaFs2
import Derived.Test.YtchbmnpajnlijaaTot
import Derived.Test.YtchbmnpajnlijaaSame
import Derived.WalkSmall
import Derived.WalkKit
import Derived.ProofKit
import Derived.OpenShut
import Derived.ShutString
import Derived.ChangeOld
import Derived.Below
namespace Go.Proofs.Ytchbmnpajnlijaa.fnSlides
open Go.ChangeShapes Go.WideShapes Go.ChangeAt Go.RowKit
set_option linter.unusedVariables false

theorem own : ownKnob Try.prog.godebug = none := by kernel_rfl
theorem laidOut : laidOutB Try.prog = true := by kernel_rfl


set_option maxHeartbeats 8000000 in
set_option maxRecDepth 100000 in
theorem walk (w : World) (a : Option Addr) (len cap : Nat) (hbytes : len ≤ 1048576 → Bytes w w.heap.size a len) :
    Calls Try.prog 13 #[.slice a len cap] w fun e w' => e = .returned (.bool true) ∧ Below w.heap.size w w' := by
  by_cases hbig : 1048576 < len
  · have hd : decide ((1048576 : Int) < (len : Int)) = true := by simp; omega
    have HBG := Lib.hid (fun W => big_any a len cap W)
    rw [hd] at HBG
    clear hbytes
    go_enter Try.func13, Try.ntmps13
    go_wp2_with fail
    refine (HBG.out _).mono ?_
    rintro e w' ⟨rfl, rfl⟩
    go_wp2
    go_ret
    exact ⟨rfl, Below.refl _ _⟩
  have hd : decide ((1048576 : Int) < (len : Int)) = false := by simp; omega
  have HBG := Lib.hid (fun W => big_any a len cap W)
  rw [hd] at HBG
  have HB := Lib.hid (hbytes (by omega))
  clear hbytes hd
  go_enter Try.func13, Try.ntmps13
  go_wp2_with fail
  refine (HBG.out _).mono ?_
  rintro e w' ⟨rfl, rfl⟩
  go_wp2_with fail
  refine (drawFs_any a len cap _ HB.out).mono ?_
  rintro e w1 ⟨L, la, lc, s, h, rfl, hll, hs, hh, hL, hb1⟩
  have L1 := Lib.hid hL
  have B1 := Lib.hid hb1
  have s1 := hb1.size
  have lcap := hL.cap
  have lbig := hL.big
  clear hL hb1 HB HBG
  have SP := Lib.hid (fun (W : World) (h1 : Fms W w1.heap.size la lc L) h2 => specFs_any la L.length lc L s h w1.heap.size W h1 rfl h2)
  have IP := Lib.hid (fun (W : World) (h1 : Fms W w1.heap.size la lc L) h2 => implFs_any la L.length lc L s h w1.heap.size W h1 rfl h2)
  have hNO1 := Lib.hid (fun hx => fsL_no1 (L := L) (s := s) (h := h) hx)
  have hNO2 := Lib.hid (fun hx => fsL_no2 (L := L) (s := s) (h := h) hx)
  have hTOT := Lib.hid (fun k hl => fs_total (L := L) (s := s) (h := h) k (by omega) hl)
  generalize fsL L s h = R at SP IP hNO1 hNO2 hTOT
  go_wp2_with fail
  refine (SP.out _ L1.out (Nat.le_refl _)).mono ?_
  rintro e w2 ⟨a2, c2, rfl, ho, hb⟩
  have s2 := hb.size
  have W2 := Lib.hid (Ags.of_own ho)
  have L2 := Lib.hid (L1.out.below hb)
  have B2 := Lib.hid (B1.out.trans (hb.mono s1))
  clear ho hb
  go_wp2_with fail
  refine (IP.out _ L2.out s2).mono ?_
  rintro e w3 ⟨a3, c3, rfl, ho, hb⟩
  have s3 := hb.size
  have A3 := Lib.hid (Ags.of_own ho)
  have W3 := Lib.hid (W2.out.below hb)
  have L3 := Lib.hid (L2.out.below (hb.mono s2))
  have B3 := Lib.hid (B2.out.trans (hb.mono (by omega)))
  have acap := A3.out.cap
  have wcap := W3.out.cap
  clear ho hb SP IP L1 L2 W2 B1 B2
  have SM := Lib.hid (implSame_any a3 a2 R.length R.length c3 c2 R R w3.heap.size w2.heap.size w3 A3.out W3.out rfl rfl (Nat.le_refl _) s3)
  rw [sameL_all rfl (fun i _ => by simp [eqG])] at SM
  go_wp2_with fail
  refine SM.out.mono ?_
  rintro e w4 ⟨rfl, hb⟩
  have s4 := hb.size
  have A4 := Lib.hid (A3.out.below hb)
  have L4 := Lib.hid (L3.out.below (hb.mono (by omega)))
  have B4 := Lib.hid (B3.out.trans (hb.mono (by omega)))
  have hRR : ((R.length : Int) != (R.length : Int)) = false := by simp
  clear hb SM A3 W3 L3 B3
  have FIN : Hid (∀ W, Below w4.heap.size w4 W → (Ending.returned (Value.bool true) = .returned (.bool true) ∧ Below w.heap.size w W)) := Lib.hid (fun W hW => ⟨rfl, B4.out.trans (hW.mono B4.out.size)⟩)
  by_cases c1 : s < 1
  · have hR0 : R = [] := hNO1.out (by unfold slFine; rw [inB_no (by omega)]; rfl)
    subst hR0
    go_wp2
    go_ret
    exact ⟨rfl, B4.out⟩
  by_cases c2' : h < 1
  · have hR0 : R = [] := hNO1.out (by unfold slFine; rw [inB_no (x := h) (by omega)]; exact Bool.and_false _)
    subst hR0
    go_wp2
    go_ret
    exact ⟨rfl, B4.out⟩
  by_cases c3' : ¬ L.length ≤ 300
  · have hR0 : R = [] := hNO2.out c3'
    subst hR0
    have c4 : (300 : Int) < (L.length : Int) := by omega
    clear c3'
    go_wp2
    go_ret
    exact ⟨rfl, B4.out⟩
  have c3' : L.length ≤ 300 := by omega
  have c4 : ¬ (300 : Int) < (L.length : Int) := by omega
  have hF : slFine s h = true := by unfold slFine; rw [inB_yes (by omega) (by omega), inB_yes (x := h) (by omega) (by omega)]; rfl
  have HT := Lib.hid (hTOT.out hF c3')
  have HF := Lib.hid hF
  have CV := Lib.hid (fun W => implCover_any s h W)
  clear hNO1 hNO2 hTOT hF
  go_wp2
  clear hRR c1 c2' c4
  go_loopw [8, 9] (fun nv iv wr => ∃ k : Nat, k ≤ L.length ∧ nv = .int .i64 ((fsIn s h L k).length : Int) ∧ iv = .int .i64 (k : Int) ∧ Below w4.heap.size w4 wr) (fun _ i _ => L.length - (intOf i).toNat)
  case atStart => exact ⟨0, Nat.zero_le _, rfl, rfl, Below.refl _ _⟩
  case round =>
    obtain ⟨k, hk, rfl, rfl, hb⟩ := hrel
    have RB := Lib.hid hb
    have hsr := hb.size
    clear hb
    by_cases hlt : k < L.length
    · obtain ⟨b1, off, rfl, hbh, hcell⟩ := Fms.six (L4.out.below (RB.out.mono (by omega))) (by omega)
      have hlt' : (k : Int) < (L.length : Int) := by omega
      have hnn : 0 ≤ (k : Int) := by omega
      obtain ⟨p0, p1, p2, p3⟩ := hcell k hlt
      have EY := Lib.hid (fun he => fsIn_more (s := s) (h := h) hlt he)
      have ENO := Lib.hid (fun he => fsIn_no (s := s) (h := h) hlt he)
      have hln := fsIn_len (s := s) (h := h) (L := L) k hk
      clear hcell
      generalize qel L k = X at p0 p1 p2 p3 EY ENO
      obtain ⟨e0, e1, e2, e3⟩ := X
      simp only at p0 p1 p2 p3
      have KS := Lib.hid (Blk.new wr 66 #[.int .i64 e0, .int .i64 e1, .int .i64 e2, .int .i64 e3])
      have RB := Lib.hid (RB.out.alloc hsr (.cells #[.int .i64 e0, .int .i64 e1, .int .i64 e2, .int .i64 e3] 66))
      have CF := Lib.hid (fun W => specFrameOk_any e0 e1 e2 e3 W)
      by_cases h1 : e0 = 1
      · have hq1 : (e0 != 1) = false := by simp [h1]
        cases hf : fOk e0 e1 e2 e3 with
        | false =>
          have hev : evQ ⟨e0, e1, e2, e3⟩ = false := by unfold evQ; rw [hf]; rfl
          have EE := Lib.hid (ENO.out hev)
          rw [hf] at CF
          clear hf EY ENO hev h1
          go_wp2_with fail
          refine (CF.out _).mono ?_
          rintro e w5 ⟨rfl, hb⟩
          have RB := Lib.hid (RB.out.trans (hb.mono RB.out.size))
          clear hb p0 p1 p2 p3
          go_wp2
          go_roundw
          case rel => exact ⟨k + 1, by omega, by rw [EE.out], by go_num, RB.out⟩
          case measure => simp [intOf]; omega
        | true =>
          have hev : evQ ⟨e0, e1, e2, e3⟩ = true := by unfold evQ; rw [hf]; simp [h1]
          have ht := (evQ_bd hev).2.1
          simp only at ht
          have EE := Lib.hid (EY.out hev)
          simp only at EE
          rw [hf] at CF
          clear hf EY ENO hev h1
          go_wp2_with fail
          refine (CF.out _).mono ?_
          rintro e w5 ⟨rfl, hb⟩
          have RB := Lib.hid (RB.out.trans (hb.mono RB.out.size))
          have KS := Lib.hid (KS.out.below hb)
          have q2 := KS.out.cell 2
          simp only [List.getElem?_toArray, List.getElem?_cons_zero, List.getElem?_cons_succ] at q2
          have SL := Lib.hid (implSlides_any e2 s h w5)
          have HC := Lib.hid (num_cover ht HF.out)
          have HM := Lib.hid (fun (j : Nat) hj => sl_prod (j := j) ht HF.out (by omega) hj)
          have HLS := Lib.hid (sl_last ht HF.out (by omega))
          have HW := slides_len (sl_good ht HF.out (by omega))
          have hnb := slNum_bd ht HF.out
          have hcv : ((slidesL e2 s h).length : Int) ≤ coverN s h := by rw [HW]; have := HC.out; omega
          have hcs := cover_le_size HF.out
          have hcv2 : ¬ coverN s h < ((slidesL e2 s h).length : Int) := by omega
          clear hb p0 p1 p2 p3 HW hnb HC
          generalize slidesL e2 s h = W at *
          generalize coverN s h = C at *
          go_wp2_with fail
          refine SL.out.mono ?_
          rintro e w6 ⟨aw, cw, rfl, ho, hb⟩
          have s5 := RB.out.size
          have N6 := Lib.hid (Nums.of_own ho).2
          have RB := Lib.hid (RB.out.trans (hb.mono s5))
          have KS := Lib.hid (KS.out.below hb)
          have ncap := N6.out.cap
          clear ho hb q2 SL
          go_wp2_with fail
          refine (CV.out _).mono ?_
          rintro e w7 ⟨rfl, hb⟩
          have s6 := RB.out.size
          have hs67 := hb.size
          have N7 := Lib.hid (N6.out.below hb)
          have RB := Lib.hid (RB.out.trans (hb.mono s6))
          have KS := Lib.hid (KS.out.below hb)
          clear hb N6
          go_wp2
          clear hcv2
          go_loopw [12] (fun iv wx => ∃ j : Nat, j ≤ W.length ∧ iv = .int .i64 (j : Int) ∧ Below w7.heap.size w7 wx) (fun i _ => W.length - (intOf i).toNat)
          case atStart => exact ⟨0, Nat.zero_le _, rfl, Below.refl _ _⟩
          case round =>
            rename World => wq
            obtain ⟨j, hj, rfl, hb⟩ := hrel
            have XB := Lib.hid hb
            have s8 := hb.size
            clear hb
            have KX := Lib.hid (KS.out.below XB.out)
            by_cases hlt2 : j < W.length
            · obtain ⟨bw, ow, rfl, hbw, hcw⟩ := N7.out.lies.resolve_left (by intro h9; rw [h9] at hlt2; simp at hlt2)
              have hlt2' : (j : Int) < (W.length : Int) := by omega
              have hnn2 : 0 ≤ (j : Int) := by omega
              have hbw7 : bw < w7.heap.size := by omega
              obtain ⟨g1, g2, g3, g4⟩ := HM.out j hlt2
              have YC : Hid (∀ Z : World, Below w7.heap.size w7 Z → Z.cell? ⟨bw, ow + j, none⟩ = some (.int .i64 (el W j))) := Lib.hid (fun Z hZ => (hZ.cell (p := ⟨bw, ow + j, none⟩) hbw7).trans (hcw j hlt2))
              have SE := Lib.hid (fun Z => implSlEnd_any (el W j) s h Z)
              generalize slideEnd (el W j) s h = Q at *
              have hwm : IntKind.i64.wrap (el W j * h) = el W j * h := IntWalk.i64_in _ (by omega)
              generalize el W j = y at *
              have d1 : decide (e2 < y * h) = false := by simp; omega
              have d2 : decide (Q < e2) = false := by simp; omega
              clear hcw
              have XD := Lib.hid XB.out.drew
              have KD := Lib.hid KX.out.drew
              have y1 := YC.out _ XD.out
              have y2 : wq.drew.cell? ⟨wr.heap.size, 2, none⟩ = some (.int .i64 e2) := KD.out.cell 2
              go_wp2_with fail
              go_region_held3 (fun Z => Z.cell? ⟨bw, ow + j, none⟩ = some (.int .i64 y) ∧ Z.cell? ⟨wr.heap.size, 2, none⟩ = some (.int .i64 e2))
                (exact ⟨y1, y2⟩)
                ((go_at_call 20; refine (SE.out _).mono ?_; rintro e wz ⟨rfl, hb⟩; have XD := Lib.hid (XD.out.trans (hb.mono XD.out.size)); have KD := Lib.hid (KD.out.below hb); have y1 := YC.out _ XD.out; have y2 : wz.cell? ⟨wr.heap.size, 2, none⟩ = some (.int .i64 e2) := KD.out.cell 2; clear hb))
              all_goals
                clear y1 y2
                go_wp2
                go_roundw
                case rel => exact ⟨j + 1, by omega, by go_num, XD.out⟩
                case measure => simp [intOf]; omega
            · have hlt2' : ¬ (j : Int) < (W.length : Int) := by omega
              obtain rfl : j = W.length := by omega
              have q2 : wq.cell? ⟨wr.heap.size, 2, none⟩ = some (.int .i64 e2) := KX.out.cell 2
              have hq : e2.tdiv h = e2 / h := Int.tdiv_eq_ediv_of_nonneg ht.1
              have hs0 : ¬ h = 0 := by omega
              have hqb : 0 ≤ e2 / h ∧ e2 / h ≤ e2 := ⟨Int.ediv_nonneg ht.1 (by omega), Int.ediv_le_self _ ht.1⟩
              generalize e2 / h = q at *
              have wq1 : IntKind.i64.wrap q = q := IntWalk.i64_in _ (by omega)
              have SE := Lib.hid (fun Z => implSlEnd_any q s h Z)
              have WI := Lib.hid (fun (Z : World) (hz : Nums .i64 Z w6.heap.size aw cw W) => within_x aw cw w6.heap.size W q Z hz)
              generalize slideEnd q s h = Q at *
              generalize W.contains q = bb at *
              have hdq := HLS.out
              have hbb : (bb != bb) = false := by cases bb <;> rfl
              have wn : IntKind.i64.wrap (((fsIn s h L k).length : Int) + (W.length : Int)) = ((fsIn s h L k).length : Int) + (W.length : Int) := IntWalk.i64_in _ (by omega)
              have hn2 : ((fsIn s h L (k + 1)).length : Int) = ((fsIn s h L k).length : Int) + (W.length : Int) := by have := EE.out; omega
              have HN2 := Lib.hid hn2
              clear hn2 HM
              generalize (fsIn s h L k).length = fk at *
              go_upto_region 25 with fail
              clear q2
              have XD := Lib.hid XB.out.drew
              have KD := Lib.hid KX.out.drew
              have ND := Lib.hid (N7.out.below ((XD.out.mono (by omega))))
              have y2 : wq.drew.cell? ⟨wr.heap.size, 2, none⟩ = some (.int .i64 e2) := KD.out.cell 2
              go_wp2_with fail
              go_region_held3 (fun Z => Z.cell? ⟨wr.heap.size, 2, none⟩ = some (.int .i64 e2))
                (exact y2)
                (first
                  | (go_at_call 20; refine (SE.out _).mono ?_; rintro e wz ⟨rfl, hb⟩; have ND := Lib.hid (ND.out.below (hb.mono (by have := XD.out.size; omega))); have XD := Lib.hid (XD.out.trans (hb.mono XD.out.size)); have KD := Lib.hid (KD.out.below hb); have y2 : wz.cell? ⟨wr.heap.size, 2, none⟩ = some (.int .i64 e2) := KD.out.cell 2; clear hb)
                  | (go_at_call 57; refine (WI.out _ ND.out).mono ?_; rintro e wz ⟨rfl, hb⟩; have ND := Lib.hid (ND.out.below (hb.mono (by have := XD.out.size; omega))); have XD := Lib.hid (XD.out.trans (hb.mono XD.out.size)); have KD := Lib.hid (KD.out.below hb); have y2 : wz.cell? ⟨wr.heap.size, 2, none⟩ = some (.int .i64 e2) := KD.out.cell 2; clear hb))
              all_goals
                clear y2
                go_wp2
                go_roundw
                case rel => exact ⟨k + 1, by omega, by rw [HN2.out], by go_num, RB.out.trans (XD.out.mono (by omega))⟩
                case measure => simp [intOf]; omega
      · have hq1 : (e0 != 1) = true := by simp [h1]
        have hev : evQ ⟨e0, e1, e2, e3⟩ = false := by unfold evQ; simp [h1]
        have EE := Lib.hid (ENO.out hev)
        have q0 := KS.out.cell 0
        clear EY ENO hev h1
        go_wp2
        go_roundw
        case rel => exact ⟨k + 1, by omega, by rw [EE.out], by go_num, RB.out⟩
        case measure => simp [intOf]; omega
    · have hlt' : ¬ (k : Int) < (L.length : Int) := by omega
      obtain rfl : k = L.length := by omega
      have TC := Lib.hid (implTot_any a3 R.length c3 R w3.heap.size wr (A4.out.below (RB.out.mono (by omega))) rfl (by omega))
      rw [HT.out] at TC
      go_wp2_with fail
      refine TC.out.mono ?_
      rintro e w9 ⟨rfl, hb⟩
      have FB := Lib.hid (B4.out.trans ((RB.out.trans (hb.mono hsr)).mono B4.out.size))
      clear hb
      go_wp2
      go_ret
      exact ⟨by simp [go_sem], FB.out⟩

set_option maxRecDepth 100000 in
theorem lifted (os : Os) (started : os.Started) (H : Type) (enc : TypeId × Value → H) :
    ReturnsInHanded {} Try.checked os 13 .any (Rows.fnSlidesSpec.pre6 enc Try.prog Try.f13 Rows.fnSlidesRow.domain false) (Rows.fnSlidesSpec.post enc Try.prog Try.f13 false true false false) := by
  refine returnsInHanded_of_change (C := Try.checked) own started (by kernel_rfl) Try.func13
    (ChangeSpec.witness6 (enc := enc) (C := Try.checked) false ⟨#[], #[.slice none 0 0], []⟩ 8 (by kernel_rfl) (by kernel_rfl) (by kernel_rfl) (by kernel_rfl)) ?_
  intro W base args ds gs before hval0 hW hcnd _
  have hval : ∀ (j : Nat) t v, Try.f13.params[j]? = some t → args[j]? = some v → Value.okWide Try.prog W .any base t v := hval0
  have hW' := hW
  obtain ⟨p, q, hA0, hV, rfl, hfz, hnd⟩ := hW
  have hA : DataW.TrodAll enc Try.prog W 0 (fun _ => true) true Try.f13.params.toList args.toList ds p := hA0
  rw [Try.params13] at hA hval
  obtain ⟨v0, vs0, d0, ds0, p0, q0, hargs, rfl, rfl, h0, r0⟩ := trodAll_cons hA
  obtain ⟨rfl, rfl, rfl⟩ := trodAll_nil r0
  obtain rfl : args = #[v0] := by cases args; simp_all
  obtain ⟨rfl, rfl⟩ := trodVars_none hV
  have lt0 : ∀ x ∈ p0, x.block < W.heap.size := by obtain ⟨m, hm⟩ := h0; exact DataW.trod_lt m _ _ _ hm
  obtain ⟨a0, n0, c0, rfl, hb0⟩ := arg_code (hval 0 69 v0 rfl rfl) h0
  clear hA0 hval0
  refine (walk W a0 n0 c0 hb0).mono fun e W' ⟨he, bel⟩ => ?_
  subst he
  exact ⟨_, rfl, _, _, _, [], _, [], hW', trodAll_mk1 (shut_bool Try.underlying4 _), (trodAll_cons_mk (Below.trod laidOut (by kernel_rfl) (of_decide_eq_true (by kernel_rfl)) h0 bel lt0) trodAll_mk0), rfl, bel.frame _, fun h => by cases h⟩

theorem over : Rows.fnSlidesRow.holds Try.pinned (OpenSpec.ofChange Rows.fnSlidesSpec) :=
  OpenClaim.holds_of_wide_leaving 13 Try.f13 rfl rfl rfl rfl rfl rfl rfl ⟨rfl, rfl, rfl, rfl, rfl⟩ rfl rfl rfl rfl rfl (by kernel_rfl) Try.func13 (by kernel_rfl)
    (of_decide_eq_true (by kernel_rfl)) (by unfold Func.isWrapper; first | (rw [if_pos (by decide +kernel)]; kernel_rfl) | (rw [if_neg (by decide +kernel)]; exact ⟨rfl, rfl⟩))
    (fun os started H enc _ => leaving_of_handed (lifted os started H enc))

theorem proved : Rows.FnSlidesSaid := over
#print axioms proved
end Go.Proofs.Ytchbmnpajnlijaa.fnSlides
