/- Chapter 11, spec's side: FoldSlides. (made by tools/mkfs.py) -/
import Derived.Test.YtchbmnpajnlijaaPlainFs
import Derived.Test.YtchbmnpajnlijaaSl1
import Derived.Test.YtchbmnpajnlijaaFrameS
import Derived.Deep.QuietTactic
import Derived.BigQuiet
import Derived.StillTailTactics
namespace Go.Proofs.Ytchbmnpajnlijaa
open Go.RowKit Stab
set_option maxHeartbeats 4000000 in
set_option maxRecDepth 100000 in
theorem specFs_any (a : Option Addr) (n c : Nat) (L : List Fm) (s h : Int) (hi : Nat) (w : World) (hr : Fms w hi a c L) (hn : n = L.length) (hB : hi ≤ w.heap.size) :
    Calls Try.prog 32 #[.slice a n c, .int .i64 s, .int .i64 h] w (FreshR aC 86 6 (fsL L s h) w) := by
  subst hn
  have m1 := hr.cap
  have m2 := hr.big
  have HR := Lib.hid hr
  have HP : Hid (∀ W, Below w.heap.size w W → FreshR aC 86 6 [] w (.returned (.slice none 0 0)) W) := Lib.hid (fun W h => ⟨none, 0, rfl, World.ownsRow_nil _ _ _ _, h⟩)
  have kr := Blk.new w 86 #[]
  have O0 : Hid ((w.alloc (.cells #[] 86)).ownsRow w.heap.size 86 6 (.slice (some ⟨w.heap.size, 0, none⟩) 0 0) 0 (flatA [])) := Lib.hid ⟨rfl, .inr ⟨_, 0, #[], rfl, Nat.le_refl _, kr, Nat.le_refl _, by unfold maxLen; omega, rfl, rfl⟩⟩
  have B0 := Lib.hid ((Below.refl w.heap.size w).alloc (Nat.le_refl _) (.cells #[] 86))
  clear kr hr
  cases hs : slFine s h with
  | false =>
    rw [fsL_no1 hs]
    go_enter Try.func32, Try.ntmps32
    go_wp2_with (go_at_call 60; refine (sFine_any _ _ _).mono ?_; rintro e w' ⟨rfl, rfl⟩)
    exact bodyPost_ret (v := .slice none 0 0) (by simp [results, Try.results32, go_sem]) rfl (HP.out _ B0.out)
  | true =>
    by_cases hl : L.length ≤ 300
    · have hd2 : ¬ (300 : Int) < (L.length : Int) := by omega
      have HNO := Lib.hid (fun (k : Nat) hk he hh => fsL_no3 (L := L) (s := s) (h := h) (k := k) hk he hh)
      have HYES := Lib.hid (fun hh => fsL_yes (L := L) hs hl hh)
      have MA := Lib.hid (fun (t : Int) (ht : 0 ≤ t ∧ t ≤ 1000000) W => sMany_any t s h W ht hs)
      have SL := Lib.hid (fun (t : Int) W => specSlides_any t s h W)
      generalize fsL L s h = R at HNO HYES ⊢
      go_enter Try.func32, Try.ntmps32
      go_wp2_with (go_at_call 60; refine (sFine_any _ _ _).mono ?_; rintro e w' ⟨rfl, rfl⟩)
      clear hs hd2
      go_loopw [7, 8] (fun ls i wr => ∃ (k : Nat) (a2 : Option Addr) (n2 c2 : Nat), k ≤ L.length ∧ i = .int .i64 (k : Int) ∧ ls = .slice a2 n2 c2 ∧ n2 = (foldP [] (fsIn s h L k)).length ∧ fewTo s h L k ∧ wr.ownsRow w.heap.size 86 6 (.slice a2 n2 c2) n2 (flatA (foldP [] (fsIn s h L k))) ∧ Below w.heap.size w wr) (fun _ i _ => L.length - (intOf i).toNat)
      case atStart => exact ⟨0, some ⟨w.heap.size, 0, none⟩, 0, 0, Nat.zero_le _, rfl, rfl, rfl, fun i hi => by omega, O0.out, B0.out⟩
      case round =>
        obtain ⟨k, a2, n2, c2, hk, rfl, rfl, hn2, hfew, ho, hbr⟩ := hrel
        have HN2 := Lib.hid hn2
        have RO := Lib.hid ho
        have WB := Lib.hid hbr
        have HF := Lib.hid hfew
        have hsz := hbr.size
        clear hn2 ho hbr hfew
        by_cases hlt : k < L.length
        · obtain ⟨b1, off, rfl, hbh, hcell⟩ := Fms.six (HR.out.below (WB.out.mono hB)) (by omega)
          have hlt' : (k : Int) < (L.length : Int) := by omega
          have hnn : 0 ≤ (k : Int) := by omega
          obtain ⟨p0, p1, p2, p3⟩ := hcell k hlt
          have EY := Lib.hid (fun he => fsIn_yes (s := s) (h := h) hlt he)
          have ENO := Lib.hid (fun he => fsIn_no (s := s) (h := h) hlt he)
          have EM := Lib.hid (fun he hh => HNO.out k hlt he hh)
          have EFEW : Hid ((evQ (qel L k) = true → ¬ 300 < slNum (qel L k).t s h) → fewTo s h L (k + 1)) := Lib.hid (fun hh i hi => by
            rcases Nat.lt_or_ge i k with h' | h'
            · exact HF.out i h'
            · obtain rfl : i = k := by omega
              exact hh)
          have SOK : Hid (∀ x, x ∈ foldP [] (fsIn s h L k) → SumOk x) := Lib.hid (foldP_ok_ (fsIn_ok k hk) (by simp))
          have hln : (foldP [] (fsIn s h L k)).length ≤ 300 * k := by
            have h9 := foldP_len (fsIn s h L k) []
            have h8 := fsIn_len (s := s) (h := h) (L := L) k hk
            have h7 : ([] : List Ag).length = 0 := rfl
            omega
          clear hcell
          generalize qel L k = X at p0 p1 p2 p3 EY ENO EM EFEW
          obtain ⟨e0, e1, e2, e3⟩ := X
          simp only at p0 p1 p2 p3
          have KS := Lib.hid (Blk.new wr 66 #[.int .i64 e0, .int .i64 e1, .int .i64 e2, .int .i64 e3])
          have RO1 := Lib.hid (RO.out.alloc (.cells #[.int .i64 e0, .int .i64 e1, .int .i64 e2, .int .i64 e3] 66))
          have WB1 := Lib.hid (WB.out.alloc hsz (.cells #[.int .i64 e0, .int .i64 e1, .int .i64 e2, .int .i64 e3] 66))
          have CF := Lib.hid (fun W => specFrameOk_any e0 e1 e2 e3 W)
          clear RO WB HF
          cases hf : fOk e0 e1 e2 e3 with
          | false =>
            have hev : evQ ⟨e0, e1, e2, e3⟩ = false := by unfold evQ; rw [hf]; rfl
            have EE := Lib.hid (ENO.out hev)
            have EF := Lib.hid (EFEW.out (fun h9 => by rw [hev] at h9; cases h9))
            rw [hf] at CF
            clear hf EY ENO EM EFEW hev MA SL HNO HYES
            go_wp2_with fail
            refine (CF.out _).mono ?_
            rintro e w2 ⟨rfl, hb⟩
            have RO := Lib.hid (owns_below RO1.out hb)
            have WB := Lib.hid (WB1.out.trans (hb.mono WB1.out.size))
            clear hb p0 p1 p2 p3
            go_wp2
            go_roundw
            case rel => exact ⟨k + 1, a2, n2, c2, by omega, by go_num, rfl, by rw [EE.out]; exact HN2.out, EF.out, by rw [EE.out]; exact RO.out, WB.out⟩
            case measure => simp [intOf]; omega
          | true =>
            rw [hf] at CF
            by_cases h1 : e0 = 1
            · have hev : evQ ⟨e0, e1, e2, e3⟩ = true := by unfold evQ; rw [hf]; simp [h1]
              have hebd := evQ_bd hev
              simp only at hebd
              have hq1 : (e0 != 1) = false := by simp [h1]
              have EE := Lib.hid (EY.out hev)
              have MA := Lib.hid (MA.out e2 hebd.2.1)
              have SL := Lib.hid (SL.out e2)
              have AOK := Lib.hid (fun q => aggW_ok hev q)
              by_cases hm : 300 < slNum e2 s h
              · have HX := Lib.hid (EM.out hev hm)
                rw [decide_eq_true hm] at MA
                clear hf EY ENO EM EFEW hev SL HNO HYES hebd h1
                go_wp2_with fail
                refine (CF.out _).mono ?_
                rintro e w2 ⟨rfl, hb⟩
                have WB := Lib.hid (WB1.out.trans (hb.mono WB1.out.size))
                have K2 := KS.out.below hb
                have q0 := K2.cell 0
                have q1 := K2.cell 1
                have q2 := K2.cell 2
                have q3 := K2.cell 3
                simp only [List.getElem?_toArray, List.getElem?_cons_zero, List.getElem?_cons_succ] at q0 q1 q2 q3
                clear hb p0 p1 p2 p3 K2
                go_wp2_with fail
                refine (MA.out _).mono ?_
                rintro e w3 ⟨rfl, hb⟩
                have WB3 := Lib.hid (WB.out.trans (hb.mono WB.out.size))
                clear hb q0 q1 q2 q3
                go_wp2
                exact bodyPost_ret (v := .slice none 0 0) (by simp [results, Try.results32, go_sem]) rfl (by rw [HX.out]; exact HP.out _ WB3.out)
              · have EF := Lib.hid (EFEW.out (fun _ => hm))
                rw [decide_eq_false hm] at MA
                clear hf EY ENO EM EFEW hev HNO HYES hebd h1
                go_wp2_with fail
                refine (CF.out _).mono ?_
                rintro e w2 ⟨rfl, hb⟩
                have WB := Lib.hid (WB1.out.trans (hb.mono WB1.out.size))
                have RO := Lib.hid (owns_below RO1.out hb)
                have K2 := Lib.hid (KS.out.below hb)
                have q0 := K2.out.cell 0
                have q1 := K2.out.cell 1
                have q2 := K2.out.cell 2
                have q3 := K2.out.cell 3
                simp only [List.getElem?_toArray, List.getElem?_cons_zero, List.getElem?_cons_succ] at q0 q1 q2 q3
                clear hb p0 p1 p2 p3 RO1 WB1 KS
                go_wp2_with fail
                refine (MA.out _).mono ?_
                rintro e w3 ⟨rfl, hb⟩
                have WB3 := Lib.hid (WB.out.trans (hb.mono WB.out.size))
                have RO3 := Lib.hid (owns_below RO.out hb)
                have K3 := Lib.hid (K2.out.below hb)
                clear hb q0 q1 q2 q3 WB RO K2
                have q2 := K3.out.cell 2
                simp only [List.getElem?_toArray, List.getElem?_cons_zero, List.getElem?_cons_succ] at q2
                go_wp2_with fail
                refine (SL.out _).mono ?_
                rintro e w4 ⟨aw, cw, rfl, how, hb⟩
                have WB4 := Lib.hid (WB3.out.trans (hb.mono WB3.out.size))
                have RO4 := Lib.hid (owns_below RO3.out hb)
                have K4 := Lib.hid (K3.out.below hb)
                have HOW := Lib.hid how
                have hw300 := slides_le e2 s h
                clear hb q2 WB3 RO3 K3 how MA SL CF
                have EE2 : Hid (fsIn s h L (k + 1) = fsIn s h L k ++ (slidesL e2 s h).map (aggW ⟨e0, e1, e2, e3⟩)) := EE
                clear EE
                generalize slidesL e2 s h = W at *
                have HEND : Hid (foldP (foldP [] (fsIn s h L k)) ((W.map (aggW ⟨e0, e1, e2, e3⟩)).take W.length) = foldP [] (fsIn s h L (k + 1))) := Lib.hid (by
                  rw [EE2.out, foldP_append, List.take_of_length_le (by rw [List.length_map]; exact Nat.le_refl _)])
                have HSTEP := Lib.hid (fun (i : Nat) hi => fs_step (foldP [] (fsIn s h L k)) ⟨e0, e1, e2, e3⟩ W (j := i) hi)
                have SOK2 : Hid (∀ i x, x ∈ foldP (foldP [] (fsIn s h L k)) ((W.map (aggW ⟨e0, e1, e2, e3⟩)).take i) → SumOk x) := Lib.hid (fun i => foldP_ok_ (fun x hx => by
                  obtain ⟨q, _, rfl⟩ := List.mem_map.1 (List.mem_of_mem_take hx)
                  exact AOK.out q) SOK.out)
                have HLEN : Hid (∀ i, i ≤ W.length → (foldP (foldP [] (fsIn s h L k)) ((W.map (aggW ⟨e0, e1, e2, e3⟩)).take i)).length ≤ 300 * k + i) := Lib.hid (fun i hi => by
                  have h9 := foldP_len ((W.map (aggW ⟨e0, e1, e2, e3⟩)).take i) (foldP [] (fsIn s h L k))
                  rw [List.length_take, List.length_map] at h9
                  omega)
                clear SOK hln EE2
                generalize fsIn s h L k = I0 at *
                generalize foldP [] I0 = A0 at *
                have NR := Lib.hid (Nums.of_own HOW.out).2
                go_wp2
                go_loopw [7, 11] (fun os is wr => ∃ (i : Nat) (a3 : Option Addr) (n3 c3 : Nat), i ≤ W.length ∧ is = .int .i64 (i : Int) ∧ os = .slice a3 n3 c3 ∧ n3 = (foldP A0 ((W.map (aggW ⟨e0, e1, e2, e3⟩)).take i)).length ∧ wr.ownsRow w.heap.size 86 6 (.slice a3 n3 c3) n3 (flatA (foldP A0 ((W.map (aggW ⟨e0, e1, e2, e3⟩)).take i))) ∧ Below w4.heap.size w4 wr) (fun _ is _ => W.length - (intOf is).toNat)
                case atStart => exact ⟨0, a2, n2, c2, Nat.zero_le _, rfl, rfl, HN2.out, RO4.out, Below.refl _ _⟩
                case round =>
                  obtain ⟨i, a3, n3, c3, hi, rfl, rfl, hn3, ho, hb⟩ := hrel
                  have HN3 := Lib.hid hn3
                  have RO := Lib.hid ho
                  have WB := Lib.hid hb
                  clear hn3 ho hb
                  by_cases hil : i < W.length
                  · have hil' : (i : Int) < (W.length : Int) := by omega
                    have hnn2 : 0 ≤ (i : Int) := by omega
                    obtain ⟨bw, ow, rfl, hbw, hcw⟩ := NR.out.lies.resolve_left (by intro h9; rw [h9] at hil; simp at hil)
                    have r0 := (WB.out.cell (p := ⟨bw, ow + i, none⟩) hbw).trans (hcw i hil)
                    have K5 := K4.out.below WB.out
                    have q0 := K5.cell 0
                    have q1 := K5.cell 1
                    have q2 := K5.cell 2
                    have q3 := K5.cell 3
                    simp only [List.getElem?_toArray, List.getElem?_cons_zero, List.getElem?_cons_succ] at q0 q1 q2 q3
                    have HS1 := Lib.hid (HSTEP.out i hil)
                    have SO1 := Lib.hid (SOK2.out i)
                    have HL1 := HLEN.out i (by omega)
                    have HYK := Lib.hid (AOK.out (el W i))
                    clear hcw K5 NR
                    generalize foldP A0 ((W.map (aggW ⟨e0, e1, e2, e3⟩)).take i) = A at HN3 RO HS1 SO1 HL1
                    generalize el W i = y at r0 HS1 HYK
                    have HYK2 : Hid (SumOk ⟨y, e1, 1, e3, e3, e3⟩) := HYK
                    have HS2 : Hid (foldP A0 ((W.map (aggW ⟨e0, e1, e2, e3⟩)).take (i + 1)) = putA A ⟨y, e1, 1, e3, e3, e3⟩) := HS1
                    clear HYK HS1
                    go_wp2_with fail
                    go_still_tail 14, (by kernel_rfl)
                    change wpList _ _ _ _ _ wr.drew
                    clear q0 q1 q2 q3 r0
                    have RO := Lib.hid (show wr.drew.ownsRow _ _ _ _ _ _ from RO.out)
                    have WB := Lib.hid WB.out.drew
                    generalize wr.drew = w7 at RO WB ⊢
                    go_wp2_with fail
                    refine (specPut_x a3 n3 c3 A y e1 1 e3 e3 e3 w7.heap.size w7 (Ags.of_own RO.out) HN3.out (Nat.le_refl _) (by omega) SO1.out HYK2.out).mono ?_
                    rintro e w9 ⟨a5, c5, rfl, ho5, hb5⟩
                    have hbase : w.heap.size ≤ w7.heap.size := by have := WB.out.size; have := WB4.out.size; omega
                    have RO := Lib.hid (show w9.ownsRow _ _ _ _ _ (flatA (foldP A0 ((W.map (aggW ⟨e0, e1, e2, e3⟩)).take (i + 1)))) by rw [HS2.out]; exact owns_less ho5 hbase)
                    have HN5 : Hid ((putA A ⟨y, e1, 1, e3, e3, e3⟩).length = (foldP A0 ((W.map (aggW ⟨e0, e1, e2, e3⟩)).take (i + 1))).length) := Lib.hid (by rw [HS2.out])
                    have WB := Lib.hid (WB.out.trans (hb5.mono WB.out.size))
                    clear ho5 hb5
                    generalize (putA A ⟨y, e1, 1, e3, e3, e3⟩).length = n5 at RO HN5 ⊢
                    go_wp2
                    go_roundw
                    case rel => exact ⟨i + 1, a5, n5, c5, by omega, by go_num, rfl, HN5.out, RO.out, WB.out⟩
                    case measure => simp [intOf]; omega
                  · obtain rfl : i = W.length := by omega
                    have e9 := HEND.out
                    have HN6 : Hid (n3 = (foldP [] (fsIn s h L (k + 1))).length) := Lib.hid (by rw [← e9]; exact HN3.out)
                    have RO6 : Hid (wr.ownsRow w.heap.size 86 6 (.slice a3 n3 c3) n3 (flatA (foldP [] (fsIn s h L (k + 1))))) := Lib.hid (by rw [← e9]; exact RO.out)
                    have WB6 := Lib.hid (WB4.out.trans (WB.out.mono WB4.out.size))
                    clear e9 HEND HSTEP SOK2 HLEN RO WB HN3 NR
                    go_wp2
                    go_roundw
                    case rel => exact ⟨k + 1, a3, n3, c3, by omega, by go_num, rfl, HN6.out, EF.out, RO6.out, WB6.out⟩
                    case measure => simp [intOf]; omega
            · have hev : evQ ⟨e0, e1, e2, e3⟩ = false := by unfold evQ; simp [h1]
              have hq1 : (e0 != 1) = true := by simp [h1]
              have EE := Lib.hid (ENO.out hev)
              have EF := Lib.hid (EFEW.out (fun h9 => by rw [hev] at h9; cases h9))
              clear hf EY ENO EM EFEW hev MA SL HNO HYES h1
              go_wp2_with fail
              refine (CF.out _).mono ?_
              rintro e w2 ⟨rfl, hb⟩
              have RO := Lib.hid (owns_below RO1.out hb)
              have WB := Lib.hid (WB1.out.trans (hb.mono WB1.out.size))
              have K2 := KS.out.below hb
              have q0 := K2.cell 0
              simp only [List.getElem?_toArray, List.getElem?_cons_zero] at q0
              clear hb p0 p1 p2 p3 K2
              go_wp2
              go_roundw
              case rel => exact ⟨k + 1, a2, n2, c2, by omega, by go_num, rfl, by rw [EE.out]; exact HN2.out, EF.out, by rw [EE.out]; exact RO.out, WB.out⟩
              case measure => simp [intOf]; omega
        · have hlt' : ¬ (k : Int) < (L.length : Int) := by omega
          obtain rfl : k = L.length := by omega
          have FIN : Hid (FreshR aC 86 6 R w (.returned (.slice a2 n2 c2)) wr) := Lib.hid (by
            rw [HYES.out HF.out]
            have hn2 := HN2.out
            subst hn2
            exact ⟨a2, c2, rfl, RO.out, WB.out⟩)
          clear RO HN2 HNO HYES
          go_wp2
          exact bodyPost_ret (v := .slice a2 n2 c2) (by simp [results, Try.results32, go_sem]) rfl FIN.out
    · rw [fsL_no2 hl]
      have hd2 : (300 : Int) < (L.length : Int) := by omega
      go_enter Try.func32, Try.ntmps32
      go_wp2_with (go_at_call 60; refine (sFine_any _ _ _).mono ?_; rintro e w' ⟨rfl, rfl⟩)
      exact bodyPost_ret (v := .slice none 0 0) (by simp [results, Try.results32, go_sem]) rfl (HP.out _ B0.out)
end Go.Proofs.Ytchbmnpajnlijaa
