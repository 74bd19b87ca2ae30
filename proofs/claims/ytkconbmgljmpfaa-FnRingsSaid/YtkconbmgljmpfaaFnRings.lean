/- Through the ops that are drawn what is popped from a link comes in the order in which it was pushed, nothing is lost, the link is LinkOk, and a grown ring has the same: the law FnRings returns true for every slice of bytes that the draws are made of, and the slice reads as before. No conditions. -/
import Derived.Test.YtkconbmgljmpfaaRows
import Derived.Test.YtkconbmgljmpfaaRings
import Derived.Test.YtkconbmgljmpfaaRings
import Derived.Test.YtkconbmgljmpfaaRing8
import Derived.Test.YtkconbmgljmpfaaHeld
import Derived.WalkSmall
import Derived.WalkKit
import Derived.ProofKit
import Derived.OpenShut
import Derived.ShutString
import Derived.ChangeOld
import Derived.Below
namespace Go.Proofs.Ytkconbmgljmpfaa.fnRings
open Go.ChangeShapes Go.WideShapes Go.ChangeAt Go.RowKit
set_option linter.unusedVariables false

theorem own : ownKnob Try.prog.godebug = none := by kernel_rfl
theorem laidOut : laidOutB Try.prog = true := by kernel_rfl


theorem same_b (a b : Option Addr) (n m ca cb : Nat) (xs : List Int) (ha hb : Nat) (w : World) (h1 : Nums .i64 w ha a ca xs) (h2 : Nums .i64 w hb b cb xs) (hn : n = xs.length) (hm : m = xs.length) :
    Calls Try.prog 14 #[.slice a n ca, .slice b m cb] w fun e w' => e = .returned (.bool true) ∧ Below w.heap.size w w' :=
  (same_n a b n m ca cb xs ha hb w h1 h2 hn hm).mono fun e w' ⟨he, k, hw⟩ => ⟨he, by rw [hw]; exact below_drewN (Below.refl _ _) k⟩

set_option maxHeartbeats 8000000 in
set_option maxRecDepth 100000 in
theorem walk (w : World) (a : Option Addr) (len cap : Nat) (hbytes : len ≤ 1048576 → Bytes w w.heap.size a len) :
    Calls Try.prog 3 #[.slice a len cap] w fun e w' => e = .returned (.bool true) ∧ Below w.heap.size w w' := by
  by_cases hbig : 1048576 < len
  · have hd : decide ((1048576 : Int) < (len : Int)) = true := by simp; omega
    have HBG := Lib.hid (fun W => big_any a len cap W)
    rw [hd] at HBG
    clear hbytes
    go_enter Try.func3, Try.ntmps3
    go_wp2_with fail
    refine (HBG.out _).mono ?_
    rintro e w' ⟨rfl, rfl⟩
    go_wp2
    go_ret
    exact ⟨rfl, Below.refl _ _⟩
  have hd : decide ((1048576 : Int) < (len : Int)) = false := by simp; omega
  have HBG := Lib.hid (fun W => big_any a len cap W)
  rw [hd] at HBG
  have HB := Lib.hid (hbytes (by omega))
  clear hbytes hd
  go_enter Try.func3, Try.ntmps3
  go_wp2_with fail
  refine (HBG.out _).mono ?_
  rintro e w' ⟨rfl, rfl⟩
  go_wp2_with fail
  refine (drawOps_any a len cap _ HB.out).mono ?_
  rintro e w1 ⟨x, ops, oa, oc, rfl, hol, ho, hb1⟩
  have hNO := (Nums.of_own ho).2
  have hoc1 := hNO.cap
  have hoc2 := hNO.big
  have NO1 := Lib.hid hNO
  have B1 := Lib.hid hb1
  have s1 := hb1.size
  clear ho hb1 hNO
  have SP := Lib.hid (fun W h1 => specPlay_any x oa ops.length oc ops _ W h1 rfl (Nat.le_refl _) (by omega))
  have IP := Lib.hid (fun W h1 => (implPlay_any x oa ops.length oc ops _ W h1 rfl (Nat.le_refl _) (by omega)).mono (fun _ _ h => h.weak))
  by_cases hok : playOk x ops = true
  · have hok2 := hok
    unfold playOk at hok2
    rw [Bool.and_eq_true, decide_eq_true_eq] at hok2
    have hnb := inB_iff.1 hok2.1
    obtain ⟨n, rfl⟩ : ∃ n' : Nat, x = n' := ⟨x.toNat, by omega⟩
    rw [(play_at hok).1, (play_at hok).2.1, (play_at hok).2.2] at SP IP
    have h300 : ops.length ≤ 300 := hok2.2
    have n1 : 1 ≤ n := by omega
    have n2 : n ≤ 20 := by omega
    clear hok hok2 hnb
    have HPI := Lib.hid (plS_in n ops n1 n2)
    have HSS := Lib.hid (plS_succ n ops)
    have HS0 := Lib.hid (plS_zero n ops)
    have HTE := Lib.hid (plT_el n ops ops.length)
    have HTL := Lib.hid (plT_len n ops ops.length)
    obtain ⟨TS, hTS⟩ : ∃ TS, TS = plT n ops ops.length := ⟨_, rfl⟩
    obtain ⟨s, hs⟩ : ∃ s, s = plS n ops ops.length := ⟨_, rfl⟩
    rw [← hs, ← hTS] at SP IP
    rw [← hTS] at HTE HTL
    have HSE := Lib.hid hs
    have hpl : PlIn n s := by rw [hs]; exact plS_in n ops n1 n2 _ (Nat.le_refl _)
    have HEND := Lib.hid (rings_end hpl n1 n2)
    have HSL := Lib.hid hpl.len
    have hsk := hpl.k
    clear hs hTS hpl
    go_wp2_with fail
    refine (SP.out _ NO1.out).mono ?_
    rintro e w2 ⟨a1, c1, a2, c2, rfl, ho1, ho2, hb2⟩
    have s2 := hb2.size
    have ba2 := ((Below.refl w2.heap.size w2).alloc (Nat.le_refl _) (.cells #[.slice a1 s.xs.length c1, .int .i64 (s.p : Int), .int .i64 (s.k : Int)] 28)).alloc (by simp) (.cells #[.int .i64 ((n : Int) - (s.k : Int)), .int .i64 (s.k : Int)] 30)
    have NO2 := Lib.hid (((NO1.out.below hb2).more s2).below ba2)
    have NT2 := Lib.hid ((Nums.of_own ho2).2.below ba2)
    have B2 := Lib.hid ((B1.out.trans (hb2.mono s1)).trans (ba2.mono (by omega)))
    clear ho1 ho2 hb2 ba2
    go_wp2_with fail
    refine (IP.out _ (NO2.out.more (by simp; omega))).mono ?_
    rintro e w3 ⟨a3, c3, a4, c4, rfl, ho3, ho4, hb3⟩
    have s3 := hb3.size
    simp only [World.size_alloc] at s3
    have ba3 := ((Below.refl w3.heap.size w3).alloc (Nat.le_refl _) (.cells #[.slice a3 s.xs.length c3, .int .i64 (s.p : Int), .int .i64 (s.k : Int)] 28)).alloc (by simp) (.cells #[.int .i64 ((n : Int) - (s.k : Int)), .int .i64 (s.k : Int)] 30)
    have NO3 := Lib.hid (((NO2.out.below (hb3.mono (by simp; omega))).more (show w2.heap.size ≤ w3.heap.size by omega)).below ba3)
    have NT3 := Lib.hid (((NT2.out.below (hb3.mono (by simp; omega))).more (show w2.heap.size ≤ w3.heap.size by omega)).below ba3)
    have NG3 := Lib.hid ((Nums.of_own ho3).2.below ba3)
    have NU3 := Lib.hid ((Nums.of_own ho4).2.below ba3)
    have G3 := Lib.hid ((Blk.new w3 28 #[.slice a3 s.xs.length c3, .int .i64 (s.p : Int), .int .i64 (s.k : Int)]).alloc (.cells #[.int .i64 ((n : Int) - (s.k : Int)), .int .i64 (s.k : Int)] 30))
    have c3b := Blk.new (w3.alloc (.cells #[.slice a3 s.xs.length c3, .int .i64 (s.p : Int), .int .i64 (s.k : Int)] 28)) 30 #[.int .i64 ((n : Int) - (s.k : Int)), .int .i64 (s.k : Int)]
    simp only [World.size_alloc] at c3b
    have C3 := Lib.hid c3b
    have B3 := Lib.hid ((B2.out.trans (hb3.mono (by simp; omega))).trans (ba3.mono (by omega)))
    clear ho3 ho4 hb3 ba3 c3b
    go_wp2_with fail
    refine (same_b a4 a2 _ _ c4 c2 TS _ _ _ NU3.out NT3.out rfl rfl).mono ?_
    rintro e w5 ⟨rfl, hb5⟩
    have s5 := hb5.size
    simp only [World.size_alloc] at s5
    have ba5 := hb5.alloc (by simp; omega) (.cells #[] 3)
    have b5s : (w5.alloc (.cells #[] 3)).heap.size = w5.heap.size + 1 := by simp
    have NO5 := Lib.hid (NO3.out.below (ba5.mono (by simp; omega)))
    have NU5 := Lib.hid (NU3.out.below (ba5.mono (by simp; omega)))
    have NG5 := Lib.hid (NG3.out.below (ba5.mono (by simp; omega)))
    have G5 := Lib.hid (G3.out.below ba5)
    have C5 := Lib.hid (C3.out.below ba5)
    have B5 := Lib.hid (B3.out.trans (ba5.mono (by simp; omega)))
    have o5 := World.ownsRow_made (e := 3) (size := 1) (base := w5.heap.size) w5 #[] 0 (Nat.le_refl _) (by unfold maxLen; omega) (by simp)
    have Q5 : Hid (Qu w5.heap.size (some ⟨w5.heap.size, 0, none⟩) 0 0 [] (w5.alloc (.cells #[] 3))) := Lib.hid (Qu.of_own (ys := []) (by simpa using o5) (by simp))
    clear o5
    have hx1 : ¬ ((n : Int) < 1) := by omega
    have hx2 : ¬ (20 < (n : Int)) := by omega
    have hx3 : ¬ (300 < ops.length) := by omega
    clear hb5 ba5 b5s
    go_wp2
    go_loopw [11, 12] (fun v i wr => ∃ (j : Nat) (la : Option Addr) (ln lc : Nat), j ≤ ops.length ∧ i = .int .i64 j ∧ v = .slice la ln lc ∧ Qu w5.heap.size la ln lc (rList (plS n ops j).xs (plS n ops j).p (plS n ops j).k) wr ∧ Below w5.heap.size (w5.alloc (.cells #[] 3)) wr)
      (fun _ i _ => ops.length - (intOf i).toNat)
    case atStart => exact ⟨0, _, 0, 0, Nat.zero_le _, rfl, rfl, by rw [HS0.out]; exact Q5.out, Below.refl _ _⟩
    case round =>
      obtain ⟨j, la, ln, lc, hj, rfl, rfl, hq, hb⟩ := hrel
      have hsz := hb.size
      simp only [World.size_alloc] at hsz
      by_cases hlt : j < ops.length
      · have hS := HSS.out j hlt
        have hT := HTE.out j hlt
        have hPJ := HPI.out j (by omega)
        have hst := rings_step hPJ n1 (el ops j)
        have hNO := NO5.out.below (hb.mono (by omega))
        have hNU := NU5.out.below (hb.mono (by omega))
        obtain ⟨ob, oo, rfl, hob, hoc⟩ := hNO.lies.resolve_left (by intro h; subst h; simp at hlt)
        obtain ⟨tb, to_, rfl, htb, htc⟩ := hNU.lies.resolve_left (by intro h; have h9 := HTL.out; rw [h] at h9; simp at h9; omega)
        have hck := hoc j hlt
        have htk := htc j (by rw [HTL.out]; exact hlt)
        rw [hT] at htk
        rw [← hS] at hst
        have hlq := hq.nums
        have hll : ln = (plS n ops j).k := by
          obtain ⟨_, _, _, _, _, _, h, _⟩ := hq
          rw [h, rList_len]
        have hkn := hPJ.k
        have hcu := hNU.cap
        have hcb := hNU.big
        have hjt : j < TS.length := by rw [HTL.out]; exact hlt
        subst hll
        have HQ := Lib.hid hq
        have HBW := Lib.hid hb
        clear hNO hNU hoc htc hPJ hT hS hq hb
        generalize el ops j = op at hck htk hst
        obtain ⟨s', hs'⟩ : ∃ s', s' = plS n ops (j + 1) := ⟨_, rfl⟩
        rw [← hs'] at hst
        have HS9 := Lib.hid hs'
        clear hs'
        generalize plTold (plS n ops j) op = T at htk hst
        generalize plS n ops j = sj at HQ hst hkn hlq
        by_cases h0 : 0 ≤ op
        · by_cases hf : sj.k < n
          · obtain ⟨rfl, hr⟩ := hst.1 h0 hf
            obtain ⟨la3, lc3, w6, hrun, hq6, hb6⟩ := HQ.out.append op (show w5.heap.size ≤ wr.heap.size by omega) (by omega) 24
            have HRUN := Lib.hid hrun
            rw [← hr] at hq6
            have HQ6 := Lib.hid hq6
            have HB6 := Lib.hid (HBW.out.trans hb6)
            have hfi : (sj.k : Int) < (n : Int) := by omega
            clear hst hr hrun hq6 hb6 hlq
            go_wp2_with (at_builtin; refine Lib.wpList_append_run _ rfl _ _ _ _ rfl _ _ rfl rfl _ _ HRUN.out ?_)
            go_wp2
            go_roundw
            case rel => exact ⟨j + 1, la3, _, lc3, by omega, by go_num, rfl, by rw [← HS9.out]; exact HQ6.out, HB6.out⟩
            case measure => simp [intOf]; omega
          · obtain ⟨rfl, he⟩ := hst.2.1 h0 hf
            have HE9 := Lib.hid he
            clear he
            have hfi : ¬ ((sj.k : Int) < (n : Int)) := by omega
            clear hst hlq
            go_wp2
            go_roundw
            case rel => exact ⟨j + 1, la, _, lc, by omega, by go_num, rfl, by rw [← HS9.out, HE9.out]; exact HQ.out, HBW.out⟩
            case measure => simp [intOf]; omega
        · have h0' : op < 0 := by omega
          by_cases hf : sj.k = 0
          · obtain ⟨rfl, he⟩ := hst.2.2.1 h0 hf
            have HE9 := Lib.hid he
            clear he
            clear hst hlq
            go_wp2
            go_roundw
            case rel => exact ⟨j + 1, la, sj.k, lc, by omega, by go_num, rfl, by rw [← HS9.out, HE9.out]; exact HQ.out, HBW.out⟩
            case measure => simp [intOf]; omega
          · have hr := hst.2.2.2 h0 (by omega)
            have hkf : ((sj.k : Int) == 0) = false := by rw [beq_eq_false_iff_ne]; omega
            obtain ⟨lb, lo_, rfl, hlb, hlc⟩ := hlq.lies.resolve_left (by intro h; have := congrArg List.length h; rw [rList_len] at this; simp at this; omega)
            have hlk := hlc 0 (by rw [rList_len]; omega)
            rw [hr] at hlk HQ
            simp only [el, List.getD_cons_zero, Nat.add_zero] at hlk
            have hTT : (T != T) = false := by simp
            have hk0 : 0 < sj.k := by omega
            have hk1 : (0 : Int) < (sj.k : Int) := by omega
            have hcap := hlq.cap
            have hcbig := hlq.big
            rw [rList_len] at hcap
            have HT2 := Lib.hid HQ.out.tail2
            by_cases hc1 : lc = 1
            · subst hc1
              have ht1 := HQ.out.tail1
              rw [show sj.k - 1 = 0 by omega] at ht1
              have HT1 := Lib.hid ht1
              clear ht1
              clear hst hr hlc hlq
              go_wp2
              go_quiet (fail)
              all_goals
                go_wp2
                go_roundw
                case rel => exact ⟨j + 1, _, _, _, by omega, by go_num, rfl, by rw [← HS9.out]; exact HT1.out, below_drewN HBW.out _⟩
                case measure => simp [intOf]; omega
            · clear hst hr hlc hlq
              go_wp2
              go_quiet (fail)
              all_goals
                go_wp2
                go_roundw
                case rel => exact ⟨j + 1, _, _, _, by omega, by go_num, rfl, by rw [← HS9.out]; exact HT2.out, below_drewN HBW.out _⟩
                case measure => simp [intOf]; omega
      · obtain rfl : j = ops.length := by omega
        rw [← HSE.out] at hq
        have hsl := HSL.out
        have hlx : s.xs.length ≤ 1048576 := by omega
        have GR := Lib.hid (fun W h1 => implGrow_any a3 s.xs.length c3 s.p s.k 20 s.xs _ W h1 rfl (Nat.le_refl _) hlx)
        have LS := Lib.hid (fun W h1 => implList_any a3 s.xs.length c3 s.p s.k s.xs _ W h1 rfl (Nat.le_refl _) hlx)
        have LKI := Lib.hid (fun W h1 => implLink_any a3 s.xs.length c3 s.p s.k ((n : Int) - (s.k : Int)) s.k s.xs _ W h1 rfl (Nat.le_refl _) hlx)
        have LKS := Lib.hid (fun W h1 => specLink_any a3 s.xs.length c3 s.p s.k ((n : Int) - (s.k : Int)) s.k s.xs _ W h1 rfl (Nat.le_refl _) hlx)
        have hg20 := HEND.out.2.2.2.2.2
        have LS2 := Lib.hid (fun W a6 c6 h1 => implList_any a6 (growL s.xs s.p s.k 20).length c6 0 s.k (growL s.xs s.p s.k 20) _ W h1 rfl (Nat.le_refl _) (by rw [hg20]; omega))
        rw [HEND.out.2.1, HEND.out.2.2.1] at GR
        rw [HEND.out.1] at LS
        rw [HEND.out.2.2.2.1] at LKI LKS
        rw [HEND.out.2.2.2.2.1] at LS2
        have HLN : Hid (ln = (rList s.xs s.p s.k).length) := Lib.hid (by obtain ⟨_, _, _, _, _, _, h, _⟩ := hq; exact h)
        have YQ6 := Lib.hid hq.nums
        have GG := Lib.hid (G5.out.belowB hb (by omega))
        have CC := Lib.hid (C5.out.belowB hb (by omega))
        have NG6 := Lib.hid (NG5.out.below (hb.mono (by omega)))
        have BB := Lib.hid (B5.out.trans (hb.mono (by omega)))
        generalize growL s.xs s.p s.k 20 = L2 at GR LS2 hg20
        generalize rList s.xs s.p s.k = YS at LS LS2 HLN YQ6
        have hsz0 := hsz
        clear hq hb hsl hlx hg20
        have qG_20 := GG.out.cell
        go_wp2_with fail
        refine (GR.out _ (NG6.out.more (by first | omega | (simp only [World.size_alloc]; omega) | (simp only [size_drew_]; omega) | (simp only [World.size_alloc, size_drew_]; omega)))).mono ?_
        rintro e w21 ⟨a21, c21, rfl, ho, hb⟩
        clear qG_20
        have G_21 := Lib.hid (GG.out.below hb)
        clear GG
        have C_21 := Lib.hid (CC.out.below hb)
        clear CC
        have NG_21 := Lib.hid (NG6.out.below (hb.mono (by first | omega | (simp only [World.size_alloc]; omega) | (simp only [size_drew_]; omega) | (simp only [World.size_alloc, size_drew_]; omega))))
        clear NG6
        have YQ_21 := Lib.hid (YQ6.out.below (hb.mono (by first | omega | (simp only [World.size_alloc]; omega) | (simp only [size_drew_]; omega) | (simp only [World.size_alloc, size_drew_]; omega))))
        clear YQ6
        have BB_21 := Lib.hid (BB.out.trans (hb.mono (by first | omega | (simp only [World.size_alloc]; omega) | (simp only [size_drew_]; omega) | (simp only [World.size_alloc, size_drew_]; omega))))
        clear BB
        have L2_21 := Lib.hid (Rw.new ho)
        clear ho
        have s21 := hb.size
        clear hb
        have G_22 := Lib.hid (G_21.out.alloc (.cells #[.slice a21 L2.length c21, .int .i64 0, .int .i64 (s.k : Int)] 28))
        clear G_21
        have C_22 := Lib.hid (C_21.out.alloc (.cells #[.slice a21 L2.length c21, .int .i64 0, .int .i64 (s.k : Int)] 28))
        clear C_21
        have NG_22 := Lib.hid (NG_21.out.below (((Below.refl w21.heap.size w21).alloc (Nat.le_refl _) (.cells #[.slice a21 L2.length c21, .int .i64 0, .int .i64 (s.k : Int)] 28)).mono (by first | omega | (simp only [World.size_alloc]; omega) | (simp only [size_drew_]; omega) | (simp only [World.size_alloc, size_drew_]; omega))))
        clear NG_21
        have YQ_22 := Lib.hid (YQ_21.out.below (((Below.refl w21.heap.size w21).alloc (Nat.le_refl _) (.cells #[.slice a21 L2.length c21, .int .i64 0, .int .i64 (s.k : Int)] 28)).mono (by first | omega | (simp only [World.size_alloc]; omega) | (simp only [size_drew_]; omega) | (simp only [World.size_alloc, size_drew_]; omega))))
        clear YQ_21
        have L2_22 := Lib.hid (L2_21.out.below ((Below.refl w21.heap.size w21).alloc (Nat.le_refl _) (.cells #[.slice a21 L2.length c21, .int .i64 0, .int .i64 (s.k : Int)] 28)) (by first | omega | (simp only [World.size_alloc]; omega) | (simp only [size_drew_]; omega) | (simp only [World.size_alloc, size_drew_]; omega)))
        clear L2_21
        have BB_22 := Lib.hid (BB_21.out.alloc (by first | omega | (simp only [World.size_alloc]; omega) | (simp only [size_drew_]; omega) | (simp only [World.size_alloc, size_drew_]; omega)) (.cells #[.slice a21 L2.length c21, .int .i64 0, .int .i64 (s.k : Int)] 28))
        clear BB_21
        have K13_22 := Lib.hid (Blk.new w21 28 #[.slice a21 L2.length c21, .int .i64 0, .int .i64 (s.k : Int)])
        have qG_22 := G_22.out.cell
        go_wp2_with fail
        refine (LS.out _ (NG_22.out.more (by first | omega | (simp only [World.size_alloc]; omega) | (simp only [size_drew_]; omega) | (simp only [World.size_alloc, size_drew_]; omega)))).mono ?_
        rintro e w23 ⟨a23, c23, rfl, ho, hb⟩
        clear qG_22
        have G_23 := Lib.hid (G_22.out.below hb)
        clear G_22
        have C_23 := Lib.hid (C_22.out.below hb)
        clear C_22
        have NG_23 := Lib.hid (NG_22.out.below (hb.mono (by first | omega | (simp only [World.size_alloc]; omega) | (simp only [size_drew_]; omega) | (simp only [World.size_alloc, size_drew_]; omega))))
        clear NG_22
        have YQ_23 := Lib.hid (YQ_22.out.below (hb.mono (by first | omega | (simp only [World.size_alloc]; omega) | (simp only [size_drew_]; omega) | (simp only [World.size_alloc, size_drew_]; omega))))
        clear YQ_22
        have L2_23 := Lib.hid (L2_22.out.below hb (by first | omega | (simp only [World.size_alloc]; omega) | (simp only [size_drew_]; omega) | (simp only [World.size_alloc, size_drew_]; omega)))
        clear L2_22
        have K13_23 := Lib.hid (K13_22.out.below hb)
        clear K13_22
        have BB_23 := Lib.hid (BB_22.out.trans (hb.mono (by first | omega | (simp only [World.size_alloc]; omega) | (simp only [size_drew_]; omega) | (simp only [World.size_alloc, size_drew_]; omega))))
        clear BB_22
        have A7_23 := Lib.hid (Rw.new ho)
        clear ho
        have s23 := hb.size
        simp only [World.size_alloc] at s23
        clear hb
        go_wp2_with fail
        refine (same_b _ _ _ _ _ _ YS _ _ _ A7_23.out.nums YQ_23.out rfl HLN.out).mono ?_
        rintro e w24 ⟨rfl, hb⟩
        have G_24 := Lib.hid (G_23.out.below hb)
        clear G_23
        have C_24 := Lib.hid (C_23.out.below hb)
        clear C_23
        have NG_24 := Lib.hid (NG_23.out.below (hb.mono (by first | omega | (simp only [World.size_alloc]; omega) | (simp only [size_drew_]; omega) | (simp only [World.size_alloc, size_drew_]; omega))))
        clear NG_23
        have YQ_24 := Lib.hid (YQ_23.out.below (hb.mono (by first | omega | (simp only [World.size_alloc]; omega) | (simp only [size_drew_]; omega) | (simp only [World.size_alloc, size_drew_]; omega))))
        clear YQ_23
        have L2_24 := Lib.hid (L2_23.out.below hb (by first | omega | (simp only [World.size_alloc]; omega) | (simp only [size_drew_]; omega) | (simp only [World.size_alloc, size_drew_]; omega)))
        clear L2_23
        have K13_24 := Lib.hid (K13_23.out.below hb)
        clear K13_23
        have A7_24 := Lib.hid (A7_23.out.below hb (by first | omega | (simp only [World.size_alloc]; omega) | (simp only [size_drew_]; omega) | (simp only [World.size_alloc, size_drew_]; omega)))
        clear A7_23
        have BB_24 := Lib.hid (BB_23.out.trans (hb.mono (by first | omega | (simp only [World.size_alloc]; omega) | (simp only [size_drew_]; omega) | (simp only [World.size_alloc, size_drew_]; omega))))
        clear BB_23
        have s24 := hb.size
        clear hb
        have qG_24 := G_24.out.cell
        have qC_24 := C_24.out.cell
        go_wp2_with fail
        refine (LKI.out _ (NG_24.out.more (by first | omega | (simp only [World.size_alloc]; omega) | (simp only [size_drew_]; omega) | (simp only [World.size_alloc, size_drew_]; omega)))).mono ?_
        rintro e w25 ⟨rfl, hb⟩
        clear qG_24 qC_24
        have G_25 := Lib.hid (G_24.out.below hb)
        clear G_24
        have C_25 := Lib.hid (C_24.out.below hb)
        clear C_24
        have NG_25 := Lib.hid (NG_24.out.below (hb.mono (by first | omega | (simp only [World.size_alloc]; omega) | (simp only [size_drew_]; omega) | (simp only [World.size_alloc, size_drew_]; omega))))
        clear NG_24
        have YQ_25 := Lib.hid (YQ_24.out.below (hb.mono (by first | omega | (simp only [World.size_alloc]; omega) | (simp only [size_drew_]; omega) | (simp only [World.size_alloc, size_drew_]; omega))))
        clear YQ_24
        have L2_25 := Lib.hid (L2_24.out.below hb (by first | omega | (simp only [World.size_alloc]; omega) | (simp only [size_drew_]; omega) | (simp only [World.size_alloc, size_drew_]; omega)))
        clear L2_24
        have K13_25 := Lib.hid (K13_24.out.below hb)
        clear K13_24
        have A7_25 := Lib.hid (A7_24.out.below hb (by first | omega | (simp only [World.size_alloc]; omega) | (simp only [size_drew_]; omega) | (simp only [World.size_alloc, size_drew_]; omega)))
        clear A7_24
        have BB_25 := Lib.hid (BB_24.out.trans (hb.mono (by first | omega | (simp only [World.size_alloc]; omega) | (simp only [size_drew_]; omega) | (simp only [World.size_alloc, size_drew_]; omega))))
        clear BB_24
        have s25 := hb.size
        clear hb
        have qG_25 := G_25.out.cell
        have qC_25 := C_25.out.cell
        go_wp2_with fail
        refine (LKS.out _ (NG_25.out.more (by first | omega | (simp only [World.size_alloc]; omega) | (simp only [size_drew_]; omega) | (simp only [World.size_alloc, size_drew_]; omega)))).mono ?_
        rintro e w26 ⟨rfl, hb⟩
        clear qG_25 qC_25
        have G_26 := Lib.hid (G_25.out.below hb)
        clear G_25
        have C_26 := Lib.hid (C_25.out.below hb)
        clear C_25
        have NG_26 := Lib.hid (NG_25.out.below (hb.mono (by first | omega | (simp only [World.size_alloc]; omega) | (simp only [size_drew_]; omega) | (simp only [World.size_alloc, size_drew_]; omega))))
        clear NG_25
        have YQ_26 := Lib.hid (YQ_25.out.below (hb.mono (by first | omega | (simp only [World.size_alloc]; omega) | (simp only [size_drew_]; omega) | (simp only [World.size_alloc, size_drew_]; omega))))
        clear YQ_25
        have L2_26 := Lib.hid (L2_25.out.below hb (by first | omega | (simp only [World.size_alloc]; omega) | (simp only [size_drew_]; omega) | (simp only [World.size_alloc, size_drew_]; omega)))
        clear L2_25
        have K13_26 := Lib.hid (K13_25.out.below hb)
        clear K13_25
        have A7_26 := Lib.hid (A7_25.out.below hb (by first | omega | (simp only [World.size_alloc]; omega) | (simp only [size_drew_]; omega) | (simp only [World.size_alloc, size_drew_]; omega)))
        clear A7_25
        have BB_26 := Lib.hid (BB_25.out.trans (hb.mono (by first | omega | (simp only [World.size_alloc]; omega) | (simp only [size_drew_]; omega) | (simp only [World.size_alloc, size_drew_]; omega))))
        clear BB_25
        have s26 := hb.size
        clear hb
        have qK13_26 := K13_26.out.cell
        go_wp2_with fail
        refine (LS2.out _ _ _ L2_26.out.nums).mono ?_
        rintro e w27 ⟨a27, c27, rfl, ho, hb⟩
        clear qK13_26
        have G_27 := Lib.hid (G_26.out.below hb)
        clear G_26
        have C_27 := Lib.hid (C_26.out.below hb)
        clear C_26
        have NG_27 := Lib.hid (NG_26.out.below (hb.mono (by first | omega | (simp only [World.size_alloc]; omega) | (simp only [size_drew_]; omega) | (simp only [World.size_alloc, size_drew_]; omega))))
        clear NG_26
        have YQ_27 := Lib.hid (YQ_26.out.below (hb.mono (by first | omega | (simp only [World.size_alloc]; omega) | (simp only [size_drew_]; omega) | (simp only [World.size_alloc, size_drew_]; omega))))
        clear YQ_26
        have L2_27 := Lib.hid (L2_26.out.below hb (by first | omega | (simp only [World.size_alloc]; omega) | (simp only [size_drew_]; omega) | (simp only [World.size_alloc, size_drew_]; omega)))
        clear L2_26
        have K13_27 := Lib.hid (K13_26.out.below hb)
        clear K13_26
        have A7_27 := Lib.hid (A7_26.out.below hb (by first | omega | (simp only [World.size_alloc]; omega) | (simp only [size_drew_]; omega) | (simp only [World.size_alloc, size_drew_]; omega)))
        clear A7_26
        have BB_27 := Lib.hid (BB_26.out.trans (hb.mono (by first | omega | (simp only [World.size_alloc]; omega) | (simp only [size_drew_]; omega) | (simp only [World.size_alloc, size_drew_]; omega))))
        clear BB_26
        have A11_27 := Lib.hid (Rw.new ho)
        clear ho
        have s27 := hb.size
        clear hb
        go_wp2_with fail
        refine (same_b _ _ _ _ _ _ YS _ _ _ A11_27.out.nums YQ_27.out rfl HLN.out).mono ?_
        rintro e w28 ⟨rfl, hb⟩
        have G_28 := Lib.hid (G_27.out.below hb)
        clear G_27
        have C_28 := Lib.hid (C_27.out.below hb)
        clear C_27
        have NG_28 := Lib.hid (NG_27.out.below (hb.mono (by first | omega | (simp only [World.size_alloc]; omega) | (simp only [size_drew_]; omega) | (simp only [World.size_alloc, size_drew_]; omega))))
        clear NG_27
        have YQ_28 := Lib.hid (YQ_27.out.below (hb.mono (by first | omega | (simp only [World.size_alloc]; omega) | (simp only [size_drew_]; omega) | (simp only [World.size_alloc, size_drew_]; omega))))
        clear YQ_27
        have L2_28 := Lib.hid (L2_27.out.below hb (by first | omega | (simp only [World.size_alloc]; omega) | (simp only [size_drew_]; omega) | (simp only [World.size_alloc, size_drew_]; omega)))
        clear L2_27
        have K13_28 := Lib.hid (K13_27.out.below hb)
        clear K13_27
        have A7_28 := Lib.hid (A7_27.out.below hb (by first | omega | (simp only [World.size_alloc]; omega) | (simp only [size_drew_]; omega) | (simp only [World.size_alloc, size_drew_]; omega)))
        clear A7_27
        have A11_28 := Lib.hid (A11_27.out.below hb (by first | omega | (simp only [World.size_alloc]; omega) | (simp only [size_drew_]; omega) | (simp only [World.size_alloc, size_drew_]; omega)))
        clear A11_27
        have BB_28 := Lib.hid (BB_27.out.trans (hb.mono (by first | omega | (simp only [World.size_alloc]; omega) | (simp only [size_drew_]; omega) | (simp only [World.size_alloc, size_drew_]; omega))))
        clear BB_27
        have s28 := hb.size
        clear hb
        have qK13_28 := K13_28.out.cell
        go_wp2
        go_ret
        exact ⟨rfl, BB_28.out⟩
  · have hok := Bool.eq_false_iff.2 hok
    rw [(play_no hok).1, (play_no hok).2.1, (play_no hok).2.2] at SP IP
    have hno : x < 1 ∨ 20 < x ∨ (¬ x < 1 ∧ ¬ 20 < x ∧ 300 < ops.length) := by
      unfold playOk at hok
      rw [Bool.and_eq_false_iff] at hok
      rcases hok with h | h
      · have : ¬ (1 ≤ x ∧ x ≤ 20) := fun hh => by rw [inB_yes hh.1 hh.2] at h; cases h
        omega
      · rw [decide_eq_false_iff_not] at h; omega
    clear hok
    go_wp2_with fail
    refine (SP.out _ NO1.out).mono ?_
    rintro e w2 ⟨a1, c1, a2, c2, rfl, ho1, ho2, hb2⟩
    have s2 := hb2.size
    have ba2 := ((Below.refl w2.heap.size w2).alloc (Nat.le_refl _) (.cells #[.slice a1 ([] : List Int).length c1, .int .i64 ((0 : Nat) : Int), .int .i64 ((0 : Nat) : Int)] 28)).alloc (by simp) (.cells #[.int .i64 0, .int .i64 ((0 : Nat) : Int)] 30)
    have NO2 := Lib.hid (((NO1.out.below hb2).more s2).below ba2)
    have NT2 := Lib.hid ((Nums.of_own ho2).2.below ba2)
    have B2 := Lib.hid ((B1.out.trans (hb2.mono s1)).trans (ba2.mono (by omega)))
    clear ho1 ho2 hb2 ba2
    go_wp2_with fail
    refine (IP.out _ (NO2.out.more (by simp; omega))).mono ?_
    rintro e w3 ⟨a3, c3, a4, c4, rfl, ho3, ho4, hb3⟩
    have s3 := hb3.size
    simp only [World.size_alloc] at s3
    have ba3 := ((Below.refl w3.heap.size w3).alloc (Nat.le_refl _) (.cells #[.slice a3 ([] : List Int).length c3, .int .i64 ((0 : Nat) : Int), .int .i64 ((0 : Nat) : Int)] 28)).alloc (by simp) (.cells #[.int .i64 0, .int .i64 ((0 : Nat) : Int)] 30)
    have NO3 := Lib.hid (((NO2.out.below (hb3.mono (by simp; omega))).more (show w2.heap.size ≤ w3.heap.size by omega)).below ba3)
    have NT3 := Lib.hid (((NT2.out.below (hb3.mono (by simp; omega))).more (show w2.heap.size ≤ w3.heap.size by omega)).below ba3)
    have NG3 := Lib.hid ((Nums.of_own ho3).2.below ba3)
    have NU3 := Lib.hid ((Nums.of_own ho4).2.below ba3)
    have G3 := Lib.hid ((Blk.new w3 28 #[.slice a3 ([] : List Int).length c3, .int .i64 ((0 : Nat) : Int), .int .i64 ((0 : Nat) : Int)]).alloc (.cells #[.int .i64 0, .int .i64 ((0 : Nat) : Int)] 30))
    have c3b := Blk.new (w3.alloc (.cells #[.slice a3 ([] : List Int).length c3, .int .i64 ((0 : Nat) : Int), .int .i64 ((0 : Nat) : Int)] 28)) 30 #[.int .i64 0, .int .i64 ((0 : Nat) : Int)]
    simp only [World.size_alloc] at c3b
    have C3 := Lib.hid c3b
    have B3 := Lib.hid ((B2.out.trans (hb3.mono (by simp; omega))).trans (ba3.mono (by omega)))
    clear ho3 ho4 hb3 ba3 c3b
    go_wp2_with fail
    refine (same_b a4 a2 _ _ c4 c2 ([] : List Int) _ _ _ NU3.out NT3.out rfl rfl).mono ?_
    rintro e w5 ⟨rfl, hb5⟩
    have s5 := hb5.size
    simp only [World.size_alloc] at s5
    have g5 := (G3.out.below hb5).cell
    have B5 := Lib.hid (B3.out.trans (hb5.mono (by simp; omega)))
    clear hb5
    rcases hno with hx | hx | ⟨hx1, hx2, hx3⟩
    · go_wp2
      go_ret
      exact ⟨rfl, B5.out⟩
    · have hx1 : ¬ x < 1 := by omega
      go_wp2
      go_ret
      exact ⟨rfl, B5.out⟩
    · go_wp2
      go_ret
      exact ⟨rfl, B5.out⟩

set_option maxRecDepth 100000 in
theorem lifted (os : Os) (started : os.Started) (H : Type) (enc : TypeId × Value → H) :
    ReturnsInHanded {} Try.checked os 3 .any (Rows.fnRingsSpec.pre6 enc Try.prog Try.f3 Rows.fnRingsRow.domain false) (Rows.fnRingsSpec.post enc Try.prog Try.f3 false true false false) := by
  refine returnsInHanded_of_change (C := Try.checked) own started (by kernel_rfl) Try.func3
    (ChangeSpec.witness6 (enc := enc) (C := Try.checked) false ⟨#[], #[.slice none 0 0], []⟩ 8 (by kernel_rfl) (by kernel_rfl) (by kernel_rfl) (by kernel_rfl)) ?_
  intro W base args ds gs before hval0 hW hcnd _
  have hval : ∀ (j : Nat) t v, Try.f3.params[j]? = some t → args[j]? = some v → Value.okWide Try.prog W .any base t v := hval0
  have hW' := hW
  obtain ⟨p, q, hA0, hV, rfl, hfz, hnd⟩ := hW
  have hA : DataW.TrodAll enc Try.prog W 0 (fun _ => true) true Try.f3.params.toList args.toList ds p := hA0
  rw [Try.params3] at hA hval
  obtain ⟨v0, vs0, d0, ds0, p0, q0, hargs, rfl, rfl, h0, r0⟩ := trodAll_cons hA
  obtain ⟨rfl, rfl, rfl⟩ := trodAll_nil r0
  obtain rfl : args = #[v0] := by cases args; simp_all
  obtain ⟨rfl, rfl⟩ := trodVars_none hV
  have lt0 : ∀ x ∈ p0, x.block < W.heap.size := by obtain ⟨m, hm⟩ := h0; exact DataW.trod_lt m _ _ _ hm
  obtain ⟨a0, n0, c0, rfl, hb0⟩ := arg_code (hval 0 22 v0 rfl rfl) h0
  clear hA0 hval0
  refine (walk W a0 n0 c0 hb0).mono fun e W' ⟨he, bel⟩ => ?_
  subst he
  exact ⟨_, rfl, _, _, _, [], _, [], hW', trodAll_mk1 (shut_bool Try.underlying4 _), (trodAll_cons_mk (Below.trod laidOut (by kernel_rfl) (of_decide_eq_true (by kernel_rfl)) h0 bel lt0) trodAll_mk0), rfl, bel.frame _, fun h => by cases h⟩

theorem over : Rows.fnRingsRow.holds Try.pinned (OpenSpec.ofChange Rows.fnRingsSpec) :=
  OpenClaim.holds_of_wide 3 Try.f3 rfl rfl rfl rfl rfl rfl rfl ⟨rfl, rfl, rfl, rfl, rfl⟩ rfl rfl rfl rfl rfl (by kernel_rfl) Try.func3 (by kernel_rfl)
    (of_decide_eq_true (by kernel_rfl)) (by unfold Func.isWrapper; first | (rw [if_pos (by decide +kernel)]; kernel_rfl) | (rw [if_neg (by decide +kernel)]; exact ⟨rfl, rfl⟩))
    (fun os started H enc _ => lifted os started H enc)

theorem proved : Rows.FnRingsSaid := over
#print axioms proved
end Go.Proofs.Ytkconbmgljmpfaa.fnRings
