/- However drawn bytes are cut into two or three pieces, a decoder that is fed with them tells the frames of AllFrames, and is bad just where that is: the law FnPieces returns true for every slice of bytes that the draws are made of, and the slice reads as before. Conditions: the two faults of the program are as its text lays them (tied). -/
import Derived.Test.YtpigollgjpkflaaDoorRows
import Derived.Test.YtpigollgjpkflaaDoorCards
import Derived.Test.YtpigollgjpkflaaDoorTie
import Derived.Test.YtpigollgjpkflaaDoorOpen
import Derived.Test.YtpigollgjpkflaaDoorFlt
import Derived.Test.YtpigollgjpkflaaDoorTie
import Derived.Test.YtpigollgjpkflaaDoorOpen
import Derived.Test.YtpigollgjpkflaaDoorFlt
import Derived.Test.YtpigollgjpkflaaDoorAllSpec
import Derived.Test.YtpigollgjpkflaaDoorNextImpl
import Derived.Test.YtpigollgjpkflaaDoorFeed
import Derived.Test.YtpigollgjpkflaaDoorDecS
import Derived.Test.YtpigollgjpkflaaDoorDrawBytes
import Derived.Test.YtpigollgjpkflaaDoorSameFrames
import Derived.Test.YtpigollgjpkflaaDoorPlains
import Derived.Test.YtpigollgjpkflaaDoorPcS
import Derived.Test.YtpigollgjpkflaaDoorHeld
import Derived.Test.YtpigollgjpkflaaDoorLawS
import Derived.WalkSmall
import Derived.WalkKit
import Derived.ProofKit
import Derived.OpenShut
import Derived.OpenVars
import Derived.Lay
import Derived.Deep.DeepHandedRow
import Derived.ShutString
import Derived.ChangeOld
import Derived.Below
import Derived.Deep.AppendLies
import Derived.Deep.RegionWith
import Derived.Deep.CutRange
import Derived.Deep.LoopGhost
import Derived.Deep.RegionHeld3
import Derived.StillTailTactics
namespace Go.Proofs.YtpigollgjpkflaaDoor.fnPieces
open Go.ChangeShapes Go.WideShapes Go.ChangeAt Go.RowKit
set_option linter.unusedVariables false

theorem own : ownKnob Tryd.prog.godebug = none := by kernel_rfl
theorem laidOut : laidOutB Tryd.prog = true := by kernel_rfl


set_option maxHeartbeats 16000000 in
set_option maxRecDepth 100000 in
theorem walk (w : World) (a : Option Addr) (len cap : Nat) (hbytes : len ≤ 1048576 → Bytes w w.heap.size a len) (aB aS : Addr) (hf : Flt w w.heap.size aB aS) :
    Calls Tryd.prog 3 #[.slice a len cap] w fun e w' => e = .returned (.bool true) ∧ Below w.heap.size w w' := by
  obtain ⟨i0, hi0, hz0, hz1, hz2⟩ := info_parts infoFr
  have HBG := Lib.hid (fun W => big_any a len cap W)
  by_cases hbig : 1048576 < len
  · have hd : decide ((1048576 : Int) < (len : Int)) = true := by simp; omega
    rw [hd] at HBG
    clear hbytes hf
    go_enter Tryd.func3, Tryd.ntmps3
    go_wp2_with fail
    refine (HBG.out _).mono ?_
    rintro e w' ⟨rfl, rfl⟩
    go_wp2
    go_ret
    exact ⟨rfl, Below.refl _ _⟩
  have hd : decide ((1048576 : Int) < (len : Int)) = false := by simp; omega
  rw [hd] at HBG
  have HB := Lib.hid (hbytes (by omega))
  have HF := Lib.hid hf
  have HFL0 : Hid (∀ (W : World), Below w.heap.size w W → Flt W W.heap.size aB aS) := Lib.hid (fun W h => (HF.out.below h).more h.size)
  have HBY : Hid (∀ (W : World), Below w.heap.size w W → Bytes W w.heap.size a len) := Lib.hid (fun W h => HB.out.below_ h)
  clear hbytes hd hf
  go_enter Tryd.func3, Tryd.ntmps3
  go_wp2_with fail
  refine (HBG.out _).mono ?_
  rintro e w' ⟨rfl, rfl⟩
  go_wp2_with fail
  refine (drawAll_any a len cap _ HB.out).mono ?_
  rintro e w1 ⟨ba, bc, xs, rfl, hx, hl, hN, hb⟩
  have s1 := hb.size
  have B1 := Lib.hid hb
  have N1 := Lib.hid hN
  have HX := Lib.hid hx
  have hcp := hN.cap
  have hcb := hN.big
  clear hb hN hx
  by_cases h400 : 400 < xs.length
  · have hgt : (400 : Int) < (xs.length : Int) := by omega
    go_wp2
    go_ret
    exact ⟨rfl, B1.out⟩
  have hng : ¬ ((400 : Int) < (xs.length : Int)) := by omega
  have h400' : xs.length ≤ 400 := by omega
  have SP := Lib.hid (fun hi W h1 h2 => specAll_any hi ba _ bc xs W h1 rfl h2 HX.out)
  have IP := Lib.hid (fun hi W h1 h2 h3 => implAll_any hi ba _ bc xs aB aS W h1 rfl h2 HX.out h3)
  have haf := af_AF h400'
  generalize (af xs).list = LL at SP IP haf
  generalize (af xs).n = NN at SP IP
  generalize (af xs).bad = BD at SP IP haf
  have HAF := Lib.hid haf
  clear haf
  go_wp2_with fail
  refine (SP.out _ _ N1.out (Nat.le_refl _)).mono ?_
  rintro e w2 ⟨wa, wc, rfl, ho, hb⟩
  have s2 := hb.size
  have B2 := Lib.hid (B1.out.trans (hb.mono s1))
  have N2 := Lib.hid (N1.out.below hb)
  have O2 := Lib.hid ho
  clear ho hb
  go_wp2_with fail
  refine (IP.out _ _ N2.out s2 (HFL0.out _ B2.out)).mono ?_
  rintro e w3 ⟨la, lc, rfl, ho, hb⟩
  have s3 := hb.size
  have B3 := Lib.hid (B2.out.trans (hb.mono (by omega)))
  have N3 := Lib.hid (N2.out.below (hb.mono s2))
  have O3 := Lib.hid (owns_below O2.out hb)
  have I3 := Lib.hid ho
  clear ho hb
  go_wp2_with fail
  refine (sameFrames_any la wa _ _ lc wc _ _ LL _ I3.out O3.out rfl rfl).mono ?_
  rintro e w4 ⟨rfl, hb⟩
  have s4 := hb.size
  have B4 := Lib.hid (B3.out.trans (hb.mono (by omega)))
  have O4 := Lib.hid (owns_below O3.out hb)
  have N4 := Lib.hid ((N3.out.below (hb.mono (by omega))).more (show w1.heap.size ≤ w4.heap.size by omega))
  clear hb
  have HFL : Hid (∀ (W : World), Below w4.heap.size w4 W → Flt W W.heap.size aB aS) := Lib.hid (fun W h => HFL0.out W (B4.out.trans (h.mono (by omega))))
  have HNX : Hid (∀ (W : World), Below w4.heap.size w4 W → Nums .u8 W w4.heap.size ba bc xs) := Lib.hid (fun W h => N4.out.below h)
  have HO4 : Hid (∀ (W : World), Below w4.heap.size w4 W → W.ownsRow w1.heap.size 36 4 (.slice wa LL.length wc) LL.length (flatF LL)) := Lib.hid (fun W h => owns_below O4.out h)
  have HBW : Hid (∀ (W W2 : World), Below w4.heap.size w4 W → Below W.heap.size W W2 → Below w.heap.size w W2) := Lib.hid (fun W W2 h h2 => (B4.out.trans (h.mono (by omega))).trans (h2.mono (by have := h.size; omega)))
  have b5 := (((Below.refl w4.heap.size w4).alloc (Nat.le_refl _) (.cells #[.slice none 0 0, .bool false] 30)).alloc (by simp) (.cells #[] 36)).drew
  have BS := Lib.hid (B4.out.trans (b5.mono (by omega)))
  have BS0 := Lib.hid (B4.out.trans ((((Below.refl w4.heap.size w4).alloc (Nat.le_refl _) (.cells #[.slice none 0 0, .bool false] 30)).alloc (by simp) (.cells #[] 36)).mono (by omega)))
  have PS := Lib.hid (pc_start w4)
  clear b5
  have hl1 : IntKind.i64.wrap ((xs.length : Int) + 1) = (xs.length : Int) + 1 := IntWalk.i64_in _ (by omega)
  have hl2 : ¬ ((xs.length : Int) + 1 = 0) := by omega
  have HMOD : Hid (∀ x : Int, 0 ≤ x → x ≤ 255 → ∃ m : Nat, m ≤ xs.length ∧ (x * 3).tmod ((xs.length : Int) + 1) = (m : Int)) := Lib.hid (fun x h0 h1 => by
    have p0 := Int.emod_nonneg (x * 3) (show ((xs.length : Int) + 1) ≠ 0 by omega)
    have p1 := Int.emod_lt_of_pos (x * 3) (show 0 < ((xs.length : Int) + 1) by omega)
    exact ⟨(x * 3 % ((xs.length : Int) + 1)).toNat, by omega, by rw [Int.tmod_eq_emod_of_nonneg (by omega)]; omega⟩)
  obtain ⟨x0, hx00, hx01, hA0⟩ := at_det 0 a len cap w.heap.size w (by omega) HB.out
  obtain ⟨x1, hx10, hx11, hA1⟩ := at_det 1 a len cap w.heap.size w (by omega) HB.out
  have A0 : Hid (∀ W : World, Below w.heap.size w W → Calls Tryd.prog 9 #[.slice a len cap, .int .i64 0] W fun e w' => e = .returned (.int .i64 x0) ∧ w' = W) := Lib.hid (fun W h => (hA0 W h).mono fun e w' ⟨h1, h2⟩ => ⟨h1, h2.symm⟩)
  have A1 : Hid (∀ W : World, Below w.heap.size w W → Calls Tryd.prog 9 #[.slice a len cap, .int .i64 1] W fun e w' => e = .returned (.int .i64 x1) ∧ w' = W) := Lib.hid (fun W h => (hA1 W h).mono fun e w' ⟨h1, h2⟩ => ⟨h1, h2.symm⟩)
  clear hA0 hA1
  have hw0 : IntKind.i64.wrap (x0 * 3) = x0 * 3 := IntWalk.i64_in _ (by omega)
  have hw1 : IntKind.i64.wrap (x1 * 3) = x1 * 3 := IntWalk.i64_in _ (by omega)
  obtain ⟨m0, hm0, ht0⟩ := HMOD.out x0 hx00 hx01
  obtain ⟨m1, hm1, ht1⟩ := HMOD.out x1 hx10 hx11
  have hv0 : IntKind.i64.wrap (m0 : Int) = (m0 : Int) := IntWalk.i64_in _ (by omega)
  have hv1 : IntKind.i64.wrap (m1 : Int) = (m1 : Int) := IntWalk.i64_in _ (by omega)
  go_upto_region 12 with fail
  go_cut [12] from 55 to 71 (fun s wx => ∃ c0 c1 : Nat, c0 ≤ xs.length ∧ c1 ≤ xs.length ∧ s = .slice (some ⟨w4.heap.size + 2, 0, none⟩) 3 3 ∧ Pc w4.heap.size (w4.heap.size + 2) c0 c1 xs.length (some ⟨w4.heap.size + 1, 0, none⟩) 0 [] none 0 [] false w4 wx)
  case first =>
    go_still_tail 16, (by kernel_rfl)
    still_call (A0.out _ (by first | exact BS.out | exact BS0.out))
    repeat still_step
    still_call (A1.out _ (by first | exact BS.out | exact BS0.out))
    repeat still_step
    refine wpStill_nil ?_
    go_wp2
    go_meet
    case rel => exact ⟨m0, m1, hm0, hm1, by simp, PS.out m0 m1 xs.length⟩
  case rest =>
    obtain ⟨c0, c1, hc0, hc1, rfl, hp0⟩ := hcut
    have P0 := Lib.hid hp0
    clear hp0 hl1 hl2 HMOD PS hw0 hw1 ht0 ht1 hv0 hv1 hm0 hm1 hx00 hx01 hx10 hx11 A0 A1
    obtain ⟨D, hD⟩ : ∃ D, w4.heap.size = D := ⟨_, rfl⟩
    obtain ⟨C, hC⟩ : ∃ C, w4.heap.size + 2 = C := ⟨_, rfl⟩
    rw [hC] at P0 ⊢
    rw [hD] at P0 HFL HNX HO4 HBW ⊢
    have HDQ := Lib.hid hD
    clear hC hD
    go_wp2
    go_loopg [11, 13, 14, 15, 16, 17, 18, 19] 3 (fun gk g fv kv _ _ _ _ _ wr => ∃ (k fr : Nat) (acc : List Fr) (ga : Option Addr) (gc : Nat) (ys : List Int) (bad : Bool) (da : Option Addr) (dc : Nat), k ≤ 3 ∧ gk = 3 - k ∧ kv = .int .i64 k ∧ g = .slice ga acc.length gc ∧ fv = .int .i64 fr ∧ fr ≤ xs.length ∧ (k = 3 → fr = xs.length) ∧ Out xs fr acc ys bad ∧ IsB ys ∧ Pc D C c0 c1 xs.length ga gc acc da dc ys bad w4 wr)
    case atStart => exact ⟨0, 0, [], _, 0, [], false, none, 0, by omega, rfl, rfl, rfl, rfl, Nat.zero_le _, by omega, Out.start xs, isB_nil, P0.out⟩
    case round =>
      clear P0
      obtain ⟨k, fr, acc, ga, gc, ys, bad, da, dc, hk, hgk, rfl, rfl, rfl, hfr, hk3, hout, hxy, hp⟩ := hrel
      have HGK := Lib.hid hgk
      clear hgk
      have HO0 := Lib.hid hout
      have HXY := Lib.hid hxy
      have P := Lib.hid hp
      have hyl := (hout.le h400').1
      have hal := (hout.le h400').2
      have hsz := hp.bel.size
      have hDl := hp.dec.lt
      clear hout hxy hp
      by_cases hlt : k < 3
      · have hlt' : (k : Int) < 3 := by omega
        have HZ : Hid (∀ ga gc acc da dc ys bad W, Pc D C c0 c1 xs.length ga gc acc da dc ys bad w4 W → W.cell? ⟨C, k, none⟩ = some (.int .i64 (([c0, c1, xs.length].getD k 0 : Nat) : Int))) := Lib.hid (fun _ _ _ _ _ _ _ _ h => h.cutAt k hlt)
        have hc : [c0, c1, xs.length].getD k 0 ≤ xs.length := by
          have : k = 0 ∨ k = 1 ∨ k = 2 := by omega
          rcases this with rfl | rfl | rfl
          · exact hc0
          · exact hc1
          · exact Nat.le_refl _
        have HC2 : Hid (k = 2 → [c0, c1, xs.length].getD k 0 = xs.length) := Lib.hid (by rintro rfl; rfl)
        generalize [c0, c1, xs.length].getD k 0 = c at HZ hc HC2
        have z0 := HZ.out _ _ _ _ _ _ _ _ P.out
        have q0 := P.out.dec.cell
        by_cases hcl : c < fr
        · have hcl' : (c : Int) < (fr : Int) := by omega
          go_wp2
          go_roundg (3 - (k + 1))
          case measure => (have hg9 := HGK.out; omega)
          case rel => exact ⟨k + 1, fr, acc, ga, gc, ys, bad, da, dc, (by omega), rfl, (by go_num), rfl, rfl, hfr, (by intro h9; have h8 := HC2.out (by omega); omega), HO0.out, HXY.out, P.out⟩
        · have hcl' : ¬ ((c : Int) < (fr : Int)) := by omega
          have hql : ((xs.take c).drop fr).length = c - fr := by rw [List.length_drop, List.length_take]; omega
          obtain ⟨ys2, ok, hfe, hinn, hx2, hokk⟩ : ∃ (ys2 : List Int) (ok : Bool), (∀ (A' : Option Addr) (R : Nat) (W : World), Below D w4 W → Nums .u8 W W.heap.size da dc ys → Nums .u8 W D A' R ((xs.take c).drop fr) → Calls Tryd.prog 10 #[.agg #[.slice da ys.length dc, .bool bad], .slice A' (c - fr) R] W (FreshDecOk 5 ys2 bad ok W)) ∧ Inn xs c acc ys2 bad ∧ IsB ys2 ∧ (ok = true ∨ (ok = false ∧ ys2 = ys ∧ bad = true)) := by
            cases bad with
            | false =>
              have hf := HO0.out.feed (show fr ≤ c by omega) hc h400'
              refine ⟨ys ++ (xs.take c).drop fr, true, fun A' R W h1 h2 h3 => ?_, hf.2, isB_app HXY.out ((HX.out.take c).drop fr), .inl rfl⟩
              have h := implFeed_any da A' _ dc _ R false ys ((xs.take c).drop fr) _ _ W h2 h3 rfl rfl (Nat.le_refl _) (by have := h1.size; have := HDQ.out; omega) (by omega) (by rw [hql]; omega)
              rw [feedL_yes (feed_yes hf.1), feed_yes hf.1, hql] at h
              exact h
            | true =>
              have hf := HO0.out.stay (show fr ≤ c by omega)
              have hyn := hf.1
              subst hyn
              refine ⟨[], false, fun A' R W h1 h2 h3 => ?_, hf.2, isB_nil, .inr ⟨rfl, rfl, rfl⟩⟩
              have h := implFeed_any da A' _ dc _ R true [] ((xs.take c).drop fr) _ _ W h2 h3 rfl rfl (Nat.le_refl _) (by have := h1.size; have := HDQ.out; omega) (by simp) (by rw [hql]; omega)
              rw [feedL_no feed_no2, feed_no2, hql] at h
              exact h
          have HFE := Lib.hid hfe
          have HINN := Lib.hid hinn
          have HX2 := Lib.hid hx2
          have HOK := Lib.hid hokk
          have HQN := Lib.hid (fun W h => (((HNX.out W h).take c bc (by omega) (by omega) (Nat.le_refl _)).drop fr (by rw [List.length_take]; omega)))
          clear hfe hinn hx2 hokk
          go_upto_region 18 with fail
          go_cut [15, 16] from 72 to 115 (fun s15 s16 wx => ∃ (G : Nat) (a5 : Option Addr) (c5 : Nat), s15 = .pointer (some ⟨G, 0, none⟩) ∧ s16 = .bool ok ∧ D < G ∧ Blk wx G 30 #[.slice a5 ys2.length c5, .bool bad] ∧ wx.ownsRow (D + 1) 5 1 (.slice a5 ys2.length c5) ys2.length (ys2.map (Value.int .u8)) ∧ Pc D C c0 c1 xs.length ga gc acc da dc ys bad w4 wx)
          case first =>
            have hCl := P.out.cut.lt
            have HS : Hid (∀ W : World, Pc D C c0 c1 xs.length ga gc acc da dc ys bad w4 W → W.cell? ⟨D, 0, none⟩ = some (.slice da ys.length dc) ∧ W.cell? ⟨D, 1, none⟩ = some (.bool bad) ∧ W.cell? ⟨C, k, none⟩ = some (.int .i64 (c : Int))) := Lib.hid (fun W h => ⟨h.dec.cell 0, h.dec.cell 1, HZ.out _ _ _ _ _ _ _ W h⟩)
            have PZ := Lib.hid ((P.out.alloc_ (.cells #[.slice none 0 0, .bool false] 30)).drew_)
            have KZ : Hid (Blk (wr.alloc (.cells #[.slice none 0 0, .bool false] 30)).drew wr.heap.size 30 #[.slice none 0 0, .bool false]) := Blk.new wr 30 #[.slice none 0 0, .bool false]
            by_cases hcf : bc = fr
            · subst hcf
              have e9 : bc = c := by omega
              subst e9
              have hqN := HQN.out
              rw [if_pos rfl, show bc - bc = 0 by omega] at hqN
              have HFA : Hid (∀ W : World, Below D w4 W → Nums .u8 W W.heap.size da dc ys → Calls Tryd.prog 10 #[.agg #[.slice da ys.length dc, .bool bad], .slice ba 0 0] W (FreshDecOk 5 ys2 bad ok W)) := Lib.hid (fun W h1 h2 => by
                have h := HFE.out ba 0 W h1 h2 (hqN W h1)
                rw [show bc - bc = 0 by omega] at h
                exact h)
              clear hqN
              go_region_held3 (fun W => W.cell? ⟨D, 0, none⟩ = some (.slice da ys.length dc) ∧ W.cell? ⟨D, 1, none⟩ = some (.bool bad) ∧ W.cell? ⟨C, k, none⟩ = some (.int .i64 (bc : Int)))
                (first | exact HS.out _ P.out.drew_ | exact HS.out _ PZ.out | exact HS.out _ PC5.out | exact HS.out _ (PC5.out.alloc_ _) | exact HS.out _ P5.out | exact HS.out _ (P.out.drew_.alloc_ _))
                (first
                | (go_at_call 10; refine (HFA.out _ (P.out.bel.drew) (Nums.of_own P.out.drew_.row).2).mono ?_; rintro e w5 ⟨a5, c5, rfl, ho, hb⟩; have PC5 := Lib.hid (P.out.drew_.calm hb); have P5 := Lib.hid (PC5.out.alloc_ (.cells #[.slice a5 ys2.length c5, .bool bad] 30)); have R5 := Lib.hid ((owns_less ho (show D + 1 ≤ _ by simp; omega)).alloc (.cells #[.slice a5 ys2.length c5, .bool bad] 30)); have K5 := Lib.hid (Blk.new w5 30 #[.slice a5 ys2.length c5, .bool bad]); have l5 : wr.heap.size ≤ w5.heap.size := hb.size; have HM := Lib.hid (show D < w5.heap.size by omega); clear ho hb)
                | (go_at_call 10; refine (HFA.out _ (PZ.out.bel) (Nums.of_own PZ.out.row).2).mono ?_; rintro e w5 ⟨a5, c5, rfl, ho, hb⟩; have kz := KZ.out.below hb; have qz := kz.cell; have fz := kz.frozen; have lz := kz.lt; have PC5 := Lib.hid (PZ.out.calm hb); have P5 := Lib.hid ((PC5.out.setNext (i := 0) kz hDl (.slice a5 ys2.length c5)).setNext (i := 1) (kz.setD 0 _) hDl (.bool bad)); have R5 := Lib.hid (((owns_less ho (show D + 1 ≤ _ by simp; omega)).kept (grown_setCell _ wr.heap.size 0 (.slice a5 ys2.length c5)) (.inr (fun e => blk_ne (by decide) kz ho e.symm))).kept (grown_setCell _ wr.heap.size 1 (.bool bad)) (.inr (fun e => blk_ne (by decide) kz ho e.symm))); have K5 := Lib.hid ((kz.setD 0 (.slice a5 ys2.length c5)).setD 1 (.bool bad)); have HM := Lib.hid hDl; clear ho hb kz))
              all_goals
                go_wp2_with fail
                go_meet
                case rel => exact ⟨_, a5, c5, rfl, rfl, HM.out, K5.out, R5.out, P5.out⟩
            · have i0_ : (0 : Int) ≤ (fr : Int) := by omega
              have i1_ : (fr : Int) ≤ (c : Int) := by omega
              have i2_ : (c : Int) ≤ (bc : Int) := by omega
              have i3_ : fr ≤ c := by omega
              have i4_ : c ≤ bc := by omega
              have hqN := HQN.out
              rw [if_neg hcf] at hqN
              simp only [Nat.mul_one] at hqN
              have HFA : Hid (∀ W : World, Below D w4 W → Nums .u8 W W.heap.size da dc ys → Calls Tryd.prog 10 #[.agg #[.slice da ys.length dc, .bool bad], .slice (Option.map (fun x => x.add fr) ba) (c - fr) (bc - fr)] W (FreshDecOk 5 ys2 bad ok W)) := Lib.hid (fun W h1 h2 => HFE.out _ _ W h1 h2 (hqN W h1))
              clear hqN
              go_region_held3 (fun W => W.cell? ⟨D, 0, none⟩ = some (.slice da ys.length dc) ∧ W.cell? ⟨D, 1, none⟩ = some (.bool bad) ∧ W.cell? ⟨C, k, none⟩ = some (.int .i64 (c : Int)))
                (first | exact HS.out _ P.out.drew_ | exact HS.out _ PZ.out | exact HS.out _ PC5.out | exact HS.out _ (PC5.out.alloc_ _) | exact HS.out _ P5.out | exact HS.out _ (P.out.drew_.alloc_ _))
                (first
                | (go_at_call 10; refine (HFA.out _ (P.out.bel.drew) (Nums.of_own P.out.drew_.row).2).mono ?_; rintro e w5 ⟨a5, c5, rfl, ho, hb⟩; have PC5 := Lib.hid (P.out.drew_.calm hb); have P5 := Lib.hid (PC5.out.alloc_ (.cells #[.slice a5 ys2.length c5, .bool bad] 30)); have R5 := Lib.hid ((owns_less ho (show D + 1 ≤ _ by simp; omega)).alloc (.cells #[.slice a5 ys2.length c5, .bool bad] 30)); have K5 := Lib.hid (Blk.new w5 30 #[.slice a5 ys2.length c5, .bool bad]); have l5 : wr.heap.size ≤ w5.heap.size := hb.size; have HM := Lib.hid (show D < w5.heap.size by omega); clear ho hb)
                | (go_at_call 10; refine (HFA.out _ (PZ.out.bel) (Nums.of_own PZ.out.row).2).mono ?_; rintro e w5 ⟨a5, c5, rfl, ho, hb⟩; have kz := KZ.out.below hb; have qz := kz.cell; have fz := kz.frozen; have lz := kz.lt; have PC5 := Lib.hid (PZ.out.calm hb); have P5 := Lib.hid ((PC5.out.setNext (i := 0) kz hDl (.slice a5 ys2.length c5)).setNext (i := 1) (kz.setD 0 _) hDl (.bool bad)); have R5 := Lib.hid (((owns_less ho (show D + 1 ≤ _ by simp; omega)).kept (grown_setCell _ wr.heap.size 0 (.slice a5 ys2.length c5)) (.inr (fun e => blk_ne (by decide) kz ho e.symm))).kept (grown_setCell _ wr.heap.size 1 (.bool bad)) (.inr (fun e => blk_ne (by decide) kz ho e.symm))); have K5 := Lib.hid ((kz.setD 0 (.slice a5 ys2.length c5)).setD 1 (.bool bad)); have HM := Lib.hid hDl; clear ho hb kz))
              all_goals
                go_wp2_with fail
                go_meet
                case rel => exact ⟨_, a5, c5, rfl, rfl, HM.out, K5.out, R5.out, P5.out⟩
          case rest =>
            obtain ⟨G, a5, c5, rfl, rfl, hDG, hk5, hr5, hp5⟩ := hcut
            have P5 := Lib.hid hp5
            have R5 := Lib.hid hr5
            have K5 := Lib.hid hk5
            have HDG := Lib.hid hDG
            have hl5 := hp5.dec.lt
            clear P HFE HQN q0 z0 hk5 hr5 hp5 hDG
            go_upto_if 94 with fail
            go_cut [15, 16] from 72 to 115 (fun _ _ wx => ∃ (da : Option Addr) (dc : Nat), Pc D C c0 c1 xs.length ga gc acc da dc ys2 bad w4 wx)
            case first =>
              have q5 := K5.out.cell
              have q6 := P5.out.dec.cell
              have q7 := P5.out.dec.frozen
              rcases HOK.out with rfl | ⟨rfl, rfl, rfl⟩
              · have P9 := Lib.hid (P5.out.stored (zs := ys2) (bad2 := bad) R5.out)
                have hne := HDG.out
                go_wp2
                go_meet
                case rel => exact ⟨a5, c5, P9.out⟩
              · go_wp2
                go_meet
                case rel => exact ⟨da, dc, P5.out⟩
            case rest =>
              obtain ⟨da, dc, hp9⟩ := hcut
              have P9 := Lib.hid hp9
              have z9 := HZ.out _ _ _ _ _ _ _ _ hp9
              have HI := HINN
              clear hp9 P5 R5 K5 HOK HINN
              go_wp2
              go_loopg [11, 17, 18, 19] (401 - acc.length) (fun gk g _ _ _ wr => ∃ (acc : List Fr) (ga : Option Addr) (gc : Nat) (ys : List Int) (bad : Bool) (da : Option Addr) (dc : Nat), gk = 401 - acc.length ∧ g = .slice ga acc.length gc ∧ Inn xs c acc ys bad ∧ IsB ys ∧ Pc D C c0 c1 xs.length ga gc acc da dc ys bad w4 wr)
              case atStart => exact ⟨acc, ga, gc, _, _, _, _, rfl, rfl, HI.out, HX2.out, P9.out⟩
              case round =>
                clear HI HX2 P9
                obtain ⟨acc, ga, gc, ys, bad, da, dc, hgi, rfl, hinn, hxy, hp⟩ := hrel
                have HGI := Lib.hid hgi
                clear hgi
                have HI := Lib.hid hinn
                have HXY := Lib.hid hxy
                have P := Lib.hid hp
                have hyl := hinn.le
                have hal := hinn.len h400'
                clear hinn hxy hp
                have q0 := P.out.dec.cell
                have hsz := P.out.bel.size
                have hDl := P.out.dec.lt
                cases bad with
                | false =>
                  have hgood : nxGood ys false = true := by simp [nxGood, dOk, hyl]
                  cases hh : tkHere ys with
                  | true =>
                    have HI2 := Lib.hid (HI.out.here hh)
                    have HX3 := Lib.hid (HXY.out.drop (put0 ys).length)
                    have HN : Hid (∀ (W : World), Nums .u8 W W.heap.size da dc ys → Flt W W.heap.size aB aS → Calls Tryd.prog 11 #[.agg #[.slice da ys.length dc, .bool false]] W (NextRes ⟨ys.drop (put0 ys).length, false, f0K ys, f0Y ys, f0T ys, f0V ys, 0⟩ W)) := Lib.hid (fun W h1 h2 => by
                      have h := implNext_any W.heap.size da _ dc false ys aB aS W h1 rfl (Nat.le_refl _) HXY.out (by omega) h2
                      rw [nx_here hgood hh] at h
                      exact h)
                    have HFS : Hid (flatF (acc ++ [fr0 ys]) = flatF acc ++ [.int .i64 (f0K ys), .int .i64 (f0Y ys), .int .i64 (f0T ys), .int .i64 (f0V ys)]) := Lib.hid (flatF_snoc acc (fr0 ys))
                    clear hh hgood
                    generalize fr0 ys = F0 at HI2 HFS
                    generalize f0K ys = K at HN HFS
                    generalize f0Y ys = Y at HN HFS
                    generalize f0T ys = T at HN HFS
                    generalize f0V ys = V at HN HFS
                    generalize ys.drop (put0 ys).length = zs at HN HI2 HX3
                    go_wp2_with fail
                    refine (HN.out _ (Nums.of_own P.out.row).2 (HFL.out _ P.out.bel)).mono ?_
                    rintro e w5 ⟨a5, c5, he, ho, hb⟩
                    dsimp only at he ho
                    subst he
                    have P5 := Lib.hid (P.out.calm hb)
                    have R5_ := Lib.hid (owns_less ho (show D + 1 ≤ _ by omega))
                    have R6 := Lib.hid (((owns_less ho (show D + 1 ≤ _ by omega)).alloc (.cells #[.slice a5 zs.length c5, .bool false] 30)).alloc (.cells #[.int .i64 K, .int .i64 Y, .int .i64 T, .int .i64 V] 36))
                    clear ho hb
                    have P6 := Lib.hid ((P5.out.alloc_ (.cells #[.slice a5 zs.length c5, .bool false] 30)).alloc_ (.cells #[.int .i64 K, .int .i64 Y, .int .i64 T, .int .i64 V] 36))
                    have K5 := Lib.hid ((Blk.new w5 30 #[.slice a5 zs.length c5, .bool false]).alloc (.cells #[.int .i64 K, .int .i64 Y, .int .i64 T, .int .i64 V] 36))
                    have F5 := Lib.hid (Blk.new (w5.alloc (.cells #[.slice a5 zs.length c5, .bool false] 30)) 36 #[.int .i64 K, .int .i64 Y, .int .i64 T, .int .i64 V])
                    have q5 := K5.out.cell
                    have q6 := P6.out.dec.cell
                    have q6f := P6.out.dec.frozen
                    have q6g := P5.out.dec.frozen
                    have q6h := P5.out.dec.cell
                    have P7 := Lib.hid (P6.out.stored (bad2 := false) R6.out)
                    have hD5 := P5.out.dec.lt
                    have f7 := (Blk.new (((w5.setCell ⟨D, 0, none⟩ (.slice a5 zs.length c5)).setCell ⟨D, 1, none⟩ (.bool false)).alloc (.cells #[.slice a5 zs.length c5, .bool false] 30)) 36 #[.int .i64 K, .int .i64 Y, .int .i64 T, .int .i64 V]).cell
                    simp only [World.size_alloc, World.size_setCell] at f7
                    have P8 := Lib.hid ((((P5.out.stored (bad2 := false) R5_.out).alloc_ (.cells #[.slice a5 zs.length c5, .bool false] 30)).alloc_ (.cells #[.int .i64 K, .int .i64 Y, .int .i64 T, .int .i64 V] 36)).alloc_ (.cells #[.int .i64 K, .int .i64 Y, .int .i64 T, .int .i64 V] 36))
                    go_wp2_with (at_builtin; refine wpList_append_own _ rfl _ _ 25 rfl (D + 1) 36 i0 (.agg #[.int .i64 0, .int .i64 0, .int .i64 0, .int .i64 0]) 4 32 Tryd.underlying25 hi0 hz0 hz1 hz2 rfl (by decide) _ _ _ rfl P8.out.got ⟨_, 0, none⟩ 1 1 [.int .i64 K, .int .i64 Y, .int .i64 T, .int .i64 V] rfl rfl (news4 (by simp)) (one4 _ _ _ _) ?c3 ?c4 ?c5 ?_)
                    case c3 => unfold maxLen; omega
                    case c4 => omega
                    case c5 => simp; omega
                    intro v' w9 hown' hg _
                    obtain ⟨ga2, gc2, rfl⟩ := owns_shape hown'
                    have hl9 : (acc ++ [F0]).length = acc.length + 1 := by simp
                    have P9 : Hid (Pc D C c0 c1 xs.length ga2 gc2 (acc ++ [F0]) a5 c5 zs false w4 w9) := Lib.hid (P8.out.more hg (by rw [hl9, HFS.out]; exact hown'))
                    have HL9 := Lib.hid hl9
                    clear hown' hg hl9
                    go_wp2
                    go_roundg (401 - (acc.length + 1))
                    case measure => (have hg9 := HGI.out; omega)
                    case rel => exact ⟨acc ++ [F0], ga2, gc2, zs, false, a5, c5, (by rw [HL9.out]), (by rw [HL9.out]), HI2.out, HX3.out, P9.out⟩
                  | false =>
                    cases hm : tkMore ys with
                    | true =>
                      have HO := Lib.hid (HI.out.more hh hm)
                      have HXE := Lib.hid HXY.out
                      have HN : Hid (∀ (W : World), Nums .u8 W W.heap.size da dc ys → Flt W W.heap.size aB aS → Calls Tryd.prog 11 #[.agg #[.slice da ys.length dc, .bool false]] W (NextRes ⟨ys, false, 0, 0, 0, 0, 1⟩ W)) := Lib.hid (fun W h1 h2 => by
                        have h := implNext_any W.heap.size da _ dc false ys aB aS W h1 rfl (Nat.le_refl _) HXY.out (by first | omega | simp) h2
                        rw [nx_more hgood hh hm] at h
                        exact h)
                      go_wp2_with fail
                      refine (HN.out _ (Nums.of_own P.out.row).2 (HFL.out _ P.out.bel)).mono ?_
                      rintro e w5 ⟨a5, c5, he, ho, hb⟩
                      dsimp only at he ho
                      subst he
                      have P5 := Lib.hid (P.out.calm hb)
                      have R6 := Lib.hid (((owns_less ho (show D + 1 ≤ _ by omega)).alloc (.cells #[.slice a5 ys.length c5, .bool false] 30)).alloc (.cells #[.int .i64 0, .int .i64 0, .int .i64 0, .int .i64 0] 36))
                      clear ho hb
                      have P6 := Lib.hid ((P5.out.alloc_ (.cells #[.slice a5 ys.length c5, .bool false] 30)).alloc_ (.cells #[.int .i64 0, .int .i64 0, .int .i64 0, .int .i64 0] 36))
                      have K5 := Lib.hid ((Blk.new w5 30 #[.slice a5 ys.length c5, .bool false]).alloc (.cells #[.int .i64 0, .int .i64 0, .int .i64 0, .int .i64 0] 36))
                      have q5 := K5.out.cell
                      have q6 := P6.out.dec.cell
                      have q6f := P6.out.dec.frozen
                      have P7 := Lib.hid (P6.out.stored (zs := ys) (bad2 := false) R6.out)
                      go_wp2
                      go_roundg (3 - (k + 1))
                      case measure => (have hg9 := HGK.out; omega)
                      case rel => exact ⟨k + 1, c, acc, ga, gc, ys, false, a5, c5, (by omega), rfl, (by go_num), rfl, rfl, hc, (by intro h9; have h8 : k = 2 := (by omega); subst h8; exact HC2.out rfl), HO.out, HXE.out, P7.out⟩
                    | false =>
                      have HO := Lib.hid (HI.out.bent hh hm)
                      have HXE := Lib.hid isB_nil
                      have HN : Hid (∀ (W : World), Nums .u8 W W.heap.size da dc ys → Flt W W.heap.size aB aS → Calls Tryd.prog 11 #[.agg #[.slice da ys.length dc, .bool false]] W (NextRes ⟨[], true, 0, 0, 0, 0, 2⟩ W)) := Lib.hid (fun W h1 h2 => by
                        have h := implNext_any W.heap.size da _ dc false ys aB aS W h1 rfl (Nat.le_refl _) HXY.out (by first | omega | simp) h2
                        rw [nx_bent hgood hh hm] at h
                        exact h)
                      go_wp2_with fail
                      refine (HN.out _ (Nums.of_own P.out.row).2 (HFL.out _ P.out.bel)).mono ?_
                      rintro e w5 ⟨a5, c5, he, ho, hb⟩
                      dsimp only at he ho
                      subst he
                      have P5 := Lib.hid (P.out.calm hb)
                      have R6 := Lib.hid (((owns_less ho (show D + 1 ≤ _ by omega)).alloc (.cells #[.slice a5 0 c5, .bool true] 30)).alloc (.cells #[.int .i64 0, .int .i64 0, .int .i64 0, .int .i64 0] 36))
                      clear ho hb
                      have P6 := Lib.hid ((P5.out.alloc_ (.cells #[.slice a5 0 c5, .bool true] 30)).alloc_ (.cells #[.int .i64 0, .int .i64 0, .int .i64 0, .int .i64 0] 36))
                      have K5 := Lib.hid ((Blk.new w5 30 #[.slice a5 0 c5, .bool true]).alloc (.cells #[.int .i64 0, .int .i64 0, .int .i64 0, .int .i64 0] 36))
                      have q5 := K5.out.cell
                      have q6 := P6.out.dec.cell
                      have q6f := P6.out.dec.frozen
                      have P7 := Lib.hid (P6.out.stored (zs := []) (bad2 := true) R6.out)
                      go_wp2
                      go_roundg (3 - (k + 1))
                      case measure => (have hg9 := HGK.out; omega)
                      case rel => exact ⟨k + 1, c, acc, ga, gc, [], true, a5, c5, (by omega), rfl, (by go_num), rfl, rfl, hc, (by intro h9; have h8 : k = 2 := (by omega); subst h8; exact HC2.out rfl), HO.out, HXE.out, P7.out⟩
                | true =>
                  have hyn := HI.out.bad.1
                  have HO := Lib.hid HI.out.bad.2
                  subst hyn
                  have hgood : nxGood [] true = false := by simp [nxGood]
                  have HXE := Lib.hid isB_nil
                  have HN : Hid (∀ (W : World), Nums .u8 W W.heap.size da dc [] → Flt W W.heap.size aB aS → Calls Tryd.prog 11 #[.agg #[.slice da 0 dc, .bool true]] W (NextRes ⟨[], true, 0, 0, 0, 0, 2⟩ W)) := Lib.hid (fun W h1 h2 => by
                    have h := implNext_any W.heap.size da _ dc true [] aB aS W h1 rfl (Nat.le_refl _) HXY.out (by first | omega | simp) h2
                    rw [nx_bad hgood] at h
                    exact h)
                  go_wp2_with fail
                  refine (HN.out _ (Nums.of_own P.out.row).2 (HFL.out _ P.out.bel)).mono ?_
                  rintro e w5 ⟨a5, c5, he, ho, hb⟩
                  dsimp only at he ho
                  subst he
                  have P5 := Lib.hid (P.out.calm hb)
                  have R6 := Lib.hid (((owns_less ho (show D + 1 ≤ _ by omega)).alloc (.cells #[.slice a5 0 c5, .bool true] 30)).alloc (.cells #[.int .i64 0, .int .i64 0, .int .i64 0, .int .i64 0] 36))
                  clear ho hb
                  have P6 := Lib.hid ((P5.out.alloc_ (.cells #[.slice a5 0 c5, .bool true] 30)).alloc_ (.cells #[.int .i64 0, .int .i64 0, .int .i64 0, .int .i64 0] 36))
                  have K5 := Lib.hid ((Blk.new w5 30 #[.slice a5 0 c5, .bool true]).alloc (.cells #[.int .i64 0, .int .i64 0, .int .i64 0, .int .i64 0] 36))
                  have q5 := K5.out.cell
                  have q6 := P6.out.dec.cell
                  have q6f := P6.out.dec.frozen
                  have P7 := Lib.hid (P6.out.stored (zs := []) (bad2 := true) R6.out)
                  go_wp2
                  go_roundg (3 - (k + 1))
                  case measure => (have hg9 := HGK.out; omega)
                  case rel => exact ⟨k + 1, c, acc, ga, gc, [], true, a5, c5, (by omega), rfl, (by go_num), rfl, rfl, hc, (by intro h9; have h8 : k = 2 := (by omega); subst h8; exact HC2.out rfl), HO.out, HXE.out, P7.out⟩
      · obtain rfl : k = 3 := by omega
        obtain rfl : fr = xs.length := hk3 rfl
        have e1 : acc = LL := by rw [HAF.out.1, HO0.out.acc_, List.take_length]
        have e2 : bad = BD := by rw [HAF.out.2, HO0.out.bad_, List.take_length]
        have hdk : dOk ys.length bad = true := by
          cases bad with
          | false => exact dOk_good hyl
          | true => rw [HO0.out.gone rfl]; exact dOk_bad0
        subst e1
        subst e2
        have HDK : Hid (∀ W : World, Calls Tryd.prog 12 #[.agg #[.slice da ys.length dc, .bool bad]] W fun e w' => e = .returned (.bool true) ∧ Below W.heap.size W w') := Lib.hid (fun W => by
          have h := specDecOk_any da ys.length dc bad W (by omega)
          rw [hdk] at h
          exact h)
        clear hdk
        go_wp2_with fail
        refine (sameFrames_any ga wa _ _ gc _ _ _ acc _ P.out.got (HO4.out _ P.out.bel) rfl rfl).mono ?_
        rintro e w5 ⟨rfl, hb⟩
        have P5 := Lib.hid (P.out.calm hb)
        have q5 := P5.out.dec.cell
        clear hb
        go_wp2_with fail
        refine (HDK.out _).mono ?_
        rintro e w6 ⟨rfl, hb⟩
        have BE := Lib.hid (HBW.out _ _ P5.out.bel hb)
        clear hb
        go_wp2
        exact bodyPost_ret (v := .bool true) (by simp [results, Tryd.results3, go_sem]) rfl ⟨rfl, BE.out⟩

theorem plainList : (Rows.fnPiecesRow.laid.all fun x => x.2.handleName?.isNone) = true := by kernel_rfl
noncomputable def world (os : Os) : World := World.laidAll Tryd.prog os Rows.fnPiecesRow.laid
theorem world_shaped (os : Os) : ((world os).forCall (fun _ _ => 0) ⟨#[], #[.slice none 0 0], []⟩).Shaped Tryd.prog := World.shaped_of_ZipB (by kernel_rfl) (by kernel_rfl)
theorem world_laid (os : Os) : laidMetH Tryd.prog Rows.fnPiecesRow.laid ((world os).forCall (fun _ _ => 0) ⟨#[], #[.slice none 0 0], []⟩).memory := by
  rw [MakeChecks.laidMetH_plain _ _ _ plainList]; exact laidMet_laidAll _ (by kernel_rfl) (by kernel_rfl)

set_option maxRecDepth 100000 in
theorem lifted (os : Os) (started : os.Started) (H : Type) (enc : TypeId × Value → H) (F : Stop.Interp) :
    ReturnsInHanded {} Tryd.checked os 3 .any ((OpenSpec.ofChange Rows.fnPiecesSpec).preRow enc Tryd.prog Tryd.f3 Rows.fnPiecesRow.domain false Rows.fnPiecesRow.laid) (((OpenSpec.ofChange Rows.fnPiecesSpec).at F).post enc Tryd.prog Tryd.f3 false true false false) := by
  refine returnsInHanded_of_row (C := Tryd.checked) (s := OpenSpec.ofChange Rows.fnPiecesSpec) own started (by kernel_rfl) Tryd.func3 ?_ ?_
  · obtain ⟨w, tape, i, h1, h2, h3, h4, ⟨⟨h5, h6⟩, h7⟩, h8⟩ := ChangeSpec.witness_shaped (enc := enc) (C := Tryd.checked) (os := os) (f := 3) (fn := Tryd.f3) (s := Rows.fnPiecesSpec) (conds := Rows.fnPiecesRow.domain) (apart := false) (X := fun w _ => laidMetH Tryd.prog Rows.fnPiecesRow.laid w) false (world os) #[.slice none 0 0] 8 (World.laidAll_os _ _ _)
      (world_shaped os) (by kernel_rfl) (by kernel_rfl) (by kernel_rfl) (world_laid os)
    exact ⟨w, tape, i, h1, h2, h3, h4, ⟨⟨h5, h6⟩, h7⟩, h8⟩
  intro W base args ds gs before hval0 hW _ _ _ hL hsh _
  have hval : ∀ (j : Nat) t v, Tryd.f3.params[j]? = some t → args[j]? = some v → Value.okWide Tryd.prog W .any base t v := hval0
  have hW' := hW
  obtain ⟨p, q, hA0, hV, rfl, hfz, hnd⟩ := hW
  have hA : DataW.TrodAll enc Tryd.prog W 0 (fun _ => true) true Tryd.f3.params.toList args.toList ds p := hA0
  rw [Tryd.params3] at hA hval
  obtain ⟨v0, vs0, d0, ds0, p0, q0, hargs, rfl, rfl, h0, r0⟩ := trodAll_cons hA
  obtain ⟨rfl, rfl, rfl⟩ := trodAll_nil r0
  obtain rfl : args = #[v0] := by cases args; simp_all
  have hVb := fun W' (bel : Below W.heap.size W W') => Below.trodVars laidOut bel (by kernel_rfl) hV
  obtain ⟨g1, g2, rfl⟩ := vars_two hV
  obtain ⟨aB, aS, hflt⟩ := flt_of plainList hL
  have lt0 : ∀ x ∈ p0, x.block < W.heap.size := by obtain ⟨m, hm⟩ := h0; exact DataW.trod_lt m _ _ _ hm
  obtain ⟨a0, n0, c0, rfl, hb0⟩ := arg_code (hval 0 22 v0 rfl rfl) h0
  clear hA0 hval0
  refine (walk W a0 n0 c0 hb0 aB aS hflt).mono fun e W' ⟨he, bel⟩ => ?_
  subst he
  exact ⟨_, rfl, _, _, _, [], _, _, hW', trodAll_mk1 (shut_bool Tryd.underlying4 _), (trodAll_cons_mk (Below.trod laidOut (by kernel_rfl) (of_decide_eq_true (by kernel_rfl)) h0 bel lt0) trodAll_mk0), hVb W' bel, bel.frame _, fun h => by cases h⟩

theorem said : Rows.FnPiecesSaid :=
  OpenClaim.holds_of_cond 3 Tryd.f3 rfl rfl rfl rfl rfl rfl rfl ⟨rfl, rfl, rfl, rfl, rfl⟩ rfl rfl rfl rfl rfl (by kernel_rfl) Tryd.func3 (by kernel_rfl)
    (of_decide_eq_true (by kernel_rfl)) (by unfold Func.isWrapper; first | (rw [if_pos (by decide +kernel)]; kernel_rfl) | (rw [if_neg (by decide +kernel)]; exact ⟨rfl, rfl⟩))
    (fun os started H enc _ F => by rw [OpenClaim.pre_eq_preRow]; exact lifted os started H enc F)

theorem plain (f : FuncId) (fn : Func) (hf : Tryd.pinned.checked.prog.funcNamed "loop.example/g00728/laws.FnPieces" = some f) (hfn : Tryd.pinned.checked.prog.funcs[f]? = some fn) :
    true = Tryd.pinned.checked.prog.looks [] ∧ ∀ (j : Nat) t, fn.params[j]? = some t → Tryd.pinned.checked.prog.wantsStandIn t = false := by
  obtain rfl : f = 3 := Option.some.inj ((show Tryd.prog.funcNamed "loop.example/g00728/laws.FnPieces" = some 3 by kernel_rfl).symm.trans hf) |>.symm
  obtain rfl : fn = Tryd.f3 := (Option.some.inj (Tryd.func3.symm.trans hfn)).symm
  refine ⟨by kernel_rfl, fun j t ht => ?_⟩
  rw [Tryd.params3] at ht
  obtain rfl : t = 22 := by simpa using Array.mem_of_getElem? ht
  exact (show Tryd.prog.wantsStandIn 22 = false by kernel_rfl)

theorem card : Rows.FnPiecesCardSaid :=
  Claim7.holds_tied_plain_at .later [] _ _ _ _ said (fun _ h => by cases h) (by kernel_rfl) (fun _ h => by cases h) fnPieces_row_tie rfl ⟨rfl, rfl⟩ (by kernel_rfl) rfl plain (by kernel_rfl)
#print axioms card
end Go.Proofs.YtpigollgjpkflaaDoor.fnPieces
