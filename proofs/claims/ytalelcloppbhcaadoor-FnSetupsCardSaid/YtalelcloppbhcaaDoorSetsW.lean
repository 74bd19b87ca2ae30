/- laws.FnSetups answers true at every slice of bytes: the walk. -/
import Derived.Test.YtalelcloppbhcaaDoorDrawSetT
import Derived.Test.YtalelcloppbhcaaDoorPlainKeys
import Derived.Test.YtalelcloppbhcaaDoorBytesArg
import Derived.Test.YtalelcloppbhcaaDoorSet2
import Derived.Test.YtalelcloppbhcaaDoorRd2
import Derived.Deep.RegionWith
import Derived.Deep.CutRange
import Derived.Deep.LoopGhost
import Derived.StillTailTactics
namespace Go.Proofs.YtalelcloppbhcaaDoor.fnSetups
open Go.RowKit

theorem big_any (a : Option Addr) (len cap : Nat) (w : World) : Calls Tryd.prog 6 #[.slice a len cap] w fun e w' => e = .returned (.bool (decide ((1048576 : Int) < (len : Int)))) ∧ w = w' := by
  go_enter Tryd.func6, Tryd.ntmps6
  go_wp2
  go_ret
  exact ⟨rfl, rfl⟩

set_option maxHeartbeats 4000000 in
set_option maxRecDepth 100000 in
theorem walk (w : World) (a : Option Addr) (len cap : Nat) (hbytes : len ≤ 1048576 → Bytes w w.heap.size a len) (ht : Tabs w w.heap.size) (hp : Pow w) :
    Calls Tryd.prog 3 #[.slice a len cap] w fun e w' => e = .returned (.bool true) ∧ Below w.heap.size w w' := by
  by_cases hbig : 1048576 < len
  · have hd : decide ((1048576 : Int) < (len : Int)) = true := by simp; omega
    have HBG := Lib.hid (fun W => big_any a len cap W)
    rw [hd] at HBG
    clear hbytes ht hp
    go_enter Tryd.func3, Tryd.ntmps3
    go_wp2_with fail
    refine (HBG.out _).mono ?_
    rintro e w' ⟨rfl, rfl⟩
    go_wp2
    go_ret
    exact ⟨rfl, Below.refl _ _⟩
  have hd : decide ((1048576 : Int) < (len : Int)) = false := by simp; omega
  have HBG := Lib.hid (fun W => big_any a len cap W)
  rw [hd] at HBG
  have HB := Lib.hid (hbytes (by omega))
  have HT := Lib.hid ht
  have HPW := Lib.hid hp
  clear hbytes hd hbig ht hp
  go_enter Tryd.func3, Tryd.ntmps3
  go_wp2_with fail
  refine (HBG.out _).mono ?_
  rintro e w' ⟨rfl, rfl⟩
  clear HBG
  go_wp2_with fail
  refine (drawText_any a len cap _ HB.out).mono ?_
  rintro e w1 ⟨f0, f1, f2, f3, f4, f5, f6, f7, f8, rfl, hb1⟩
  clear HB
  have K1 := Lib.hid (Blk.new w1 25 #[.int .i64 f0, .int .i64 f1, .int .i64 f2, .int .i64 f3, .int .i64 f4, .int .i64 f5, .int .i64 f6, .int .i64 f7, .int .i64 f8])
  have B1 := Lib.hid (hb1.alloc hb1.size (.cells #[.int .i64 f0, .int .i64 f1, .int .i64 f2, .int .i64 f3, .int .i64 f4, .int .i64 f5, .int .i64 f6, .int .i64 f7, .int .i64 f8] 25))
  have s1 : w.heap.size ≤ w1.heap.size := hb1.size
  have c := K1.out.cell
  have c0 := c 0
  have c1 := c 1
  have c2 := c 2
  have c3 := c 3
  have c4 := c 4
  have c5 := c 5
  have c6 := c 6
  have c7 := c 7
  have c8 := c 8
  simp at c0 c1 c2 c3 c4 c5 c6 c7 c8
  clear hb1 c
  go_wp2_with fail
  generalize w1.alloc (.cells #[.int .i64 f0, .int .i64 f1, .int .i64 f2, .int .i64 f3, .int .i64 f4, .int .i64 f5, .int .i64 f6, .int .i64 f7, .int .i64 f8] 25) = W1 at *
  generalize w1.heap.size = S at *
  have KC := Lib.hid (fun (W : World) (h : Below W1.heap.size W1 W) => K1.out.below h)
  have TX := Lib.hid (fun (W : World) (h : Below W1.heap.size W1 W) => implSetText_x f0 f1 f2 f3 f4 f5 f6 f7 f8 w.heap.size W (HPW.out.below (B1.out.trans (h.mono B1.out.size))) (HT.out.below (B1.out.trans (h.mono B1.out.size))) (Nat.le_trans B1.out.size h.size))
  have SO := Lib.hid (fun (W : World) => specSetOk_x f0 f1 f2 f3 f4 f5 f6 f7 f8 W)
  have IR := Lib.hid (fun (W : World) (h : Below W1.heap.size W1 W) => implRoom_x f0 f1 f2 f3 f4 f5 f6 f7 f8 w.heap.size W (HT.out.below (B1.out.trans (h.mono B1.out.size))) (Nat.le_trans B1.out.size h.size))
  have SR := Lib.hid (fun (W : World) => specRoom_x f0 f1 f2 f3 f4 f5 f6 f7 f8 W)
  generalize hrm : roomOf f0 f1 f2 f3 f4 f5 f6 f7 f8 = rm at IR SR
  clear hrm
  cases hok : setOk f0 f1 f2 f3 f4 f5 f6 f7 f8 with
  | false =>
    have hR : setTR f0 f1 f2 f3 f4 f5 f6 f7 f8 = .tuple #[.string ⟨#[]⟩, .bool false] := by unfold setTR; rw [hok]; rfl
    rw [hR] at TX
    rw [hok] at SO
    clear hR hok HT HPW
    refine (TX.out _ (Below.refl _ _)).mono ?_
    rintro e w2 ⟨rfl, hb2⟩
    have D2 := Lib.hid hb2.drew
    have q := (KC.out _ D2.out).cell
    have q0 := q 0
    have q1 := q 1
    have q2 := q 2
    have q3 := q 3
    have q4 := q 4
    have q5 := q 5
    have q6 := q 6
    have q7 := q 7
    have q8 := q 8
    simp at q0 q1 q2 q3 q4 q5 q6 q7 q8
    clear q c0 c1 c2 c3 c4 c5 c6 c7 c8 hb2
    go_wp2_with fail
    go_region_with (first
      | (go_at_call 9; refine (SO.out _).mono ?_; rintro e u1 ⟨rfl, hb⟩; have D3 := Lib.hid (D2.out.trans (hb.mono D2.out.size)); clear hb; have r := (KC.out _ D3.out).cell; have r0 := r 0; have r1 := r 1; have r2 := r 2; have r3 := r 3; have r4 := r 4; have r5 := r 5; have r6 := r 6; have r7 := r 7; have r8 := r 8; simp at r0 r1 r2 r3 r4 r5 r6 r7 r8; clear r)
      | (go_at_call 10; refine (IR.out _ D3.out).mono ?_; rintro e u2 ⟨rfl, hb⟩; have D4 := Lib.hid (D3.out.trans (hb.mono D3.out.size)); clear hb; have s := (KC.out _ D4.out).cell; have s0 := s 0; have s1 := s 1; have s2 := s 2; have s3 := s 3; have s4 := s 4; have s5 := s 5; have s6 := s 6; have s7 := s 7; have s8 := s 8; simp at s0 s1 s2 s3 s4 s5 s6 s7 s8; clear s)
      | (go_at_call 11; refine (SR.out _).mono ?_; rintro e u3 ⟨rfl, hb⟩; have D5 := Lib.hid (D4.out.trans (hb.mono D4.out.size)); clear hb; have t := (KC.out _ D5.out).cell; have t0 := t 0; have t1 := t 1; have t2 := t 2; have t3 := t 3; have t4 := t 4; have t5 := t 5; have t6 := t 6; have t7 := t 7; have t8 := t 8; simp at t0 t1 t2 t3 t4 t5 t6 t7 t8; clear t))
    all_goals
      go_wp2
      go_ret
      exact ⟨rfl, B1.out.trans (D5.out.mono B1.out.size)⟩
  | true =>
    have hokL : okL [f0, f1, f2, f3, f4, f5, f6, f7, f8] = true := hok
    have hR : setTR f0 f1 f2 f3 f4 f5 f6 f7 f8 = .tuple #[.string (str (setT [f0, f1, f2, f3, f4, f5, f6, f7, f8])), .bool true] := by unfold setTR; rw [hok]; rfl
    rw [hR] at TX
    have PS : Hid (∀ W, Below W1.heap.size W1 W → Calls Tryd.prog 12 #[.string (str (setT [f0, f1, f2, f3, f4, f5, f6, f7, f8]))] W fun e w' => e = .returned (.tuple #[.agg #[.int .i64 f0, .int .i64 f1, .int .i64 f2, .int .i64 f3, .int .i64 f4, .int .i64 f5, .int .i64 f6, .int .i64 f7, .int .i64 f8], .bool true]) ∧ Below W.heap.size W w') := Lib.hid (fun W h => by
      have bW := B1.out.trans (h.mono B1.out.size)
      refine (implPs_any (setT [f0, f1, f2, f3, f4, f5, f6, f7, f8]) w.heap.size W (HT.out.below bW) (Nat.le_trans B1.out.size h.size) (fun fs h9 hk V hV => by
        obtain ⟨g0, g1, g2, g3, g4, g5, g6, g7, g8, rfl⟩ : ∃ g0 g1 g2 g3 g4 g5 g6 g7 g8, fs = [g0, g1, g2, g3, g4, g5, g6, g7, g8] := by
          match fs, h9 with
          | [g0, g1, g2, g3, g4, g5, g6, g7, g8], _ => exact ⟨g0, g1, g2, g3, g4, g5, g6, g7, g8, rfl⟩
        have hsh := psT_short rfl hk
        exact fieldsText_x g0 g1 g2 g3 g4 g5 g6 g7 g8 V (HPW.out.below (bW.trans (hV.mono bW.size))) (okL_in rfl hk) (by show (psT [g0, g1, g2, g3, g4, g5, g6, g7, g8]).length ≤ _; omega))).mono ?_
      rintro e w' ⟨p | p, hb⟩
      · obtain ⟨vs, h9, hk, hl, he⟩ := p
        obtain rfl := psT_inj (xs := [f0, f1, f2, f3, f4, f5, f6, f7, f8]) rfl h9 (okL_wide rfl hokL) (okL_wide h9 hk) hl
        exact ⟨he, hb⟩
      · exact absurd rfl (p.1 [f0, f1, f2, f3, f4, f5, f6, f7, f8] rfl hokL))
    rw [hok] at SO
    have hf : inB f1 1 4 = true := by
      unfold setOk at hok
      simp only [Bool.and_eq_true] at hok
      exact hok.1.1.1.1.1.1.1.2
    have hf := inB_bd hf
    obtain ⟨N, rfl⟩ : ∃ N : Nat, f1 = N := ⟨f1.toNat, by omega⟩
    have hN1 : 1 ≤ N := by omega
    have hN4 : N ≤ 4 := by omega
    clear hR hok hokL HT HPW hf
    generalize setT [f0, (N : Int), f2, f3, f4, f5, f6, f7, f8] = TXT at TX PS
    refine (TX.out _ (Below.refl _ _)).mono ?_
    rintro e w2 ⟨rfl, hb2⟩
    have D2 := Lib.hid hb2.drew
    have q := (KC.out _ D2.out).cell; have q0 := q 0; have q1 := q 1; have q2 := q 2; have q3 := q 3; have q4 := q 4; have q5 := q 5; have q6 := q 6; have q7 := q 7; have q8 := q 8; simp at q0 q1 q2 q3 q4 q5 q6 q7 q8; clear q
    clear c0 c1 c2 c3 c4 c5 c6 c7 c8 hb2
    go_upto_region 5 with fail
    go_cut [31] from 21 to 30 (fun s wx => s = .bool false ∧ Below W1.heap.size W1 wx)
    case first =>
      go_region_with (first
        | (go_at_call 9; refine (SO.out _).mono ?_; rintro e u1 ⟨rfl, hb⟩; have D3 := Lib.hid (D2.out.trans (hb.mono D2.out.size)); clear hb; have r := (KC.out _ D3.out).cell; have r0 := r 0; have r1 := r 1; have r2 := r 2; have r3 := r 3; have r4 := r 4; have r5 := r 5; have r6 := r 6; have r7 := r 7; have r8 := r 8; simp at r0 r1 r2 r3 r4 r5 r6 r7 r8; clear r)
        | (go_at_call 10; refine (IR.out _ D3.out).mono ?_; rintro e u2 ⟨rfl, hb⟩; have D4 := Lib.hid (D3.out.trans (hb.mono D3.out.size)); clear hb; have s := (KC.out _ D4.out).cell; have s0 := s 0; have s1 := s 1; have s2 := s 2; have s3 := s 3; have s4 := s 4; have s5 := s 5; have s6 := s 6; have s7 := s 7; have s8 := s 8; simp at s0 s1 s2 s3 s4 s5 s6 s7 s8; clear s)
        | (go_at_call 11; refine (SR.out _).mono ?_; rintro e u3 ⟨rfl, hb⟩; have D5 := Lib.hid (D4.out.trans (hb.mono D4.out.size)); clear hb; have t := (KC.out _ D5.out).cell; have t0 := t 0; have t1 := t 1; have t2 := t 2; have t3 := t 3; have t4 := t 4; have t5 := t 5; have t6 := t 6; have t7 := t 7; have t8 := t 8; simp at t0 t1 t2 t3 t4 t5 t6 t7 t8; clear t))
      all_goals
        go_wp2
        go_meet
        case rel => exact ⟨rfl, D5.out⟩
    case rest =>
      obtain ⟨rfl, hb⟩ := hcut
      have D5 := Lib.hid hb
      clear hb D2 q0 q1 q2 q3 q4 q5 q6 q7 q8 IR SR SO TX
      go_wp2_with fail
      refine (PS.out _ D5.out).mono ?_
      rintro e w6 ⟨rfl, hb⟩
      have D6 := Lib.hid (D5.out.trans (hb.mono D5.out.size))
      have K6 := Lib.hid (Blk.new w6 25 #[.int .i64 f0, .int .i64 (N : Int), .int .i64 f2, .int .i64 f3, .int .i64 f4, .int .i64 f5, .int .i64 f6, .int .i64 f7, .int .i64 f8])
      have D7 := Lib.hid (D6.out.alloc D6.out.size (.cells #[.int .i64 f0, .int .i64 (N : Int), .int .i64 f2, .int .i64 f3, .int .i64 f4, .int .i64 f5, .int .i64 f6, .int .i64 f7, .int .i64 f8] 25))
      have r := K6.out.cell; have r0 := r 0; have r1 := r 1; have r2 := r 2; have r3 := r 3; have r4 := r 4; have r5 := r 5; have r6 := r 6; have r7 := r 7; have r8 := r 8; simp at r0 r1 r2 r3 r4 r5 r6 r7 r8; clear r
      have q := (KC.out _ D7.out).cell; have q0 := q 0; have q1 := q 1; have q2 := q 2; have q3 := q 3; have q4 := q 4; have q5 := q 5; have q6 := q 6; have q7 := q 7; have q8 := q 8; simp at q0 q1 q2 q3 q4 q5 q6 q7 q8; clear q
      clear hb D5 PS D6 K6
      go_wp2_with fail
      generalize w6.alloc (.cells #[.int .i64 f0, .int .i64 (N : Int), .int .i64 f2, .int .i64 f3, .int .i64 f4, .int .i64 f5, .int .i64 f6, .int .i64 f7, .int .i64 f8] 25) = W7 at *
      generalize w6.heap.size = S6 at *
      clear r0 r1 r2 r3 r4 r5 r6 r7 r8 q0 q1 q2 q3 q4 q5 q6 q7 q8
      go_loopw [8, 9] (fun n k wr => ∃ j : Nat, j ≤ N ∧ n = .int .i64 (20 * j : Int) ∧ k = .int .i64 j ∧ Below W1.heap.size W1 wr) (fun _ k _ => N - (intOf k).toNat)
      case atStart => exact ⟨0, Nat.zero_le _, rfl, rfl, D7.out⟩
      case round =>
        obtain ⟨j, hj, rfl, rfl, hb⟩ := hrel
        have E0 := Lib.hid hb
        clear D7 hb
        have e := (KC.out _ E0.out).cell; have e0 := e 0; have e1 := e 1; have e2 := e 2; have e3 := e 3; have e4 := e 4; have e5 := e 5; have e6 := e 6; have e7 := e 7; have e8 := e 8; simp at e0 e1 e2 e3 e4 e5 e6 e7 e8; clear e
        clear e0 e2 e3 e4 e5 e6 e7 e8
        by_cases hlt : j < N
        · have hlt' : (j : Int) < (N : Int) := by omega
          have h20 := keys20 (sh := j) (s := N) hlt hN4
          have HE := Lib.hid (fun i (hi : i < 20) => keys_el (sh := j) (s := N) (i := i) (by rw [h20]; exact hi))
          have IK := Lib.hid (fun W => implKeys_any (j : Int) (N : Int) 20 W)
          have SH := Lib.hid (fun x W => implShardOf_any x (N : Int) W)
          generalize keysOf (j : Int) (N : Int) 20 = ks at h20 HE IK
          go_wp2_with fail
          refine (IK.out _).mono ?_
          rintro e w8 ⟨a2, cc2, rfl, hown, hb⟩
          have hnums := (Nums.of_own hown).2
          obtain ⟨kb, ko, rfl, hkb, hkc⟩ := hnums.lies.resolve_left (by intro h; rw [h] at h20; simp at h20)
          rw [h20] at hkc ⊢
          have E1 := Lib.hid (E0.out.trans (hb.mono E0.out.size))
          have HK := Lib.hid hkc
          clear hown hb hnums hkc IK E0 e1
          go_wp2_with fail
          go_loopw [11] (fun ii wr => ∃ m : Nat, m ≤ 20 ∧ ii = .int .i64 m ∧ Below w8.heap.size w8 wr) (fun ii _ => 20 - (intOf ii).toNat)
          case atStart => exact ⟨0, Nat.zero_le _, rfl, Below.refl _ _⟩
          case round =>
            obtain ⟨m, hm, rfl, hb2⟩ := hrel
            have E2 := Lib.hid hb2
            have E3 := Lib.hid (E1.out.trans (hb2.mono E1.out.size))
            have g := (KC.out _ E3.out).cell; have g0 := g 0; have g1 := g 1; have g2 := g 2; have g3 := g 3; have g4 := g 4; have g5 := g 5; have g6 := g 6; have g7 := g 7; have g8 := g 8; simp at g0 g1 g2 g3 g4 g5 g6 g7 g8; clear g
            clear g0 g2 g3 g4 g5 g6 g7 g8
            by_cases hm2 : m < 20
            · have hm3 : (m : Int) < 20 := by omega
              have km := (hb2.cell (p := ⟨kb, ko + m, none⟩) hkb).trans (HK.out m hm2)
              have hs := (HE.out m hm2).1
              have SHm := Lib.hid (fun W => (SH.out (el ks m) W).mono (fun e w' (h : _ ∧ _) => (⟨h.1, h.2.symm⟩ : _ ∧ w' = W)))
              rw [hs] at SHm
              by_cases hm0 : m = 0
              · have hmN : m ≤ 0 := by omega
                generalize el ks m = y1 at *
                clear hs hb2 hm0
                go_wp2_with fail
                refine wp_region_still_lit (by kernel_rfl) (by kernel_rfl) ?_
                repeat still_step
                still_call (SHm.out _)
                have HG2 : Hid (¬ 0 < m) := Lib.hid (by omega)
                iterate 5 still_step
                still_step
                iterate 10
                  refine wpStill_step (fun K hK => ?_)
                  go_simp
                  rw [if_neg HG2.out]
                  refine hK _ ?_
                  clear hK K
                repeat still_step
                refine wpStill_nil ?_
                change Exit.then _ _ _ _ (World.drew _)
                go_wp2
                go_roundw
                case rel => exact ⟨m + 1, by omega, by go_num, E2.out.drew⟩
                case measure => simp [intOf]; omega
              · have hmp : (0 : Int) < (m : Int) := by omega
                obtain ⟨m1, hm1⟩ : ∃ m1 : Nat, m1 = m - 1 := ⟨_, rfl⟩
                have kp := (hb2.cell (p := ⟨kb, ko + m1, none⟩) hkb).trans (HK.out m1 (by omega))
                have hw2 : wrap64 ((m : Int) - 1) = (m1 : Int) := by unfold wrap64; omega
                have hle := (HE.out m hm2).2 m1 (by omega)
                have hw : IntKind.i64.wrap ((m : Int) - 1) = (m1 : Int) := by rw [IntWalk.i64_in _ (by omega)]; omega
                have hi1 : m1 < 20 := by omega
                have hmN : 0 < m := by omega
                have hi2 : (m1 : Int) < 20 := by omega
                generalize el ks m = y1 at *
                generalize el ks m1 = y0 at *
                have hle2 : ¬ y1 ≤ y0 := by omega
                clear hs hb2 hle hm1
                go_wp2_with fail
                refine wp_region_still_lit (by kernel_rfl) (by kernel_rfl) ?_
                repeat still_step
                still_call (SHm.out _)
                repeat still_step
                refine wpStill_nil ?_
                change Exit.then _ _ _ _ (World.drew _)
                go_wp2
                go_roundw
                case rel => exact ⟨m + 1, by omega, by go_num, E2.out.drew⟩
                case measure => simp [intOf]; omega
            · obtain rfl : m = 20 := by omega
              go_wp2
              go_roundw
              case rel => exact ⟨j + 1, by omega, by go_num, by go_num, E3.out⟩
              case measure => simp [intOf]; omega
        · obtain rfl : j = N := by omega
          go_wp2
          go_ret
          exact ⟨rfl, B1.out.trans (E0.out.mono B1.out.size)⟩
end Go.Proofs.YtalelcloppbhcaaDoor.fnSetups
