/- The library's sort over lags: partitionOrdered. -/
import Derived.Test.YtcjmigjkjepkdaaSortEq
namespace Go.Proofs.Ytcjmigjkjepkdaa
open Go.RowKit

set_option maxHeartbeats 8000000 in
set_option maxRecDepth 100000 in
theorem partition_any {L : Nat → Nat} {lt : Nat → Nat → Bool} (hL : LessOk L lt) (g off cap a b p : Nat) (d : Array Nat) (w : World) (hH : Sort.Holds (fV L) w g off d) (hap : a ≤ p) (hpb : p < b) (hb : b ≤ d.size) (hsz : d.size ≤ 1048576) :
    Calls Try.prog 77 #[.slice (some ⟨g, off, none⟩) d.size cap, .int .i64 a, .int .i64 b, .int .i64 p] w fun e w' => e = .returned (.tuple #[.int .i64 (Sort.partition lt d a b p).1, .bool (Sort.partition lt d a b p).2.1]) ∧ SA L w g off d (Sort.partition lt d a b p).2.2 w' := by
  have HLS : Hid (∀ (a b : Nat) (w : World), Calls Try.prog 75 #[.float .f64 (L a), .float .f64 (L b)] w fun e w' => e = .returned (.bool (lt a b)) ∧ w' = w) := hL
  have S0 := Lib.hid (SA.start hH)
  have hb1 : (1 : Int) ≤ (b : Int) := by omega
  have had : a < d.size := by omega
  clear hH hL
  obtain ⟨G, hG, hcw, hfw⟩ := S0.out.fam
  have HG := Lib.hid hG
  clear hG
  go_enter Try.func77, Try.ntmps77
  go_upto_region 2 with fail
  go_cut [] from 10 (fun wx => ∃ dk, dk = Sort.swp d a p ∧ SA L w g off d dk wx)
  case first =>
    have f1 := hfw (a) (by omega)
    have f2 := hfw (p) (by omega)
    have HW := Lib.hid ((S0.out.drewN 1).swap (a) (p) (by omega) (by omega))
    rw [← HG.out, ← HG.out] at HW
    by_cases he : p = a
    · subst he
      go_wp2_with fail
      go_region
      all_goals
        go_wp2_with fail
        go_meet
        case rel => exact ⟨_, rfl, HW.out⟩
    · have x1 : ¬ (a = p) := fun h => he h.symm
      go_wp2_with fail
      go_region
      all_goals
        go_wp2_with fail
        go_meet
        case rel => exact ⟨_, rfl, HW.out⟩
  case rest =>
    obtain ⟨dk, hdk, hs0⟩ := hcut
    have HDK := Lib.hid hdk
    have HS := Lib.hid hs0
    clear hdk hs0 hcw hfw HG S0
    go_upto_block 0 with fail
    go_cut [10] from 12 (fun v wy => ∃ k : Nat, v = .int .i64 k ∧ k = Sort.scanUp (fun x => lt x dk[a]!) dk ((b - 1)) (a + 1) ∧ a + 1 ≤ k ∧ k ≤ (b - 1) + 1 ∧ SA L w g off d dk wy)
    case first =>
      go_wp2_with fail
      go_loopg [10] (((b - 1)) + 1 - (a + 1)) (fun gk2 v wr2 => ∃ k : Nat, gk2 + k = ((b - 1)) + 1 ∧ v = .int .i64 k ∧ a + 1 ≤ k ∧ k ≤ (b - 1) + 1 ∧ SA L w g off d dk wr2 ∧ Sort.scanUp (fun x => lt x dk[a]!) dk ((b - 1))  k = Sort.scanUp (fun x => lt x dk[a]!) dk ((b - 1)) (a + 1))
      case atStart => exact ⟨_, by omega, by first | rfl | (congr 1; omega), by omega, by omega, HS.out, rfl⟩
      case round =>
        obtain ⟨k, hk2, rfl, hlo, hhi, hsk, hI⟩ := hrel
        have HI := Lib.hid hI
        have HS2 := Lib.hid hsk
        have HK2 := Lib.hid hk2
        clear hI hsk hk2
        obtain ⟨G, hG, hcw, hfw⟩ := HS2.out.fam
        have HG := Lib.hid hG
        clear hG
        by_cases hij : k ≤ (b - 1)
        · have hij' : (k : Int) ≤ (b : Int) - 1 := by omega
          go_wp2_with fail
          go_quiet (first | (go_at_call 75; refine Calls.quiet_of_same (HLS.out _ _ _)))
          go_wp2_with fail
          · have hl : lt (G (k)) (G (a)) = true := by assumption
            have H3 := Lib.hid (show Sort.scanUp (fun x => lt x dk[a]!) dk ((b - 1))  (k + 1) = Sort.scanUp (fun x => lt x dk[a]!) dk ((b - 1)) (a + 1) from (up_go (p := fun x => lt x dk[a]!) (by omega) (by rw [HG.out, HG.out] at hl; simp [hl])).symm.trans HI.out)
            go_wp2
            go_roundg (((b - 1)) + 1 - (k + 1))
            case measure => (have e1 := HK2.out; omega)
            case rel => exact ⟨k + 1, by have e1 := HK2.out; omega, by first | go_num | (congr 1; omega), by omega, by omega, HS2.out.drewN _, H3.out⟩
          · have hl : lt (G (k)) (G (a)) = false := by assumption
            have H3 := Lib.hid (show k = Sort.scanUp (fun x => lt x dk[a]!) dk ((b - 1)) (a + 1) from (up_stop (p := fun x => lt x dk[a]!) (Or.inr (by rw [HG.out, HG.out] at hl; simp [hl]))).symm.trans HI.out)
            go_wp2_with fail
            go_meet
            case rel => exact ⟨k, rfl, H3.out, by omega, by omega, HS2.out.drewN _⟩
        · have hij' : ¬ ((k : Int) ≤ (b : Int) - 1) := by omega
          have hijd : decide ((k : Int) ≤ (b : Int) - 1) = false := decide_eq_false hij'
          have H3 := Lib.hid (show k = Sort.scanUp (fun x => lt x dk[a]!) dk ((b - 1)) (a + 1) from (up_stop (p := fun x => lt x dk[a]!) (Or.inl (by omega))).symm.trans HI.out)
          go_wp2_with fail
          go_quiet (first | (go_at_call 75; refine Calls.quiet_of_same (HLS.out _ _ _)))
          go_wp2_with fail
          go_meet
          case rel => exact ⟨k, rfl, H3.out, by omega, by omega, HS2.out.drewN _⟩
    case rest =>
      obtain ⟨i1, rfl, hi1, hloi1, hhii1, hsi1⟩ := hcut
      have Hi1 := Lib.hid hi1
      have HS1 := Lib.hid hsi1
      clear hi1 hsi1
      go_upto_block 2 with fail
      go_cut [11] from 12 (fun v wy => ∃ k : Nat, v = .int .i64 k ∧ k = Sort.scanDown (fun x => !lt x dk[a]!) dk (i1) ((b - 1)) ∧ i1 ≤ k + 1 ∧ k ≤ (b - 1) ∧ SA L w g off d dk wy)
      case first =>
        go_wp2_with fail
        go_loopg [11] ((b - 1)) (fun gk2 v wr2 => ∃ k : Nat, gk2 = k ∧ v = .int .i64 k ∧ i1 ≤ k + 1 ∧ k ≤ (b - 1) ∧ SA L w g off d dk wr2 ∧ Sort.scanDown (fun x => !lt x dk[a]!) dk (i1)  k = Sort.scanDown (fun x => !lt x dk[a]!) dk (i1) ((b - 1)))
        case atStart => exact ⟨_, by omega, by first | rfl | (congr 1; omega), by omega, by omega, HS1.out, rfl⟩
        case round =>
          obtain ⟨k, hk2, rfl, hlo, hhi, hsk, hI⟩ := hrel
          have HI := Lib.hid hI
          have HS2 := Lib.hid hsk
          have HK2 := Lib.hid hk2
          clear hI hsk hk2
          obtain ⟨G, hG, hcw, hfw⟩ := HS2.out.fam
          have HG := Lib.hid hG
          clear hG
          by_cases hij : i1 ≤ k
          · have hij' : ((i1 : Nat) : Int) ≤ (k : Int) := by omega
            go_wp2_with fail
            go_quiet (first | (go_at_call 75; refine Calls.quiet_of_same (HLS.out _ _ _)))
            go_wp2_with fail
            · have hl : lt (G (k)) (G (a)) = false := by
                have h9 : (!lt (G (k)) (G (a))) = true := by assumption
                simpa using h9
              have H3 := Lib.hid (show Sort.scanDown (fun x => !lt x dk[a]!) dk (i1)  (k - 1) = Sort.scanDown (fun x => !lt x dk[a]!) dk (i1) ((b - 1)) from (dn_go (p := fun x => !lt x dk[a]!) (by omega) (by omega) (by rw [HG.out, HG.out] at hl; simp [hl])).symm.trans HI.out)
              go_wp2
              go_roundg (k - 1)
              case measure => (have e1 := HK2.out; omega)
              case rel => exact ⟨k - 1, by have e1 := HK2.out; omega, by first | go_num | (congr 1; omega), by omega, by omega, HS2.out.drewN _, H3.out⟩
            · have hl : lt (G (k)) (G (a)) = true := by
                have h9 : (!lt (G (k)) (G (a))) = false := by assumption
                simpa using h9
              have H3 := Lib.hid (show k = Sort.scanDown (fun x => !lt x dk[a]!) dk (i1) ((b - 1)) from (dn_stop (p := fun x => !lt x dk[a]!) (Or.inr (by rw [HG.out, HG.out] at hl; simp [hl]))).symm.trans HI.out)
              go_wp2_with fail
              go_meet
              case rel => exact ⟨k, rfl, H3.out, by omega, by omega, HS2.out.drewN _⟩
          · have hij' : ¬ (((i1 : Nat) : Int) ≤ (k : Int)) := by omega
            have H3 := Lib.hid (show k = Sort.scanDown (fun x => !lt x dk[a]!) dk (i1) ((b - 1)) from (dn_stop (p := fun x => !lt x dk[a]!) (Or.inl (by omega))).symm.trans HI.out)
            go_wp2_with fail
            go_quiet (first | (go_at_call 75; refine Calls.quiet_of_same (HLS.out _ _ _)))
            go_wp2_with fail
            go_meet
            case rel => exact ⟨k, rfl, H3.out, by omega, by omega, HS2.out.drewN _⟩
      case rest =>
        obtain ⟨j2, rfl, hj2, hloj2, hhij2, hsj2⟩ := hcut
        have Hj2 := Lib.hid hj2
        have HS3 := Lib.hid hsj2
        clear hj2 hsj2
        by_cases hgt : j2 < i1
        · have hgt' : (j2 : Int) < (i1 : Int) := by omega
          have HV := Lib.hid (show Sort.partition lt d a b p = (j2, true, Sort.swp dk j2 a) from part_end HDK.out Hi1.out Hj2.out hgt)
          clear HS1 HS
          obtain ⟨G, hG, hcw, hfw⟩ := HS3.out.fam
          have HG := Lib.hid hG
          clear hG
          have f1 := hfw (j2) (by omega)
          have f2 := hfw (a) (by omega)
          have HW := Lib.hid ((HS3.out.drewN 1).swap (j2) (a) (by omega) (by omega))
          rw [← HG.out, ← HG.out] at HW
          by_cases he : a = j2
          · subst he
            go_wp2_with fail
            go_region
            all_goals
              go_wp2_with fail
              exact bodyPost_ret (v := .tuple #[.int .i64 a, .bool true]) (by simp [results, Try.results77, go_sem]) rfl ⟨by rw [HV.out], by rw [HV.out]; exact HW.out⟩
          · have x1 : ¬ (j2 = a) := fun h => he h.symm
            go_wp2_with fail
            go_region
            all_goals
              go_wp2_with fail
              exact bodyPost_ret (v := .tuple #[.int .i64 j2, .bool true]) (by simp [results, Try.results77, go_sem]) rfl ⟨by rw [HV.out], by rw [HV.out]; exact HW.out⟩
        · have hlt : i1 < j2 := scans_apart (fun x => by simp) (by omega) Hi1.out Hj2.out (by omega)
          have hgt' : ¬ ((j2 : Int) < (i1 : Int)) := by omega
          have HPO := Lib.hid (fun (D3 : Array Nat) (j3 : Nat) => part_on (D3 := D3) (j3 := j3) HDK.out Hi1.out Hj2.out (Nat.le_of_lt hlt))
          clear HS1 HS
          obtain ⟨G, hG, hcw, hfw⟩ := HS3.out.fam
          have HG := Lib.hid hG
          clear hG
          have f1 := hfw i1 (by omega)
          have f2 := hfw j2 (by omega)
          have x1 : ¬ (i1 = j2) := by omega
          have x2 : ¬ (j2 = i1) := by omega
          have HW := Lib.hid ((HS3.out.drewN 1).swap i1 j2 (by omega) (by omega))
          rw [← HG.out, ← HG.out] at HW
          go_wp2
          go_region
          all_goals
            have HW := Lib.hid (show SA L w g off d (Sort.swp dk i1 j2) (((wc.setCell ⟨g, off + i1, none⟩ (.float .f64 (L (G j2)))).setCell ⟨g, off + j2, none⟩ (.float .f64 (L (G i1)))).drew) from HW.out)
            generalize hwq : (((wc.setCell ⟨g, off + i1, none⟩ (.float .f64 (L (G j2)))).setCell ⟨g, off + j2, none⟩ (.float .f64 (L (G i1)))).drew) = w4 at HW ⊢
            clear hwq hcw hfw f1 f2 x1 x2 HS3
            obtain ⟨d4, hd4⟩ : ∃ d4, d4 = Sort.swp dk i1 j2 := ⟨_, rfl⟩
            rw [← hd4] at HW HPO
            clear hd4
            go_wp2
            go_loopg [10, 11] (j2 - (i1 + 1)) (fun gk vi vj wr => ∃ (i j : Nat) (dk : Array Nat), gk + i = j + 1 ∧ vi = .int .i64 i ∧ vj = .int .i64 j ∧ a < i ∧ i ≤ j + 1 ∧ j < b ∧ SA L w g off d dk wr ∧ Sort.partLoop lt a i j dk = Sort.partLoop lt a (i1 + 1) (j2 - 1) d4)
            case atStart => exact ⟨i1 + 1, j2 - 1, _, by omega, by go_num, by congr 1; omega, by omega, by omega, by omega, HW.out, rfl⟩
            case round =>
              clear HDK Hi1 Hj2 HW
              have hi1 : a ≤ i1 := by omega
              clear hloj2 hhij2 hloi1 hhii1 hgt hgt'
              obtain ⟨i, j, dk, hgs, rfl, rfl, hai, hij0, hjb, hsa, hO⟩ := hrel
              have HO := Lib.hid hO
              have HGS := Lib.hid hgs
              have HS := Lib.hid hsa
              clear hO hsa hgs
              go_upto_block 6 with fail
              go_cut [10] from 99 to 152 (fun v wy => ∃ k : Nat, v = .int .i64 k ∧ k = Sort.scanUp (fun x => lt x dk[a]!) dk (j) (i) ∧ i ≤ k ∧ k ≤ j + 1 ∧ SA L w g off d dk wy)
              case first =>
                go_wp2_with fail
                go_loopg [10] ((j) + 1 - (i)) (fun gk2 v wr2 => ∃ k : Nat, gk2 + k = (j) + 1 ∧ v = .int .i64 k ∧ i ≤ k ∧ k ≤ j + 1 ∧ SA L w g off d dk wr2 ∧ Sort.scanUp (fun x => lt x dk[a]!) dk (j)  k = Sort.scanUp (fun x => lt x dk[a]!) dk (j) (i))
                case atStart => exact ⟨_, by omega, by first | rfl | (congr 1; omega), by omega, by omega, HS.out, rfl⟩
                case round =>
                  obtain ⟨k, hk2, rfl, hlo, hhi, hsk, hI⟩ := hrel
                  have HI := Lib.hid hI
                  have HS2 := Lib.hid hsk
                  have HK2 := Lib.hid hk2
                  clear hI hsk hk2
                  obtain ⟨G, hG, hcw, hfw⟩ := HS2.out.fam
                  have HG := Lib.hid hG
                  clear hG
                  by_cases hij : k ≤ j
                  · have hij' : (k : Int) ≤ ((j : Nat) : Int) := by omega
                    go_wp2_with fail
                    go_quiet (first | (go_at_call 75; refine Calls.quiet_of_same (HLS.out _ _ _)))
                    go_wp2_with fail
                    · have hl : lt (G (k)) (G (a)) = true := by assumption
                      have H3 := Lib.hid (show Sort.scanUp (fun x => lt x dk[a]!) dk (j)  (k + 1) = Sort.scanUp (fun x => lt x dk[a]!) dk (j) (i) from (up_go (p := fun x => lt x dk[a]!) (by omega) (by rw [HG.out, HG.out] at hl; simp [hl])).symm.trans HI.out)
                      go_wp2
                      go_roundg ((j) + 1 - (k + 1))
                      case measure => (have e1 := HK2.out; omega)
                      case rel => exact ⟨k + 1, by have e1 := HK2.out; omega, by first | go_num | (congr 1; omega), by omega, by omega, HS2.out.drewN _, H3.out⟩
                    · have hl : lt (G (k)) (G (a)) = false := by assumption
                      have H3 := Lib.hid (show k = Sort.scanUp (fun x => lt x dk[a]!) dk (j) (i) from (up_stop (p := fun x => lt x dk[a]!) (Or.inr (by rw [HG.out, HG.out] at hl; simp [hl]))).symm.trans HI.out)
                      go_wp2_with fail
                      go_meet
                      case rel => exact ⟨k, rfl, H3.out, by omega, by omega, HS2.out.drewN _⟩
                  · have hij' : ¬ ((k : Int) ≤ ((j : Nat) : Int)) := by omega
                    have H3 := Lib.hid (show k = Sort.scanUp (fun x => lt x dk[a]!) dk (j) (i) from (up_stop (p := fun x => lt x dk[a]!) (Or.inl (by omega))).symm.trans HI.out)
                    go_wp2_with fail
                    go_quiet (first | (go_at_call 75; refine Calls.quiet_of_same (HLS.out _ _ _)))
                    go_wp2_with fail
                    go_meet
                    case rel => exact ⟨k, rfl, H3.out, by omega, by omega, HS2.out.drewN _⟩
              case rest =>
                obtain ⟨i2, rfl, hi2, hloi2, hhii2, hsi2⟩ := hcut
                have Hi2 := Lib.hid hi2
                have HS1 := Lib.hid hsi2
                clear hi2 hsi2
                go_upto_block 8 with fail
                go_cut [11] from 99 to 152 (fun v wy => ∃ k : Nat, v = .int .i64 k ∧ k = Sort.scanDown (fun x => !lt x dk[a]!) dk (i2) (j) ∧ i2 ≤ k + 1 ∧ k ≤ j ∧ SA L w g off d dk wy)
                case first =>
                  go_wp2_with fail
                  go_loopg [11] (j) (fun gk2 v wr2 => ∃ k : Nat, gk2 = k ∧ v = .int .i64 k ∧ i2 ≤ k + 1 ∧ k ≤ j ∧ SA L w g off d dk wr2 ∧ Sort.scanDown (fun x => !lt x dk[a]!) dk (i2)  k = Sort.scanDown (fun x => !lt x dk[a]!) dk (i2) (j))
                  case atStart => exact ⟨_, by omega, by first | rfl | (congr 1; omega), by omega, by omega, HS1.out, rfl⟩
                  case round =>
                    obtain ⟨k, hk2, rfl, hlo, hhi, hsk, hI⟩ := hrel
                    have HI := Lib.hid hI
                    have HS2 := Lib.hid hsk
                    have HK2 := Lib.hid hk2
                    clear hI hsk hk2
                    obtain ⟨G, hG, hcw, hfw⟩ := HS2.out.fam
                    have HG := Lib.hid hG
                    clear hG
                    by_cases hij : i2 ≤ k
                    · have hij' : ((i2 : Nat) : Int) ≤ (k : Int) := by omega
                      go_wp2_with fail
                      go_quiet (first | (go_at_call 75; refine Calls.quiet_of_same (HLS.out _ _ _)))
                      go_wp2_with fail
                      · have hl : lt (G (k)) (G (a)) = false := by
                          have h9 : (!lt (G (k)) (G (a))) = true := by assumption
                          simpa using h9
                        have H3 := Lib.hid (show Sort.scanDown (fun x => !lt x dk[a]!) dk (i2)  (k - 1) = Sort.scanDown (fun x => !lt x dk[a]!) dk (i2) (j) from (dn_go (p := fun x => !lt x dk[a]!) (by omega) (by omega) (by rw [HG.out, HG.out] at hl; simp [hl])).symm.trans HI.out)
                        go_wp2
                        go_roundg (k - 1)
                        case measure => (have e1 := HK2.out; omega)
                        case rel => exact ⟨k - 1, by have e1 := HK2.out; omega, by first | go_num | (congr 1; omega), by omega, by omega, HS2.out.drewN _, H3.out⟩
                      · have hl : lt (G (k)) (G (a)) = true := by
                          have h9 : (!lt (G (k)) (G (a))) = false := by assumption
                          simpa using h9
                        have H3 := Lib.hid (show k = Sort.scanDown (fun x => !lt x dk[a]!) dk (i2) (j) from (dn_stop (p := fun x => !lt x dk[a]!) (Or.inr (by rw [HG.out, HG.out] at hl; simp [hl]))).symm.trans HI.out)
                        go_wp2_with fail
                        go_meet
                        case rel => exact ⟨k, rfl, H3.out, by omega, by omega, HS2.out.drewN _⟩
                    · have hij' : ¬ (((i2 : Nat) : Int) ≤ (k : Int)) := by omega
                      have H3 := Lib.hid (show k = Sort.scanDown (fun x => !lt x dk[a]!) dk (i2) (j) from (dn_stop (p := fun x => !lt x dk[a]!) (Or.inl (by omega))).symm.trans HI.out)
                      go_wp2_with fail
                      go_quiet (first | (go_at_call 75; refine Calls.quiet_of_same (HLS.out _ _ _)))
                      go_wp2_with fail
                      go_meet
                      case rel => exact ⟨k, rfl, H3.out, by omega, by omega, HS2.out.drewN _⟩
                case rest =>
                  obtain ⟨j3, rfl, hj3, hloj3, hhij3, hsj3⟩ := hcut
                  have Hj3 := Lib.hid hj3
                  have HS3 := Lib.hid hsj3
                  clear hj3 hsj3
                  by_cases hgt : j3 < i2
                  · have hgt' : (j3 : Int) < (i2 : Int) := by omega
                    have HV := Lib.hid (show Sort.partition lt d a b p = (j3, false, Sort.swp dk j3 a) from HPO.out _ _ (by rw [← HO.out, pt_end Hi2.out Hj3.out hgt]))
                    clear HS1 HS
                    obtain ⟨G, hG, hcw, hfw⟩ := HS3.out.fam
                    have HG := Lib.hid hG
                    clear hG
                    have f1 := hfw (j3) (by omega)
                    have f2 := hfw (a) (by omega)
                    have HW := Lib.hid ((HS3.out.drewN 1).swap (j3) (a) (by omega) (by omega))
                    rw [← HG.out, ← HG.out] at HW
                    by_cases he : a = j3
                    · subst he
                      go_wp2_with fail
                      go_region
                      all_goals
                        go_wp2_with fail
                        exact bodyPost_ret (v := .tuple #[.int .i64 a, .bool false]) (by simp [results, Try.results77, go_sem]) rfl ⟨by rw [HV.out], by rw [HV.out]; exact HW.out⟩
                    · have x1 : ¬ (j3 = a) := fun h => he h.symm
                      go_wp2_with fail
                      go_region
                      all_goals
                        go_wp2_with fail
                        exact bodyPost_ret (v := .tuple #[.int .i64 j3, .bool false]) (by simp [results, Try.results77, go_sem]) rfl ⟨by rw [HV.out], by rw [HV.out]; exact HW.out⟩
                  · have hlt : i2 < j3 := scans_apart (fun x => by simp) (by omega) Hi2.out Hj3.out (by omega)
                    have hgt' : ¬ ((j3 : Int) < (i2 : Int)) := by omega
                    have HD := Lib.hid (show Sort.partLoop lt a (i2 + 1) (j3 - 1) (Sort.swp dk i2 j3) = Sort.partLoop lt a (i1 + 1) (j2 - 1) d4 by rw [← HO.out, pt_on Hi2.out Hj3.out (by omega)])
                    clear HS1 HS
                    obtain ⟨G, hG, hcw, hfw⟩ := HS3.out.fam
                    have HG := Lib.hid hG
                    clear hG
                    have f1 := hfw i2 (by omega)
                    have f2 := hfw j3 (by omega)
                    have x1 : ¬ (i2 = j3) := by omega
                    have x2 : ¬ (j3 = i2) := by omega
                    have HW := Lib.hid ((HS3.out.drewN 1).swap i2 j3 (by omega) (by omega))
                    rw [← HG.out, ← HG.out] at HW
                    go_wp2
                    go_region
                    all_goals
                      go_wp2
                      go_roundg (j3 - 1 + 1 - (i2 + 1))
                      case measure => (have e1 := HGS.out; omega)
                      case rel => exact ⟨i2 + 1, j3 - 1, _, by omega, by go_num, by congr 1; omega, by omega, by omega, by omega, HW.out, HD.out⟩
end Go.Proofs.Ytcjmigjkjepkdaa
