/- The library's sort over lags: partitionEqualOrdered. -/
import Derived.Test.YtcjmigjkjepkdaaSortSplit
namespace Go.Proofs.Ytcjmigjkjepkdaa
open Go.RowKit

set_option maxHeartbeats 8000000 in
set_option maxRecDepth 100000 in
theorem partEq_any {L : Nat → Nat} {lt : Nat → Nat → Bool} (hL : LessOk L lt) (g off cap a b p : Nat) (d : Array Nat) (w : World) (hH : Sort.Holds (fV L) w g off d) (hap : a ≤ p) (hpb : p < b) (hb : b ≤ d.size) (hsz : d.size ≤ 1048576) :
    Calls Try.prog 76 #[.slice (some ⟨g, off, none⟩) d.size cap, .int .i64 a, .int .i64 b, .int .i64 p] w fun e w' => e = .returned (.int .i64 (Sort.partitionEqual lt d a b p).1) ∧ SA L w g off d (Sort.partitionEqual lt d a b p).2 w' := by
  have HLS : Hid (∀ (a b : Nat) (w : World), Calls Try.prog 75 #[.float .f64 (L a), .float .f64 (L b)] w fun e w' => e = .returned (.bool (lt a b)) ∧ w' = w) := hL
  have S0 := Lib.hid (SA.start hH)
  have hb1 : (1 : Int) ≤ (b : Int) := by omega
  have had : a < d.size := by omega
  clear hH hL
  obtain ⟨G, hG, hcw, hfw⟩ := S0.out.fam
  have HG := Lib.hid hG
  clear hG
  go_enter Try.func76, Try.ntmps76
  go_upto_region 2 with fail
  go_cut [] from 9 (fun wx => SA L w g off d (Sort.swp d a p) wx)
  case first =>
    have f1 := hfw (a) (by omega)
    have f2 := hfw (p) (by omega)
    have HW := Lib.hid ((S0.out.drewN 1).swap (a) (p) (by omega) (by omega))
    rw [← HG.out, ← HG.out] at HW
    by_cases he : p = a
    · subst he
      go_wp2_with fail
      go_region
      all_goals
        go_wp2_with fail
        go_meet
        case rel => exact HW.out
    · have x1 : ¬ (a = p) := fun h => he h.symm
      go_wp2_with fail
      go_region
      all_goals
        go_wp2_with fail
        go_meet
        case rel => exact HW.out
  case rest =>
    have HS0 := Lib.hid hcut
    clear hcut hcw hfw HG S0
    go_wp2
    go_loopg [9, 10] (b - 1 - a) (fun gk vi vj wr => ∃ (i j : Nat) (dk : Array Nat), gk + i = j + 1 ∧ vi = .int .i64 i ∧ vj = .int .i64 j ∧ a < i ∧ i ≤ j + 1 ∧ j < b ∧ SA L w g off d dk wr ∧ Sort.partEqLoop lt a i j dk = Sort.partitionEqual lt d a b p)
    case atStart => exact ⟨a + 1, b - 1, _, by omega, by go_num, by congr 1; omega, by omega, by omega, by omega, HS0.out, rfl⟩
    case round =>
      obtain ⟨i, j, dk, hgs, rfl, rfl, hai, hij0, hjb, hsa, hO⟩ := hrel
      have HO := Lib.hid hO
      have HGS := Lib.hid hgs
      have HS := Lib.hid hsa
      clear hO hsa HS0 hgs
      go_upto_block 2 with fail
      go_cut [9] from 29 to 82 (fun v wy => ∃ k : Nat, v = .int .i64 k ∧ k = Sort.scanUp (fun x => !lt dk[a]! x) dk (j) (i) ∧ i ≤ k ∧ k ≤ j + 1 ∧ SA L w g off d dk wy)
      case first =>
        go_wp2_with fail
        go_loopg [9] ((j) + 1 - (i)) (fun gk2 v wr2 => ∃ k : Nat, gk2 + k = (j) + 1 ∧ v = .int .i64 k ∧ i ≤ k ∧ k ≤ j + 1 ∧ SA L w g off d dk wr2 ∧ Sort.scanUp (fun x => !lt dk[a]! x) dk (j)  k = Sort.scanUp (fun x => !lt dk[a]! x) dk (j) (i))
        case atStart => exact ⟨_, by omega, by first | rfl | (congr 1; omega), by omega, by omega, HS.out, rfl⟩
        case round =>
          obtain ⟨k, hk2, rfl, hlo, hhi, hsk, hI⟩ := hrel
          have HI := Lib.hid hI
          have HS2 := Lib.hid hsk
          have HK2 := Lib.hid hk2
          clear hI hsk hk2
          obtain ⟨G, hG, hcw, hfw⟩ := HS2.out.fam
          have HG := Lib.hid hG
          clear hG
          by_cases hij : k ≤ j
          · have hij' : (k : Int) ≤ ((j : Nat) : Int) := by omega
            go_wp2_with fail
            go_quiet (first | (go_at_call 75; refine Calls.quiet_of_same (HLS.out _ _ _)))
            go_wp2_with fail
            · have hl : lt (G (a)) (G (k)) = false := by
                have h9 : (!lt (G (a)) (G (k))) = true := by assumption
                simpa using h9
              have H3 := Lib.hid (show Sort.scanUp (fun x => !lt dk[a]! x) dk (j)  (k + 1) = Sort.scanUp (fun x => !lt dk[a]! x) dk (j) (i) from (up_go (p := fun x => !lt dk[a]! x) (by omega) (by rw [HG.out, HG.out] at hl; simp [hl])).symm.trans HI.out)
              go_wp2
              go_roundg ((j) + 1 - (k + 1))
              case measure => (have e1 := HK2.out; omega)
              case rel => exact ⟨k + 1, by have e1 := HK2.out; omega, by first | go_num | (congr 1; omega), by omega, by omega, HS2.out.drewN _, H3.out⟩
            · have hl : lt (G (a)) (G (k)) = true := by
                have h9 : (!lt (G (a)) (G (k))) = false := by assumption
                simpa using h9
              have H3 := Lib.hid (show k = Sort.scanUp (fun x => !lt dk[a]! x) dk (j) (i) from (up_stop (p := fun x => !lt dk[a]! x) (Or.inr (by rw [HG.out, HG.out] at hl; simp [hl]))).symm.trans HI.out)
              go_wp2_with fail
              go_meet
              case rel => exact ⟨k, rfl, H3.out, by omega, by omega, HS2.out.drewN _⟩
          · have hij' : ¬ ((k : Int) ≤ ((j : Nat) : Int)) := by omega
            have H3 := Lib.hid (show k = Sort.scanUp (fun x => !lt dk[a]! x) dk (j) (i) from (up_stop (p := fun x => !lt dk[a]! x) (Or.inl (by omega))).symm.trans HI.out)
            go_wp2_with fail
            go_quiet (first | (go_at_call 75; refine Calls.quiet_of_same (HLS.out _ _ _)))
            go_wp2_with fail
            go_meet
            case rel => exact ⟨k, rfl, H3.out, by omega, by omega, HS2.out.drewN _⟩
      case rest =>
        obtain ⟨i2, rfl, hi2, hloi2, hhii2, hsi2⟩ := hcut
        have Hi2 := Lib.hid hi2
        have HS1 := Lib.hid hsi2
        clear hi2 hsi2
        go_upto_block 4 with fail
        go_cut [10] from 29 to 82 (fun v wy => ∃ k : Nat, v = .int .i64 k ∧ k = Sort.scanDown (fun x => lt dk[a]! x) dk (i2) (j) ∧ i2 ≤ k + 1 ∧ k ≤ j ∧ SA L w g off d dk wy)
        case first =>
          go_wp2_with fail
          go_loopg [10] (j) (fun gk2 v wr2 => ∃ k : Nat, gk2 = k ∧ v = .int .i64 k ∧ i2 ≤ k + 1 ∧ k ≤ j ∧ SA L w g off d dk wr2 ∧ Sort.scanDown (fun x => lt dk[a]! x) dk (i2)  k = Sort.scanDown (fun x => lt dk[a]! x) dk (i2) (j))
          case atStart => exact ⟨_, by omega, by first | rfl | (congr 1; omega), by omega, by omega, HS1.out, rfl⟩
          case round =>
            obtain ⟨k, hk2, rfl, hlo, hhi, hsk, hI⟩ := hrel
            have HI := Lib.hid hI
            have HS2 := Lib.hid hsk
            have HK2 := Lib.hid hk2
            clear hI hsk hk2
            obtain ⟨G, hG, hcw, hfw⟩ := HS2.out.fam
            have HG := Lib.hid hG
            clear hG
            by_cases hij : i2 ≤ k
            · have hij' : ((i2 : Nat) : Int) ≤ (k : Int) := by omega
              go_wp2_with fail
              go_quiet (first | (go_at_call 75; refine Calls.quiet_of_same (HLS.out _ _ _)))
              go_wp2_with fail
              · have hl : lt (G (a)) (G (k)) = true := by assumption
                have H3 := Lib.hid (show Sort.scanDown (fun x => lt dk[a]! x) dk (i2)  (k - 1) = Sort.scanDown (fun x => lt dk[a]! x) dk (i2) (j) from (dn_go (p := fun x => lt dk[a]! x) (by omega) (by omega) (by rw [HG.out, HG.out] at hl; simp [hl])).symm.trans HI.out)
                go_wp2
                go_roundg (k - 1)
                case measure => (have e1 := HK2.out; omega)
                case rel => exact ⟨k - 1, by have e1 := HK2.out; omega, by first | go_num | (congr 1; omega), by omega, by omega, HS2.out.drewN _, H3.out⟩
              · have hl : lt (G (a)) (G (k)) = false := by assumption
                have H3 := Lib.hid (show k = Sort.scanDown (fun x => lt dk[a]! x) dk (i2) (j) from (dn_stop (p := fun x => lt dk[a]! x) (Or.inr (by rw [HG.out, HG.out] at hl; simp [hl]))).symm.trans HI.out)
                go_wp2_with fail
                go_meet
                case rel => exact ⟨k, rfl, H3.out, by omega, by omega, HS2.out.drewN _⟩
            · have hij' : ¬ (((i2 : Nat) : Int) ≤ (k : Int)) := by omega
              have H3 := Lib.hid (show k = Sort.scanDown (fun x => lt dk[a]! x) dk (i2) (j) from (dn_stop (p := fun x => lt dk[a]! x) (Or.inl (by omega))).symm.trans HI.out)
              go_wp2_with fail
              go_quiet (first | (go_at_call 75; refine Calls.quiet_of_same (HLS.out _ _ _)))
              go_wp2_with fail
              go_meet
              case rel => exact ⟨k, rfl, H3.out, by omega, by omega, HS2.out.drewN _⟩
        case rest =>
          obtain ⟨j2, rfl, hj2, hloj2, hhij2, hsj2⟩ := hcut
          have Hj2 := Lib.hid hj2
          have HS3 := Lib.hid hsj2
          clear hj2 hsj2
          by_cases hgt : j2 < i2
          · have hgt' : (j2 : Int) < (i2 : Int) := by omega
            have HV := Lib.hid (show Sort.partitionEqual lt d a b p = (i2, dk) by rw [← HO.out, pe_end Hi2.out Hj2.out hgt])
            go_wp2
            exact bodyPost_ret (v := .int .i64 i2) (by simp [results, Try.results76, go_sem]) rfl ⟨by rw [HV.out], by rw [HV.out]; exact HS3.out⟩
          · have hlt : i2 < j2 := scans_apart (fun x => by simp) (by omega) Hi2.out Hj2.out (by omega)
            have hgt' : ¬ ((j2 : Int) < (i2 : Int)) := by omega
            have HD := Lib.hid (show Sort.partEqLoop lt a (i2 + 1) (j2 - 1) (Sort.swp dk i2 j2) = Sort.partitionEqual lt d a b p by rw [← HO.out, pe_on Hi2.out Hj2.out (by omega)])
            obtain ⟨G, hG, hcw, hfw⟩ := HS3.out.fam
            have HG := Lib.hid hG
            clear hG
            have f1 := hfw i2 (by omega)
            have f2 := hfw j2 (by omega)
            have x1 : ¬ (i2 = j2) := by omega
            have x2 : ¬ (j2 = i2) := by omega
            have HW := Lib.hid ((HS3.out.drewN 1).swap i2 j2 (by omega) (by omega))
            rw [← HG.out, ← HG.out] at HW
            go_wp2
            go_region
            all_goals
              go_wp2
              go_roundg (j2 - 1 + 1 - (i2 + 1))
              case measure => (have e1 := HGS.out; omega)
              case rel => exact ⟨i2 + 1, j2 - 1, _, by omega, by go_num, by congr 1; omega, by omega, by omega, by omega, HW.out, HD.out⟩
end Go.Proofs.Ytcjmigjkjepkdaa
