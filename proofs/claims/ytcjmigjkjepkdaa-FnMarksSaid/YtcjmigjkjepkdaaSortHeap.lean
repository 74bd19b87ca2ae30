/- The library's sort over lags: siftDownOrdered and heapSortOrdered. -/
import Derived.Test.YtcjmigjkjepkdaaSortS
namespace Go.Proofs.Ytcjmigjkjepkdaa
open Go.RowKit

/-- Which child is the greater one. -/
def chR (lt : Nat → Nat → Bool) (hi first r : Nat) (d : Array Nat) : Nat := if 2 * r + 1 + 1 < hi ∧ lt d[first + (2 * r + 1)]! d[first + (2 * r + 1) + 1]! = true then 2 * r + 2 else 2 * r + 1
theorem sift_end {lt : Nat → Nat → Bool} {hi first r : Nat} {d : Array Nat} (h : hi ≤ 2 * r + 1) : Sort.siftDown lt hi first r d = d := by
  rw [Sort.siftDown, dif_pos h]
theorem sift_stop {lt : Nat → Nat → Bool} {hi first r : Nat} {d : Array Nat} (h : ¬ hi ≤ 2 * r + 1) (h2 : lt d[first + r]! d[first + chR lt hi first r d]! = false) : Sort.siftDown lt hi first r d = d := by
  rw [Sort.siftDown, dif_neg h]
  unfold chR at h2
  by_cases hc : 2 * r + 1 + 1 < hi ∧ lt d[first + (2 * r + 1)]! d[first + (2 * r + 1) + 1]! = true
  · rw [if_pos hc] at h2
    rw [if_pos (by simp [hc.1, hc.2]), if_pos (by simp [h2])]
  · rw [if_neg hc] at h2
    rw [if_neg (by simpa using hc), if_pos (by simp [h2])]
theorem sift_go {lt : Nat → Nat → Bool} {hi first r : Nat} {d : Array Nat} (h : ¬ hi ≤ 2 * r + 1) (h2 : lt d[first + r]! d[first + chR lt hi first r d]! = true) :
    Sort.siftDown lt hi first r d = Sort.siftDown lt hi first (chR lt hi first r d) (Sort.swp d (first + r) (first + chR lt hi first r d)) := by
  conv => lhs; rw [Sort.siftDown, dif_neg h]
  unfold chR at h2 ⊢
  by_cases hc : 2 * r + 1 + 1 < hi ∧ lt d[first + (2 * r + 1)]! d[first + (2 * r + 1) + 1]! = true
  · rw [if_pos hc] at h2 ⊢
    rw [if_pos (by simp [hc.1, hc.2]), if_neg (by simp [h2]), dif_pos (by omega)]
  · rw [if_neg hc] at h2 ⊢
    rw [if_neg (by simpa using hc), if_neg (by simp [h2])]

set_option maxHeartbeats 4000000 in
set_option maxRecDepth 100000 in
theorem sift_any {L : Nat → Nat} {lt : Nat → Nat → Bool} (hL : LessOk L lt) (g off cap lo hi first : Nat) (d : Array Nat) (w : World) (hH : Sort.Holds (fV L) w g off d) (hb : first + hi ≤ d.size) (hlo : lo ≤ d.size) (hsz : d.size ≤ 1048576) :
    Calls Try.prog 82 #[.slice (some ⟨g, off, none⟩) d.size cap, .int .i64 lo, .int .i64 hi, .int .i64 first] w fun e w' => e = .returned (.tuple #[]) ∧ SA L w g off d (Sort.siftDown lt hi first lo d) w' := by
  have HLS : Hid (∀ (a b : Nat) (w : World), Calls Try.prog 75 #[.float .f64 (L a), .float .f64 (L b)] w fun e w' => e = .returned (.bool (lt a b)) ∧ w' = w) := hL
  have S0 := Lib.hid (SA.start hH)
  clear hH hL
  go_enter Try.func82, Try.ntmps82
  go_wp2
  go_loopw [8, 9] (fun vr _ wr => ∃ (r : Nat) (dk : Array Nat), vr = .int .i64 r ∧ r ≤ d.size ∧ SA L w g off d dk wr ∧ Sort.siftDown lt hi first r dk = Sort.siftDown lt hi first lo d) (fun vr _ _ => d.size + 1 - (intOf vr).toNat)
  case atStart => exact ⟨lo, d, rfl, hlo, S0.out, rfl⟩
  case round =>
    obtain ⟨r, dk, rfl, hr, hsa, hO⟩ := hrel
    have HO := Lib.hid hO
    have HS := Lib.hid hsa
    clear hO
    by_cases hend : hi ≤ 2 * r + 1
    · have hend' : (hi : Int) ≤ 2 * (r : Int) + 1 := by omega
      clear hsa
      go_wp2
      exact bodyPost_end (v := .tuple #[]) (by simp [results, Try.results82, go_sem]) rfl ⟨rfl, by rw [← HO.out, sift_end hend]; exact HS.out⟩
    · have hend' : ¬ ((hi : Int) ≤ 2 * (r : Int) + 1) := by omega
      obtain ⟨G, hG⟩ : ∃ G : Nat → Nat, ∀ t, G t = dk[t]! := ⟨fun t => dk[t]!, fun _ => rfl⟩
      have hcw : ∀ t, t < d.size → wr.cell? ⟨g, off + t, none⟩ = some (.float .f64 (L (G t))) := fun t ht => by rw [hG]; exact hsa.cell t ht
      have hfw : ∀ t, t < d.size → wr.frozen? ⟨g, off + t, none⟩ = false := fun t ht => hsa.frozen t ht
      have HG := Lib.hid hG
      clear hsa hG
      have b0 : first + (2 * r + 1) < d.size := by omega
      have b1 : first + r < d.size := by omega
      have w1 : IntKind.i64.wrap ((first : Int) + (r : Int)) = (first : Int) + (r : Int) := IntWalk.i64_in _ (by omega)
      have w2 : IntKind.i64.wrap (2 * (r : Int) + 1 + 1) = 2 * (r : Int) + 1 + 1 := IntWalk.i64_in _ (by omega)
      have w3 : IntKind.i64.wrap ((first : Int) + (2 * (r : Int) + 1)) = (first : Int) + (2 * (r : Int) + 1) := IntWalk.i64_in _ (by omega)
      have w4 : IntKind.i64.wrap ((first : Int) + (2 * (r : Int) + 1 + 1)) = (first : Int) + (2 * (r : Int) + 1 + 1) := IntWalk.i64_in _ (by omega)
      have w6 : (0 : Int) ≤ (first : Int) + (r : Int) := by omega
      have w7 : (0 : Int) ≤ (first : Int) + (2 * (r : Int) + 1) := by omega
      have w8 : (0 : Int) ≤ (first : Int) + (2 * (r : Int) + 1 + 1) := by omega
      have w5 : (first : Int) + (r : Int) < (d.size : Int) := by omega
      have w9 : (first : Int) + (2 * (r : Int) + 1) < (d.size : Int) := by omega
      by_cases h2 : 2 * r + 1 + 1 < hi
      · have b2 : first + (2 * r + 1) + 1 < d.size := by omega
        have h2' : (2 * (r : Int) + 1 + 1) < (hi : Int) := by omega
        go_wp2
        go_quiet (first | (go_at_call 75; refine Calls.quiet_of_same (HLS.out _ _ _)))
        go_wp2
        · have h5 : lt (G (first + (2 * r + 1))) (G (first + (2 * r + 1) + 1)) = true := by assumption
          have HCH : Hid (chR lt hi first r dk = 2 * r + 1 + 1) := by
            unfold chR; rw [if_pos ⟨h2, by rw [← HG.out, ← HG.out]; exact h5⟩]; exact Lib.hid rfl
          have b3 : first + (2 * r + 1 + 1) < d.size := by omega
          have b4 : (first : Int) + (2 * (r : Int) + 1 + 1) < (d.size : Int) := by omega
          have b5 : (first : Int) + (r : Int) < (d.size : Int) := by omega
          revert nq; intro nq1
          have hcw2 : ∀ t, t < d.size → (wr.drewN nq1).cell? ⟨g, off + t, none⟩ = some (.float .f64 (L (G t))) := hcw
          have hfw2 : ∀ t, t < d.size → (wr.drewN nq1).frozen? ⟨g, off + t, none⟩ = false := hfw
          have HS2 := Lib.hid (HS.out.drewN nq1)
          clear hcw hfw
          generalize wr.drewN nq1 = wr2 at hcw2 hfw2 HS2 ⊢
          go_quiet (first | (go_at_call 75; refine Calls.quiet_of_same (HLS.out _ _ _)))
          go_wp2_with fail
          · have hl : lt (G (first + r)) (G (first + (2 * r + 1 + 1))) = false := by
              first | assumption | (have h9 : (!lt (G (first + r)) (G (first + (2 * r + 1 + 1)))) = true := by assumption
                                    simpa using h9)
            (try simp only [Exit.inBlock, Exit.then]); refine bodyPost_ret (v := .tuple #[]) (by simp [results, Try.results82, go_sem]) rfl ?_
            exact ⟨rfl, by rw [← HO.out, sift_stop hend (by rw [HCH.out, ← HG.out, ← HG.out]; exact hl)]; exact HS2.out.drewN _⟩
          · have hl : lt (G (first + r)) (G (first + (2 * r + 1 + 1))) = true := by
              first | assumption | (have h9 : (!lt (G (first + r)) (G (first + (2 * r + 1 + 1)))) = false := by assumption
                                    simpa using h9)
            have HL := Lib.hid (show Sort.siftDown lt hi first (2 * r + 1 + 1) (Sort.swp dk (first + r) (first + (2 * r + 1 + 1))) = Sort.siftDown lt hi first lo d by rw [← HO.out, sift_go hend (by rw [HCH.out, ← HG.out, ← HG.out]; exact hl), HCH.out])
            revert nq; intro nq2
            have hcw3 : ∀ t, t < d.size → (wr2.drewN nq2).cell? ⟨g, off + t, none⟩ = some (.float .f64 (L (G t))) := hcw2
            have hfw3 : ∀ t, t < d.size → (wr2.drewN nq2).frozen? ⟨g, off + t, none⟩ = false := hfw2
            have HS3 := Lib.hid (HS2.out.drewN nq2)
            clear hcw2 hfw2
            generalize wr2.drewN nq2 = wr3 at hcw3 hfw3 HS3 ⊢
            have f1 := hfw3 (first + r) (by omega)
            have f2 := hfw3 (first + (2 * r + 1 + 1)) (by omega)
            go_region
            all_goals go_wp2
            go_roundw
            case rel => exact ⟨2 * r + 1 + 1, Sort.swp dk (first + r) (first + (2 * r + 1 + 1)), by go_num, by omega, by rw [HG.out, HG.out]; exact (HS3.out.drewN 1).swap (first + r) (first + (2 * r + 1 + 1)) (by omega) (by omega), HL.out⟩
            case measure => simp [intOf]; omega
        · have h5 : lt (G (first + (2 * r + 1))) (G (first + (2 * r + 1) + 1)) = false := by assumption
          have HCH : Hid (chR lt hi first r dk = 2 * r + 1) := by
            unfold chR; rw [if_neg (fun h => by have h9 := h.2; rw [← HG.out, ← HG.out, h5] at h9; cases h9)]; exact Lib.hid rfl
          revert nq; intro nq1
          have hcw2 : ∀ t, t < d.size → (wr.drewN nq1).cell? ⟨g, off + t, none⟩ = some (.float .f64 (L (G t))) := hcw
          have hfw2 : ∀ t, t < d.size → (wr.drewN nq1).frozen? ⟨g, off + t, none⟩ = false := hfw
          have HS2 := Lib.hid (HS.out.drewN nq1)
          clear hcw hfw
          generalize wr.drewN nq1 = wr2 at hcw2 hfw2 HS2 ⊢
          go_quiet (first | (go_at_call 75; refine Calls.quiet_of_same (HLS.out _ _ _)))
          go_wp2_with fail
          · have hl : lt (G (first + r)) (G (first + (2 * r + 1))) = false := by
              first | assumption | (have h9 : (!lt (G (first + r)) (G (first + (2 * r + 1)))) = true := by assumption
                                    simpa using h9)
            (try simp only [Exit.inBlock, Exit.then]); refine bodyPost_ret (v := .tuple #[]) (by simp [results, Try.results82, go_sem]) rfl ?_
            exact ⟨rfl, by rw [← HO.out, sift_stop hend (by rw [HCH.out, ← HG.out, ← HG.out]; exact hl)]; exact HS2.out.drewN _⟩
          · have hl : lt (G (first + r)) (G (first + (2 * r + 1))) = true := by
              first | assumption | (have h9 : (!lt (G (first + r)) (G (first + (2 * r + 1)))) = false := by assumption
                                    simpa using h9)
            have HL := Lib.hid (show Sort.siftDown lt hi first (2 * r + 1) (Sort.swp dk (first + r) (first + (2 * r + 1))) = Sort.siftDown lt hi first lo d by rw [← HO.out, sift_go hend (by rw [HCH.out, ← HG.out, ← HG.out]; exact hl), HCH.out])
            revert nq; intro nq2
            have hcw3 : ∀ t, t < d.size → (wr2.drewN nq2).cell? ⟨g, off + t, none⟩ = some (.float .f64 (L (G t))) := hcw2
            have hfw3 : ∀ t, t < d.size → (wr2.drewN nq2).frozen? ⟨g, off + t, none⟩ = false := hfw2
            have HS3 := Lib.hid (HS2.out.drewN nq2)
            clear hcw2 hfw2
            generalize wr2.drewN nq2 = wr3 at hcw3 hfw3 HS3 ⊢
            have f1 := hfw3 (first + r) (by omega)
            have f2 := hfw3 (first + (2 * r + 1)) (by omega)
            go_region
            all_goals go_wp2
            go_roundw
            case rel => exact ⟨2 * r + 1, Sort.swp dk (first + r) (first + (2 * r + 1)), by go_num, by omega, by rw [HG.out, HG.out]; exact (HS3.out.drewN 1).swap (first + r) (first + (2 * r + 1)) (by omega) (by omega), HL.out⟩
            case measure => simp [intOf]; omega
      · have h2' : ¬ ((2 * (r : Int) + 1 + 1) < (hi : Int)) := by omega
        have h2b : decide ((2 * (r : Int) + 1 + 1) < (hi : Int)) = false := decide_eq_false h2'
        have HCH : Hid (chR lt hi first r dk = 2 * r + 1) := by
          unfold chR; rw [if_neg (fun h => h2 h.1)]; exact Lib.hid rfl
        go_wp2
        go_quiet (first | (go_at_call 75; refine Calls.quiet_of_same (HLS.out _ _ _)))
        go_wp2
        revert nq; intro nq1
        have hcw2 : ∀ t, t < d.size → (wr.drewN nq1).cell? ⟨g, off + t, none⟩ = some (.float .f64 (L (G t))) := hcw
        have hfw2 : ∀ t, t < d.size → (wr.drewN nq1).frozen? ⟨g, off + t, none⟩ = false := hfw
        have HS2 := Lib.hid (HS.out.drewN nq1)
        clear hcw hfw
        generalize wr.drewN nq1 = wr2 at hcw2 hfw2 HS2 ⊢
        go_quiet (first | (go_at_call 75; refine Calls.quiet_of_same (HLS.out _ _ _)))
        go_wp2_with fail
        · have hl : lt (G (first + r)) (G (first + (2 * r + 1))) = false := by
            first | assumption | (have h9 : (!lt (G (first + r)) (G (first + (2 * r + 1)))) = true := by assumption
                                  simpa using h9)
          (try simp only [Exit.inBlock, Exit.then]); refine bodyPost_ret (v := .tuple #[]) (by simp [results, Try.results82, go_sem]) rfl ?_
          exact ⟨rfl, by rw [← HO.out, sift_stop hend (by rw [HCH.out, ← HG.out, ← HG.out]; exact hl)]; exact HS2.out.drewN _⟩
        · have hl : lt (G (first + r)) (G (first + (2 * r + 1))) = true := by
            first | assumption | (have h9 : (!lt (G (first + r)) (G (first + (2 * r + 1)))) = false := by assumption
                                  simpa using h9)
          have HL := Lib.hid (show Sort.siftDown lt hi first (2 * r + 1) (Sort.swp dk (first + r) (first + (2 * r + 1))) = Sort.siftDown lt hi first lo d by rw [← HO.out, sift_go hend (by rw [HCH.out, ← HG.out, ← HG.out]; exact hl), HCH.out])
          revert nq; intro nq2
          have hcw3 : ∀ t, t < d.size → (wr2.drewN nq2).cell? ⟨g, off + t, none⟩ = some (.float .f64 (L (G t))) := hcw2
          have hfw3 : ∀ t, t < d.size → (wr2.drewN nq2).frozen? ⟨g, off + t, none⟩ = false := hfw2
          have HS3 := Lib.hid (HS2.out.drewN nq2)
          clear hcw2 hfw2
          generalize wr2.drewN nq2 = wr3 at hcw3 hfw3 HS3 ⊢
          have f1 := hfw3 (first + r) (by omega)
          have f2 := hfw3 (first + (2 * r + 1)) (by omega)
          go_region
          all_goals go_wp2
          go_roundw
          case rel => exact ⟨2 * r + 1, Sort.swp dk (first + r) (first + (2 * r + 1)), by go_num, by omega, by rw [HG.out, HG.out]; exact (HS3.out.drewN 1).swap (first + r) (first + (2 * r + 1)) (by omega) (by omega), HL.out⟩
          case measure => simp [intOf]; omega
end Go.Proofs.Ytcjmigjkjepkdaa
