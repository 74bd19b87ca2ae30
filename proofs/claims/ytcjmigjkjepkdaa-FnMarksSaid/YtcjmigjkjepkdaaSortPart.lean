/- The library's sort over lags: partialInsertionSortOrdered. -/
import Derived.Test.YtcjmigjkjepkdaaSortRev
import Derived.Deep.CutRange
import Derived.Deep.LoopGhost
namespace Go.Proofs.Ytcjmigjkjepkdaa
open Go.RowKit

section
variable {lt : Nat → Nat → Bool} {d : Array Nat} {a b i j : Nat}
theorem ss_go (h : i < b) (hl : lt d[i]! d[i - 1]! = false) : Sort.scanSorted lt d b i = Sort.scanSorted lt d b (i + 1) := by
  conv => lhs; rw [Sort.scanSorted]
  rw [if_pos (by simp [h, hl])]
theorem ss_stop (h : b ≤ i ∨ lt d[i]! d[i - 1]! = true) : Sort.scanSorted lt d b i = i := by
  rw [Sort.scanSorted, if_neg]
  rcases h with h | h
  · simp; intro h2; omega
  · simp [h]
theorem sd_go (h : 1 ≤ j) (hl : lt d[j]! d[j - 1]! = true) : Sort.shiftDown lt j d = Sort.shiftDown lt (j - 1) (Sort.swp d j (j - 1)) := by
  obtain ⟨k, rfl⟩ : ∃ k, j = k + 1 := ⟨j - 1, by omega⟩
  simp only [Nat.add_sub_cancel] at hl ⊢
  rw [Sort.shiftDown, if_neg (by simp [hl])]
theorem sd_stop (h : j = 0 ∨ lt d[j]! d[j - 1]! = false) : Sort.shiftDown lt j d = d := by
  cases j with
  | zero => rfl
  | succ k =>
    simp only [Nat.add_sub_cancel] at h
    rw [Sort.shiftDown, if_pos]
    rcases h with h | h
    · omega
    · simp [h]
theorem su_go (h : j < b) (hl : lt d[j]! d[j - 1]! = true) : Sort.shiftUp lt b j d = Sort.shiftUp lt b (j + 1) (Sort.swp d j (j - 1)) := by
  conv => lhs; rw [Sort.shiftUp]
  rw [if_pos h, if_neg (by simp [hl])]
theorem su_stop (h : b ≤ j ∨ lt d[j]! d[j - 1]! = false) : Sort.shiftUp lt b j d = d := by
  rw [Sort.shiftUp]
  rcases h with h | h
  · rw [if_neg (by omega)]
  · by_cases hj : j < b
    · rw [if_pos hj, if_pos (by simp [h])]
    · rw [if_neg hj]
theorem pi_yes {n k : Nat} (hn : 1 ≤ n) (hK : Sort.scanSorted lt d b i = k) (hk : k = b) : Sort.partialIns lt a b n i d = (d, true) := by
  obtain ⟨m, rfl⟩ : ∃ m, n = m + 1 := ⟨n - 1, by omega⟩
  rw [Sort.partialIns_succ, hK, if_pos hk]
theorem pi_few {n k : Nat} (hn : 1 ≤ n) (hK : Sort.scanSorted lt d b i = k) (hk : k < b) (h50 : b - a < 50) : Sort.partialIns lt a b n i d = (d, false) := by
  obtain ⟨m, rfl⟩ : ∃ m, n = m + 1 := ⟨n - 1, by omega⟩
  rw [Sort.partialIns_succ, hK, if_neg (by omega), if_pos h50]
theorem pi_on {n k : Nat} {D1 D2 D3 : Array Nat} (hn : 1 ≤ n) (hK : Sort.scanSorted lt d b i = k) (hk : k < b) (h50 : ¬ b - a < 50)
    (h1 : D1 = Sort.swp d k (k - 1)) (h2 : Sort.fixDown lt a k D1 = D2) (h3 : Sort.fixUp lt b k D2 = D3) :
    Sort.partialIns lt a b n i d = Sort.partialIns lt a b (n - 1) k D3 := by
  obtain ⟨m, rfl⟩ : ∃ m, n = m + 1 := ⟨n - 1, by omega⟩
  rw [Sort.partialIns_succ, hK, if_neg (by omega), if_neg h50, ← h1, h2, h3, Nat.add_sub_cancel]
end
theorem SA.fam {L : Nat → Nat} {w wr : World} {g off : Nat} {d0 d : Array Nat} (h : SA L w g off d0 d wr) :
    ∃ G : Nat → Nat, (∀ t, G t = d[t]!) ∧ (∀ t, t < d0.size → wr.cell? ⟨g, off + t, none⟩ = some (.float .f64 (L (G t)))) ∧ (∀ t, t < d0.size → wr.frozen? ⟨g, off + t, none⟩ = false) :=
  ⟨fun t => d[t]!, fun _ => rfl, fun t ht => h.cell t ht, fun t ht => h.frozen t ht⟩

set_option maxHeartbeats 8000000 in
set_option maxRecDepth 100000 in
theorem partIns_any {L : Nat → Nat} {lt : Nat → Nat → Bool} (hL : LessOk L lt) (g off cap a b : Nat) (d : Array Nat) (w : World) (hH : Sort.Holds (fV L) w g off d) (hab : a < b) (hb : b ≤ d.size) (hsz : d.size ≤ 1048576) :
    Calls Try.prog 74 #[.slice (some ⟨g, off, none⟩) d.size cap, .int .i64 a, .int .i64 b] w fun e w' => e = .returned (.bool (Sort.partialInsertionSort lt d a b).2) ∧ SA L w g off d (Sort.partialInsertionSort lt d a b).1 w' := by
  have HLS : Hid (∀ (a b : Nat) (w : World), Calls Try.prog 75 #[.float .f64 (L a), .float .f64 (L b)] w fun e w' => e = .returned (.bool (lt a b)) ∧ w' = w) := hL
  have S0 := Lib.hid (SA.start hH)
  clear hH hL
  go_enter Try.func74, Try.ntmps74
  go_wp2
  go_loopg [7, 8] 5 (fun gk vi vs wr => ∃ (i s : Nat) (dk : Array Nat), gk + s = 5 ∧ vi = .int .i64 i ∧ vs = .int .i64 s ∧ a < i ∧ i ≤ b ∧ SA L w g off d dk wr ∧ Sort.partialIns lt a b gk i dk = Sort.partialIns lt a b 5 (a + 1) d)
  case atStart => exact ⟨a + 1, 0, d, rfl, by go_num, rfl, by omega, by omega, S0.out, rfl⟩
  case round =>
    obtain ⟨i, s, dk, hgs, rfl, rfl, hai, hib, hsa, hO⟩ := hrel
    have HO := Lib.hid hO
    have HS := Lib.hid hsa
    have HGS := Lib.hid hgs
    by_cases hs5 : s < 5
    · have hs5' : (s : Int) < 5 := by omega
      have hn1 : 1 ≤ gk := by omega
      clear hO hsa hgs
      obtain ⟨n, hn⟩ : ∃ n, n = gk := ⟨_, rfl⟩
      rw [← hn] at HO HGS hn1
      have HN := Lib.hid hn
      clear hn
      go_wp2
      go_loopg [7] (b - i) (fun gk2 vi wr2 => ∃ k : Nat, gk2 + k = b ∧ vi = .int .i64 k ∧ i ≤ k ∧ SA L w g off d dk wr2 ∧ Sort.scanSorted lt dk b k = Sort.scanSorted lt dk b i)
      case atStart => exact ⟨i, by omega, rfl, Nat.le_refl _, HS.out, rfl⟩
      case round =>
        obtain ⟨k, hk2, rfl, hik, hsk, hI⟩ := hrel
        have HI := Lib.hid hI
        have HS1 := Lib.hid hsk
        have hkb0 : k ≤ b := by omega
        have HK2 := Lib.hid hk2
        clear hI hsk hk2
        obtain ⟨G, hG, hcw, hfw⟩ := HS1.out.fam
        have HG := Lib.hid hG
        clear hG
        clear HS
        by_cases hkb : k < b
        · have hkb' : (k : Int) < (b : Int) := by omega
          have hk1 : 1 ≤ k := by omega
          by_cases h50 : b - a < 50
          · have h50' : (b : Int) - (a : Int) < 50 := by omega
            go_wp2
            go_quiet (first | (go_at_call 75; refine Calls.quiet_of_same (HLS.out _ _ _)))
            go_wp2
            · have hl : lt (G (k)) (G (k - 1)) = false := by
                have h9 : (!lt (G (k)) (G (k - 1))) = true := by assumption
                simpa using h9
              go_roundg (b - (k + 1))
              case measure => (have e1 := HK2.out; omega)
              case rel => exact ⟨k + 1, by omega, by go_num, by omega, HS1.out.drewN _, by rw [← HI.out, ss_go hkb (by rw [← HG.out, ← HG.out]; exact hl)]⟩
            · have hl : lt (G (k)) (G (k - 1)) = true := by
                have h9 : (!lt (G (k)) (G (k - 1))) = false := by assumption
                simpa using h9
              have HK := Lib.hid (show Sort.scanSorted lt dk b i = k by rw [← HI.out, ss_stop (Or.inr (by rw [← HG.out, ← HG.out]; exact hl))])
              have HV := Lib.hid (show Sort.partialInsertionSort lt d a b = (dk, false) by unfold Sort.partialInsertionSort; rw [← HO.out, pi_few hn1 HK.out hkb h50])
              exact bodyPost_ret (v := .bool false) (by simp [results, Try.results74, go_sem]) rfl ⟨by rw [HV.out], by rw [HV.out]; exact HS1.out.drewN _⟩
          · have h50' : ¬ ((b : Int) - (a : Int) < 50) := by omega
            go_wp2
            go_quiet (first | (go_at_call 75; refine Calls.quiet_of_same (HLS.out _ _ _)))
            go_wp2
            · have hl : lt (G (k)) (G (k - 1)) = false := by
                have h9 : (!lt (G (k)) (G (k - 1))) = true := by assumption
                simpa using h9
              go_roundg (b - (k + 1))
              case measure => (have e1 := HK2.out; omega)
              case rel => exact ⟨k + 1, by omega, by go_num, by omega, HS1.out.drewN _, by rw [← HI.out, ss_go hkb (by rw [← HG.out, ← HG.out]; exact hl)]⟩
            · have hl : lt (G (k)) (G (k - 1)) = true := by
                have h9 : (!lt (G (k)) (G (k - 1))) = false := by assumption
                simpa using h9
              have HK := Lib.hid (show Sort.scanSorted lt dk b i = k by rw [← HI.out, ss_stop (Or.inr (by rw [← HG.out, ← HG.out]; exact hl))])
              have f1 := hfw k (by omega)
              have f2 := hfw (k - 1) (by omega)
              have x1 : ¬ (k = k - 1) := by omega
              have x2 : ¬ (k - 1 = k) := by omega
              obtain ⟨D1, hD1⟩ : ∃ D1, D1 = Sort.swp dk k (k - 1) := ⟨_, rfl⟩
              have HD1 := Lib.hid hD1
              clear hD1
              go_region
              have HS4 := Lib.hid ((HS1.out.drewN (nq + 1)).swap k (k - 1) (by omega) (by omega))
              rw [← HG.out, ← HG.out, ← HD1.out] at HS4
              generalize (((wr.drewN (nq + 1)).setCell ⟨g, off + k, none⟩ (.float .f64 (L (G (k - 1))))).setCell ⟨g, off + (k - 1), none⟩ (.float .f64 (L (G k)))) = w4 at HS4 ⊢
              clear hcw hfw f1 f2 x1 x2
              go_upto_if 61 with fail
              go_cut [9] from 13 to 132 (fun _ wy => ∃ D2, Sort.fixDown lt a k D1 = D2 ∧ SA L w g off d D2 wy)
              case first =>
                by_cases h2 : k - a ≥ 2
                · have h2' : (2 : Int) ≤ (k : Int) - (a : Int) := by omega
                  go_wp2
                  go_loopg [9] k (fun gk3 vj wr2 => ∃ (j : Nat) (dj : Array Nat), gk3 = j + 1 ∧ vj = .int .i64 j ∧ j ≤ k - 1 ∧ SA L w g off d dj wr2 ∧ Sort.shiftDown lt j dj = Sort.shiftDown lt (k - 1) D1)
                  case atStart => exact ⟨k - 1, D1, by omega, by congr 1; omega, Nat.le_refl _, HS4.out, rfl⟩
                  case round =>
                    obtain ⟨j, dj, hj2, rfl, hjk, hsj, hU⟩ := hrel
                    have HU := Lib.hid hU
                    have HS6 := Lib.hid hsj
                    have HJ2 := Lib.hid hj2
                    clear hU hsj hj2 HS4
                    obtain ⟨G, hG, hcw, hfw⟩ := HS6.out.fam
                    have HG := Lib.hid hG
                    clear hG
                    by_cases hj1 : 1 ≤ j
                    · have hj1' : (1 : Int) ≤ (j : Int) := by omega
                      go_wp2
                      go_quiet (first | (go_at_call 75; refine Calls.quiet_of_same (HLS.out _ _ _)))
                      go_wp2
                      · have hl : lt (G (j)) (G (j - 1)) = false := by
                          have h9 : (!lt (G (j)) (G (j - 1))) = true := by assumption
                          simpa using h9
                        have H3 := Lib.hid (show Sort.fixDown lt a k D1 = dj by unfold Sort.fixDown; rw [if_pos h2, ← HU.out, sd_stop (Or.inr (by rw [← HG.out, ← HG.out]; exact hl))])
                        go_meet
                        case rel => exact ⟨_, H3.out, HS6.out.drewN _⟩
                      · have hl : lt (G (j)) (G (j - 1)) = true := by
                          have h9 : (!lt (G (j)) (G (j - 1))) = false := by assumption
                          simpa using h9
                        have H3 := Lib.hid (show Sort.shiftDown lt (j - 1) (Sort.swp dj j (j - 1)) = Sort.shiftDown lt (k - 1) D1 by rw [← HU.out, sd_go hj1 (by rw [← HG.out, ← HG.out]; exact hl)])
                        have f1 := hfw j (by omega)
                        have f2 := hfw (j - 1) (by omega)
                        have x1 : ¬ (j = j - 1) := by omega
                        have x2 : ¬ (j - 1 = j) := by omega
                        go_region
                        all_goals
                          go_wp2
                          go_roundg j
                          case measure => (have e1 := HJ2.out; omega)
                          case rel => exact ⟨j - 1, Sort.swp dj j (j - 1), by omega, by congr 1; omega, by omega, by rw [HG.out, HG.out]; exact (HS6.out.drewN _).swap j (j - 1) (by omega) (by omega), H3.out⟩
                    · have hj1' : ¬ ((1 : Int) ≤ (j : Int)) := by omega
                      have H3 := Lib.hid (show Sort.fixDown lt a k D1 = dj by unfold Sort.fixDown; rw [if_pos h2, ← HU.out, sd_stop (Or.inl (by omega))])
                      clear hcw hfw
                      go_wp2
                      go_meet
                      case rel => exact ⟨_, H3.out, HS6.out⟩
                · have h2' : ¬ ((2 : Int) ≤ (k : Int) - (a : Int)) := by omega
                  have H3 := Lib.hid (show Sort.fixDown lt a k D1 = D1 by unfold Sort.fixDown; rw [if_neg h2])
                  go_wp2
                  go_meet
                  case rel => exact ⟨_, H3.out, HS4.out⟩
              case rest =>
                obtain ⟨D2, hD2, hs5⟩ := hcut
                have HD2 := Lib.hid hD2
                have HS5 := Lib.hid hs5
                clear hD2 hs5 HS4
                by_cases h3 : b - k ≥ 2
                · have h3' : (2 : Int) ≤ (b : Int) - (k : Int) := by omega
                  go_wp2
                  go_loopg [10] (b - (k + 1)) (fun gk3 vj wr2 => ∃ (j : Nat) (dj : Array Nat), gk3 + j = b ∧ vj = .int .i64 j ∧ k + 1 ≤ j ∧ SA L w g off d dj wr2 ∧ Sort.shiftUp lt b j dj = Sort.shiftUp lt b (k + 1) D2)
                  case atStart => exact ⟨k + 1, D2, by omega, by go_num, Nat.le_refl _, HS5.out, rfl⟩
                  case round =>
                    obtain ⟨j, dj, hj2, rfl, hkj, hsj, hU⟩ := hrel
                    have HU := Lib.hid hU
                    have HS6 := Lib.hid hsj
                    have HJ2 := Lib.hid hj2
                    have hjb0 : j ≤ b := by omega
                    clear hU hsj hj2 HS5
                    obtain ⟨G, hG, hcw, hfw⟩ := HS6.out.fam
                    have HG := Lib.hid hG
                    clear hG
                    by_cases hjb : j < b
                    · have hjb' : (j : Int) < (b : Int) := by omega
                      have hj1 : 1 ≤ j := by omega
                      go_wp2
                      go_quiet (first | (go_at_call 75; refine Calls.quiet_of_same (HLS.out _ _ _)))
                      go_wp2
                      · have hl : lt (G (j)) (G (j - 1)) = false := by
                          have h9 : (!lt (G (j)) (G (j - 1))) = true := by assumption
                          simpa using h9
                        have H3 := Lib.hid (show Sort.fixUp lt b k D2 = dj by unfold Sort.fixUp; rw [if_pos h3, ← HU.out, su_stop (Or.inr (by rw [← HG.out, ← HG.out]; exact hl))])
                        go_roundg (n - 1)
                        case measure => (have e1 := HN.out; omega)
                        case rel => exact ⟨k, s + 1, dj, by have e1 := HGS.out; omega, rfl, by go_num, by omega, by omega, HS6.out.drewN _, by rw [← pi_on hn1 HK.out hkb h50 HD1.out HD2.out H3.out]; exact HO.out⟩
                      · have hl : lt (G (j)) (G (j - 1)) = true := by
                          have h9 : (!lt (G (j)) (G (j - 1))) = false := by assumption
                          simpa using h9
                        have H3 := Lib.hid (show Sort.shiftUp lt b (j + 1) (Sort.swp dj j (j - 1)) = Sort.shiftUp lt b (k + 1) D2 by rw [← HU.out, su_go hjb (by rw [← HG.out, ← HG.out]; exact hl)])
                        have f1 := hfw j (by omega)
                        have f2 := hfw (j - 1) (by omega)
                        have x1 : ¬ (j = j - 1) := by omega
                        have x2 : ¬ (j - 1 = j) := by omega
                        go_region
                        all_goals
                          go_wp2
                          go_roundg (b - (j + 1))
                          case measure => (have e1 := HJ2.out; omega)
                          case rel => exact ⟨j + 1, Sort.swp dj j (j - 1), by omega, by go_num, by omega, by rw [HG.out, HG.out]; exact (HS6.out.drewN _).swap j (j - 1) (by omega) (by omega), H3.out⟩
                    · have hjb' : ¬ ((j : Int) < (b : Int)) := by omega
                      have H3 := Lib.hid (show Sort.fixUp lt b k D2 = dj by unfold Sort.fixUp; rw [if_pos h3, ← HU.out, su_stop (Or.inl (by omega))])
                      clear hcw hfw
                      go_wp2
                      go_roundg (n - 1)
                      case measure => (have e1 := HN.out; omega)
                      case rel => exact ⟨k, s + 1, dj, by have e1 := HGS.out; omega, rfl, by go_num, by omega, by omega, HS6.out, by rw [← pi_on hn1 HK.out hkb h50 HD1.out HD2.out H3.out]; exact HO.out⟩
                · have h3' : ¬ ((2 : Int) ≤ (b : Int) - (k : Int)) := by omega
                  have H3 := Lib.hid (show Sort.fixUp lt b k D2 = D2 by unfold Sort.fixUp; rw [if_neg h3])
                  go_wp2
                  go_roundg (n - 1)
                  case measure => (have e1 := HN.out; omega)
                  case rel => exact ⟨k, s + 1, D2, by have e1 := HGS.out; omega, rfl, by go_num, by omega, by omega, HS5.out, by rw [← pi_on hn1 HK.out hkb h50 HD1.out HD2.out H3.out]; exact HO.out⟩
        · have hkb' : ¬ ((k : Int) < (b : Int)) := by omega
          have hkb1 : k = b := by omega
          subst hkb1
          have HK := Lib.hid (show Sort.scanSorted lt dk k i = k by rw [← HI.out, ss_stop (Or.inl (Nat.le_refl _))])
          have HV := Lib.hid (show Sort.partialInsertionSort lt d a k = (dk, true) by unfold Sort.partialInsertionSort; rw [← HO.out, pi_yes hn1 HK.out rfl])
          clear hcw hfw
          go_wp2
          go_quiet (first | (go_at_call 75; refine Calls.quiet_of_same (HLS.out _ _ _)))
          go_wp2
          exact bodyPost_ret (v := .bool true) (by simp [results, Try.results74, go_sem]) rfl ⟨by rw [HV.out], by rw [HV.out]; exact HS1.out.drewN _⟩
    · have hs5' : ¬ ((s : Int) < 5) := by omega
      have h0 : gk = 0 := by have e1 := HGS.out; omega
      subst h0
      have HV := Lib.hid (show Sort.partialInsertionSort lt d a b = (dk, false) by unfold Sort.partialInsertionSort; rw [← HO.out]; rfl)
      clear hO hsa hgs
      go_wp2
      exact bodyPost_ret (v := .bool false) (by simp [results, Try.results74, go_sem]) rfl ⟨by rw [HV.out], by rw [HV.out]; exact HS.out⟩
end Go.Proofs.Ytcjmigjkjepkdaa
