/- The library's sort over lags: heapSortOrdered, reverseRangeOrdered. -/
import Derived.Test.YtcjmigjkjepkdaaSortHeap
namespace Go.Proofs.Ytcjmigjkjepkdaa
open Go.RowKit

section
variable {L : Nat → Nat} {w wr w' : World} {g off : Nat} {d0 d d2 : Array Nat}
theorem SA.size (h : SA L w g off d0 d wr) : d.size = d0.size := h.2.1
theorem SA.holds (h : SA L w g off d0 d wr) : Sort.Holds (fV L) wr g off d := by
  obtain ⟨hH, hs, n, rfl⟩ := h
  exact Sort.holds_putRow (fV L) (Sort.ahead w n) g off d0 d (Sort.holds_ahead _ _ _ _ _ _ hH) hs
theorem SA.trans (h : SA L w g off d0 d wr) (k : SA L wr g off d d2 w') : SA L w g off d0 d2 w' := by
  obtain ⟨hH, hs, n, rfl⟩ := h
  obtain ⟨_, hs2, m, rfl⟩ := k
  exact ⟨hH, hs2.trans hs, n + m, Sort.putRow_ahead_putRow (fV L) w n m g off d d2 hs2⟩
end
theorem build_step {lt : Nat → Nat → Bool} (hi first k : Nat) (d : Array Nat) : Sort.heapBuild lt hi first (k + 1) d = Sort.heapBuild lt hi first k (Sort.siftDown lt hi first k d) := rfl
theorem pop_step {lt : Nat → Nat → Bool} (first k : Nat) (d : Array Nat) : Sort.heapPop lt first (k + 1) d = Sort.heapPop lt first k (Sort.siftDown lt k first 0 (Sort.swp d first (first + k))) := rfl

set_option maxHeartbeats 4000000 in
set_option maxRecDepth 100000 in
theorem heap_any {L : Nat → Nat} {lt : Nat → Nat → Bool} (hL : LessOk L lt) (g off cap a b : Nat) (d : Array Nat) (w : World) (hH : Sort.Holds (fV L) w g off d) (hab : a ≤ b) (hb : b ≤ d.size) (hsz : d.size ≤ 1048576) :
    Calls Try.prog 70 #[.slice (some ⟨g, off, none⟩) d.size cap, .int .i64 a, .int .i64 b] w fun e w' => e = .returned (.tuple #[]) ∧ SA L w g off d (Sort.heapSort lt d a b) w' := by
  have S0 := Lib.hid (SA.start hH)
  have HSF : Hid (∀ (lo hi : Nat) (dk : Array Nat) (W : World), SA L w g off d dk W → a + hi ≤ d.size → lo ≤ d.size → Calls Try.prog 82 #[.slice (some ⟨g, off, none⟩) d.size cap, .int .i64 lo, .int .i64 hi, .int .i64 a] W fun e w' => e = .returned (.tuple #[]) ∧ SA L w g off d (Sort.siftDown lt hi a lo dk) w') := Lib.hid (fun lo hi dk W h h1 h2 => by
    have k := sift_any hL g off cap lo hi a dk W h.holds (by rw [h.size]; exact h1) (by rw [h.size]; exact h2) (by rw [h.size]; exact hsz)
    rw [h.size] at k
    exact k.mono fun e w' ⟨h3, h4⟩ => ⟨h3, h.trans h4⟩)
  clear hH hL
  have e1 : ((b : Int) - (a : Int)) = ((b - a : Nat) : Int) := by omega
  obtain ⟨n, hn⟩ : ∃ n, n = b - a := ⟨_, rfl⟩
  rw [← hn] at e1
  have hq : ((n : Int) - 1).tdiv 2 = (((n - 1) / 2 : Nat) : Int) := by
    rcases Nat.eq_zero_or_pos n with h0 | h0
    · rw [h0]; decide
    · rw [Int.tdiv_eq_ediv_of_nonneg (by omega)]; omega
  have hfin : Sort.heapSort lt d a b = Sort.heapPop lt a n (Sort.heapBuild lt n a ((n - 1) / 2 + 1) d) := by rw [hn]; rfl
  have HF := Lib.hid hfin
  have hna : a + n ≤ d.size := by omega
  clear hfin hn
  go_enter Try.func70, Try.ntmps70
  go_wp2
  go_loopw [9] (fun vi wr => ∃ (k : Nat) (dk : Array Nat), vi = .int .i64 ((k : Int) - 1) ∧ k ≤ (n - 1) / 2 + 1 ∧ SA L w g off d dk wr ∧ Sort.heapBuild lt n a k dk = Sort.heapBuild lt n a ((n - 1) / 2 + 1) d) (fun vi _ => (intOf vi + 1).toNat)
  case atStart => exact ⟨(n - 1) / 2 + 1, d, by congr 1; omega, Nat.le_refl _, S0.out, rfl⟩
  case round =>
    obtain ⟨k, dk, rfl, hk, hsa, hO⟩ := hrel
    have HO := Lib.hid hO
    have HS := Lib.hid hsa
    clear hO hsa
    cases k with
    | succ k =>
      rw [show (((k + 1 : Nat) : Int) - 1) = (k : Int) by omega]
      have hk0 : (0 : Int) ≤ (k : Int) := by omega
      go_wp2_with fail
      refine (HSF.out k n dk _ HS.out hna (by omega)).mono ?_
      rintro e w3 ⟨rfl, hs3⟩
      have HS3 := Lib.hid hs3
      clear hs3
      go_wp2
      go_roundw
      case rel => exact ⟨k, _, rfl, by omega, HS3.out, by rw [← HO.out, build_step]⟩
      case measure => simp [intOf] <;> omega
    | zero =>
      rw [show (((0 : Nat) : Int) - 1) = -1 by omega]
      have HB := Lib.hid (show Sort.heapBuild lt n a ((n - 1) / 2 + 1) d = dk from HO.out.symm)
      go_wp2
      go_loopw [10] (fun vi wr => ∃ (k : Nat) (dj : Array Nat), vi = .int .i64 ((k : Int) - 1) ∧ k ≤ n ∧ SA L w g off d dj wr ∧ Sort.heapPop lt a k dj = Sort.heapPop lt a n dk) (fun vi _ => (intOf vi + 1).toNat)
      case atStart => exact ⟨n, dk, rfl, Nat.le_refl _, HS.out, rfl⟩
      case round =>
        obtain ⟨k, dj, rfl, hk2, hsa, hP⟩ := hrel
        have HP := Lib.hid hP
        have HJ := Lib.hid hsa
        cases k with
        | succ k =>
          rw [show (((k + 1 : Nat) : Int) - 1) = (k : Int) by omega]
          have hk0 : (0 : Int) ≤ (k : Int) := by omega
          obtain ⟨G, hG⟩ : ∃ G : Nat → Nat, ∀ t, G t = dj[t]! := ⟨fun t => dj[t]!, fun _ => rfl⟩
          have hcw : ∀ t, t < d.size → wr.cell? ⟨g, off + t, none⟩ = some (.float .f64 (L (G t))) := fun t ht => by rw [hG]; exact hsa.cell t ht
          have hfw : ∀ t, t < d.size → wr.frozen? ⟨g, off + t, none⟩ = false := fun t ht => hsa.frozen t ht
          have HG := Lib.hid hG
          clear hP hsa hG
          rcases Nat.eq_zero_or_pos k with rfl | hkp
          · have b2 : a < d.size := by omega
            have f1 := hfw a b2
            go_wp2
            go_region
            all_goals
              have HW := Lib.hid ((HJ.out.drewN 1).swap a a b2 b2)
              rw [← HG.out] at HW
              go_wp2_with fail
              refine (HSF.out 0 0 _ _ HW.out (by omega) (by omega)).mono ?_
              rintro e w3 ⟨rfl, hs3⟩
              have HS3 := Lib.hid hs3
              clear hs3
              go_wp2
              go_roundw
              case rel => exact ⟨0, _, rfl, by omega, HS3.out, by rw [← HP.out, pop_step, Nat.add_zero]⟩
              case measure => simp [intOf] <;> omega
          · have x1 : ¬ (k = 0) := by omega
            have x2 : ¬ (a + k = a) := by omega
            have x3 : ¬ (a = a + k) := by omega
            have w6 : (0 : Int) ≤ (a : Int) + (k : Int) := by omega
            have w5 : (a : Int) + (k : Int) < (d.size : Int) := by omega
            have w1 : IntKind.i64.wrap ((a : Int) + (k : Int)) = (a : Int) + (k : Int) := IntWalk.i64_in _ (by omega)
            have b1 : a + k < d.size := by omega
            have b2 : a < d.size := by omega
            have f1 := hfw a b2
            have f2 := hfw (a + k) b1
            go_wp2
            go_region
            all_goals
              have HW := Lib.hid ((HJ.out.drewN 1).swap a (a + k) b2 b1)
              rw [← HG.out, ← HG.out] at HW
              go_wp2_with fail
              refine (HSF.out 0 k _ _ HW.out (by omega) (by omega)).mono ?_
              rintro e w3 ⟨rfl, hs3⟩
              have HS3 := Lib.hid hs3
              clear hs3
              go_wp2
              go_roundw
              case rel => exact ⟨k, _, rfl, by omega, HS3.out, by rw [← HP.out, pop_step]⟩
              case measure => simp [intOf] <;> omega
        | zero =>
          rw [show (((0 : Nat) : Int) - 1) = -1 by omega]
          clear hP hsa
          go_wp2
          exact bodyPost_end (v := .tuple #[]) (by simp [results, Try.results70, go_sem]) rfl ⟨rfl, by rw [HF.out, HB.out, ← HP.out]; exact HJ.out⟩
end Go.Proofs.Ytcjmigjkjepkdaa
