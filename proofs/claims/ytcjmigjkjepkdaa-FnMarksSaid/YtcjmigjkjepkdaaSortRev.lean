/- The library's sort over lags: reverseRangeOrdered. -/
import Derived.Test.YtcjmigjkjepkdaaSortHeap2
namespace Go.Proofs.Ytcjmigjkjepkdaa
open Go.RowKit

theorem rev_go {i j : Nat} {d : Array Nat} (h : i < j) : Sort.reverseLoop i j d = Sort.reverseLoop (i + 1) (j - 1) (Sort.swp d i j) := by conv => lhs; rw [Sort.reverseLoop, if_pos h]
theorem rev_stop {i j : Nat} {d : Array Nat} (h : ¬ i < j) : Sort.reverseLoop i j d = d := by rw [Sort.reverseLoop, if_neg h]
set_option maxHeartbeats 4000000 in
set_option maxRecDepth 100000 in
theorem rev_any {L : Nat → Nat} (g off cap a b : Nat) (d : Array Nat) (w : World) (hH : Sort.Holds (fV L) w g off d) (hab : a < b) (hb : b ≤ d.size) (hsz : d.size ≤ 1048576) :
    Calls Try.prog 73 #[.slice (some ⟨g, off, none⟩) d.size cap, .int .i64 a, .int .i64 b] w fun e w' => e = .returned (.tuple #[]) ∧ SA L w g off d (Sort.reverseRange d a b) w' := by
  have S0 := Lib.hid (SA.start hH)
  clear hH
  have hb1 : (1 : Int) ≤ (b : Int) := by omega
  go_enter Try.func73, Try.ntmps73
  go_wp2
  go_loopw [6, 7] (fun vi vj wr => ∃ (i j : Nat) (dk : Array Nat), vi = .int .i64 i ∧ vj = .int .i64 j ∧ i ≤ d.size ∧ j < d.size ∧ SA L w g off d dk wr ∧ Sort.reverseLoop i j dk = Sort.reverseLoop a (b - 1) d) (fun _ vj _ => (intOf vj).toNat)
  case atStart => exact ⟨a, b - 1, d, rfl, by congr 1; omega, by omega, by omega, S0.out, rfl⟩
  case round =>
    obtain ⟨i, j, dk, rfl, rfl, hi, hj, hsa, hO⟩ := hrel
    have HO := Lib.hid hO
    have HS := Lib.hid hsa
    by_cases hlt : i < j
    · obtain ⟨G, hG⟩ : ∃ G : Nat → Nat, ∀ t, G t = dk[t]! := ⟨fun t => dk[t]!, fun _ => rfl⟩
      have hcw : ∀ t, t < d.size → wr.cell? ⟨g, off + t, none⟩ = some (.float .f64 (L (G t))) := fun t ht => by rw [hG]; exact hsa.cell t ht
      have hfw : ∀ t, t < d.size → wr.frozen? ⟨g, off + t, none⟩ = false := fun t ht => hsa.frozen t ht
      have HG := Lib.hid hG
      clear hO hsa hG
      have hlt' : (i : Int) < (j : Int) := by omega
      have b1 : i < d.size := by omega
      have x2 : ¬ (i = j) := by omega
      have x3 : ¬ (j = i) := by omega
      have f1 := hfw i b1
      have f2 := hfw j hj
      go_wp2
      go_region
      all_goals
        have HW := Lib.hid ((HS.out.drewN 1).swap i j b1 hj)
        rw [← HG.out, ← HG.out] at HW
        go_wp2
        go_roundw
        case rel => exact ⟨i + 1, j - 1, _, by go_num, by congr 1; omega, by omega, by omega, HW.out, by rw [← HO.out, rev_go hlt]⟩
        case measure => simp [intOf] <;> omega
    · have hlt' : ¬ ((i : Int) < (j : Int)) := by omega
      clear hO hsa
      go_wp2
      exact bodyPost_end (v := .tuple #[]) (by simp [results, Try.results73, go_sem]) rfl ⟨rfl, by unfold Sort.reverseRange; rw [← HO.out, rev_stop hlt]; exact HS.out⟩
end Go.Proofs.Ytcjmigjkjepkdaa
