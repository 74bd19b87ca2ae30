/- The library's sort over lags: how its row stands between the steps; insertionSortOrdered. -/
import Derived.Test.YtcjmigjkjepkdaaLagS
import Derived.Sort.AssemblyPlain
import Derived.Sort.Row
import Derived.WalkKit
import Derived.BigGuard
import Derived.BigCall
import Derived.CellFam
import Derived.Deep.Draws
import Derived.Deep.QuietTactic
import Derived.BigQuiet
namespace Go.Proofs.Ytcjmigjkjepkdaa
open Go.RowKit

@[go_sem] theorem run_store_float_ (P : Program) (w : World) (a : Addr) (m : Mode) (k : FloatKind) (b : Nat) : (store a (.float k b) m).run P w = stored P w a (.float k b) m := run_store P w a _ m rfl
theorem ltR_swo : Sort.SWO ltR where
  irrefl := fun x => by simp [ltR]
  trans := fun x y z h1 h2 => by simp only [ltR, decide_eq_true_eq] at *; omega
  ntrans := fun x y z h1 h2 => by simp only [ltR, decide_eq_false_iff_not] at *; omega
/-- cmp.Less on the floats that L gives answers by lt. (The walks take both as letters: the kernel would lay lagBits open else.) -/
def LessOk (L : Nat → Nat) (lt : Nat → Nat → Bool) : Prop :=
  ∀ (a b : Nat) (w : World), Calls Try.prog 75 #[.float .f64 (L a), .float .f64 (L b)] w fun e w' => e = .returned (.bool (lt a b)) ∧ w' = w
theorem less_ok : LessOk lagBits ltR := fun a b w => (less_any a b w).mono fun _ _ ⟨h1, h2⟩ => ⟨h1, h2.symm⟩
/-- The value of a rank. -/
def fV (L : Nat → Nat) (r : Nat) : Value := .float .f64 (L r)

/-- The row behind some steps: it holds d; but for the count of draws nothing else has turned. -/
def SA (L : Nat → Nat) (w : World) (g off : Nat) (d0 d : Array Nat) (wr : World) : Prop := Sort.Holds (fV L) w g off d0 ∧ d.size = d0.size ∧ ∃ n, wr = Sort.putRow (fV L) (Sort.ahead w n) g off d
section
variable {L : Nat → Nat} {w wr : World} {g off : Nat} {d0 d : Array Nat}
theorem SA.start (h : Sort.Holds (fV L) w g off d0) : SA L w g off d0 d0 w := ⟨h, rfl, 0, by rw [Sort.ahead_zero, Sort.putRow_self (fV L) w g off d0 h]⟩
theorem SA.cell (h : SA L w g off d0 d wr) (j : Nat) (hj : j < d0.size) : wr.cell? ⟨g, off + j, none⟩ = some (.float .f64 (L d[j]!)) := by
  obtain ⟨hH, hs, n, rfl⟩ := h
  exact Sort.cell?_putRow (fV L) (Sort.ahead w n) g off d0 d (Sort.holds_ahead _ _ _ _ _ _ hH) hs j (by omega)
theorem SA.frozen (h : SA L w g off d0 d wr) (j : Nat) (hj : j < d0.size) : wr.frozen? ⟨g, off + j, none⟩ = false := by
  obtain ⟨hH, hs, n, rfl⟩ := h
  exact (Sort.holds_putRow (fV L) (Sort.ahead w n) g off d0 d (Sort.holds_ahead _ _ _ _ _ _ hH) hs j (by omega)).2
theorem SA.drewN (h : SA L w g off d0 d wr) (q : Nat) : SA L w g off d0 d (wr.drewN q) := by
  obtain ⟨hH, hs, n, rfl⟩ := h
  refine ⟨hH, hs, n + q, ?_⟩
  rw [Sort.putRow_ahead (fV L) w n, Sort.putRow_ahead (fV L) w (n + q), ← Sort.ahead_ahead]
  rfl
theorem SA.swap (h : SA L w g off d0 d wr) (j k : Nat) (hj : j < d0.size) (hk : k < d0.size) :
    SA L w g off d0 (Sort.swp d j k) ((wr.setCell ⟨g, off + j, none⟩ (.float .f64 (L d[k]!))).setCell ⟨g, off + k, none⟩ (.float .f64 (L d[j]!))) := by
  obtain ⟨hH, hs, n, rfl⟩ := h
  exact ⟨hH, by simpa [Sort.swp] using hs, n, Sort.putRow_swp (fV L) (Sort.ahead w n) g off d j k (by omega) (by omega)⟩
end

/-! What each way of a round does to the plain functions. -/
theorem ins_go {lt : Nat → Nat → Bool} {a j : Nat} {d : Array Nat} (hj : a < j) (hl : lt d[j]! d[j - 1]! = true) : Sort.insInner lt a j d = Sort.insInner lt a (j - 1) (Sort.swp d j (j - 1)) := by
  obtain ⟨k, rfl⟩ : ∃ k, j = k + 1 := ⟨j - 1, by omega⟩
  simp only [Nat.add_sub_cancel] at hl ⊢
  conv => lhs; rw [Sort.insInner]
  rw [if_pos (by simp [hj, hl])]
theorem ins_stop {lt : Nat → Nat → Bool} {a j : Nat} {d : Array Nat} (h : j ≤ a ∨ lt d[j]! d[j - 1]! = false) : Sort.insInner lt a j d = d := by
  cases j with
  | zero => rfl
  | succ k =>
    rw [Sort.insInner]
    simp only [Nat.add_sub_cancel] at h
    rw [if_neg]
    rcases h with h | h
    · simp; intro h2; omega
    · simp [h]
theorem insO_go {lt : Nat → Nat → Bool} {a b i : Nat} {d : Array Nat} (h : i < b) : Sort.insOuter lt a b i d = Sort.insOuter lt a b (i + 1) (Sort.insInner lt a i d) := by conv => lhs; rw [Sort.insOuter, if_pos h]
theorem insO_stop {lt : Nat → Nat → Bool} {a b i : Nat} {d : Array Nat} (h : ¬ i < b) : Sort.insOuter lt a b i d = d := by rw [Sort.insOuter, if_neg h]

set_option maxHeartbeats 2000000 in
set_option maxRecDepth 100000 in
theorem insSort_any {L : Nat → Nat} {lt : Nat → Nat → Bool} (hL : LessOk L lt) (g off cap a b : Nat) (d : Array Nat) (w : World) (hH : Sort.Holds (fV L) w g off d) (hab : a ≤ b) (hb : b ≤ d.size) (hsz : d.size ≤ 1048576) :
    Calls Try.prog 69 #[.slice (some ⟨g, off, none⟩) d.size cap, .int .i64 a, .int .i64 b] w fun e w' => e = .returned (.tuple #[]) ∧ SA L w g off d (Sort.insertionSort lt d a b) w' := by
  have HLS : Hid (∀ (a b : Nat) (w : World), Calls Try.prog 75 #[.float .f64 (L a), .float .f64 (L b)] w fun e w' => e = .returned (.bool (lt a b)) ∧ w' = w) := hL
  have S0 := Lib.hid (SA.start hH)
  clear hH hL
  go_enter Try.func69, Try.ntmps69
  go_wp2
  go_loopw [6, 7] (fun vi _ wr => ∃ (i : Nat) (dk : Array Nat), vi = .int .i64 i ∧ a < i ∧ i ≤ b + 1 ∧ SA L w g off d dk wr ∧ Sort.insOuter lt a b i dk = Sort.insOuter lt a b (a + 1) d) (fun vi _ _ => b + 1 - (intOf vi).toNat)
  case atStart => exact ⟨a + 1, d, by go_num, by omega, by omega, S0.out, rfl⟩
  case round =>
    obtain ⟨i, dk, rfl, hai, hib, hsa, hO⟩ := hrel
    have HO := Lib.hid hO
    have HS := Lib.hid hsa
    clear hO
    by_cases hlt : i < b
    · have hlt' : (i : Int) < (b : Int) := by omega
      clear hsa
      go_wp2
      go_loopw [7] (fun vj wr2 => ∃ (j : Nat) (dj : Array Nat), vj = .int .i64 j ∧ a ≤ j ∧ j ≤ i ∧ SA L w g off d dj wr2 ∧ Sort.insInner lt a j dj = Sort.insInner lt a i dk) (fun vj _ => (intOf vj).toNat)
      case atStart => exact ⟨i, dk, rfl, by omega, Nat.le_refl _, HS.out, rfl⟩
      case round =>
        obtain ⟨j, dj, rfl, haj, hji, hsj, hI⟩ := hrel
        have HI := Lib.hid hI
        have HJ := Lib.hid hsj
        obtain ⟨G, hG⟩ : ∃ G : Nat → Nat, ∀ t, G t = dj[t]! := ⟨fun t => dj[t]!, fun _ => rfl⟩
        have hcw : ∀ t, t < d.size → wr.cell? ⟨g, off + t, none⟩ = some (.float .f64 (L (G t))) := fun t ht => by rw [hG]; exact hsj.cell t ht
        have hfw : ∀ t, t < d.size → wr.frozen? ⟨g, off + t, none⟩ = false := fun t ht => hsj.frozen t ht
        have HG := Lib.hid hG
        have OUT := Lib.hid (fun (hs : j ≤ a ∨ lt dj[j]! dj[j - 1]! = false) => (show Sort.insOuter lt a b (i + 1) dj = Sort.insOuter lt a b (a + 1) d by rw [← HO.out, insO_go hlt, ← HI.out, ins_stop hs]))
        clear hI hsj hG
        by_cases hja : a < j
        · go_wp2
          go_quiet (first | (go_at_call 75; refine Calls.quiet_of_same (HLS.out _ _ _)))
          go_wp2
          · have hl : lt (G j) (G (j - 1)) = true := by assumption
            have HL := Lib.hid (show Sort.insInner lt a (j - 1) (Sort.swp dj j (j - 1)) = Sort.insInner lt a i dk by rw [← HI.out, ins_go hja (by rw [← HG.out, ← HG.out]; exact hl)])
            have f1 := hfw j (by omega)
            have f2 := hfw (j - 1) (by omega)
            have c1 := hcw j (by omega)
            have c2 := hcw (j - 1) (by omega)
            go_region
            all_goals go_wp2
            go_roundw
            case rel => exact ⟨j - 1, Sort.swp dj j (j - 1), by congr 1; omega, by omega, by omega, by rw [HG.out, HG.out]; exact (HJ.out.drewN _).swap j (j - 1) (by omega) (by omega), HL.out⟩
            case measure => simp [intOf]; omega
          · have hl : lt (G j) (G (j - 1)) = false := by assumption
            go_roundw
            case rel => exact ⟨i + 1, dj, by go_num, by omega, by omega, HJ.out.drewN _, OUT.out (Or.inr (by rw [← HG.out, ← HG.out]; exact hl))⟩
            case measure => simp [intOf]; omega
        · go_wp2
          go_quiet (first | (go_at_call 75; refine Calls.quiet_of_same (HLS.out _ _ _)))
          go_wp2
          go_roundw
          case rel => exact ⟨i + 1, dj, by go_num, by omega, by omega, HJ.out.drewN _, OUT.out (Or.inl (by omega))⟩
          case measure => simp [intOf]; omega
    · clear hsa
      go_wp2
      exact bodyPost_end (v := .tuple #[]) (by simp [results, Try.results69, go_sem]) rfl ⟨rfl, by unfold Sort.insertionSort; rw [← HO.out, insO_stop hlt]; exact HS.out⟩
end Go.Proofs.Ytcjmigjkjepkdaa
