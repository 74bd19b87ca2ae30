/- The laws' own word for two lists of frames that are the same. -/
import Derived.Test.YtpigollgjpkflaaDoorFramesS
namespace Go.Proofs.YtpigollgjpkflaaDoor
open Go.RowKit
set_option maxRecDepth 100000 in
set_option maxHeartbeats 2000000 in
theorem sameFrames_any (a1 a2 : Option Addr) (n m c1 c2 lo1 lo2 : Nat) (l : List Fr) (w : World) (h1 : w.ownsRow lo1 36 4 (.slice a1 n c1) n (flatF l)) (h2 : w.ownsRow lo2 36 4 (.slice a2 m c2) m (flatF l)) (hn : n = l.length) (hm : m = l.length) :
    Calls Tryd.prog 8 #[.slice a1 n c1, .slice a2 m c2] w fun e w' => e = .returned (.bool true) ∧ Below w.heap.size w w' := by
  subst hn
  subst hm
  have hc1 := own_capF h1
  have hc2 := own_capF h2
  have H1 := Lib.hid h1
  have H2 := Lib.hid h2
  clear h1 h2
  go_enter Tryd.func8, Tryd.ntmps8
  go_wp2
  go_loopw [5] (fun i wr => ∃ j : Nat, j ≤ l.length ∧ i = .int .i64 j ∧ Below w.heap.size w wr) (fun i _ => l.length - (intOf i).toNat)
  case atStart => exact ⟨0, Nat.zero_le _, rfl, Below.refl _ _⟩
  case round =>
    obtain ⟨j, hj, rfl, hb⟩ := hrel
    have hsz := hb.size
    by_cases hlt : j < l.length
    · obtain ⟨g1, rfl, _, _⟩ := own_blockF H1.out (by omega)
      obtain ⟨g2, rfl, _, _⟩ := own_blockF H2.out (by omega)
      obtain ⟨z0, z1, z2, z3⟩ := own_four (owns_below H1.out hb) j hlt
      obtain ⟨y0, y1, y2, y3⟩ := own_four (owns_below H2.out hb) j hlt
      generalize fel l j = f at z0 z1 z2 z3 y0 y1 y2 y3
      obtain ⟨k, y, t, v⟩ := f
      simp only at z0 z1 z2 z3 y0 y1 y2 y3
      have HB := Lib.hid hb
      clear hb
      go_wp2_with fail
      go_quiet (fail)
      go_wp2
      go_roundw
      case rel => exact ⟨j + 1, by omega, by go_num, below_drewN HB.out _⟩
      case measure => simp [intOf]; omega
    · obtain rfl : j = l.length := by omega
      have HB := Lib.hid hb
      clear hb
      go_wp2
      go_ret
      exact ⟨rfl, HB.out⟩
end Go.Proofs.YtpigollgjpkflaaDoor
