/- The order by falling counts, and impl.TopKeys's own comparing. (made by tools/mkstabc.py) -/
import Derived.Test.YtchbmnpajnlijaaWin3
import Derived.Test.YtchbmnpajnlijaaRt
namespace Go.Proofs.Ytchbmnpajnlijaa.Cnt
open Go.RowKit Stab
def aheadA (S T : Ag) : Bool := decide (T.cnt < S.cnt)
def cmpA (S T : Ag) : Int := cmpI T.cnt S.cnt
theorem cmpA_neg {S T : Ag} : cmpA S T < 0 ↔ aheadA S T = true := by
  unfold cmpA aheadA cmpI
  simp only [decide_eq_true_eq]
  split
  · omega
  · split <;> omega
theorem swoA : Swo aheadA := by
  refine ⟨fun a b h => ?_, fun a b c h k => ?_⟩
  · unfold aheadA at *
    simp only [decide_eq_true_eq, decide_eq_false_iff_not] at *
    omega
  · unfold aheadA at *
    simp only [decide_eq_false_iff_not] at *
    omega
set_option maxHeartbeats 2000000 in
set_option maxRecDepth 100000 in
theorem cmpA_x (u0 u1 u2 u3 u4 u5 v0 v1 v2 v3 v4 v5 : Int) (w : World) : Calls Try.prog 84 #[(.agg #[.int .i64 u0, .int .i64 u1, .int .i64 u2, .int .i64 u3, .int .i64 u4, .int .i64 u5]), (.agg #[.int .i64 v0, .int .i64 v1, .int .i64 v2, .int .i64 v3, .int .i64 v4, .int .i64 v5])] w fun e w' => e = .returned (.int .i64 (cmpA ⟨u0, u1, u2, u3, u4, u5⟩ ⟨v0, v1, v2, v3, v4, v5⟩)) ∧ Below w.heap.size w w' := by
  obtain ⟨K0, K1, hsz, bb⟩ := boxed2 w 86 86 #[.int .i64 u0, .int .i64 u1, .int .i64 u2, .int .i64 u3, .int .i64 u4, .int .i64 u5] #[.int .i64 v0, .int .i64 v1, .int .i64 v2, .int .i64 v3, .int .i64 v4, .int .i64 v5]
  rw [show cmpA ⟨u0, u1, u2, u3, u4, u5⟩ ⟨v0, v1, v2, v3, v4, v5⟩ = cmpI v2 u2 from rfl]
  generalize hX : cmpI v2 u2 = X
  have CX := Lib.hid (fun W => compare_q v2 u2 W)
  rw [hX] at CX
  clear hX
  go_enter Try.func84, Try.ntmps84
  go_wp2_with fail
  generalize hW : World.alloc _ _ = W at K0 K1 hsz bb ⊢
  have a0 := K0.cell 2
  have c0 := K1.cell 2
  have BB := Lib.hid bb
  clear hW K0 K1 bb hsz
  refine (CX.out _).mono ?_
  rintro e w' ⟨rfl, rfl⟩
  go_wp2
  go_ret
  exact ⟨rfl, BB.out⟩
end Go.Proofs.Ytchbmnpajnlijaa.Cnt
