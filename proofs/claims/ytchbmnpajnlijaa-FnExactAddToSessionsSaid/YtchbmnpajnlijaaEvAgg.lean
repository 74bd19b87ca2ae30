/- (from XAdd1, without shards) An event, and its agg. -/
import Derived.Test.YtchbmnpajnlijaaFrameOk
import Derived.Test.YtchbmnpajnlijaaWin4
import Derived.StillTailTactics
namespace Go.Proofs.Ytchbmnpajnlijaa
open Go.RowKit
def isEv (k y t v : Int) : Bool := decide (k = 1) && fOk k y t v
theorem isEvent_x (k y t v : Int) (w : World) : Calls Try.prog 95 #[(.agg #[.int .i64 k, .int .i64 y, .int .i64 t, .int .i64 v])] w fun e w' => e = .returned (.bool (isEv k y t v)) ∧ Below w.heap.size w w' := by
  have B0 := Lib.hid ((Below.refl w.heap.size w).alloc (Nat.le_refl _) (.cells #[.int .i64 k, .int .i64 y, .int .i64 t, .int .i64 v] 66))
  by_cases h : k = 1
  · have CF := Lib.hid (fun W => implFrameOk_any k y t v W)
    rw [show isEv k y t v = fOk k y t v by simp [isEv, h]]
    generalize fOk k y t v = F at CF ⊢
    subst h
    go_enter Try.func95, Try.ntmps95
    go_wp2_with fail
    refine (CF.out _).mono ?_
    rintro e w1 ⟨rfl, hb⟩
    have B1 := Lib.hid (B0.out.trans (hb.mono (by simp)))
    clear hb
    go_wp2
    go_ret
    exact ⟨rfl, B1.out⟩
  · rw [show isEv k y t v = false by simp [isEv, h]]
    go_enter Try.func95, Try.ntmps95
    go_wp2
    go_ret
    exact ⟨by simp [go_sem], B0.out⟩
theorem winOf_q (t s : Int) (w : World) : Calls Try.prog 105 #[.int .i64 t, .int .i64 s] w fun e w' => e = .returned (.int .i64 (windowOf t s)) ∧ w' = w := (implWinOf_any t s w).mono fun _ _ ⟨h, h2⟩ => ⟨h, h2.symm⟩
set_option maxHeartbeats 2000000 in
set_option maxRecDepth 100000 in
theorem aggOf_x (k y t v s : Int) (w : World) : Calls Try.prog 73 #[(.agg #[.int .i64 k, .int .i64 y, .int .i64 t, .int .i64 v]), .int .i64 s] w fun e w' => e = .returned (.agg #[.int .i64 (windowOf t s), .int .i64 y, .int .i64 1, .int .i64 v, .int .i64 v, .int .i64 v]) ∧ Below w.heap.size w w' := by
  obtain ⟨K0, K1, hsz, bb⟩ := boxed2 w 66 86 #[.int .i64 k, .int .i64 y, .int .i64 t, .int .i64 v] #[.int .i64 0, .int .i64 0, .int .i64 0, .int .i64 0, .int .i64 0, .int .i64 0]
  have CW := Lib.hid (fun W => winOf_q t s W)
  generalize windowOf t s = X at CW ⊢
  go_enter Try.func73, Try.ntmps73
  go_wp2_with fail
  generalize hW : World.alloc _ _ = W at K0 K1 hsz bb ⊢
  have a1 := K0.cell 1
  have a2 := K0.cell 2
  have a3 := K0.cell 3
  have c1 := K1.drew.cell
  have f1 := K1.drew.frozen
  have BB := Lib.hid bb.drew
  clear hW K0 K1 bb hsz
  go_still_tail 13, (by kernel_rfl)
  still_call (CW.out _)
  repeat still_step
  refine wpStill_nil ?_
  change wpList _ _ _ _ _ W.drew
  generalize W.drew = W2 at BB c1 f1 ⊢
  clear a1 a2 a3
  go_wp2
  exact bodyPost_ret (v := (.agg #[.int .i64 X, .int .i64 y, .int .i64 1, .int .i64 v, .int .i64 v, .int .i64 v])) (by simp [results, Try.results73, go_sem, c1]) rfl ⟨rfl, below_set6 BB.out (by omega) _ _ _ _ _ _⟩
end Go.Proofs.Ytchbmnpajnlijaa
