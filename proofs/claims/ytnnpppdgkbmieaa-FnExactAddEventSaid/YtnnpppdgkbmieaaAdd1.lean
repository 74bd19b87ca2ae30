/- Contracts of chapter 5: what AddEvent calls beside: isEvent, aggOf, closedAt, Insert on any road. -/
import Derived.Test.YtnnpppdgkbmieaaInsert
import Derived.Test.YtnnpppdgkbmieaaFrameOk
import Derived.Test.YtnnpppdgkbmieaaWin5
import Derived.Test.YtnnpppdgkbmieaaHeld3
namespace Go.Proofs.Ytnnpppdgkbmieaa
open Go.RowKit

theorem insertA_any (lo : Nat) (a : Option Addr) (c i : Nat) (l : List Ag) (u0 u1 u2 u3 u4 u5 : Int) (vb : Nat) (w : World) (ho : w.ownsRow lo 44 6 (.slice a l.length c) l.length (flatA l)) (hv : Blk w vb 44 #[.int .i64 u0, .int .i64 u1, .int .i64 u2, .int .i64 u3, .int .i64 u4, .int .i64 u5]) (hne : some vb ≠ (Value.slice a l.length c).ownBlock) (hi : i ≤ l.length) (hlo : lo ≤ w.heap.size) (hlen : l.length ≤ 1048576) :
    Calls Try.prog 56 #[.slice a l.length c, .int .i64 i, .slice (some ⟨vb, 0, none⟩) 1 1] w (InsPost lo l i ⟨u0, u1, u2, u3, u4, u5⟩ (Value.slice a l.length c).ownBlock w) := by
  by_cases he : i = l.length
  · subst he
    exact insert_end lo a c l u0 u1 u2 u3 u4 u5 vb w ho hv hlo hlen
  · obtain ⟨g, rfl, _, _⟩ := ownR_block ho (by omega)
    by_cases hroom : l.length + 1 ≤ c
    · exact insert_shift lo g c i l u0 u1 u2 u3 u4 u5 vb w ho hv (fun h => hne (by rw [h]; rfl)) (by omega) hroom hlo hlen
    · exact insert_grow lo g c i l u0 u1 u2 u3 u4 u5 vb w ho hv (by omega) hroom hlo hlen
def isEv (k y t v : Int) : Bool := decide (k = 1) && fOk k y t v
theorem isEvent_x (k y t v : Int) (w : World) : Calls Try.prog 50 #[(.agg #[.int .i64 k, .int .i64 y, .int .i64 t, .int .i64 v])] w fun e w' => e = .returned (.bool (isEv k y t v)) ∧ Below w.heap.size w w' := by
  have B0 := Lib.hid ((Below.refl w.heap.size w).alloc (Nat.le_refl _) (.cells #[.int .i64 k, .int .i64 y, .int .i64 t, .int .i64 v] 34))
  by_cases h : k = 1
  · have CF := Lib.hid (fun W => implFrameOk_any k y t v W)
    rw [show isEv k y t v = fOk k y t v by simp [isEv, h]]
    generalize fOk k y t v = F at CF ⊢
    subst h
    go_enter Try.func50, Try.ntmps50
    go_wp2_with fail
    refine (CF.out _).mono ?_
    rintro e w1 ⟨rfl, hb⟩
    have B1 := Lib.hid (B0.out.trans (hb.mono (by simp)))
    clear hb
    go_wp2
    go_ret
    exact ⟨rfl, B1.out⟩
  · rw [show isEv k y t v = false by simp [isEv, h]]
    go_enter Try.func50, Try.ntmps50
    go_wp2
    go_ret
    exact ⟨by simp [go_sem], B0.out⟩
theorem winOf_q (t s : Int) (w : World) : Calls Try.prog 69 #[.int .i64 t, .int .i64 s] w fun e w' => e = .returned (.int .i64 (windowOf t s)) ∧ w' = w := (implWinOf_any t s w).mono fun _ _ ⟨h, h2⟩ => ⟨h, h2.symm⟩
set_option maxHeartbeats 2000000 in
set_option maxRecDepth 100000 in
theorem aggOf_x (k y t v s : Int) (w : World) : Calls Try.prog 51 #[(.agg #[.int .i64 k, .int .i64 y, .int .i64 t, .int .i64 v]), .int .i64 s] w fun e w' => e = .returned (.agg #[.int .i64 (windowOf t s), .int .i64 y, .int .i64 1, .int .i64 v, .int .i64 v, .int .i64 v]) ∧ Below w.heap.size w w' := by
  obtain ⟨K0, K1, hsz, bb⟩ := boxed2 w 34 44 #[.int .i64 k, .int .i64 y, .int .i64 t, .int .i64 v] #[.int .i64 0, .int .i64 0, .int .i64 0, .int .i64 0, .int .i64 0, .int .i64 0]
  have CW := Lib.hid (fun W => winOf_q t s W)
  generalize windowOf t s = X at CW ⊢
  go_enter Try.func51, Try.ntmps51
  go_wp2_with fail
  generalize hW : World.alloc _ _ = W at K0 K1 hsz bb ⊢
  have a1 := K0.cell 1
  have a2 := K0.cell 2
  have a3 := K0.cell 3
  have c1 := K1.drew.cell
  have f1 := K1.drew.frozen
  have BB := Lib.hid bb.drew
  clear hW K0 K1 bb hsz
  go_still_tail 13, (by kernel_rfl)
  still_call (CW.out _)
  repeat still_step
  refine wpStill_nil ?_
  change wpList _ _ _ _ _ W.drew
  generalize W.drew = W2 at BB c1 f1 ⊢
  clear a1 a2 a3
  go_wp2
  exact bodyPost_ret (v := (.agg #[.int .i64 X, .int .i64 y, .int .i64 1, .int .i64 v, .int .i64 v, .int .i64 v])) (by simp [results, Try.results51, go_sem, c1]) rfl ⟨rfl, below_set6 BB.out (by omega) _ _ _ _ _ _⟩
theorem closedAt_x (u0 u1 u2 u3 u4 u5 m s : Int) (w : World) : Calls Try.prog 52 #[(.agg #[.int .i64 u0, .int .i64 u1, .int .i64 u2, .int .i64 u3, .int .i64 u4, .int .i64 u5]), .int .i64 m, .int .i64 s] w fun e w' => e = .returned (.bool (decide (windowEnd u0 s ≤ m))) ∧ Below w.heap.size w w' := by
  have B0 := Lib.hid ((Below.refl w.heap.size w).alloc (Nat.le_refl _) (.cells #[.int .i64 u0, .int .i64 u1, .int .i64 u2, .int .i64 u3, .int .i64 u4, .int .i64 u5] 44))
  have CE := Lib.hid (fun W => implWinEnd_any u0 s W)
  generalize windowEnd u0 s = X at CE ⊢
  have CL := Lib.hid (fun W => implLate_any m X W)
  generalize decide (X ≤ m) = R at CL ⊢
  go_enter Try.func52, Try.ntmps52
  go_wp2_with fail
  refine (CE.out _).mono ?_
  rintro e w' ⟨rfl, rfl⟩
  go_wp2_with fail
  refine (CL.out _).mono ?_
  rintro e w' ⟨rfl, rfl⟩
  go_wp2
  go_ret
  exact ⟨rfl, B0.out⟩
end Go.Proofs.Ytnnpppdgkbmieaa
