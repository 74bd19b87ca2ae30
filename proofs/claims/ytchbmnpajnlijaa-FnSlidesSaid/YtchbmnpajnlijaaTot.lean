/- Contracts of TotalCount: impl and spec. -/
import Derived.Test.YtchbmnpajnlijaaWin5
import Derived.Test.YtchbmnpajnlijaaWin4
import Derived.Deep.RegionHeld3
import Derived.StillTailTactics
namespace Go.Proofs.Ytchbmnpajnlijaa
open Go.RowKit

/-- The count of those that are sound, kept at its bound. -/
def totA (l : List Ag) : Int := l.foldl (fun n S => if aggOk S = true then capS (n + S.cnt) else n) 0
theorem totA_snoc (l : List Ag) (S : Ag) : totA (l ++ [S]) = if aggOk S = true then capS (totA l + S.cnt) else totA l := by simp [totA, List.foldl_append]
theorem capS_bd (x : Int) : -1000000000 ≤ capS x ∧ capS x ≤ 1000000000 := by
  unfold capS
  repeat' split
  all_goals omega
theorem foldT_bd (l : List Ag) : ∀ n : Int, -1000000000 ≤ n ∧ n ≤ 1000000000 → -1000000000 ≤ l.foldl (fun n S => if aggOk S = true then capS (n + S.cnt) else n) n ∧ l.foldl (fun n S => if aggOk S = true then capS (n + S.cnt) else n) n ≤ 1000000000 := by
  induction l with
  | nil => intro n h; exact h
  | cons S l ih => intro n h; refine ih _ ?_; simp only; split; · exact capS_bd _
                   exact h
theorem totA_bd (l : List Ag) : -1000000000 ≤ totA l ∧ totA l ≤ 1000000000 := foldT_bd l 0 (by omega)
set_option maxHeartbeats 2000000 in
set_option maxRecDepth 100000 in
theorem implTot_any (a : Option Addr) (n c : Nat) (l : List Ag) (hi : Nat) (w : World) (hr : Ags w hi a c l) (hn : n = l.length) (hB : hi ≤ w.heap.size) :
    Calls Try.prog 58 #[.slice a n c] w fun e w' => e = .returned (.int .i64 (totA l)) ∧ Below w.heap.size w w' := by
  subst hn
  have hc1 := hr.cap
  have hc2 := hr.big
  have H1 := Lib.hid hr
  clear hr
  go_enter Try.func58, Try.ntmps58
  go_wp2
  go_loopw [3, 8] (fun x i wr => ∃ j : Nat, j ≤ l.length ∧ x = .int .i64 (totA (l.take j)) ∧ i = .int .i64 (j : Int) ∧ Below w.heap.size w wr) (fun _ i _ => l.length - (intOf i).toNat)
  case atStart => exact ⟨0, Nat.zero_le _, rfl, rfl, Below.refl _ _⟩
  case round =>
    obtain ⟨j, hj, rfl, rfl, hbw⟩ := hrel
    have hsz := hbw.size
    have HB := Lib.hid hbw
    by_cases hlt : j < l.length
    · have hlt' : (j : Int) < (l.length : Int) := by omega
      obtain ⟨b1, off1, rfl, hbl, hcell1⟩ := Ags.six (H1.out.below (hbw.mono hB)) (by omega)
      obtain ⟨p0, p1, p2, p3, p4, p5⟩ := hcell1 j hlt
      have ht := totA_bd (l.take j)
      have hsn := totA_snoc (l.take j) (ael l j)
      rw [← ael_take hlt] at hsn
      have HSN := Lib.hid hsn
      have hw1 : IntKind.i64.wrap ((j : Int) + 1) = ((j + 1 : Nat) : Int) := by rw [show (j : Int) + 1 = ((j + 1 : Nat) : Int) by omega]; exact IntWalk.i64_in _ (by omega)
      clear hcell1 hbw hsn
      generalize totA (l.take j) = t at ht HSN
      generalize ael l j = S at p0 p1 p2 p3 p4 p5 HSN
      obtain ⟨win, key, cnt, sum, mn, mx⟩ := S
      simp only at p0 p1 p2 p3 p4 p5 HSN
      have OK := Lib.hid (fun W => implAggOk_x win key cnt sum mn mx W)
      have K0 := Lib.hid (Blk.new wr 86 #[.int .i64 win, .int .i64 key, .int .i64 cnt, .int .i64 sum, .int .i64 mn, .int .i64 mx])
      have B0 := Lib.hid (HB.out.alloc hsz (.cells #[.int .i64 win, .int .i64 key, .int .i64 cnt, .int .i64 sum, .int .i64 mn, .int .i64 mx] 86))
      cases hok : aggOk ⟨win, key, cnt, sum, mn, mx⟩ with
      | true =>
        have hcb := (aggOk_bd hok).2.2.1
        simp only at hcb
        rw [hok] at OK
        have HT : Hid (totA (l.take (j + 1)) = capS (t + cnt)) := Lib.hid (by rw [HSN.out, if_pos hok])
        have hwt : IntKind.i64.wrap (t + cnt) = t + cnt := IntWalk.i64_in _ (by omega)
        clear hok
        go_wp2_with fail
        refine (OK.out _).mono ?_
        rintro e w2 ⟨rfl, hb⟩
        have B2 := Lib.hid (B0.out.trans (hb.mono (by simp; omega)))
        have q := (K0.out.below hb).cell
        clear hb p0 p1 p2 p3 p4 p5
        go_wp2_with fail
        refine (implHeld_any _ _).mono ?_
        rintro e w3 ⟨rfl, rfl⟩
        rw [← HT.out]
        go_wp2
        go_roundw
        case rel => exact ⟨j + 1, by omega, rfl, by go_num, B2.out⟩
        case measure => simp [intOf]; omega
      | false =>
        rw [hok] at OK
        have HT : Hid (totA (l.take (j + 1)) = t) := Lib.hid (by rw [HSN.out, if_neg (by simp [hok])])
        clear hok
        go_wp2_with fail
        refine (OK.out _).mono ?_
        rintro e w2 ⟨rfl, hb⟩
        have B2 := Lib.hid (B0.out.trans (hb.mono (by simp; omega)))
        clear hb p0 p1 p2 p3 p4 p5
        rw [← HT.out]
        go_wp2
        go_roundw
        case rel => exact ⟨j + 1, by omega, rfl, by go_num, B2.out⟩
        case measure => simp [intOf]; omega
    · obtain rfl : j = l.length := by omega
      clear hbw
      have ht : l.take l.length = l := List.take_length
      rw [ht]
      go_wp2
      go_ret
      exact ⟨rfl, HB.out⟩
end Go.Proofs.Ytchbmnpajnlijaa
