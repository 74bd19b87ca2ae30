/- Contracts: each agg of a list is sound: impl and spec. (made by tools/mkfold.py) -/
import Derived.Test.YtchbmnpajnlijaaWin5
import Derived.StillTailTactics
namespace Go.Proofs.Ytchbmnpajnlijaa
open Go.RowKit
set_option maxHeartbeats 2000000 in
set_option maxRecDepth 100000 in
theorem specAllOk_any (a : Option Addr) (n c : Nat) (l : List Ag) (hi : Nat) (w : World) (hr : Ags w hi a c l) (hn : n = l.length) (hB : hi ≤ w.heap.size) :
    Calls Try.prog 78 #[.slice a n c] w fun e w' => e = .returned (.bool (l.all aggOk)) ∧ Below w.heap.size w w' := by
  subst hn
  have hc1 := hr.cap
  have hc2 := hr.big
  have H1 := Lib.hid hr
  have HX : Hid (∀ j, j < l.length → aggOk (ael l j) = false → l.all aggOk = false) := Lib.hid (fun j hj h => by
    rw [List.all_eq_false]
    exact ⟨ael l j, by rw [show ael l j = l[j] from rel_lt aD hj]; exact List.getElem_mem hj, by simp [h]⟩)
  have HY : Hid ((∀ t, t < l.length → aggOk (ael l t) = true) → l.all aggOk = true) := Lib.hid (fun h => by
    rw [List.all_eq_true]
    intro x hx
    obtain ⟨t, ht, rfl⟩ := List.mem_iff_getElem.1 hx
    rw [← show ael l t = l[t] from rel_lt aD ht]
    exact h t ht)
  clear hr
  generalize l.all aggOk = R at HX HY ⊢
  go_enter Try.func78, Try.ntmps78
  go_wp2
  go_loopw [3] (fun i wr => ∃ j : Nat, j ≤ l.length ∧ i = .int .i64 (j : Int) ∧ (∀ t, t < j → aggOk (ael l t) = true) ∧ Below w.heap.size w wr) (fun i _ => l.length - (intOf i).toNat)
  case atStart => exact ⟨0, Nat.zero_le _, rfl, fun t ht => absurd ht (by omega), Below.refl _ _⟩
  case round =>
    obtain ⟨j, hj, rfl, hall, hbw⟩ := hrel
    have hsz := hbw.size
    have HB := Lib.hid hbw
    have HALL := Lib.hid hall
    clear hall
    by_cases hlt : j < l.length
    · have hlt' : (j : Int) < (l.length : Int) := by omega
      obtain ⟨b1, off1, rfl, hbl, hcell1⟩ := Ags.six (H1.out.below (hbw.mono hB)) (by omega)
      obtain ⟨p0, p1, p2, p3, p4, p5⟩ := hcell1 j hlt
      have hw1 : IntKind.i64.wrap ((j : Int) + 1) = ((j + 1 : Nat) : Int) := by rw [show (j : Int) + 1 = ((j + 1 : Nat) : Int) by omega]; exact IntWalk.i64_in _ (by omega)
      have E1 := Lib.hid (fun h => HX.out j hlt h)
      have E2 : Hid (aggOk (ael l j) = true → ∀ t, t < j + 1 → aggOk (ael l t) = true) := Lib.hid (fun h t ht => by
        by_cases h9 : t = j
        · rw [h9]; exact h
        · exact HALL.out t (by omega))
      clear hcell1 hbw
      generalize ael l j = S at p0 p1 p2 p3 p4 p5 E1 E2
      obtain ⟨win, key, cnt, sum, mn, mx⟩ := S
      simp only at p0 p1 p2 p3 p4 p5
      have OK := Lib.hid (fun W => specAggOk_x win key cnt sum mn mx W)
      cases hok : aggOk ⟨win, key, cnt, sum, mn, mx⟩ with
      | true =>
        rw [hok] at OK
        have N := Lib.hid (E2.out hok)
        clear hok E1 E2
        go_wp2_with fail
        refine (OK.out _).mono ?_
        rintro e w2 ⟨rfl, hb⟩
        have B2 := Lib.hid (HB.out.trans (hb.mono (by first | omega | (simp; omega))))
        clear hb p0 p1 p2 p3 p4 p5
        go_wp2
        go_roundw
        case rel => exact ⟨j + 1, by omega, by go_num, N.out, B2.out⟩
        case measure => simp [intOf]; omega
      | false =>
        rw [hok] at OK
        have N := Lib.hid (E1.out hok)
        clear hok E1 E2
        go_wp2_with fail
        refine (OK.out _).mono ?_
        rintro e w2 ⟨rfl, hb⟩
        have B2 := Lib.hid (HB.out.trans (hb.mono (by first | omega | (simp; omega))))
        clear hb p0 p1 p2 p3 p4 p5
        go_wp2
        go_ret
        exact ⟨by simp [go_sem, N.out], B2.out⟩
    · have N := Lib.hid (HY.out (fun t ht => HALL.out t (by omega)))
      obtain rfl : j = l.length := by omega
      clear hbw
      go_wp2
      go_ret
      exact ⟨by simp [go_sem, N.out], HB.out⟩
set_option maxHeartbeats 2000000 in
set_option maxRecDepth 100000 in
theorem implAllOk_any (a : Option Addr) (n c : Nat) (l : List Ag) (hi : Nat) (w : World) (hr : Ags w hi a c l) (hn : n = l.length) (hB : hi ≤ w.heap.size) :
    Calls Try.prog 108 #[.slice a n c] w fun e w' => e = .returned (.bool (l.all aggOk)) ∧ Below w.heap.size w w' := by
  subst hn
  have hc1 := hr.cap
  have hc2 := hr.big
  have H1 := Lib.hid hr
  have HX : Hid (∀ j, j < l.length → aggOk (ael l j) = false → l.all aggOk = false) := Lib.hid (fun j hj h => by
    rw [List.all_eq_false]
    exact ⟨ael l j, by rw [show ael l j = l[j] from rel_lt aD hj]; exact List.getElem_mem hj, by simp [h]⟩)
  have HY : Hid ((∀ t, t < l.length → aggOk (ael l t) = true) → l.all aggOk = true) := Lib.hid (fun h => by
    rw [List.all_eq_true]
    intro x hx
    obtain ⟨t, ht, rfl⟩ := List.mem_iff_getElem.1 hx
    rw [← show ael l t = l[t] from rel_lt aD ht]
    exact h t ht)
  clear hr
  generalize l.all aggOk = R at HX HY ⊢
  go_enter Try.func108, Try.ntmps108
  go_wp2
  go_loopw [7] (fun i wr => ∃ j : Nat, j ≤ l.length ∧ i = .int .i64 (j : Int) ∧ (∀ t, t < j → aggOk (ael l t) = true) ∧ Below w.heap.size w wr) (fun i _ => l.length - (intOf i).toNat)
  case atStart => exact ⟨0, Nat.zero_le _, rfl, fun t ht => absurd ht (by omega), Below.refl _ _⟩
  case round =>
    obtain ⟨j, hj, rfl, hall, hbw⟩ := hrel
    have hsz := hbw.size
    have HB := Lib.hid hbw
    have HALL := Lib.hid hall
    clear hall
    by_cases hlt : j < l.length
    · have hlt' : (j : Int) < (l.length : Int) := by omega
      obtain ⟨b1, off1, rfl, hbl, hcell1⟩ := Ags.six (H1.out.below (hbw.mono hB)) (by omega)
      obtain ⟨p0, p1, p2, p3, p4, p5⟩ := hcell1 j hlt
      have hw1 : IntKind.i64.wrap ((j : Int) + 1) = ((j + 1 : Nat) : Int) := by rw [show (j : Int) + 1 = ((j + 1 : Nat) : Int) by omega]; exact IntWalk.i64_in _ (by omega)
      have E1 := Lib.hid (fun h => HX.out j hlt h)
      have E2 : Hid (aggOk (ael l j) = true → ∀ t, t < j + 1 → aggOk (ael l t) = true) := Lib.hid (fun h t ht => by
        by_cases h9 : t = j
        · rw [h9]; exact h
        · exact HALL.out t (by omega))
      clear hcell1 hbw
      generalize ael l j = S at p0 p1 p2 p3 p4 p5 E1 E2
      obtain ⟨win, key, cnt, sum, mn, mx⟩ := S
      simp only at p0 p1 p2 p3 p4 p5
      have OK := Lib.hid (fun W => implAggOk_x win key cnt sum mn mx W)
      have B0 := Lib.hid (HB.out.alloc hsz (.cells #[.int .i64 win, .int .i64 key, .int .i64 cnt, .int .i64 sum, .int .i64 mn, .int .i64 mx] 86))
      cases hok : aggOk ⟨win, key, cnt, sum, mn, mx⟩ with
      | true =>
        rw [hok] at OK
        have N := Lib.hid (E2.out hok)
        clear hok E1 E2
        go_wp2_with fail
        refine (OK.out _).mono ?_
        rintro e w2 ⟨rfl, hb⟩
        have B2 := Lib.hid (B0.out.trans (hb.mono (by first | omega | (simp; omega))))
        clear hb p0 p1 p2 p3 p4 p5
        go_wp2
        go_roundw
        case rel => exact ⟨j + 1, by omega, by go_num, N.out, B2.out⟩
        case measure => simp [intOf]; omega
      | false =>
        rw [hok] at OK
        have N := Lib.hid (E1.out hok)
        clear hok E1 E2
        go_wp2_with fail
        refine (OK.out _).mono ?_
        rintro e w2 ⟨rfl, hb⟩
        have B2 := Lib.hid (B0.out.trans (hb.mono (by first | omega | (simp; omega))))
        clear hb p0 p1 p2 p3 p4 p5
        go_wp2
        go_ret
        exact ⟨by simp [go_sem, N.out], B2.out⟩
    · have N := Lib.hid (HY.out (fun t ht => HALL.out t (by omega)))
      obtain rfl : j = l.length := by omega
      clear hbw
      go_wp2
      go_ret
      exact ⟨by simp [go_sem, N.out], HB.out⟩
end Go.Proofs.Ytchbmnpajnlijaa
