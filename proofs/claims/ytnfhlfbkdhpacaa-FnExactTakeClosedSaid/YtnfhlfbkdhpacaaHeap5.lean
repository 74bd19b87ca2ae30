/- container/heap.down at a pile: the way down of the first one. (made by tools/mkheap5.py) -/
import Derived.Test.YtnfhlfbkdhpacaaHeap4
namespace Go.Proofs.Ytnfhlfbkdhpacaa
open Go.RowKit

theorem grown_of_below {w w' : World} (h : Below w.heap.size w w') (r : Option Nat) : w.grownBy w' r := ⟨h.os, h.tape, h.output, h.size, fun k hk _ => h.block k hk⟩
set_option maxHeartbeats 4000000 in
set_option maxRecDepth 100000 in
theorem down_x (pb g c n lo : Nat) (q0 : List Ag) (w : World) (hp : Blk w pb 69 #[.slice (some ⟨g, 0, none⟩) q0.length c]) (ho : w.ownsRow lo 37 6 (.slice (some ⟨g, 0, none⟩) q0.length c) q0.length (flatA q0)) (hd : HeapD q0 q0 n 0) (hn : n < q0.length) (hle : q0.length ≤ 1048576) (hne : pb ≠ g) :
    Calls Try.prog 53 #[.iface 60 (.pointer (some ⟨pb, 0, none⟩)), .int .i64 0, .int .i64 (n : Int)] w fun e w' => (∃ v, e = .returned (.bool v)) ∧ ∃ q : List Ag, HeapN q n ∧ q.Perm q0 ∧ (∀ k, n ≤ k → ael q k = ael q0 k) ∧ w'.ownsRow lo 37 6 (.slice (some ⟨g, 0, none⟩) q0.length c) q0.length (flatA q) ∧ w.grownBy w' (some g) := by
  have HP := Lib.hid hp
  have H0 := Lib.hid (⟨hd, ho, World.grownBy.refl _ _⟩ : HeapD q0 q0 n 0 ∧ w.ownsRow lo 37 6 (.slice (some ⟨g, 0, none⟩) q0.length c) q0.length (flatA q0) ∧ w.grownBy w (some g))
  clear hp ho hd
  go_enter Try.func53, Try.ntmps53
  go_wp2
  go_loopw [7] (fun v wr => ∃ (k : Nat) (q : List Ag), v = .int .i64 (k : Int) ∧ k ≤ n ∧ HeapD q0 q n k ∧ wr.ownsRow lo 37 6 (.slice (some ⟨g, 0, none⟩) q0.length c) q0.length (flatA q) ∧ w.grownBy wr (some g)) (fun v _ => n - (intOf v).toNat)
  case atStart => exact ⟨0, q0, rfl, Nat.zero_le _, H0.out.1, H0.out.2.1, H0.out.2.2⟩
  case round =>
    obtain ⟨k, q, rfl, hk, hD, ho1, hg1⟩ := hrel
    have hl := hD.len
    have HD := Lib.hid hD
    have O1 := Lib.hid ho1
    have G1 := Lib.hid hg1
    have p1 : Blk wr pb 69 #[.slice (some ⟨g, 0, none⟩) q0.length c] := HP.out.grown hg1 (fun e => by injection e with e; exact hne e)
    have P1 := Lib.hid p1
    have hkb : k ≤ 1048576 := by omega
    obtain ⟨j1, hj1⟩ : ∃ j1, j1 = 2 * k + 1 := ⟨_, rfl⟩
    have e1 : 2 * (k : Int) + 1 = (j1 : Int) := by omega
    have hj1b : j1 ≤ 2097153 := by omega
    have HJ1 := Lib.hid hj1
    by_cases c1 : n ≤ j1
    · have c1' : (n : Int) ≤ (j1 : Int) := by omega
      have HZ := Lib.hid (hD.leaf (by omega))
      clear hD ho1 hg1 p1 hj1
      go_wp2
      go_ret
      exact ⟨⟨_, rfl⟩, q, HZ.out, HD.out.perm, HD.out.last, O1.out, G1.out⟩
    · have c1' : ¬ (n : Int) ≤ (j1 : Int) := by omega
      obtain ⟨j2, hj2⟩ : ∃ j2, j2 = j1 + 1 := ⟨_, rfl⟩
      have e2 : (j1 : Int) + 1 = (j2 : Int) := by omega
      have HJ2 := Lib.hid hj2
      have HA1 := Lib.hid (Ags.of_own ho1)
      clear hj1 hj2
      by_cases c2 : j2 < n
      · have c2' : (j2 : Int) < (n : Int) := by omega
        have hm := meth_less pb q0.length c (some ⟨g, 0, none⟩) wr (p1.cell 0)
        have HL0 := Lib.hid (less_x (some ⟨g, 0, none⟩) q0.length c j2 j1 q wr.heap.size wr HA1.out hl.symm (Nat.le_refl _) (by omega) (by omega))
        cases hs0 : aheadA (ael q j2) (ael q j1) with
        | true =>
          rw [hs0] at HL0
          have HS0 := Lib.hid hs0
          clear hD ho1 hg1 p1 hs0
          go_wp2_with fail
          clear hm
          refine HL0.out.mono ?_
          rintro e wA ⟨rfl, hb⟩
          have OA := Lib.hid (owns_below O1.out hb)
          have GA := Lib.hid (grown_trans G1.out (grown_of_below hb (some g)))
          have PA := Lib.hid (P1.out.below hb)
          clear hb
          have hm := meth_less pb q0.length c (some ⟨g, 0, none⟩) wA (PA.out.cell 0)
          have HL := Lib.hid (less_x (some ⟨g, 0, none⟩) q0.length c j2 k q wA.heap.size wA (Ags.of_own OA.out) hl.symm (Nat.le_refl _) (by have := HJ1.out; have := HJ2.out; omega) (by omega))
          have HALL : Hid (∀ i, 0 < i → i < n → (i - 1) / 2 = k → aheadA (ael q i) (ael q j2) = false) := Lib.hid (fun i h0 h1 h2 => by
            have a1 := HJ1.out
            have a2 := HJ2.out
            have h3 : i = j1 ∨ i = j2 := by omega
            rcases h3 with rfl | rfl
            · exact ahead_asymm HS0.out
            · exact ahead_irrefl _)
          cases hs : aheadA (ael q j2) (ael q k) with
          | false =>
            rw [hs] at HL
            have HZ := Lib.hid (HD.out.rest HALL.out hs)
            clear hs
            go_wp2_with fail
            clear hm
            refine HL.out.mono ?_
            rintro e wB ⟨rfl, hb⟩
            have OB := Lib.hid (owns_below (OA.out) hb)
            have GB := Lib.hid (grown_trans GA.out (grown_of_below hb (some g)))
            clear hb
            go_wp2
            go_ret
            exact ⟨⟨_, rfl⟩, q, HZ.out, HD.out.perm, HD.out.last, OB.out, GB.out⟩
          | true =>
            rw [hs] at HL
            have HST := Lib.hid (HD.out.step (j := j2) (by omega) (by have := HJ1.out; have := HJ2.out; omega) (by have := HJ1.out; have := HJ2.out; omega) (by have := HJ1.out; have := HJ2.out; omega) HALL.out hs)
            clear hs
            go_wp2_with fail
            clear hm
            refine HL.out.mono ?_
            rintro e wB ⟨rfl, hb⟩
            have OB := Lib.hid (owns_below (OA.out) hb)
            have GB := Lib.hid (grown_trans GA.out (grown_of_below hb (some g)))
            have PB := Lib.hid (PA.out.below hb)
            have hm := meth_swap pb q0.length c (some ⟨g, 0, none⟩) wB (PB.out.cell 0)
            clear hb
            go_wp2_with fail
            clear hm
            refine (swap_x g q0.length c k j2 lo q wB OB.out hl.symm (by omega) (by have := HJ1.out; have := HJ2.out; omega)).mono ?_
            rintro e wC ⟨rfl, hsw⟩
            have HSW := Lib.hid (hsw.own OB.out (by omega) (by have := HJ1.out; have := HJ2.out; omega))
            clear hsw
            go_wp2
            go_roundw
            case rel => exact ⟨j2, swapN q k j2, rfl, by have := HJ1.out; have := HJ2.out; omega, HST.out, HSW.out.1, grown_trans GB.out HSW.out.2⟩
            case measure => have := HJ1.out; have := HJ2.out; simp [intOf]; omega
        | false =>
          rw [hs0] at HL0
          have HS0 := Lib.hid hs0
          clear hD ho1 hg1 p1 hs0
          go_wp2_with fail
          clear hm
          refine HL0.out.mono ?_
          rintro e wA ⟨rfl, hb⟩
          have OA := Lib.hid (owns_below O1.out hb)
          have GA := Lib.hid (grown_trans G1.out (grown_of_below hb (some g)))
          have PA := Lib.hid (P1.out.below hb)
          clear hb
          have hm := meth_less pb q0.length c (some ⟨g, 0, none⟩) wA (PA.out.cell 0)
          have HL := Lib.hid (less_x (some ⟨g, 0, none⟩) q0.length c j1 k q wA.heap.size wA (Ags.of_own OA.out) hl.symm (Nat.le_refl _) (by have := HJ1.out; have := HJ2.out; omega) (by omega))
          have HALL : Hid (∀ i, 0 < i → i < n → (i - 1) / 2 = k → aheadA (ael q i) (ael q j1) = false) := Lib.hid (fun i h0 h1 h2 => by
            have a1 := HJ1.out
            have a2 := HJ2.out
            have h3 : i = j1 ∨ i = j2 := by omega
            rcases h3 with rfl | rfl
            · exact ahead_irrefl _
            · exact HS0.out)
          cases hs : aheadA (ael q j1) (ael q k) with
          | false =>
            rw [hs] at HL
            have HZ := Lib.hid (HD.out.rest HALL.out hs)
            clear hs
            go_wp2_with fail
            clear hm
            refine HL.out.mono ?_
            rintro e wB ⟨rfl, hb⟩
            have OB := Lib.hid (owns_below (OA.out) hb)
            have GB := Lib.hid (grown_trans GA.out (grown_of_below hb (some g)))
            clear hb
            go_wp2
            go_ret
            exact ⟨⟨_, rfl⟩, q, HZ.out, HD.out.perm, HD.out.last, OB.out, GB.out⟩
          | true =>
            rw [hs] at HL
            have HST := Lib.hid (HD.out.step (j := j1) (by omega) (by have := HJ1.out; have := HJ2.out; omega) (by have := HJ1.out; have := HJ2.out; omega) (by have := HJ1.out; have := HJ2.out; omega) HALL.out hs)
            clear hs
            go_wp2_with fail
            clear hm
            refine HL.out.mono ?_
            rintro e wB ⟨rfl, hb⟩
            have OB := Lib.hid (owns_below (OA.out) hb)
            have GB := Lib.hid (grown_trans GA.out (grown_of_below hb (some g)))
            have PB := Lib.hid (PA.out.below hb)
            have hm := meth_swap pb q0.length c (some ⟨g, 0, none⟩) wB (PB.out.cell 0)
            clear hb
            go_wp2_with fail
            clear hm
            refine (swap_x g q0.length c k j1 lo q wB OB.out hl.symm (by omega) (by have := HJ1.out; have := HJ2.out; omega)).mono ?_
            rintro e wC ⟨rfl, hsw⟩
            have HSW := Lib.hid (hsw.own OB.out (by omega) (by have := HJ1.out; have := HJ2.out; omega))
            clear hsw
            go_wp2
            go_roundw
            case rel => exact ⟨j1, swapN q k j1, rfl, by have := HJ1.out; have := HJ2.out; omega, HST.out, HSW.out.1, grown_trans GB.out HSW.out.2⟩
            case measure => have := HJ1.out; have := HJ2.out; simp [intOf]; omega
      · have c2' : ¬ (j2 : Int) < (n : Int) := by omega
        clear hD ho1 hg1 p1
        have hm := meth_less pb q0.length c (some ⟨g, 0, none⟩) wr (P1.out.cell 0)
        have HL := Lib.hid (less_x (some ⟨g, 0, none⟩) q0.length c j1 k q wr.heap.size wr (Ags.of_own O1.out) hl.symm (Nat.le_refl _) (by have := HJ1.out; have := HJ2.out; omega) (by omega))
        have HALL : Hid (∀ i, 0 < i → i < n → (i - 1) / 2 = k → aheadA (ael q i) (ael q j1) = false) := Lib.hid (fun i h0 h1 h2 => by
          have a1 := HJ1.out
          have a2 := HJ2.out
          have h3 : i = j1 := by omega
          rw [h3]
          exact ahead_irrefl _)
        cases hs : aheadA (ael q j1) (ael q k) with
        | false =>
          rw [hs] at HL
          have HZ := Lib.hid (HD.out.rest HALL.out hs)
          clear hs
          go_wp2_with fail
          clear hm
          refine HL.out.mono ?_
          rintro e wB ⟨rfl, hb⟩
          have OB := Lib.hid (owns_below (O1.out) hb)
          have GB := Lib.hid (grown_trans G1.out (grown_of_below hb (some g)))
          clear hb
          go_wp2
          go_ret
          exact ⟨⟨_, rfl⟩, q, HZ.out, HD.out.perm, HD.out.last, OB.out, GB.out⟩
        | true =>
          rw [hs] at HL
          have HST := Lib.hid (HD.out.step (j := j1) (by omega) (by have := HJ1.out; have := HJ2.out; omega) (by have := HJ1.out; have := HJ2.out; omega) (by have := HJ1.out; have := HJ2.out; omega) HALL.out hs)
          clear hs
          go_wp2_with fail
          clear hm
          refine HL.out.mono ?_
          rintro e wB ⟨rfl, hb⟩
          have OB := Lib.hid (owns_below (O1.out) hb)
          have GB := Lib.hid (grown_trans G1.out (grown_of_below hb (some g)))
          have PB := Lib.hid (P1.out.below hb)
          have hm := meth_swap pb q0.length c (some ⟨g, 0, none⟩) wB (PB.out.cell 0)
          clear hb
          go_wp2_with fail
          clear hm
          refine (swap_x g q0.length c k j1 lo q wB OB.out hl.symm (by omega) (by have := HJ1.out; have := HJ2.out; omega)).mono ?_
          rintro e wC ⟨rfl, hsw⟩
          have HSW := Lib.hid (hsw.own OB.out (by omega) (by have := HJ1.out; have := HJ2.out; omega))
          clear hsw
          go_wp2
          go_roundw
          case rel => exact ⟨j1, swapN q k j1, rfl, by have := HJ1.out; have := HJ2.out; omega, HST.out, HSW.out.1, grown_trans GB.out HSW.out.2⟩
          case measure => have := HJ1.out; have := HJ2.out; simp [intOf]; omega
end Go.Proofs.Ytnfhlfbkdhpacaa
