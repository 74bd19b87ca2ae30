/- Chapter 11, spec's side: SessionsOf. (made by tools/mksess3.py) -/
import Derived.Test.YtchbmnpajnlijaaPlainSes3
import Derived.Test.YtchbmnpajnlijaaSes2
import Derived.Test.YtchbmnpajnlijaaFrameS
namespace Go.Proofs.Ytchbmnpajnlijaa
open Go.RowKit
set_option maxHeartbeats 4000000 in
set_option maxRecDepth 100000 in
theorem specSess_any (a : Option Addr) (n c : Nat) (L : List Fm) (gap : Int) (hi : Nat) (w : World) (hr : Fms w hi a c L) (hn : n = L.length) (hB : hi ≤ w.heap.size) :
    Calls Try.prog 46 #[.slice a n c, .int .i64 gap] w (FreshR zC 33 5 (sessionsZ L gap) w) := by
  subst hn
  have m1 := hr.cap
  have m2 := hr.big
  have HR := Lib.hid hr
  have O0 := Lib.hid (own0Z w w.heap.size (Nat.le_refl _))
  have B0 := Lib.hid ((Below.refl w.heap.size w).alloc (Nat.le_refl _) (.cells #[] 33))
  clear hr
  have HP : Hid (∀ W, Below w.heap.size w W → FreshR zC 33 5 [] w (.returned (.slice none 0 0)) W) := Lib.hid (fun W h => ⟨none, 0, rfl, World.ownsRow_nil _ _ _ _, h⟩)
  cases hs : inB gap 0 1000000 with
  | false =>
    rw [sessionsZ_no1 hs]
    go_enter Try.func46, Try.ntmps46
    go_wp2_with (go_at_call 59; refine (specIn_any _ _ _ _).mono ?_; rintro e w' ⟨rfl, rfl⟩)
    exact bodyPost_ret (v := .slice none 0 0) (by simp [results, Try.results46, go_sem]) rfl (HP.out _ B0.out)
  | true =>
    by_cases hl : L.length ≤ 300
    · have HY := Lib.hid (sessionsZ_yes hs hl)
      have hd2 : ¬ (300 : Int) < (L.length : Int) := by omega
      have hg := inB_bd hs
      go_enter Try.func46, Try.ntmps46
      go_wp2_with (go_at_call 59; refine (specIn_any _ _ _ _).mono ?_; rintro e w' ⟨rfl, rfl⟩)
      clear hs hd2
      go_loopw [5, 6] (fun ls i wr => ∃ (k : Nat) (a2 : Option Addr) (n2 c2 : Nat), k ≤ L.length ∧ i = .int .i64 (k : Int) ∧ ls = .slice a2 n2 c2 ∧ n2 = (sesL gap L k).length ∧ wr.ownsRow w.heap.size 33 5 (.slice a2 n2 c2) n2 (flatZ (sesL gap L k)) ∧ Below w.heap.size w wr) (fun _ i _ => L.length - (intOf i).toNat)
      case atStart => exact ⟨0, some ⟨w.heap.size, 0, none⟩, 0, 0, Nat.zero_le _, rfl, rfl, rfl, O0.out, B0.out⟩
      case round =>
        obtain ⟨k, a2, n2, c2, hk, rfl, rfl, hn2, ho, hbr⟩ := hrel
        have HN2 := Lib.hid hn2
        have RO := Lib.hid ho
        have WB := Lib.hid hbr
        have hsz := hbr.size
        clear hn2 ho hbr
        by_cases hlt : k < L.length
        · obtain ⟨b1, off, rfl, hbh, hcell⟩ := Fms.six HR.out (by omega)
          have hbq : b1 < w.heap.size := by omega
          have hlt' : (k : Int) < (L.length : Int) := by omega
          have hnn : 0 ≤ (k : Int) := by omega
          have CK := Lib.hid (hcell k hlt)
          have EY := Lib.hid (fun h => sesL_yes (gap := gap) hlt h)
          have ENO := Lib.hid (fun h => sesL_no (gap := gap) hlt h)
          have EO := Lib.hid (fun h => evQ_ok (F := qel L k) h)
          have SOK := Lib.hid (sesL_ok (gap := gap) k hk)
          have hln : (sesL gap L k).length ≤ 1048576 := by have := sesL_len (gap := gap) (L := L) k hk; omega
          clear hcell
          generalize qel L k = X at CK EY ENO EO
          obtain ⟨e0, e1, e2, e3⟩ := X
          simp only at CK
          have CC : Hid (∀ W : World, Below w.heap.size w W → W.cell? ⟨b1, off + k * 4, none⟩ = some (.int .i64 e0) ∧ W.cell? ⟨b1, off + k * 4 + 1, none⟩ = some (.int .i64 e1) ∧ W.cell? ⟨b1, off + k * 4 + 2, none⟩ = some (.int .i64 e2) ∧ W.cell? ⟨b1, off + k * 4 + 3, none⟩ = some (.int .i64 e3)) := Lib.hid (fun W hW => by
            have g1 : ∀ q, W.cell? ⟨b1, q, none⟩ = w.cell? ⟨b1, q, none⟩ := fun q => hW.cell (p := ⟨b1, q, none⟩) (show b1 < w.heap.size by omega)
            simp only [g1]
            exact CK.out)
          clear CK
          obtain ⟨p0, p1, p2, p3⟩ := CC.out wr WB.out
          generalize sesL gap L k = A at HN2 RO EY ENO SOK hln
          have CF := Lib.hid (fun W => specFrameOk_any e0 e1 e2 e3 W)
          cases hf : fOk e0 e1 e2 e3 with
          | false =>
            have EE := Lib.hid (ENO.out (by unfold evQ; rw [hf]; rfl))
            rw [hf] at CF
            clear hf EY ENO EO
            go_wp2_with fail
            refine (CF.out _).mono ?_
            rintro e w2 ⟨rfl, hb⟩
            clear p0 p1 p2 p3
            have RO := Lib.hid (owns_below RO.out hb)
            have WB := Lib.hid (WB.out.trans (hb.mono WB.out.size))
            clear hb
            go_wp2
            go_roundw
            case rel => exact ⟨k + 1, a2, n2, c2, by omega, by go_num, rfl, by rw [EE.out]; exact HN2.out, by rw [EE.out]; exact RO.out, WB.out⟩
            case measure => simp [intOf]; omega
          | true =>
            rw [hf] at CF
            by_cases h1 : e0 = 1
            · have hev : evQ ⟨e0, e1, e2, e3⟩ = true := by unfold evQ; rw [hf]; simp [h1]
              have EE := Lib.hid (EY.out hev)
              have hyk := EO.out hev
              simp only at hyk
              have hq1 : (e0 == 1) = true := by simp [h1]
              have AD := Lib.hid (fun (W : World) (h : W.ownsRow w.heap.size 33 5 (.slice a2 n2 c2) n2 (flatZ A)) => specAddZ_any a2 n2 c2 A e0 e1 e2 e3 gap W.heap.size W (Sss.of_own h) HN2.out (Nat.le_refl _) hln SOK.out hyk hg)
              clear hf EY ENO EO hev h1 hyk
              go_wp2_with fail
              refine (CF.out _).mono ?_
              rintro e w2 ⟨rfl, hb⟩
              clear p0 p1 p2 p3
              have RO := Lib.hid (owns_below RO.out hb)
              have WB := Lib.hid (WB.out.trans (hb.mono WB.out.size))
              clear hb
              obtain ⟨p0, p1, p2, p3⟩ := CC.out w2 WB.out
              go_wp2_with fail
              refine (AD.out _ RO.out).mono ?_
              rintro e w9 ⟨a3, c3, rfl, ho3, hb3⟩
              clear p0 p1 p2 p3
              have RO := Lib.hid (show w9.ownsRow _ _ _ _ _ (flatZ (sesL gap L (k + 1))) by rw [EE.out]; exact owns_less ho3 WB.out.size)
              have HN3 : Hid ((addZ e1 e2 e3 gap A).length = (sesL gap L (k + 1)).length) := Lib.hid (by rw [EE.out])
              have WB := Lib.hid (WB.out.trans (hb3.mono WB.out.size))
              clear ho3 hb3 AD
              generalize (addZ e1 e2 e3 gap A).length = n3 at RO HN3 ⊢
              go_wp2
              go_roundw
              case rel => exact ⟨k + 1, a3, n3, c3, by omega, by go_num, rfl, HN3.out, RO.out, WB.out⟩
              case measure => simp [intOf]; omega
            · have EE := Lib.hid (ENO.out (by unfold evQ; simp [h1]))
              have hq1 : (e0 == 1) = false := beq_eq_false_iff_ne.2 h1
              clear hf EY ENO EO
              go_wp2_with fail
              refine (CF.out _).mono ?_
              rintro e w2 ⟨rfl, hb⟩
              clear p0 p1 p2 p3
              have RO := Lib.hid (owns_below RO.out hb)
              have WB := Lib.hid (WB.out.trans (hb.mono WB.out.size))
              clear hb
              obtain ⟨p0, p1, p2, p3⟩ := CC.out w2 WB.out
              go_wp2
              go_roundw
              case rel => exact ⟨k + 1, a2, n2, c2, by omega, by go_num, rfl, by rw [EE.out]; exact HN2.out, by rw [EE.out]; exact RO.out, WB.out⟩
              case measure => simp [intOf]; omega
        · have hlt' : ¬ (k : Int) < (L.length : Int) := by omega
          obtain rfl : k = L.length := by omega
          have FIN : Hid (FreshR zC 33 5 (sessionsZ L gap) w (.returned (.slice a2 n2 c2)) wr) := Lib.hid (by
            rw [HY.out]
            have hn2 := HN2.out
            subst hn2
            exact ⟨a2, c2, rfl, RO.out, WB.out⟩)
          clear RO HN2
          go_wp2
          exact bodyPost_ret (v := .slice a2 n2 c2) (by simp [results, Try.results46, go_sem]) rfl FIN.out
    · rw [sessionsZ_no2 hl]
      have hd2 : (300 : Int) < (L.length : Int) := by omega
      go_enter Try.func46, Try.ntmps46
      go_wp2_with (go_at_call 59; refine (specIn_any _ _ _ _).mono ?_; rintro e w' ⟨rfl, rfl⟩)
      exact bodyPost_ret (v := .slice none 0 0) (by simp [results, Try.results46, go_sem]) rfl (HP.out _ B0.out)
end Go.Proofs.Ytchbmnpajnlijaa
