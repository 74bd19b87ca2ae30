/- Chapter 11, impl's side: TopKeys. (made by tools/mktopi.py) -/
import Derived.Test.YtchbmnpajnlijaaPlainTop2
import Derived.Test.YtchbmnpajnlijaaSortC
import Derived.Test.YtchbmnpajnlijaaKeyT
import Derived.Test.YtchbmnpajnlijaaAppI
namespace Go.Proofs.Ytchbmnpajnlijaa
open Go.RowKit Stab
theorem own_own_n2 {w : World} {b1 b2 s1 s2 n1 n2 : Nat} {e1 e2 : TypeId} {v1 v2 : Value} {xs1 xs2 : List Value} (h1 : w.ownsRow b1 e1 s1 v1 n1 xs1) (h2 : w.ownsRow b2 e2 s2 v2 n2 xs2) (hne : e1 ≠ e2) : v1.ownBlock = none ∨ v1.ownBlock ≠ v2.ownBlock := by
  rcases h1.2 with ⟨rfl, _⟩ | ⟨g, cap, cur, rfl, _, hh, _⟩
  · exact .inl rfl
  · refine .inr fun e => ?_
    rcases h2.2 with ⟨rfl, _⟩ | ⟨g', cap', cur', rfl, _, hh', _⟩
    · simp [Value.ownBlock] at e
    · have : g = g' := by simpa [Value.ownBlock] using e
      subst this
      rw [hh] at hh'
      injection hh' with hh'
      injection hh' with _ ht
      exact hne ht
def keyAt (Z : List Ag) (j : Nat) : List Int := (Z.take j).map (fun S => S.key)
theorem keyAt_step {Z : List Ag} {j : Nat} (hj : j < Z.length) : keyAt Z (j + 1) = keyAt Z j ++ [(ael Z j).key] := by
  unfold keyAt
  rw [ael_take hj]
  simp
theorem keyAt_len {Z : List Ag} {j : Nat} (hj : j ≤ Z.length) : (keyAt Z j).length = j := by
  unfold keyAt
  rw [List.length_map, List.length_take]
  omega
set_option maxHeartbeats 8000000 in
set_option maxRecDepth 100000 in
theorem implTop_any (a : Option Addr) (n c : Nat) (l : List Ag) (x : Int) (hi : Nat) (w : World) (hr : Ags w hi a c l) (hn : n = l.length) (hB : hi ≤ w.heap.size) (hlen : l.length ≤ 1048576) :
    Calls Try.prog 43 #[.slice a n c, .int .i64 x] w (FreshNums 3 .i64 (topZ l x) w) := by
  by_cases hx : x < 0
  · rw [topZ_no1 hx]
    go_enter Try.func43, Try.ntmps43
    go_wp2
    exact bodyPost_ret (v := .slice none 0 0) (by simp [results, Try.results43, go_sem]) rfl ⟨none, 0, rfl, World.ownsRow_nil _ _ _ _, Below.refl _ _⟩
  · have KT := Lib.hid (implKt_any a n c l hi w hr hn hB hlen)
    have HTOP := Lib.hid (fun (Z : List Ag) hz => top_any (l := l) (Z := Z) (n := x) hx hz)
    have hkl := ktL_len l
    generalize ktL l = T at KT HTOP hkl
    generalize topZ l x = R at HTOP ⊢
    clear hr hn hB
    go_enter Try.func43, Try.ntmps43
    go_wp2_with fail
    refine KT.out.mono ?_
    rintro e w1 ⟨a1, c1, rfl, ho, hb⟩
    have B1 := Lib.hid hb
    have hsz := hb.size
    have SO := Lib.hid (Cnt.sort_any a1 T.length c1 w.heap.size T w1 ho hsz (by omega))
    clear hb ho KT
    go_wp2_with fail
    refine SO.out.mono ?_
    rintro e w2 ⟨rfl, Z, hZ, ho, hb⟩
    have HZ := Lib.hid (HTOP.out Z hZ)
    have B2 := Lib.hid (B1.out.trans hb)
    have hlZ : T.length = Z.length := hZ.kin.len.symm
    have hcap := ownR_cap ho
    have AZ := Lib.hid (Ags.of_own ho)
    rw [hlZ] at hcap hkl ⊢
    clear hlZ hZ ho hb SO HTOP B1
    rcases Int.lt_or_le (Z.length : Int) x with hx2 | hx2
    · have hm : min x.toNat Z.length = Z.length := by omega
      rw [hm] at HZ
      have HZ : Hid (R = keyAt Z Z.length) := HZ
      have hmZ : Z.length ≤ Z.length := Nat.le_refl _
      have hs2 := B2.out.size
      clear hm
      go_wp2
      go_loopw [6, 22] (fun ls i wr => ∃ (k : Nat) (a3 : Option Addr) (c3 : Nat), k ≤ Z.length ∧ i = .int .i64 (k : Int) ∧ ls = .slice a3 k c3 ∧ wr.ownsRow w2.heap.size 3 1 (.slice a3 k c3) k ((keyAt Z k).map (Value.int .i64)) ∧ Below w2.heap.size w2 wr) (fun _ i _ => Z.length - (intOf i).toNat)
      case atStart => exact ⟨0, none, 0, Nat.zero_le _, rfl, rfl, World.ownsRow_nil _ _ _ _, Below.refl _ _⟩
      case round =>
        obtain ⟨k, a3, c3, hk, rfl, rfl, ho, hb⟩ := hrel
        have RO := Lib.hid ho
        have RB := Lib.hid hb
        have hsz3 := hb.size
        clear ho hb
        by_cases hlt : k < Z.length
        · obtain ⟨b1, off, rfl, hbh, hcell⟩ := Ags.six (AZ.out.below RB.out) (by omega)
          have hlt' : (k : Int) < (Z.length : Int) := by omega
          have hnn : 0 ≤ (k : Int) := by omega
          obtain ⟨p0, p1, p2, p3, p4, p5⟩ := hcell k (by omega)
          have HE := Lib.hid (keyAt_step (Z := Z) (j := k) (by omega))
          have HL := Lib.hid (keyAt_len (Z := Z) (j := k) (by omega))
          clear hcell
          generalize ael Z k = Y at p0 p1 p2 p3 p4 p5 HE
          obtain ⟨y0, y1, y2, y3, y4, y5⟩ := Y
          simp only at p0 p1 p2 p3 p4 p5 HE
          have RO := Lib.hid (RO.out.alloc (.cells #[.int .i64 y0, .int .i64 y1, .int .i64 y2, .int .i64 y3, .int .i64 y4, .int .i64 y5] 86))
          have RB := Lib.hid (RB.out.alloc hsz3 (.cells #[.int .i64 y0, .int .i64 y1, .int .i64 y2, .int .i64 y3, .int .i64 y4, .int .i64 y5] 86))
          obtain ⟨a5, c5, w5, hr3, ho3, hb3, _⟩ := appendI (w := wr.alloc (.cells #[.int .i64 y0, .int .i64 y1, .int .i64 y2, .int .i64 y3, .int .i64 y4, .int .i64 y5] 86)) y1 HL.out.symm RO.out RB.out.size (by omega) 22
          simp only [World.size_alloc] at hr3
          have R3 := Lib.hid hr3
          have RO := Lib.hid (show w5.ownsRow _ _ _ _ _ ((keyAt Z (k + 1)).map (Value.int .i64)) by rw [HE.out]; exact ho3)
          have RB := Lib.hid (RB.out.trans hb3)
          clear hr3 ho3 hb3
          go_wp2_with (at_builtin; refine Lib.wpList_append_run _ rfl _ _ _ _ rfl _ _ rfl rfl _ _ R3.out ?_)
          go_roundw
          case rel => exact ⟨k + 1, a5, c5, by omega, by go_num, rfl, RO.out, RB.out⟩
          case measure => simp [intOf]; omega
        · have hlt' : ¬ (k : Int) < (Z.length : Int) := by omega
          obtain rfl : k = Z.length := by omega
          have FIN : Hid (FreshNums 3 .i64 R w (.returned (.slice a3 Z.length c3)) wr) := Lib.hid (by
            have e := keyAt_len (Z := Z) hmZ
            rw [HZ.out]
            exact ⟨a3, c3, by rw [e], by rw [e]; exact owns_less RO.out hs2, B2.out.trans (RB.out.mono hs2)⟩)
          go_wp2
          first | exact FIN.out | exact bodyPost_ret (v := .slice a3 _ c3) (by simp [results, Try.results43, go_sem]) rfl FIN.out
    · obtain ⟨m, rfl⟩ : ∃ m : Nat, x = (m : Int) := ⟨x.toNat, by omega⟩
      have hmZ : m ≤ Z.length := by omega
      have hm : min (m : Int).toNat Z.length = m := by omega
      rw [hm] at HZ
      have HZ : Hid (R = keyAt Z m) := HZ
      have hmx : max (m : Int) 0 = (m : Int) := by omega
      have hs2 := B2.out.size
      clear hm
      go_wp2
      go_loopw [6, 22] (fun ls i wr => ∃ (k : Nat) (a3 : Option Addr) (c3 : Nat), k ≤ m ∧ i = .int .i64 (k : Int) ∧ ls = .slice a3 k c3 ∧ wr.ownsRow w2.heap.size 3 1 (.slice a3 k c3) k ((keyAt Z k).map (Value.int .i64)) ∧ Below w2.heap.size w2 wr) (fun _ i _ => m - (intOf i).toNat)
      case atStart => exact ⟨0, none, 0, Nat.zero_le _, rfl, rfl, World.ownsRow_nil _ _ _ _, Below.refl _ _⟩
      case round =>
        obtain ⟨k, a3, c3, hk, rfl, rfl, ho, hb⟩ := hrel
        have RO := Lib.hid ho
        have RB := Lib.hid hb
        have hsz3 := hb.size
        clear ho hb
        by_cases hlt : k < m
        · obtain ⟨b1, off, rfl, hbh, hcell⟩ := Ags.six (AZ.out.below RB.out) (by omega)
          have hlt' : (k : Int) < (m : Int) := by omega
          have hnn : 0 ≤ (k : Int) := by omega
          obtain ⟨p0, p1, p2, p3, p4, p5⟩ := hcell k (by omega)
          have HE := Lib.hid (keyAt_step (Z := Z) (j := k) (by omega))
          have HL := Lib.hid (keyAt_len (Z := Z) (j := k) (by omega))
          clear hcell
          generalize ael Z k = Y at p0 p1 p2 p3 p4 p5 HE
          obtain ⟨y0, y1, y2, y3, y4, y5⟩ := Y
          simp only at p0 p1 p2 p3 p4 p5 HE
          have RO := Lib.hid (RO.out.alloc (.cells #[.int .i64 y0, .int .i64 y1, .int .i64 y2, .int .i64 y3, .int .i64 y4, .int .i64 y5] 86))
          have RB := Lib.hid (RB.out.alloc hsz3 (.cells #[.int .i64 y0, .int .i64 y1, .int .i64 y2, .int .i64 y3, .int .i64 y4, .int .i64 y5] 86))
          obtain ⟨a5, c5, w5, hr3, ho3, hb3, _⟩ := appendI (w := wr.alloc (.cells #[.int .i64 y0, .int .i64 y1, .int .i64 y2, .int .i64 y3, .int .i64 y4, .int .i64 y5] 86)) y1 HL.out.symm RO.out RB.out.size (by omega) 22
          simp only [World.size_alloc] at hr3
          have R3 := Lib.hid hr3
          have RO := Lib.hid (show w5.ownsRow _ _ _ _ _ ((keyAt Z (k + 1)).map (Value.int .i64)) by rw [HE.out]; exact ho3)
          have RB := Lib.hid (RB.out.trans hb3)
          clear hr3 ho3 hb3
          go_wp2_with (at_builtin; refine Lib.wpList_append_run _ rfl _ _ _ _ rfl _ _ rfl rfl _ _ R3.out ?_)
          go_roundw
          case rel => exact ⟨k + 1, a5, c5, by omega, by go_num, rfl, RO.out, RB.out⟩
          case measure => simp [intOf]; omega
        · have hlt' : ¬ (k : Int) < (m : Int) := by omega
          obtain rfl : k = m := by omega
          have FIN : Hid (FreshNums 3 .i64 R w (.returned (.slice a3 k c3)) wr) := Lib.hid (by
            have e := keyAt_len (Z := Z) hmZ
            rw [HZ.out]
            exact ⟨a3, c3, by rw [e], by rw [e]; exact owns_less RO.out hs2, B2.out.trans (RB.out.mono hs2)⟩)
          go_wp2
          first | exact FIN.out | exact bodyPost_ret (v := .slice a3 _ c3) (by simp [results, Try.results43, go_sem]) rfl FIN.out
end Go.Proofs.Ytchbmnpajnlijaa
