/- Chapter 12, impl's side: JoinWithin, Unmatched. (made by tools/mkjni4.py) -/
import Derived.Test.YtneolndbhklboaaPlainJn4
import Derived.Test.YtneolndbhklboaaMeet3
import Derived.Test.YtneolndbhklboaaAppI
import Derived.Test.YtneolndbhklboaaJn2
namespace Go.Proofs.Ytneolndbhklboaa
open Go.RowKit
set_option maxHeartbeats 2000000 in
set_option maxRecDepth 100000 in
theorem iJoin_any (a1 a2 : Option Addr) (n1 n2 c1 c2 : Nat) (L R : List Fm) (by_ : Int) (hi : Nat) (w : World) (h1 : Fms w hi a1 c1 L) (h2 : Fms w hi a2 c2 R) (hn1 : n1 = L.length) (hn2 : n2 = R.length) (hB : hi ≤ w.heap.size) :
    Calls Try.prog 21 #[.slice a1 n1 c1, .slice a2 n2 c2, .int .i64 by_] w (JoinPost (joinJ L R by_) w) := by
  have AS := Lib.hid (areSides_any a1 a2 n1 n2 c1 c2 L R hi w h1 h2 hn1 hn2 hB)
  have HT := Lib.hid (fun W => jTime_any by_ W)
  have H1 := Lib.hid h1
  have H2 := Lib.hid h2
  subst hn1
  subst hn2
  clear h1 h2
  cases hs : (evsJ L && evsJ R) with
  | false =>
    rw [hs] at AS
    rw [joinJ_no12 hs]
    clear hs
    go_enter Try.func21, Try.ntmps21
    go_wp2_with (go_at_call 66; refine (AS.out).mono ?_; rintro e w1 ⟨rfl, hb⟩; have B1 := Lib.hid hb; clear hb)
    exact bodyPost_ret (v := .tuple #[.slice none 0 0, .bool false]) (by simp [results, Try.results21, go_sem]) rfl ⟨none, 0, rfl, World.ownsRow_nil _ _ _ _, B1.out⟩
  | true =>
    rw [hs] at AS
    have hLR : evsJ L = true ∧ evsJ R = true := by simpa using hs
    clear hs
    cases ht : inB by_ 0 1000000 with
    | false =>
      rw [ht] at HT
      rw [joinJ_no3 ht]
      clear ht
      go_enter Try.func21, Try.ntmps21
      go_wp2_with (first | (go_at_call 66; refine (AS.out).mono ?_; rintro e w1 ⟨rfl, hb⟩; have B1 := Lib.hid hb; clear hb) | (go_at_call 67; refine (HT.out _).mono ?_; rintro e w' ⟨rfl, rfl⟩))
      exact bodyPost_ret (v := .tuple #[.slice none 0 0, .bool false]) (by simp [results, Try.results21, go_sem]) rfl ⟨none, 0, rfl, World.ownsRow_nil _ _ _ _, B1.out⟩
    | true =>
      rw [ht] at HT
      have HBY := Lib.hid (inB_bd ht)
      rw [joinJ_yes hLR.1 hLR.2 ht]
      have HLR := Lib.hid hLR
      clear ht hLR
      go_enter Try.func21, Try.ntmps21
      go_wp2_with (first
        | (go_at_call 66; refine (AS.out).mono ?_; rintro e w1 ⟨rfl, hb⟩; have B1 := Lib.hid hb; clear hb; have PO := Lib.hid (pairsOf_any a1 a2 L.length R.length c1 c2 L R by_ hi _ (H1.out.below (B1.out.mono hB)) (H2.out.below (B1.out.mono hB)) rfl rfl (Nat.le_trans hB B1.out.size) HLR.out.1 HLR.out.2 HBY.out))
        | (go_at_call 67; refine (HT.out _).mono ?_; rintro e w' ⟨rfl, rfl⟩)
        | (go_at_call 68; refine PO.out.mono ?_; rintro e w5 ⟨a5, c5, rfl, ho, hb⟩; have HF : Hid (JoinPost (allJ L R by_ L.length, true) w (.returned (.tuple #[.slice a5 (allJ L R by_ L.length).length c5, .bool true])) w5) := Lib.hid ⟨a5, c5, rfl, owns_less ho B1.out.size, B1.out.trans (hb.mono B1.out.size)⟩; clear ho hb))
      exact bodyPost_ret (v := .tuple #[.slice a5 (allJ L R by_ L.length).length c5, .bool true]) (by simp [results, Try.results21, go_sem]) rfl HF.out
set_option maxHeartbeats 4000000 in
set_option maxRecDepth 100000 in
theorem iUn_any (a1 a2 : Option Addr) (n1 n2 c1 c2 : Nat) (L R : List Fm) (by_ : Int) (hi : Nat) (w : World) (h1 : Fms w hi a1 c1 L) (h2 : Fms w hi a2 c2 R) (hn1 : n1 = L.length) (hn2 : n2 = R.length) (hB : hi ≤ w.heap.size) :
    Calls Try.prog 31 #[.slice a1 n1 c1, .slice a2 n2 c2, .int .i64 by_] w (FreshNums 3 .i64 (umJ L R by_) w) := by
  have hq1 := h1.cap
  have hq2 := h1.big
  have AS := Lib.hid (areSides_any a1 a2 n1 n2 c1 c2 L R hi w h1 h2 hn1 hn2 hB)
  have HT := Lib.hid (fun W => jTime_any by_ W)
  have H1 := Lib.hid h1
  have H2 := Lib.hid h2
  subst hn1
  subst hn2
  clear h1 h2
  cases hs : (evsJ L && evsJ R) with
  | false =>
    rw [hs] at AS
    rw [umJ_no1 hs]
    clear hs
    go_enter Try.func31, Try.ntmps31
    go_wp2_with (go_at_call 66; refine (AS.out).mono ?_; rintro e w1 ⟨rfl, hb⟩; have B1 := Lib.hid hb; clear hb)
    exact bodyPost_ret (v := .slice none 0 0) (by simp [results, Try.results31, go_sem]) rfl ⟨none, 0, rfl, World.ownsRow_nil _ _ _ _, B1.out⟩
  | true =>
    rw [hs] at AS
    have hLR : evsJ L = true ∧ evsJ R = true := by simpa using hs
    clear hs
    cases ht : inB by_ 0 1000000 with
    | false =>
      rw [ht] at HT
      rw [umJ_no2 ht]
      clear ht
      go_enter Try.func31, Try.ntmps31
      go_wp2_with (first | (go_at_call 66; refine (AS.out).mono ?_; rintro e w1 ⟨rfl, hb⟩; have B1 := Lib.hid hb; clear hb) | (go_at_call 67; refine (HT.out _).mono ?_; rintro e w' ⟨rfl, rfl⟩))
      exact bodyPost_ret (v := .slice none 0 0) (by simp [results, Try.results31, go_sem]) rfl ⟨none, 0, rfl, World.ownsRow_nil _ _ _ _, B1.out⟩
    | true =>
      rw [ht] at HT
      have HBY := Lib.hid (inB_bd ht)
      rw [umJ_yes hLR.1 hLR.2 ht]
      have HLR := Lib.hid hLR
      clear ht hLR
      have h40 := (evsJ_bd HLR.out.1).1
      go_enter Try.func31, Try.ntmps31
      go_wp2_with (first | (go_at_call 66; refine (AS.out).mono ?_; rintro e w1 ⟨rfl, hb⟩; have B1 := Lib.hid hb; clear hb) | (go_at_call 67; refine (HT.out _).mono ?_; rintro e w' ⟨rfl, rfl⟩))
      go_loopw [7, 21] (fun ls i wr => ∃ (k m : Nat) (a3 : Option Addr) (c3 : Nat), k ≤ L.length ∧ i = .int .i64 (k : Int) ∧ ls = .slice a3 m c3 ∧ m = (umTo L R by_ k).length ∧ wr.ownsRow w1.heap.size 3 1 (.slice a3 m c3) m ((umTo L R by_ k).map (Value.int .i64)) ∧ Below w1.heap.size w1 wr) (fun _ i _ => L.length - (intOf i).toNat)
      case atStart => exact ⟨0, 0, none, 0, Nat.zero_le _, rfl, rfl, rfl, World.ownsRow_nil _ _ _ _, Below.refl _ _⟩
      case round =>
        obtain ⟨k, m, a3, c3, hk, rfl, rfl, hm, ho, hb⟩ := hrel
        have RO := Lib.hid ho
        have RB := Lib.hid hb
        have HM := Lib.hid hm
        have hsz3 := hb.size
        have hml : m ≤ k := by rw [hm]; exact umTo_len
        clear ho hb hm
        by_cases hlt : k < L.length
        · have hB1 := Nat.le_trans hB B1.out.size
          have FW := Lib.hid (H1.out.below ((B1.out.mono hB).trans (RB.out.mono hB1)))
          have FR2 := Lib.hid (H2.out.below ((B1.out.mono hB).trans (RB.out.mono hB1)))
          obtain ⟨b1, off, rfl, hbh, hcell⟩ := Fms.six FW.out (by omega)
          have hlt' : (k : Int) < (L.length : Int) := by omega
          have hnn : 0 ≤ (k : Int) := by omega
          obtain ⟨p0, p1, p2, p3⟩ := hcell k hlt
          have EV := Lib.hid ((evsJ_bd HLR.out.1).2 k hlt)
          have UY := Lib.hid (umTo_yes (L := L) (R := R) (by_ := by_) (k := k))
          have UN := Lib.hid (umTo_no (L := L) (R := R) (by_ := by_) (k := k))
          have MR := Lib.hid (metB_row (A := qel L k) (R := R) (by_ := by_) (k := R.length))
          clear hcell FW
          generalize qel L k = X at p0 p1 p2 p3 EV UY UN MR
          obtain ⟨x0, x1, x2, x3⟩ := X
          simp only at p0 p1 p2 p3
          have b2 := ((Below.refl wr.heap.size wr).alloc (Nat.le_refl _) (.cells #[.int .i64 x0, .int .i64 x1, .int .i64 x2, .int .i64 x3] 38)).alloc (by simp) (.cells #[.int .i64 x0, .int .i64 x1, .int .i64 x2, .int .i64 x3] 38)
          have fo := fms_one (wr.alloc (.cells #[.int .i64 x0, .int .i64 x1, .int .i64 x2, .int .i64 x3] 38)) 38 ⟨x0, x1, x2, x3⟩
          rw [World.size_alloc] at fo
          have PO := pairsOf_any (some ⟨wr.heap.size + 1, 0, none⟩) a2 1 R.length 1 c2 [⟨x0, x1, x2, x3⟩] R by_ (wr.heap.size + 1 + 1) _ fo ((FR2.out.below (b2.mono (by omega))).more (by omega)) rfl rfl (by simp) (evsJ_one EV.out) HLR.out.2 HBY.out
          rw [show ([⟨x0, x1, x2, x3⟩] : List Fm).length = 1 from rfl, allJ_one] at PO
          have PO := Lib.hid PO
          have RO2 := Lib.hid ((RO.out.alloc (.cells #[.int .i64 x0, .int .i64 x1, .int .i64 x2, .int .i64 x3] 38)).alloc (.cells #[.int .i64 x0, .int .i64 x1, .int .i64 x2, .int .i64 x3] 38))
          have RB2 := Lib.hid (RB.out.trans (b2.mono hsz3))
          clear b2 fo RO
          generalize rowJ ⟨x0, x1, x2, x3⟩ R by_ R.length = Z at PO MR
          go_wp2_with fail
          refine PO.out.mono ?_
          rintro e w5 ⟨a5, c5, rfl, _, hb⟩
          have RO := Lib.hid (owns_below RO2.out hb)
          have RB := Lib.hid (RB2.out.trans (hb.mono RB2.out.size))
          clear hb p0 p1 p2 p3
          have hs5 := RB.out.size
          by_cases hz : Z.length = 0
          · have HE := Lib.hid (UY.out (by rw [MR.out]; simp [hz]))
            have hzi : (Z.length : Int) = 0 := by omega
            rw [hz]
            obtain ⟨a6, c6, w6, hr3, ho3, hb3, _⟩ := appendI (w := w5) (k : Int) HM.out RO.out hs5 (by omega) 31
            have R3 := Lib.hid hr3
            have RO := Lib.hid ho3
            have RB := Lib.hid (RB.out.trans hb3)
            clear hr3 ho3 hb3
            go_wp2_with (at_builtin; refine Lib.wpList_append_run _ rfl _ _ _ _ rfl _ _ rfl rfl _ _ R3.out ?_)
            go_roundw
            case rel => exact ⟨k + 1, m + 1, a6, c6, by omega, by go_num, rfl, by rw [HE.out, List.length_append, ← HM.out]; rfl, by rw [HE.out]; exact RO.out, RB.out⟩
            case measure => simp [intOf]; omega
          · have HE := Lib.hid (UN.out (by rw [MR.out]; simp [hz]))
            have hzi : ¬ (Z.length : Int) = 0 := by omega
            go_wp2
            go_roundw
            case rel => exact ⟨k + 1, m, a3, c3, by omega, by go_num, rfl, by rw [HE.out]; exact HM.out, by rw [HE.out]; exact RO.out, RB.out⟩
            case measure => simp [intOf]; omega
        · obtain rfl : k = L.length := by omega
          have FIN : Hid (FreshNums 3 .i64 (umTo L R by_ L.length) w (.returned (.slice a3 m c3)) wr) := Lib.hid (by
            have hm2 := HM.out
            subst hm2
            exact ⟨a3, c3, rfl, owns_less RO.out B1.out.size, B1.out.trans (RB.out.mono B1.out.size)⟩)
          go_wp2
          exact bodyPost_ret (v := .slice a3 m c3) (by simp [results, Try.results31, go_sem]) rfl FIN.out
end Go.Proofs.Ytneolndbhklboaa
