/- Chapter 12, spec's side: l12Event, l12Events, l12Meet, l12Pair, JoinOk, NewJoin, HeldIn. (made by tools/mkjoin.py) -/
import Derived.Test.YtneolndbhklboaaPlainJn
import Derived.Test.YtneolndbhklboaaFrameS
import Derived.Test.YtneolndbhklboaaTick1
import Derived.Deep.RegionWith
import Derived.Deep.QuietTactic
import Derived.BigQuiet
import Derived.StillTailTactics
import Derived.IntWalk
namespace Go.Proofs.Ytneolndbhklboaa
open Go.RowKit
set_option maxHeartbeats 2000000 in
theorem sEv_x (k y t v : Int) (w : World) : Calls Try.prog 82 #[(.agg #[.int .i64 k, .int .i64 y, .int .i64 t, .int .i64 v])] w fun e w' => e = .returned (.bool (evJ ⟨k, y, t, v⟩)) ∧ Below w.heap.size w w' := by
  have K0 := Lib.hid (Blk.new w 38 #[.int .i64 k, .int .i64 y, .int .i64 t, .int .i64 v])
  have B0 := Lib.hid ((Below.refl w.heap.size w).alloc (Nat.le_refl _) (.cells #[.int .i64 k, .int .i64 y, .int .i64 t, .int .i64 v] 38))
  have CF := Lib.hid (fun W => specFrameOk_any k y t v W)
  have hE : evJ ⟨k, y, t, v⟩ = (fOk k y t v && decide (k = 1)) := rfl
  rw [hE]
  clear hE
  cases hf : fOk k y t v with
  | false =>
    rw [hf] at CF
    clear hf
    go_enter Try.func82, Try.ntmps82
    go_wp2_with fail
    refine (CF.out _).mono ?_
    rintro e w2 ⟨rfl, hb⟩
    have B2 := Lib.hid (B0.out.trans (hb.mono (by simp)))
    clear hb
    go_wp2
    go_ret
    exact ⟨rfl, B2.out⟩
  | true =>
    rw [hf] at CF
    clear hf
    by_cases h1 : k = 1
    · have hb1 : (k == 1) = true := by simp [h1]
      rw [show decide (k = 1) = true by simp [h1]]
      clear h1
      go_enter Try.func82, Try.ntmps82
      go_wp2_with fail
      refine (CF.out _).mono ?_
      rintro e w2 ⟨rfl, hb⟩
      have B2 := Lib.hid (B0.out.trans (hb.mono (by simp)))
      have K2 := K0.out.below hb
      have q0 := K2.cell 0
      simp only [List.getElem?_toArray, List.getElem?_cons_zero] at q0
      clear hb K2
      go_wp2
      go_ret
      exact ⟨rfl, B2.out⟩
    · have hb1 : (k == 1) = false := beq_eq_false_iff_ne.2 h1
      rw [show decide (k = 1) = false by simp [h1]]
      clear h1
      go_enter Try.func82, Try.ntmps82
      go_wp2_with fail
      refine (CF.out _).mono ?_
      rintro e w2 ⟨rfl, hb⟩
      have B2 := Lib.hid (B0.out.trans (hb.mono (by simp)))
      have K2 := K0.out.below hb
      have q0 := K2.cell 0
      simp only [List.getElem?_toArray, List.getElem?_cons_zero] at q0
      clear hb K2
      go_wp2
      go_ret
      exact ⟨rfl, B2.out⟩
set_option maxHeartbeats 2000000 in
set_option maxRecDepth 100000 in
theorem sEvs_any (a : Option Addr) (n c : Nat) (L : List Fm) (hi : Nat) (w : World) (hr : Fms w hi a c L) (hn : n = L.length) (hB : hi ≤ w.heap.size) :
    Calls Try.prog 69 #[.slice a n c] w fun e w' => e = .returned (.bool (evsJ L)) ∧ Below w.heap.size w w' := by
  subst hn
  have m1 := hr.cap
  have m2 := hr.big
  have HR := Lib.hid hr
  clear hr
  by_cases h1 : L.length ≤ 40
  · have hd : ¬ (40 : Int) < (L.length : Int) := by omega
    have HNO := Lib.hid (fun (k : Nat) hk h => evsJ_no2 (L := L) (k := k) hk h)
    have HYES := Lib.hid (fun h => evsJ_yes (L := L) h1 h)
    generalize evsJ L = R at HNO HYES ⊢
    go_enter Try.func69, Try.ntmps69
    go_wp2
    clear hd
    go_loopw [3] (fun i wr => ∃ k : Nat, k ≤ L.length ∧ i = .int .i64 (k : Int) ∧ evsUp L k ∧ Below w.heap.size w wr) (fun i _ => L.length - (intOf i).toNat)
    case atStart => exact ⟨0, Nat.zero_le _, rfl, fun i hi => by omega, Below.refl _ _⟩
    case round =>
      obtain ⟨k, hk, rfl, hup, hb⟩ := hrel
      have HB := Lib.hid hb
      have HUP := Lib.hid hup
      clear hb hup
      by_cases hlt : k < L.length
      · obtain ⟨b1, off, rfl, hbh, hcell⟩ := Fms.six (HR.out.below (HB.out.mono hB)) (by omega)
        have hlt' : (k : Int) < (L.length : Int) := by omega
        have hnn : 0 ≤ (k : Int) := by omega
        obtain ⟨p0, p1, p2, p3⟩ := hcell k hlt
        have E1 := Lib.hid (HNO.out k hlt)
        have E2 : Hid (evJ (qel L k) = true → evsUp L (k + 1)) := Lib.hid (fun h i hi => by
          rcases Nat.lt_or_ge i k with h' | h'
          · exact HUP.out i h'
          · obtain rfl : i = k := by omega
            exact h)
        clear hcell HNO HYES
        generalize qel L k = X at p0 p1 p2 p3 E1 E2
        obtain ⟨e0, e1, e2, e3⟩ := X
        simp only at p0 p1 p2 p3
        have CE := Lib.hid (fun W => sEv_x e0 e1 e2 e3 W)
        cases he : evJ ⟨e0, e1, e2, e3⟩ with
        | false =>
          have HX := Lib.hid (E1.out he)
          rw [he] at CE
          clear E1 E2 he
          go_wp2_with fail
          refine (CE.out _).mono ?_
          rintro e w2 ⟨rfl, hb⟩
          have B2 := Lib.hid (HB.out.trans (hb.mono HB.out.size))
          clear hb
          go_wp2
          go_ret
          exact ⟨by rw [HX.out]; rfl, B2.out⟩
        | true =>
          have HX := Lib.hid (E2.out he)
          rw [he] at CE
          clear E1 E2 he
          go_wp2_with fail
          refine (CE.out _).mono ?_
          rintro e w2 ⟨rfl, hb⟩
          have B2 := Lib.hid (HB.out.trans (hb.mono HB.out.size))
          clear hb p0 p1 p2 p3
          go_wp2
          go_roundw
          case rel => exact ⟨k + 1, by omega, by go_num, HX.out, B2.out⟩
          case measure => simp [intOf]; omega
      · obtain rfl : k = L.length := by omega
        have HX := Lib.hid (HYES.out HUP.out)
        clear HNO HYES
        go_wp2
        go_ret
        exact ⟨by rw [HX.out]; rfl, HB.out⟩
  · rw [evsJ_no1 h1]
    have hd : (40 : Int) < (L.length : Int) := by omega
    go_enter Try.func69, Try.ntmps69
    go_wp2
    go_ret
    exact ⟨rfl, Below.refl _ _⟩
set_option maxHeartbeats 2000000 in
theorem sMeet_x (k0 y0 t0 v0 k1 y1 t1 v1 by_ : Int) (w : World) (h0 : 0 ≤ t0 ∧ t0 ≤ 1000000) (h1 : 0 ≤ t1 ∧ t1 ≤ 1000000) : Calls Try.prog 71 #[(.agg #[.int .i64 k0, .int .i64 y0, .int .i64 t0, .int .i64 v0]), (.agg #[.int .i64 k1, .int .i64 y1, .int .i64 t1, .int .i64 v1]), .int .i64 by_] w fun e w' => e = .returned (.bool (meetB ⟨k0, y0, t0, v0⟩ ⟨k1, y1, t1, v1⟩ by_)) ∧ Below w.heap.size w w' := by
  have B0 := Lib.hid (((Below.refl w.heap.size w).alloc (Nat.le_refl _) (.cells #[.int .i64 k0, .int .i64 y0, .int .i64 t0, .int .i64 v0] 38)).alloc (by simp) (.cells #[.int .i64 k1, .int .i64 y1, .int .i64 t1, .int .i64 v1] 38))
  have hM : meetB ⟨k0, y0, t0, v0⟩ ⟨k1, y1, t1, v1⟩ by_ = (decide (y0 = y1) && (decide (t0 - t1 ≤ by_) && decide (t1 - t0 ≤ by_))) := rfl
  rw [hM]
  clear hM
  by_cases hy : y0 = y1
  · have hyb : (y0 == y1) = true := by simp [hy]
    have hd : decide (y0 = y1) = true := by simp [hy]
    rw [hd, Bool.true_and]
    clear hy hd
    by_cases hn : t0 - t1 < 0
    · by_cases hb : t1 - t0 ≤ by_
      · have he : (decide (t0 - t1 ≤ by_) && decide (t1 - t0 ≤ by_)) = true := by simp; omega
        have hb2 : -(t0 - t1) ≤ by_ := by omega
        rw [he]
        clear he
        go_enter Try.func71, Try.ntmps71
        go_wp2
        go_ret
        exact ⟨rfl, B0.out⟩
      · have he : (decide (t0 - t1 ≤ by_) && decide (t1 - t0 ≤ by_)) = false := by simp; omega
        have hb2 : ¬ -(t0 - t1) ≤ by_ := by omega
        rw [he]
        clear he
        go_enter Try.func71, Try.ntmps71
        go_wp2
        go_ret
        exact ⟨rfl, B0.out⟩
    · by_cases hb : t0 - t1 ≤ by_
      · have he : (decide (t0 - t1 ≤ by_) && decide (t1 - t0 ≤ by_)) = true := by simp; omega
        rw [he]
        clear he
        go_enter Try.func71, Try.ntmps71
        go_wp2
        go_ret
        exact ⟨rfl, B0.out⟩
      · have he : (decide (t0 - t1 ≤ by_) && decide (t1 - t0 ≤ by_)) = false := by simp; omega
        rw [he]
        clear he
        go_enter Try.func71, Try.ntmps71
        go_wp2
        go_ret
        exact ⟨rfl, B0.out⟩
  · have hyb : (y0 == y1) = false := beq_eq_false_iff_ne.2 hy
    have hd : decide (y0 = y1) = false := by simp [hy]
    rw [hd, Bool.false_and]
    clear hy hd
    by_cases hn : t0 - t1 < 0
    · go_enter Try.func71, Try.ntmps71
      go_wp2
      go_ret
      exact ⟨rfl, B0.out⟩
    · go_enter Try.func71, Try.ntmps71
      go_wp2
      go_ret
      exact ⟨rfl, B0.out⟩
set_option maxHeartbeats 2000000 in
theorem sPair_x (k0 y0 t0 v0 k1 y1 t1 v1 : Int) (w : World) : Calls Try.prog 72 #[(.agg #[.int .i64 k0, .int .i64 y0, .int .i64 t0, .int .i64 v0]), (.agg #[.int .i64 k1, .int .i64 y1, .int .i64 t1, .int .i64 v1])] w fun e w' => e = .returned (.agg #[.int .i64 y0, .int .i64 t0, .int .i64 t1, .int .i64 v0, .int .i64 v1]) ∧ Below w.heap.size w w' := by
  have BB0 := Lib.hid fun z0 z1 z2 z3 z4 : Value => (((Below.refl w.heap.size w).alloc (Nat.le_refl _) (.cells #[.int .i64 k0, .int .i64 y0, .int .i64 t0, .int .i64 v0] 38)).alloc (by simp) (.cells #[.int .i64 k1, .int .i64 y1, .int .i64 t1, .int .i64 v1] 38)).alloc (by simp; omega) (.cells #[z0, z1, z2, z3, z4] 53)
  go_enter Try.func72, Try.ntmps72
  go_wp2
  exact bodyPost_ret (v := (.agg #[.int .i64 y0, .int .i64 t0, .int .i64 t1, .int .i64 v0, .int .i64 v1])) (by simp [results, Try.results72, go_sem]) rfl ⟨rfl, BB0.out _ _ _ _ _⟩
theorem sMarkJ_any (x : Int) (w : World) : Calls Try.prog 78 #[.int .i64 x] w fun e w' => e = .returned (.bool (inB x (-1) 1000000)) ∧ w = w' := by
  go_enter Try.func78, Try.ntmps78
  go_wp2_with (go_at_call 70; refine (specIn_any _ _ _ _).mono ?_; rintro e w' ⟨rfl, rfl⟩)
  go_ret
  exact ⟨rfl, rfl⟩
set_option maxHeartbeats 4000000 in
set_option maxRecDepth 100000 in
theorem sJoinOk_any (a1 a2 : Option Addr) (c1 c2 : Nat) (L R : List Fm) (mk : Int) (hi : Nat) (w : World) (h1 : Fms w hi a1 c1 L) (h2 : Fms w hi a2 c2 R) (hB : hi ≤ w.heap.size) :
    Calls Try.prog 44 #[.agg #[.slice a1 L.length c1, .slice a2 R.length c2, .int .i64 mk]] w fun e w' => e = .returned (.bool (joinOkJ L R mk)) ∧ Below w.heap.size w w' := by
  have K0 := Lib.hid (Blk.new w 29 #[.slice a1 L.length c1, .slice a2 R.length c2, .int .i64 mk])
  have B0 := Lib.hid ((Below.refl w.heap.size w).alloc (Nat.le_refl _) (.cells #[.slice a1 L.length c1, .slice a2 R.length c2, .int .i64 mk] 29))
  have m1 := h1.cap
  have m2 := h1.big
  have m3 := h2.cap
  have m4 := h2.big
  have E1 := Lib.hid (fun (W : World) (h : Below hi w W) => sEvs_any a1 L.length c1 L hi W (h1.below h) rfl (Nat.le_trans hB h.size))
  have E2 := Lib.hid (fun (W : World) (h : Below hi w W) => sEvs_any a2 R.length c2 R hi W (h2.below h) rfl (Nat.le_trans hB h.size))
  have hJ : joinOkJ L R mk = (evsJ L && (evsJ R && inB mk (-1) 1000000)) := rfl
  rw [hJ]
  clear hJ h1 h2
  generalize evsJ L = b1 at E1 ⊢
  generalize evsJ R = b2 at E2 ⊢
  cases b1 with
  | false =>
    go_enter Try.func44, Try.ntmps44
    go_wp2_with fail
    refine (E1.out _ (B0.out.mono hB)).mono ?_
    rintro e w2 ⟨rfl, hb⟩
    have B2 := Lib.hid (B0.out.trans (hb.mono (by simp)))
    clear hb
    go_wp2
    go_ret
    exact ⟨rfl, B2.out⟩
  | true =>
    cases b2 with
    | false =>
      go_enter Try.func44, Try.ntmps44
      go_wp2_with fail
      refine (E1.out _ (B0.out.mono hB)).mono ?_
      rintro e w2 ⟨rfl, hb⟩
      have B2 := Lib.hid (B0.out.trans (hb.mono (by simp)))
      have K2 := K0.out.below hb
      have q1 := K2.cell 1
      simp only [List.getElem?_toArray, List.getElem?_cons_zero, List.getElem?_cons_succ] at q1
      clear hb K2
      go_wp2_with fail
      refine (E2.out _ (B2.out.mono hB)).mono ?_
      rintro e w3 ⟨rfl, hb⟩
      have B3 := Lib.hid (B2.out.trans (hb.mono B2.out.size))
      clear hb q1
      go_wp2
      go_ret
      exact ⟨rfl, B3.out⟩
    | true =>
      have CM := Lib.hid (fun W => sMarkJ_any mk W)
      generalize inB mk (-1) 1000000 = b3 at CM ⊢
      go_enter Try.func44, Try.ntmps44
      go_wp2_with fail
      refine (E1.out _ (B0.out.mono hB)).mono ?_
      rintro e w2 ⟨rfl, hb⟩
      have B2 := Lib.hid (B0.out.trans (hb.mono (by simp)))
      have K2 := Lib.hid (K0.out.below hb)
      have q1 := K2.out.cell 1
      simp only [List.getElem?_toArray, List.getElem?_cons_zero, List.getElem?_cons_succ] at q1
      clear hb
      go_wp2_with fail
      refine (E2.out _ (B2.out.mono hB)).mono ?_
      rintro e w3 ⟨rfl, hb⟩
      have B3 := Lib.hid (B2.out.trans (hb.mono B2.out.size))
      have K3 := K2.out.below hb
      have q2 := K3.cell 2
      simp only [List.getElem?_toArray, List.getElem?_cons_zero, List.getElem?_cons_succ] at q2
      clear hb q1 K3
      go_wp2_with fail
      refine (CM.out _).mono ?_
      rintro e w' ⟨rfl, rfl⟩
      go_wp2
      go_ret
      exact ⟨rfl, B3.out⟩
set_option maxHeartbeats 2000000 in
set_option maxRecDepth 100000 in
theorem sHeldIn_any (a1 a2 : Option Addr) (c1 c2 : Nat) (L R : List Fm) (mk : Int) (hi : Nat) (w : World) (h1 : Fms w hi a1 c1 L) (h2 : Fms w hi a2 c2 R) (hB : hi ≤ w.heap.size) :
    Calls Try.prog 20 #[.agg #[.slice a1 L.length c1, .slice a2 R.length c2, .int .i64 mk]] w fun e w' => e = .returned (.int .i64 (heldJ L R mk)) ∧ Below w.heap.size w w' := by
  have K0 := Lib.hid (Blk.new w 29 #[.slice a1 L.length c1, .slice a2 R.length c2, .int .i64 mk])
  have B0 := Lib.hid ((Below.refl w.heap.size w).alloc (Nat.le_refl _) (.cells #[.slice a1 L.length c1, .slice a2 R.length c2, .int .i64 mk] 29))
  have OKC := Lib.hid (fun (W : World) (h : Below hi w W) => sJoinOk_any a1 a2 c1 c2 L R mk hi W (h1.below h) (h2.below h) (Nat.le_trans hB h.size))
  have m1 := h1.cap
  have m2 := h1.big
  have m3 := h2.cap
  have m4 := h2.big
  cases hj : joinOkJ L R mk with
  | false =>
    have HX : Hid (heldJ L R mk = -1) := Lib.hid (by simp [heldJ, hj])
    rw [hj] at OKC
    clear h1 h2 hj
    go_enter Try.func20, Try.ntmps20
    go_wp2_with fail
    refine (OKC.out _ (B0.out.mono hB)).mono ?_
    rintro e w2 ⟨rfl, hb⟩
    have B2 := Lib.hid (B0.out.trans (hb.mono (by simp)))
    clear hb
    go_wp2
    go_ret
    exact ⟨by rw [HX.out]; rfl, B2.out⟩
  | true =>
    have HX : Hid (heldJ L R mk = (L.length : Int) + (R.length : Int)) := Lib.hid (by simp [heldJ, hj])
    have hl : L.length ≤ 40 ∧ R.length ≤ 40 := by
      unfold joinOkJ at hj
      simp only [Bool.and_eq_true] at hj
      exact ⟨(evsJ_bd hj.1).1, (evsJ_bd hj.2.1).1⟩
    rw [hj] at OKC
    clear h1 h2 hj
    go_enter Try.func20, Try.ntmps20
    go_wp2_with fail
    refine (OKC.out _ (B0.out.mono hB)).mono ?_
    rintro e w2 ⟨rfl, hb⟩
    have B2 := Lib.hid (B0.out.trans (hb.mono (by simp)))
    have K2 := K0.out.below hb
    have q0 := K2.cell 0
    have q1 := K2.cell 1
    simp only [List.getElem?_toArray, List.getElem?_cons_zero, List.getElem?_cons_succ] at q0 q1
    clear hb K2
    go_wp2
    go_ret
    exact ⟨by rw [HX.out]; rfl, B2.out⟩
end Go.Proofs.Ytneolndbhklboaa
