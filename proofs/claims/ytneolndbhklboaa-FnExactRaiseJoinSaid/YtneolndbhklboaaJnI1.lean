/- Chapter 12, impl's side: isEvent, side.ok, areSides, JoinOk, HeldIn, NewJoin. (made by tools/mkjni1.py) -/
import Derived.Test.YtneolndbhklboaaJn1
import Derived.Test.YtneolndbhklboaaFrameOk
import Derived.Test.YtneolndbhklboaaJoinS
import Derived.Deep.RegionWith
import Derived.Shelf.Abstract
namespace Go.Proofs.Ytneolndbhklboaa
open Go.RowKit
theorem jTime_any (x : Int) (w : World) : Calls Try.prog 67 #[.int .i64 x] w fun e w' => e = .returned (.bool (inB x 0 1000000)) ∧ w = w' := by
  go_enter Try.func67, Try.ntmps67
  go_wp2_with (go_at_call 95; refine (isWithin_any _ _ _ _).mono ?_; rintro e w' ⟨rfl, rfl⟩)
  go_ret
  exact ⟨rfl, rfl⟩
theorem jMark_any (x : Int) (w : World) : Calls Try.prog 79 #[.int .i64 x] w fun e w' => e = .returned (.bool (inB x (-1) 1000000)) ∧ w = w' := by
  go_enter Try.func79, Try.ntmps79
  go_wp2_with (go_at_call 95; refine (isWithin_any _ _ _ _).mono ?_; rintro e w' ⟨rfl, rfl⟩)
  go_ret
  exact ⟨rfl, rfl⟩
theorem iEv_x (k y t v : Int) (w : World) : Calls Try.prog 84 #[(.agg #[.int .i64 k, .int .i64 y, .int .i64 t, .int .i64 v])] w fun e w' => e = .returned (.bool (evJ ⟨k, y, t, v⟩)) ∧ Below w.heap.size w w' := by
  have B0 := Lib.hid ((Below.refl w.heap.size w).alloc (Nat.le_refl _) (.cells #[.int .i64 k, .int .i64 y, .int .i64 t, .int .i64 v] 38))
  by_cases h : k = 1
  · have CF := Lib.hid (fun W => implFrameOk_any k y t v W)
    rw [show evJ ⟨k, y, t, v⟩ = fOk k y t v by simp [evJ, h]]
    generalize fOk k y t v = F at CF ⊢
    subst h
    go_enter Try.func84, Try.ntmps84
    go_wp2_with fail
    refine (CF.out _).mono ?_
    rintro e w1 ⟨rfl, hb⟩
    have B1 := Lib.hid (B0.out.trans (hb.mono (by simp)))
    clear hb
    go_wp2
    go_ret
    exact ⟨rfl, B1.out⟩
  · rw [show evJ ⟨k, y, t, v⟩ = false by simp [evJ, h]]
    go_enter Try.func84, Try.ntmps84
    go_wp2
    go_ret
    exact ⟨by simp [go_sem], B0.out⟩
set_option maxHeartbeats 2000000 in
set_option maxRecDepth 100000 in
theorem sideOk_any (a : Option Addr) (n c : Nat) (L : List Fm) (hi : Nat) (w : World) (hr : Fms w hi a c L) (hn : n = L.length) (hB : hi ≤ w.heap.size) :
    Calls Try.prog 94 #[.slice a n c, .func (.func 84) #[] #[]] w fun e w' => e = .returned (.bool (evsJ L)) ∧ Below w.heap.size w w' := by
  subst hn
  have m1 := hr.cap
  have m2 := hr.big
  have HR := Lib.hid hr
  have eg : ∀ args w, (callFunc 84 args).run Try.prog w = .ok (.enter 84 args) w := enters_of Try.func84 (by kernel_rfl) rfl
  clear hr
  by_cases h1 : L.length ≤ 40
  · have hd : ¬ (40 : Int) < (L.length : Int) := by omega
    have HNO := Lib.hid (fun (k : Nat) hk h => evsJ_no2 (L := L) (k := k) hk h)
    have HYES := Lib.hid (fun h => evsJ_yes (L := L) h1 h)
    generalize evsJ L = R at HNO HYES ⊢
    go_enter Try.func94, Try.ntmps94
    go_wp2
    clear hd
    go_loopw [12] (fun i wr => ∃ k : Nat, k ≤ L.length ∧ i = .int .i64 (k : Int) ∧ evsUp L k ∧ Below w.heap.size w wr) (fun i _ => L.length - (intOf i).toNat)
    case atStart => exact ⟨0, Nat.zero_le _, rfl, fun i hi => by omega, Below.refl _ _⟩
    case round =>
      obtain ⟨k, hk, rfl, hup, hb⟩ := hrel
      have HB := Lib.hid hb
      have HUP := Lib.hid hup
      have hsw := hb.size
      clear hb hup
      by_cases hlt : k < L.length
      · obtain ⟨b1, off, rfl, hbh, hcell⟩ := Fms.six (HR.out.below (HB.out.mono hB)) (by omega)
        have hlt' : (k : Int) < (L.length : Int) := by omega
        have hnn : 0 ≤ (k : Int) := by omega
        obtain ⟨p0, p1, p2, p3⟩ := hcell k hlt
        have E1 := Lib.hid (HNO.out k hlt)
        have E2 : Hid (evJ (qel L k) = true → evsUp L (k + 1)) := Lib.hid (fun h i hi => by
          rcases Nat.lt_or_ge i k with h' | h'
          · exact HUP.out i h'
          · obtain rfl : i = k := by omega
            exact h)
        clear hcell HNO HYES
        generalize qel L k = X at p0 p1 p2 p3 E1 E2
        obtain ⟨e0, e1, e2, e3⟩ := X
        simp only at p0 p1 p2 p3
        have HB := Lib.hid (HB.out.alloc hsw (.cells #[.int .i64 e0, .int .i64 e1, .int .i64 e2, .int .i64 e3] 38))
        have CE := Lib.hid (fun W => iEv_x e0 e1 e2 e3 W)
        cases he : evJ ⟨e0, e1, e2, e3⟩ with
        | false =>
          have HX := Lib.hid (E1.out he)
          rw [he] at CE
          clear E1 E2 he
          go_wp2_with fail
          refine (CE.out _).mono ?_
          rintro e w2 ⟨rfl, hb⟩
          have B2 := Lib.hid (HB.out.trans (hb.mono HB.out.size))
          clear hb
          go_wp2
          go_ret
          exact ⟨by rw [HX.out]; rfl, B2.out⟩
        | true =>
          have HX := Lib.hid (E2.out he)
          rw [he] at CE
          clear E1 E2 he
          go_wp2_with fail
          refine (CE.out _).mono ?_
          rintro e w2 ⟨rfl, hb⟩
          have B2 := Lib.hid (HB.out.trans (hb.mono HB.out.size))
          clear hb p0 p1 p2 p3
          go_wp2
          go_roundw
          case rel => exact ⟨k + 1, by omega, by go_num, HX.out, B2.out⟩
          case measure => simp [intOf]; omega
      · obtain rfl : k = L.length := by omega
        have HX := Lib.hid (HYES.out HUP.out)
        clear HNO HYES
        go_wp2
        go_ret
        exact ⟨by rw [HX.out]; rfl, HB.out⟩
  · rw [evsJ_no1 h1]
    have hd : (40 : Int) < (L.length : Int) := by omega
    go_enter Try.func94, Try.ntmps94
    go_wp2
    go_ret
    exact ⟨rfl, Below.refl _ _⟩
set_option maxHeartbeats 1000000 in
theorem areSides_any (a b : Option Addr) (n m c d : Nat) (L R : List Fm) (hi : Nat) (w : World) (h1 : Fms w hi a c L) (h2 : Fms w hi b d R) (hn : n = L.length) (hm : m = R.length) (hB : hi ≤ w.heap.size) :
    Calls Try.prog 66 #[.slice a n c, .slice b m d] w fun e w' => e = .returned (.bool (evsJ L && evsJ R)) ∧ Below w.heap.size w w' := by
  have S1 := Lib.hid (sideOk_any a n c L hi w h1 hn hB)
  have S2 := Lib.hid (fun W (hb : Below w.heap.size w W) => sideOk_any b m d R hi W (h2.below (hb.mono hB)) hm (Nat.le_trans hB hb.size))
  cases hL : evsJ L with
  | false =>
    rw [hL] at S1
    clear h1 h2 hL hn hm
    go_enter Try.func66, Try.ntmps66
    go_wp2_with fail
    refine S1.out.mono ?_
    rintro e w1 ⟨rfl, hb⟩
    have B1 := Lib.hid hb
    clear hb
    go_wp2
    go_ret
    exact ⟨by simp [go_sem], B1.out⟩
  | true =>
    rw [hL] at S1
    cases hR : evsJ R with
    | false =>
      rw [hR] at S2
      clear h1 h2 hL hR hn hm
      go_enter Try.func66, Try.ntmps66
      go_wp2_with fail
      refine S1.out.mono ?_
      rintro e w1 ⟨rfl, hb⟩
      have B1 := Lib.hid hb
      clear hb
      go_wp2_with fail
      refine (S2.out _ B1.out).mono ?_
      rintro e w2 ⟨rfl, hb⟩
      have B2 := Lib.hid (B1.out.trans (hb.mono B1.out.size))
      clear hb
      go_wp2
      go_ret
      exact ⟨by simp [go_sem], B2.out⟩
    | true =>
      rw [hR] at S2
      clear h1 h2 hL hR hn hm
      go_enter Try.func66, Try.ntmps66
      go_wp2_with fail
      refine S1.out.mono ?_
      rintro e w1 ⟨rfl, hb⟩
      have B1 := Lib.hid hb
      clear hb
      go_wp2_with fail
      refine (S2.out _ B1.out).mono ?_
      rintro e w2 ⟨rfl, hb⟩
      have B2 := Lib.hid (B1.out.trans (hb.mono B1.out.size))
      clear hb
      go_wp2
      go_ret
      exact ⟨by simp [go_sem], B2.out⟩
set_option maxHeartbeats 1000000 in
theorem iJoinOk_any (a1 a2 : Option Addr) (c1 c2 : Nat) (L R : List Fm) (mk : Int) (hi : Nat) (w : World) (h1 : Fms w hi a1 c1 L) (h2 : Fms w hi a2 c2 R) (hB : hi ≤ w.heap.size) :
    Calls Try.prog 46 #[.agg #[.slice a1 L.length c1, .slice a2 R.length c2, .int .i64 mk]] w fun e w' => e = .returned (.bool (joinOkJ L R mk)) ∧ Below w.heap.size w w' := by
  have b1 := Lib.hid ((Below.refl w.heap.size w).alloc (Nat.le_refl _) (.cells #[.slice a1 L.length c1, .slice a2 R.length c2, .int .i64 mk] 29))
  have K0 := Lib.hid (Blk.new w 29 #[.slice a1 L.length c1, .slice a2 R.length c2, .int .i64 mk])
  have AS := Lib.hid (fun W (hb : Below w.heap.size w W) => areSides_any a1 a2 L.length R.length c1 c2 L R hi W (h1.below (hb.mono hB)) (h2.below (hb.mono hB)) rfl rfl (Nat.le_trans hB hb.size))
  have HM := Lib.hid (fun W => jMark_any mk W)
  have hJ : joinOkJ L R mk = ((evsJ L && evsJ R) && inB mk (-1) 1000000) := by unfold joinOkJ; rw [Bool.and_assoc]
  rw [hJ]
  clear h1 h2 hJ
  cases hs : (evsJ L && evsJ R) with
  | false =>
    rw [hs] at AS
    clear hs
    go_enter Try.func46, Try.ntmps46
    go_wp2_with fail
    refine (AS.out _ b1.out).mono ?_
    rintro e w1 ⟨rfl, hb⟩
    have B1 := Lib.hid (b1.out.trans (hb.mono (by simp)))
    clear hb
    go_wp2
    go_ret
    exact ⟨by simp [go_sem], B1.out⟩
  | true =>
    rw [hs] at AS
    clear hs
    generalize inB mk (-1) 1000000 = ok at HM ⊢
    go_enter Try.func46, Try.ntmps46
    go_wp2_with fail
    refine (AS.out _ b1.out).mono ?_
    rintro e w1 ⟨rfl, hb⟩
    have B1 := Lib.hid (b1.out.trans (hb.mono (by simp)))
    have q0 := (K0.out.below hb).cell
    clear hb
    go_wp2_with (go_at_call 79; refine (HM.out _).mono ?_; rintro e w' ⟨rfl, rfl⟩)
    go_ret
    exact ⟨by simp [go_sem], B1.out⟩
set_option maxHeartbeats 1000000 in
theorem iHeldIn_any (a1 a2 : Option Addr) (c1 c2 : Nat) (L R : List Fm) (mk : Int) (hi : Nat) (w : World) (h1 : Fms w hi a1 c1 L) (h2 : Fms w hi a2 c2 R) (hB : hi ≤ w.heap.size) :
    Calls Try.prog 19 #[.agg #[.slice a1 L.length c1, .slice a2 R.length c2, .int .i64 mk]] w fun e w' => e = .returned (.int .i64 (heldJ L R mk)) ∧ Below w.heap.size w w' := by
  have b1 := Lib.hid ((Below.refl w.heap.size w).alloc (Nat.le_refl _) (.cells #[.slice a1 L.length c1, .slice a2 R.length c2, .int .i64 mk] 29))
  have K0 := Lib.hid (Blk.new w 29 #[.slice a1 L.length c1, .slice a2 R.length c2, .int .i64 mk])
  have JO := Lib.hid (fun W (hb : Below w.heap.size w W) => iJoinOk_any a1 a2 c1 c2 L R mk hi W (h1.below (hb.mono hB)) (h2.below (hb.mono hB)) (Nat.le_trans hB hb.size))
  have hL := h1.cap
  have hL2 := h1.big
  have hR := h2.cap
  have hR2 := h2.big
  unfold heldJ
  clear h1 h2
  cases hs : joinOkJ L R mk with
  | false =>
    rw [hs] at JO
    clear hs
    go_enter Try.func19, Try.ntmps19
    go_wp2_with fail
    refine (JO.out _ b1.out).mono ?_
    rintro e w1 ⟨rfl, hb⟩
    have B1 := Lib.hid (b1.out.trans (hb.mono (by simp)))
    clear hb
    go_wp2
    go_ret
    exact ⟨by simp [go_sem], B1.out⟩
  | true =>
    rw [hs] at JO
    have hs2 : evsJ L = true ∧ evsJ R = true := by
      unfold joinOkJ at hs
      simp only [Bool.and_eq_true] at hs
      exact ⟨hs.1, hs.2.1⟩
    have g1 := (evsJ_bd hs2.1).1
    have g2 := (evsJ_bd hs2.2).1
    rw [if_pos rfl]
    clear hs hs2
    go_enter Try.func19, Try.ntmps19
    go_wp2_with fail
    refine (JO.out _ b1.out).mono ?_
    rintro e w1 ⟨rfl, hb⟩
    have B1 := Lib.hid (b1.out.trans (hb.mono (by simp)))
    have q0 := (K0.out.below hb).cell
    clear hb
    go_wp2
    go_ret
    exact ⟨rfl, B1.out⟩
theorem iNewJoin_any (w : World) : Calls Try.prog 49 #[] w (FreshJn [] [] (-1) w) := by
  have K0 := Lib.hid (Blk.new w 29 #[.slice none 0 0, .slice none 0 0, .int .i64 0])
  have B0 := Lib.hid ((Below.refl w.heap.size w).alloc (Nat.le_refl _) (.cells #[.slice none 0 0, .slice none 0 0, .int .i64 0] 29))
  have q0 := K0.out.cell
  have f0 := K0.out.frozen
  have HP : Hid (FreshJn [] [] (-1) w (.returned (.agg #[.slice none 0 0, .slice none 0 0, .int .i64 (-1)])) (w.alloc (.cells #[.slice none 0 0, .slice none 0 0, .int .i64 (-1)] 29))) := by
    refine Lib.hid ⟨none, 0, none, 0, rfl, ⟨fun r hr => ?_, List.pairwise_pair.2 (Apart.nil1 _)⟩, (Below.refl w.heap.size w).alloc (Nat.le_refl _) _⟩
    simp only [List.mem_cons, List.not_mem_nil, or_false, or_self] at hr
    subst hr
    exact ⟨World.ownsRow_nil _ _ _ _, fun k hk => by simp [Value.ownBlock] at hk⟩
  go_enter Try.func49, Try.ntmps49
  go_wp2
  exact bodyPost_ret (v := .agg #[.slice none 0 0, .slice none 0 0, .int .i64 (-1)]) (by simp [results, Try.results49, go_sem]) rfl HP.out
theorem sNewJoin_any (w : World) : Calls Try.prog 48 #[] w (FreshJn [] [] (-1) w) := by
  have K0 := Lib.hid (Blk.new w 29 #[.slice none 0 0, .slice none 0 0, .int .i64 0])
  have B0 := Lib.hid ((Below.refl w.heap.size w).alloc (Nat.le_refl _) (.cells #[.slice none 0 0, .slice none 0 0, .int .i64 0] 29))
  have q0 := K0.out.cell
  have f0 := K0.out.frozen
  have HP : Hid (FreshJn [] [] (-1) w (.returned (.agg #[.slice none 0 0, .slice none 0 0, .int .i64 (-1)])) (w.alloc (.cells #[.slice none 0 0, .slice none 0 0, .int .i64 (-1)] 29))) := by
    refine Lib.hid ⟨none, 0, none, 0, rfl, ⟨fun r hr => ?_, List.pairwise_pair.2 (Apart.nil1 _)⟩, (Below.refl w.heap.size w).alloc (Nat.le_refl _) _⟩
    simp only [List.mem_cons, List.not_mem_nil, or_false, or_self] at hr
    subst hr
    exact ⟨World.ownsRow_nil _ _ _ _, fun k hk => by simp [Value.ownBlock] at hk⟩
  go_enter Try.func48, Try.ntmps48
  go_wp2
  exact bodyPost_ret (v := .agg #[.slice none 0 0, .slice none 0 0, .int .i64 (-1)]) (by simp [results, Try.results48, go_sem]) rfl HP.out
end Go.Proofs.Ytneolndbhklboaa
