/- Contracts of SameAggs: impl and spec. (made by tools/mksame.py) -/
import Derived.Test.YtchbmnpajnlijaaAggS
import Derived.Laws.StructEq
import Derived.StillTailTactics
import Derived.Deep.QuietTactic
import Derived.BigQuiet
import Derived.IntWalk
namespace Go.Proofs.Ytchbmnpajnlijaa
open Go.RowKit
/-- The same in each field. -/
def eqG (S T : Ag) : Bool := S.win == T.win && S.key == T.key && S.cnt == T.cnt && S.sum == T.sum && S.mn == T.mn && S.mx == T.mx
open Classical in
/-- SameAggs. -/
noncomputable def sameL (l m : List Ag) : Bool := decide (l.length = m.length ∧ ∀ i, i < l.length → eqG (ael l i) (ael m i) = true)
theorem sameL_len {l m : List Ag} (h : ¬ l.length = m.length) : sameL l m = false := by unfold sameL; rw [decide_eq_false_iff_not]; exact fun h2 => h h2.1
theorem sameL_at {l m : List Ag} {i : Nat} (hi : i < l.length) (h : eqG (ael l i) (ael m i) = false) : sameL l m = false := by
  unfold sameL; rw [decide_eq_false_iff_not]; intro h2; rw [h2.2 i hi] at h; cases h
theorem sameL_all {l m : List Ag} (h : l.length = m.length) (k : ∀ i, i < l.length → eqG (ael l i) (ael m i) = true) : sameL l m = true := by unfold sameL; rw [decide_eq_true_eq]; exact ⟨h, k⟩
theorem ifs6 {α : Type} {u0 u1 u2 u3 u4 u5 v0 v1 v2 v3 v4 v5 : Int} {x y : α} : (if u0 = v0 then if u1 = v1 then if u2 = v2 then if u3 = v3 then if u4 = v4 then if u5 = v5 then x else y else y else y else y else y else y) = if eqG ⟨u0, u1, u2, u3, u4, u5⟩ ⟨v0, v1, v2, v3, v4, v5⟩ = true then x else y := by
  unfold eqG
  repeat' split
  all_goals simp_all
theorem ifs6_no {α : Type} {u0 u1 u2 u3 u4 u5 v0 v1 v2 v3 v4 v5 : Int} {x y : α} (h : eqG ⟨u0, u1, u2, u3, u4, u5⟩ ⟨v0, v1, v2, v3, v4, v5⟩ = false) : (if u0 = v0 then if u1 = v1 then if u2 = v2 then if u3 = v3 then if u4 = v4 then if u5 = v5 then x else y else y else y else y else y else y) = y := by rw [ifs6, if_neg (by rw [h]; simp)]
theorem ifs6_yes {α : Type} {u0 u1 u2 u3 u4 u5 v0 v1 v2 v3 v4 v5 : Int} {x y : α} (h : eqG ⟨u0, u1, u2, u3, u4, u5⟩ ⟨v0, v1, v2, v3, v4, v5⟩ = true) : (if u0 = v0 then if u1 = v1 then if u2 = v2 then if u3 = v3 then if u4 = v4 then if u5 = v5 then x else y else y else y else y else y else y) = x := by rw [ifs6, if_pos h]
set_option maxHeartbeats 4000000 in
set_option maxRecDepth 100000 in
theorem implSame_any (a b : Option Addr) (n m ca cb : Nat) (l k : List Ag) (ha hb : Nat) (w : World) (h1 : Ags w ha a ca l) (h2 : Ags w hb b cb k) (hn : n = l.length) (hm : m = k.length) (hB1 : ha ≤ w.heap.size) (hB2 : hb ≤ w.heap.size) :
    Calls Try.prog 55 #[.slice a n ca, .slice b m cb] w fun e w' => e = .returned (.bool (sameL l k)) ∧ Below w.heap.size w w' := by
  have hc1 := h1.cap
  have hc2 := h1.big
  have hc3 := h2.cap
  have hc4 := h2.big
  subst hn
  subst hm
  have H1 := Lib.hid h1
  have H2 := Lib.hid h2
  clear h1 h2
  have hgd : Try.prog.eqGuardType Try.prog.depth 86 = false := by kernel_rfl
  by_cases hlen : l.length = k.length
  · have hne : ((l.length : Int) != (k.length : Int)) = false := by simp [hlen]
    have HL := Lib.hid hlen
    have hkl : k.length ≤ l.length := by omega
    clear hlen
    go_enter Try.func55, Try.ntmps55
    go_wp2
    go_loopw [13] (fun i wr => ∃ j : Nat, j ≤ l.length ∧ i = .int .i64 (j : Int) ∧ (∀ t, t < j → eqG (ael l t) (ael k t) = true) ∧ Below w.heap.size w wr) (fun i _ => l.length - (intOf i).toNat)
    case atStart => exact ⟨0, Nat.zero_le _, rfl, fun t ht => absurd ht (by omega), Below.refl _ _⟩
    case round =>
      obtain ⟨j, hj, rfl, hall, hbw⟩ := hrel
      have HALL := Lib.hid hall
      have HB := Lib.hid hbw
      have hsz := hbw.size
      have HLL := HL.out
      by_cases hlt : j < l.length
      · have hlt' : (j : Int) < (l.length : Int) := by omega
        have hlt2 : (j : Int) < (k.length : Int) := by omega
        have hj0 : (0 : Int) ≤ (j : Int) := by omega
        obtain ⟨b1, off1, rfl, hbl1, hcell1⟩ := Ags.six (H1.out.below (hbw.mono hB1)) (by omega)
        obtain ⟨b2, off2, rfl, hbl2, hcell2⟩ := Ags.six (H2.out.below (hbw.mono hB2)) (by omega)
        have CE : Hid (∀ W, Below wr.heap.size wr W → (W.cell? ⟨b1, off1 + j * 6, none⟩ = some (.int .i64 (ael l j).win) ∧ W.cell? ⟨b1, off1 + j * 6 + 1, none⟩ = some (.int .i64 (ael l j).key) ∧ W.cell? ⟨b1, off1 + j * 6 + 2, none⟩ = some (.int .i64 (ael l j).cnt) ∧ W.cell? ⟨b1, off1 + j * 6 + 3, none⟩ = some (.int .i64 (ael l j).sum) ∧ W.cell? ⟨b1, off1 + j * 6 + 4, none⟩ = some (.int .i64 (ael l j).mn) ∧ W.cell? ⟨b1, off1 + j * 6 + 5, none⟩ = some (.int .i64 (ael l j).mx)) ∧ (W.cell? ⟨b2, off2 + j * 6, none⟩ = some (.int .i64 (ael k j).win) ∧ W.cell? ⟨b2, off2 + j * 6 + 1, none⟩ = some (.int .i64 (ael k j).key) ∧ W.cell? ⟨b2, off2 + j * 6 + 2, none⟩ = some (.int .i64 (ael k j).cnt) ∧ W.cell? ⟨b2, off2 + j * 6 + 3, none⟩ = some (.int .i64 (ael k j).sum) ∧ W.cell? ⟨b2, off2 + j * 6 + 4, none⟩ = some (.int .i64 (ael k j).mn) ∧ W.cell? ⟨b2, off2 + j * 6 + 5, none⟩ = some (.int .i64 (ael k j).mx))) := Lib.hid (fun W hW => by
          have g1 : ∀ q, W.cell? ⟨b1, q, none⟩ = wr.cell? ⟨b1, q, none⟩ := fun q => hW.cell (p := ⟨b1, q, none⟩) (show b1 < wr.heap.size by omega)
          have g2 : ∀ q, W.cell? ⟨b2, q, none⟩ = wr.cell? ⟨b2, q, none⟩ := fun q => hW.cell (p := ⟨b2, q, none⟩) (show b2 < wr.heap.size by omega)
          simp only [g1, g2]
          exact ⟨hcell1 j hlt, hcell2 j (by omega)⟩)
        have hw1 : IntKind.i64.wrap ((j : Int) + 1) = ((j + 1 : Nat) : Int) := by rw [show (j : Int) + 1 = ((j + 1 : Nat) : Int) by omega]; exact IntWalk.i64_in _ (by omega)
        have E : Hid (eqG (ael l j) (ael k j) = true → ∀ t, t < j + 1 → eqG (ael l t) (ael k t) = true) := Lib.hid (fun h t ht => by
          by_cases h9 : t = j
          · rw [h9]; exact h
          · exact HALL.out t (by omega))
        have E2 : Hid (eqG (ael l j) (ael k j) = false → sameL l k = false) := Lib.hid (fun h => sameL_at hlt h)
        clear hcell1 hcell2 hbw hall HLL
        cases hq : eqG (ael l j) (ael k j) with
        | true =>
          have N := Lib.hid (E.out hq)
          clear E E2
          generalize ael l j = X9 at CE hq
          generalize ael k j = Y9 at CE hq
          obtain ⟨u0, u1, u2, u3, u4, u5⟩ := X9
          obtain ⟨v0, v1, v2, v3, v4, v5⟩ := Y9
          simp only at CE
          obtain ⟨⟨p0, p1, p2, p3, p4, p5⟩, ⟨r0, r1, r2, r3, r4, r5⟩⟩ := CE.out wr (Below.refl _ _)
          have hnq : (!eqG ⟨u0, u1, u2, u3, u4, u5⟩ ⟨v0, v1, v2, v3, v4, v5⟩) = false := by rw [hq]; rfl
          go_wp2_with fail
          refine wp_region_any (by kernel_rfl) ?_
          change wpAny _ _ _ _ _ _ _ (World.drew _)
          refine wpAny_take (oi := ⟨some 16, _, _, _, _, _⟩) (i := 0) (v := (.slice (some ⟨b1, off1, none⟩) l.length ca)) rfl (by kernel_rfl) (by kernel_rfl) (by kernel_rfl) (fun _ _ _ h => h) (Or.inl ⟨by kernel_rfl, fun w => by go_simp⟩) ?_
          go_simp
          refine wpAny_take (oi := ⟨some 17, _, _, _, _, _⟩) (i := 1) (v := .int .i64 (j : Int)) rfl (by kernel_rfl) (by kernel_rfl) (by kernel_rfl) (fun _ _ _ h => h) (Or.inl ⟨by kernel_rfl, fun w => by go_simp⟩) ?_
          go_simp
          refine wpAny_take (oi := ⟨some 18, _, _, _, _, _⟩) (i := 2) (v := .pointer (some ⟨b1, off1 + j * 6, none⟩)) rfl (by kernel_rfl) (by kernel_rfl) (by kernel_rfl) (fun _ _ _ h => h) (Or.inl ⟨by kernel_rfl, fun w => by go_simp⟩) ?_
          go_simp
          refine wpAny_take (oi := ⟨some 20, _, _, _, _, _⟩) (i := 4) (v := (.slice (some ⟨b2, off2, none⟩) k.length cb)) rfl (by kernel_rfl) (by kernel_rfl) (by kernel_rfl) (fun _ _ _ h => h) (Or.inl ⟨by kernel_rfl, fun w => by go_simp⟩) ?_
          go_simp
          refine wpAny_take (oi := ⟨some 21, _, _, _, _, _⟩) (i := 5) (v := .int .i64 (j : Int)) rfl (by kernel_rfl) (by kernel_rfl) (by kernel_rfl) (fun _ _ _ h => h) (Or.inl ⟨by kernel_rfl, fun w => by go_simp⟩) ?_
          go_simp
          refine wpAny_take (oi := ⟨some 22, _, _, _, _, _⟩) (i := 6) (v := .pointer (some ⟨b2, off2 + j * 6, none⟩)) rfl (by kernel_rfl) (by kernel_rfl) (by kernel_rfl) (fun _ _ _ h => h) (Or.inl ⟨by kernel_rfl, fun w => by go_simp⟩) ?_
          go_simp
          refine wpAny_ready (rs := [3, 7]) (by kernel_rfl) (by simp) ?_
          refine AllReady.cons rfl (fun K hK => ?_) (AllReady.cons rfl (fun K hK => ?_) AllReady.nil)
          · go_simp
            refine hK _ _ ?_
            clear hK K
            refine wpAny_ready (rs := [7]) (by kernel_rfl) (by simp) ?_
            refine AllReady.cons rfl (fun K hK => ?_) AllReady.nil
            go_simp
            refine hK _ _ ?_
            clear hK K
            refine wpAny_ready (rs := [8]) (by kernel_rfl) (by simp) ?_
            refine AllReady.cons rfl (fun K hK => ?_) AllReady.nil
            go_simp
            rw [ifs6_yes hq]
            refine hK _ _ ?_
            clear hK K
            refine wpAny_done (by kernel_rfl) ?_ _
            go_wp2
            go_roundw
            case rel => exact ⟨j + 1, by omega, by go_num, N.out, HB.out.drew⟩
            case measure => simp [intOf]; omega
          · go_simp
            refine hK _ _ ?_
            clear hK K
            refine wpAny_ready (rs := [3]) (by kernel_rfl) (by simp) ?_
            refine AllReady.cons rfl (fun K hK => ?_) AllReady.nil
            go_simp
            refine hK _ _ ?_
            clear hK K
            refine wpAny_ready (rs := [8]) (by kernel_rfl) (by simp) ?_
            refine AllReady.cons rfl (fun K hK => ?_) AllReady.nil
            go_simp
            rw [ifs6_yes hq]
            refine hK _ _ ?_
            clear hK K
            refine wpAny_done (by kernel_rfl) ?_ _
            go_wp2
            go_roundw
            case rel => exact ⟨j + 1, by omega, by go_num, N.out, HB.out.drew⟩
            case measure => simp [intOf]; omega
        | false =>
          have N := Lib.hid (E2.out hq)
          clear E E2
          generalize ael l j = X9 at CE hq
          generalize ael k j = Y9 at CE hq
          obtain ⟨u0, u1, u2, u3, u4, u5⟩ := X9
          obtain ⟨v0, v1, v2, v3, v4, v5⟩ := Y9
          simp only at CE
          obtain ⟨⟨p0, p1, p2, p3, p4, p5⟩, ⟨r0, r1, r2, r3, r4, r5⟩⟩ := CE.out wr (Below.refl _ _)
          have hnq : (!eqG ⟨u0, u1, u2, u3, u4, u5⟩ ⟨v0, v1, v2, v3, v4, v5⟩) = true := by rw [hq]; rfl
          go_wp2_with fail
          refine wp_region_any (by kernel_rfl) ?_
          change wpAny _ _ _ _ _ _ _ (World.drew _)
          refine wpAny_take (oi := ⟨some 16, _, _, _, _, _⟩) (i := 0) (v := (.slice (some ⟨b1, off1, none⟩) l.length ca)) rfl (by kernel_rfl) (by kernel_rfl) (by kernel_rfl) (fun _ _ _ h => h) (Or.inl ⟨by kernel_rfl, fun w => by go_simp⟩) ?_
          go_simp
          refine wpAny_take (oi := ⟨some 17, _, _, _, _, _⟩) (i := 1) (v := .int .i64 (j : Int)) rfl (by kernel_rfl) (by kernel_rfl) (by kernel_rfl) (fun _ _ _ h => h) (Or.inl ⟨by kernel_rfl, fun w => by go_simp⟩) ?_
          go_simp
          refine wpAny_take (oi := ⟨some 18, _, _, _, _, _⟩) (i := 2) (v := .pointer (some ⟨b1, off1 + j * 6, none⟩)) rfl (by kernel_rfl) (by kernel_rfl) (by kernel_rfl) (fun _ _ _ h => h) (Or.inl ⟨by kernel_rfl, fun w => by go_simp⟩) ?_
          go_simp
          refine wpAny_take (oi := ⟨some 20, _, _, _, _, _⟩) (i := 4) (v := (.slice (some ⟨b2, off2, none⟩) k.length cb)) rfl (by kernel_rfl) (by kernel_rfl) (by kernel_rfl) (fun _ _ _ h => h) (Or.inl ⟨by kernel_rfl, fun w => by go_simp⟩) ?_
          go_simp
          refine wpAny_take (oi := ⟨some 21, _, _, _, _, _⟩) (i := 5) (v := .int .i64 (j : Int)) rfl (by kernel_rfl) (by kernel_rfl) (by kernel_rfl) (fun _ _ _ h => h) (Or.inl ⟨by kernel_rfl, fun w => by go_simp⟩) ?_
          go_simp
          refine wpAny_take (oi := ⟨some 22, _, _, _, _, _⟩) (i := 6) (v := .pointer (some ⟨b2, off2 + j * 6, none⟩)) rfl (by kernel_rfl) (by kernel_rfl) (by kernel_rfl) (fun _ _ _ h => h) (Or.inl ⟨by kernel_rfl, fun w => by go_simp⟩) ?_
          go_simp
          refine wpAny_ready (rs := [3, 7]) (by kernel_rfl) (by simp) ?_
          refine AllReady.cons rfl (fun K hK => ?_) (AllReady.cons rfl (fun K hK => ?_) AllReady.nil)
          · go_simp
            refine hK _ _ ?_
            clear hK K
            refine wpAny_ready (rs := [7]) (by kernel_rfl) (by simp) ?_
            refine AllReady.cons rfl (fun K hK => ?_) AllReady.nil
            go_simp
            refine hK _ _ ?_
            clear hK K
            refine wpAny_ready (rs := [8]) (by kernel_rfl) (by simp) ?_
            refine AllReady.cons rfl (fun K hK => ?_) AllReady.nil
            go_simp
            rw [ifs6_no hq]
            refine hK _ _ ?_
            clear hK K
            refine wpAny_done (by kernel_rfl) ?_ _
            go_wp2
            go_ret
            exact ⟨by simp [go_sem, N.out], HB.out.drew⟩
          · go_simp
            refine hK _ _ ?_
            clear hK K
            refine wpAny_ready (rs := [3]) (by kernel_rfl) (by simp) ?_
            refine AllReady.cons rfl (fun K hK => ?_) AllReady.nil
            go_simp
            refine hK _ _ ?_
            clear hK K
            refine wpAny_ready (rs := [8]) (by kernel_rfl) (by simp) ?_
            refine AllReady.cons rfl (fun K hK => ?_) AllReady.nil
            go_simp
            rw [ifs6_no hq]
            refine hK _ _ ?_
            clear hK K
            refine wpAny_done (by kernel_rfl) ?_ _
            go_wp2
            go_ret
            exact ⟨by simp [go_sem, N.out], HB.out.drew⟩
      · have hlt' : ¬ (j : Int) < (l.length : Int) := by omega
        have FIN : Hid (sameL l k = true) := Lib.hid (sameL_all HL.out (fun t ht => hall t (by omega)))
        obtain rfl : j = l.length := by omega
        clear hbw hall HLL
        go_wp2
        go_ret
        exact ⟨by simp [go_sem, FIN.out], HB.out⟩
  · have hne : ((l.length : Int) != (k.length : Int)) = true := by simp; omega
    have FIN := Lib.hid (sameL_len hlen)
    clear hlen
    go_enter Try.func55, Try.ntmps55
    go_wp2
    go_ret
    exact ⟨by simp [go_sem, FIN.out], Below.refl _ _⟩
end Go.Proofs.Ytchbmnpajnlijaa
