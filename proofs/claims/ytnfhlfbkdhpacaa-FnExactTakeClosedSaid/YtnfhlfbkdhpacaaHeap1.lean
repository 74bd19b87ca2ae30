/- Contracts of a pile's methods Less and Swap. (made by tools/mkheap1.py) -/
import Derived.Test.YtnfhlfbkdhpacaaPut6
import Derived.Test.YtnfhlfbkdhpacaaPlainHeap
import Derived.Test.YtnfhlfbkdhpacaaWin3
import Derived.Deep.RegionHeld3
import Derived.StillTailTactics
namespace Go.Proofs.Ytnfhlfbkdhpacaa
open Go.RowKit
set_option maxHeartbeats 4000000 in
set_option maxRecDepth 100000 in
theorem less_x (a : Option Addr) (n c i j : Nat) (l : List Ag) (hi : Nat) (w : World) (hr : Ags w hi a c l) (hn : n = l.length) (hB : hi ≤ w.heap.size) (h1 : i < l.length) (h2 : j < l.length) :
    Calls Try.prog 74 #[.slice a n c, .int .i64 (i : Int), .int .i64 (j : Int)] w fun e w' => e = .returned (.bool (aheadA (ael l i) (ael l j))) ∧ Below w.heap.size w w' := by
  subst hn
  have hc1 := hr.cap
  have hc2 := hr.big
  have HR := Lib.hid hr
  clear hr
  obtain ⟨b, off, rfl, hbh, hcell⟩ := Ags.six HR.out (by omega)
  have hi0 : (0 : Int) ≤ (i : Int) := by omega
  have hi1 : (i : Int) < (l.length : Int) := by omega
  have hj0 : (0 : Int) ≤ (j : Int) := by omega
  have hj1 : (j : Int) < (l.length : Int) := by omega
  have CI := hcell i h1
  have CJ := hcell j h2
  have hs : aheadA (ael l i) (ael l j) = decide (cmpA (ael l i) (ael l j) < 0) := by
    rw [Bool.eq_iff_iff, decide_eq_true_eq]
    exact cmpA_neg.symm
  rw [hs]
  clear hs hcell
  generalize ael l i = X at CI ⊢
  generalize ael l j = Y at CJ ⊢
  obtain ⟨u0, u1, u2, u3, u4, u5⟩ := X
  obtain ⟨v0, v1, v2, v3, v4, v5⟩ := Y
  simp only at CI CJ
  have CM := Lib.hid (fun W => cmpA_x u0 u1 u2 u3 u4 u5 v0 v1 v2 v3 v4 v5 W)
  generalize cmpA ⟨u0, u1, u2, u3, u4, u5⟩ ⟨v0, v1, v2, v3, v4, v5⟩ = z at CM ⊢
  have Y0 : Hid (∀ W, Below w.heap.size w W → W.cell? ⟨b, off + i * 6, none⟩ = some (.int .i64 u0) ∧ W.cell? ⟨b, off + i * 6 + 1, none⟩ = some (.int .i64 u1) ∧ W.cell? ⟨b, off + i * 6 + 2, none⟩ = some (.int .i64 u2) ∧ W.cell? ⟨b, off + i * 6 + 3, none⟩ = some (.int .i64 u3) ∧ W.cell? ⟨b, off + i * 6 + 4, none⟩ = some (.int .i64 u4) ∧ W.cell? ⟨b, off + i * 6 + 5, none⟩ = some (.int .i64 u5) ∧ W.cell? ⟨b, off + j * 6, none⟩ = some (.int .i64 v0) ∧ W.cell? ⟨b, off + j * 6 + 1, none⟩ = some (.int .i64 v1) ∧ W.cell? ⟨b, off + j * 6 + 2, none⟩ = some (.int .i64 v2) ∧ W.cell? ⟨b, off + j * 6 + 3, none⟩ = some (.int .i64 v3) ∧ W.cell? ⟨b, off + j * 6 + 4, none⟩ = some (.int .i64 v4) ∧ W.cell? ⟨b, off + j * 6 + 5, none⟩ = some (.int .i64 v5)) := Lib.hid (fun W hW => by
    have g : ∀ q, W.cell? ⟨b, q, none⟩ = w.cell? ⟨b, q, none⟩ := fun q => hW.cell (p := ⟨b, q, none⟩) (show b < w.heap.size by omega)
    simp only [g]
    exact ⟨CI.1, CI.2.1, CI.2.2.1, CI.2.2.2.1, CI.2.2.2.2.1, CI.2.2.2.2.2, CJ.1, CJ.2.1, CJ.2.2.1, CJ.2.2.2.1, CJ.2.2.2.2.1, CJ.2.2.2.2.2⟩)
  have BB := Lib.hid (Below.refl w.heap.size w).drew
  clear CI CJ
  go_enter Try.func74, Try.ntmps74
  go_wp2_with fail
  go_region_held3 (fun W => W.cell? ⟨b, off + i * 6, none⟩ = some (.int .i64 u0) ∧ W.cell? ⟨b, off + i * 6 + 1, none⟩ = some (.int .i64 u1) ∧ W.cell? ⟨b, off + i * 6 + 2, none⟩ = some (.int .i64 u2) ∧ W.cell? ⟨b, off + i * 6 + 3, none⟩ = some (.int .i64 u3) ∧ W.cell? ⟨b, off + i * 6 + 4, none⟩ = some (.int .i64 u4) ∧ W.cell? ⟨b, off + i * 6 + 5, none⟩ = some (.int .i64 u5) ∧ W.cell? ⟨b, off + j * 6, none⟩ = some (.int .i64 v0) ∧ W.cell? ⟨b, off + j * 6 + 1, none⟩ = some (.int .i64 v1) ∧ W.cell? ⟨b, off + j * 6 + 2, none⟩ = some (.int .i64 v2) ∧ W.cell? ⟨b, off + j * 6 + 3, none⟩ = some (.int .i64 v3) ∧ W.cell? ⟨b, off + j * 6 + 4, none⟩ = some (.int .i64 v4) ∧ W.cell? ⟨b, off + j * 6 + 5, none⟩ = some (.int .i64 v5))
    (first | with_reducible exact Y0.out _ BB.out)
    (first | (go_at_call 37; refine (CM.out _).mono ?_; rintro e w2 ⟨rfl, hb⟩; have BB := Lib.hid (BB.out.trans (hb.mono BB.out.size)); clear hb))
  go_wp2
  go_ret
  exact ⟨by simp [go_sem], BB.out⟩


/-- What a swap leaves of a row of the call's own. -/
def swapped (w : World) (g : Nat) (i j : Nat) (l : List Ag) (w' : World) : Prop :=
  w' = putAg (putAg w.drew g (i * 6) (ael l j).win (ael l j).key (ael l j).cnt (ael l j).sum (ael l j).mn (ael l j).mx) g (j * 6) (ael l i).win (ael l i).key (ael l i).cnt (ael l i).sum (ael l i).mn (ael l i).mx
theorem swapped.own {w w' : World} {g i j lo n c : Nat} {T : TypeId} {l : List Ag} (h : swapped w g i j l w') (ho : w.ownsRow lo T 6 (.slice (some ⟨g, 0, none⟩) n c) n (flatA l)) (h1 : i < l.length) (h2 : j < l.length) :
    w'.ownsRow lo T 6 (.slice (some ⟨g, 0, none⟩) n c) n (flatA (swapN l i j)) ∧ w.grownBy w' (some g) := by
  unfold swapped at h
  subst h
  have a := putAg_own (show w.drew.ownsRow _ _ _ _ _ _ from ho) h1 (ael l j).win (ael l j).key (ael l j).cnt (ael l j).sum (ael l j).mn (ael l j).mx
  have b := putAg_own a.1 (show j < (l.set i (ael l j)).length by simpa using h2) (ael l i).win (ael l i).key (ael l i).cnt (ael l i).sum (ael l i).mn (ael l i).mx
  exact ⟨b.1, grown_trans (grown_trans (show w.grownBy w.drew (some g) from grown_drewN w 1 _) a.2) b.2⟩
theorem setCells_put (W : World) (g o : Nat) (u0 u1 u2 u3 u4 u5 : Int) : W.setCells g o [.int .i64 u0, .int .i64 u1, .int .i64 u2, .int .i64 u3, .int .i64 u4, .int .i64 u5] = putAg W g o u0 u1 u2 u3 u4 u5 := by
  simp only [World.setCells, putAg, Nat.add_assoc]
theorem there_own {w : World} {lo g n c j : Nat} {T : TypeId} {l : List Ag} (h : w.ownsRow lo T 6 (.slice (some ⟨g, 0, none⟩) n c) n (flatA l)) (hj : j < l.length) : w.there g (j * 6) 6 := fun q hq => by
  have hn : n = l.length := ownR_len aC_len (by omega) h
  refine ⟨?_, h.frozenAt (j * 6 + q)⟩
  rw [h.cellAt (j * 6 + q) (by omega)]
  simp [flatA_len]
  omega
set_option maxHeartbeats 8000000 in
set_option maxRecDepth 100000 in
theorem swap_x (g n c i j lo : Nat) (l : List Ag) (w : World) (ho : w.ownsRow lo 37 6 (.slice (some ⟨g, 0, none⟩) n c) n (flatA l)) (hn : n = l.length) (h1 : i < l.length) (h2 : j < l.length) :
    Calls Try.prog 77 #[.slice (some ⟨g, 0, none⟩) n c, .int .i64 (i : Int), .int .i64 (j : Int)] w fun e w' => e = .returned (.tuple #[]) ∧ swapped w g i j l w' := by
  subst hn
  have HO := Lib.hid ho
  have hcp := ownR_cap ho
  have hi0 : (0 : Int) ≤ (i : Int) := by omega
  have hi1 : (i : Int) < (l.length : Int) := by omega
  have hj0 : (0 : Int) ≤ (j : Int) := by omega
  have hj1 : (j : Int) < (l.length : Int) := by omega
  have CI := own_ag ho i h1
  have CJ := own_ag ho j h2
  have fz := ho.frozenAt
  unfold swapped
  have hinf : (Try.prog.info? 37).map (·.size) = some 6 := by kernel_rfl
  generalize hX : ael l i = X at CI ⊢
  generalize hY : ael l j = Y at CJ ⊢
  obtain ⟨u0, u1, u2, u3, u4, u5⟩ := X
  obtain ⟨v0, v1, v2, v3, v4, v5⟩ := Y
  simp only at CI CJ ⊢
  have P1 := (putAg_own ho.drew h1 v0 v1 v2 v3 v4 v5).1
  have T1 := Lib.hid (there_own ho.drew h1)
  have T2 := Lib.hid (there_own P1 (show j < (l.set i (⟨v0, v1, v2, v3, v4, v5⟩ : Ag)).length by simpa using h2))
  obtain ⟨a0, a1, a2, a3, a4, a5⟩ := CI
  obtain ⟨b0, b1, b2, b3, b4, b5⟩ := CJ
  clear ho P1 hX hY fz
  go_enter Try.func77, Try.ntmps77
  go_wp2_with fail
  refine wp_region_any (by kernel_rfl) ?_
  change wpAny _ _ _ _ _ _ _ (World.drew _)
  refine wpAny_take (oi := ⟨some 6, _, _, _, _, _⟩) (i := 0) (v := (.slice (some ⟨g, 0, none⟩) l.length c)) rfl (by kernel_rfl) (by kernel_rfl) (by kernel_rfl) (fun _ _ _ h => h) (Or.inl ⟨by kernel_rfl, fun w => by go_simp⟩) ?_
  go_simp
  refine wpAny_take (oi := ⟨some 7, _, _, _, _, _⟩) (i := 1) (v := .int .i64 (i : Int)) rfl (by kernel_rfl) (by kernel_rfl) (by kernel_rfl) (fun _ _ _ h => h) (Or.inl ⟨by kernel_rfl, fun w => by go_simp⟩) ?_
  go_simp
  refine wpAny_take (oi := ⟨some 8, _, _, _, _, _⟩) (i := 2) (v := (.slice (some ⟨g, 0, none⟩) l.length c)) rfl (by kernel_rfl) (by kernel_rfl) (by kernel_rfl) (fun _ _ _ h => h) (Or.inl ⟨by kernel_rfl, fun w => by go_simp⟩) ?_
  go_simp
  refine wpAny_take (oi := ⟨some 9, _, _, _, _, _⟩) (i := 3) (v := .int .i64 (j : Int)) rfl (by kernel_rfl) (by kernel_rfl) (by kernel_rfl) (fun _ _ _ h => h) (Or.inl ⟨by kernel_rfl, fun w => by go_simp⟩) ?_
  go_simp
  refine wpAny_take (oi := ⟨some 10, _, _, _, _, _⟩) (i := 4) (v := (.slice (some ⟨g, 0, none⟩) l.length c)) rfl (by kernel_rfl) (by kernel_rfl) (by kernel_rfl) (fun _ _ _ h => h) (Or.inl ⟨by kernel_rfl, fun w => by go_simp⟩) ?_
  go_simp
  refine wpAny_take (oi := ⟨some 11, _, _, _, _, _⟩) (i := 5) (v := .int .i64 (j : Int)) rfl (by kernel_rfl) (by kernel_rfl) (by kernel_rfl) (fun _ _ _ h => h) (Or.inl ⟨by kernel_rfl, fun w => by go_simp⟩) ?_
  go_simp
  refine wpAny_take (oi := ⟨some 12, _, _, _, _, _⟩) (i := 6) (v := .pointer (some ⟨g, j * 6, none⟩)) rfl (by kernel_rfl) (by kernel_rfl) (by kernel_rfl) (fun _ _ _ h => h) (Or.inl ⟨by kernel_rfl, fun w => by go_simp⟩) ?_
  go_simp
  refine wpAny_take (oi := ⟨some 14, _, _, _, _, _⟩) (i := 8) (v := (.slice (some ⟨g, 0, none⟩) l.length c)) rfl (by kernel_rfl) (by kernel_rfl) (by kernel_rfl) (fun _ _ _ h => h) (Or.inl ⟨by kernel_rfl, fun w => by go_simp⟩) ?_
  go_simp
  refine wpAny_take (oi := ⟨some 15, _, _, _, _, _⟩) (i := 9) (v := .int .i64 (i : Int)) rfl (by kernel_rfl) (by kernel_rfl) (by kernel_rfl) (fun _ _ _ h => h) (Or.inl ⟨by kernel_rfl, fun w => by go_simp⟩) ?_
  go_simp
  refine wpAny_take (oi := ⟨some 16, _, _, _, _, _⟩) (i := 10) (v := .pointer (some ⟨g, i * 6, none⟩)) rfl (by kernel_rfl) (by kernel_rfl) (by kernel_rfl) (fun _ _ _ h => h) (Or.inl ⟨by kernel_rfl, fun w => by go_simp⟩) ?_
  go_simp
  refine wpAny_ready (rs := [7, 11]) (by kernel_rfl) (by simp) ?_
  refine AllReady.cons rfl (fun K hK => ?_) (AllReady.cons rfl (fun K hK => ?_) AllReady.nil)
  · go_simp
    refine hK _ _ ?_
    clear hK K
    refine wpAny_ready (rs := [11]) (by kernel_rfl) (by simp) ?_
    refine AllReady.cons rfl (fun K hK => ?_) AllReady.nil
    go_simp
    refine hK _ _ ?_
    clear hK K
    refine wpAny_take (oi := ⟨some 18, _, _, _, _, _⟩) (i := 12) (v := .pointer (some ⟨g, i * 6, none⟩)) rfl (by kernel_rfl) (by kernel_rfl) (by kernel_rfl) (fun _ _ _ h => h) (Or.inl ⟨by kernel_rfl, fun w => by go_simp⟩) ?_
    go_simp
    refine wpAny_ready (rs := [13]) (by kernel_rfl) (by simp) ?_
    refine AllReady.cons rfl (fun K hK => ?_) AllReady.nil
    rw [if_pos (by rfl)]
    refine wp_store_mid _ _ _ rfl g (i * 6) #[.int .i64 v0, .int .i64 v1, .int .i64 v2, .int .i64 v3, .int .i64 v4, .int .i64 v5] rfl rfl T1.out hinf (by simp [Value.oneCell']) ?_
    refine hK _ _ ?_
    clear hK K
    change wpAny _ _ _ _ _ _ _ (World.setCells (World.drew _) g (i * 6) [.int .i64 v0, .int .i64 v1, .int .i64 v2, .int .i64 v3, .int .i64 v4, .int .i64 v5])
    rw [setCells_put]
    generalize hW5 : putAg w.drew g (i * 6) v0 v1 v2 v3 v4 v5 = W5 at T2 ⊢
    have HW5 := Lib.hid hW5
    clear hW5
    refine wpAny_take (oi := ⟨some 19, _, _, _, _, _⟩) (i := 14) (v := .pointer (some ⟨g, j * 6, none⟩)) rfl (by kernel_rfl) (by kernel_rfl) (by kernel_rfl) (fun _ _ _ h => h) (Or.inl ⟨by kernel_rfl, fun w => by go_simp⟩) ?_
    go_simp
    refine wpAny_ready (rs := [15]) (by kernel_rfl) (by simp) ?_
    refine AllReady.cons rfl (fun K hK => ?_) AllReady.nil
    rw [if_pos (by rfl)]
    refine wp_store_mid _ _ _ rfl g (j * 6) #[.int .i64 u0, .int .i64 u1, .int .i64 u2, .int .i64 u3, .int .i64 u4, .int .i64 u5] rfl rfl T2.out hinf (by simp [Value.oneCell']) ?_
    refine hK _ _ ?_
    clear hK K
    change wpAny _ _ _ _ _ _ _ (World.setCells _ g (j * 6) [.int .i64 u0, .int .i64 u1, .int .i64 u2, .int .i64 u3, .int .i64 u4, .int .i64 u5])
    rw [setCells_put]
    refine wpAny_done (by kernel_rfl) ?_ _
    generalize hW6 : putAg W5 g (j * 6) u0 u1 u2 u3 u4 u5 = W6
    have HW6 := Lib.hid hW6
    clear hW6
    go_wp2
    go_end0
    exact ⟨rfl, by rw [← HW6.out, ← HW5.out]⟩
  · go_simp
    refine hK _ _ ?_
    clear hK K
    refine wpAny_ready (rs := [7]) (by kernel_rfl) (by simp) ?_
    refine AllReady.cons rfl (fun K hK => ?_) AllReady.nil
    go_simp
    refine hK _ _ ?_
    clear hK K
    refine wpAny_take (oi := ⟨some 18, _, _, _, _, _⟩) (i := 12) (v := .pointer (some ⟨g, i * 6, none⟩)) rfl (by kernel_rfl) (by kernel_rfl) (by kernel_rfl) (fun _ _ _ h => h) (Or.inl ⟨by kernel_rfl, fun w => by go_simp⟩) ?_
    go_simp
    refine wpAny_ready (rs := [13]) (by kernel_rfl) (by simp) ?_
    refine AllReady.cons rfl (fun K hK => ?_) AllReady.nil
    rw [if_pos (by rfl)]
    refine wp_store_mid _ _ _ rfl g (i * 6) #[.int .i64 v0, .int .i64 v1, .int .i64 v2, .int .i64 v3, .int .i64 v4, .int .i64 v5] rfl rfl T1.out hinf (by simp [Value.oneCell']) ?_
    refine hK _ _ ?_
    clear hK K
    change wpAny _ _ _ _ _ _ _ (World.setCells (World.drew _) g (i * 6) [.int .i64 v0, .int .i64 v1, .int .i64 v2, .int .i64 v3, .int .i64 v4, .int .i64 v5])
    rw [setCells_put]
    generalize hW5 : putAg w.drew g (i * 6) v0 v1 v2 v3 v4 v5 = W5 at T2 ⊢
    have HW5 := Lib.hid hW5
    clear hW5
    refine wpAny_take (oi := ⟨some 19, _, _, _, _, _⟩) (i := 14) (v := .pointer (some ⟨g, j * 6, none⟩)) rfl (by kernel_rfl) (by kernel_rfl) (by kernel_rfl) (fun _ _ _ h => h) (Or.inl ⟨by kernel_rfl, fun w => by go_simp⟩) ?_
    go_simp
    refine wpAny_ready (rs := [15]) (by kernel_rfl) (by simp) ?_
    refine AllReady.cons rfl (fun K hK => ?_) AllReady.nil
    rw [if_pos (by rfl)]
    refine wp_store_mid _ _ _ rfl g (j * 6) #[.int .i64 u0, .int .i64 u1, .int .i64 u2, .int .i64 u3, .int .i64 u4, .int .i64 u5] rfl rfl T2.out hinf (by simp [Value.oneCell']) ?_
    refine hK _ _ ?_
    clear hK K
    change wpAny _ _ _ _ _ _ _ (World.setCells _ g (j * 6) [.int .i64 u0, .int .i64 u1, .int .i64 u2, .int .i64 u3, .int .i64 u4, .int .i64 u5])
    rw [setCells_put]
    refine wpAny_done (by kernel_rfl) ?_ _
    generalize hW6 : putAg W5 g (j * 6) u0 u1 u2 u3 u4 u5 = W6
    have HW6 := Lib.hid hW6
    clear hW6
    go_wp2
    go_end0
    exact ⟨rfl, by rw [← HW6.out, ← HW5.out]⟩

end Go.Proofs.Ytnfhlfbkdhpacaa
