/- spec.TakeClosed where one is taken. (made by tools/mktakes.py) -/
import Derived.Test.YtnfhlfbkdhpacaaTakeI2
namespace Go.Proofs.Ytnfhlfbkdhpacaa
open Go.RowKit

/-- What spec.TakeClosed answers where one is taken: the rest of a row is a row to read. -/
def SpecTook (l : List Ag) (mk lt ov : Int) (w : World) (e : Ending) (w' : World) : Prop :=
  ∃ a c, e = .returned (.tuple #[.agg #[.slice a (l.drop 1).length c, .int .i64 mk, .int .i64 lt, .int .i64 ov], .agg (aC (ael l 0)).toArray, .bool true]) ∧ Ags w' w'.heap.size a c (l.drop 1) ∧ Below w.heap.size w w'
/-- The rest of a row of the call's own, to be read. -/
theorem Ags.rest {w : World} {lo g c n : Nat} {l : List Ag} {o2 c2 : Nat} (h : w.ownsRow lo 37 6 (.slice (some ⟨g, 0, none⟩) n c) n (flatA l)) (hn : n = l.length) (hl : 0 < l.length) (ho : (c = 1 ∧ o2 = 0 ∧ c2 = 0) ∨ (¬ c = 1 ∧ o2 = 6 ∧ c2 = c - 1)) : Ags w w.heap.size (some ⟨g, o2, none⟩) c2 (l.drop 1) := by
  subst hn
  have hc := ownR_cap h
  have hr := Ags.of_own h
  obtain ⟨b, off, e, hb, hcell⟩ := Recs.cells hr hl
  injection e with e
  injection e with e1 e2
  subst e1 e2
  rcases ho with ⟨h1, rfl, rfl⟩ | ⟨h1, rfl, rfl⟩
  · refine ⟨by rw [List.length_drop]; omega, by omega, .inl ?_⟩
    exact List.drop_of_length_le (by omega)
  · refine ⟨by rw [List.length_drop]; omega, by omega, .inr ⟨g, 6, rfl, hb, fun i hi q hq => ?_⟩⟩
    rw [List.length_drop] at hi
    have z := hcell (i + 1) (by omega) q hq
    have e1 : 0 + (i + 1) * 6 + q = 6 + i * 6 + q := by omega
    rw [e1] at z
    rw [z]
    have e2 : rel aD (l.drop 1) i = rel aD l (i + 1) := by simp [rel, List.getD]
    rw [e2]
theorem spec_took {w W6 : World} {l : List Ag} (mk lt ov : Int) {g c1 o2 c2 n1 : Nat} (hn1 : n1 = l.length - 1) (ho : (c1 = 1 ∧ o2 = 0 ∧ c2 = 0) ∨ (¬ c1 = 1 ∧ o2 = 6 ∧ c2 = c1 - 1))
    (uo : W6.ownsRow w.heap.size 37 6 (.slice (some ⟨g, 0, none⟩) l.length c1) l.length (flatA l)) (ub : Below w.heap.size w W6) (h1 : some (w.heap.size + 1) ≠ (Value.slice (some ⟨g, 0, none⟩) l.length c1).ownBlock) (h2 : some (w.heap.size + 1 + 1) ≠ (Value.slice (some ⟨g, 0, none⟩) l.length c1).ownBlock) (hl : 0 < l.length) :
    SpecTook l mk lt ov w (.returned (.tuple #[.agg #[.slice (some ⟨g, o2, none⟩) n1 c2, .int .i64 mk, .int .i64 lt, .int .i64 ov], .agg #[.int .i64 (ael l 0).win, .int .i64 (ael l 0).key, .int .i64 (ael l 0).cnt, .int .i64 (ael l 0).sum, .int .i64 (ael l 0).mn, .int .i64 (ael l 0).mx], .bool true])) (s6 (w.heap.size + 1 + 1) (.int .i64 (ael l 0).win) (.int .i64 (ael l 0).key) (.int .i64 (ael l 0).cnt) (.int .i64 (ael l 0).sum) (.int .i64 (ael l 0).mn) (.int .i64 (ael l 0).mx) (s4 (w.heap.size + 1) (.slice (some ⟨g, o2, none⟩) n1 c2) (.int .i64 mk) (.int .i64 lt) (.int .i64 ov) W6)).drew := by
  have hg : g ≠ w.heap.size + 1 ∧ g ≠ w.heap.size + 1 + 1 := by simp [Value.ownBlock] at h1 h2; omega
  obtain ⟨WE, hWE⟩ : ∃ WE, WE = s6 (w.heap.size + 1 + 1) (.int .i64 (ael l 0).win) (.int .i64 (ael l 0).key) (.int .i64 (ael l 0).cnt) (.int .i64 (ael l 0).sum) (.int .i64 (ael l 0).mn) (.int .i64 (ael l 0).mx) (s4 (w.heap.size + 1) (.slice (some ⟨g, o2, none⟩) n1 c2) (.int .i64 mk) (.int .i64 lt) (.int .i64 ov) W6) := ⟨_, rfl⟩
  have hf : WE.heap[g]? = W6.heap[g]? := by rw [hWE, s6_far hg.2, s4_far hg.1]
  have bl : Below w.heap.size w WE := by
    rw [hWE]
    unfold s6 s4
    exact below_set6 (below_set4 ub (by omega) _ _ _ _) (by omega) _ _ _ _ _ _
  rw [← hWE]
  have hdl : (l.drop 1).length = l.length - 1 := List.length_drop
  have uo2 := own_same uo (w' := WE) (fun g2 hg2 => by
    have e : g = g2 := by simpa [Value.ownBlock] using hg2
    subst e
    exact hf)
  refine ⟨some ⟨g, o2, none⟩, c2, by rw [hdl, hn1]; rfl, ?_, bl.drew⟩
  have z := Ags.rest uo2 rfl hl ho
  exact z.below (Below.refl _ WE).drew
set_option maxHeartbeats 8000000 in
set_option maxRecDepth 100000 in
theorem specTake_yes1 (a : Option Addr) (c : Nat) (mk lt ov sz : Int) (l : List Ag) (hi : Nat) (w : World) (hr : Ags w hi a c l) (hB : hi ≤ w.heap.size) (hlen : l.length ≤ 1048576) (hS : sokB l mk lt ov = true) (hZ : inB sz 1 1000000 = true) (hl : ¬ l = []) :
    Calls Try.prog 14 #[.agg #[.slice a l.length c, .int .i64 mk, .int .i64 lt, .int .i64 ov], .int .i64 sz, .bool true] w (SpecTook l mk lt ov w) := by
  have b3 := (((Below.refl w.heap.size w).alloc (Nat.le_refl _) (.cells #[.slice a l.length c, .int .i64 mk, .int .i64 lt, .int .i64 ov] 29)).alloc (by simp) (.cells #[.slice none 0 0, .int .i64 0, .int .i64 0, .int .i64 0] 29)).alloc (by simp; omega) (.cells #[.int .i64 0, .int .i64 0, .int .i64 0, .int .i64 0, .int .i64 0, .int .i64 0] 37)
  have HN := Lib.hid (hr.below (b3.mono hB))
  have k1 := (Blk.new (w.alloc (.cells #[.slice a l.length c, .int .i64 mk, .int .i64 lt, .int .i64 ov] 29)) 29 #[.slice none 0 0, .int .i64 0, .int .i64 0, .int .i64 0]).alloc (.cells #[.int .i64 0, .int .i64 0, .int .i64 0, .int .i64 0, .int .i64 0, .int .i64 0] 37)
  rw [World.size_alloc] at k1
  have k2 := Blk.new ((w.alloc (.cells #[.slice a l.length c, .int .i64 mk, .int .i64 lt, .int .i64 ov] 29)).alloc (.cells #[.slice none 0 0, .int .i64 0, .int .i64 0, .int .i64 0] 29)) 37 #[.int .i64 0, .int .i64 0, .int .i64 0, .int .i64 0, .int .i64 0, .int .i64 0]
  rw [World.size_alloc, World.size_alloc] at k2
  have K0 := Lib.hid (((Blk.new w 29 #[.slice a l.length c, .int .i64 mk, .int .i64 lt, .int .i64 ov]).alloc (.cells #[.slice none 0 0, .int .i64 0, .int .i64 0, .int .i64 0] 29)).alloc (.cells #[.int .i64 0, .int .i64 0, .int .i64 0, .int .i64 0, .int .i64 0, .int .i64 0] 37))
  have K1 := Lib.hid k1
  have K2 := Lib.hid k2
  have B3 := Lib.hid b3
  have HOK := Lib.hid (fun (W : World) (h : Ags W hi a c l) (h2 : hi ≤ W.heap.size) => specShardOk_any a l.length c mk lt ov l hi W h rfl h2)
  clear hr b3 k1 k2
  rw [hS] at HOK
  have CI := Lib.hid (fun W => specIn_any sz 1 1000000 W)
  rw [hZ] at CI
  go_enter Try.func14, Try.ntmps14
  go_wp2_with fail
  refine (specCopy_any a _ c mk lt ov l _ _ HN.out rfl (by simp; omega) hlen).mono ?_
  rintro e w1 ⟨a1, c1, rfl, ho, hb⟩
  have HNE : Hid (some (w.heap.size + 1 + 1) ≠ (Value.slice a1 l.length c1).ownBlock) := Lib.hid (own_ge ho (by simp))
  have s1 := hb.size
  simp only [World.size_alloc] at s1
  have T0 := Lib.hid ((K0.out.below hb).alloc (.cells #[.slice a1 l.length c1, .int .i64 mk, .int .i64 lt, .int .i64 ov] 29))
  have T1 := Lib.hid ((K1.out.below hb).alloc (.cells #[.slice a1 l.length c1, .int .i64 mk, .int .i64 lt, .int .i64 ov] 29))
  have T2 := Lib.hid ((K2.out.below hb).alloc (.cells #[.slice a1 l.length c1, .int .i64 mk, .int .i64 lt, .int .i64 ov] 29))
  have TN := Lib.hid (Blk.new w1 29 #[.slice a1 l.length c1, .int .i64 mk, .int .i64 lt, .int .i64 ov])
  have TO := Lib.hid ((owns_less ho (show w.heap.size ≤ _ by simp; omega)).alloc (.cells #[.slice a1 l.length c1, .int .i64 mk, .int .i64 lt, .int .i64 ov] 29))
  have TB := Lib.hid ((B3.out.trans (hb.mono (by simp; omega))).alloc (by omega) (.cells #[.slice a1 l.length c1, .int .i64 mk, .int .i64 lt, .int .i64 ov] 29))
  have TA := Lib.hid ((HN.out.below (hb.mono (by simp; omega))).below ((Below.refl hi w1).alloc (by omega) (.cells #[.slice a1 l.length c1, .int .i64 mk, .int .i64 lt, .int .i64 ov] 29)))
  have TH : hi ≤ (w1.alloc (.cells #[.slice a1 l.length c1, .int .i64 mk, .int .i64 lt, .int .i64 ov] 29)).heap.size := by simp; omega
  have TW : w.heap.size ≤ (w1.alloc (.cells #[.slice a1 l.length c1, .int .i64 mk, .int .i64 lt, .int .i64 ov] 29)).heap.size := by simp; omega
  have TV : w.heap.size + 3 ≤ (w1.alloc (.cells #[.slice a1 l.length c1, .int .i64 mk, .int .i64 lt, .int .i64 ov] 29)).heap.size := by simp; omega
  have q0 := T0.out.cell
  clear ho hb
  go_wp2_with fail
  refine (HOK.out _ TA.out TH).mono ?_
  rintro e wU ⟨rfl, hb⟩
  have U0 := Lib.hid (T0.out.below hb)
  have U1 := Lib.hid (T1.out.below hb)
  have U2 := Lib.hid (T2.out.below hb)
  have UN := Lib.hid (TN.out.below hb)
  have UO := Lib.hid (owns_below TO.out hb)
  have UA := Lib.hid (TA.out.below (hb.mono TH))
  have UB := Lib.hid (TB.out.trans (hb.mono TW))
  have UH : hi ≤ wU.heap.size := Nat.le_trans TH hb.size
  have UW : w.heap.size + 3 ≤ wU.heap.size := Nat.le_trans TV hb.size
  have UV := UW
  replace UW : w.heap.size ≤ wU.heap.size := by omega
  clear hb q0
  have q0 := U0.out.cell
  go_wp2_with fail
  refine (CI.out _).mono ?_
  rintro e w' ⟨rfl, rfl⟩
  have hl0 : 0 < l.length := by
    cases l with
    | nil => exact absurd rfl hl
    | cons _ _ => simp
  obtain ⟨g, rfl, hg1, hg2⟩ := own_at UO.out hl0
  obtain ⟨ba, oa, rfl, hba, hca⟩ := Ags.six UA.out hl0
  obtain ⟨d0, d1, d2, d3, d4, d5⟩ := hca 0 hl0
  simp only [Nat.zero_mul, Nat.add_zero] at d0 d1 d2 d3 d4 d5
  have hne1 := own_blk_ne UO.out U1.out (by decide)
  have hneN := own_blk_ne UO.out UN.out (by decide)
  have q1 := U1.out.cell
  have q2 := U2.out.cell
  have qn := UN.out.cell
  have fn := UN.out.frozen
  have i1 : (1 : Int) ≤ (l.length : Int) := by omega
  have hcc := (ownR_cap UO.out).1
  have hcc2 := (ownR_cap UO.out).2
  by_cases h1 : c1 = 1
  · subst h1
    go_wp2_with fail
    have ww : w.heap.size + 1 + 1 < w1.heap.size := by omega
    have un := UN.out.put_ 0 (.slice (some ⟨g, 0, none⟩) 0 0)
    simp only [List.setIfInBounds_toArray, List.set_cons_zero] at un
    have u0 := U0.out.far_ (p := ⟨w1.heap.size, 0, none⟩) (show w.heap.size ≠ w1.heap.size by omega) (.slice (some ⟨g, 0, none⟩) 0 0)
    have u1 := U1.out.far_ (p := ⟨w1.heap.size, 0, none⟩) (show w.heap.size + 1 ≠ w1.heap.size by omega) (.slice (some ⟨g, 0, none⟩) 0 0)
    have u2 := U2.out.far_ (p := ⟨w1.heap.size, 0, none⟩) (show w.heap.size + 1 + 1 ≠ w1.heap.size by omega) (.slice (some ⟨g, 0, none⟩) 0 0)
    have uo := UO.out.kept (grown_setCell wU w1.heap.size 0 (.slice (some ⟨g, 0, none⟩) 0 0)) (.inr hneN.symm)
    have ub := UB.out.setCell (p := ⟨w1.heap.size, 0, none⟩) (show w.heap.size ≤ w1.heap.size by omega) (.slice (some ⟨g, 0, none⟩) 0 0)
    have ua := UA.out.below ((Below.refl hi wU).setCell (p := ⟨w1.heap.size, 0, none⟩) (show hi ≤ w1.heap.size by omega) (.slice (some ⟨g, 0, none⟩) 0 0))
    generalize wU.setCell ⟨w1.heap.size, 0, none⟩ (.slice (some ⟨g, 0, none⟩) 0 0) = W6 at un u0 u1 u2 uo ub ua ⊢
    clear q0 q1 q2 qn fn d0 d1 d2 d3 d4 d5
    have HEND := Lib.hid (spec_took mk lt ov (n1 := 0) (by omega) (Or.inl ⟨rfl, rfl, rfl⟩) uo ub hne1 HNE.out hl0)
    obtain ⟨_, _, e, _, hca⟩ := Ags.six ua hl0
    injection e with e
    injection e with e1 e2
    subst e1 e2
    obtain ⟨d0, d1, d2, d3, d4, d5⟩ := hca 0 hl0
    simp only [Nat.zero_mul, Nat.add_zero] at d0 d1 d2 d3 d4 d5
    have q0 := u0.cell
    have q1 := u1.cell
    have q2 := u2.cell
    have qn := un.cell
    have f1 := u1.frozen
    have f2 := u2.frozen
    have ua4 := ua.below (below_set4 (Below.refl hi W6) (show hi ≤ w.heap.size + 1 by omega) (.slice (some ⟨g, 0, none⟩) 0 0) (.int .i64 mk) (.int .i64 lt) (.int .i64 ov))
    obtain ⟨_, _, e, _, hca⟩ := Ags.six ua4 hl0
    injection e with e
    injection e with e1 e2
    subst e1 e2
    obtain ⟨m0, m1, m2, m3, m4, m5⟩ := hca 0 hl0
    simp only [Nat.zero_mul, Nat.add_zero] at m0 m1 m2 m3 m4 m5
    clear un u0 u1 u2 uo ub ua hca ua4
    have hmix : Try.prog.follows .mixedOrders = true := by kernel_rfl
    refine wp_region_any (by assumption) ?_
    change wpAny _ _ _ _ _ _ _ (World.drew _)
    refine wpAny_ready (rs := [0, 1]) (by kernel_rfl) (by simp) ?_
    refine AllReady.cons rfl (fun K hK => ?_) (AllReady.cons rfl (fun K hK => ?_) AllReady.nil)
    · go_simp
      refine hK _ _ ?_
      clear hK K
      refine wpAny_ready (rs := [1, 5]) (by kernel_rfl) (by simp) ?_
      refine AllReady.cons rfl (fun K hK => ?_) (AllReady.cons rfl (fun K hK => ?_) AllReady.nil)
      · go_simp
        refine hK _ _ ?_
        clear hK K
        refine wpAny_ready (rs := [2, 5]) (by kernel_rfl) (by simp) ?_
        refine AllReady.cons rfl (fun K hK => ?_) (AllReady.cons rfl (fun K hK => ?_) AllReady.nil)
        · go_simp
          refine hK _ _ ?_
          clear hK K
          refine wpAny_ready (rs := [3, 5]) (by kernel_rfl) (by simp) ?_
          refine AllReady.cons rfl (fun K hK => ?_) (AllReady.cons rfl (fun K hK => ?_) AllReady.nil)
          · go_simp
            refine hK _ _ ?_
            clear hK K
            refine wpAny_ready (rs := [4, 5]) (by kernel_rfl) (by simp) ?_
            refine AllReady.cons rfl (fun K hK => ?_) (AllReady.cons rfl (fun K hK => ?_) AllReady.nil)
            · go_simp
              refine hK _ _ ?_
              clear hK K
              refine wpAny_ready (rs := [5]) (by kernel_rfl) (by simp) ?_
              refine AllReady.cons rfl (fun K hK => ?_) AllReady.nil
              go_simp
              refine hK _ _ ?_
              clear hK K
              refine wpAny_ready (rs := [6]) (by kernel_rfl) (by simp) ?_
              refine AllReady.cons rfl (fun K hK => ?_) AllReady.nil
              go_simp
              refine hK _ _ ?_
              clear hK K
              refine wpAny_ready (rs := [7]) (by kernel_rfl) (by simp) ?_
              refine AllReady.cons rfl (fun K hK => ?_) AllReady.nil
              go_simp
              refine hK _ _ ?_
              clear hK K
              refine wpAny_done (by kernel_rfl) ?_ _
              go_wp2
              exact bodyPost_ret (v := .tuple #[.agg #[.slice (some ⟨g, 0, none⟩) 0 0, .int .i64 mk, .int .i64 lt, .int .i64 ov], .agg #[.int .i64 (ael l 0).win, .int .i64 (ael l 0).key, .int .i64 (ael l 0).cnt, .int .i64 (ael l 0).sum, .int .i64 (ael l 0).mn, .int .i64 (ael l 0).mx], .bool true]) (by simp [results, Try.results14, go_sem, q1, q2]) rfl HEND.out
            · go_simp
              refine hK _ _ ?_
              clear hK K
              refine wpAny_ready (rs := [4]) (by kernel_rfl) (by simp) ?_
              refine AllReady.cons rfl (fun K hK => ?_) AllReady.nil
              go_simp
              refine hK _ _ ?_
              clear hK K
              refine wpAny_ready (rs := [6]) (by kernel_rfl) (by simp) ?_
              refine AllReady.cons rfl (fun K hK => ?_) AllReady.nil
              go_simp
              refine hK _ _ ?_
              clear hK K
              refine wpAny_ready (rs := [7]) (by kernel_rfl) (by simp) ?_
              refine AllReady.cons rfl (fun K hK => ?_) AllReady.nil
              go_simp
              refine hK _ _ ?_
              clear hK K
              refine wpAny_done (by kernel_rfl) ?_ _
              go_wp2
              exact bodyPost_ret (v := .tuple #[.agg #[.slice (some ⟨g, 0, none⟩) 0 0, .int .i64 mk, .int .i64 lt, .int .i64 ov], .agg #[.int .i64 (ael l 0).win, .int .i64 (ael l 0).key, .int .i64 (ael l 0).cnt, .int .i64 (ael l 0).sum, .int .i64 (ael l 0).mn, .int .i64 (ael l 0).mx], .bool true]) (by simp [results, Try.results14, go_sem, q1, q2]) rfl HEND.out
          · go_simp
            refine hK _ _ ?_
            clear hK K
            refine wpAny_ready (rs := [3]) (by kernel_rfl) (by simp) ?_
            refine AllReady.cons rfl (fun K hK => ?_) AllReady.nil
            go_simp
            refine hK _ _ ?_
            clear hK K
            refine wpAny_ready (rs := [4]) (by kernel_rfl) (by simp) ?_
            refine AllReady.cons rfl (fun K hK => ?_) AllReady.nil
            go_simp
            refine hK _ _ ?_
            clear hK K
            refine wpAny_ready (rs := [6]) (by kernel_rfl) (by simp) ?_
            refine AllReady.cons rfl (fun K hK => ?_) AllReady.nil
            go_simp
            refine hK _ _ ?_
            clear hK K
            refine wpAny_ready (rs := [7]) (by kernel_rfl) (by simp) ?_
            refine AllReady.cons rfl (fun K hK => ?_) AllReady.nil
            go_simp
            refine hK _ _ ?_
            clear hK K
            refine wpAny_done (by kernel_rfl) ?_ _
            go_wp2
            exact bodyPost_ret (v := .tuple #[.agg #[.slice (some ⟨g, 0, none⟩) 0 0, .int .i64 mk, .int .i64 lt, .int .i64 ov], .agg #[.int .i64 (ael l 0).win, .int .i64 (ael l 0).key, .int .i64 (ael l 0).cnt, .int .i64 (ael l 0).sum, .int .i64 (ael l 0).mn, .int .i64 (ael l 0).mx], .bool true]) (by simp [results, Try.results14, go_sem, q1, q2]) rfl HEND.out
        · go_simp
          refine hK _ _ ?_
          clear hK K
          refine wpAny_ready (rs := [2]) (by kernel_rfl) (by simp) ?_
          refine AllReady.cons rfl (fun K hK => ?_) AllReady.nil
          go_simp
          refine hK _ _ ?_
          clear hK K
          refine wpAny_ready (rs := [3]) (by kernel_rfl) (by simp) ?_
          refine AllReady.cons rfl (fun K hK => ?_) AllReady.nil
          go_simp
          refine hK _ _ ?_
          clear hK K
          refine wpAny_ready (rs := [4]) (by kernel_rfl) (by simp) ?_
          refine AllReady.cons rfl (fun K hK => ?_) AllReady.nil
          go_simp
          refine hK _ _ ?_
          clear hK K
          refine wpAny_ready (rs := [6]) (by kernel_rfl) (by simp) ?_
          refine AllReady.cons rfl (fun K hK => ?_) AllReady.nil
          go_simp
          refine hK _ _ ?_
          clear hK K
          refine wpAny_ready (rs := [7]) (by kernel_rfl) (by simp) ?_
          refine AllReady.cons rfl (fun K hK => ?_) AllReady.nil
          go_simp
          refine hK _ _ ?_
          clear hK K
          refine wpAny_done (by kernel_rfl) ?_ _
          go_wp2
          exact bodyPost_ret (v := .tuple #[.agg #[.slice (some ⟨g, 0, none⟩) 0 0, .int .i64 mk, .int .i64 lt, .int .i64 ov], .agg #[.int .i64 (ael l 0).win, .int .i64 (ael l 0).key, .int .i64 (ael l 0).cnt, .int .i64 (ael l 0).sum, .int .i64 (ael l 0).mn, .int .i64 (ael l 0).mx], .bool true]) (by simp [results, Try.results14, go_sem, q1, q2]) rfl HEND.out
      · go_simp
        refine hK _ _ ?_
        clear hK K
        refine wpAny_ready (rs := [1]) (by kernel_rfl) (by simp) ?_
        refine AllReady.cons rfl (fun K hK => ?_) AllReady.nil
        go_simp
        refine hK _ _ ?_
        clear hK K
        refine wpAny_ready (rs := [2]) (by kernel_rfl) (by simp) ?_
        refine AllReady.cons rfl (fun K hK => ?_) AllReady.nil
        go_simp
        refine hK _ _ ?_
        clear hK K
        refine wpAny_ready (rs := [3]) (by kernel_rfl) (by simp) ?_
        refine AllReady.cons rfl (fun K hK => ?_) AllReady.nil
        go_simp
        refine hK _ _ ?_
        clear hK K
        refine wpAny_ready (rs := [4]) (by kernel_rfl) (by simp) ?_
        refine AllReady.cons rfl (fun K hK => ?_) AllReady.nil
        go_simp
        refine hK _ _ ?_
        clear hK K
        refine wpAny_ready (rs := [6]) (by kernel_rfl) (by simp) ?_
        refine AllReady.cons rfl (fun K hK => ?_) AllReady.nil
        go_simp
        refine hK _ _ ?_
        clear hK K
        refine wpAny_ready (rs := [7]) (by kernel_rfl) (by simp) ?_
        refine AllReady.cons rfl (fun K hK => ?_) AllReady.nil
        go_simp
        refine hK _ _ ?_
        clear hK K
        refine wpAny_done (by kernel_rfl) ?_ _
        go_wp2
        exact bodyPost_ret (v := .tuple #[.agg #[.slice (some ⟨g, 0, none⟩) 0 0, .int .i64 mk, .int .i64 lt, .int .i64 ov], .agg #[.int .i64 (ael l 0).win, .int .i64 (ael l 0).key, .int .i64 (ael l 0).cnt, .int .i64 (ael l 0).sum, .int .i64 (ael l 0).mn, .int .i64 (ael l 0).mx], .bool true]) (by simp [results, Try.results14, go_sem, q1, q2]) rfl HEND.out
    · go_simp
      refine hK _ _ ?_
      clear hK K
      refine wpAny_ready (rs := [0, 2]) (by kernel_rfl) (by simp) ?_
      refine AllReady.cons rfl (fun K hK => ?_) (AllReady.cons rfl (fun K hK => ?_) AllReady.nil)
      · go_simp
        refine hK _ _ ?_
        clear hK K
        refine wpAny_ready (rs := [2, 5]) (by kernel_rfl) (by simp) ?_
        refine AllReady.cons rfl (fun K hK => ?_) (AllReady.cons rfl (fun K hK => ?_) AllReady.nil)
        · go_simp
          refine hK _ _ ?_
          clear hK K
          refine wpAny_ready (rs := [3, 5]) (by kernel_rfl) (by simp) ?_
          refine AllReady.cons rfl (fun K hK => ?_) (AllReady.cons rfl (fun K hK => ?_) AllReady.nil)
          · go_simp
            refine hK _ _ ?_
            clear hK K
            refine wpAny_ready (rs := [4, 5]) (by kernel_rfl) (by simp) ?_
            refine AllReady.cons rfl (fun K hK => ?_) (AllReady.cons rfl (fun K hK => ?_) AllReady.nil)
            · go_simp
              refine hK _ _ ?_
              clear hK K
              refine wpAny_ready (rs := [5]) (by kernel_rfl) (by simp) ?_
              refine AllReady.cons rfl (fun K hK => ?_) AllReady.nil
              go_simp
              refine hK _ _ ?_
              clear hK K
              refine wpAny_ready (rs := [6]) (by kernel_rfl) (by simp) ?_
              refine AllReady.cons rfl (fun K hK => ?_) AllReady.nil
              go_simp
              refine hK _ _ ?_
              clear hK K
              refine wpAny_ready (rs := [7]) (by kernel_rfl) (by simp) ?_
              refine AllReady.cons rfl (fun K hK => ?_) AllReady.nil
              go_simp
              refine hK _ _ ?_
              clear hK K
              refine wpAny_done (by kernel_rfl) ?_ _
              go_wp2
              exact bodyPost_ret (v := .tuple #[.agg #[.slice (some ⟨g, 0, none⟩) 0 0, .int .i64 mk, .int .i64 lt, .int .i64 ov], .agg #[.int .i64 (ael l 0).win, .int .i64 (ael l 0).key, .int .i64 (ael l 0).cnt, .int .i64 (ael l 0).sum, .int .i64 (ael l 0).mn, .int .i64 (ael l 0).mx], .bool true]) (by simp [results, Try.results14, go_sem, q1, q2]) rfl HEND.out
            · go_simp
              refine hK _ _ ?_
              clear hK K
              refine wpAny_ready (rs := [4]) (by kernel_rfl) (by simp) ?_
              refine AllReady.cons rfl (fun K hK => ?_) AllReady.nil
              go_simp
              refine hK _ _ ?_
              clear hK K
              refine wpAny_ready (rs := [6]) (by kernel_rfl) (by simp) ?_
              refine AllReady.cons rfl (fun K hK => ?_) AllReady.nil
              go_simp
              refine hK _ _ ?_
              clear hK K
              refine wpAny_ready (rs := [7]) (by kernel_rfl) (by simp) ?_
              refine AllReady.cons rfl (fun K hK => ?_) AllReady.nil
              go_simp
              refine hK _ _ ?_
              clear hK K
              refine wpAny_done (by kernel_rfl) ?_ _
              go_wp2
              exact bodyPost_ret (v := .tuple #[.agg #[.slice (some ⟨g, 0, none⟩) 0 0, .int .i64 mk, .int .i64 lt, .int .i64 ov], .agg #[.int .i64 (ael l 0).win, .int .i64 (ael l 0).key, .int .i64 (ael l 0).cnt, .int .i64 (ael l 0).sum, .int .i64 (ael l 0).mn, .int .i64 (ael l 0).mx], .bool true]) (by simp [results, Try.results14, go_sem, q1, q2]) rfl HEND.out
          · go_simp
            refine hK _ _ ?_
            clear hK K
            refine wpAny_ready (rs := [3]) (by kernel_rfl) (by simp) ?_
            refine AllReady.cons rfl (fun K hK => ?_) AllReady.nil
            go_simp
            refine hK _ _ ?_
            clear hK K
            refine wpAny_ready (rs := [4]) (by kernel_rfl) (by simp) ?_
            refine AllReady.cons rfl (fun K hK => ?_) AllReady.nil
            go_simp
            refine hK _ _ ?_
            clear hK K
            refine wpAny_ready (rs := [6]) (by kernel_rfl) (by simp) ?_
            refine AllReady.cons rfl (fun K hK => ?_) AllReady.nil
            go_simp
            refine hK _ _ ?_
            clear hK K
            refine wpAny_ready (rs := [7]) (by kernel_rfl) (by simp) ?_
            refine AllReady.cons rfl (fun K hK => ?_) AllReady.nil
            go_simp
            refine hK _ _ ?_
            clear hK K
            refine wpAny_done (by kernel_rfl) ?_ _
            go_wp2
            exact bodyPost_ret (v := .tuple #[.agg #[.slice (some ⟨g, 0, none⟩) 0 0, .int .i64 mk, .int .i64 lt, .int .i64 ov], .agg #[.int .i64 (ael l 0).win, .int .i64 (ael l 0).key, .int .i64 (ael l 0).cnt, .int .i64 (ael l 0).sum, .int .i64 (ael l 0).mn, .int .i64 (ael l 0).mx], .bool true]) (by simp [results, Try.results14, go_sem, q1, q2]) rfl HEND.out
        · go_simp
          refine hK _ _ ?_
          clear hK K
          refine wpAny_ready (rs := [2]) (by kernel_rfl) (by simp) ?_
          refine AllReady.cons rfl (fun K hK => ?_) AllReady.nil
          go_simp
          refine hK _ _ ?_
          clear hK K
          refine wpAny_ready (rs := [3]) (by kernel_rfl) (by simp) ?_
          refine AllReady.cons rfl (fun K hK => ?_) AllReady.nil
          go_simp
          refine hK _ _ ?_
          clear hK K
          refine wpAny_ready (rs := [4]) (by kernel_rfl) (by simp) ?_
          refine AllReady.cons rfl (fun K hK => ?_) AllReady.nil
          go_simp
          refine hK _ _ ?_
          clear hK K
          refine wpAny_ready (rs := [6]) (by kernel_rfl) (by simp) ?_
          refine AllReady.cons rfl (fun K hK => ?_) AllReady.nil
          go_simp
          refine hK _ _ ?_
          clear hK K
          refine wpAny_ready (rs := [7]) (by kernel_rfl) (by simp) ?_
          refine AllReady.cons rfl (fun K hK => ?_) AllReady.nil
          go_simp
          refine hK _ _ ?_
          clear hK K
          refine wpAny_done (by kernel_rfl) ?_ _
          go_wp2
          exact bodyPost_ret (v := .tuple #[.agg #[.slice (some ⟨g, 0, none⟩) 0 0, .int .i64 mk, .int .i64 lt, .int .i64 ov], .agg #[.int .i64 (ael l 0).win, .int .i64 (ael l 0).key, .int .i64 (ael l 0).cnt, .int .i64 (ael l 0).sum, .int .i64 (ael l 0).mn, .int .i64 (ael l 0).mx], .bool true]) (by simp [results, Try.results14, go_sem, q1, q2]) rfl HEND.out
      · go_simp
        refine hK _ _ ?_
        clear hK K
        refine wpAny_ready (rs := [0, 3]) (by kernel_rfl) (by simp) ?_
        refine AllReady.cons rfl (fun K hK => ?_) (AllReady.cons rfl (fun K hK => ?_) AllReady.nil)
        · go_simp
          refine hK _ _ ?_
          clear hK K
          refine wpAny_ready (rs := [3, 5]) (by kernel_rfl) (by simp) ?_
          refine AllReady.cons rfl (fun K hK => ?_) (AllReady.cons rfl (fun K hK => ?_) AllReady.nil)
          · go_simp
            refine hK _ _ ?_
            clear hK K
            refine wpAny_ready (rs := [4, 5]) (by kernel_rfl) (by simp) ?_
            refine AllReady.cons rfl (fun K hK => ?_) (AllReady.cons rfl (fun K hK => ?_) AllReady.nil)
            · go_simp
              refine hK _ _ ?_
              clear hK K
              refine wpAny_ready (rs := [5]) (by kernel_rfl) (by simp) ?_
              refine AllReady.cons rfl (fun K hK => ?_) AllReady.nil
              go_simp
              refine hK _ _ ?_
              clear hK K
              refine wpAny_ready (rs := [6]) (by kernel_rfl) (by simp) ?_
              refine AllReady.cons rfl (fun K hK => ?_) AllReady.nil
              go_simp
              refine hK _ _ ?_
              clear hK K
              refine wpAny_ready (rs := [7]) (by kernel_rfl) (by simp) ?_
              refine AllReady.cons rfl (fun K hK => ?_) AllReady.nil
              go_simp
              refine hK _ _ ?_
              clear hK K
              refine wpAny_done (by kernel_rfl) ?_ _
              go_wp2
              exact bodyPost_ret (v := .tuple #[.agg #[.slice (some ⟨g, 0, none⟩) 0 0, .int .i64 mk, .int .i64 lt, .int .i64 ov], .agg #[.int .i64 (ael l 0).win, .int .i64 (ael l 0).key, .int .i64 (ael l 0).cnt, .int .i64 (ael l 0).sum, .int .i64 (ael l 0).mn, .int .i64 (ael l 0).mx], .bool true]) (by simp [results, Try.results14, go_sem, q1, q2]) rfl HEND.out
            · go_simp
              refine hK _ _ ?_
              clear hK K
              refine wpAny_ready (rs := [4]) (by kernel_rfl) (by simp) ?_
              refine AllReady.cons rfl (fun K hK => ?_) AllReady.nil
              go_simp
              refine hK _ _ ?_
              clear hK K
              refine wpAny_ready (rs := [6]) (by kernel_rfl) (by simp) ?_
              refine AllReady.cons rfl (fun K hK => ?_) AllReady.nil
              go_simp
              refine hK _ _ ?_
              clear hK K
              refine wpAny_ready (rs := [7]) (by kernel_rfl) (by simp) ?_
              refine AllReady.cons rfl (fun K hK => ?_) AllReady.nil
              go_simp
              refine hK _ _ ?_
              clear hK K
              refine wpAny_done (by kernel_rfl) ?_ _
              go_wp2
              exact bodyPost_ret (v := .tuple #[.agg #[.slice (some ⟨g, 0, none⟩) 0 0, .int .i64 mk, .int .i64 lt, .int .i64 ov], .agg #[.int .i64 (ael l 0).win, .int .i64 (ael l 0).key, .int .i64 (ael l 0).cnt, .int .i64 (ael l 0).sum, .int .i64 (ael l 0).mn, .int .i64 (ael l 0).mx], .bool true]) (by simp [results, Try.results14, go_sem, q1, q2]) rfl HEND.out
          · go_simp
            refine hK _ _ ?_
            clear hK K
            refine wpAny_ready (rs := [3]) (by kernel_rfl) (by simp) ?_
            refine AllReady.cons rfl (fun K hK => ?_) AllReady.nil
            go_simp
            refine hK _ _ ?_
            clear hK K
            refine wpAny_ready (rs := [4]) (by kernel_rfl) (by simp) ?_
            refine AllReady.cons rfl (fun K hK => ?_) AllReady.nil
            go_simp
            refine hK _ _ ?_
            clear hK K
            refine wpAny_ready (rs := [6]) (by kernel_rfl) (by simp) ?_
            refine AllReady.cons rfl (fun K hK => ?_) AllReady.nil
            go_simp
            refine hK _ _ ?_
            clear hK K
            refine wpAny_ready (rs := [7]) (by kernel_rfl) (by simp) ?_
            refine AllReady.cons rfl (fun K hK => ?_) AllReady.nil
            go_simp
            refine hK _ _ ?_
            clear hK K
            refine wpAny_done (by kernel_rfl) ?_ _
            go_wp2
            exact bodyPost_ret (v := .tuple #[.agg #[.slice (some ⟨g, 0, none⟩) 0 0, .int .i64 mk, .int .i64 lt, .int .i64 ov], .agg #[.int .i64 (ael l 0).win, .int .i64 (ael l 0).key, .int .i64 (ael l 0).cnt, .int .i64 (ael l 0).sum, .int .i64 (ael l 0).mn, .int .i64 (ael l 0).mx], .bool true]) (by simp [results, Try.results14, go_sem, q1, q2]) rfl HEND.out
        · go_simp
          refine hK _ _ ?_
          clear hK K
          refine wpAny_ready (rs := [0, 4]) (by kernel_rfl) (by simp) ?_
          refine AllReady.cons rfl (fun K hK => ?_) (AllReady.cons rfl (fun K hK => ?_) AllReady.nil)
          · go_simp
            refine hK _ _ ?_
            clear hK K
            refine wpAny_ready (rs := [4, 5]) (by kernel_rfl) (by simp) ?_
            refine AllReady.cons rfl (fun K hK => ?_) (AllReady.cons rfl (fun K hK => ?_) AllReady.nil)
            · go_simp
              refine hK _ _ ?_
              clear hK K
              refine wpAny_ready (rs := [5]) (by kernel_rfl) (by simp) ?_
              refine AllReady.cons rfl (fun K hK => ?_) AllReady.nil
              go_simp
              refine hK _ _ ?_
              clear hK K
              refine wpAny_ready (rs := [6]) (by kernel_rfl) (by simp) ?_
              refine AllReady.cons rfl (fun K hK => ?_) AllReady.nil
              go_simp
              refine hK _ _ ?_
              clear hK K
              refine wpAny_ready (rs := [7]) (by kernel_rfl) (by simp) ?_
              refine AllReady.cons rfl (fun K hK => ?_) AllReady.nil
              go_simp
              refine hK _ _ ?_
              clear hK K
              refine wpAny_done (by kernel_rfl) ?_ _
              go_wp2
              exact bodyPost_ret (v := .tuple #[.agg #[.slice (some ⟨g, 0, none⟩) 0 0, .int .i64 mk, .int .i64 lt, .int .i64 ov], .agg #[.int .i64 (ael l 0).win, .int .i64 (ael l 0).key, .int .i64 (ael l 0).cnt, .int .i64 (ael l 0).sum, .int .i64 (ael l 0).mn, .int .i64 (ael l 0).mx], .bool true]) (by simp [results, Try.results14, go_sem, q1, q2]) rfl HEND.out
            · go_simp
              refine hK _ _ ?_
              clear hK K
              refine wpAny_ready (rs := [4]) (by kernel_rfl) (by simp) ?_
              refine AllReady.cons rfl (fun K hK => ?_) AllReady.nil
              go_simp
              refine hK _ _ ?_
              clear hK K
              refine wpAny_ready (rs := [6]) (by kernel_rfl) (by simp) ?_
              refine AllReady.cons rfl (fun K hK => ?_) AllReady.nil
              go_simp
              refine hK _ _ ?_
              clear hK K
              refine wpAny_ready (rs := [7]) (by kernel_rfl) (by simp) ?_
              refine AllReady.cons rfl (fun K hK => ?_) AllReady.nil
              go_simp
              refine hK _ _ ?_
              clear hK K
              refine wpAny_done (by kernel_rfl) ?_ _
              go_wp2
              exact bodyPost_ret (v := .tuple #[.agg #[.slice (some ⟨g, 0, none⟩) 0 0, .int .i64 mk, .int .i64 lt, .int .i64 ov], .agg #[.int .i64 (ael l 0).win, .int .i64 (ael l 0).key, .int .i64 (ael l 0).cnt, .int .i64 (ael l 0).sum, .int .i64 (ael l 0).mn, .int .i64 (ael l 0).mx], .bool true]) (by simp [results, Try.results14, go_sem, q1, q2]) rfl HEND.out
          · go_simp
            refine hK _ _ ?_
            clear hK K
            refine wpAny_ready (rs := [0]) (by kernel_rfl) (by simp) ?_
            refine AllReady.cons rfl (fun K hK => ?_) AllReady.nil
            go_simp
            refine hK _ _ ?_
            clear hK K
            refine wpAny_ready (rs := [5]) (by kernel_rfl) (by simp) ?_
            refine AllReady.cons rfl (fun K hK => ?_) AllReady.nil
            go_simp
            refine hK _ _ ?_
            clear hK K
            refine wpAny_ready (rs := [6]) (by kernel_rfl) (by simp) ?_
            refine AllReady.cons rfl (fun K hK => ?_) AllReady.nil
            go_simp
            refine hK _ _ ?_
            clear hK K
            refine wpAny_ready (rs := [7]) (by kernel_rfl) (by simp) ?_
            refine AllReady.cons rfl (fun K hK => ?_) AllReady.nil
            go_simp
            refine hK _ _ ?_
            clear hK K
            refine wpAny_done (by kernel_rfl) ?_ _
            go_wp2
            exact bodyPost_ret (v := .tuple #[.agg #[.slice (some ⟨g, 0, none⟩) 0 0, .int .i64 mk, .int .i64 lt, .int .i64 ov], .agg #[.int .i64 (ael l 0).win, .int .i64 (ael l 0).key, .int .i64 (ael l 0).cnt, .int .i64 (ael l 0).sum, .int .i64 (ael l 0).mn, .int .i64 (ael l 0).mx], .bool true]) (by simp [results, Try.results14, go_sem, q1, q2]) rfl HEND.out
  · go_wp2_with fail
    have ww : w.heap.size + 1 + 1 < w1.heap.size := by omega
    have un := UN.out.put_ 0 (.slice (some ⟨g, 6, none⟩) (l.length - 1) (c1 - 1))
    simp only [List.setIfInBounds_toArray, List.set_cons_zero] at un
    have u0 := U0.out.far_ (p := ⟨w1.heap.size, 0, none⟩) (show w.heap.size ≠ w1.heap.size by omega) (.slice (some ⟨g, 6, none⟩) (l.length - 1) (c1 - 1))
    have u1 := U1.out.far_ (p := ⟨w1.heap.size, 0, none⟩) (show w.heap.size + 1 ≠ w1.heap.size by omega) (.slice (some ⟨g, 6, none⟩) (l.length - 1) (c1 - 1))
    have u2 := U2.out.far_ (p := ⟨w1.heap.size, 0, none⟩) (show w.heap.size + 1 + 1 ≠ w1.heap.size by omega) (.slice (some ⟨g, 6, none⟩) (l.length - 1) (c1 - 1))
    have uo := UO.out.kept (grown_setCell wU w1.heap.size 0 (.slice (some ⟨g, 6, none⟩) (l.length - 1) (c1 - 1))) (.inr hneN.symm)
    have ub := UB.out.setCell (p := ⟨w1.heap.size, 0, none⟩) (show w.heap.size ≤ w1.heap.size by omega) (.slice (some ⟨g, 6, none⟩) (l.length - 1) (c1 - 1))
    have ua := UA.out.below ((Below.refl hi wU).setCell (p := ⟨w1.heap.size, 0, none⟩) (show hi ≤ w1.heap.size by omega) (.slice (some ⟨g, 6, none⟩) (l.length - 1) (c1 - 1)))
    generalize wU.setCell ⟨w1.heap.size, 0, none⟩ (.slice (some ⟨g, 6, none⟩) (l.length - 1) (c1 - 1)) = W6 at un u0 u1 u2 uo ub ua ⊢
    clear q0 q1 q2 qn fn d0 d1 d2 d3 d4 d5
    have HEND := Lib.hid (spec_took mk lt ov (n1 := l.length - 1) (by omega) (Or.inr ⟨h1, rfl, rfl⟩) uo ub hne1 HNE.out hl0)
    obtain ⟨_, _, e, _, hca⟩ := Ags.six ua hl0
    injection e with e
    injection e with e1 e2
    subst e1 e2
    obtain ⟨d0, d1, d2, d3, d4, d5⟩ := hca 0 hl0
    simp only [Nat.zero_mul, Nat.add_zero] at d0 d1 d2 d3 d4 d5
    have q0 := u0.cell
    have q1 := u1.cell
    have q2 := u2.cell
    have qn := un.cell
    have f1 := u1.frozen
    have f2 := u2.frozen
    have ua4 := ua.below (below_set4 (Below.refl hi W6) (show hi ≤ w.heap.size + 1 by omega) (.slice (some ⟨g, 6, none⟩) (l.length - 1) (c1 - 1)) (.int .i64 mk) (.int .i64 lt) (.int .i64 ov))
    obtain ⟨_, _, e, _, hca⟩ := Ags.six ua4 hl0
    injection e with e
    injection e with e1 e2
    subst e1 e2
    obtain ⟨m0, m1, m2, m3, m4, m5⟩ := hca 0 hl0
    simp only [Nat.zero_mul, Nat.add_zero] at m0 m1 m2 m3 m4 m5
    clear un u0 u1 u2 uo ub ua hca ua4
    have hmix : Try.prog.follows .mixedOrders = true := by kernel_rfl
    refine wp_region_any (by assumption) ?_
    change wpAny _ _ _ _ _ _ _ (World.drew _)
    refine wpAny_ready (rs := [0, 1]) (by kernel_rfl) (by simp) ?_
    refine AllReady.cons rfl (fun K hK => ?_) (AllReady.cons rfl (fun K hK => ?_) AllReady.nil)
    · go_simp
      refine hK _ _ ?_
      clear hK K
      refine wpAny_ready (rs := [1, 5]) (by kernel_rfl) (by simp) ?_
      refine AllReady.cons rfl (fun K hK => ?_) (AllReady.cons rfl (fun K hK => ?_) AllReady.nil)
      · go_simp
        refine hK _ _ ?_
        clear hK K
        refine wpAny_ready (rs := [2, 5]) (by kernel_rfl) (by simp) ?_
        refine AllReady.cons rfl (fun K hK => ?_) (AllReady.cons rfl (fun K hK => ?_) AllReady.nil)
        · go_simp
          refine hK _ _ ?_
          clear hK K
          refine wpAny_ready (rs := [3, 5]) (by kernel_rfl) (by simp) ?_
          refine AllReady.cons rfl (fun K hK => ?_) (AllReady.cons rfl (fun K hK => ?_) AllReady.nil)
          · go_simp
            refine hK _ _ ?_
            clear hK K
            refine wpAny_ready (rs := [4, 5]) (by kernel_rfl) (by simp) ?_
            refine AllReady.cons rfl (fun K hK => ?_) (AllReady.cons rfl (fun K hK => ?_) AllReady.nil)
            · go_simp
              refine hK _ _ ?_
              clear hK K
              refine wpAny_ready (rs := [5]) (by kernel_rfl) (by simp) ?_
              refine AllReady.cons rfl (fun K hK => ?_) AllReady.nil
              go_simp
              refine hK _ _ ?_
              clear hK K
              refine wpAny_ready (rs := [6]) (by kernel_rfl) (by simp) ?_
              refine AllReady.cons rfl (fun K hK => ?_) AllReady.nil
              go_simp
              refine hK _ _ ?_
              clear hK K
              refine wpAny_ready (rs := [7]) (by kernel_rfl) (by simp) ?_
              refine AllReady.cons rfl (fun K hK => ?_) AllReady.nil
              go_simp
              refine hK _ _ ?_
              clear hK K
              refine wpAny_done (by kernel_rfl) ?_ _
              go_wp2
              exact bodyPost_ret (v := .tuple #[.agg #[.slice (some ⟨g, 6, none⟩) (l.length - 1) (c1 - 1), .int .i64 mk, .int .i64 lt, .int .i64 ov], .agg #[.int .i64 (ael l 0).win, .int .i64 (ael l 0).key, .int .i64 (ael l 0).cnt, .int .i64 (ael l 0).sum, .int .i64 (ael l 0).mn, .int .i64 (ael l 0).mx], .bool true]) (by simp [results, Try.results14, go_sem, q1, q2]) rfl HEND.out
            · go_simp
              refine hK _ _ ?_
              clear hK K
              refine wpAny_ready (rs := [4]) (by kernel_rfl) (by simp) ?_
              refine AllReady.cons rfl (fun K hK => ?_) AllReady.nil
              go_simp
              refine hK _ _ ?_
              clear hK K
              refine wpAny_ready (rs := [6]) (by kernel_rfl) (by simp) ?_
              refine AllReady.cons rfl (fun K hK => ?_) AllReady.nil
              go_simp
              refine hK _ _ ?_
              clear hK K
              refine wpAny_ready (rs := [7]) (by kernel_rfl) (by simp) ?_
              refine AllReady.cons rfl (fun K hK => ?_) AllReady.nil
              go_simp
              refine hK _ _ ?_
              clear hK K
              refine wpAny_done (by kernel_rfl) ?_ _
              go_wp2
              exact bodyPost_ret (v := .tuple #[.agg #[.slice (some ⟨g, 6, none⟩) (l.length - 1) (c1 - 1), .int .i64 mk, .int .i64 lt, .int .i64 ov], .agg #[.int .i64 (ael l 0).win, .int .i64 (ael l 0).key, .int .i64 (ael l 0).cnt, .int .i64 (ael l 0).sum, .int .i64 (ael l 0).mn, .int .i64 (ael l 0).mx], .bool true]) (by simp [results, Try.results14, go_sem, q1, q2]) rfl HEND.out
          · go_simp
            refine hK _ _ ?_
            clear hK K
            refine wpAny_ready (rs := [3]) (by kernel_rfl) (by simp) ?_
            refine AllReady.cons rfl (fun K hK => ?_) AllReady.nil
            go_simp
            refine hK _ _ ?_
            clear hK K
            refine wpAny_ready (rs := [4]) (by kernel_rfl) (by simp) ?_
            refine AllReady.cons rfl (fun K hK => ?_) AllReady.nil
            go_simp
            refine hK _ _ ?_
            clear hK K
            refine wpAny_ready (rs := [6]) (by kernel_rfl) (by simp) ?_
            refine AllReady.cons rfl (fun K hK => ?_) AllReady.nil
            go_simp
            refine hK _ _ ?_
            clear hK K
            refine wpAny_ready (rs := [7]) (by kernel_rfl) (by simp) ?_
            refine AllReady.cons rfl (fun K hK => ?_) AllReady.nil
            go_simp
            refine hK _ _ ?_
            clear hK K
            refine wpAny_done (by kernel_rfl) ?_ _
            go_wp2
            exact bodyPost_ret (v := .tuple #[.agg #[.slice (some ⟨g, 6, none⟩) (l.length - 1) (c1 - 1), .int .i64 mk, .int .i64 lt, .int .i64 ov], .agg #[.int .i64 (ael l 0).win, .int .i64 (ael l 0).key, .int .i64 (ael l 0).cnt, .int .i64 (ael l 0).sum, .int .i64 (ael l 0).mn, .int .i64 (ael l 0).mx], .bool true]) (by simp [results, Try.results14, go_sem, q1, q2]) rfl HEND.out
        · go_simp
          refine hK _ _ ?_
          clear hK K
          refine wpAny_ready (rs := [2]) (by kernel_rfl) (by simp) ?_
          refine AllReady.cons rfl (fun K hK => ?_) AllReady.nil
          go_simp
          refine hK _ _ ?_
          clear hK K
          refine wpAny_ready (rs := [3]) (by kernel_rfl) (by simp) ?_
          refine AllReady.cons rfl (fun K hK => ?_) AllReady.nil
          go_simp
          refine hK _ _ ?_
          clear hK K
          refine wpAny_ready (rs := [4]) (by kernel_rfl) (by simp) ?_
          refine AllReady.cons rfl (fun K hK => ?_) AllReady.nil
          go_simp
          refine hK _ _ ?_
          clear hK K
          refine wpAny_ready (rs := [6]) (by kernel_rfl) (by simp) ?_
          refine AllReady.cons rfl (fun K hK => ?_) AllReady.nil
          go_simp
          refine hK _ _ ?_
          clear hK K
          refine wpAny_ready (rs := [7]) (by kernel_rfl) (by simp) ?_
          refine AllReady.cons rfl (fun K hK => ?_) AllReady.nil
          go_simp
          refine hK _ _ ?_
          clear hK K
          refine wpAny_done (by kernel_rfl) ?_ _
          go_wp2
          exact bodyPost_ret (v := .tuple #[.agg #[.slice (some ⟨g, 6, none⟩) (l.length - 1) (c1 - 1), .int .i64 mk, .int .i64 lt, .int .i64 ov], .agg #[.int .i64 (ael l 0).win, .int .i64 (ael l 0).key, .int .i64 (ael l 0).cnt, .int .i64 (ael l 0).sum, .int .i64 (ael l 0).mn, .int .i64 (ael l 0).mx], .bool true]) (by simp [results, Try.results14, go_sem, q1, q2]) rfl HEND.out
      · go_simp
        refine hK _ _ ?_
        clear hK K
        refine wpAny_ready (rs := [1]) (by kernel_rfl) (by simp) ?_
        refine AllReady.cons rfl (fun K hK => ?_) AllReady.nil
        go_simp
        refine hK _ _ ?_
        clear hK K
        refine wpAny_ready (rs := [2]) (by kernel_rfl) (by simp) ?_
        refine AllReady.cons rfl (fun K hK => ?_) AllReady.nil
        go_simp
        refine hK _ _ ?_
        clear hK K
        refine wpAny_ready (rs := [3]) (by kernel_rfl) (by simp) ?_
        refine AllReady.cons rfl (fun K hK => ?_) AllReady.nil
        go_simp
        refine hK _ _ ?_
        clear hK K
        refine wpAny_ready (rs := [4]) (by kernel_rfl) (by simp) ?_
        refine AllReady.cons rfl (fun K hK => ?_) AllReady.nil
        go_simp
        refine hK _ _ ?_
        clear hK K
        refine wpAny_ready (rs := [6]) (by kernel_rfl) (by simp) ?_
        refine AllReady.cons rfl (fun K hK => ?_) AllReady.nil
        go_simp
        refine hK _ _ ?_
        clear hK K
        refine wpAny_ready (rs := [7]) (by kernel_rfl) (by simp) ?_
        refine AllReady.cons rfl (fun K hK => ?_) AllReady.nil
        go_simp
        refine hK _ _ ?_
        clear hK K
        refine wpAny_done (by kernel_rfl) ?_ _
        go_wp2
        exact bodyPost_ret (v := .tuple #[.agg #[.slice (some ⟨g, 6, none⟩) (l.length - 1) (c1 - 1), .int .i64 mk, .int .i64 lt, .int .i64 ov], .agg #[.int .i64 (ael l 0).win, .int .i64 (ael l 0).key, .int .i64 (ael l 0).cnt, .int .i64 (ael l 0).sum, .int .i64 (ael l 0).mn, .int .i64 (ael l 0).mx], .bool true]) (by simp [results, Try.results14, go_sem, q1, q2]) rfl HEND.out
    · go_simp
      refine hK _ _ ?_
      clear hK K
      refine wpAny_ready (rs := [0, 2]) (by kernel_rfl) (by simp) ?_
      refine AllReady.cons rfl (fun K hK => ?_) (AllReady.cons rfl (fun K hK => ?_) AllReady.nil)
      · go_simp
        refine hK _ _ ?_
        clear hK K
        refine wpAny_ready (rs := [2, 5]) (by kernel_rfl) (by simp) ?_
        refine AllReady.cons rfl (fun K hK => ?_) (AllReady.cons rfl (fun K hK => ?_) AllReady.nil)
        · go_simp
          refine hK _ _ ?_
          clear hK K
          refine wpAny_ready (rs := [3, 5]) (by kernel_rfl) (by simp) ?_
          refine AllReady.cons rfl (fun K hK => ?_) (AllReady.cons rfl (fun K hK => ?_) AllReady.nil)
          · go_simp
            refine hK _ _ ?_
            clear hK K
            refine wpAny_ready (rs := [4, 5]) (by kernel_rfl) (by simp) ?_
            refine AllReady.cons rfl (fun K hK => ?_) (AllReady.cons rfl (fun K hK => ?_) AllReady.nil)
            · go_simp
              refine hK _ _ ?_
              clear hK K
              refine wpAny_ready (rs := [5]) (by kernel_rfl) (by simp) ?_
              refine AllReady.cons rfl (fun K hK => ?_) AllReady.nil
              go_simp
              refine hK _ _ ?_
              clear hK K
              refine wpAny_ready (rs := [6]) (by kernel_rfl) (by simp) ?_
              refine AllReady.cons rfl (fun K hK => ?_) AllReady.nil
              go_simp
              refine hK _ _ ?_
              clear hK K
              refine wpAny_ready (rs := [7]) (by kernel_rfl) (by simp) ?_
              refine AllReady.cons rfl (fun K hK => ?_) AllReady.nil
              go_simp
              refine hK _ _ ?_
              clear hK K
              refine wpAny_done (by kernel_rfl) ?_ _
              go_wp2
              exact bodyPost_ret (v := .tuple #[.agg #[.slice (some ⟨g, 6, none⟩) (l.length - 1) (c1 - 1), .int .i64 mk, .int .i64 lt, .int .i64 ov], .agg #[.int .i64 (ael l 0).win, .int .i64 (ael l 0).key, .int .i64 (ael l 0).cnt, .int .i64 (ael l 0).sum, .int .i64 (ael l 0).mn, .int .i64 (ael l 0).mx], .bool true]) (by simp [results, Try.results14, go_sem, q1, q2]) rfl HEND.out
            · go_simp
              refine hK _ _ ?_
              clear hK K
              refine wpAny_ready (rs := [4]) (by kernel_rfl) (by simp) ?_
              refine AllReady.cons rfl (fun K hK => ?_) AllReady.nil
              go_simp
              refine hK _ _ ?_
              clear hK K
              refine wpAny_ready (rs := [6]) (by kernel_rfl) (by simp) ?_
              refine AllReady.cons rfl (fun K hK => ?_) AllReady.nil
              go_simp
              refine hK _ _ ?_
              clear hK K
              refine wpAny_ready (rs := [7]) (by kernel_rfl) (by simp) ?_
              refine AllReady.cons rfl (fun K hK => ?_) AllReady.nil
              go_simp
              refine hK _ _ ?_
              clear hK K
              refine wpAny_done (by kernel_rfl) ?_ _
              go_wp2
              exact bodyPost_ret (v := .tuple #[.agg #[.slice (some ⟨g, 6, none⟩) (l.length - 1) (c1 - 1), .int .i64 mk, .int .i64 lt, .int .i64 ov], .agg #[.int .i64 (ael l 0).win, .int .i64 (ael l 0).key, .int .i64 (ael l 0).cnt, .int .i64 (ael l 0).sum, .int .i64 (ael l 0).mn, .int .i64 (ael l 0).mx], .bool true]) (by simp [results, Try.results14, go_sem, q1, q2]) rfl HEND.out
          · go_simp
            refine hK _ _ ?_
            clear hK K
            refine wpAny_ready (rs := [3]) (by kernel_rfl) (by simp) ?_
            refine AllReady.cons rfl (fun K hK => ?_) AllReady.nil
            go_simp
            refine hK _ _ ?_
            clear hK K
            refine wpAny_ready (rs := [4]) (by kernel_rfl) (by simp) ?_
            refine AllReady.cons rfl (fun K hK => ?_) AllReady.nil
            go_simp
            refine hK _ _ ?_
            clear hK K
            refine wpAny_ready (rs := [6]) (by kernel_rfl) (by simp) ?_
            refine AllReady.cons rfl (fun K hK => ?_) AllReady.nil
            go_simp
            refine hK _ _ ?_
            clear hK K
            refine wpAny_ready (rs := [7]) (by kernel_rfl) (by simp) ?_
            refine AllReady.cons rfl (fun K hK => ?_) AllReady.nil
            go_simp
            refine hK _ _ ?_
            clear hK K
            refine wpAny_done (by kernel_rfl) ?_ _
            go_wp2
            exact bodyPost_ret (v := .tuple #[.agg #[.slice (some ⟨g, 6, none⟩) (l.length - 1) (c1 - 1), .int .i64 mk, .int .i64 lt, .int .i64 ov], .agg #[.int .i64 (ael l 0).win, .int .i64 (ael l 0).key, .int .i64 (ael l 0).cnt, .int .i64 (ael l 0).sum, .int .i64 (ael l 0).mn, .int .i64 (ael l 0).mx], .bool true]) (by simp [results, Try.results14, go_sem, q1, q2]) rfl HEND.out
        · go_simp
          refine hK _ _ ?_
          clear hK K
          refine wpAny_ready (rs := [2]) (by kernel_rfl) (by simp) ?_
          refine AllReady.cons rfl (fun K hK => ?_) AllReady.nil
          go_simp
          refine hK _ _ ?_
          clear hK K
          refine wpAny_ready (rs := [3]) (by kernel_rfl) (by simp) ?_
          refine AllReady.cons rfl (fun K hK => ?_) AllReady.nil
          go_simp
          refine hK _ _ ?_
          clear hK K
          refine wpAny_ready (rs := [4]) (by kernel_rfl) (by simp) ?_
          refine AllReady.cons rfl (fun K hK => ?_) AllReady.nil
          go_simp
          refine hK _ _ ?_
          clear hK K
          refine wpAny_ready (rs := [6]) (by kernel_rfl) (by simp) ?_
          refine AllReady.cons rfl (fun K hK => ?_) AllReady.nil
          go_simp
          refine hK _ _ ?_
          clear hK K
          refine wpAny_ready (rs := [7]) (by kernel_rfl) (by simp) ?_
          refine AllReady.cons rfl (fun K hK => ?_) AllReady.nil
          go_simp
          refine hK _ _ ?_
          clear hK K
          refine wpAny_done (by kernel_rfl) ?_ _
          go_wp2
          exact bodyPost_ret (v := .tuple #[.agg #[.slice (some ⟨g, 6, none⟩) (l.length - 1) (c1 - 1), .int .i64 mk, .int .i64 lt, .int .i64 ov], .agg #[.int .i64 (ael l 0).win, .int .i64 (ael l 0).key, .int .i64 (ael l 0).cnt, .int .i64 (ael l 0).sum, .int .i64 (ael l 0).mn, .int .i64 (ael l 0).mx], .bool true]) (by simp [results, Try.results14, go_sem, q1, q2]) rfl HEND.out
      · go_simp
        refine hK _ _ ?_
        clear hK K
        refine wpAny_ready (rs := [0, 3]) (by kernel_rfl) (by simp) ?_
        refine AllReady.cons rfl (fun K hK => ?_) (AllReady.cons rfl (fun K hK => ?_) AllReady.nil)
        · go_simp
          refine hK _ _ ?_
          clear hK K
          refine wpAny_ready (rs := [3, 5]) (by kernel_rfl) (by simp) ?_
          refine AllReady.cons rfl (fun K hK => ?_) (AllReady.cons rfl (fun K hK => ?_) AllReady.nil)
          · go_simp
            refine hK _ _ ?_
            clear hK K
            refine wpAny_ready (rs := [4, 5]) (by kernel_rfl) (by simp) ?_
            refine AllReady.cons rfl (fun K hK => ?_) (AllReady.cons rfl (fun K hK => ?_) AllReady.nil)
            · go_simp
              refine hK _ _ ?_
              clear hK K
              refine wpAny_ready (rs := [5]) (by kernel_rfl) (by simp) ?_
              refine AllReady.cons rfl (fun K hK => ?_) AllReady.nil
              go_simp
              refine hK _ _ ?_
              clear hK K
              refine wpAny_ready (rs := [6]) (by kernel_rfl) (by simp) ?_
              refine AllReady.cons rfl (fun K hK => ?_) AllReady.nil
              go_simp
              refine hK _ _ ?_
              clear hK K
              refine wpAny_ready (rs := [7]) (by kernel_rfl) (by simp) ?_
              refine AllReady.cons rfl (fun K hK => ?_) AllReady.nil
              go_simp
              refine hK _ _ ?_
              clear hK K
              refine wpAny_done (by kernel_rfl) ?_ _
              go_wp2
              exact bodyPost_ret (v := .tuple #[.agg #[.slice (some ⟨g, 6, none⟩) (l.length - 1) (c1 - 1), .int .i64 mk, .int .i64 lt, .int .i64 ov], .agg #[.int .i64 (ael l 0).win, .int .i64 (ael l 0).key, .int .i64 (ael l 0).cnt, .int .i64 (ael l 0).sum, .int .i64 (ael l 0).mn, .int .i64 (ael l 0).mx], .bool true]) (by simp [results, Try.results14, go_sem, q1, q2]) rfl HEND.out
            · go_simp
              refine hK _ _ ?_
              clear hK K
              refine wpAny_ready (rs := [4]) (by kernel_rfl) (by simp) ?_
              refine AllReady.cons rfl (fun K hK => ?_) AllReady.nil
              go_simp
              refine hK _ _ ?_
              clear hK K
              refine wpAny_ready (rs := [6]) (by kernel_rfl) (by simp) ?_
              refine AllReady.cons rfl (fun K hK => ?_) AllReady.nil
              go_simp
              refine hK _ _ ?_
              clear hK K
              refine wpAny_ready (rs := [7]) (by kernel_rfl) (by simp) ?_
              refine AllReady.cons rfl (fun K hK => ?_) AllReady.nil
              go_simp
              refine hK _ _ ?_
              clear hK K
              refine wpAny_done (by kernel_rfl) ?_ _
              go_wp2
              exact bodyPost_ret (v := .tuple #[.agg #[.slice (some ⟨g, 6, none⟩) (l.length - 1) (c1 - 1), .int .i64 mk, .int .i64 lt, .int .i64 ov], .agg #[.int .i64 (ael l 0).win, .int .i64 (ael l 0).key, .int .i64 (ael l 0).cnt, .int .i64 (ael l 0).sum, .int .i64 (ael l 0).mn, .int .i64 (ael l 0).mx], .bool true]) (by simp [results, Try.results14, go_sem, q1, q2]) rfl HEND.out
          · go_simp
            refine hK _ _ ?_
            clear hK K
            refine wpAny_ready (rs := [3]) (by kernel_rfl) (by simp) ?_
            refine AllReady.cons rfl (fun K hK => ?_) AllReady.nil
            go_simp
            refine hK _ _ ?_
            clear hK K
            refine wpAny_ready (rs := [4]) (by kernel_rfl) (by simp) ?_
            refine AllReady.cons rfl (fun K hK => ?_) AllReady.nil
            go_simp
            refine hK _ _ ?_
            clear hK K
            refine wpAny_ready (rs := [6]) (by kernel_rfl) (by simp) ?_
            refine AllReady.cons rfl (fun K hK => ?_) AllReady.nil
            go_simp
            refine hK _ _ ?_
            clear hK K
            refine wpAny_ready (rs := [7]) (by kernel_rfl) (by simp) ?_
            refine AllReady.cons rfl (fun K hK => ?_) AllReady.nil
            go_simp
            refine hK _ _ ?_
            clear hK K
            refine wpAny_done (by kernel_rfl) ?_ _
            go_wp2
            exact bodyPost_ret (v := .tuple #[.agg #[.slice (some ⟨g, 6, none⟩) (l.length - 1) (c1 - 1), .int .i64 mk, .int .i64 lt, .int .i64 ov], .agg #[.int .i64 (ael l 0).win, .int .i64 (ael l 0).key, .int .i64 (ael l 0).cnt, .int .i64 (ael l 0).sum, .int .i64 (ael l 0).mn, .int .i64 (ael l 0).mx], .bool true]) (by simp [results, Try.results14, go_sem, q1, q2]) rfl HEND.out
        · go_simp
          refine hK _ _ ?_
          clear hK K
          refine wpAny_ready (rs := [0, 4]) (by kernel_rfl) (by simp) ?_
          refine AllReady.cons rfl (fun K hK => ?_) (AllReady.cons rfl (fun K hK => ?_) AllReady.nil)
          · go_simp
            refine hK _ _ ?_
            clear hK K
            refine wpAny_ready (rs := [4, 5]) (by kernel_rfl) (by simp) ?_
            refine AllReady.cons rfl (fun K hK => ?_) (AllReady.cons rfl (fun K hK => ?_) AllReady.nil)
            · go_simp
              refine hK _ _ ?_
              clear hK K
              refine wpAny_ready (rs := [5]) (by kernel_rfl) (by simp) ?_
              refine AllReady.cons rfl (fun K hK => ?_) AllReady.nil
              go_simp
              refine hK _ _ ?_
              clear hK K
              refine wpAny_ready (rs := [6]) (by kernel_rfl) (by simp) ?_
              refine AllReady.cons rfl (fun K hK => ?_) AllReady.nil
              go_simp
              refine hK _ _ ?_
              clear hK K
              refine wpAny_ready (rs := [7]) (by kernel_rfl) (by simp) ?_
              refine AllReady.cons rfl (fun K hK => ?_) AllReady.nil
              go_simp
              refine hK _ _ ?_
              clear hK K
              refine wpAny_done (by kernel_rfl) ?_ _
              go_wp2
              exact bodyPost_ret (v := .tuple #[.agg #[.slice (some ⟨g, 6, none⟩) (l.length - 1) (c1 - 1), .int .i64 mk, .int .i64 lt, .int .i64 ov], .agg #[.int .i64 (ael l 0).win, .int .i64 (ael l 0).key, .int .i64 (ael l 0).cnt, .int .i64 (ael l 0).sum, .int .i64 (ael l 0).mn, .int .i64 (ael l 0).mx], .bool true]) (by simp [results, Try.results14, go_sem, q1, q2]) rfl HEND.out
            · go_simp
              refine hK _ _ ?_
              clear hK K
              refine wpAny_ready (rs := [4]) (by kernel_rfl) (by simp) ?_
              refine AllReady.cons rfl (fun K hK => ?_) AllReady.nil
              go_simp
              refine hK _ _ ?_
              clear hK K
              refine wpAny_ready (rs := [6]) (by kernel_rfl) (by simp) ?_
              refine AllReady.cons rfl (fun K hK => ?_) AllReady.nil
              go_simp
              refine hK _ _ ?_
              clear hK K
              refine wpAny_ready (rs := [7]) (by kernel_rfl) (by simp) ?_
              refine AllReady.cons rfl (fun K hK => ?_) AllReady.nil
              go_simp
              refine hK _ _ ?_
              clear hK K
              refine wpAny_done (by kernel_rfl) ?_ _
              go_wp2
              exact bodyPost_ret (v := .tuple #[.agg #[.slice (some ⟨g, 6, none⟩) (l.length - 1) (c1 - 1), .int .i64 mk, .int .i64 lt, .int .i64 ov], .agg #[.int .i64 (ael l 0).win, .int .i64 (ael l 0).key, .int .i64 (ael l 0).cnt, .int .i64 (ael l 0).sum, .int .i64 (ael l 0).mn, .int .i64 (ael l 0).mx], .bool true]) (by simp [results, Try.results14, go_sem, q1, q2]) rfl HEND.out
          · go_simp
            refine hK _ _ ?_
            clear hK K
            refine wpAny_ready (rs := [0]) (by kernel_rfl) (by simp) ?_
            refine AllReady.cons rfl (fun K hK => ?_) AllReady.nil
            go_simp
            refine hK _ _ ?_
            clear hK K
            refine wpAny_ready (rs := [5]) (by kernel_rfl) (by simp) ?_
            refine AllReady.cons rfl (fun K hK => ?_) AllReady.nil
            go_simp
            refine hK _ _ ?_
            clear hK K
            refine wpAny_ready (rs := [6]) (by kernel_rfl) (by simp) ?_
            refine AllReady.cons rfl (fun K hK => ?_) AllReady.nil
            go_simp
            refine hK _ _ ?_
            clear hK K
            refine wpAny_ready (rs := [7]) (by kernel_rfl) (by simp) ?_
            refine AllReady.cons rfl (fun K hK => ?_) AllReady.nil
            go_simp
            refine hK _ _ ?_
            clear hK K
            refine wpAny_done (by kernel_rfl) ?_ _
            go_wp2
            exact bodyPost_ret (v := .tuple #[.agg #[.slice (some ⟨g, 6, none⟩) (l.length - 1) (c1 - 1), .int .i64 mk, .int .i64 lt, .int .i64 ov], .agg #[.int .i64 (ael l 0).win, .int .i64 (ael l 0).key, .int .i64 (ael l 0).cnt, .int .i64 (ael l 0).sum, .int .i64 (ael l 0).mn, .int .i64 (ael l 0).mx], .bool true]) (by simp [results, Try.results14, go_sem, q1, q2]) rfl HEND.out
set_option maxHeartbeats 8000000 in
set_option maxRecDepth 100000 in
theorem specTake_yes2 (a : Option Addr) (c : Nat) (mk lt ov sz : Int) (l : List Ag) (hi : Nat) (w : World) (hr : Ags w hi a c l) (hB : hi ≤ w.heap.size) (hlen : l.length ≤ 1048576) (hS : sokB l mk lt ov = true) (hZ : inB sz 1 1000000 = true) (hl : ¬ l = []) (hcl : ¬ closedL l mk lt ov sz = []) :
    Calls Try.prog 14 #[.agg #[.slice a l.length c, .int .i64 mk, .int .i64 lt, .int .i64 ov], .int .i64 sz, .bool false] w (SpecTook l mk lt ov w) := by
  have b3 := (((Below.refl w.heap.size w).alloc (Nat.le_refl _) (.cells #[.slice a l.length c, .int .i64 mk, .int .i64 lt, .int .i64 ov] 29)).alloc (by simp) (.cells #[.slice none 0 0, .int .i64 0, .int .i64 0, .int .i64 0] 29)).alloc (by simp; omega) (.cells #[.int .i64 0, .int .i64 0, .int .i64 0, .int .i64 0, .int .i64 0, .int .i64 0] 37)
  have HN := Lib.hid (hr.below (b3.mono hB))
  have k1 := (Blk.new (w.alloc (.cells #[.slice a l.length c, .int .i64 mk, .int .i64 lt, .int .i64 ov] 29)) 29 #[.slice none 0 0, .int .i64 0, .int .i64 0, .int .i64 0]).alloc (.cells #[.int .i64 0, .int .i64 0, .int .i64 0, .int .i64 0, .int .i64 0, .int .i64 0] 37)
  rw [World.size_alloc] at k1
  have k2 := Blk.new ((w.alloc (.cells #[.slice a l.length c, .int .i64 mk, .int .i64 lt, .int .i64 ov] 29)).alloc (.cells #[.slice none 0 0, .int .i64 0, .int .i64 0, .int .i64 0] 29)) 37 #[.int .i64 0, .int .i64 0, .int .i64 0, .int .i64 0, .int .i64 0, .int .i64 0]
  rw [World.size_alloc, World.size_alloc] at k2
  have K0 := Lib.hid (((Blk.new w 29 #[.slice a l.length c, .int .i64 mk, .int .i64 lt, .int .i64 ov]).alloc (.cells #[.slice none 0 0, .int .i64 0, .int .i64 0, .int .i64 0] 29)).alloc (.cells #[.int .i64 0, .int .i64 0, .int .i64 0, .int .i64 0, .int .i64 0, .int .i64 0] 37))
  have K1 := Lib.hid k1
  have K2 := Lib.hid k2
  have B3 := Lib.hid b3
  have HOK := Lib.hid (fun (W : World) (h : Ags W hi a c l) (h2 : hi ≤ W.heap.size) => specShardOk_any a l.length c mk lt ov l hi W h rfl h2)
  clear hr b3 k1 k2
  rw [hS] at HOK
  have CI := Lib.hid (fun W => specIn_any sz 1 1000000 W)
  rw [hZ] at CI
  have HCL := Lib.hid hcl
  clear hcl
  go_enter Try.func14, Try.ntmps14
  go_wp2_with fail
  refine (specCopy_any a _ c mk lt ov l _ _ HN.out rfl (by simp; omega) hlen).mono ?_
  rintro e w1 ⟨a1, c1, rfl, ho, hb⟩
  have HNE : Hid (some (w.heap.size + 1 + 1) ≠ (Value.slice a1 l.length c1).ownBlock) := Lib.hid (own_ge ho (by simp))
  have s1 := hb.size
  simp only [World.size_alloc] at s1
  have T0 := Lib.hid ((K0.out.below hb).alloc (.cells #[.slice a1 l.length c1, .int .i64 mk, .int .i64 lt, .int .i64 ov] 29))
  have T1 := Lib.hid ((K1.out.below hb).alloc (.cells #[.slice a1 l.length c1, .int .i64 mk, .int .i64 lt, .int .i64 ov] 29))
  have T2 := Lib.hid ((K2.out.below hb).alloc (.cells #[.slice a1 l.length c1, .int .i64 mk, .int .i64 lt, .int .i64 ov] 29))
  have TN := Lib.hid (Blk.new w1 29 #[.slice a1 l.length c1, .int .i64 mk, .int .i64 lt, .int .i64 ov])
  have TO := Lib.hid ((owns_less ho (show w.heap.size ≤ _ by simp; omega)).alloc (.cells #[.slice a1 l.length c1, .int .i64 mk, .int .i64 lt, .int .i64 ov] 29))
  have TB := Lib.hid ((B3.out.trans (hb.mono (by simp; omega))).alloc (by omega) (.cells #[.slice a1 l.length c1, .int .i64 mk, .int .i64 lt, .int .i64 ov] 29))
  have TA := Lib.hid ((HN.out.below (hb.mono (by simp; omega))).below ((Below.refl hi w1).alloc (by omega) (.cells #[.slice a1 l.length c1, .int .i64 mk, .int .i64 lt, .int .i64 ov] 29)))
  have TH : hi ≤ (w1.alloc (.cells #[.slice a1 l.length c1, .int .i64 mk, .int .i64 lt, .int .i64 ov] 29)).heap.size := by simp; omega
  have TW : w.heap.size ≤ (w1.alloc (.cells #[.slice a1 l.length c1, .int .i64 mk, .int .i64 lt, .int .i64 ov] 29)).heap.size := by simp; omega
  have TV : w.heap.size + 3 ≤ (w1.alloc (.cells #[.slice a1 l.length c1, .int .i64 mk, .int .i64 lt, .int .i64 ov] 29)).heap.size := by simp; omega
  have q0 := T0.out.cell
  clear ho hb
  go_wp2_with fail
  refine (HOK.out _ TA.out TH).mono ?_
  rintro e wU ⟨rfl, hb⟩
  have U0 := Lib.hid (T0.out.below hb)
  have U1 := Lib.hid (T1.out.below hb)
  have U2 := Lib.hid (T2.out.below hb)
  have UN := Lib.hid (TN.out.below hb)
  have UO := Lib.hid (owns_below TO.out hb)
  have UA := Lib.hid (TA.out.below (hb.mono TH))
  have UB := Lib.hid (TB.out.trans (hb.mono TW))
  have UH : hi ≤ wU.heap.size := Nat.le_trans TH hb.size
  have UW : w.heap.size + 3 ≤ wU.heap.size := Nat.le_trans TV hb.size
  have UV := UW
  replace UW : w.heap.size ≤ wU.heap.size := by omega
  clear hb q0
  have q0 := U0.out.cell
  go_wp2_with fail
  refine (CI.out _).mono ?_
  rintro e w' ⟨rfl, rfl⟩
  go_wp2_with fail
  refine (specClosed_any a c mk lt ov sz l hi _ UA.out UH).mono ?_
  rintro e wX ⟨ax, cx, rfl, _, hb⟩
  have hcl := HCL.out
  generalize closedL l mk lt ov sz = RR at hcl ⊢
  have hl1 : ((l.length : Int) == 0) = false := by simpa using hl
  have hr1 : ((RR.length : Int) == 0) = false := by simpa using hcl
  have X0 := Lib.hid (U0.out.below hb)
  have X1 := Lib.hid (U1.out.below hb)
  have X2 := Lib.hid (U2.out.below hb)
  have XN := Lib.hid (UN.out.below hb)
  have XO := Lib.hid (owns_below UO.out hb)
  have XA := Lib.hid (UA.out.below (hb.mono UH))
  have XB := Lib.hid (UB.out.trans (hb.mono UW))
  have XH : hi ≤ wX.heap.size := Nat.le_trans UH hb.size
  have XW : w.heap.size + 3 ≤ wX.heap.size := Nat.le_trans UV hb.size
  have XV := XW
  replace XW : w.heap.size ≤ wX.heap.size := by omega
  clear hb q0
  have q0 := X0.out.cell
  have hl0 : 0 < l.length := by
    cases l with
    | nil => exact absurd rfl hl
    | cons _ _ => simp
  obtain ⟨g, rfl, hg1, hg2⟩ := own_at XO.out hl0
  obtain ⟨ba, oa, rfl, hba, hca⟩ := Ags.six XA.out hl0
  obtain ⟨d0, d1, d2, d3, d4, d5⟩ := hca 0 hl0
  simp only [Nat.zero_mul, Nat.add_zero] at d0 d1 d2 d3 d4 d5
  have hne1 := own_blk_ne XO.out X1.out (by decide)
  have hneN := own_blk_ne XO.out XN.out (by decide)
  have q1 := X1.out.cell
  have q2 := X2.out.cell
  have qn := XN.out.cell
  have fn := XN.out.frozen
  have i1 : (1 : Int) ≤ (l.length : Int) := by omega
  have hcc := (ownR_cap XO.out).1
  have hcc2 := (ownR_cap XO.out).2
  by_cases h1 : c1 = 1
  · subst h1
    go_wp2_with fail
    have ww : w.heap.size + 1 + 1 < w1.heap.size := by omega
    have un := XN.out.put_ 0 (.slice (some ⟨g, 0, none⟩) 0 0)
    simp only [List.setIfInBounds_toArray, List.set_cons_zero] at un
    have u0 := X0.out.far_ (p := ⟨w1.heap.size, 0, none⟩) (show w.heap.size ≠ w1.heap.size by omega) (.slice (some ⟨g, 0, none⟩) 0 0)
    have u1 := X1.out.far_ (p := ⟨w1.heap.size, 0, none⟩) (show w.heap.size + 1 ≠ w1.heap.size by omega) (.slice (some ⟨g, 0, none⟩) 0 0)
    have u2 := X2.out.far_ (p := ⟨w1.heap.size, 0, none⟩) (show w.heap.size + 1 + 1 ≠ w1.heap.size by omega) (.slice (some ⟨g, 0, none⟩) 0 0)
    have uo := XO.out.kept (grown_setCell wX w1.heap.size 0 (.slice (some ⟨g, 0, none⟩) 0 0)) (.inr hneN.symm)
    have ub := XB.out.setCell (p := ⟨w1.heap.size, 0, none⟩) (show w.heap.size ≤ w1.heap.size by omega) (.slice (some ⟨g, 0, none⟩) 0 0)
    have ua := XA.out.below ((Below.refl hi wX).setCell (p := ⟨w1.heap.size, 0, none⟩) (show hi ≤ w1.heap.size by omega) (.slice (some ⟨g, 0, none⟩) 0 0))
    generalize wX.setCell ⟨w1.heap.size, 0, none⟩ (.slice (some ⟨g, 0, none⟩) 0 0) = W6 at un u0 u1 u2 uo ub ua ⊢
    clear q0 q1 q2 qn fn d0 d1 d2 d3 d4 d5
    have HEND := Lib.hid (spec_took mk lt ov (n1 := 0) (by omega) (Or.inl ⟨rfl, rfl, rfl⟩) uo ub hne1 HNE.out hl0)
    obtain ⟨_, _, e, _, hca⟩ := Ags.six ua hl0
    injection e with e
    injection e with e1 e2
    subst e1 e2
    obtain ⟨d0, d1, d2, d3, d4, d5⟩ := hca 0 hl0
    simp only [Nat.zero_mul, Nat.add_zero] at d0 d1 d2 d3 d4 d5
    have q0 := u0.cell
    have q1 := u1.cell
    have q2 := u2.cell
    have qn := un.cell
    have f1 := u1.frozen
    have f2 := u2.frozen
    have ua4 := ua.below (below_set4 (Below.refl hi W6) (show hi ≤ w.heap.size + 1 by omega) (.slice (some ⟨g, 0, none⟩) 0 0) (.int .i64 mk) (.int .i64 lt) (.int .i64 ov))
    obtain ⟨_, _, e, _, hca⟩ := Ags.six ua4 hl0
    injection e with e
    injection e with e1 e2
    subst e1 e2
    obtain ⟨m0, m1, m2, m3, m4, m5⟩ := hca 0 hl0
    simp only [Nat.zero_mul, Nat.add_zero] at m0 m1 m2 m3 m4 m5
    clear un u0 u1 u2 uo ub ua hca ua4
    have hmix : Try.prog.follows .mixedOrders = true := by kernel_rfl
    refine wp_region_any (by assumption) ?_
    change wpAny _ _ _ _ _ _ _ (World.drew _)
    refine wpAny_ready (rs := [0, 1]) (by kernel_rfl) (by simp) ?_
    refine AllReady.cons rfl (fun K hK => ?_) (AllReady.cons rfl (fun K hK => ?_) AllReady.nil)
    · go_simp
      refine hK _ _ ?_
      clear hK K
      refine wpAny_ready (rs := [1, 5]) (by kernel_rfl) (by simp) ?_
      refine AllReady.cons rfl (fun K hK => ?_) (AllReady.cons rfl (fun K hK => ?_) AllReady.nil)
      · go_simp
        refine hK _ _ ?_
        clear hK K
        refine wpAny_ready (rs := [2, 5]) (by kernel_rfl) (by simp) ?_
        refine AllReady.cons rfl (fun K hK => ?_) (AllReady.cons rfl (fun K hK => ?_) AllReady.nil)
        · go_simp
          refine hK _ _ ?_
          clear hK K
          refine wpAny_ready (rs := [3, 5]) (by kernel_rfl) (by simp) ?_
          refine AllReady.cons rfl (fun K hK => ?_) (AllReady.cons rfl (fun K hK => ?_) AllReady.nil)
          · go_simp
            refine hK _ _ ?_
            clear hK K
            refine wpAny_ready (rs := [4, 5]) (by kernel_rfl) (by simp) ?_
            refine AllReady.cons rfl (fun K hK => ?_) (AllReady.cons rfl (fun K hK => ?_) AllReady.nil)
            · go_simp
              refine hK _ _ ?_
              clear hK K
              refine wpAny_ready (rs := [5]) (by kernel_rfl) (by simp) ?_
              refine AllReady.cons rfl (fun K hK => ?_) AllReady.nil
              go_simp
              refine hK _ _ ?_
              clear hK K
              refine wpAny_ready (rs := [6]) (by kernel_rfl) (by simp) ?_
              refine AllReady.cons rfl (fun K hK => ?_) AllReady.nil
              go_simp
              refine hK _ _ ?_
              clear hK K
              refine wpAny_ready (rs := [7]) (by kernel_rfl) (by simp) ?_
              refine AllReady.cons rfl (fun K hK => ?_) AllReady.nil
              go_simp
              refine hK _ _ ?_
              clear hK K
              refine wpAny_done (by kernel_rfl) ?_ _
              go_wp2
              exact bodyPost_ret (v := .tuple #[.agg #[.slice (some ⟨g, 0, none⟩) 0 0, .int .i64 mk, .int .i64 lt, .int .i64 ov], .agg #[.int .i64 (ael l 0).win, .int .i64 (ael l 0).key, .int .i64 (ael l 0).cnt, .int .i64 (ael l 0).sum, .int .i64 (ael l 0).mn, .int .i64 (ael l 0).mx], .bool true]) (by simp [results, Try.results14, go_sem, q1, q2]) rfl HEND.out
            · go_simp
              refine hK _ _ ?_
              clear hK K
              refine wpAny_ready (rs := [4]) (by kernel_rfl) (by simp) ?_
              refine AllReady.cons rfl (fun K hK => ?_) AllReady.nil
              go_simp
              refine hK _ _ ?_
              clear hK K
              refine wpAny_ready (rs := [6]) (by kernel_rfl) (by simp) ?_
              refine AllReady.cons rfl (fun K hK => ?_) AllReady.nil
              go_simp
              refine hK _ _ ?_
              clear hK K
              refine wpAny_ready (rs := [7]) (by kernel_rfl) (by simp) ?_
              refine AllReady.cons rfl (fun K hK => ?_) AllReady.nil
              go_simp
              refine hK _ _ ?_
              clear hK K
              refine wpAny_done (by kernel_rfl) ?_ _
              go_wp2
              exact bodyPost_ret (v := .tuple #[.agg #[.slice (some ⟨g, 0, none⟩) 0 0, .int .i64 mk, .int .i64 lt, .int .i64 ov], .agg #[.int .i64 (ael l 0).win, .int .i64 (ael l 0).key, .int .i64 (ael l 0).cnt, .int .i64 (ael l 0).sum, .int .i64 (ael l 0).mn, .int .i64 (ael l 0).mx], .bool true]) (by simp [results, Try.results14, go_sem, q1, q2]) rfl HEND.out
          · go_simp
            refine hK _ _ ?_
            clear hK K
            refine wpAny_ready (rs := [3]) (by kernel_rfl) (by simp) ?_
            refine AllReady.cons rfl (fun K hK => ?_) AllReady.nil
            go_simp
            refine hK _ _ ?_
            clear hK K
            refine wpAny_ready (rs := [4]) (by kernel_rfl) (by simp) ?_
            refine AllReady.cons rfl (fun K hK => ?_) AllReady.nil
            go_simp
            refine hK _ _ ?_
            clear hK K
            refine wpAny_ready (rs := [6]) (by kernel_rfl) (by simp) ?_
            refine AllReady.cons rfl (fun K hK => ?_) AllReady.nil
            go_simp
            refine hK _ _ ?_
            clear hK K
            refine wpAny_ready (rs := [7]) (by kernel_rfl) (by simp) ?_
            refine AllReady.cons rfl (fun K hK => ?_) AllReady.nil
            go_simp
            refine hK _ _ ?_
            clear hK K
            refine wpAny_done (by kernel_rfl) ?_ _
            go_wp2
            exact bodyPost_ret (v := .tuple #[.agg #[.slice (some ⟨g, 0, none⟩) 0 0, .int .i64 mk, .int .i64 lt, .int .i64 ov], .agg #[.int .i64 (ael l 0).win, .int .i64 (ael l 0).key, .int .i64 (ael l 0).cnt, .int .i64 (ael l 0).sum, .int .i64 (ael l 0).mn, .int .i64 (ael l 0).mx], .bool true]) (by simp [results, Try.results14, go_sem, q1, q2]) rfl HEND.out
        · go_simp
          refine hK _ _ ?_
          clear hK K
          refine wpAny_ready (rs := [2]) (by kernel_rfl) (by simp) ?_
          refine AllReady.cons rfl (fun K hK => ?_) AllReady.nil
          go_simp
          refine hK _ _ ?_
          clear hK K
          refine wpAny_ready (rs := [3]) (by kernel_rfl) (by simp) ?_
          refine AllReady.cons rfl (fun K hK => ?_) AllReady.nil
          go_simp
          refine hK _ _ ?_
          clear hK K
          refine wpAny_ready (rs := [4]) (by kernel_rfl) (by simp) ?_
          refine AllReady.cons rfl (fun K hK => ?_) AllReady.nil
          go_simp
          refine hK _ _ ?_
          clear hK K
          refine wpAny_ready (rs := [6]) (by kernel_rfl) (by simp) ?_
          refine AllReady.cons rfl (fun K hK => ?_) AllReady.nil
          go_simp
          refine hK _ _ ?_
          clear hK K
          refine wpAny_ready (rs := [7]) (by kernel_rfl) (by simp) ?_
          refine AllReady.cons rfl (fun K hK => ?_) AllReady.nil
          go_simp
          refine hK _ _ ?_
          clear hK K
          refine wpAny_done (by kernel_rfl) ?_ _
          go_wp2
          exact bodyPost_ret (v := .tuple #[.agg #[.slice (some ⟨g, 0, none⟩) 0 0, .int .i64 mk, .int .i64 lt, .int .i64 ov], .agg #[.int .i64 (ael l 0).win, .int .i64 (ael l 0).key, .int .i64 (ael l 0).cnt, .int .i64 (ael l 0).sum, .int .i64 (ael l 0).mn, .int .i64 (ael l 0).mx], .bool true]) (by simp [results, Try.results14, go_sem, q1, q2]) rfl HEND.out
      · go_simp
        refine hK _ _ ?_
        clear hK K
        refine wpAny_ready (rs := [1]) (by kernel_rfl) (by simp) ?_
        refine AllReady.cons rfl (fun K hK => ?_) AllReady.nil
        go_simp
        refine hK _ _ ?_
        clear hK K
        refine wpAny_ready (rs := [2]) (by kernel_rfl) (by simp) ?_
        refine AllReady.cons rfl (fun K hK => ?_) AllReady.nil
        go_simp
        refine hK _ _ ?_
        clear hK K
        refine wpAny_ready (rs := [3]) (by kernel_rfl) (by simp) ?_
        refine AllReady.cons rfl (fun K hK => ?_) AllReady.nil
        go_simp
        refine hK _ _ ?_
        clear hK K
        refine wpAny_ready (rs := [4]) (by kernel_rfl) (by simp) ?_
        refine AllReady.cons rfl (fun K hK => ?_) AllReady.nil
        go_simp
        refine hK _ _ ?_
        clear hK K
        refine wpAny_ready (rs := [6]) (by kernel_rfl) (by simp) ?_
        refine AllReady.cons rfl (fun K hK => ?_) AllReady.nil
        go_simp
        refine hK _ _ ?_
        clear hK K
        refine wpAny_ready (rs := [7]) (by kernel_rfl) (by simp) ?_
        refine AllReady.cons rfl (fun K hK => ?_) AllReady.nil
        go_simp
        refine hK _ _ ?_
        clear hK K
        refine wpAny_done (by kernel_rfl) ?_ _
        go_wp2
        exact bodyPost_ret (v := .tuple #[.agg #[.slice (some ⟨g, 0, none⟩) 0 0, .int .i64 mk, .int .i64 lt, .int .i64 ov], .agg #[.int .i64 (ael l 0).win, .int .i64 (ael l 0).key, .int .i64 (ael l 0).cnt, .int .i64 (ael l 0).sum, .int .i64 (ael l 0).mn, .int .i64 (ael l 0).mx], .bool true]) (by simp [results, Try.results14, go_sem, q1, q2]) rfl HEND.out
    · go_simp
      refine hK _ _ ?_
      clear hK K
      refine wpAny_ready (rs := [0, 2]) (by kernel_rfl) (by simp) ?_
      refine AllReady.cons rfl (fun K hK => ?_) (AllReady.cons rfl (fun K hK => ?_) AllReady.nil)
      · go_simp
        refine hK _ _ ?_
        clear hK K
        refine wpAny_ready (rs := [2, 5]) (by kernel_rfl) (by simp) ?_
        refine AllReady.cons rfl (fun K hK => ?_) (AllReady.cons rfl (fun K hK => ?_) AllReady.nil)
        · go_simp
          refine hK _ _ ?_
          clear hK K
          refine wpAny_ready (rs := [3, 5]) (by kernel_rfl) (by simp) ?_
          refine AllReady.cons rfl (fun K hK => ?_) (AllReady.cons rfl (fun K hK => ?_) AllReady.nil)
          · go_simp
            refine hK _ _ ?_
            clear hK K
            refine wpAny_ready (rs := [4, 5]) (by kernel_rfl) (by simp) ?_
            refine AllReady.cons rfl (fun K hK => ?_) (AllReady.cons rfl (fun K hK => ?_) AllReady.nil)
            · go_simp
              refine hK _ _ ?_
              clear hK K
              refine wpAny_ready (rs := [5]) (by kernel_rfl) (by simp) ?_
              refine AllReady.cons rfl (fun K hK => ?_) AllReady.nil
              go_simp
              refine hK _ _ ?_
              clear hK K
              refine wpAny_ready (rs := [6]) (by kernel_rfl) (by simp) ?_
              refine AllReady.cons rfl (fun K hK => ?_) AllReady.nil
              go_simp
              refine hK _ _ ?_
              clear hK K
              refine wpAny_ready (rs := [7]) (by kernel_rfl) (by simp) ?_
              refine AllReady.cons rfl (fun K hK => ?_) AllReady.nil
              go_simp
              refine hK _ _ ?_
              clear hK K
              refine wpAny_done (by kernel_rfl) ?_ _
              go_wp2
              exact bodyPost_ret (v := .tuple #[.agg #[.slice (some ⟨g, 0, none⟩) 0 0, .int .i64 mk, .int .i64 lt, .int .i64 ov], .agg #[.int .i64 (ael l 0).win, .int .i64 (ael l 0).key, .int .i64 (ael l 0).cnt, .int .i64 (ael l 0).sum, .int .i64 (ael l 0).mn, .int .i64 (ael l 0).mx], .bool true]) (by simp [results, Try.results14, go_sem, q1, q2]) rfl HEND.out
            · go_simp
              refine hK _ _ ?_
              clear hK K
              refine wpAny_ready (rs := [4]) (by kernel_rfl) (by simp) ?_
              refine AllReady.cons rfl (fun K hK => ?_) AllReady.nil
              go_simp
              refine hK _ _ ?_
              clear hK K
              refine wpAny_ready (rs := [6]) (by kernel_rfl) (by simp) ?_
              refine AllReady.cons rfl (fun K hK => ?_) AllReady.nil
              go_simp
              refine hK _ _ ?_
              clear hK K
              refine wpAny_ready (rs := [7]) (by kernel_rfl) (by simp) ?_
              refine AllReady.cons rfl (fun K hK => ?_) AllReady.nil
              go_simp
              refine hK _ _ ?_
              clear hK K
              refine wpAny_done (by kernel_rfl) ?_ _
              go_wp2
              exact bodyPost_ret (v := .tuple #[.agg #[.slice (some ⟨g, 0, none⟩) 0 0, .int .i64 mk, .int .i64 lt, .int .i64 ov], .agg #[.int .i64 (ael l 0).win, .int .i64 (ael l 0).key, .int .i64 (ael l 0).cnt, .int .i64 (ael l 0).sum, .int .i64 (ael l 0).mn, .int .i64 (ael l 0).mx], .bool true]) (by simp [results, Try.results14, go_sem, q1, q2]) rfl HEND.out
          · go_simp
            refine hK _ _ ?_
            clear hK K
            refine wpAny_ready (rs := [3]) (by kernel_rfl) (by simp) ?_
            refine AllReady.cons rfl (fun K hK => ?_) AllReady.nil
            go_simp
            refine hK _ _ ?_
            clear hK K
            refine wpAny_ready (rs := [4]) (by kernel_rfl) (by simp) ?_
            refine AllReady.cons rfl (fun K hK => ?_) AllReady.nil
            go_simp
            refine hK _ _ ?_
            clear hK K
            refine wpAny_ready (rs := [6]) (by kernel_rfl) (by simp) ?_
            refine AllReady.cons rfl (fun K hK => ?_) AllReady.nil
            go_simp
            refine hK _ _ ?_
            clear hK K
            refine wpAny_ready (rs := [7]) (by kernel_rfl) (by simp) ?_
            refine AllReady.cons rfl (fun K hK => ?_) AllReady.nil
            go_simp
            refine hK _ _ ?_
            clear hK K
            refine wpAny_done (by kernel_rfl) ?_ _
            go_wp2
            exact bodyPost_ret (v := .tuple #[.agg #[.slice (some ⟨g, 0, none⟩) 0 0, .int .i64 mk, .int .i64 lt, .int .i64 ov], .agg #[.int .i64 (ael l 0).win, .int .i64 (ael l 0).key, .int .i64 (ael l 0).cnt, .int .i64 (ael l 0).sum, .int .i64 (ael l 0).mn, .int .i64 (ael l 0).mx], .bool true]) (by simp [results, Try.results14, go_sem, q1, q2]) rfl HEND.out
        · go_simp
          refine hK _ _ ?_
          clear hK K
          refine wpAny_ready (rs := [2]) (by kernel_rfl) (by simp) ?_
          refine AllReady.cons rfl (fun K hK => ?_) AllReady.nil
          go_simp
          refine hK _ _ ?_
          clear hK K
          refine wpAny_ready (rs := [3]) (by kernel_rfl) (by simp) ?_
          refine AllReady.cons rfl (fun K hK => ?_) AllReady.nil
          go_simp
          refine hK _ _ ?_
          clear hK K
          refine wpAny_ready (rs := [4]) (by kernel_rfl) (by simp) ?_
          refine AllReady.cons rfl (fun K hK => ?_) AllReady.nil
          go_simp
          refine hK _ _ ?_
          clear hK K
          refine wpAny_ready (rs := [6]) (by kernel_rfl) (by simp) ?_
          refine AllReady.cons rfl (fun K hK => ?_) AllReady.nil
          go_simp
          refine hK _ _ ?_
          clear hK K
          refine wpAny_ready (rs := [7]) (by kernel_rfl) (by simp) ?_
          refine AllReady.cons rfl (fun K hK => ?_) AllReady.nil
          go_simp
          refine hK _ _ ?_
          clear hK K
          refine wpAny_done (by kernel_rfl) ?_ _
          go_wp2
          exact bodyPost_ret (v := .tuple #[.agg #[.slice (some ⟨g, 0, none⟩) 0 0, .int .i64 mk, .int .i64 lt, .int .i64 ov], .agg #[.int .i64 (ael l 0).win, .int .i64 (ael l 0).key, .int .i64 (ael l 0).cnt, .int .i64 (ael l 0).sum, .int .i64 (ael l 0).mn, .int .i64 (ael l 0).mx], .bool true]) (by simp [results, Try.results14, go_sem, q1, q2]) rfl HEND.out
      · go_simp
        refine hK _ _ ?_
        clear hK K
        refine wpAny_ready (rs := [0, 3]) (by kernel_rfl) (by simp) ?_
        refine AllReady.cons rfl (fun K hK => ?_) (AllReady.cons rfl (fun K hK => ?_) AllReady.nil)
        · go_simp
          refine hK _ _ ?_
          clear hK K
          refine wpAny_ready (rs := [3, 5]) (by kernel_rfl) (by simp) ?_
          refine AllReady.cons rfl (fun K hK => ?_) (AllReady.cons rfl (fun K hK => ?_) AllReady.nil)
          · go_simp
            refine hK _ _ ?_
            clear hK K
            refine wpAny_ready (rs := [4, 5]) (by kernel_rfl) (by simp) ?_
            refine AllReady.cons rfl (fun K hK => ?_) (AllReady.cons rfl (fun K hK => ?_) AllReady.nil)
            · go_simp
              refine hK _ _ ?_
              clear hK K
              refine wpAny_ready (rs := [5]) (by kernel_rfl) (by simp) ?_
              refine AllReady.cons rfl (fun K hK => ?_) AllReady.nil
              go_simp
              refine hK _ _ ?_
              clear hK K
              refine wpAny_ready (rs := [6]) (by kernel_rfl) (by simp) ?_
              refine AllReady.cons rfl (fun K hK => ?_) AllReady.nil
              go_simp
              refine hK _ _ ?_
              clear hK K
              refine wpAny_ready (rs := [7]) (by kernel_rfl) (by simp) ?_
              refine AllReady.cons rfl (fun K hK => ?_) AllReady.nil
              go_simp
              refine hK _ _ ?_
              clear hK K
              refine wpAny_done (by kernel_rfl) ?_ _
              go_wp2
              exact bodyPost_ret (v := .tuple #[.agg #[.slice (some ⟨g, 0, none⟩) 0 0, .int .i64 mk, .int .i64 lt, .int .i64 ov], .agg #[.int .i64 (ael l 0).win, .int .i64 (ael l 0).key, .int .i64 (ael l 0).cnt, .int .i64 (ael l 0).sum, .int .i64 (ael l 0).mn, .int .i64 (ael l 0).mx], .bool true]) (by simp [results, Try.results14, go_sem, q1, q2]) rfl HEND.out
            · go_simp
              refine hK _ _ ?_
              clear hK K
              refine wpAny_ready (rs := [4]) (by kernel_rfl) (by simp) ?_
              refine AllReady.cons rfl (fun K hK => ?_) AllReady.nil
              go_simp
              refine hK _ _ ?_
              clear hK K
              refine wpAny_ready (rs := [6]) (by kernel_rfl) (by simp) ?_
              refine AllReady.cons rfl (fun K hK => ?_) AllReady.nil
              go_simp
              refine hK _ _ ?_
              clear hK K
              refine wpAny_ready (rs := [7]) (by kernel_rfl) (by simp) ?_
              refine AllReady.cons rfl (fun K hK => ?_) AllReady.nil
              go_simp
              refine hK _ _ ?_
              clear hK K
              refine wpAny_done (by kernel_rfl) ?_ _
              go_wp2
              exact bodyPost_ret (v := .tuple #[.agg #[.slice (some ⟨g, 0, none⟩) 0 0, .int .i64 mk, .int .i64 lt, .int .i64 ov], .agg #[.int .i64 (ael l 0).win, .int .i64 (ael l 0).key, .int .i64 (ael l 0).cnt, .int .i64 (ael l 0).sum, .int .i64 (ael l 0).mn, .int .i64 (ael l 0).mx], .bool true]) (by simp [results, Try.results14, go_sem, q1, q2]) rfl HEND.out
          · go_simp
            refine hK _ _ ?_
            clear hK K
            refine wpAny_ready (rs := [3]) (by kernel_rfl) (by simp) ?_
            refine AllReady.cons rfl (fun K hK => ?_) AllReady.nil
            go_simp
            refine hK _ _ ?_
            clear hK K
            refine wpAny_ready (rs := [4]) (by kernel_rfl) (by simp) ?_
            refine AllReady.cons rfl (fun K hK => ?_) AllReady.nil
            go_simp
            refine hK _ _ ?_
            clear hK K
            refine wpAny_ready (rs := [6]) (by kernel_rfl) (by simp) ?_
            refine AllReady.cons rfl (fun K hK => ?_) AllReady.nil
            go_simp
            refine hK _ _ ?_
            clear hK K
            refine wpAny_ready (rs := [7]) (by kernel_rfl) (by simp) ?_
            refine AllReady.cons rfl (fun K hK => ?_) AllReady.nil
            go_simp
            refine hK _ _ ?_
            clear hK K
            refine wpAny_done (by kernel_rfl) ?_ _
            go_wp2
            exact bodyPost_ret (v := .tuple #[.agg #[.slice (some ⟨g, 0, none⟩) 0 0, .int .i64 mk, .int .i64 lt, .int .i64 ov], .agg #[.int .i64 (ael l 0).win, .int .i64 (ael l 0).key, .int .i64 (ael l 0).cnt, .int .i64 (ael l 0).sum, .int .i64 (ael l 0).mn, .int .i64 (ael l 0).mx], .bool true]) (by simp [results, Try.results14, go_sem, q1, q2]) rfl HEND.out
        · go_simp
          refine hK _ _ ?_
          clear hK K
          refine wpAny_ready (rs := [0, 4]) (by kernel_rfl) (by simp) ?_
          refine AllReady.cons rfl (fun K hK => ?_) (AllReady.cons rfl (fun K hK => ?_) AllReady.nil)
          · go_simp
            refine hK _ _ ?_
            clear hK K
            refine wpAny_ready (rs := [4, 5]) (by kernel_rfl) (by simp) ?_
            refine AllReady.cons rfl (fun K hK => ?_) (AllReady.cons rfl (fun K hK => ?_) AllReady.nil)
            · go_simp
              refine hK _ _ ?_
              clear hK K
              refine wpAny_ready (rs := [5]) (by kernel_rfl) (by simp) ?_
              refine AllReady.cons rfl (fun K hK => ?_) AllReady.nil
              go_simp
              refine hK _ _ ?_
              clear hK K
              refine wpAny_ready (rs := [6]) (by kernel_rfl) (by simp) ?_
              refine AllReady.cons rfl (fun K hK => ?_) AllReady.nil
              go_simp
              refine hK _ _ ?_
              clear hK K
              refine wpAny_ready (rs := [7]) (by kernel_rfl) (by simp) ?_
              refine AllReady.cons rfl (fun K hK => ?_) AllReady.nil
              go_simp
              refine hK _ _ ?_
              clear hK K
              refine wpAny_done (by kernel_rfl) ?_ _
              go_wp2
              exact bodyPost_ret (v := .tuple #[.agg #[.slice (some ⟨g, 0, none⟩) 0 0, .int .i64 mk, .int .i64 lt, .int .i64 ov], .agg #[.int .i64 (ael l 0).win, .int .i64 (ael l 0).key, .int .i64 (ael l 0).cnt, .int .i64 (ael l 0).sum, .int .i64 (ael l 0).mn, .int .i64 (ael l 0).mx], .bool true]) (by simp [results, Try.results14, go_sem, q1, q2]) rfl HEND.out
            · go_simp
              refine hK _ _ ?_
              clear hK K
              refine wpAny_ready (rs := [4]) (by kernel_rfl) (by simp) ?_
              refine AllReady.cons rfl (fun K hK => ?_) AllReady.nil
              go_simp
              refine hK _ _ ?_
              clear hK K
              refine wpAny_ready (rs := [6]) (by kernel_rfl) (by simp) ?_
              refine AllReady.cons rfl (fun K hK => ?_) AllReady.nil
              go_simp
              refine hK _ _ ?_
              clear hK K
              refine wpAny_ready (rs := [7]) (by kernel_rfl) (by simp) ?_
              refine AllReady.cons rfl (fun K hK => ?_) AllReady.nil
              go_simp
              refine hK _ _ ?_
              clear hK K
              refine wpAny_done (by kernel_rfl) ?_ _
              go_wp2
              exact bodyPost_ret (v := .tuple #[.agg #[.slice (some ⟨g, 0, none⟩) 0 0, .int .i64 mk, .int .i64 lt, .int .i64 ov], .agg #[.int .i64 (ael l 0).win, .int .i64 (ael l 0).key, .int .i64 (ael l 0).cnt, .int .i64 (ael l 0).sum, .int .i64 (ael l 0).mn, .int .i64 (ael l 0).mx], .bool true]) (by simp [results, Try.results14, go_sem, q1, q2]) rfl HEND.out
          · go_simp
            refine hK _ _ ?_
            clear hK K
            refine wpAny_ready (rs := [0]) (by kernel_rfl) (by simp) ?_
            refine AllReady.cons rfl (fun K hK => ?_) AllReady.nil
            go_simp
            refine hK _ _ ?_
            clear hK K
            refine wpAny_ready (rs := [5]) (by kernel_rfl) (by simp) ?_
            refine AllReady.cons rfl (fun K hK => ?_) AllReady.nil
            go_simp
            refine hK _ _ ?_
            clear hK K
            refine wpAny_ready (rs := [6]) (by kernel_rfl) (by simp) ?_
            refine AllReady.cons rfl (fun K hK => ?_) AllReady.nil
            go_simp
            refine hK _ _ ?_
            clear hK K
            refine wpAny_ready (rs := [7]) (by kernel_rfl) (by simp) ?_
            refine AllReady.cons rfl (fun K hK => ?_) AllReady.nil
            go_simp
            refine hK _ _ ?_
            clear hK K
            refine wpAny_done (by kernel_rfl) ?_ _
            go_wp2
            exact bodyPost_ret (v := .tuple #[.agg #[.slice (some ⟨g, 0, none⟩) 0 0, .int .i64 mk, .int .i64 lt, .int .i64 ov], .agg #[.int .i64 (ael l 0).win, .int .i64 (ael l 0).key, .int .i64 (ael l 0).cnt, .int .i64 (ael l 0).sum, .int .i64 (ael l 0).mn, .int .i64 (ael l 0).mx], .bool true]) (by simp [results, Try.results14, go_sem, q1, q2]) rfl HEND.out
  · go_wp2_with fail
    have ww : w.heap.size + 1 + 1 < w1.heap.size := by omega
    have un := XN.out.put_ 0 (.slice (some ⟨g, 6, none⟩) (l.length - 1) (c1 - 1))
    simp only [List.setIfInBounds_toArray, List.set_cons_zero] at un
    have u0 := X0.out.far_ (p := ⟨w1.heap.size, 0, none⟩) (show w.heap.size ≠ w1.heap.size by omega) (.slice (some ⟨g, 6, none⟩) (l.length - 1) (c1 - 1))
    have u1 := X1.out.far_ (p := ⟨w1.heap.size, 0, none⟩) (show w.heap.size + 1 ≠ w1.heap.size by omega) (.slice (some ⟨g, 6, none⟩) (l.length - 1) (c1 - 1))
    have u2 := X2.out.far_ (p := ⟨w1.heap.size, 0, none⟩) (show w.heap.size + 1 + 1 ≠ w1.heap.size by omega) (.slice (some ⟨g, 6, none⟩) (l.length - 1) (c1 - 1))
    have uo := XO.out.kept (grown_setCell wX w1.heap.size 0 (.slice (some ⟨g, 6, none⟩) (l.length - 1) (c1 - 1))) (.inr hneN.symm)
    have ub := XB.out.setCell (p := ⟨w1.heap.size, 0, none⟩) (show w.heap.size ≤ w1.heap.size by omega) (.slice (some ⟨g, 6, none⟩) (l.length - 1) (c1 - 1))
    have ua := XA.out.below ((Below.refl hi wX).setCell (p := ⟨w1.heap.size, 0, none⟩) (show hi ≤ w1.heap.size by omega) (.slice (some ⟨g, 6, none⟩) (l.length - 1) (c1 - 1)))
    generalize wX.setCell ⟨w1.heap.size, 0, none⟩ (.slice (some ⟨g, 6, none⟩) (l.length - 1) (c1 - 1)) = W6 at un u0 u1 u2 uo ub ua ⊢
    clear q0 q1 q2 qn fn d0 d1 d2 d3 d4 d5
    have HEND := Lib.hid (spec_took mk lt ov (n1 := l.length - 1) (by omega) (Or.inr ⟨h1, rfl, rfl⟩) uo ub hne1 HNE.out hl0)
    obtain ⟨_, _, e, _, hca⟩ := Ags.six ua hl0
    injection e with e
    injection e with e1 e2
    subst e1 e2
    obtain ⟨d0, d1, d2, d3, d4, d5⟩ := hca 0 hl0
    simp only [Nat.zero_mul, Nat.add_zero] at d0 d1 d2 d3 d4 d5
    have q0 := u0.cell
    have q1 := u1.cell
    have q2 := u2.cell
    have qn := un.cell
    have f1 := u1.frozen
    have f2 := u2.frozen
    have ua4 := ua.below (below_set4 (Below.refl hi W6) (show hi ≤ w.heap.size + 1 by omega) (.slice (some ⟨g, 6, none⟩) (l.length - 1) (c1 - 1)) (.int .i64 mk) (.int .i64 lt) (.int .i64 ov))
    obtain ⟨_, _, e, _, hca⟩ := Ags.six ua4 hl0
    injection e with e
    injection e with e1 e2
    subst e1 e2
    obtain ⟨m0, m1, m2, m3, m4, m5⟩ := hca 0 hl0
    simp only [Nat.zero_mul, Nat.add_zero] at m0 m1 m2 m3 m4 m5
    clear un u0 u1 u2 uo ub ua hca ua4
    have hmix : Try.prog.follows .mixedOrders = true := by kernel_rfl
    refine wp_region_any (by assumption) ?_
    change wpAny _ _ _ _ _ _ _ (World.drew _)
    refine wpAny_ready (rs := [0, 1]) (by kernel_rfl) (by simp) ?_
    refine AllReady.cons rfl (fun K hK => ?_) (AllReady.cons rfl (fun K hK => ?_) AllReady.nil)
    · go_simp
      refine hK _ _ ?_
      clear hK K
      refine wpAny_ready (rs := [1, 5]) (by kernel_rfl) (by simp) ?_
      refine AllReady.cons rfl (fun K hK => ?_) (AllReady.cons rfl (fun K hK => ?_) AllReady.nil)
      · go_simp
        refine hK _ _ ?_
        clear hK K
        refine wpAny_ready (rs := [2, 5]) (by kernel_rfl) (by simp) ?_
        refine AllReady.cons rfl (fun K hK => ?_) (AllReady.cons rfl (fun K hK => ?_) AllReady.nil)
        · go_simp
          refine hK _ _ ?_
          clear hK K
          refine wpAny_ready (rs := [3, 5]) (by kernel_rfl) (by simp) ?_
          refine AllReady.cons rfl (fun K hK => ?_) (AllReady.cons rfl (fun K hK => ?_) AllReady.nil)
          · go_simp
            refine hK _ _ ?_
            clear hK K
            refine wpAny_ready (rs := [4, 5]) (by kernel_rfl) (by simp) ?_
            refine AllReady.cons rfl (fun K hK => ?_) (AllReady.cons rfl (fun K hK => ?_) AllReady.nil)
            · go_simp
              refine hK _ _ ?_
              clear hK K
              refine wpAny_ready (rs := [5]) (by kernel_rfl) (by simp) ?_
              refine AllReady.cons rfl (fun K hK => ?_) AllReady.nil
              go_simp
              refine hK _ _ ?_
              clear hK K
              refine wpAny_ready (rs := [6]) (by kernel_rfl) (by simp) ?_
              refine AllReady.cons rfl (fun K hK => ?_) AllReady.nil
              go_simp
              refine hK _ _ ?_
              clear hK K
              refine wpAny_ready (rs := [7]) (by kernel_rfl) (by simp) ?_
              refine AllReady.cons rfl (fun K hK => ?_) AllReady.nil
              go_simp
              refine hK _ _ ?_
              clear hK K
              refine wpAny_done (by kernel_rfl) ?_ _
              go_wp2
              exact bodyPost_ret (v := .tuple #[.agg #[.slice (some ⟨g, 6, none⟩) (l.length - 1) (c1 - 1), .int .i64 mk, .int .i64 lt, .int .i64 ov], .agg #[.int .i64 (ael l 0).win, .int .i64 (ael l 0).key, .int .i64 (ael l 0).cnt, .int .i64 (ael l 0).sum, .int .i64 (ael l 0).mn, .int .i64 (ael l 0).mx], .bool true]) (by simp [results, Try.results14, go_sem, q1, q2]) rfl HEND.out
            · go_simp
              refine hK _ _ ?_
              clear hK K
              refine wpAny_ready (rs := [4]) (by kernel_rfl) (by simp) ?_
              refine AllReady.cons rfl (fun K hK => ?_) AllReady.nil
              go_simp
              refine hK _ _ ?_
              clear hK K
              refine wpAny_ready (rs := [6]) (by kernel_rfl) (by simp) ?_
              refine AllReady.cons rfl (fun K hK => ?_) AllReady.nil
              go_simp
              refine hK _ _ ?_
              clear hK K
              refine wpAny_ready (rs := [7]) (by kernel_rfl) (by simp) ?_
              refine AllReady.cons rfl (fun K hK => ?_) AllReady.nil
              go_simp
              refine hK _ _ ?_
              clear hK K
              refine wpAny_done (by kernel_rfl) ?_ _
              go_wp2
              exact bodyPost_ret (v := .tuple #[.agg #[.slice (some ⟨g, 6, none⟩) (l.length - 1) (c1 - 1), .int .i64 mk, .int .i64 lt, .int .i64 ov], .agg #[.int .i64 (ael l 0).win, .int .i64 (ael l 0).key, .int .i64 (ael l 0).cnt, .int .i64 (ael l 0).sum, .int .i64 (ael l 0).mn, .int .i64 (ael l 0).mx], .bool true]) (by simp [results, Try.results14, go_sem, q1, q2]) rfl HEND.out
          · go_simp
            refine hK _ _ ?_
            clear hK K
            refine wpAny_ready (rs := [3]) (by kernel_rfl) (by simp) ?_
            refine AllReady.cons rfl (fun K hK => ?_) AllReady.nil
            go_simp
            refine hK _ _ ?_
            clear hK K
            refine wpAny_ready (rs := [4]) (by kernel_rfl) (by simp) ?_
            refine AllReady.cons rfl (fun K hK => ?_) AllReady.nil
            go_simp
            refine hK _ _ ?_
            clear hK K
            refine wpAny_ready (rs := [6]) (by kernel_rfl) (by simp) ?_
            refine AllReady.cons rfl (fun K hK => ?_) AllReady.nil
            go_simp
            refine hK _ _ ?_
            clear hK K
            refine wpAny_ready (rs := [7]) (by kernel_rfl) (by simp) ?_
            refine AllReady.cons rfl (fun K hK => ?_) AllReady.nil
            go_simp
            refine hK _ _ ?_
            clear hK K
            refine wpAny_done (by kernel_rfl) ?_ _
            go_wp2
            exact bodyPost_ret (v := .tuple #[.agg #[.slice (some ⟨g, 6, none⟩) (l.length - 1) (c1 - 1), .int .i64 mk, .int .i64 lt, .int .i64 ov], .agg #[.int .i64 (ael l 0).win, .int .i64 (ael l 0).key, .int .i64 (ael l 0).cnt, .int .i64 (ael l 0).sum, .int .i64 (ael l 0).mn, .int .i64 (ael l 0).mx], .bool true]) (by simp [results, Try.results14, go_sem, q1, q2]) rfl HEND.out
        · go_simp
          refine hK _ _ ?_
          clear hK K
          refine wpAny_ready (rs := [2]) (by kernel_rfl) (by simp) ?_
          refine AllReady.cons rfl (fun K hK => ?_) AllReady.nil
          go_simp
          refine hK _ _ ?_
          clear hK K
          refine wpAny_ready (rs := [3]) (by kernel_rfl) (by simp) ?_
          refine AllReady.cons rfl (fun K hK => ?_) AllReady.nil
          go_simp
          refine hK _ _ ?_
          clear hK K
          refine wpAny_ready (rs := [4]) (by kernel_rfl) (by simp) ?_
          refine AllReady.cons rfl (fun K hK => ?_) AllReady.nil
          go_simp
          refine hK _ _ ?_
          clear hK K
          refine wpAny_ready (rs := [6]) (by kernel_rfl) (by simp) ?_
          refine AllReady.cons rfl (fun K hK => ?_) AllReady.nil
          go_simp
          refine hK _ _ ?_
          clear hK K
          refine wpAny_ready (rs := [7]) (by kernel_rfl) (by simp) ?_
          refine AllReady.cons rfl (fun K hK => ?_) AllReady.nil
          go_simp
          refine hK _ _ ?_
          clear hK K
          refine wpAny_done (by kernel_rfl) ?_ _
          go_wp2
          exact bodyPost_ret (v := .tuple #[.agg #[.slice (some ⟨g, 6, none⟩) (l.length - 1) (c1 - 1), .int .i64 mk, .int .i64 lt, .int .i64 ov], .agg #[.int .i64 (ael l 0).win, .int .i64 (ael l 0).key, .int .i64 (ael l 0).cnt, .int .i64 (ael l 0).sum, .int .i64 (ael l 0).mn, .int .i64 (ael l 0).mx], .bool true]) (by simp [results, Try.results14, go_sem, q1, q2]) rfl HEND.out
      · go_simp
        refine hK _ _ ?_
        clear hK K
        refine wpAny_ready (rs := [1]) (by kernel_rfl) (by simp) ?_
        refine AllReady.cons rfl (fun K hK => ?_) AllReady.nil
        go_simp
        refine hK _ _ ?_
        clear hK K
        refine wpAny_ready (rs := [2]) (by kernel_rfl) (by simp) ?_
        refine AllReady.cons rfl (fun K hK => ?_) AllReady.nil
        go_simp
        refine hK _ _ ?_
        clear hK K
        refine wpAny_ready (rs := [3]) (by kernel_rfl) (by simp) ?_
        refine AllReady.cons rfl (fun K hK => ?_) AllReady.nil
        go_simp
        refine hK _ _ ?_
        clear hK K
        refine wpAny_ready (rs := [4]) (by kernel_rfl) (by simp) ?_
        refine AllReady.cons rfl (fun K hK => ?_) AllReady.nil
        go_simp
        refine hK _ _ ?_
        clear hK K
        refine wpAny_ready (rs := [6]) (by kernel_rfl) (by simp) ?_
        refine AllReady.cons rfl (fun K hK => ?_) AllReady.nil
        go_simp
        refine hK _ _ ?_
        clear hK K
        refine wpAny_ready (rs := [7]) (by kernel_rfl) (by simp) ?_
        refine AllReady.cons rfl (fun K hK => ?_) AllReady.nil
        go_simp
        refine hK _ _ ?_
        clear hK K
        refine wpAny_done (by kernel_rfl) ?_ _
        go_wp2
        exact bodyPost_ret (v := .tuple #[.agg #[.slice (some ⟨g, 6, none⟩) (l.length - 1) (c1 - 1), .int .i64 mk, .int .i64 lt, .int .i64 ov], .agg #[.int .i64 (ael l 0).win, .int .i64 (ael l 0).key, .int .i64 (ael l 0).cnt, .int .i64 (ael l 0).sum, .int .i64 (ael l 0).mn, .int .i64 (ael l 0).mx], .bool true]) (by simp [results, Try.results14, go_sem, q1, q2]) rfl HEND.out
    · go_simp
      refine hK _ _ ?_
      clear hK K
      refine wpAny_ready (rs := [0, 2]) (by kernel_rfl) (by simp) ?_
      refine AllReady.cons rfl (fun K hK => ?_) (AllReady.cons rfl (fun K hK => ?_) AllReady.nil)
      · go_simp
        refine hK _ _ ?_
        clear hK K
        refine wpAny_ready (rs := [2, 5]) (by kernel_rfl) (by simp) ?_
        refine AllReady.cons rfl (fun K hK => ?_) (AllReady.cons rfl (fun K hK => ?_) AllReady.nil)
        · go_simp
          refine hK _ _ ?_
          clear hK K
          refine wpAny_ready (rs := [3, 5]) (by kernel_rfl) (by simp) ?_
          refine AllReady.cons rfl (fun K hK => ?_) (AllReady.cons rfl (fun K hK => ?_) AllReady.nil)
          · go_simp
            refine hK _ _ ?_
            clear hK K
            refine wpAny_ready (rs := [4, 5]) (by kernel_rfl) (by simp) ?_
            refine AllReady.cons rfl (fun K hK => ?_) (AllReady.cons rfl (fun K hK => ?_) AllReady.nil)
            · go_simp
              refine hK _ _ ?_
              clear hK K
              refine wpAny_ready (rs := [5]) (by kernel_rfl) (by simp) ?_
              refine AllReady.cons rfl (fun K hK => ?_) AllReady.nil
              go_simp
              refine hK _ _ ?_
              clear hK K
              refine wpAny_ready (rs := [6]) (by kernel_rfl) (by simp) ?_
              refine AllReady.cons rfl (fun K hK => ?_) AllReady.nil
              go_simp
              refine hK _ _ ?_
              clear hK K
              refine wpAny_ready (rs := [7]) (by kernel_rfl) (by simp) ?_
              refine AllReady.cons rfl (fun K hK => ?_) AllReady.nil
              go_simp
              refine hK _ _ ?_
              clear hK K
              refine wpAny_done (by kernel_rfl) ?_ _
              go_wp2
              exact bodyPost_ret (v := .tuple #[.agg #[.slice (some ⟨g, 6, none⟩) (l.length - 1) (c1 - 1), .int .i64 mk, .int .i64 lt, .int .i64 ov], .agg #[.int .i64 (ael l 0).win, .int .i64 (ael l 0).key, .int .i64 (ael l 0).cnt, .int .i64 (ael l 0).sum, .int .i64 (ael l 0).mn, .int .i64 (ael l 0).mx], .bool true]) (by simp [results, Try.results14, go_sem, q1, q2]) rfl HEND.out
            · go_simp
              refine hK _ _ ?_
              clear hK K
              refine wpAny_ready (rs := [4]) (by kernel_rfl) (by simp) ?_
              refine AllReady.cons rfl (fun K hK => ?_) AllReady.nil
              go_simp
              refine hK _ _ ?_
              clear hK K
              refine wpAny_ready (rs := [6]) (by kernel_rfl) (by simp) ?_
              refine AllReady.cons rfl (fun K hK => ?_) AllReady.nil
              go_simp
              refine hK _ _ ?_
              clear hK K
              refine wpAny_ready (rs := [7]) (by kernel_rfl) (by simp) ?_
              refine AllReady.cons rfl (fun K hK => ?_) AllReady.nil
              go_simp
              refine hK _ _ ?_
              clear hK K
              refine wpAny_done (by kernel_rfl) ?_ _
              go_wp2
              exact bodyPost_ret (v := .tuple #[.agg #[.slice (some ⟨g, 6, none⟩) (l.length - 1) (c1 - 1), .int .i64 mk, .int .i64 lt, .int .i64 ov], .agg #[.int .i64 (ael l 0).win, .int .i64 (ael l 0).key, .int .i64 (ael l 0).cnt, .int .i64 (ael l 0).sum, .int .i64 (ael l 0).mn, .int .i64 (ael l 0).mx], .bool true]) (by simp [results, Try.results14, go_sem, q1, q2]) rfl HEND.out
          · go_simp
            refine hK _ _ ?_
            clear hK K
            refine wpAny_ready (rs := [3]) (by kernel_rfl) (by simp) ?_
            refine AllReady.cons rfl (fun K hK => ?_) AllReady.nil
            go_simp
            refine hK _ _ ?_
            clear hK K
            refine wpAny_ready (rs := [4]) (by kernel_rfl) (by simp) ?_
            refine AllReady.cons rfl (fun K hK => ?_) AllReady.nil
            go_simp
            refine hK _ _ ?_
            clear hK K
            refine wpAny_ready (rs := [6]) (by kernel_rfl) (by simp) ?_
            refine AllReady.cons rfl (fun K hK => ?_) AllReady.nil
            go_simp
            refine hK _ _ ?_
            clear hK K
            refine wpAny_ready (rs := [7]) (by kernel_rfl) (by simp) ?_
            refine AllReady.cons rfl (fun K hK => ?_) AllReady.nil
            go_simp
            refine hK _ _ ?_
            clear hK K
            refine wpAny_done (by kernel_rfl) ?_ _
            go_wp2
            exact bodyPost_ret (v := .tuple #[.agg #[.slice (some ⟨g, 6, none⟩) (l.length - 1) (c1 - 1), .int .i64 mk, .int .i64 lt, .int .i64 ov], .agg #[.int .i64 (ael l 0).win, .int .i64 (ael l 0).key, .int .i64 (ael l 0).cnt, .int .i64 (ael l 0).sum, .int .i64 (ael l 0).mn, .int .i64 (ael l 0).mx], .bool true]) (by simp [results, Try.results14, go_sem, q1, q2]) rfl HEND.out
        · go_simp
          refine hK _ _ ?_
          clear hK K
          refine wpAny_ready (rs := [2]) (by kernel_rfl) (by simp) ?_
          refine AllReady.cons rfl (fun K hK => ?_) AllReady.nil
          go_simp
          refine hK _ _ ?_
          clear hK K
          refine wpAny_ready (rs := [3]) (by kernel_rfl) (by simp) ?_
          refine AllReady.cons rfl (fun K hK => ?_) AllReady.nil
          go_simp
          refine hK _ _ ?_
          clear hK K
          refine wpAny_ready (rs := [4]) (by kernel_rfl) (by simp) ?_
          refine AllReady.cons rfl (fun K hK => ?_) AllReady.nil
          go_simp
          refine hK _ _ ?_
          clear hK K
          refine wpAny_ready (rs := [6]) (by kernel_rfl) (by simp) ?_
          refine AllReady.cons rfl (fun K hK => ?_) AllReady.nil
          go_simp
          refine hK _ _ ?_
          clear hK K
          refine wpAny_ready (rs := [7]) (by kernel_rfl) (by simp) ?_
          refine AllReady.cons rfl (fun K hK => ?_) AllReady.nil
          go_simp
          refine hK _ _ ?_
          clear hK K
          refine wpAny_done (by kernel_rfl) ?_ _
          go_wp2
          exact bodyPost_ret (v := .tuple #[.agg #[.slice (some ⟨g, 6, none⟩) (l.length - 1) (c1 - 1), .int .i64 mk, .int .i64 lt, .int .i64 ov], .agg #[.int .i64 (ael l 0).win, .int .i64 (ael l 0).key, .int .i64 (ael l 0).cnt, .int .i64 (ael l 0).sum, .int .i64 (ael l 0).mn, .int .i64 (ael l 0).mx], .bool true]) (by simp [results, Try.results14, go_sem, q1, q2]) rfl HEND.out
      · go_simp
        refine hK _ _ ?_
        clear hK K
        refine wpAny_ready (rs := [0, 3]) (by kernel_rfl) (by simp) ?_
        refine AllReady.cons rfl (fun K hK => ?_) (AllReady.cons rfl (fun K hK => ?_) AllReady.nil)
        · go_simp
          refine hK _ _ ?_
          clear hK K
          refine wpAny_ready (rs := [3, 5]) (by kernel_rfl) (by simp) ?_
          refine AllReady.cons rfl (fun K hK => ?_) (AllReady.cons rfl (fun K hK => ?_) AllReady.nil)
          · go_simp
            refine hK _ _ ?_
            clear hK K
            refine wpAny_ready (rs := [4, 5]) (by kernel_rfl) (by simp) ?_
            refine AllReady.cons rfl (fun K hK => ?_) (AllReady.cons rfl (fun K hK => ?_) AllReady.nil)
            · go_simp
              refine hK _ _ ?_
              clear hK K
              refine wpAny_ready (rs := [5]) (by kernel_rfl) (by simp) ?_
              refine AllReady.cons rfl (fun K hK => ?_) AllReady.nil
              go_simp
              refine hK _ _ ?_
              clear hK K
              refine wpAny_ready (rs := [6]) (by kernel_rfl) (by simp) ?_
              refine AllReady.cons rfl (fun K hK => ?_) AllReady.nil
              go_simp
              refine hK _ _ ?_
              clear hK K
              refine wpAny_ready (rs := [7]) (by kernel_rfl) (by simp) ?_
              refine AllReady.cons rfl (fun K hK => ?_) AllReady.nil
              go_simp
              refine hK _ _ ?_
              clear hK K
              refine wpAny_done (by kernel_rfl) ?_ _
              go_wp2
              exact bodyPost_ret (v := .tuple #[.agg #[.slice (some ⟨g, 6, none⟩) (l.length - 1) (c1 - 1), .int .i64 mk, .int .i64 lt, .int .i64 ov], .agg #[.int .i64 (ael l 0).win, .int .i64 (ael l 0).key, .int .i64 (ael l 0).cnt, .int .i64 (ael l 0).sum, .int .i64 (ael l 0).mn, .int .i64 (ael l 0).mx], .bool true]) (by simp [results, Try.results14, go_sem, q1, q2]) rfl HEND.out
            · go_simp
              refine hK _ _ ?_
              clear hK K
              refine wpAny_ready (rs := [4]) (by kernel_rfl) (by simp) ?_
              refine AllReady.cons rfl (fun K hK => ?_) AllReady.nil
              go_simp
              refine hK _ _ ?_
              clear hK K
              refine wpAny_ready (rs := [6]) (by kernel_rfl) (by simp) ?_
              refine AllReady.cons rfl (fun K hK => ?_) AllReady.nil
              go_simp
              refine hK _ _ ?_
              clear hK K
              refine wpAny_ready (rs := [7]) (by kernel_rfl) (by simp) ?_
              refine AllReady.cons rfl (fun K hK => ?_) AllReady.nil
              go_simp
              refine hK _ _ ?_
              clear hK K
              refine wpAny_done (by kernel_rfl) ?_ _
              go_wp2
              exact bodyPost_ret (v := .tuple #[.agg #[.slice (some ⟨g, 6, none⟩) (l.length - 1) (c1 - 1), .int .i64 mk, .int .i64 lt, .int .i64 ov], .agg #[.int .i64 (ael l 0).win, .int .i64 (ael l 0).key, .int .i64 (ael l 0).cnt, .int .i64 (ael l 0).sum, .int .i64 (ael l 0).mn, .int .i64 (ael l 0).mx], .bool true]) (by simp [results, Try.results14, go_sem, q1, q2]) rfl HEND.out
          · go_simp
            refine hK _ _ ?_
            clear hK K
            refine wpAny_ready (rs := [3]) (by kernel_rfl) (by simp) ?_
            refine AllReady.cons rfl (fun K hK => ?_) AllReady.nil
            go_simp
            refine hK _ _ ?_
            clear hK K
            refine wpAny_ready (rs := [4]) (by kernel_rfl) (by simp) ?_
            refine AllReady.cons rfl (fun K hK => ?_) AllReady.nil
            go_simp
            refine hK _ _ ?_
            clear hK K
            refine wpAny_ready (rs := [6]) (by kernel_rfl) (by simp) ?_
            refine AllReady.cons rfl (fun K hK => ?_) AllReady.nil
            go_simp
            refine hK _ _ ?_
            clear hK K
            refine wpAny_ready (rs := [7]) (by kernel_rfl) (by simp) ?_
            refine AllReady.cons rfl (fun K hK => ?_) AllReady.nil
            go_simp
            refine hK _ _ ?_
            clear hK K
            refine wpAny_done (by kernel_rfl) ?_ _
            go_wp2
            exact bodyPost_ret (v := .tuple #[.agg #[.slice (some ⟨g, 6, none⟩) (l.length - 1) (c1 - 1), .int .i64 mk, .int .i64 lt, .int .i64 ov], .agg #[.int .i64 (ael l 0).win, .int .i64 (ael l 0).key, .int .i64 (ael l 0).cnt, .int .i64 (ael l 0).sum, .int .i64 (ael l 0).mn, .int .i64 (ael l 0).mx], .bool true]) (by simp [results, Try.results14, go_sem, q1, q2]) rfl HEND.out
        · go_simp
          refine hK _ _ ?_
          clear hK K
          refine wpAny_ready (rs := [0, 4]) (by kernel_rfl) (by simp) ?_
          refine AllReady.cons rfl (fun K hK => ?_) (AllReady.cons rfl (fun K hK => ?_) AllReady.nil)
          · go_simp
            refine hK _ _ ?_
            clear hK K
            refine wpAny_ready (rs := [4, 5]) (by kernel_rfl) (by simp) ?_
            refine AllReady.cons rfl (fun K hK => ?_) (AllReady.cons rfl (fun K hK => ?_) AllReady.nil)
            · go_simp
              refine hK _ _ ?_
              clear hK K
              refine wpAny_ready (rs := [5]) (by kernel_rfl) (by simp) ?_
              refine AllReady.cons rfl (fun K hK => ?_) AllReady.nil
              go_simp
              refine hK _ _ ?_
              clear hK K
              refine wpAny_ready (rs := [6]) (by kernel_rfl) (by simp) ?_
              refine AllReady.cons rfl (fun K hK => ?_) AllReady.nil
              go_simp
              refine hK _ _ ?_
              clear hK K
              refine wpAny_ready (rs := [7]) (by kernel_rfl) (by simp) ?_
              refine AllReady.cons rfl (fun K hK => ?_) AllReady.nil
              go_simp
              refine hK _ _ ?_
              clear hK K
              refine wpAny_done (by kernel_rfl) ?_ _
              go_wp2
              exact bodyPost_ret (v := .tuple #[.agg #[.slice (some ⟨g, 6, none⟩) (l.length - 1) (c1 - 1), .int .i64 mk, .int .i64 lt, .int .i64 ov], .agg #[.int .i64 (ael l 0).win, .int .i64 (ael l 0).key, .int .i64 (ael l 0).cnt, .int .i64 (ael l 0).sum, .int .i64 (ael l 0).mn, .int .i64 (ael l 0).mx], .bool true]) (by simp [results, Try.results14, go_sem, q1, q2]) rfl HEND.out
            · go_simp
              refine hK _ _ ?_
              clear hK K
              refine wpAny_ready (rs := [4]) (by kernel_rfl) (by simp) ?_
              refine AllReady.cons rfl (fun K hK => ?_) AllReady.nil
              go_simp
              refine hK _ _ ?_
              clear hK K
              refine wpAny_ready (rs := [6]) (by kernel_rfl) (by simp) ?_
              refine AllReady.cons rfl (fun K hK => ?_) AllReady.nil
              go_simp
              refine hK _ _ ?_
              clear hK K
              refine wpAny_ready (rs := [7]) (by kernel_rfl) (by simp) ?_
              refine AllReady.cons rfl (fun K hK => ?_) AllReady.nil
              go_simp
              refine hK _ _ ?_
              clear hK K
              refine wpAny_done (by kernel_rfl) ?_ _
              go_wp2
              exact bodyPost_ret (v := .tuple #[.agg #[.slice (some ⟨g, 6, none⟩) (l.length - 1) (c1 - 1), .int .i64 mk, .int .i64 lt, .int .i64 ov], .agg #[.int .i64 (ael l 0).win, .int .i64 (ael l 0).key, .int .i64 (ael l 0).cnt, .int .i64 (ael l 0).sum, .int .i64 (ael l 0).mn, .int .i64 (ael l 0).mx], .bool true]) (by simp [results, Try.results14, go_sem, q1, q2]) rfl HEND.out
          · go_simp
            refine hK _ _ ?_
            clear hK K
            refine wpAny_ready (rs := [0]) (by kernel_rfl) (by simp) ?_
            refine AllReady.cons rfl (fun K hK => ?_) AllReady.nil
            go_simp
            refine hK _ _ ?_
            clear hK K
            refine wpAny_ready (rs := [5]) (by kernel_rfl) (by simp) ?_
            refine AllReady.cons rfl (fun K hK => ?_) AllReady.nil
            go_simp
            refine hK _ _ ?_
            clear hK K
            refine wpAny_ready (rs := [6]) (by kernel_rfl) (by simp) ?_
            refine AllReady.cons rfl (fun K hK => ?_) AllReady.nil
            go_simp
            refine hK _ _ ?_
            clear hK K
            refine wpAny_ready (rs := [7]) (by kernel_rfl) (by simp) ?_
            refine AllReady.cons rfl (fun K hK => ?_) AllReady.nil
            go_simp
            refine hK _ _ ?_
            clear hK K
            refine wpAny_done (by kernel_rfl) ?_ _
            go_wp2
            exact bodyPost_ret (v := .tuple #[.agg #[.slice (some ⟨g, 6, none⟩) (l.length - 1) (c1 - 1), .int .i64 mk, .int .i64 lt, .int .i64 ov], .agg #[.int .i64 (ael l 0).win, .int .i64 (ael l 0).key, .int .i64 (ael l 0).cnt, .int .i64 (ael l 0).sum, .int .i64 (ael l 0).mn, .int .i64 (ael l 0).mx], .bool true]) (by simp [results, Try.results14, go_sem, q1, q2]) rfl HEND.out
end Go.Proofs.Ytnfhlfbkdhpacaa
