/- spec.TakeClosed where nothing is taken. (made by tools/mktakes.py) -/
import Derived.Test.YtnfhlfbkdhpacaaClosS
import Derived.Test.YtnfhlfbkdhpacaaRaise
namespace Go.Proofs.Ytnfhlfbkdhpacaa
open Go.RowKit

def FreshNone (l : List Ag) (mk lt ov : Int) (w : World) (e : Ending) (w' : World) : Prop :=
  ∃ a c, e = .returned (.tuple #[.agg #[.slice a l.length c, .int .i64 mk, .int .i64 lt, .int .i64 ov], .agg #[.int .i64 0, .int .i64 0, .int .i64 0, .int .i64 0, .int .i64 0, .int .i64 0], .bool false]) ∧ w'.ownsRow w.heap.size 37 6 (.slice a l.length c) l.length (flatA l) ∧ Below w.heap.size w w'
/-- A block below a row's lower end is not its block. -/
theorem own_ge {w : World} {lo n sz g : Nat} {T : TypeId} {v : Value} {xs : List Value} (h : w.ownsRow lo T sz v n xs) (hg : g < lo) : some g ≠ v.ownBlock := by
  rcases h.2 with ⟨rfl, _⟩ | ⟨g', cap, cur, rfl, hl, _⟩
  · simp [Value.ownBlock]
  · intro he
    have : g = g' := by simpa [Value.ownBlock] using he
    omega
/-- A row and the one box of its own type, which is not its block. -/
theorem none_put {l : List Ag} {mk lt ov : Int} {w W : World} (a1 : Option Addr) (c1 : Nat) (ho : W.ownsRow w.heap.size 37 6 (.slice a1 l.length c1) l.length (flatA l)) (h1 : Blk W (w.heap.size + 1) 29 #[.slice none 0 0, .int .i64 0, .int .i64 0, .int .i64 0]) (hb : Below w.heap.size w W) (hne : some (w.heap.size + 1 + 1) ≠ (Value.slice a1 l.length c1).ownBlock) :
    FreshNone l mk lt ov w (.returned (.tuple #[.agg #[.slice a1 l.length c1, .int .i64 mk, .int .i64 lt, .int .i64 ov], .agg #[.int .i64 0, .int .i64 0, .int .i64 0, .int .i64 0, .int .i64 0, .int .i64 0], .bool false])) ((((((((((W.setCell ⟨w.heap.size + 1, 0, none⟩ (.slice a1 l.length c1)).setCell ⟨w.heap.size + 1, 1, none⟩ (.int .i64 mk)).setCell ⟨w.heap.size + 1, 2, none⟩ (.int .i64 lt)).setCell ⟨w.heap.size + 1, 3, none⟩ (.int .i64 ov)).setCell ⟨w.heap.size + 1 + 1, 0, none⟩ (.int .i64 0)).setCell ⟨w.heap.size + 1 + 1, 1, none⟩ (.int .i64 0)).setCell ⟨w.heap.size + 1 + 1, 2, none⟩ (.int .i64 0)).setCell ⟨w.heap.size + 1 + 1, 3, none⟩ (.int .i64 0)).setCell ⟨w.heap.size + 1 + 1, 4, none⟩ (.int .i64 0)).setCell ⟨w.heap.size + 1 + 1, 5, none⟩ (.int .i64 0)) := by
  refine ⟨a1, c1, rfl, ?_, ?_⟩
  · have e0 := row_keep4 ho h1 (.slice a1 l.length c1) (.int .i64 mk) (.int .i64 lt) (.int .i64 ov)
    revert e0
    generalize ((((W.setCell ⟨w.heap.size + 1, 0, none⟩ (.slice a1 l.length c1)).setCell ⟨w.heap.size + 1, 1, none⟩ (.int .i64 mk)).setCell ⟨w.heap.size + 1, 2, none⟩ (.int .i64 lt)).setCell ⟨w.heap.size + 1, 3, none⟩ (.int .i64 ov)) = W4
    intro e0
    have st : ∀ (V : World) (i : Nat) (u : Value), V.ownsRow w.heap.size 37 6 (.slice a1 l.length c1) l.length (flatA l) → (V.setCell ⟨w.heap.size + 1 + 1, i, none⟩ u).ownsRow w.heap.size 37 6 (.slice a1 l.length c1) l.length (flatA l) := fun V i u h => h.kept (grown_setCell _ _ _ _) (.inr hne.symm)
    exact st _ _ _ (st _ _ _ (st _ _ _ (st _ _ _ (st _ _ _ (st _ _ _ e0)))))
  · have e0 := below_set4 hb (show w.heap.size ≤ w.heap.size + 1 by omega) (.slice a1 l.length c1) (.int .i64 mk) (.int .i64 lt) (.int .i64 ov)
    have st : ∀ (V : World) (i : Nat) (u : Value), Below w.heap.size w V → Below w.heap.size w (V.setCell ⟨w.heap.size + 1 + 1, i, none⟩ u) := fun V i u h => h.setCell (p := ⟨w.heap.size + 1 + 1, i, none⟩) (show w.heap.size ≤ w.heap.size + 1 + 1 by omega) u
    exact st _ _ _ (st _ _ _ (st _ _ _ (st _ _ _ (st _ _ _ (st _ _ _ e0)))))
set_option maxHeartbeats 1000000 in
set_option maxRecDepth 100000 in
theorem specTake_no1 (a : Option Addr) (c : Nat) (mk lt ov sz : Int) (al : Bool) (l : List Ag) (hi : Nat) (w : World) (hr : Ags w hi a c l) (hB : hi ≤ w.heap.size) (hlen : l.length ≤ 1048576) (hS : sokB l mk lt ov = false) :
    Calls Try.prog 14 #[.agg #[.slice a l.length c, .int .i64 mk, .int .i64 lt, .int .i64 ov], .int .i64 sz, .bool al] w (FreshNone l mk lt ov w) := by
  have b3 := (((Below.refl w.heap.size w).alloc (Nat.le_refl _) (.cells #[.slice a l.length c, .int .i64 mk, .int .i64 lt, .int .i64 ov] 29)).alloc (by simp) (.cells #[.slice none 0 0, .int .i64 0, .int .i64 0, .int .i64 0] 29)).alloc (by simp; omega) (.cells #[.int .i64 0, .int .i64 0, .int .i64 0, .int .i64 0, .int .i64 0, .int .i64 0] 37)
  have HN := Lib.hid (hr.below (b3.mono hB))
  have k1 := (Blk.new (w.alloc (.cells #[.slice a l.length c, .int .i64 mk, .int .i64 lt, .int .i64 ov] 29)) 29 #[.slice none 0 0, .int .i64 0, .int .i64 0, .int .i64 0]).alloc (.cells #[.int .i64 0, .int .i64 0, .int .i64 0, .int .i64 0, .int .i64 0, .int .i64 0] 37)
  rw [World.size_alloc] at k1
  have k2 := Blk.new ((w.alloc (.cells #[.slice a l.length c, .int .i64 mk, .int .i64 lt, .int .i64 ov] 29)).alloc (.cells #[.slice none 0 0, .int .i64 0, .int .i64 0, .int .i64 0] 29)) 37 #[.int .i64 0, .int .i64 0, .int .i64 0, .int .i64 0, .int .i64 0, .int .i64 0]
  rw [World.size_alloc, World.size_alloc] at k2
  have K0 := Lib.hid (((Blk.new w 29 #[.slice a l.length c, .int .i64 mk, .int .i64 lt, .int .i64 ov]).alloc (.cells #[.slice none 0 0, .int .i64 0, .int .i64 0, .int .i64 0] 29)).alloc (.cells #[.int .i64 0, .int .i64 0, .int .i64 0, .int .i64 0, .int .i64 0, .int .i64 0] 37))
  have K1 := Lib.hid k1
  have K2 := Lib.hid k2
  have B3 := Lib.hid b3
  have HOK := Lib.hid (fun (W : World) (h : Ags W hi a c l) (h2 : hi ≤ W.heap.size) => specShardOk_any a l.length c mk lt ov l hi W h rfl h2)
  clear hr b3 k1 k2
  rw [hS] at HOK
  go_enter Try.func14, Try.ntmps14
  go_wp2_with fail
  refine (specCopy_any a _ c mk lt ov l _ _ HN.out rfl (by simp; omega) hlen).mono ?_
  rintro e w1 ⟨a1, c1, rfl, ho, hb⟩
  have HNE : Hid (some (w.heap.size + 1 + 1) ≠ (Value.slice a1 l.length c1).ownBlock) := Lib.hid (own_ge ho (by simp))
  have s1 := hb.size
  simp only [World.size_alloc] at s1
  have T0 := Lib.hid ((K0.out.below hb).alloc (.cells #[.slice a1 l.length c1, .int .i64 mk, .int .i64 lt, .int .i64 ov] 29))
  have T1 := Lib.hid ((K1.out.below hb).alloc (.cells #[.slice a1 l.length c1, .int .i64 mk, .int .i64 lt, .int .i64 ov] 29))
  have T2 := Lib.hid ((K2.out.below hb).alloc (.cells #[.slice a1 l.length c1, .int .i64 mk, .int .i64 lt, .int .i64 ov] 29))
  have TN := Lib.hid (Blk.new w1 29 #[.slice a1 l.length c1, .int .i64 mk, .int .i64 lt, .int .i64 ov])
  have TO := Lib.hid ((owns_less ho (show w.heap.size ≤ _ by simp; omega)).alloc (.cells #[.slice a1 l.length c1, .int .i64 mk, .int .i64 lt, .int .i64 ov] 29))
  have TB := Lib.hid ((B3.out.trans (hb.mono (by simp; omega))).alloc (by omega) (.cells #[.slice a1 l.length c1, .int .i64 mk, .int .i64 lt, .int .i64 ov] 29))
  have TA := Lib.hid ((HN.out.below (hb.mono (by simp; omega))).below ((Below.refl hi w1).alloc (by omega) (.cells #[.slice a1 l.length c1, .int .i64 mk, .int .i64 lt, .int .i64 ov] 29)))
  have TH : hi ≤ (w1.alloc (.cells #[.slice a1 l.length c1, .int .i64 mk, .int .i64 lt, .int .i64 ov] 29)).heap.size := by simp; omega
  have TW : w.heap.size ≤ (w1.alloc (.cells #[.slice a1 l.length c1, .int .i64 mk, .int .i64 lt, .int .i64 ov] 29)).heap.size := by simp; omega
  have TV : w.heap.size + 3 ≤ (w1.alloc (.cells #[.slice a1 l.length c1, .int .i64 mk, .int .i64 lt, .int .i64 ov] 29)).heap.size := by simp; omega
  have q0 := T0.out.cell
  clear ho hb
  go_wp2_with fail
  refine (HOK.out _ TA.out TH).mono ?_
  rintro e wU ⟨rfl, hb⟩
  have U0 := Lib.hid (T0.out.below hb)
  have U1 := Lib.hid (T1.out.below hb)
  have U2 := Lib.hid (T2.out.below hb)
  have UN := Lib.hid (TN.out.below hb)
  have UO := Lib.hid (owns_below TO.out hb)
  have UA := Lib.hid (TA.out.below (hb.mono TH))
  have UB := Lib.hid (TB.out.trans (hb.mono TW))
  have UH : hi ≤ wU.heap.size := Nat.le_trans TH hb.size
  have UW : w.heap.size + 3 ≤ wU.heap.size := Nat.le_trans TV hb.size
  have UV := UW
  replace UW : w.heap.size ≤ wU.heap.size := by omega
  clear hb q0
  have q0 := U0.out.cell
  have q1 := U1.out.cell
  have q2 := U2.out.cell
  have qn := UN.out.cell
  have f1 := U1.out.frozen
  have f2 := U2.out.frozen
  have fn := UN.out.frozen
  have HP : Hid (FreshNone l mk lt ov w (.returned (.tuple #[.agg #[.slice a1 l.length c1, .int .i64 mk, .int .i64 lt, .int .i64 ov], .agg #[.int .i64 0, .int .i64 0, .int .i64 0, .int .i64 0, .int .i64 0, .int .i64 0], .bool false])) ((((((((((wU.setCell ⟨w.heap.size + 1, 0, none⟩ (.slice a1 l.length c1)).setCell ⟨w.heap.size + 1, 1, none⟩ (.int .i64 mk)).setCell ⟨w.heap.size + 1, 2, none⟩ (.int .i64 lt)).setCell ⟨w.heap.size + 1, 3, none⟩ (.int .i64 ov)).setCell ⟨w.heap.size + 1 + 1, 0, none⟩ (.int .i64 0)).setCell ⟨w.heap.size + 1 + 1, 1, none⟩ (.int .i64 0)).setCell ⟨w.heap.size + 1 + 1, 2, none⟩ (.int .i64 0)).setCell ⟨w.heap.size + 1 + 1, 3, none⟩ (.int .i64 0)).setCell ⟨w.heap.size + 1 + 1, 4, none⟩ (.int .i64 0)).setCell ⟨w.heap.size + 1 + 1, 5, none⟩ (.int .i64 0))) := Lib.hid (none_put a1 c1 UO.out U1.out UB.out HNE.out)
  go_wp2
  exact bodyPost_ret (v := .tuple #[.agg #[.slice a1 l.length c1, .int .i64 mk, .int .i64 lt, .int .i64 ov], .agg #[.int .i64 0, .int .i64 0, .int .i64 0, .int .i64 0, .int .i64 0, .int .i64 0], .bool false]) (by simp [results, Try.results14, go_sem, q1, q2]) rfl HP.out
set_option maxHeartbeats 1000000 in
set_option maxRecDepth 100000 in
theorem specTake_no2 (a : Option Addr) (c : Nat) (mk lt ov sz : Int) (al : Bool) (l : List Ag) (hi : Nat) (w : World) (hr : Ags w hi a c l) (hB : hi ≤ w.heap.size) (hlen : l.length ≤ 1048576) (hS : sokB l mk lt ov = true) (hZ : inB sz 1 1000000 = false) :
    Calls Try.prog 14 #[.agg #[.slice a l.length c, .int .i64 mk, .int .i64 lt, .int .i64 ov], .int .i64 sz, .bool al] w (FreshNone l mk lt ov w) := by
  have b3 := (((Below.refl w.heap.size w).alloc (Nat.le_refl _) (.cells #[.slice a l.length c, .int .i64 mk, .int .i64 lt, .int .i64 ov] 29)).alloc (by simp) (.cells #[.slice none 0 0, .int .i64 0, .int .i64 0, .int .i64 0] 29)).alloc (by simp; omega) (.cells #[.int .i64 0, .int .i64 0, .int .i64 0, .int .i64 0, .int .i64 0, .int .i64 0] 37)
  have HN := Lib.hid (hr.below (b3.mono hB))
  have k1 := (Blk.new (w.alloc (.cells #[.slice a l.length c, .int .i64 mk, .int .i64 lt, .int .i64 ov] 29)) 29 #[.slice none 0 0, .int .i64 0, .int .i64 0, .int .i64 0]).alloc (.cells #[.int .i64 0, .int .i64 0, .int .i64 0, .int .i64 0, .int .i64 0, .int .i64 0] 37)
  rw [World.size_alloc] at k1
  have k2 := Blk.new ((w.alloc (.cells #[.slice a l.length c, .int .i64 mk, .int .i64 lt, .int .i64 ov] 29)).alloc (.cells #[.slice none 0 0, .int .i64 0, .int .i64 0, .int .i64 0] 29)) 37 #[.int .i64 0, .int .i64 0, .int .i64 0, .int .i64 0, .int .i64 0, .int .i64 0]
  rw [World.size_alloc, World.size_alloc] at k2
  have K0 := Lib.hid (((Blk.new w 29 #[.slice a l.length c, .int .i64 mk, .int .i64 lt, .int .i64 ov]).alloc (.cells #[.slice none 0 0, .int .i64 0, .int .i64 0, .int .i64 0] 29)).alloc (.cells #[.int .i64 0, .int .i64 0, .int .i64 0, .int .i64 0, .int .i64 0, .int .i64 0] 37))
  have K1 := Lib.hid k1
  have K2 := Lib.hid k2
  have B3 := Lib.hid b3
  have HOK := Lib.hid (fun (W : World) (h : Ags W hi a c l) (h2 : hi ≤ W.heap.size) => specShardOk_any a l.length c mk lt ov l hi W h rfl h2)
  clear hr b3 k1 k2
  rw [hS] at HOK
  have CI := Lib.hid (fun W => specIn_any sz 1 1000000 W)
  rw [hZ] at CI
  go_enter Try.func14, Try.ntmps14
  go_wp2_with fail
  refine (specCopy_any a _ c mk lt ov l _ _ HN.out rfl (by simp; omega) hlen).mono ?_
  rintro e w1 ⟨a1, c1, rfl, ho, hb⟩
  have HNE : Hid (some (w.heap.size + 1 + 1) ≠ (Value.slice a1 l.length c1).ownBlock) := Lib.hid (own_ge ho (by simp))
  have s1 := hb.size
  simp only [World.size_alloc] at s1
  have T0 := Lib.hid ((K0.out.below hb).alloc (.cells #[.slice a1 l.length c1, .int .i64 mk, .int .i64 lt, .int .i64 ov] 29))
  have T1 := Lib.hid ((K1.out.below hb).alloc (.cells #[.slice a1 l.length c1, .int .i64 mk, .int .i64 lt, .int .i64 ov] 29))
  have T2 := Lib.hid ((K2.out.below hb).alloc (.cells #[.slice a1 l.length c1, .int .i64 mk, .int .i64 lt, .int .i64 ov] 29))
  have TN := Lib.hid (Blk.new w1 29 #[.slice a1 l.length c1, .int .i64 mk, .int .i64 lt, .int .i64 ov])
  have TO := Lib.hid ((owns_less ho (show w.heap.size ≤ _ by simp; omega)).alloc (.cells #[.slice a1 l.length c1, .int .i64 mk, .int .i64 lt, .int .i64 ov] 29))
  have TB := Lib.hid ((B3.out.trans (hb.mono (by simp; omega))).alloc (by omega) (.cells #[.slice a1 l.length c1, .int .i64 mk, .int .i64 lt, .int .i64 ov] 29))
  have TA := Lib.hid ((HN.out.below (hb.mono (by simp; omega))).below ((Below.refl hi w1).alloc (by omega) (.cells #[.slice a1 l.length c1, .int .i64 mk, .int .i64 lt, .int .i64 ov] 29)))
  have TH : hi ≤ (w1.alloc (.cells #[.slice a1 l.length c1, .int .i64 mk, .int .i64 lt, .int .i64 ov] 29)).heap.size := by simp; omega
  have TW : w.heap.size ≤ (w1.alloc (.cells #[.slice a1 l.length c1, .int .i64 mk, .int .i64 lt, .int .i64 ov] 29)).heap.size := by simp; omega
  have TV : w.heap.size + 3 ≤ (w1.alloc (.cells #[.slice a1 l.length c1, .int .i64 mk, .int .i64 lt, .int .i64 ov] 29)).heap.size := by simp; omega
  have q0 := T0.out.cell
  clear ho hb
  go_wp2_with fail
  refine (HOK.out _ TA.out TH).mono ?_
  rintro e wU ⟨rfl, hb⟩
  have U0 := Lib.hid (T0.out.below hb)
  have U1 := Lib.hid (T1.out.below hb)
  have U2 := Lib.hid (T2.out.below hb)
  have UN := Lib.hid (TN.out.below hb)
  have UO := Lib.hid (owns_below TO.out hb)
  have UA := Lib.hid (TA.out.below (hb.mono TH))
  have UB := Lib.hid (TB.out.trans (hb.mono TW))
  have UH : hi ≤ wU.heap.size := Nat.le_trans TH hb.size
  have UW : w.heap.size + 3 ≤ wU.heap.size := Nat.le_trans TV hb.size
  have UV := UW
  replace UW : w.heap.size ≤ wU.heap.size := by omega
  clear hb q0
  have q0 := U0.out.cell
  go_wp2_with fail
  refine (CI.out _).mono ?_
  rintro e w' ⟨rfl, rfl⟩
  have q1 := U1.out.cell
  have q2 := U2.out.cell
  have qn := UN.out.cell
  have f1 := U1.out.frozen
  have f2 := U2.out.frozen
  have fn := UN.out.frozen
  have HP : Hid (FreshNone l mk lt ov w (.returned (.tuple #[.agg #[.slice a1 l.length c1, .int .i64 mk, .int .i64 lt, .int .i64 ov], .agg #[.int .i64 0, .int .i64 0, .int .i64 0, .int .i64 0, .int .i64 0, .int .i64 0], .bool false])) ((((((((((wU.setCell ⟨w.heap.size + 1, 0, none⟩ (.slice a1 l.length c1)).setCell ⟨w.heap.size + 1, 1, none⟩ (.int .i64 mk)).setCell ⟨w.heap.size + 1, 2, none⟩ (.int .i64 lt)).setCell ⟨w.heap.size + 1, 3, none⟩ (.int .i64 ov)).setCell ⟨w.heap.size + 1 + 1, 0, none⟩ (.int .i64 0)).setCell ⟨w.heap.size + 1 + 1, 1, none⟩ (.int .i64 0)).setCell ⟨w.heap.size + 1 + 1, 2, none⟩ (.int .i64 0)).setCell ⟨w.heap.size + 1 + 1, 3, none⟩ (.int .i64 0)).setCell ⟨w.heap.size + 1 + 1, 4, none⟩ (.int .i64 0)).setCell ⟨w.heap.size + 1 + 1, 5, none⟩ (.int .i64 0))) := Lib.hid (none_put a1 c1 UO.out U1.out UB.out HNE.out)
  go_wp2
  exact bodyPost_ret (v := .tuple #[.agg #[.slice a1 l.length c1, .int .i64 mk, .int .i64 lt, .int .i64 ov], .agg #[.int .i64 0, .int .i64 0, .int .i64 0, .int .i64 0, .int .i64 0, .int .i64 0], .bool false]) (by simp [results, Try.results14, go_sem, q1, q2]) rfl HP.out
set_option maxHeartbeats 1000000 in
set_option maxRecDepth 100000 in
theorem specTake_no3 (a : Option Addr) (c : Nat) (mk lt ov sz : Int) (al : Bool) (l : List Ag) (hi : Nat) (w : World) (hr : Ags w hi a c l) (hB : hi ≤ w.heap.size) (hlen : l.length ≤ 1048576) (hS : sokB l mk lt ov = true) (hZ : inB sz 1 1000000 = true) (hl : (l.length : Int) = 0) :
    Calls Try.prog 14 #[.agg #[.slice a l.length c, .int .i64 mk, .int .i64 lt, .int .i64 ov], .int .i64 sz, .bool al] w (FreshNone l mk lt ov w) := by
  have b3 := (((Below.refl w.heap.size w).alloc (Nat.le_refl _) (.cells #[.slice a l.length c, .int .i64 mk, .int .i64 lt, .int .i64 ov] 29)).alloc (by simp) (.cells #[.slice none 0 0, .int .i64 0, .int .i64 0, .int .i64 0] 29)).alloc (by simp; omega) (.cells #[.int .i64 0, .int .i64 0, .int .i64 0, .int .i64 0, .int .i64 0, .int .i64 0] 37)
  have HN := Lib.hid (hr.below (b3.mono hB))
  have k1 := (Blk.new (w.alloc (.cells #[.slice a l.length c, .int .i64 mk, .int .i64 lt, .int .i64 ov] 29)) 29 #[.slice none 0 0, .int .i64 0, .int .i64 0, .int .i64 0]).alloc (.cells #[.int .i64 0, .int .i64 0, .int .i64 0, .int .i64 0, .int .i64 0, .int .i64 0] 37)
  rw [World.size_alloc] at k1
  have k2 := Blk.new ((w.alloc (.cells #[.slice a l.length c, .int .i64 mk, .int .i64 lt, .int .i64 ov] 29)).alloc (.cells #[.slice none 0 0, .int .i64 0, .int .i64 0, .int .i64 0] 29)) 37 #[.int .i64 0, .int .i64 0, .int .i64 0, .int .i64 0, .int .i64 0, .int .i64 0]
  rw [World.size_alloc, World.size_alloc] at k2
  have K0 := Lib.hid (((Blk.new w 29 #[.slice a l.length c, .int .i64 mk, .int .i64 lt, .int .i64 ov]).alloc (.cells #[.slice none 0 0, .int .i64 0, .int .i64 0, .int .i64 0] 29)).alloc (.cells #[.int .i64 0, .int .i64 0, .int .i64 0, .int .i64 0, .int .i64 0, .int .i64 0] 37))
  have K1 := Lib.hid k1
  have K2 := Lib.hid k2
  have B3 := Lib.hid b3
  have HOK := Lib.hid (fun (W : World) (h : Ags W hi a c l) (h2 : hi ≤ W.heap.size) => specShardOk_any a l.length c mk lt ov l hi W h rfl h2)
  clear hr b3 k1 k2
  rw [hS] at HOK
  have CI := Lib.hid (fun W => specIn_any sz 1 1000000 W)
  rw [hZ] at CI
  go_enter Try.func14, Try.ntmps14
  go_wp2_with fail
  refine (specCopy_any a _ c mk lt ov l _ _ HN.out rfl (by simp; omega) hlen).mono ?_
  rintro e w1 ⟨a1, c1, rfl, ho, hb⟩
  have HNE : Hid (some (w.heap.size + 1 + 1) ≠ (Value.slice a1 l.length c1).ownBlock) := Lib.hid (own_ge ho (by simp))
  have s1 := hb.size
  simp only [World.size_alloc] at s1
  have T0 := Lib.hid ((K0.out.below hb).alloc (.cells #[.slice a1 l.length c1, .int .i64 mk, .int .i64 lt, .int .i64 ov] 29))
  have T1 := Lib.hid ((K1.out.below hb).alloc (.cells #[.slice a1 l.length c1, .int .i64 mk, .int .i64 lt, .int .i64 ov] 29))
  have T2 := Lib.hid ((K2.out.below hb).alloc (.cells #[.slice a1 l.length c1, .int .i64 mk, .int .i64 lt, .int .i64 ov] 29))
  have TN := Lib.hid (Blk.new w1 29 #[.slice a1 l.length c1, .int .i64 mk, .int .i64 lt, .int .i64 ov])
  have TO := Lib.hid ((owns_less ho (show w.heap.size ≤ _ by simp; omega)).alloc (.cells #[.slice a1 l.length c1, .int .i64 mk, .int .i64 lt, .int .i64 ov] 29))
  have TB := Lib.hid ((B3.out.trans (hb.mono (by simp; omega))).alloc (by omega) (.cells #[.slice a1 l.length c1, .int .i64 mk, .int .i64 lt, .int .i64 ov] 29))
  have TA := Lib.hid ((HN.out.below (hb.mono (by simp; omega))).below ((Below.refl hi w1).alloc (by omega) (.cells #[.slice a1 l.length c1, .int .i64 mk, .int .i64 lt, .int .i64 ov] 29)))
  have TH : hi ≤ (w1.alloc (.cells #[.slice a1 l.length c1, .int .i64 mk, .int .i64 lt, .int .i64 ov] 29)).heap.size := by simp; omega
  have TW : w.heap.size ≤ (w1.alloc (.cells #[.slice a1 l.length c1, .int .i64 mk, .int .i64 lt, .int .i64 ov] 29)).heap.size := by simp; omega
  have TV : w.heap.size + 3 ≤ (w1.alloc (.cells #[.slice a1 l.length c1, .int .i64 mk, .int .i64 lt, .int .i64 ov] 29)).heap.size := by simp; omega
  have q0 := T0.out.cell
  clear ho hb
  go_wp2_with fail
  refine (HOK.out _ TA.out TH).mono ?_
  rintro e wU ⟨rfl, hb⟩
  have U0 := Lib.hid (T0.out.below hb)
  have U1 := Lib.hid (T1.out.below hb)
  have U2 := Lib.hid (T2.out.below hb)
  have UN := Lib.hid (TN.out.below hb)
  have UO := Lib.hid (owns_below TO.out hb)
  have UA := Lib.hid (TA.out.below (hb.mono TH))
  have UB := Lib.hid (TB.out.trans (hb.mono TW))
  have UH : hi ≤ wU.heap.size := Nat.le_trans TH hb.size
  have UW : w.heap.size + 3 ≤ wU.heap.size := Nat.le_trans TV hb.size
  have UV := UW
  replace UW : w.heap.size ≤ wU.heap.size := by omega
  clear hb q0
  have q0 := U0.out.cell
  go_wp2_with fail
  refine (CI.out _).mono ?_
  rintro e w' ⟨rfl, rfl⟩
  have q1 := U1.out.cell
  have q2 := U2.out.cell
  have qn := UN.out.cell
  have f1 := U1.out.frozen
  have f2 := U2.out.frozen
  have fn := UN.out.frozen
  have HP : Hid (FreshNone l mk lt ov w (.returned (.tuple #[.agg #[.slice a1 l.length c1, .int .i64 mk, .int .i64 lt, .int .i64 ov], .agg #[.int .i64 0, .int .i64 0, .int .i64 0, .int .i64 0, .int .i64 0, .int .i64 0], .bool false])) ((((((((((wU.setCell ⟨w.heap.size + 1, 0, none⟩ (.slice a1 l.length c1)).setCell ⟨w.heap.size + 1, 1, none⟩ (.int .i64 mk)).setCell ⟨w.heap.size + 1, 2, none⟩ (.int .i64 lt)).setCell ⟨w.heap.size + 1, 3, none⟩ (.int .i64 ov)).setCell ⟨w.heap.size + 1 + 1, 0, none⟩ (.int .i64 0)).setCell ⟨w.heap.size + 1 + 1, 1, none⟩ (.int .i64 0)).setCell ⟨w.heap.size + 1 + 1, 2, none⟩ (.int .i64 0)).setCell ⟨w.heap.size + 1 + 1, 3, none⟩ (.int .i64 0)).setCell ⟨w.heap.size + 1 + 1, 4, none⟩ (.int .i64 0)).setCell ⟨w.heap.size + 1 + 1, 5, none⟩ (.int .i64 0))) := Lib.hid (none_put a1 c1 UO.out U1.out UB.out HNE.out)
  go_wp2
  exact bodyPost_ret (v := .tuple #[.agg #[.slice a1 l.length c1, .int .i64 mk, .int .i64 lt, .int .i64 ov], .agg #[.int .i64 0, .int .i64 0, .int .i64 0, .int .i64 0, .int .i64 0, .int .i64 0], .bool false]) (by simp [results, Try.results14, go_sem, q1, q2]) rfl HP.out
set_option maxHeartbeats 1000000 in
set_option maxRecDepth 100000 in
theorem specTake_no4 (a : Option Addr) (c : Nat) (mk lt ov sz : Int) (l : List Ag) (hi : Nat) (w : World) (hr : Ags w hi a c l) (hB : hi ≤ w.heap.size) (hlen : l.length ≤ 1048576) (hS : sokB l mk lt ov = true) (hZ : inB sz 1 1000000 = true) (hl : ¬ l = []) (hcl : closedL l mk lt ov sz = []) :
    Calls Try.prog 14 #[.agg #[.slice a l.length c, .int .i64 mk, .int .i64 lt, .int .i64 ov], .int .i64 sz, .bool false] w (FreshNone l mk lt ov w) := by
  have b3 := (((Below.refl w.heap.size w).alloc (Nat.le_refl _) (.cells #[.slice a l.length c, .int .i64 mk, .int .i64 lt, .int .i64 ov] 29)).alloc (by simp) (.cells #[.slice none 0 0, .int .i64 0, .int .i64 0, .int .i64 0] 29)).alloc (by simp; omega) (.cells #[.int .i64 0, .int .i64 0, .int .i64 0, .int .i64 0, .int .i64 0, .int .i64 0] 37)
  have HN := Lib.hid (hr.below (b3.mono hB))
  have k1 := (Blk.new (w.alloc (.cells #[.slice a l.length c, .int .i64 mk, .int .i64 lt, .int .i64 ov] 29)) 29 #[.slice none 0 0, .int .i64 0, .int .i64 0, .int .i64 0]).alloc (.cells #[.int .i64 0, .int .i64 0, .int .i64 0, .int .i64 0, .int .i64 0, .int .i64 0] 37)
  rw [World.size_alloc] at k1
  have k2 := Blk.new ((w.alloc (.cells #[.slice a l.length c, .int .i64 mk, .int .i64 lt, .int .i64 ov] 29)).alloc (.cells #[.slice none 0 0, .int .i64 0, .int .i64 0, .int .i64 0] 29)) 37 #[.int .i64 0, .int .i64 0, .int .i64 0, .int .i64 0, .int .i64 0, .int .i64 0]
  rw [World.size_alloc, World.size_alloc] at k2
  have K0 := Lib.hid (((Blk.new w 29 #[.slice a l.length c, .int .i64 mk, .int .i64 lt, .int .i64 ov]).alloc (.cells #[.slice none 0 0, .int .i64 0, .int .i64 0, .int .i64 0] 29)).alloc (.cells #[.int .i64 0, .int .i64 0, .int .i64 0, .int .i64 0, .int .i64 0, .int .i64 0] 37))
  have K1 := Lib.hid k1
  have K2 := Lib.hid k2
  have B3 := Lib.hid b3
  have HOK := Lib.hid (fun (W : World) (h : Ags W hi a c l) (h2 : hi ≤ W.heap.size) => specShardOk_any a l.length c mk lt ov l hi W h rfl h2)
  clear hr b3 k1 k2
  rw [hS] at HOK
  have CI := Lib.hid (fun W => specIn_any sz 1 1000000 W)
  rw [hZ] at CI
  have HCL := Lib.hid hcl
  clear hcl
  go_enter Try.func14, Try.ntmps14
  go_wp2_with fail
  refine (specCopy_any a _ c mk lt ov l _ _ HN.out rfl (by simp; omega) hlen).mono ?_
  rintro e w1 ⟨a1, c1, rfl, ho, hb⟩
  have HNE : Hid (some (w.heap.size + 1 + 1) ≠ (Value.slice a1 l.length c1).ownBlock) := Lib.hid (own_ge ho (by simp))
  have s1 := hb.size
  simp only [World.size_alloc] at s1
  have T0 := Lib.hid ((K0.out.below hb).alloc (.cells #[.slice a1 l.length c1, .int .i64 mk, .int .i64 lt, .int .i64 ov] 29))
  have T1 := Lib.hid ((K1.out.below hb).alloc (.cells #[.slice a1 l.length c1, .int .i64 mk, .int .i64 lt, .int .i64 ov] 29))
  have T2 := Lib.hid ((K2.out.below hb).alloc (.cells #[.slice a1 l.length c1, .int .i64 mk, .int .i64 lt, .int .i64 ov] 29))
  have TN := Lib.hid (Blk.new w1 29 #[.slice a1 l.length c1, .int .i64 mk, .int .i64 lt, .int .i64 ov])
  have TO := Lib.hid ((owns_less ho (show w.heap.size ≤ _ by simp; omega)).alloc (.cells #[.slice a1 l.length c1, .int .i64 mk, .int .i64 lt, .int .i64 ov] 29))
  have TB := Lib.hid ((B3.out.trans (hb.mono (by simp; omega))).alloc (by omega) (.cells #[.slice a1 l.length c1, .int .i64 mk, .int .i64 lt, .int .i64 ov] 29))
  have TA := Lib.hid ((HN.out.below (hb.mono (by simp; omega))).below ((Below.refl hi w1).alloc (by omega) (.cells #[.slice a1 l.length c1, .int .i64 mk, .int .i64 lt, .int .i64 ov] 29)))
  have TH : hi ≤ (w1.alloc (.cells #[.slice a1 l.length c1, .int .i64 mk, .int .i64 lt, .int .i64 ov] 29)).heap.size := by simp; omega
  have TW : w.heap.size ≤ (w1.alloc (.cells #[.slice a1 l.length c1, .int .i64 mk, .int .i64 lt, .int .i64 ov] 29)).heap.size := by simp; omega
  have TV : w.heap.size + 3 ≤ (w1.alloc (.cells #[.slice a1 l.length c1, .int .i64 mk, .int .i64 lt, .int .i64 ov] 29)).heap.size := by simp; omega
  have q0 := T0.out.cell
  clear ho hb
  go_wp2_with fail
  refine (HOK.out _ TA.out TH).mono ?_
  rintro e wU ⟨rfl, hb⟩
  have U0 := Lib.hid (T0.out.below hb)
  have U1 := Lib.hid (T1.out.below hb)
  have U2 := Lib.hid (T2.out.below hb)
  have UN := Lib.hid (TN.out.below hb)
  have UO := Lib.hid (owns_below TO.out hb)
  have UA := Lib.hid (TA.out.below (hb.mono TH))
  have UB := Lib.hid (TB.out.trans (hb.mono TW))
  have UH : hi ≤ wU.heap.size := Nat.le_trans TH hb.size
  have UW : w.heap.size + 3 ≤ wU.heap.size := Nat.le_trans TV hb.size
  have UV := UW
  replace UW : w.heap.size ≤ wU.heap.size := by omega
  clear hb q0
  have q0 := U0.out.cell
  go_wp2_with fail
  refine (CI.out _).mono ?_
  rintro e w' ⟨rfl, rfl⟩
  go_wp2_with fail
  refine (specClosed_any a c mk lt ov sz l hi _ UA.out UH).mono ?_
  rintro e wX ⟨ax, cx, rfl, _, hb⟩
  have hcl := HCL.out
  rw [hcl]
  clear hcl
  have X0 := Lib.hid (U0.out.below hb)
  have X1 := Lib.hid (U1.out.below hb)
  have X2 := Lib.hid (U2.out.below hb)
  have XN := Lib.hid (UN.out.below hb)
  have XO := Lib.hid (owns_below UO.out hb)
  have XA := Lib.hid (UA.out.below (hb.mono UH))
  have XB := Lib.hid (UB.out.trans (hb.mono UW))
  have XH : hi ≤ wX.heap.size := Nat.le_trans UH hb.size
  have XW : w.heap.size + 3 ≤ wX.heap.size := Nat.le_trans UV hb.size
  have XV := XW
  replace XW : w.heap.size ≤ wX.heap.size := by omega
  clear hb q0
  have q0 := X0.out.cell
  have q1 := X1.out.cell
  have q2 := X2.out.cell
  have qn := XN.out.cell
  have f1 := X1.out.frozen
  have f2 := X2.out.frozen
  have fn := XN.out.frozen
  have HP : Hid (FreshNone l mk lt ov w (.returned (.tuple #[.agg #[.slice a1 l.length c1, .int .i64 mk, .int .i64 lt, .int .i64 ov], .agg #[.int .i64 0, .int .i64 0, .int .i64 0, .int .i64 0, .int .i64 0, .int .i64 0], .bool false])) ((((((((((wX.setCell ⟨w.heap.size + 1, 0, none⟩ (.slice a1 l.length c1)).setCell ⟨w.heap.size + 1, 1, none⟩ (.int .i64 mk)).setCell ⟨w.heap.size + 1, 2, none⟩ (.int .i64 lt)).setCell ⟨w.heap.size + 1, 3, none⟩ (.int .i64 ov)).setCell ⟨w.heap.size + 1 + 1, 0, none⟩ (.int .i64 0)).setCell ⟨w.heap.size + 1 + 1, 1, none⟩ (.int .i64 0)).setCell ⟨w.heap.size + 1 + 1, 2, none⟩ (.int .i64 0)).setCell ⟨w.heap.size + 1 + 1, 3, none⟩ (.int .i64 0)).setCell ⟨w.heap.size + 1 + 1, 4, none⟩ (.int .i64 0)).setCell ⟨w.heap.size + 1 + 1, 5, none⟩ (.int .i64 0))) := Lib.hid (none_put a1 c1 XO.out X1.out XB.out HNE.out)
  go_wp2
  exact bodyPost_ret (v := .tuple #[.agg #[.slice a1 l.length c1, .int .i64 mk, .int .i64 lt, .int .i64 ov], .agg #[.int .i64 0, .int .i64 0, .int .i64 0, .int .i64 0, .int .i64 0, .int .i64 0], .bool false]) (by simp [results, Try.results14, go_sem, q1, q2]) rfl HP.out
end Go.Proofs.Ytnfhlfbkdhpacaa
