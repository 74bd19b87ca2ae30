/- impl.TakeClosed where the shard or the size is not good, and the plain half of the rest. (made by tools/mktakei.py) -/
import Derived.Test.YtnfhlfbkdhpacaaTakeS
import Derived.Test.YtnfhlfbkdhpacaaClosA
import Derived.Test.YtnfhlfbkdhpacaaDel
import Derived.Test.YtnfhlfbkdhpacaaPlace
namespace Go.Proofs.Ytnfhlfbkdhpacaa
open Go.RowKit

/-- The first that may come out is the first of all. -/
theorem pick_head {al : Bool} {mk sz lt ov : Int} {l : List Ag} (hS : sokB l mk lt ov = true) (hZ : inB sz 1 1000000 = true) {x : Ag} {r : List Ag} (h : pickL al mk sz l = x :: r) : 0 < l.length ∧ x = ael l 0 := by
  obtain ⟨_, _, _, _, hup⟩ := sok_bd hS
  have hri := (sok_rising hS).1
  cases l with
  | nil => simp [pickL] at h
  | cons S t =>
    refine ⟨by simp, ?_⟩
    have e0 : ael (S :: t) 0 = S := rfl
    rw [e0]
    cases hm : mayOut al mk sz S with
    | true =>
      simp only [pickL, List.filter_cons, hm, if_true] at h
      exact (List.cons.inj h).1.symm
    | false =>
      have hx : x ∈ pickL al mk sz (S :: t) := by rw [h]; simp
      have hx2 : x ∈ S :: t ∧ mayOut al mk sz x = true := List.mem_filter.1 hx
      rcases List.mem_cons.1 hx2.1 with rfl | hxt
      · simp [hm] at hx2
      · exfalso
        have hah : aheadA S x = true := (List.pairwise_cons.1 hri).1 x hxt
        obtain ⟨j, hj, hjx⟩ := List.getElem_of_mem hx2.1
        have o0 := (hup 0 (by simp)).1
        have oj := (hup j hj).1
        rw [ael_get hj, hjx] at oj
        rw [e0] at o0
        have w0 : inB S.win 0 1000000 = true := by unfold aggOk at o0; simp only [Bool.and_eq_true] at o0; exact o0.1.1.1.1.1.1
        have wx : inB x.win 0 1000000 = true := by unfold aggOk at oj; simp only [Bool.and_eq_true] at oj; exact oj.1.1.1.1.1.1
        have hle : S.win ≤ x.win := by have := of_decide_eq_true hah; omega
        have hb := inB_bd hZ
        have hmul : (S.win + 1) * sz ≤ (x.win + 1) * sz := Int.mul_le_mul_of_nonneg_right (by omega) (by omega)
        cases al with
        | true => simp [mayOut] at hm
        | false =>
          simp only [mayOut, Bool.false_or, windowEnd_yes w0 hZ, windowEnd_yes wx hZ, decide_eq_true_eq, decide_eq_false_iff_not] at hm hx2
          omega
theorem place_first {l : List Ag} : placeN l (ael l 0) = 0 :=
  placeN_eq (Nat.zero_le _) (fun t ht => absurd ht (by omega)) (fun _ => by
    have : ¬ cmpA (ael l 0) (ael l 0) < 0 := fun e => by have := cmpA_neg.1 e; rw [ahead_irrefl] at this; cases this
    omega)
theorem none_puti {l : List Ag} {mk lt ov : Int} {w W : World} (a1 : Option Addr) (c1 : Nat) (ho : W.ownsRow w.heap.size 37 6 (.slice a1 l.length c1) l.length (flatA l)) (h1 : Blk W (w.heap.size + 1) 29 #[.slice none 0 0, .int .i64 0, .int .i64 0, .int .i64 0]) (h3 : Blk W (w.heap.size + 1 + 1 + 1) 4 #[.bool false]) (hb : Below w.heap.size w W) (hne : some (w.heap.size + 1 + 1) ≠ (Value.slice a1 l.length c1).ownBlock) :
    FreshNone l mk lt ov w (.returned (.tuple #[.agg #[.slice a1 l.length c1, .int .i64 mk, .int .i64 lt, .int .i64 ov], .agg #[.int .i64 0, .int .i64 0, .int .i64 0, .int .i64 0, .int .i64 0, .int .i64 0], .bool false])) (((((((((((W.setCell ⟨w.heap.size + 1, 0, none⟩ (.slice a1 l.length c1)).setCell ⟨w.heap.size + 1, 1, none⟩ (.int .i64 mk)).setCell ⟨w.heap.size + 1, 2, none⟩ (.int .i64 lt)).setCell ⟨w.heap.size + 1, 3, none⟩ (.int .i64 ov)).setCell ⟨w.heap.size + 1 + 1, 0, none⟩ (.int .i64 0)).setCell ⟨w.heap.size + 1 + 1, 1, none⟩ (.int .i64 0)).setCell ⟨w.heap.size + 1 + 1, 2, none⟩ (.int .i64 0)).setCell ⟨w.heap.size + 1 + 1, 3, none⟩ (.int .i64 0)).setCell ⟨w.heap.size + 1 + 1, 4, none⟩ (.int .i64 0)).setCell ⟨w.heap.size + 1 + 1, 5, none⟩ (.int .i64 0)).setCell ⟨w.heap.size + 1 + 1 + 1, 0, none⟩ (.bool false)) := by
  have hn3 := own_blk_ne ho h3 (by decide)
  obtain ⟨a, c, e, o, b⟩ := none_put a1 c1 ho h1 hb hne
  injection e with e
  injection e with e
  simp only [Array.mk.injEq, List.cons.injEq, Value.agg.injEq, Value.slice.injEq] at e
  obtain ⟨⟨⟨rfl, _, rfl⟩, _⟩, _⟩ := e
  exact ⟨a1, c1, rfl, o.kept (grown_setCell _ _ _ _) (.inr hn3.symm), b.setCell (p := ⟨w.heap.size + 1 + 1 + 1, 0, none⟩) (show w.heap.size ≤ w.heap.size + 1 + 1 + 1 by omega) _⟩
/-- What TakeClosed answers. -/
def TakeRes (al : Bool) (l : List Ag) (mk lt ov sz : Int) (w : World) (e : Ending) (w' : World) : Prop :=
  (pickL al mk sz l = [] ∧ FreshNone l mk lt ov w e w') ∨ (pickL al mk sz l ≠ [] ∧ ∃ a c, e = .returned (.tuple #[.agg #[.slice a (l.drop 1).length c, .int .i64 mk, .int .i64 lt, .int .i64 ov], .agg (aC (ael l 0)).toArray, .bool true]) ∧
    w'.ownsRow w.heap.size 37 6 (.slice a (l.drop 1).length c) (l.drop 1).length (flatA (l.drop 1)) ∧ Below w.heap.size w w')
set_option maxHeartbeats 2000000 in
set_option maxRecDepth 100000 in
theorem implTake_no1 (a : Option Addr) (c : Nat) (mk lt ov sz : Int) (al : Bool) (l : List Ag) (hi : Nat) (w : World) (hr : Ags w hi a c l) (hB : hi ≤ w.heap.size) (hlen : l.length ≤ 1048576) (hS : sokB l mk lt ov = false) :
    Calls Try.prog 15 #[.agg #[.slice a l.length c, .int .i64 mk, .int .i64 lt, .int .i64 ov], .int .i64 sz, .bool al] w (FreshNone l mk lt ov w) := by
  have b4 := ((((Below.refl w.heap.size w).alloc (Nat.le_refl _) (.cells #[.slice a l.length c, .int .i64 mk, .int .i64 lt, .int .i64 ov] 29)).alloc (by simp) (.cells #[.slice none 0 0, .int .i64 0, .int .i64 0, .int .i64 0] 29)).alloc (by simp; omega) (.cells #[.int .i64 0, .int .i64 0, .int .i64 0, .int .i64 0, .int .i64 0, .int .i64 0] 37)).alloc (by simp; omega) (.cells #[.bool false] 4)
  have HN := Lib.hid (hr.below (b4.mono hB))
  have k1 := ((Blk.new (w.alloc (.cells #[.slice a l.length c, .int .i64 mk, .int .i64 lt, .int .i64 ov] 29)) 29 #[.slice none 0 0, .int .i64 0, .int .i64 0, .int .i64 0]).alloc (.cells #[.int .i64 0, .int .i64 0, .int .i64 0, .int .i64 0, .int .i64 0, .int .i64 0] 37)).alloc (.cells #[.bool false] 4)
  have k2 := (Blk.new ((w.alloc (.cells #[.slice a l.length c, .int .i64 mk, .int .i64 lt, .int .i64 ov] 29)).alloc (.cells #[.slice none 0 0, .int .i64 0, .int .i64 0, .int .i64 0] 29)) 37 #[.int .i64 0, .int .i64 0, .int .i64 0, .int .i64 0, .int .i64 0, .int .i64 0]).alloc (.cells #[.bool false] 4)
  have k3 := Blk.new (((w.alloc (.cells #[.slice a l.length c, .int .i64 mk, .int .i64 lt, .int .i64 ov] 29)).alloc (.cells #[.slice none 0 0, .int .i64 0, .int .i64 0, .int .i64 0] 29)).alloc (.cells #[.int .i64 0, .int .i64 0, .int .i64 0, .int .i64 0, .int .i64 0, .int .i64 0] 37)) 4 #[.bool false]
  simp only [World.size_alloc] at k1 k2 k3
  have K0 := Lib.hid ((((Blk.new w 29 #[.slice a l.length c, .int .i64 mk, .int .i64 lt, .int .i64 ov]).alloc (.cells #[.slice none 0 0, .int .i64 0, .int .i64 0, .int .i64 0] 29)).alloc (.cells #[.int .i64 0, .int .i64 0, .int .i64 0, .int .i64 0, .int .i64 0, .int .i64 0] 37)).alloc (.cells #[.bool false] 4))
  have K1 := Lib.hid k1
  have K2 := Lib.hid k2
  have K3 := Lib.hid k3
  have B4 := Lib.hid b4
  have HOK := Lib.hid (fun (W : World) (h : Ags W hi a c l) (h2 : hi ≤ W.heap.size) => implShardOk_any a l.length c mk lt ov l hi W h rfl h2)
  clear hr b4 k1 k2 k3
  rw [hS] at HOK
  go_enter Try.func15, Try.ntmps15
  go_wp2_with fail
  refine (copied_any a _ c mk lt ov l _ _ HN.out rfl (by simp; omega) hlen).mono ?_
  rintro e w1 ⟨a1, c1, rfl, ho, hb⟩
  have s1 := hb.size
  simp only [World.size_alloc] at s1
  have HNE2 : Hid (some (w.heap.size + 1 + 1) ≠ (Value.slice a1 l.length c1).ownBlock) := Lib.hid (own_ge ho (by simp))
  have T0 := Lib.hid ((K0.out.below hb).alloc (.cells #[.slice a1 l.length c1, .int .i64 mk, .int .i64 lt, .int .i64 ov] 29))
  have T1 := Lib.hid ((K1.out.below hb).alloc (.cells #[.slice a1 l.length c1, .int .i64 mk, .int .i64 lt, .int .i64 ov] 29))
  have T2 := Lib.hid ((K2.out.below hb).alloc (.cells #[.slice a1 l.length c1, .int .i64 mk, .int .i64 lt, .int .i64 ov] 29))
  have T3 := Lib.hid ((K3.out.below hb).alloc (.cells #[.slice a1 l.length c1, .int .i64 mk, .int .i64 lt, .int .i64 ov] 29))
  have TN := Lib.hid (Blk.new w1 29 #[.slice a1 l.length c1, .int .i64 mk, .int .i64 lt, .int .i64 ov])
  have TL := Lib.hid ho
  have TO := Lib.hid ((owns_less ho (show w.heap.size ≤ _ by simp; omega)).alloc (.cells #[.slice a1 l.length c1, .int .i64 mk, .int .i64 lt, .int .i64 ov] 29))
  have TB := Lib.hid ((B4.out.trans (hb.mono (by simp; omega))).alloc (by omega) (.cells #[.slice a1 l.length c1, .int .i64 mk, .int .i64 lt, .int .i64 ov] 29))
  have TA := Lib.hid ((HN.out.below (hb.mono (by simp; omega))).below ((Below.refl hi w1).alloc (by omega) (.cells #[.slice a1 l.length c1, .int .i64 mk, .int .i64 lt, .int .i64 ov] 29)))
  have TH : hi ≤ (w1.alloc (.cells #[.slice a1 l.length c1, .int .i64 mk, .int .i64 lt, .int .i64 ov] 29)).heap.size := by simp; omega
  have TW : w.heap.size ≤ (w1.alloc (.cells #[.slice a1 l.length c1, .int .i64 mk, .int .i64 lt, .int .i64 ov] 29)).heap.size := by simp; omega
  have q0 := T0.out.cell
  clear ho hb
  go_wp2_with fail
  refine (HOK.out _ TA.out TH).mono ?_
  rintro e wU ⟨rfl, hb⟩
  have U0 := Lib.hid (T0.out.below hb)
  have U1 := Lib.hid (T1.out.below hb)
  have U2 := Lib.hid (T2.out.below hb)
  have U3 := Lib.hid (T3.out.below hb)
  have UN := Lib.hid (TN.out.below hb)
  have UO := Lib.hid (owns_below TO.out hb)
  have UA := Lib.hid (TA.out.below (hb.mono TH))
  have UB := Lib.hid (TB.out.trans (hb.mono TW))
  have US := hb.size
  simp only [World.size_alloc] at US
  have UH : hi ≤ wU.heap.size := Nat.le_trans TH hb.size
  have UW : w.heap.size ≤ wU.heap.size := Nat.le_trans TW hb.size
  clear hb q0
  have q0 := U0.out.cell
  have q1 := U1.out.cell
  have q2 := U2.out.cell
  have q3 := U3.out.cell
  have qn := UN.out.cell
  have f1 := U1.out.frozen
  have f2 := U2.out.frozen
  have f3 := U3.out.frozen
  have fn := UN.out.frozen
  have HP : Hid (FreshNone l mk lt ov w (.returned (.tuple #[.agg #[.slice a1 l.length c1, .int .i64 mk, .int .i64 lt, .int .i64 ov], .agg #[.int .i64 0, .int .i64 0, .int .i64 0, .int .i64 0, .int .i64 0, .int .i64 0], .bool false])) (((((((((((wU.setCell ⟨w.heap.size + 1, 0, none⟩ (.slice a1 l.length c1)).setCell ⟨w.heap.size + 1, 1, none⟩ (.int .i64 mk)).setCell ⟨w.heap.size + 1, 2, none⟩ (.int .i64 lt)).setCell ⟨w.heap.size + 1, 3, none⟩ (.int .i64 ov)).setCell ⟨w.heap.size + 1 + 1, 0, none⟩ (.int .i64 0)).setCell ⟨w.heap.size + 1 + 1, 1, none⟩ (.int .i64 0)).setCell ⟨w.heap.size + 1 + 1, 2, none⟩ (.int .i64 0)).setCell ⟨w.heap.size + 1 + 1, 3, none⟩ (.int .i64 0)).setCell ⟨w.heap.size + 1 + 1, 4, none⟩ (.int .i64 0)).setCell ⟨w.heap.size + 1 + 1, 5, none⟩ (.int .i64 0)).setCell ⟨w.heap.size + 1 + 1 + 1, 0, none⟩ (.bool false))) := Lib.hid (none_puti a1 c1 UO.out U1.out U3.out UB.out HNE2.out)
  go_wp2
  exact bodyPost_ret (v := .tuple #[.agg #[.slice a1 l.length c1, .int .i64 mk, .int .i64 lt, .int .i64 ov], .agg #[.int .i64 0, .int .i64 0, .int .i64 0, .int .i64 0, .int .i64 0, .int .i64 0], .bool false]) (by simp [results, Try.results15, go_sem, q1, q2, q3]) rfl HP.out
set_option maxHeartbeats 2000000 in
set_option maxRecDepth 100000 in
theorem implTake_no2 (a : Option Addr) (c : Nat) (mk lt ov sz : Int) (al : Bool) (l : List Ag) (hi : Nat) (w : World) (hr : Ags w hi a c l) (hB : hi ≤ w.heap.size) (hlen : l.length ≤ 1048576) (hS : sokB l mk lt ov = true) (hZ : inB sz 1 1000000 = false) :
    Calls Try.prog 15 #[.agg #[.slice a l.length c, .int .i64 mk, .int .i64 lt, .int .i64 ov], .int .i64 sz, .bool al] w (FreshNone l mk lt ov w) := by
  have b4 := ((((Below.refl w.heap.size w).alloc (Nat.le_refl _) (.cells #[.slice a l.length c, .int .i64 mk, .int .i64 lt, .int .i64 ov] 29)).alloc (by simp) (.cells #[.slice none 0 0, .int .i64 0, .int .i64 0, .int .i64 0] 29)).alloc (by simp; omega) (.cells #[.int .i64 0, .int .i64 0, .int .i64 0, .int .i64 0, .int .i64 0, .int .i64 0] 37)).alloc (by simp; omega) (.cells #[.bool false] 4)
  have HN := Lib.hid (hr.below (b4.mono hB))
  have k1 := ((Blk.new (w.alloc (.cells #[.slice a l.length c, .int .i64 mk, .int .i64 lt, .int .i64 ov] 29)) 29 #[.slice none 0 0, .int .i64 0, .int .i64 0, .int .i64 0]).alloc (.cells #[.int .i64 0, .int .i64 0, .int .i64 0, .int .i64 0, .int .i64 0, .int .i64 0] 37)).alloc (.cells #[.bool false] 4)
  have k2 := (Blk.new ((w.alloc (.cells #[.slice a l.length c, .int .i64 mk, .int .i64 lt, .int .i64 ov] 29)).alloc (.cells #[.slice none 0 0, .int .i64 0, .int .i64 0, .int .i64 0] 29)) 37 #[.int .i64 0, .int .i64 0, .int .i64 0, .int .i64 0, .int .i64 0, .int .i64 0]).alloc (.cells #[.bool false] 4)
  have k3 := Blk.new (((w.alloc (.cells #[.slice a l.length c, .int .i64 mk, .int .i64 lt, .int .i64 ov] 29)).alloc (.cells #[.slice none 0 0, .int .i64 0, .int .i64 0, .int .i64 0] 29)).alloc (.cells #[.int .i64 0, .int .i64 0, .int .i64 0, .int .i64 0, .int .i64 0, .int .i64 0] 37)) 4 #[.bool false]
  simp only [World.size_alloc] at k1 k2 k3
  have K0 := Lib.hid ((((Blk.new w 29 #[.slice a l.length c, .int .i64 mk, .int .i64 lt, .int .i64 ov]).alloc (.cells #[.slice none 0 0, .int .i64 0, .int .i64 0, .int .i64 0] 29)).alloc (.cells #[.int .i64 0, .int .i64 0, .int .i64 0, .int .i64 0, .int .i64 0, .int .i64 0] 37)).alloc (.cells #[.bool false] 4))
  have K1 := Lib.hid k1
  have K2 := Lib.hid k2
  have K3 := Lib.hid k3
  have B4 := Lib.hid b4
  have HOK := Lib.hid (fun (W : World) (h : Ags W hi a c l) (h2 : hi ≤ W.heap.size) => implShardOk_any a l.length c mk lt ov l hi W h rfl h2)
  clear hr b4 k1 k2 k3
  rw [hS] at HOK
  have CI := Lib.hid (fun W => iSize_any sz W)
  rw [hZ] at CI
  go_enter Try.func15, Try.ntmps15
  go_wp2_with fail
  refine (copied_any a _ c mk lt ov l _ _ HN.out rfl (by simp; omega) hlen).mono ?_
  rintro e w1 ⟨a1, c1, rfl, ho, hb⟩
  have s1 := hb.size
  simp only [World.size_alloc] at s1
  have HNE2 : Hid (some (w.heap.size + 1 + 1) ≠ (Value.slice a1 l.length c1).ownBlock) := Lib.hid (own_ge ho (by simp))
  have T0 := Lib.hid ((K0.out.below hb).alloc (.cells #[.slice a1 l.length c1, .int .i64 mk, .int .i64 lt, .int .i64 ov] 29))
  have T1 := Lib.hid ((K1.out.below hb).alloc (.cells #[.slice a1 l.length c1, .int .i64 mk, .int .i64 lt, .int .i64 ov] 29))
  have T2 := Lib.hid ((K2.out.below hb).alloc (.cells #[.slice a1 l.length c1, .int .i64 mk, .int .i64 lt, .int .i64 ov] 29))
  have T3 := Lib.hid ((K3.out.below hb).alloc (.cells #[.slice a1 l.length c1, .int .i64 mk, .int .i64 lt, .int .i64 ov] 29))
  have TN := Lib.hid (Blk.new w1 29 #[.slice a1 l.length c1, .int .i64 mk, .int .i64 lt, .int .i64 ov])
  have TL := Lib.hid ho
  have TO := Lib.hid ((owns_less ho (show w.heap.size ≤ _ by simp; omega)).alloc (.cells #[.slice a1 l.length c1, .int .i64 mk, .int .i64 lt, .int .i64 ov] 29))
  have TB := Lib.hid ((B4.out.trans (hb.mono (by simp; omega))).alloc (by omega) (.cells #[.slice a1 l.length c1, .int .i64 mk, .int .i64 lt, .int .i64 ov] 29))
  have TA := Lib.hid ((HN.out.below (hb.mono (by simp; omega))).below ((Below.refl hi w1).alloc (by omega) (.cells #[.slice a1 l.length c1, .int .i64 mk, .int .i64 lt, .int .i64 ov] 29)))
  have TH : hi ≤ (w1.alloc (.cells #[.slice a1 l.length c1, .int .i64 mk, .int .i64 lt, .int .i64 ov] 29)).heap.size := by simp; omega
  have TW : w.heap.size ≤ (w1.alloc (.cells #[.slice a1 l.length c1, .int .i64 mk, .int .i64 lt, .int .i64 ov] 29)).heap.size := by simp; omega
  have q0 := T0.out.cell
  clear ho hb
  go_wp2_with fail
  refine (HOK.out _ TA.out TH).mono ?_
  rintro e wU ⟨rfl, hb⟩
  have U0 := Lib.hid (T0.out.below hb)
  have U1 := Lib.hid (T1.out.below hb)
  have U2 := Lib.hid (T2.out.below hb)
  have U3 := Lib.hid (T3.out.below hb)
  have UN := Lib.hid (TN.out.below hb)
  have UO := Lib.hid (owns_below TO.out hb)
  have UA := Lib.hid (TA.out.below (hb.mono TH))
  have UB := Lib.hid (TB.out.trans (hb.mono TW))
  have US := hb.size
  simp only [World.size_alloc] at US
  have UH : hi ≤ wU.heap.size := Nat.le_trans TH hb.size
  have UW : w.heap.size ≤ wU.heap.size := Nat.le_trans TW hb.size
  clear hb q0
  have q0 := U0.out.cell
  go_wp2_with fail
  refine (CI.out _).mono ?_
  rintro e w' ⟨rfl, rfl⟩
  have q1 := U1.out.cell
  have q2 := U2.out.cell
  have q3 := U3.out.cell
  have qn := UN.out.cell
  have f1 := U1.out.frozen
  have f2 := U2.out.frozen
  have f3 := U3.out.frozen
  have fn := UN.out.frozen
  have HP : Hid (FreshNone l mk lt ov w (.returned (.tuple #[.agg #[.slice a1 l.length c1, .int .i64 mk, .int .i64 lt, .int .i64 ov], .agg #[.int .i64 0, .int .i64 0, .int .i64 0, .int .i64 0, .int .i64 0, .int .i64 0], .bool false])) (((((((((((wU.setCell ⟨w.heap.size + 1, 0, none⟩ (.slice a1 l.length c1)).setCell ⟨w.heap.size + 1, 1, none⟩ (.int .i64 mk)).setCell ⟨w.heap.size + 1, 2, none⟩ (.int .i64 lt)).setCell ⟨w.heap.size + 1, 3, none⟩ (.int .i64 ov)).setCell ⟨w.heap.size + 1 + 1, 0, none⟩ (.int .i64 0)).setCell ⟨w.heap.size + 1 + 1, 1, none⟩ (.int .i64 0)).setCell ⟨w.heap.size + 1 + 1, 2, none⟩ (.int .i64 0)).setCell ⟨w.heap.size + 1 + 1, 3, none⟩ (.int .i64 0)).setCell ⟨w.heap.size + 1 + 1, 4, none⟩ (.int .i64 0)).setCell ⟨w.heap.size + 1 + 1, 5, none⟩ (.int .i64 0)).setCell ⟨w.heap.size + 1 + 1 + 1, 0, none⟩ (.bool false))) := Lib.hid (none_puti a1 c1 UO.out U1.out U3.out UB.out HNE2.out)
  go_wp2
  exact bodyPost_ret (v := .tuple #[.agg #[.slice a1 l.length c1, .int .i64 mk, .int .i64 lt, .int .i64 ov], .agg #[.int .i64 0, .int .i64 0, .int .i64 0, .int .i64 0, .int .i64 0, .int .i64 0], .bool false]) (by simp [results, Try.results15, go_sem, q1, q2, q3]) rfl HP.out
end Go.Proofs.Ytnfhlfbkdhpacaa
