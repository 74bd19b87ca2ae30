/- Contracts of the laws' own helpers over a shard. -/
import Derived.Test.YtnfhlfbkdhpacaaGreatDoorAggS
namespace Go.Proofs.YtnfhlfbkdhpacaaGreatDoor
open Go.RowKit

/-- A call that hands back a shard in memory of its own. -/
def FreshShard (l : List Ag) (mk lt ov : Int) (w : World) (e : Ending) (w' : World) : Prop :=
  ∃ a c, e = .returned (.agg #[.slice a l.length c, .int .i64 mk, .int .i64 lt, .int .i64 ov]) ∧ w'.ownsRow w.heap.size 136 6 (.slice a l.length c) l.length (flatA l) ∧ Below w.heap.size w w'
theorem ownsR_setCell_below {w : World} {lo : Nat} {T : TypeId} {sz : Nat} {v : Value} {n : Nat} {xs : List Value} (h : w.ownsRow lo T sz v n xs) {p : Addr} (hp : p.block < lo) (u : Value) : (w.setCell p u).ownsRow lo T sz v n xs := by
  refine ⟨h.1, ?_⟩
  rcases h.2 with h2 | ⟨g, cap, cur, hv, hg, hh, r⟩
  · exact .inl h2
  · exact .inr ⟨g, cap, cur, hv, hg, by rw [Below.heap_setCell w p u g (by omega)]; exact hh, r⟩

theorem szShard_any (a : Option Addr) (n c : Nat) (mk lt ov : Int) (w : World) (hn : n ≤ 9223372036854775807) :
    Calls Tryz.prog 80 #[.agg #[.slice a n c, .int .i64 mk, .int .i64 lt, .int .i64 ov], .int .i64 1048576] w fun e w' => e = .returned (.int .i64 (if (1048576 : Int) - (n : Int) < 0 then -1 else 1048576 - (n : Int))) ∧ Below w.heap.size w w' := by
  have hs := fun W => szAggS_any a n c W hn
  by_cases h : (1048576 : Int) - (n : Int) < 0
  · rw [if_pos h] at hs ⊢
    have HS := Lib.hid hs
    clear hs
    go_enter Tryz.func80, Tryz.ntmps80
    go_wp2_with fail
    refine (HS.out _).mono ?_
    rintro e w' ⟨rfl, rfl⟩
    go_wp2
    go_ret
    exact ⟨rfl, (Below.refl _ _).alloc (Nat.le_refl _) _⟩
  · rw [if_neg h] at hs ⊢
    have HS := Lib.hid hs
    clear hs
    go_enter Tryz.func80, Tryz.ntmps80
    go_wp2_with fail
    refine (HS.out _).mono ?_
    rintro e w' ⟨rfl, rfl⟩
    go_wp2
    go_ret
    exact ⟨rfl, (Below.refl _ _).alloc (Nat.le_refl _) _⟩

set_option maxHeartbeats 1000000 in
set_option maxRecDepth 100000 in
theorem toShard_any (a : Option Addr) (n c : Nat) (mk lt ov : Int) (l : List Ag) (hi : Nat) (w : World) (hr : Ags w hi a c l) (hn : n = l.length) (hB : hi ≤ w.heap.size) (hlen : l.length ≤ 1048576) :
    Calls Tryz.prog 88 #[.agg #[.slice a n c, .int .i64 mk, .int .i64 lt, .int .i64 ov]] w (FreshShard l mk lt ov w) := by
  subst hn
  have b1 := (Below.refl w.heap.size w).alloc (Nat.le_refl _) (.cells #[.slice a l.length c, .int .i64 mk, .int .i64 lt, .int .i64 ov] 121)
  have b2 := b1.alloc (by simp) (.cells #[.slice none 0 0, .int .i64 0, .int .i64 0, .int .i64 0] 111)
  have b3 := b2.alloc (by simp; omega) (.cells #[.slice none 0 0, .int .i64 0, .int .i64 0, .int .i64 0] 111)
  have HN := Lib.hid (hr.below (b3.mono hB))
  have K0 := Lib.hid (((Blk.new w 121 #[.slice a l.length c, .int .i64 mk, .int .i64 lt, .int .i64 ov]).alloc (.cells #[.slice none 0 0, .int .i64 0, .int .i64 0, .int .i64 0] 111)).alloc (.cells #[.slice none 0 0, .int .i64 0, .int .i64 0, .int .i64 0] 111))
  have K1 := Lib.hid ((Blk.new (w.alloc (.cells #[.slice a l.length c, .int .i64 mk, .int .i64 lt, .int .i64 ov] 121)) 111 #[.slice none 0 0, .int .i64 0, .int .i64 0, .int .i64 0]).alloc (.cells #[.slice none 0 0, .int .i64 0, .int .i64 0, .int .i64 0] 111))
  have K2 := Lib.hid (Blk.new ((w.alloc (.cells #[.slice a l.length c, .int .i64 mk, .int .i64 lt, .int .i64 ov] 121)).alloc (.cells #[.slice none 0 0, .int .i64 0, .int .i64 0, .int .i64 0] 111)) 111 #[.slice none 0 0, .int .i64 0, .int .i64 0, .int .i64 0])
  have B3 := Lib.hid b3
  clear hr b1 b2 b3
  go_enter Tryz.func88, Tryz.ntmps88
  go_wp2_with fail
  refine (toAggS_any a _ c l _ _ HN.out rfl (by simp; omega) hlen).mono ?_
  rintro e w1 ⟨a1, c1, rfl, ho, hb⟩
  have q0 := (K0.out.below hb).cell
  have q1 := (K1.out.below hb).cell
  have q2 := (K2.out.below hb).cell
  have f1 := (K1.out.below hb).frozen
  have f2 := (K2.out.below hb).frozen
  simp only [World.size_alloc] at q0 q1 q2 f1 f2
  have B1 := Lib.hid (B3.out.trans (hb.mono (by simp; omega)))
  have HP : Hid (FreshShard l mk lt ov w (.returned (.agg #[.slice a1 l.length c1, .int .i64 mk, .int .i64 lt, .int .i64 ov])) ((((((((w1.setCell ⟨w.heap.size + 1 + 1, 0, none⟩ (.slice a1 l.length c1)).setCell ⟨w.heap.size + 1 + 1, 1, none⟩ (.int .i64 mk)).setCell ⟨w.heap.size + 1 + 1, 2, none⟩ (.int .i64 lt)).setCell ⟨w.heap.size + 1 + 1, 3, none⟩ (.int .i64 ov)).setCell ⟨w.heap.size + 1, 0, none⟩ (.slice a1 l.length c1)).setCell ⟨w.heap.size + 1, 1, none⟩ (.int .i64 mk)).setCell ⟨w.heap.size + 1, 2, none⟩ (.int .i64 lt)).setCell ⟨w.heap.size + 1, 3, none⟩ (.int .i64 ov))) := by
    simp only [World.size_alloc] at ho
    refine ⟨a1, c1, rfl, owns_less (ownsR_setCell_below (ownsR_setCell_below (ownsR_setCell_below (ownsR_setCell_below (ownsR_setCell_below (ownsR_setCell_below (ownsR_setCell_below (ownsR_setCell_below ho ?_ _) ?_ _) ?_ _) ?_ _) ?_ _) ?_ _) ?_ _) ?_ _) (by omega), ((((((((B1.out.setCell ?_ _).setCell ?_ _).setCell ?_ _).setCell ?_ _).setCell ?_ _).setCell ?_ _).setCell ?_ _).setCell ?_ _)⟩ <;> simp <;> omega
  clear ho hb
  go_wp2
  exact bodyPost_ret (v := .agg #[.slice a1 l.length c1, .int .i64 mk, .int .i64 lt, .int .i64 ov]) (by simp [results, Tryz.results88, go_sem, q1]) rfl HP.out

set_option maxHeartbeats 1000000 in
theorem eqShard_any (a1 a2 : Option Addr) (n m c d : Nat) (mk lt ov : Int) (l : List Ag) (h1 h2 : Nat) (w : World) (hx : Ags w h1 a1 c l) (hy : Ags w h2 a2 d l) (hn : n = l.length) (hm : m = l.length) (hB : h1 ≤ w.heap.size) (hC : h2 ≤ w.heap.size) :
    Calls Tryz.prog 100 #[.agg #[.slice a1 n c, .int .i64 mk, .int .i64 lt, .int .i64 ov], .agg #[.slice a2 m d, .int .i64 mk, .int .i64 lt, .int .i64 ov]] w fun e w' => e = .returned (.bool true) ∧ Below w.heap.size w w' := by
  subst hn
  subst hm
  have b1 := (Below.refl w.heap.size w).alloc (Nat.le_refl _) (.cells #[.slice a1 l.length c, .int .i64 mk, .int .i64 lt, .int .i64 ov] 111)
  have b2 := b1.alloc (by simp) (.cells #[.slice a2 l.length d, .int .i64 mk, .int .i64 lt, .int .i64 ov] 111)
  have H1 := Lib.hid (hx.below (b2.mono hB))
  have H2 := Lib.hid (hy.below (b2.mono hC))
  have B2 := Lib.hid b2
  have K0 := Lib.hid ((Blk.new w 111 #[.slice a1 l.length c, .int .i64 mk, .int .i64 lt, .int .i64 ov]).alloc (.cells #[.slice a2 l.length d, .int .i64 mk, .int .i64 lt, .int .i64 ov] 111))
  have K1 := Lib.hid (Blk.new (w.alloc (.cells #[.slice a1 l.length c, .int .i64 mk, .int .i64 lt, .int .i64 ov] 111)) 111 #[.slice a2 l.length d, .int .i64 mk, .int .i64 lt, .int .i64 ov])
  clear hx hy b1 b2
  have hbb : (mk != mk) = false := by simp
  have hcc : (lt != lt) = false := by simp
  have hdd : (ov != ov) = false := by simp
  go_enter Tryz.func100, Tryz.ntmps100
  go_wp2_with fail
  refine (eqAggS_any _ _ _ _ _ _ l _ _ _ H1.out H2.out rfl rfl (by simp; omega) (by simp; omega)).mono ?_
  rintro e w' ⟨rfl, hb⟩
  have q0 := (K0.out.below hb).cell
  have q1 := (K1.out.below hb).cell
  simp only [World.size_alloc] at q0 q1
  have B3 := Lib.hid (B2.out.trans (hb.mono (by simp; omega)))
  clear hb
  go_wp2
  go_ret
  exact ⟨rfl, B3.out⟩


end Go.Proofs.YtnfhlfbkdhpacaaGreatDoor
