/- Chapter 12: a join copied, on both sides. (made by tools/mkcopy.py) -/
import Derived.Test.YtneolndbhklboaaPlainJn3
import Derived.Test.YtneolndbhklboaaJoinS
import Derived.Test.YtneolndbhklboaaCloneQ
import Derived.Test.YtneolndbhklboaaJn4
import Derived.Deep.RegionHeld3
namespace Go.Proofs.Ytneolndbhklboaa
open Go.RowKit
/-- A call that hands back a join, as a value. -/
def FreshJv (J : Jn) (w : World) (e : Ending) (w' : World) : Prop := FreshJn J.l J.r J.m w e w'
theorem cell_set3 {W : World} {g i n : Nat} {v a b c : Value} (h : W.cell? ⟨g, i, none⟩ = some v) (hn : g ≠ n) : (((W.setCell ⟨n, 0, none⟩ a).setCell ⟨n, 1, none⟩ b).setCell ⟨n, 2, none⟩ c).cell? ⟨g, i, none⟩ = some v := by
  rw [World.cell?_setCell_other _ _ _ _ (fun e => hn (by injection e with h1; exact h1.symm)), World.cell?_setCell_other _ _ _ _ (fun e => hn (by injection e with h1; exact h1.symm)), World.cell?_setCell_other _ _ _ _ (fun e => hn (by injection e with h1; exact h1.symm))]
  exact h

set_option maxHeartbeats 4000000 in
set_option maxRecDepth 100000 in
theorem copied_x (a b : Option Addr) (c d : Nat) (mk : Int) (L R : List Fm) (hi : Nat) (w : World) (h1 : Fms w hi a c L) (h2 : Fms w hi b d R) (hB : hi ≤ w.heap.size) (hl1 : L.length ≤ 1048576) (hl2 : R.length ≤ 1048576) :
    Calls Try.prog 83 #[.agg #[.slice a L.length c, .slice b R.length d, .int .i64 mk]] w (FreshJn L R mk w) := by
  have b1 := ((Below.refl w.heap.size w).alloc (Nat.le_refl _) (.cells #[.slice a L.length c, .slice b R.length d, .int .i64 mk] 29)).alloc (by simp) (.cells #[.slice none 0 0, .slice none 0 0, .int .i64 0] 29)
  have k0 := (Blk.new w 29 #[.slice a L.length c, .slice b R.length d, .int .i64 mk]).alloc (.cells #[.slice none 0 0, .slice none 0 0, .int .i64 0] 29)
  have k1 := Blk.new (w.alloc (.cells #[.slice a L.length c, .slice b R.length d, .int .i64 mk] 29)) 29 #[.slice none 0 0, .slice none 0 0, .int .i64 0]
  rw [World.size_alloc] at k1
  have H1 := Lib.hid h1
  have H2 := Lib.hid h2
  clear h1 h2
  go_enter Try.func83, Try.ntmps83
  go_wp2_with fail
  generalize hW : World.alloc _ _ = W0 at b1 k0 k1 ⊢
  have hlo : w.heap.size + 2 ≤ W0.heap.size := by rw [← hW]; simp
  clear hW
  have BW := Lib.hid b1
  have K0 := Lib.hid k0.drew
  have K1 := Lib.hid k1.drew
  have C1 : Hid (∀ W, Below W0.heap.size W0 W → Calls Try.prog 104 #[.slice a L.length c] W (FreshR qC 38 4 L W)) := Lib.hid (fun W hW => cloneQ_any a _ c L hi W (H1.out.below ((BW.out.trans (hW.mono (by omega))).mono hB)) rfl (by have := hW.size; omega) hl1)
  have C2 : Hid (∀ W, Below W0.heap.size W0 W → Calls Try.prog 104 #[.slice b R.length d] W (FreshR qC 38 4 R W)) := Lib.hid (fun W hW => cloneQ_any b _ d R hi W (H2.out.below ((BW.out.trans (hW.mono (by omega))).mono hB)) rfl (by have := hW.size; omega) hl2)
  have BB := Lib.hid ((Below.refl W0.heap.size W0).drew)
  clear b1 k0 k1
  have q0 : W0.drew.cell? ⟨w.heap.size, 0, none⟩ = some (.slice a L.length c) := K0.out.cell 0; have q1 : W0.drew.cell? ⟨w.heap.size, 1, none⟩ = some (.slice b R.length d) := K0.out.cell 1; have q2 : W0.drew.cell? ⟨w.heap.size, 2, none⟩ = some (.int .i64 mk) := K0.out.cell 2; have f1 := K1.out.frozen; have d1 := K1.out.cell
  go_region_held3 (fun W => W.cell? ⟨w.heap.size, 0, none⟩ = some (.slice a L.length c) ∧ W.cell? ⟨w.heap.size, 1, none⟩ = some (.slice b R.length d) ∧ W.cell? ⟨w.heap.size, 2, none⟩ = some (.int .i64 mk))
    (first | with_reducible exact ⟨q0, q1, q2⟩ | with_reducible exact ⟨cell_set3 q0 (by omega), cell_set3 q1 (by omega), cell_set3 q2 (by omega)⟩)
    (first | (go_at_call 104; (with_reducible refine (C1.out _ BB.out).mono ?_); rintro e w1 ⟨a1, c1, rfl, ho, hb⟩; have O1 := Lib.hid ho; have hlo1 := BB.out.size; have hs := BB.out.size; have K0 := Lib.hid (K0.out.below hb); have K1 := Lib.hid (K1.out.below hb); have B9 := Lib.hid (BB.out.trans (hb.mono hs)); have BB := B9; clear B9 ho hb; have q0 : w1.cell? ⟨w.heap.size, 0, none⟩ = some (.slice a L.length c) := K0.out.cell 0; have q1 : w1.cell? ⟨w.heap.size, 1, none⟩ = some (.slice b R.length d) := K0.out.cell 1; have q2 : w1.cell? ⟨w.heap.size, 2, none⟩ = some (.int .i64 mk) := K0.out.cell 2; have f1 := K1.out.frozen; have d1 := K1.out.cell) | (go_at_call 104; (with_reducible refine (C2.out _ BB.out).mono ?_); rintro e w2 ⟨a2, c2, rfl, ho, hb⟩; have MM := Lib.hid (Many.two (x0 := rQ a1 c1 L) (x1 := rQ a2 c2 R) O1.out hb ho (Nat.le_refl _) BB.out.size); have hs := BB.out.size; have K0 := Lib.hid (K0.out.below hb); have K1 := Lib.hid (K1.out.below hb); have B9 := Lib.hid (BB.out.trans (hb.mono hs)); have BB := B9; clear B9 ho hb; have q0 : w2.cell? ⟨w.heap.size, 0, none⟩ = some (.slice a L.length c) := K0.out.cell 0; have q1 : w2.cell? ⟨w.heap.size, 1, none⟩ = some (.slice b R.length d) := K0.out.cell 1; have q2 : w2.cell? ⟨w.heap.size, 2, none⟩ = some (.int .i64 mk) := K0.out.cell 2; have f1 := K1.out.frozen; have d1 := K1.out.cell))
  all_goals
    clear q0 q1 q2
    have HP : Hid (FreshJn L R mk w (.returned (.agg #[.slice a1 L.length c1, .slice a2 R.length c2, .int .i64 mk])) (((w2.setCell ⟨w.heap.size + 1, 0, none⟩ (.slice a1 L.length c1)).setCell ⟨w.heap.size + 1, 1, none⟩ (.slice a2 R.length c2)).setCell ⟨w.heap.size + 1, 2, none⟩ (.int .i64 mk))) := Lib.hid (by
      have hs := BB.out.size
      refine ⟨a1, c1, a2, c2, rfl, ((((MM.out.setCell ?_ _).setCell ?_ _).setCell ?_ _).less ?_ ?_), (((((BW.out.trans (BB.out.mono ?_)).setCell ?_ _).setCell ?_ _).setCell ?_ _))⟩ <;> first | omega | (simp; omega) | simp)
    go_wp2
    exact bodyPost_ret (v := .agg #[.slice a1 L.length c1, .slice a2 R.length c2, .int .i64 mk]) (by simp [results, Try.results83, go_sem, d1]) rfl HP.out
set_option maxHeartbeats 4000000 in
set_option maxRecDepth 100000 in
theorem sCopy_x (a b : Option Addr) (c d : Nat) (mk : Int) (L R : List Fm) (hi : Nat) (w : World) (h1 : Fms w hi a c L) (h2 : Fms w hi b d R) (hB : hi ≤ w.heap.size) (hl1 : L.length ≤ 1048576) (hl2 : R.length ≤ 1048576) :
    Calls Try.prog 81 #[.agg #[.slice a L.length c, .slice b R.length d, .int .i64 mk]] w (FreshJn L R mk w) := by
  have b1 := ((Below.refl w.heap.size w).alloc (Nat.le_refl _) (.cells #[.slice a L.length c, .slice b R.length d, .int .i64 mk] 29)).alloc (by simp) (.cells #[.slice none 0 0, .slice none 0 0, .int .i64 0] 29)
  have k0 := (Blk.new w 29 #[.slice a L.length c, .slice b R.length d, .int .i64 mk]).alloc (.cells #[.slice none 0 0, .slice none 0 0, .int .i64 0] 29)
  have k1 := Blk.new (w.alloc (.cells #[.slice a L.length c, .slice b R.length d, .int .i64 mk] 29)) 29 #[.slice none 0 0, .slice none 0 0, .int .i64 0]
  rw [World.size_alloc] at k1
  have H1 := Lib.hid h1
  have H2 := Lib.hid h2
  clear h1 h2
  go_enter Try.func81, Try.ntmps81
  go_wp2_with fail
  generalize hW : World.alloc _ _ = W0 at b1 k0 k1 ⊢
  have hlo : w.heap.size + 2 ≤ W0.heap.size := by rw [← hW]; simp
  clear hW
  have BW := Lib.hid b1
  have K0 := Lib.hid k0.drew
  have K1 := Lib.hid k1.drew
  have C1 : Hid (∀ W, Below W0.heap.size W0 W → Calls Try.prog 103 #[.slice a L.length c] W (FreshR qC 38 4 L W)) := Lib.hid (fun W hW => sFrames_any a _ c L hi W (H1.out.below ((BW.out.trans (hW.mono (by omega))).mono hB)) rfl (by have := hW.size; omega) hl1)
  have C2 : Hid (∀ W, Below W0.heap.size W0 W → Calls Try.prog 103 #[.slice b R.length d] W (FreshR qC 38 4 R W)) := Lib.hid (fun W hW => sFrames_any b _ d R hi W (H2.out.below ((BW.out.trans (hW.mono (by omega))).mono hB)) rfl (by have := hW.size; omega) hl2)
  have BB := Lib.hid ((Below.refl W0.heap.size W0).drew)
  clear b1 k0 k1
  have q0 : W0.drew.cell? ⟨w.heap.size, 0, none⟩ = some (.slice a L.length c) := K0.out.cell 0; have q1 : W0.drew.cell? ⟨w.heap.size, 1, none⟩ = some (.slice b R.length d) := K0.out.cell 1; have q2 : W0.drew.cell? ⟨w.heap.size, 2, none⟩ = some (.int .i64 mk) := K0.out.cell 2; have f1 := K1.out.frozen; have d1 := K1.out.cell
  go_region_held3 (fun W => W.cell? ⟨w.heap.size, 0, none⟩ = some (.slice a L.length c) ∧ W.cell? ⟨w.heap.size, 1, none⟩ = some (.slice b R.length d) ∧ W.cell? ⟨w.heap.size, 2, none⟩ = some (.int .i64 mk))
    (first | with_reducible exact ⟨q0, q1, q2⟩ | with_reducible exact ⟨cell_set3 q0 (by omega), cell_set3 q1 (by omega), cell_set3 q2 (by omega)⟩)
    (first | (go_at_call 103; (with_reducible refine (C1.out _ BB.out).mono ?_); rintro e w1 ⟨a1, c1, rfl, ho, hb⟩; have O1 := Lib.hid ho; have hlo1 := BB.out.size; have hs := BB.out.size; have K0 := Lib.hid (K0.out.below hb); have K1 := Lib.hid (K1.out.below hb); have B9 := Lib.hid (BB.out.trans (hb.mono hs)); have BB := B9; clear B9 ho hb; have q0 : w1.cell? ⟨w.heap.size, 0, none⟩ = some (.slice a L.length c) := K0.out.cell 0; have q1 : w1.cell? ⟨w.heap.size, 1, none⟩ = some (.slice b R.length d) := K0.out.cell 1; have q2 : w1.cell? ⟨w.heap.size, 2, none⟩ = some (.int .i64 mk) := K0.out.cell 2; have f1 := K1.out.frozen; have d1 := K1.out.cell) | (go_at_call 103; (with_reducible refine (C2.out _ BB.out).mono ?_); rintro e w2 ⟨a2, c2, rfl, ho, hb⟩; have MM := Lib.hid (Many.two (x0 := rQ a1 c1 L) (x1 := rQ a2 c2 R) O1.out hb ho (Nat.le_refl _) BB.out.size); have hs := BB.out.size; have K0 := Lib.hid (K0.out.below hb); have K1 := Lib.hid (K1.out.below hb); have B9 := Lib.hid (BB.out.trans (hb.mono hs)); have BB := B9; clear B9 ho hb; have q0 : w2.cell? ⟨w.heap.size, 0, none⟩ = some (.slice a L.length c) := K0.out.cell 0; have q1 : w2.cell? ⟨w.heap.size, 1, none⟩ = some (.slice b R.length d) := K0.out.cell 1; have q2 : w2.cell? ⟨w.heap.size, 2, none⟩ = some (.int .i64 mk) := K0.out.cell 2; have f1 := K1.out.frozen; have d1 := K1.out.cell))
  all_goals
    clear q0 q1 q2
    have HP : Hid (FreshJn L R mk w (.returned (.agg #[.slice a1 L.length c1, .slice a2 R.length c2, .int .i64 mk])) (((w2.setCell ⟨w.heap.size + 1, 0, none⟩ (.slice a1 L.length c1)).setCell ⟨w.heap.size + 1, 1, none⟩ (.slice a2 R.length c2)).setCell ⟨w.heap.size + 1, 2, none⟩ (.int .i64 mk))) := Lib.hid (by
      have hs := BB.out.size
      refine ⟨a1, c1, a2, c2, rfl, ((((MM.out.setCell ?_ _).setCell ?_ _).setCell ?_ _).less ?_ ?_), (((((BW.out.trans (BB.out.mono ?_)).setCell ?_ _).setCell ?_ _).setCell ?_ _))⟩ <;> first | omega | (simp; omega) | simp)
    go_wp2
    exact bodyPost_ret (v := .agg #[.slice a1 L.length c1, .slice a2 R.length c2, .int .i64 mk]) (by simp [results, Try.results81, go_sem, d1]) rfl HP.out
end Go.Proofs.Ytneolndbhklboaa
