/- Chapter 12, spec's side: AddJoin. (made by tools/mkaddjs.py) -/
import Derived.Test.YtneolndbhklboaaAddJ
import Derived.Test.YtneolndbhklboaaJn1
import Derived.StillTailTactics
namespace Go.Proofs.Ytneolndbhklboaa
open Go.RowKit
set_option maxHeartbeats 4000000 in
set_option maxRecDepth 100000 in
theorem sAdd_bad1 (a b : Option Addr) (c d : Nat) (L R : List Fm) (mk by_ : Int) (lf : Bool) (k y t v : Int) (hi : Nat) (w : World) (h1 : Fms w hi a c L) (h2 : Fms w hi b d R) (hB : hi ≤ w.heap.size) (hl1 : L.length ≤ 1048576) (hl2 : R.length ≤ 1048576) (hj : joinOkJ L R mk = false) :
    Calls Try.prog 52 #[.agg #[.slice a L.length c, .slice b R.length d, .int .i64 mk], .int .i64 by_, .bool lf, (.agg #[.int .i64 k, .int .i64 y, .int .i64 t, .int .i64 v])] w (AddPost L R mk [] 3 w) := by
  have b1 := (((Below.refl w.heap.size w).alloc (Nat.le_refl _) (.cells #[.slice a L.length c, .slice b R.length d, .int .i64 mk] 29)).alloc (by simp) (.cells #[.int .i64 k, .int .i64 y, .int .i64 t, .int .i64 v] 38)).alloc (by simp; omega) (.cells #[.slice none 0 0, .slice none 0 0, .int .i64 0] 29)
  have k0 := ((Blk.new w 29 #[.slice a L.length c, .slice b R.length d, .int .i64 mk]).alloc (.cells #[.int .i64 k, .int .i64 y, .int .i64 t, .int .i64 v] 38)).alloc (.cells #[.slice none 0 0, .slice none 0 0, .int .i64 0] 29)
  have k1 := (Blk.new (w.alloc (.cells #[.slice a L.length c, .slice b R.length d, .int .i64 mk] 29)) 38 #[.int .i64 k, .int .i64 y, .int .i64 t, .int .i64 v]).alloc (.cells #[.slice none 0 0, .slice none 0 0, .int .i64 0] 29)
  have k2 := Blk.new ((w.alloc (.cells #[.slice a L.length c, .slice b R.length d, .int .i64 mk] 29)).alloc (.cells #[.int .i64 k, .int .i64 y, .int .i64 t, .int .i64 v] 38)) 29 #[.slice none 0 0, .slice none 0 0, .int .i64 0]
  simp only [World.size_alloc] at k1 k2
  have H1 := Lib.hid h1
  have H2 := Lib.hid h2
  have CP : Hid (∀ W, Below w.heap.size w W → Calls Try.prog 81 #[.agg #[.slice a L.length c, .slice b R.length d, .int .i64 mk]] W (FreshJn L R mk W)) := Lib.hid (fun W hW => sCopy_x a b c d mk L R hi W (H1.out.below (hW.mono hB)) (H2.out.below (hW.mono hB)) (Nat.le_trans hB hW.size) hl1 hl2)
  have JO : Hid (∀ W, Below w.heap.size w W → Calls Try.prog 44 #[.agg #[.slice a L.length c, .slice b R.length d, .int .i64 mk]] W fun e w' => e = .returned (.bool (joinOkJ L R mk)) ∧ Below W.heap.size W w') := Lib.hid (fun W hW => sJoinOk_any a b c d L R mk hi W (H1.out.below (hW.mono hB)) (H2.out.below (hW.mono hB)) (Nat.le_trans hB hW.size))
  have EV := Lib.hid (fun W => sEv_x k y t v W)
  have HT := Lib.hid (fun W => specIn_any by_ 0 1000000 W)
  clear h1 h2
  rw [hj] at JO
  clear hj EV HT
  go_enter Try.func52, Try.ntmps52
  go_wp2_with fail
  generalize hW : World.alloc _ _ = W0 at b1 k0 k1 k2 ⊢
  have hlo : w.heap.size + 3 ≤ W0.heap.size := by rw [← hW]; simp
  clear hW
  have K0 := Lib.hid k0
  have K1 := Lib.hid k1
  have K2 := Lib.hid k2
  have BB := Lib.hid b1
  clear b1 k0 k1 k2
  refine (CP.out _ BB.out).mono ?_
  rintro e w1 ⟨a1, c1, a2, c2, rfl, hm, hb⟩
  have hb0 := hb
  have hb := hb.trans ((Below.refl w1.heap.size w1).alloc (Nat.le_refl _) (.cells #[.slice a1 L.length c1, .slice a2 R.length c2, .int .i64 mk] 29) |>.mono hb.size)
  have K0 := Lib.hid (K0.out.below hb)
  have K1 := Lib.hid (K1.out.below hb)
  have K2 := Lib.hid (K2.out.below hb)
  have KN := Lib.hid (Blk.new w1 29 #[.slice a1 L.length c1, .slice a2 R.length c2, .int .i64 mk])
  have MM := Lib.hid (hm.below ((Below.refl w1.heap.size w1).alloc (Nat.le_refl _) (.cells #[.slice a1 L.length c1, .slice a2 R.length c2, .int .i64 mk] 29)) (Nat.le_refl _))
  have UP : Hid (w1.heap.size ≤ (w1.alloc (.cells #[.slice a1 L.length c1, .slice a2 R.length c2, .int .i64 mk] 29)).heap.size) := Lib.hid (by simp)
  have BB := Lib.hid (BB.out.trans (hb.mono BB.out.size))
  have hlo1 := hb0.size
  clear hb hb0 hm
  have q0 := K0.out.cell
  go_wp2_with fail
  refine (JO.out _ BB.out).mono ?_
  rintro e w3 ⟨rfl, hb⟩
  clear q0
  have K0 := Lib.hid (K0.out.below hb)
  have K1 := Lib.hid (K1.out.below hb)
  have K2 := Lib.hid (K2.out.below hb)
  have KN := Lib.hid (KN.out.below hb)
  have MM := Lib.hid (MM.out.below hb (by have := hb.size; have := UP.out; omega))
  have UP := Lib.hid (Nat.le_trans UP.out hb.size)
  have BB := Lib.hid (BB.out.trans (hb.mono BB.out.size))
  clear hb
  have q0 := K0.out.cell
  have qn := KN.out.cell
  have f2 := K2.out.frozen
  have d2 := K2.out.cell
  have HP : Hid (AddPost L R mk [] 3 w (.returned (.tuple #[.agg #[.slice a1 L.length c1, .slice a2 R.length c2, .int .i64 mk], .slice none 0 0, .int .i64 3])) (((w3.setCell ⟨w.heap.size + 1 + 1, 0, none⟩ (.slice a1 L.length c1)).setCell ⟨w.heap.size + 1 + 1, 1, none⟩ (.slice a2 R.length c2)).setCell ⟨w.heap.size + 1 + 1, 2, none⟩ (.int .i64 mk))) := Lib.hid (by
    refine ⟨a1, c1, a2, c2, none, 0, rfl, (((((MM.out.nil3.setCell ?_ _).setCell ?_ _).setCell ?_ _).less ?_ ?_)), ((BB.out.setCell ?_ _).setCell ?_ _).setCell ?_ _⟩ <;> first | omega | (simp; omega) | (simp; exact UP.out))
  go_wp2
  exact bodyPost_ret (v := .tuple #[.agg #[.slice a1 L.length c1, .slice a2 R.length c2, .int .i64 mk], .slice none 0 0, .int .i64 3]) (by simp [results, Try.results52, go_sem, d2]) rfl HP.out
set_option maxHeartbeats 4000000 in
set_option maxRecDepth 100000 in
theorem sAdd_bad2 (a b : Option Addr) (c d : Nat) (L R : List Fm) (mk by_ : Int) (lf : Bool) (k y t v : Int) (hi : Nat) (w : World) (h1 : Fms w hi a c L) (h2 : Fms w hi b d R) (hB : hi ≤ w.heap.size) (hl1 : L.length ≤ 1048576) (hl2 : R.length ≤ 1048576) (hj : joinOkJ L R mk = true) (he : evJ ⟨k, y, t, v⟩ = false) :
    Calls Try.prog 52 #[.agg #[.slice a L.length c, .slice b R.length d, .int .i64 mk], .int .i64 by_, .bool lf, (.agg #[.int .i64 k, .int .i64 y, .int .i64 t, .int .i64 v])] w (AddPost L R mk [] 3 w) := by
  have b1 := (((Below.refl w.heap.size w).alloc (Nat.le_refl _) (.cells #[.slice a L.length c, .slice b R.length d, .int .i64 mk] 29)).alloc (by simp) (.cells #[.int .i64 k, .int .i64 y, .int .i64 t, .int .i64 v] 38)).alloc (by simp; omega) (.cells #[.slice none 0 0, .slice none 0 0, .int .i64 0] 29)
  have k0 := ((Blk.new w 29 #[.slice a L.length c, .slice b R.length d, .int .i64 mk]).alloc (.cells #[.int .i64 k, .int .i64 y, .int .i64 t, .int .i64 v] 38)).alloc (.cells #[.slice none 0 0, .slice none 0 0, .int .i64 0] 29)
  have k1 := (Blk.new (w.alloc (.cells #[.slice a L.length c, .slice b R.length d, .int .i64 mk] 29)) 38 #[.int .i64 k, .int .i64 y, .int .i64 t, .int .i64 v]).alloc (.cells #[.slice none 0 0, .slice none 0 0, .int .i64 0] 29)
  have k2 := Blk.new ((w.alloc (.cells #[.slice a L.length c, .slice b R.length d, .int .i64 mk] 29)).alloc (.cells #[.int .i64 k, .int .i64 y, .int .i64 t, .int .i64 v] 38)) 29 #[.slice none 0 0, .slice none 0 0, .int .i64 0]
  simp only [World.size_alloc] at k1 k2
  have H1 := Lib.hid h1
  have H2 := Lib.hid h2
  have CP : Hid (∀ W, Below w.heap.size w W → Calls Try.prog 81 #[.agg #[.slice a L.length c, .slice b R.length d, .int .i64 mk]] W (FreshJn L R mk W)) := Lib.hid (fun W hW => sCopy_x a b c d mk L R hi W (H1.out.below (hW.mono hB)) (H2.out.below (hW.mono hB)) (Nat.le_trans hB hW.size) hl1 hl2)
  have JO : Hid (∀ W, Below w.heap.size w W → Calls Try.prog 44 #[.agg #[.slice a L.length c, .slice b R.length d, .int .i64 mk]] W fun e w' => e = .returned (.bool (joinOkJ L R mk)) ∧ Below W.heap.size W w') := Lib.hid (fun W hW => sJoinOk_any a b c d L R mk hi W (H1.out.below (hW.mono hB)) (H2.out.below (hW.mono hB)) (Nat.le_trans hB hW.size))
  have EV := Lib.hid (fun W => sEv_x k y t v W)
  have HT := Lib.hid (fun W => specIn_any by_ 0 1000000 W)
  clear h1 h2
  rw [hj] at JO
  rw [he] at EV
  clear hj he HT
  go_enter Try.func52, Try.ntmps52
  go_wp2_with fail
  generalize hW : World.alloc _ _ = W0 at b1 k0 k1 k2 ⊢
  have hlo : w.heap.size + 3 ≤ W0.heap.size := by rw [← hW]; simp
  clear hW
  have K0 := Lib.hid k0
  have K1 := Lib.hid k1
  have K2 := Lib.hid k2
  have BB := Lib.hid b1
  clear b1 k0 k1 k2
  refine (CP.out _ BB.out).mono ?_
  rintro e w1 ⟨a1, c1, a2, c2, rfl, hm, hb⟩
  have hb0 := hb
  have hb := hb.trans ((Below.refl w1.heap.size w1).alloc (Nat.le_refl _) (.cells #[.slice a1 L.length c1, .slice a2 R.length c2, .int .i64 mk] 29) |>.mono hb.size)
  have K0 := Lib.hid (K0.out.below hb)
  have K1 := Lib.hid (K1.out.below hb)
  have K2 := Lib.hid (K2.out.below hb)
  have KN := Lib.hid (Blk.new w1 29 #[.slice a1 L.length c1, .slice a2 R.length c2, .int .i64 mk])
  have MM := Lib.hid (hm.below ((Below.refl w1.heap.size w1).alloc (Nat.le_refl _) (.cells #[.slice a1 L.length c1, .slice a2 R.length c2, .int .i64 mk] 29)) (Nat.le_refl _))
  have UP : Hid (w1.heap.size ≤ (w1.alloc (.cells #[.slice a1 L.length c1, .slice a2 R.length c2, .int .i64 mk] 29)).heap.size) := Lib.hid (by simp)
  have BB := Lib.hid (BB.out.trans (hb.mono BB.out.size))
  have hlo1 := hb0.size
  clear hb hb0 hm
  have q0 := K0.out.cell
  go_wp2_with fail
  refine (JO.out _ BB.out).mono ?_
  rintro e w3 ⟨rfl, hb⟩
  clear q0
  have K0 := Lib.hid (K0.out.below hb)
  have K1 := Lib.hid (K1.out.below hb)
  have K2 := Lib.hid (K2.out.below hb)
  have KN := Lib.hid (KN.out.below hb)
  have MM := Lib.hid (MM.out.below hb (by have := hb.size; have := UP.out; omega))
  have UP := Lib.hid (Nat.le_trans UP.out hb.size)
  have BB := Lib.hid (BB.out.trans (hb.mono BB.out.size))
  clear hb
  have q0 := K0.out.cell
  have q1 := K1.out.cell
  go_wp2_with fail
  refine (EV.out _).mono ?_
  rintro e w4 ⟨rfl, hb⟩
  clear q0 q1
  have K0 := Lib.hid (K0.out.below hb)
  have K1 := Lib.hid (K1.out.below hb)
  have K2 := Lib.hid (K2.out.below hb)
  have KN := Lib.hid (KN.out.below hb)
  have MM := Lib.hid (MM.out.below hb (by have := hb.size; have := UP.out; omega))
  have UP := Lib.hid (Nat.le_trans UP.out hb.size)
  have BB := Lib.hid (BB.out.trans (hb.mono BB.out.size))
  clear hb
  have q0 := K0.out.cell
  have q1 := K1.out.cell
  have qn := KN.out.cell
  have f2 := K2.out.frozen
  have d2 := K2.out.cell
  have HP : Hid (AddPost L R mk [] 3 w (.returned (.tuple #[.agg #[.slice a1 L.length c1, .slice a2 R.length c2, .int .i64 mk], .slice none 0 0, .int .i64 3])) (((w4.setCell ⟨w.heap.size + 1 + 1, 0, none⟩ (.slice a1 L.length c1)).setCell ⟨w.heap.size + 1 + 1, 1, none⟩ (.slice a2 R.length c2)).setCell ⟨w.heap.size + 1 + 1, 2, none⟩ (.int .i64 mk))) := Lib.hid (by
    refine ⟨a1, c1, a2, c2, none, 0, rfl, (((((MM.out.nil3.setCell ?_ _).setCell ?_ _).setCell ?_ _).less ?_ ?_)), ((BB.out.setCell ?_ _).setCell ?_ _).setCell ?_ _⟩ <;> first | omega | (simp; omega) | (simp; exact UP.out))
  go_wp2
  exact bodyPost_ret (v := .tuple #[.agg #[.slice a1 L.length c1, .slice a2 R.length c2, .int .i64 mk], .slice none 0 0, .int .i64 3]) (by simp [results, Try.results52, go_sem, d2]) rfl HP.out
set_option maxHeartbeats 4000000 in
set_option maxRecDepth 100000 in
theorem sAdd_bad3 (a b : Option Addr) (c d : Nat) (L R : List Fm) (mk by_ : Int) (lf : Bool) (k y t v : Int) (hi : Nat) (w : World) (h1 : Fms w hi a c L) (h2 : Fms w hi b d R) (hB : hi ≤ w.heap.size) (hl1 : L.length ≤ 1048576) (hl2 : R.length ≤ 1048576) (hj : joinOkJ L R mk = true) (he : evJ ⟨k, y, t, v⟩ = true) (ht : inB by_ 0 1000000 = false) :
    Calls Try.prog 52 #[.agg #[.slice a L.length c, .slice b R.length d, .int .i64 mk], .int .i64 by_, .bool lf, (.agg #[.int .i64 k, .int .i64 y, .int .i64 t, .int .i64 v])] w (AddPost L R mk [] 3 w) := by
  have b1 := (((Below.refl w.heap.size w).alloc (Nat.le_refl _) (.cells #[.slice a L.length c, .slice b R.length d, .int .i64 mk] 29)).alloc (by simp) (.cells #[.int .i64 k, .int .i64 y, .int .i64 t, .int .i64 v] 38)).alloc (by simp; omega) (.cells #[.slice none 0 0, .slice none 0 0, .int .i64 0] 29)
  have k0 := ((Blk.new w 29 #[.slice a L.length c, .slice b R.length d, .int .i64 mk]).alloc (.cells #[.int .i64 k, .int .i64 y, .int .i64 t, .int .i64 v] 38)).alloc (.cells #[.slice none 0 0, .slice none 0 0, .int .i64 0] 29)
  have k1 := (Blk.new (w.alloc (.cells #[.slice a L.length c, .slice b R.length d, .int .i64 mk] 29)) 38 #[.int .i64 k, .int .i64 y, .int .i64 t, .int .i64 v]).alloc (.cells #[.slice none 0 0, .slice none 0 0, .int .i64 0] 29)
  have k2 := Blk.new ((w.alloc (.cells #[.slice a L.length c, .slice b R.length d, .int .i64 mk] 29)).alloc (.cells #[.int .i64 k, .int .i64 y, .int .i64 t, .int .i64 v] 38)) 29 #[.slice none 0 0, .slice none 0 0, .int .i64 0]
  simp only [World.size_alloc] at k1 k2
  have H1 := Lib.hid h1
  have H2 := Lib.hid h2
  have CP : Hid (∀ W, Below w.heap.size w W → Calls Try.prog 81 #[.agg #[.slice a L.length c, .slice b R.length d, .int .i64 mk]] W (FreshJn L R mk W)) := Lib.hid (fun W hW => sCopy_x a b c d mk L R hi W (H1.out.below (hW.mono hB)) (H2.out.below (hW.mono hB)) (Nat.le_trans hB hW.size) hl1 hl2)
  have JO : Hid (∀ W, Below w.heap.size w W → Calls Try.prog 44 #[.agg #[.slice a L.length c, .slice b R.length d, .int .i64 mk]] W fun e w' => e = .returned (.bool (joinOkJ L R mk)) ∧ Below W.heap.size W w') := Lib.hid (fun W hW => sJoinOk_any a b c d L R mk hi W (H1.out.below (hW.mono hB)) (H2.out.below (hW.mono hB)) (Nat.le_trans hB hW.size))
  have EV := Lib.hid (fun W => sEv_x k y t v W)
  have HT := Lib.hid (fun W => specIn_any by_ 0 1000000 W)
  clear h1 h2
  rw [hj] at JO
  rw [he] at EV
  rw [ht] at HT
  clear hj he ht
  go_enter Try.func52, Try.ntmps52
  go_wp2_with fail
  generalize hW : World.alloc _ _ = W0 at b1 k0 k1 k2 ⊢
  have hlo : w.heap.size + 3 ≤ W0.heap.size := by rw [← hW]; simp
  clear hW
  have K0 := Lib.hid k0
  have K1 := Lib.hid k1
  have K2 := Lib.hid k2
  have BB := Lib.hid b1
  clear b1 k0 k1 k2
  refine (CP.out _ BB.out).mono ?_
  rintro e w1 ⟨a1, c1, a2, c2, rfl, hm, hb⟩
  have hb0 := hb
  have hb := hb.trans ((Below.refl w1.heap.size w1).alloc (Nat.le_refl _) (.cells #[.slice a1 L.length c1, .slice a2 R.length c2, .int .i64 mk] 29) |>.mono hb.size)
  have K0 := Lib.hid (K0.out.below hb)
  have K1 := Lib.hid (K1.out.below hb)
  have K2 := Lib.hid (K2.out.below hb)
  have KN := Lib.hid (Blk.new w1 29 #[.slice a1 L.length c1, .slice a2 R.length c2, .int .i64 mk])
  have MM := Lib.hid (hm.below ((Below.refl w1.heap.size w1).alloc (Nat.le_refl _) (.cells #[.slice a1 L.length c1, .slice a2 R.length c2, .int .i64 mk] 29)) (Nat.le_refl _))
  have UP : Hid (w1.heap.size ≤ (w1.alloc (.cells #[.slice a1 L.length c1, .slice a2 R.length c2, .int .i64 mk] 29)).heap.size) := Lib.hid (by simp)
  have BB := Lib.hid (BB.out.trans (hb.mono BB.out.size))
  have hlo1 := hb0.size
  clear hb hb0 hm
  have q0 := K0.out.cell
  go_wp2_with fail
  refine (JO.out _ BB.out).mono ?_
  rintro e w3 ⟨rfl, hb⟩
  clear q0
  have K0 := Lib.hid (K0.out.below hb)
  have K1 := Lib.hid (K1.out.below hb)
  have K2 := Lib.hid (K2.out.below hb)
  have KN := Lib.hid (KN.out.below hb)
  have MM := Lib.hid (MM.out.below hb (by have := hb.size; have := UP.out; omega))
  have UP := Lib.hid (Nat.le_trans UP.out hb.size)
  have BB := Lib.hid (BB.out.trans (hb.mono BB.out.size))
  clear hb
  have q0 := K0.out.cell
  have q1 := K1.out.cell
  go_wp2_with fail
  refine (EV.out _).mono ?_
  rintro e w4 ⟨rfl, hb⟩
  clear q0 q1
  have K0 := Lib.hid (K0.out.below hb)
  have K1 := Lib.hid (K1.out.below hb)
  have K2 := Lib.hid (K2.out.below hb)
  have KN := Lib.hid (KN.out.below hb)
  have MM := Lib.hid (MM.out.below hb (by have := hb.size; have := UP.out; omega))
  have UP := Lib.hid (Nat.le_trans UP.out hb.size)
  have BB := Lib.hid (BB.out.trans (hb.mono BB.out.size))
  clear hb
  have q0 := K0.out.cell
  have q1 := K1.out.cell
  have qn := KN.out.cell
  have f2 := K2.out.frozen
  have d2 := K2.out.cell
  have HP : Hid (AddPost L R mk [] 3 w (.returned (.tuple #[.agg #[.slice a1 L.length c1, .slice a2 R.length c2, .int .i64 mk], .slice none 0 0, .int .i64 3])) (((w4.setCell ⟨w.heap.size + 1 + 1, 0, none⟩ (.slice a1 L.length c1)).setCell ⟨w.heap.size + 1 + 1, 1, none⟩ (.slice a2 R.length c2)).setCell ⟨w.heap.size + 1 + 1, 2, none⟩ (.int .i64 mk))) := Lib.hid (by
    refine ⟨a1, c1, a2, c2, none, 0, rfl, (((((MM.out.nil3.setCell ?_ _).setCell ?_ _).setCell ?_ _).less ?_ ?_)), ((BB.out.setCell ?_ _).setCell ?_ _).setCell ?_ _⟩ <;> first | omega | (simp; omega) | (simp; exact UP.out))
  go_wp2_with (go_at_call 70; refine (HT.out _).mono ?_; rintro e w' ⟨rfl, rfl⟩)
  exact bodyPost_ret (v := .tuple #[.agg #[.slice a1 L.length c1, .slice a2 R.length c2, .int .i64 mk], .slice none 0 0, .int .i64 3]) (by simp [results, Try.results52, go_sem, d2]) rfl HP.out
set_option maxHeartbeats 4000000 in
set_option maxRecDepth 100000 in
theorem sAdd_late (a b : Option Addr) (c d : Nat) (L R : List Fm) (mk by_ : Int) (lf : Bool) (k y t v : Int) (hi : Nat) (w : World) (h1 : Fms w hi a c L) (h2 : Fms w hi b d R) (hB : hi ≤ w.heap.size) (hl1 : L.length ≤ 1048576) (hl2 : R.length ≤ 1048576) (hj : joinOkJ L R mk = true) (he : evJ ⟨k, y, t, v⟩ = true) (ht : inB by_ 0 1000000 = true) (hx : t ≤ mk) :
    Calls Try.prog 52 #[.agg #[.slice a L.length c, .slice b R.length d, .int .i64 mk], .int .i64 by_, .bool lf, (.agg #[.int .i64 k, .int .i64 y, .int .i64 t, .int .i64 v])] w (AddPost L R mk [] 1 w) := by
  have b1 := (((Below.refl w.heap.size w).alloc (Nat.le_refl _) (.cells #[.slice a L.length c, .slice b R.length d, .int .i64 mk] 29)).alloc (by simp) (.cells #[.int .i64 k, .int .i64 y, .int .i64 t, .int .i64 v] 38)).alloc (by simp; omega) (.cells #[.slice none 0 0, .slice none 0 0, .int .i64 0] 29)
  have k0 := ((Blk.new w 29 #[.slice a L.length c, .slice b R.length d, .int .i64 mk]).alloc (.cells #[.int .i64 k, .int .i64 y, .int .i64 t, .int .i64 v] 38)).alloc (.cells #[.slice none 0 0, .slice none 0 0, .int .i64 0] 29)
  have k1 := (Blk.new (w.alloc (.cells #[.slice a L.length c, .slice b R.length d, .int .i64 mk] 29)) 38 #[.int .i64 k, .int .i64 y, .int .i64 t, .int .i64 v]).alloc (.cells #[.slice none 0 0, .slice none 0 0, .int .i64 0] 29)
  have k2 := Blk.new ((w.alloc (.cells #[.slice a L.length c, .slice b R.length d, .int .i64 mk] 29)).alloc (.cells #[.int .i64 k, .int .i64 y, .int .i64 t, .int .i64 v] 38)) 29 #[.slice none 0 0, .slice none 0 0, .int .i64 0]
  simp only [World.size_alloc] at k1 k2
  have H1 := Lib.hid h1
  have H2 := Lib.hid h2
  have CP : Hid (∀ W, Below w.heap.size w W → Calls Try.prog 81 #[.agg #[.slice a L.length c, .slice b R.length d, .int .i64 mk]] W (FreshJn L R mk W)) := Lib.hid (fun W hW => sCopy_x a b c d mk L R hi W (H1.out.below (hW.mono hB)) (H2.out.below (hW.mono hB)) (Nat.le_trans hB hW.size) hl1 hl2)
  have JO : Hid (∀ W, Below w.heap.size w W → Calls Try.prog 44 #[.agg #[.slice a L.length c, .slice b R.length d, .int .i64 mk]] W fun e w' => e = .returned (.bool (joinOkJ L R mk)) ∧ Below W.heap.size W w') := Lib.hid (fun W hW => sJoinOk_any a b c d L R mk hi W (H1.out.below (hW.mono hB)) (H2.out.below (hW.mono hB)) (Nat.le_trans hB hW.size))
  have EV := Lib.hid (fun W => sEv_x k y t v W)
  have HT := Lib.hid (fun W => specIn_any by_ 0 1000000 W)
  clear h1 h2
  rw [hj] at JO
  rw [he] at EV
  rw [ht] at HT
  clear hj he ht
  go_enter Try.func52, Try.ntmps52
  go_wp2_with fail
  generalize hW : World.alloc _ _ = W0 at b1 k0 k1 k2 ⊢
  have hlo : w.heap.size + 3 ≤ W0.heap.size := by rw [← hW]; simp
  clear hW
  have K0 := Lib.hid k0
  have K1 := Lib.hid k1
  have K2 := Lib.hid k2
  have BB := Lib.hid b1
  clear b1 k0 k1 k2
  refine (CP.out _ BB.out).mono ?_
  rintro e w1 ⟨a1, c1, a2, c2, rfl, hm, hb⟩
  have hb0 := hb
  have hb := hb.trans ((Below.refl w1.heap.size w1).alloc (Nat.le_refl _) (.cells #[.slice a1 L.length c1, .slice a2 R.length c2, .int .i64 mk] 29) |>.mono hb.size)
  have K0 := Lib.hid (K0.out.below hb)
  have K1 := Lib.hid (K1.out.below hb)
  have K2 := Lib.hid (K2.out.below hb)
  have KN := Lib.hid (Blk.new w1 29 #[.slice a1 L.length c1, .slice a2 R.length c2, .int .i64 mk])
  have MM := Lib.hid (hm.below ((Below.refl w1.heap.size w1).alloc (Nat.le_refl _) (.cells #[.slice a1 L.length c1, .slice a2 R.length c2, .int .i64 mk] 29)) (Nat.le_refl _))
  have UP : Hid (w1.heap.size ≤ (w1.alloc (.cells #[.slice a1 L.length c1, .slice a2 R.length c2, .int .i64 mk] 29)).heap.size) := Lib.hid (by simp)
  have BB := Lib.hid (BB.out.trans (hb.mono BB.out.size))
  have hlo1 := hb0.size
  clear hb hb0 hm
  have q0 := K0.out.cell
  go_wp2_with fail
  refine (JO.out _ BB.out).mono ?_
  rintro e w3 ⟨rfl, hb⟩
  clear q0
  have K0 := Lib.hid (K0.out.below hb)
  have K1 := Lib.hid (K1.out.below hb)
  have K2 := Lib.hid (K2.out.below hb)
  have KN := Lib.hid (KN.out.below hb)
  have MM := Lib.hid (MM.out.below hb (by have := hb.size; have := UP.out; omega))
  have UP := Lib.hid (Nat.le_trans UP.out hb.size)
  have BB := Lib.hid (BB.out.trans (hb.mono BB.out.size))
  clear hb
  have q0 := K0.out.cell
  have q1 := K1.out.cell
  go_wp2_with fail
  refine (EV.out _).mono ?_
  rintro e w4 ⟨rfl, hb⟩
  clear q0 q1
  have K0 := Lib.hid (K0.out.below hb)
  have K1 := Lib.hid (K1.out.below hb)
  have K2 := Lib.hid (K2.out.below hb)
  have KN := Lib.hid (KN.out.below hb)
  have MM := Lib.hid (MM.out.below hb (by have := hb.size; have := UP.out; omega))
  have UP := Lib.hid (Nat.le_trans UP.out hb.size)
  have BB := Lib.hid (BB.out.trans (hb.mono BB.out.size))
  clear hb
  have q0 := K0.out.cell
  have q1 := K1.out.cell
  have qn := KN.out.cell
  have f2 := K2.out.frozen
  have d2 := K2.out.cell
  have HP : Hid (AddPost L R mk [] 1 w (.returned (.tuple #[.agg #[.slice a1 L.length c1, .slice a2 R.length c2, .int .i64 mk], .slice none 0 0, .int .i64 1])) (((w4.setCell ⟨w.heap.size + 1 + 1, 0, none⟩ (.slice a1 L.length c1)).setCell ⟨w.heap.size + 1 + 1, 1, none⟩ (.slice a2 R.length c2)).setCell ⟨w.heap.size + 1 + 1, 2, none⟩ (.int .i64 mk))) := Lib.hid (by
    refine ⟨a1, c1, a2, c2, none, 0, rfl, (((((MM.out.nil3.setCell ?_ _).setCell ?_ _).setCell ?_ _).less ?_ ?_)), ((BB.out.setCell ?_ _).setCell ?_ _).setCell ?_ _⟩ <;> first | omega | (simp; omega) | (simp; exact UP.out))
  go_wp2_with (go_at_call 70; refine (HT.out _).mono ?_; rintro e w' ⟨rfl, rfl⟩)
  exact bodyPost_ret (v := .tuple #[.agg #[.slice a1 L.length c1, .slice a2 R.length c2, .int .i64 mk], .slice none 0 0, .int .i64 1]) (by simp [results, Try.results52, go_sem, d2]) rfl HP.out
set_option maxHeartbeats 4000000 in
set_option maxRecDepth 100000 in
theorem sAdd_leftF (a b : Option Addr) (c d : Nat) (L R : List Fm) (mk by_ : Int) (k y t v : Int) (hi : Nat) (w : World) (h1 : Fms w hi a c L) (h2 : Fms w hi b d R) (hB : hi ≤ w.heap.size) (hl1 : L.length ≤ 1048576) (hl2 : R.length ≤ 1048576) (hj : joinOkJ L R mk = true) (he : evJ ⟨k, y, t, v⟩ = true) (ht : inB by_ 0 1000000 = true) (hx : ¬ t ≤ mk) (hf : L.length = 40) :
    Calls Try.prog 52 #[.agg #[.slice a L.length c, .slice b R.length d, .int .i64 mk], .int .i64 by_, .bool true, (.agg #[.int .i64 k, .int .i64 y, .int .i64 t, .int .i64 v])] w (AddPost L R mk [] 2 w) := by
  have b1 := (((Below.refl w.heap.size w).alloc (Nat.le_refl _) (.cells #[.slice a L.length c, .slice b R.length d, .int .i64 mk] 29)).alloc (by simp) (.cells #[.int .i64 k, .int .i64 y, .int .i64 t, .int .i64 v] 38)).alloc (by simp; omega) (.cells #[.slice none 0 0, .slice none 0 0, .int .i64 0] 29)
  have k0 := ((Blk.new w 29 #[.slice a L.length c, .slice b R.length d, .int .i64 mk]).alloc (.cells #[.int .i64 k, .int .i64 y, .int .i64 t, .int .i64 v] 38)).alloc (.cells #[.slice none 0 0, .slice none 0 0, .int .i64 0] 29)
  have k1 := (Blk.new (w.alloc (.cells #[.slice a L.length c, .slice b R.length d, .int .i64 mk] 29)) 38 #[.int .i64 k, .int .i64 y, .int .i64 t, .int .i64 v]).alloc (.cells #[.slice none 0 0, .slice none 0 0, .int .i64 0] 29)
  have k2 := Blk.new ((w.alloc (.cells #[.slice a L.length c, .slice b R.length d, .int .i64 mk] 29)).alloc (.cells #[.int .i64 k, .int .i64 y, .int .i64 t, .int .i64 v] 38)) 29 #[.slice none 0 0, .slice none 0 0, .int .i64 0]
  simp only [World.size_alloc] at k1 k2
  have H1 := Lib.hid h1
  have H2 := Lib.hid h2
  have CP : Hid (∀ W, Below w.heap.size w W → Calls Try.prog 81 #[.agg #[.slice a L.length c, .slice b R.length d, .int .i64 mk]] W (FreshJn L R mk W)) := Lib.hid (fun W hW => sCopy_x a b c d mk L R hi W (H1.out.below (hW.mono hB)) (H2.out.below (hW.mono hB)) (Nat.le_trans hB hW.size) hl1 hl2)
  have JO : Hid (∀ W, Below w.heap.size w W → Calls Try.prog 44 #[.agg #[.slice a L.length c, .slice b R.length d, .int .i64 mk]] W fun e w' => e = .returned (.bool (joinOkJ L R mk)) ∧ Below W.heap.size W w') := Lib.hid (fun W hW => sJoinOk_any a b c d L R mk hi W (H1.out.below (hW.mono hB)) (H2.out.below (hW.mono hB)) (Nat.le_trans hB hW.size))
  have EV := Lib.hid (fun W => sEv_x k y t v W)
  have HT := Lib.hid (fun W => specIn_any by_ 0 1000000 W)
  clear h1 h2
  have h40b : ((L.length : Int) == 40) = true := by simp; omega
  clear hf
  rw [hj] at JO
  rw [he] at EV
  rw [ht] at HT
  have HE := Lib.hid (evJ_bd he).2.1
  have hjo : evsJ L = true ∧ evsJ R = true := by
    unfold joinOkJ at hj
    simp only [Bool.and_eq_true] at hj
    exact ⟨hj.1, hj.2.1⟩
  have HL1 := Lib.hid hjo.1
  have HR := Lib.hid hjo.2
  have h4L := (evsJ_bd hjo.1).1
  have h4R := (evsJ_bd hjo.2).1
  clear hj he ht hjo
  go_enter Try.func52, Try.ntmps52
  go_wp2_with fail
  generalize hW : World.alloc _ _ = W0 at b1 k0 k1 k2 ⊢
  have hlo : w.heap.size + 3 ≤ W0.heap.size := by rw [← hW]; simp
  clear hW
  have K0 := Lib.hid k0
  have K1 := Lib.hid k1
  have K2 := Lib.hid k2
  have BB := Lib.hid b1
  clear b1 k0 k1 k2
  refine (CP.out _ BB.out).mono ?_
  rintro e w1 ⟨a1, c1, a2, c2, rfl, hm, hb⟩
  have hb0 := hb
  have hb := hb.trans ((Below.refl w1.heap.size w1).alloc (Nat.le_refl _) (.cells #[.slice a1 L.length c1, .slice a2 R.length c2, .int .i64 mk] 29) |>.mono hb.size)
  have K0 := Lib.hid (K0.out.below hb)
  have K1 := Lib.hid (K1.out.below hb)
  have K2 := Lib.hid (K2.out.below hb)
  have KN := Lib.hid (Blk.new w1 29 #[.slice a1 L.length c1, .slice a2 R.length c2, .int .i64 mk])
  have MM := Lib.hid (hm.below ((Below.refl w1.heap.size w1).alloc (Nat.le_refl _) (.cells #[.slice a1 L.length c1, .slice a2 R.length c2, .int .i64 mk] 29)) (Nat.le_refl _))
  have UP : Hid (w1.heap.size ≤ (w1.alloc (.cells #[.slice a1 L.length c1, .slice a2 R.length c2, .int .i64 mk] 29)).heap.size) := Lib.hid (by simp)
  have BB := Lib.hid (BB.out.trans (hb.mono BB.out.size))
  have hlo1 := hb0.size
  clear hb hb0 hm
  have q0 := K0.out.cell
  go_wp2_with fail
  refine (JO.out _ BB.out).mono ?_
  rintro e w3 ⟨rfl, hb⟩
  clear q0
  have K0 := Lib.hid (K0.out.below hb)
  have K1 := Lib.hid (K1.out.below hb)
  have K2 := Lib.hid (K2.out.below hb)
  have KN := Lib.hid (KN.out.below hb)
  have MM := Lib.hid (MM.out.below hb (by have := hb.size; have := UP.out; omega))
  have UP := Lib.hid (Nat.le_trans UP.out hb.size)
  have BB := Lib.hid (BB.out.trans (hb.mono BB.out.size))
  clear hb
  have q0 := K0.out.cell
  have q1 := K1.out.cell
  go_wp2_with fail
  refine (EV.out _).mono ?_
  rintro e w4 ⟨rfl, hb⟩
  clear q0 q1
  have K0 := Lib.hid (K0.out.below hb)
  have K1 := Lib.hid (K1.out.below hb)
  have K2 := Lib.hid (K2.out.below hb)
  have KN := Lib.hid (KN.out.below hb)
  have MM := Lib.hid (MM.out.below hb (by have := hb.size; have := UP.out; omega))
  have UP := Lib.hid (Nat.le_trans UP.out hb.size)
  have BB := Lib.hid (BB.out.trans (hb.mono BB.out.size))
  clear hb
  have q0 := K0.out.cell
  have q1 := K1.out.cell
  have qn := KN.out.cell
  have f2 := K2.out.frozen
  have d2 := K2.out.cell
  have HP : Hid (AddPost L R mk [] 2 w (.returned (.tuple #[.agg #[.slice a1 L.length c1, .slice a2 R.length c2, .int .i64 mk], .slice none 0 0, .int .i64 2])) (((w4.setCell ⟨w.heap.size + 1 + 1, 0, none⟩ (.slice a1 L.length c1)).setCell ⟨w.heap.size + 1 + 1, 1, none⟩ (.slice a2 R.length c2)).setCell ⟨w.heap.size + 1 + 1, 2, none⟩ (.int .i64 mk))) := Lib.hid (by
    refine ⟨a1, c1, a2, c2, none, 0, rfl, (((((MM.out.nil3.setCell ?_ _).setCell ?_ _).setCell ?_ _).less ?_ ?_)), ((BB.out.setCell ?_ _).setCell ?_ _).setCell ?_ _⟩ <;> first | omega | (simp; omega) | (simp; exact UP.out))
  go_wp2_with (go_at_call 70; refine (HT.out _).mono ?_; rintro e w' ⟨rfl, rfl⟩)
  exact bodyPost_ret (v := .tuple #[.agg #[.slice a1 L.length c1, .slice a2 R.length c2, .int .i64 mk], .slice none 0 0, .int .i64 2]) (by simp [results, Try.results52, go_sem, d2]) rfl HP.out
set_option maxHeartbeats 4000000 in
set_option maxRecDepth 100000 in
theorem sAdd_leftD (a b : Option Addr) (c d : Nat) (L R : List Fm) (mk by_ : Int) (k y t v : Int) (hi : Nat) (w : World) (h1 : Fms w hi a c L) (h2 : Fms w hi b d R) (hB : hi ≤ w.heap.size) (hl1 : L.length ≤ 1048576) (hl2 : R.length ≤ 1048576) (hj : joinOkJ L R mk = true) (he : evJ ⟨k, y, t, v⟩ = true) (ht : inB by_ 0 1000000 = true) (hx : ¬ t ≤ mk) (hf : L.length ≠ 40) :
    Calls Try.prog 52 #[.agg #[.slice a L.length c, .slice b R.length d, .int .i64 mk], .int .i64 by_, .bool true, (.agg #[.int .i64 k, .int .i64 y, .int .i64 t, .int .i64 v])] w (AddPost (L ++ [⟨k, y, t, v⟩]) R mk (rowJ ⟨k, y, t, v⟩ R by_ R.length) 0 w) := by
  have b1 := (((Below.refl w.heap.size w).alloc (Nat.le_refl _) (.cells #[.slice a L.length c, .slice b R.length d, .int .i64 mk] 29)).alloc (by simp) (.cells #[.int .i64 k, .int .i64 y, .int .i64 t, .int .i64 v] 38)).alloc (by simp; omega) (.cells #[.slice none 0 0, .slice none 0 0, .int .i64 0] 29)
  have k0 := ((Blk.new w 29 #[.slice a L.length c, .slice b R.length d, .int .i64 mk]).alloc (.cells #[.int .i64 k, .int .i64 y, .int .i64 t, .int .i64 v] 38)).alloc (.cells #[.slice none 0 0, .slice none 0 0, .int .i64 0] 29)
  have k1 := (Blk.new (w.alloc (.cells #[.slice a L.length c, .slice b R.length d, .int .i64 mk] 29)) 38 #[.int .i64 k, .int .i64 y, .int .i64 t, .int .i64 v]).alloc (.cells #[.slice none 0 0, .slice none 0 0, .int .i64 0] 29)
  have k2 := Blk.new ((w.alloc (.cells #[.slice a L.length c, .slice b R.length d, .int .i64 mk] 29)).alloc (.cells #[.int .i64 k, .int .i64 y, .int .i64 t, .int .i64 v] 38)) 29 #[.slice none 0 0, .slice none 0 0, .int .i64 0]
  simp only [World.size_alloc] at k1 k2
  have H1 := Lib.hid h1
  have H2 := Lib.hid h2
  have CP : Hid (∀ W, Below w.heap.size w W → Calls Try.prog 81 #[.agg #[.slice a L.length c, .slice b R.length d, .int .i64 mk]] W (FreshJn L R mk W)) := Lib.hid (fun W hW => sCopy_x a b c d mk L R hi W (H1.out.below (hW.mono hB)) (H2.out.below (hW.mono hB)) (Nat.le_trans hB hW.size) hl1 hl2)
  have JO : Hid (∀ W, Below w.heap.size w W → Calls Try.prog 44 #[.agg #[.slice a L.length c, .slice b R.length d, .int .i64 mk]] W fun e w' => e = .returned (.bool (joinOkJ L R mk)) ∧ Below W.heap.size W w') := Lib.hid (fun W hW => sJoinOk_any a b c d L R mk hi W (H1.out.below (hW.mono hB)) (H2.out.below (hW.mono hB)) (Nat.le_trans hB hW.size))
  have EV := Lib.hid (fun W => sEv_x k y t v W)
  have HT := Lib.hid (fun W => specIn_any by_ 0 1000000 W)
  clear h1 h2
  have h40b : ((L.length : Int) == 40) = false := by simp; omega
  clear hf
  rw [hj] at JO
  rw [he] at EV
  rw [ht] at HT
  have HE := Lib.hid (evJ_bd he).2.1
  have hjo : evsJ L = true ∧ evsJ R = true := by
    unfold joinOkJ at hj
    simp only [Bool.and_eq_true] at hj
    exact ⟨hj.1, hj.2.1⟩
  have HL1 := Lib.hid hjo.1
  have HR := Lib.hid hjo.2
  have h4L := (evsJ_bd hjo.1).1
  have h4R := (evsJ_bd hjo.2).1
  clear hj he ht hjo
  go_enter Try.func52, Try.ntmps52
  go_wp2_with fail
  generalize hW : World.alloc _ _ = W0 at b1 k0 k1 k2 ⊢
  have hlo : w.heap.size + 3 ≤ W0.heap.size := by rw [← hW]; simp
  clear hW
  have K0 := Lib.hid k0
  have K1 := Lib.hid k1
  have K2 := Lib.hid k2
  have BB := Lib.hid b1
  clear b1 k0 k1 k2
  refine (CP.out _ BB.out).mono ?_
  rintro e w1 ⟨a1, c1, a2, c2, rfl, hm, hb⟩
  have hb0 := hb
  have hb := hb.trans ((Below.refl w1.heap.size w1).alloc (Nat.le_refl _) (.cells #[.slice a1 L.length c1, .slice a2 R.length c2, .int .i64 mk] 29) |>.mono hb.size)
  have K0 := Lib.hid (K0.out.below hb)
  have K1 := Lib.hid (K1.out.below hb)
  have K2 := Lib.hid (K2.out.below hb)
  have KN := Lib.hid (Blk.new w1 29 #[.slice a1 L.length c1, .slice a2 R.length c2, .int .i64 mk])
  have MM := Lib.hid (hm.below ((Below.refl w1.heap.size w1).alloc (Nat.le_refl _) (.cells #[.slice a1 L.length c1, .slice a2 R.length c2, .int .i64 mk] 29)) (Nat.le_refl _))
  have UP : Hid (w1.heap.size ≤ (w1.alloc (.cells #[.slice a1 L.length c1, .slice a2 R.length c2, .int .i64 mk] 29)).heap.size) := Lib.hid (by simp)
  have BB := Lib.hid (BB.out.trans (hb.mono BB.out.size))
  have hlo1 := hb0.size
  clear hb hb0 hm
  have q0 := K0.out.cell
  go_wp2_with fail
  refine (JO.out _ BB.out).mono ?_
  rintro e w3 ⟨rfl, hb⟩
  clear q0
  have K0 := Lib.hid (K0.out.below hb)
  have K1 := Lib.hid (K1.out.below hb)
  have K2 := Lib.hid (K2.out.below hb)
  have KN := Lib.hid (KN.out.below hb)
  have MM := Lib.hid (MM.out.below hb (by have := hb.size; have := UP.out; omega))
  have UP := Lib.hid (Nat.le_trans UP.out hb.size)
  have BB := Lib.hid (BB.out.trans (hb.mono BB.out.size))
  clear hb
  have q0 := K0.out.cell
  have q1 := K1.out.cell
  go_wp2_with fail
  refine (EV.out _).mono ?_
  rintro e w4 ⟨rfl, hb⟩
  clear q0 q1
  have K0 := Lib.hid (K0.out.below hb)
  have K1 := Lib.hid (K1.out.below hb)
  have K2 := Lib.hid (K2.out.below hb)
  have KN := Lib.hid (KN.out.below hb)
  have MM := Lib.hid (MM.out.below hb (by have := hb.size; have := UP.out; omega))
  have UP := Lib.hid (Nat.le_trans UP.out hb.size)
  have BB := Lib.hid (BB.out.trans (hb.mono BB.out.size))
  clear hb
  have q0 := K0.out.cell
  have q1 := K1.out.cell
  clear q0 q1
  have K0 := Lib.hid (K0.out.alloc (.cells #[] 53))
  have K1 := Lib.hid (K1.out.alloc (.cells #[] 53))
  have K2 := Lib.hid (K2.out.alloc (.cells #[] 53))
  have ltN := KN.out.lt
  have KN := Lib.hid (KN.out.alloc (.cells #[] 53))
  have bP := (Below.refl w4.heap.size w4).alloc (Nat.le_refl _) (.cells #[] 53)
  have MM := Lib.hid (MM.out.below bP UP.out)
  have O5 := Lib.hid (own0G w4 w4.heap.size (Nat.le_refl _))
  have hup4 := UP.out
  have BB := Lib.hid (BB.out.trans (bP.mono BB.out.size))
  have hb4 := bP.size
  clear bP
  have q1 := K1.out.cell
  have q0 := K0.out.cell
  have qx0 : ∀ i, w4.cell? ⟨w.heap.size, i, none⟩ = #[.slice a L.length c, .slice b R.length d, .int .i64 mk][i]? := fun i => by rw [← q0 i]; exact (World.cell?_alloc_lt _ _ _ (by simp; omega)).symm
  have qx1 : ∀ i, w4.cell? ⟨w.heap.size + 1, i, none⟩ = #[.int .i64 k, .int .i64 y, .int .i64 t, .int .i64 v][i]? := fun i => by rw [← q1 i]; exact (World.cell?_alloc_lt _ _ _ (by simp; omega)).symm
  go_wp2_with (go_at_call 70; refine (HT.out _).mono ?_; rintro e w' ⟨rfl, rfl⟩)
  clear q0 q1 qx0 qx1
  generalize hw5 : w4.alloc (.cells #[] 53) = w5 at K0 K1 K2 KN MM O5 BB hb4 ⊢
  clear hw5
  go_loopw [14, 15] (fun ls i wr => ∃ (q m : Nat) (ap : Option Addr) (cp : Nat), q ≤ R.length ∧ i = .int .i64 (q : Int) ∧ ls = .slice ap m cp ∧ m = (rowJ ⟨k, y, t, v⟩ R by_ q).length ∧ wr.ownsRow w4.heap.size 53 5 (.slice ap m cp) m (flatG (rowJ ⟨k, y, t, v⟩ R by_ q)) ∧ Below w4.heap.size w5 wr) (fun _ i _ => R.length - (intOf i).toNat)
  case atStart => exact ⟨0, 0, _, 0, Nat.zero_le _, rfl, rfl, rfl, O5.out, Below.refl _ _⟩
  case round =>
    obtain ⟨q, m, ap, cp, hq, rfl, rfl, hm, ho, hb⟩ := hrel
    have RO := Lib.hid ho
    have WB := Lib.hid hb
    have HM := Lib.hid hm
    have hml : m ≤ 2097152 := by rw [hm]; have := rowJ_len (A := ⟨k, y, t, v⟩) (R := R) (by_ := by_) (k := q); omega
    have hsr := hb.size
    clear ho hb hm
    by_cases hlt : q < R.length
    · obtain ⟨bo, oo, rfl, hbo, hco⟩ := Fms.six H2.out (by omega)
      have hlt' : (q : Int) < (R.length : Int) := by omega
      have hnn : 0 ≤ (q : Int) := by omega
      have CO := Lib.hid (hco q hlt)
      have EV2 := Lib.hid (evJ_bd ((evsJ_bd HR.out).2 q hlt)).2.1
      have RY := Lib.hid (fun h => rowJ_yes (A := ⟨k, y, t, v⟩) (R := R) (by_ := by_) hlt h)
      have RN := Lib.hid (fun h => rowJ_no (A := ⟨k, y, t, v⟩) (R := R) (by_ := by_) hlt h)
      clear hco
      generalize qel R q = Z at CO EV2 RY RN
      obtain ⟨z0, z1, z2, z3⟩ := Z
      simp only at CO
      have CC : Hid (∀ W : World, Below w4.heap.size w5 W → (W.cell? ⟨w.heap.size + 1, 0, none⟩ = some (.int .i64 k) ∧ W.cell? ⟨w.heap.size + 1, 1, none⟩ = some (.int .i64 y) ∧ W.cell? ⟨w.heap.size + 1, 2, none⟩ = some (.int .i64 t) ∧ W.cell? ⟨w.heap.size + 1, 3, none⟩ = some (.int .i64 v)) ∧
          (W.cell? ⟨bo, oo + q * 4, none⟩ = some (.int .i64 z0) ∧ W.cell? ⟨bo, oo + q * 4 + 1, none⟩ = some (.int .i64 z1) ∧ W.cell? ⟨bo, oo + q * 4 + 2, none⟩ = some (.int .i64 z2) ∧ W.cell? ⟨bo, oo + q * 4 + 3, none⟩ = some (.int .i64 z3))) := Lib.hid (fun W hW => by
        have kk := K1.out.belowB hW (by omega)
        have g2 : ∀ z, W.cell? ⟨bo, z, none⟩ = w.cell? ⟨bo, z, none⟩ := fun z => (hW.cell (p := ⟨bo, z, none⟩) (show bo < w4.heap.size by omega)).trans (BB.out.cell (p := ⟨bo, z, none⟩) (show bo < w.heap.size by omega))
        simp only [g2]
        exact ⟨⟨kk.cell 0, kk.cell 1, kk.cell 2, kk.cell 3⟩, CO.out⟩)
      have CM := Lib.hid (fun W => sMeet_x k y t v z0 z1 z2 z3 by_ W HE.out EV2.out)
      obtain ⟨⟨p0, p1, p2, p3⟩, r0, r1, r2, r3⟩ := CC.out wr WB.out
      go_wp2_with fail
      go_still_tail 6, (by kernel_rfl)
      change wpList _ _ _ _ _ wr.drew
      clear p0 p1 p2 p3 r0 r1 r2 r3
      have RO := Lib.hid (show wr.drew.ownsRow _ _ _ _ _ _ from RO.out)
      have WB := Lib.hid WB.out.drew
      generalize wr.drew = w7 at RO WB ⊢
      cases hmt : meetB ⟨k, y, t, v⟩ ⟨z0, z1, z2, z3⟩ by_ with
      | false =>
        have HX := Lib.hid (RN.out hmt)
        rw [hmt] at CM
        clear hmt RY RN
        go_wp2_with fail
        refine (CM.out _).mono ?_
        rintro e w8 ⟨rfl, hb⟩
        have RO := Lib.hid (owns_below RO.out hb)
        have WB := Lib.hid (WB.out.trans (hb.mono (Nat.le_trans hb4 WB.out.size)))
        clear hb
        go_wp2
        go_roundw
        case rel => exact ⟨q + 1, m, ap, cp, by omega, by go_num, rfl, by rw [HX.out]; exact HM.out, by rw [HX.out]; exact RO.out, WB.out⟩
        case measure => simp [intOf]; omega
      | true =>
        have HX := Lib.hid (RY.out hmt)
        rw [hmt] at CM
        clear hmt RY RN
        go_wp2_with fail
        refine (CM.out _).mono ?_
        rintro e w8 ⟨rfl, hb⟩
        have RO := Lib.hid (owns_below RO.out hb)
        have WB := Lib.hid (WB.out.trans (hb.mono (Nat.le_trans hb4 WB.out.size)))
        clear hb
        go_wp2_with fail
        refine wp_region_any (by kernel_rfl) ?_
        change wpAny _ _ _ _ _ _ _ (World.drew _)
        have RO := Lib.hid (show w8.drew.ownsRow _ _ _ _ _ _ from RO.out)
        have WB := Lib.hid WB.out.drew
        generalize w8.drew = w9 at RO WB ⊢
        obtain ⟨⟨p0, p1, p2, p3⟩, r0, r1, r2, r3⟩ := CC.out w9 WB.out
        refine wpAny_take (oi := ⟨some 67, _, _, _, _, _⟩) (i := 0) (v := .slice ap m cp) rfl (by kernel_rfl) (by kernel_rfl) (by kernel_rfl) (fun _ _ _ h => h) (Or.inl ⟨by kernel_rfl, fun w => by go_simp⟩) ?_
        go_simp
        refine wpAny_take (oi := ⟨some 69, _, _, _, _, _⟩) (i := 2) (v := .slice (some ⟨bo, oo, none⟩) R.length d) rfl (by kernel_rfl) (by kernel_rfl) (by kernel_rfl) (fun _ _ _ h => h) (Or.inl ⟨by kernel_rfl, fun w => by go_simp⟩) ?_
        go_simp
        refine wpAny_take (oi := ⟨some 70, _, _, _, _, _⟩) (i := 3) (v := .int .i64 (q : Int)) rfl (by kernel_rfl) (by kernel_rfl) (by kernel_rfl) (fun _ _ _ h => h) (Or.inl ⟨by kernel_rfl, fun w => by go_simp⟩) ?_
        go_simp
        refine wpAny_take (oi := ⟨some 71, _, _, _, _, _⟩) (i := 4) (v := .pointer (some ⟨bo, oo + q * 4, none⟩)) rfl (by kernel_rfl) (by kernel_rfl) (by kernel_rfl) (fun _ _ _ h => h) (Or.inl ⟨by kernel_rfl, fun w => by go_simp⟩) ?_
        go_simp
        refine wpAny_ready (rs := [1, 5]) (by kernel_rfl) (by simp) ?_
        refine AllReady.cons rfl (fun K hK => ?_) (AllReady.cons rfl (fun K hK => ?_) AllReady.nil)
        · go_simp
          refine hK _ _ ?_
          clear hK K
          refine wpAny_ready (rs := [5]) (by kernel_rfl) (by simp) ?_
          refine AllReady.cons rfl (fun K hK => ?_) AllReady.nil
          go_simp
          refine hK _ _ ?_
          clear hK K
          refine wpAny_ready (rs := [6]) (by kernel_rfl) (by simp) ?_
          refine AllReady.cons rfl (fun K hK => ?_) AllReady.nil
          go_simp
          go_at_call 72
          refine (sPair_x k y t v z0 z1 z2 z3 _).mono ?_
          rintro e w10 ⟨rfl, hb⟩
          have RO := Lib.hid (owns_below RO.out hb)
          have WB := Lib.hid (WB.out.trans (hb.mono (Nat.le_trans hb4 WB.out.size)))
          clear hb p0 p1 p2 p3 r0 r1 r2 r3
          refine hK _ _ ?_
          clear hK K
          refine wpAny_ready (rs := [7]) (by kernel_rfl) (by simp) ?_
          refine AllReady.cons rfl (fun K hK => ?_) AllReady.nil
          go_simp
          refine hK _ _ ?_
          clear hK K
          refine wpAny_ready (rs := [8]) (by kernel_rfl) (by simp) ?_
          refine AllReady.cons rfl (fun K hK => ?_) AllReady.nil
          obtain ⟨a4, c4, w11, hr3, ho3, hb3, _⟩ := appendG (w := w10) ⟨y, t, z2, v, z3⟩ HM.out RO.out (Nat.le_trans hb4 WB.out.size) hml 30
          simp only at hr3
          have R3 := Lib.hid hr3
          have RO2 := Lib.hid ho3
          have WB2 := Lib.hid (WB.out.trans hb3)
          have HX2 : Hid ((rowJ ⟨k, y, t, v⟩ R by_ (q + 1)) = (rowJ ⟨k, y, t, v⟩ R by_ q) ++ [⟨y, t, z2, v, z3⟩]) := Lib.hid (by rw [HX.out]; rfl)
          clear hr3 ho3 hb3
          refine step_append_runG rfl _ _ _ _ rfl _ _ rfl rfl _ _ R3.out ?_
          refine hK _ _ ?_
          clear hK K
          refine wpAny_ready (rs := [9]) (by kernel_rfl) (by simp) ?_
          refine AllReady.cons rfl (fun K hK => ?_) AllReady.nil
          go_simp
          refine hK _ _ ?_
          clear hK K
          refine wpAny_done (by kernel_rfl) ?_ _
          go_wp2
          go_roundw
          case rel => exact ⟨q + 1, m + 1, a4, c4, by omega, by go_num, rfl, by rw [HX2.out, List.length_append, ← HM.out]; rfl, by rw [HX2.out]; exact RO2.out, WB2.out⟩
          case measure => simp [intOf]; omega
        · go_simp
          refine hK _ _ ?_
          clear hK K
          refine wpAny_ready (rs := [1]) (by kernel_rfl) (by simp) ?_
          refine AllReady.cons rfl (fun K hK => ?_) AllReady.nil
          go_simp
          refine hK _ _ ?_
          clear hK K
          refine wpAny_ready (rs := [6]) (by kernel_rfl) (by simp) ?_
          refine AllReady.cons rfl (fun K hK => ?_) AllReady.nil
          go_simp
          go_at_call 72
          refine (sPair_x k y t v z0 z1 z2 z3 _).mono ?_
          rintro e w10 ⟨rfl, hb⟩
          have RO := Lib.hid (owns_below RO.out hb)
          have WB := Lib.hid (WB.out.trans (hb.mono (Nat.le_trans hb4 WB.out.size)))
          clear hb p0 p1 p2 p3 r0 r1 r2 r3
          refine hK _ _ ?_
          clear hK K
          refine wpAny_ready (rs := [7]) (by kernel_rfl) (by simp) ?_
          refine AllReady.cons rfl (fun K hK => ?_) AllReady.nil
          go_simp
          refine hK _ _ ?_
          clear hK K
          refine wpAny_ready (rs := [8]) (by kernel_rfl) (by simp) ?_
          refine AllReady.cons rfl (fun K hK => ?_) AllReady.nil
          obtain ⟨a4, c4, w11, hr3, ho3, hb3, _⟩ := appendG (w := w10) ⟨y, t, z2, v, z3⟩ HM.out RO.out (Nat.le_trans hb4 WB.out.size) hml 30
          simp only at hr3
          have R3 := Lib.hid hr3
          have RO2 := Lib.hid ho3
          have WB2 := Lib.hid (WB.out.trans hb3)
          have HX2 : Hid ((rowJ ⟨k, y, t, v⟩ R by_ (q + 1)) = (rowJ ⟨k, y, t, v⟩ R by_ q) ++ [⟨y, t, z2, v, z3⟩]) := Lib.hid (by rw [HX.out]; rfl)
          clear hr3 ho3 hb3
          refine step_append_runG rfl _ _ _ _ rfl _ _ rfl rfl _ _ R3.out ?_
          refine hK _ _ ?_
          clear hK K
          refine wpAny_ready (rs := [9]) (by kernel_rfl) (by simp) ?_
          refine AllReady.cons rfl (fun K hK => ?_) AllReady.nil
          go_simp
          refine hK _ _ ?_
          clear hK K
          refine wpAny_done (by kernel_rfl) ?_ _
          go_wp2
          go_roundw
          case rel => exact ⟨q + 1, m + 1, a4, c4, by omega, by go_num, rfl, by rw [HX2.out, List.length_append, ← HM.out]; rfl, by rw [HX2.out]; exact RO2.out, WB2.out⟩
          case measure => simp [intOf]; omega
    · obtain rfl : q = R.length := by omega
      have hlt' : ¬ (R.length : Int) < (R.length : Int) := by omega
      have hb := WB.out
      have K1 := Lib.hid (K1.out.belowB hb (by omega))
      have K2 := Lib.hid (K2.out.belowB hb (by omega))
      have KN := Lib.hid (KN.out.belowB hb ltN)
      have MM := Lib.hid (MM.out.below hb hup4)
      have BB := Lib.hid (BB.out.trans (hb.mono (show w.heap.size ≤ w4.heap.size by omega)))
      have hm2 := HM.out
      subst hm2
      have PR := Lib.hid (owns_less RO.out (show W0.heap.size ≤ w4.heap.size by omega))
      have UP := Lib.hid (show w1.heap.size ≤ wr.heap.size by omega)
      clear hb
      generalize hwr : wr = w7 at K1 K2 KN PR MM UP BB ⊢
      clear hwr
      have hup := UP.out
      obtain ⟨a3, c3, w9, hr3, hm9, hb9, hg9⟩ := Many.push (pre := []) ⟨k, y, t, v⟩ MM.out UP.out (by omega) (by omega) 24
      have R3 := Lib.hid hr3
      have hrow := MM.out.r0.own
      have g2 := own_ne hrow K2.out (show 29 ≠ 38 by decide)
      have gn := own_ne hrow KN.out (show 29 ≠ 38 by decide)
      have K29 := Lib.hid (K2.out.grown hg9 g2)
      have KN9 := Lib.hid (KN.out.grown hg9 gn)
      have PR9 := Lib.hid (PR.out.kept hg9 (Apart.of_type PR.out hrow (show 53 ≠ 38 by decide)).ne)
      have M9 := Lib.hid (Many.snoc (r := rG ap cp (rowJ ⟨k, y, t, v⟩ R by_ R.length)) hm9 PR9.out (fun s hs => by simp at hs; rcases hs with rfl | rfl <;> exact (show 38 ≠ 53 by decide)) (Nat.le_refl _))
      have qn := KN.out.cell
      have q1 := K1.out.cell
      have fn9 := KN9.out.frozen
      have dn9 := KN9.out.cell
      have KN10 := Lib.hid (KN9.out.put_ 0 (.slice a3 (L.length + 1) c3))
      have K210 := Lib.hid (K29.out.grown (grown_setCell w9 w1.heap.size 0 (.slice a3 (L.length + 1) c3)) (by have := hlo1; simp; omega))
      have M10 := Lib.hid (M9.out.setBox KN9.out (fun r hr => by simp at hr; rcases hr with rfl | rfl | rfl; exact (show 29 ≠ 38 by decide); exact (show 29 ≠ 38 by decide); exact (show 29 ≠ 53 by decide)) 0 (.slice a3 (L.length + 1) c3))
      have B10 := Lib.hid ((BB.out.trans (hb9.mono (show w.heap.size ≤ W0.heap.size by omega))).setCell (p := ⟨w1.heap.size, 0, none⟩) (by have := hlo1; simp; omega) (.slice a3 (L.length + 1) c3))
      have q10 := KN10.out.cell
      have f10 := K210.out.frozen
      have d2 := K210.out.cell
      have HPX : Hid (AddPost (L ++ [⟨k, y, t, v⟩]) R mk (rowJ ⟨k, y, t, v⟩ R by_ R.length) 0 w (.returned (.tuple #[.agg #[.slice a3 (L.length + 1) c3, .slice a2 R.length c2, .int .i64 mk], .slice ap (rowJ ⟨k, y, t, v⟩ R by_ R.length).length cp, .int .i64 0])) ((((w9.setCell ⟨w1.heap.size, 0, none⟩ (.slice a3 (L.length + 1) c3)).setCell ⟨w.heap.size + 1 + 1, 0, none⟩ (.slice a3 (L.length + 1) c3)).setCell ⟨w.heap.size + 1 + 1, 1, none⟩ (.slice a2 R.length c2)).setCell ⟨w.heap.size + 1 + 1, 2, none⟩ (.int .i64 mk))) := Lib.hid (by
        refine ⟨a3, c3, a2, c2, ap, cp, by simp, (((((M10.out.setCell ?_ _).setCell ?_ _).setCell ?_ _).less ?_ ?_)), ((B10.out.setCell ?_ _).setCell ?_ _).setCell ?_ _⟩ <;> first | omega | (simp; omega) | simp)
      clear hr3 hm9 hb9 hg9 hrow g2 gn PR9 M9 M10 B10 MM PR
      go_wp2_with (at_builtin; refine Lib.wpList_append_run _ rfl _ _ _ _ rfl _ _ rfl rfl _ _ R3.out ?_)
      exact bodyPost_ret (v := .tuple #[.agg #[.slice a3 (L.length + 1) c3, .slice a2 R.length c2, .int .i64 mk], .slice ap (rowJ ⟨k, y, t, v⟩ R by_ R.length).length cp, .int .i64 0]) (by simp [results, Try.results52, go_sem, d2]) rfl HPX.out
set_option maxHeartbeats 4000000 in
set_option maxRecDepth 100000 in
theorem sAdd_rightF (a b : Option Addr) (c d : Nat) (L R : List Fm) (mk by_ : Int) (k y t v : Int) (hi : Nat) (w : World) (h1 : Fms w hi a c L) (h2 : Fms w hi b d R) (hB : hi ≤ w.heap.size) (hl1 : L.length ≤ 1048576) (hl2 : R.length ≤ 1048576) (hj : joinOkJ L R mk = true) (he : evJ ⟨k, y, t, v⟩ = true) (ht : inB by_ 0 1000000 = true) (hx : ¬ t ≤ mk) (hf : R.length = 40) :
    Calls Try.prog 52 #[.agg #[.slice a L.length c, .slice b R.length d, .int .i64 mk], .int .i64 by_, .bool false, (.agg #[.int .i64 k, .int .i64 y, .int .i64 t, .int .i64 v])] w (AddPost L R mk [] 2 w) := by
  have b1 := (((Below.refl w.heap.size w).alloc (Nat.le_refl _) (.cells #[.slice a L.length c, .slice b R.length d, .int .i64 mk] 29)).alloc (by simp) (.cells #[.int .i64 k, .int .i64 y, .int .i64 t, .int .i64 v] 38)).alloc (by simp; omega) (.cells #[.slice none 0 0, .slice none 0 0, .int .i64 0] 29)
  have k0 := ((Blk.new w 29 #[.slice a L.length c, .slice b R.length d, .int .i64 mk]).alloc (.cells #[.int .i64 k, .int .i64 y, .int .i64 t, .int .i64 v] 38)).alloc (.cells #[.slice none 0 0, .slice none 0 0, .int .i64 0] 29)
  have k1 := (Blk.new (w.alloc (.cells #[.slice a L.length c, .slice b R.length d, .int .i64 mk] 29)) 38 #[.int .i64 k, .int .i64 y, .int .i64 t, .int .i64 v]).alloc (.cells #[.slice none 0 0, .slice none 0 0, .int .i64 0] 29)
  have k2 := Blk.new ((w.alloc (.cells #[.slice a L.length c, .slice b R.length d, .int .i64 mk] 29)).alloc (.cells #[.int .i64 k, .int .i64 y, .int .i64 t, .int .i64 v] 38)) 29 #[.slice none 0 0, .slice none 0 0, .int .i64 0]
  simp only [World.size_alloc] at k1 k2
  have H1 := Lib.hid h1
  have H2 := Lib.hid h2
  have CP : Hid (∀ W, Below w.heap.size w W → Calls Try.prog 81 #[.agg #[.slice a L.length c, .slice b R.length d, .int .i64 mk]] W (FreshJn L R mk W)) := Lib.hid (fun W hW => sCopy_x a b c d mk L R hi W (H1.out.below (hW.mono hB)) (H2.out.below (hW.mono hB)) (Nat.le_trans hB hW.size) hl1 hl2)
  have JO : Hid (∀ W, Below w.heap.size w W → Calls Try.prog 44 #[.agg #[.slice a L.length c, .slice b R.length d, .int .i64 mk]] W fun e w' => e = .returned (.bool (joinOkJ L R mk)) ∧ Below W.heap.size W w') := Lib.hid (fun W hW => sJoinOk_any a b c d L R mk hi W (H1.out.below (hW.mono hB)) (H2.out.below (hW.mono hB)) (Nat.le_trans hB hW.size))
  have EV := Lib.hid (fun W => sEv_x k y t v W)
  have HT := Lib.hid (fun W => specIn_any by_ 0 1000000 W)
  clear h1 h2
  have h40b : ((R.length : Int) == 40) = true := by simp; omega
  clear hf
  rw [hj] at JO
  rw [he] at EV
  rw [ht] at HT
  have HE := Lib.hid (evJ_bd he).2.1
  have hjo : evsJ L = true ∧ evsJ R = true := by
    unfold joinOkJ at hj
    simp only [Bool.and_eq_true] at hj
    exact ⟨hj.1, hj.2.1⟩
  have HL1 := Lib.hid hjo.1
  have HR := Lib.hid hjo.2
  have h4L := (evsJ_bd hjo.1).1
  have h4R := (evsJ_bd hjo.2).1
  clear hj he ht hjo
  go_enter Try.func52, Try.ntmps52
  go_wp2_with fail
  generalize hW : World.alloc _ _ = W0 at b1 k0 k1 k2 ⊢
  have hlo : w.heap.size + 3 ≤ W0.heap.size := by rw [← hW]; simp
  clear hW
  have K0 := Lib.hid k0
  have K1 := Lib.hid k1
  have K2 := Lib.hid k2
  have BB := Lib.hid b1
  clear b1 k0 k1 k2
  refine (CP.out _ BB.out).mono ?_
  rintro e w1 ⟨a1, c1, a2, c2, rfl, hm, hb⟩
  have hb0 := hb
  have hb := hb.trans ((Below.refl w1.heap.size w1).alloc (Nat.le_refl _) (.cells #[.slice a1 L.length c1, .slice a2 R.length c2, .int .i64 mk] 29) |>.mono hb.size)
  have K0 := Lib.hid (K0.out.below hb)
  have K1 := Lib.hid (K1.out.below hb)
  have K2 := Lib.hid (K2.out.below hb)
  have KN := Lib.hid (Blk.new w1 29 #[.slice a1 L.length c1, .slice a2 R.length c2, .int .i64 mk])
  have MM := Lib.hid (hm.below ((Below.refl w1.heap.size w1).alloc (Nat.le_refl _) (.cells #[.slice a1 L.length c1, .slice a2 R.length c2, .int .i64 mk] 29)) (Nat.le_refl _))
  have UP : Hid (w1.heap.size ≤ (w1.alloc (.cells #[.slice a1 L.length c1, .slice a2 R.length c2, .int .i64 mk] 29)).heap.size) := Lib.hid (by simp)
  have BB := Lib.hid (BB.out.trans (hb.mono BB.out.size))
  have hlo1 := hb0.size
  clear hb hb0 hm
  have q0 := K0.out.cell
  go_wp2_with fail
  refine (JO.out _ BB.out).mono ?_
  rintro e w3 ⟨rfl, hb⟩
  clear q0
  have K0 := Lib.hid (K0.out.below hb)
  have K1 := Lib.hid (K1.out.below hb)
  have K2 := Lib.hid (K2.out.below hb)
  have KN := Lib.hid (KN.out.below hb)
  have MM := Lib.hid (MM.out.below hb (by have := hb.size; have := UP.out; omega))
  have UP := Lib.hid (Nat.le_trans UP.out hb.size)
  have BB := Lib.hid (BB.out.trans (hb.mono BB.out.size))
  clear hb
  have q0 := K0.out.cell
  have q1 := K1.out.cell
  go_wp2_with fail
  refine (EV.out _).mono ?_
  rintro e w4 ⟨rfl, hb⟩
  clear q0 q1
  have K0 := Lib.hid (K0.out.below hb)
  have K1 := Lib.hid (K1.out.below hb)
  have K2 := Lib.hid (K2.out.below hb)
  have KN := Lib.hid (KN.out.below hb)
  have MM := Lib.hid (MM.out.below hb (by have := hb.size; have := UP.out; omega))
  have UP := Lib.hid (Nat.le_trans UP.out hb.size)
  have BB := Lib.hid (BB.out.trans (hb.mono BB.out.size))
  clear hb
  have q0 := K0.out.cell
  have q1 := K1.out.cell
  have qn := KN.out.cell
  have f2 := K2.out.frozen
  have d2 := K2.out.cell
  have HP : Hid (AddPost L R mk [] 2 w (.returned (.tuple #[.agg #[.slice a1 L.length c1, .slice a2 R.length c2, .int .i64 mk], .slice none 0 0, .int .i64 2])) (((w4.setCell ⟨w.heap.size + 1 + 1, 0, none⟩ (.slice a1 L.length c1)).setCell ⟨w.heap.size + 1 + 1, 1, none⟩ (.slice a2 R.length c2)).setCell ⟨w.heap.size + 1 + 1, 2, none⟩ (.int .i64 mk))) := Lib.hid (by
    refine ⟨a1, c1, a2, c2, none, 0, rfl, (((((MM.out.nil3.setCell ?_ _).setCell ?_ _).setCell ?_ _).less ?_ ?_)), ((BB.out.setCell ?_ _).setCell ?_ _).setCell ?_ _⟩ <;> first | omega | (simp; omega) | (simp; exact UP.out))
  go_wp2_with (go_at_call 70; refine (HT.out _).mono ?_; rintro e w' ⟨rfl, rfl⟩)
  exact bodyPost_ret (v := .tuple #[.agg #[.slice a1 L.length c1, .slice a2 R.length c2, .int .i64 mk], .slice none 0 0, .int .i64 2]) (by simp [results, Try.results52, go_sem, d2]) rfl HP.out
set_option maxHeartbeats 4000000 in
set_option maxRecDepth 100000 in
theorem sAdd_rightD (a b : Option Addr) (c d : Nat) (L R : List Fm) (mk by_ : Int) (k y t v : Int) (hi : Nat) (w : World) (h1 : Fms w hi a c L) (h2 : Fms w hi b d R) (hB : hi ≤ w.heap.size) (hl1 : L.length ≤ 1048576) (hl2 : R.length ≤ 1048576) (hj : joinOkJ L R mk = true) (he : evJ ⟨k, y, t, v⟩ = true) (ht : inB by_ 0 1000000 = true) (hx : ¬ t ≤ mk) (hf : R.length ≠ 40) :
    Calls Try.prog 52 #[.agg #[.slice a L.length c, .slice b R.length d, .int .i64 mk], .int .i64 by_, .bool false, (.agg #[.int .i64 k, .int .i64 y, .int .i64 t, .int .i64 v])] w (AddPost L (R ++ [⟨k, y, t, v⟩]) mk (colJ L ⟨k, y, t, v⟩ by_ L.length) 0 w) := by
  have b1 := (((Below.refl w.heap.size w).alloc (Nat.le_refl _) (.cells #[.slice a L.length c, .slice b R.length d, .int .i64 mk] 29)).alloc (by simp) (.cells #[.int .i64 k, .int .i64 y, .int .i64 t, .int .i64 v] 38)).alloc (by simp; omega) (.cells #[.slice none 0 0, .slice none 0 0, .int .i64 0] 29)
  have k0 := ((Blk.new w 29 #[.slice a L.length c, .slice b R.length d, .int .i64 mk]).alloc (.cells #[.int .i64 k, .int .i64 y, .int .i64 t, .int .i64 v] 38)).alloc (.cells #[.slice none 0 0, .slice none 0 0, .int .i64 0] 29)
  have k1 := (Blk.new (w.alloc (.cells #[.slice a L.length c, .slice b R.length d, .int .i64 mk] 29)) 38 #[.int .i64 k, .int .i64 y, .int .i64 t, .int .i64 v]).alloc (.cells #[.slice none 0 0, .slice none 0 0, .int .i64 0] 29)
  have k2 := Blk.new ((w.alloc (.cells #[.slice a L.length c, .slice b R.length d, .int .i64 mk] 29)).alloc (.cells #[.int .i64 k, .int .i64 y, .int .i64 t, .int .i64 v] 38)) 29 #[.slice none 0 0, .slice none 0 0, .int .i64 0]
  simp only [World.size_alloc] at k1 k2
  have H1 := Lib.hid h1
  have H2 := Lib.hid h2
  have CP : Hid (∀ W, Below w.heap.size w W → Calls Try.prog 81 #[.agg #[.slice a L.length c, .slice b R.length d, .int .i64 mk]] W (FreshJn L R mk W)) := Lib.hid (fun W hW => sCopy_x a b c d mk L R hi W (H1.out.below (hW.mono hB)) (H2.out.below (hW.mono hB)) (Nat.le_trans hB hW.size) hl1 hl2)
  have JO : Hid (∀ W, Below w.heap.size w W → Calls Try.prog 44 #[.agg #[.slice a L.length c, .slice b R.length d, .int .i64 mk]] W fun e w' => e = .returned (.bool (joinOkJ L R mk)) ∧ Below W.heap.size W w') := Lib.hid (fun W hW => sJoinOk_any a b c d L R mk hi W (H1.out.below (hW.mono hB)) (H2.out.below (hW.mono hB)) (Nat.le_trans hB hW.size))
  have EV := Lib.hid (fun W => sEv_x k y t v W)
  have HT := Lib.hid (fun W => specIn_any by_ 0 1000000 W)
  clear h1 h2
  have h40b : ((R.length : Int) == 40) = false := by simp; omega
  clear hf
  rw [hj] at JO
  rw [he] at EV
  rw [ht] at HT
  have HE := Lib.hid (evJ_bd he).2.1
  have hjo : evsJ L = true ∧ evsJ R = true := by
    unfold joinOkJ at hj
    simp only [Bool.and_eq_true] at hj
    exact ⟨hj.1, hj.2.1⟩
  have HL1 := Lib.hid hjo.1
  have HR := Lib.hid hjo.2
  have h4L := (evsJ_bd hjo.1).1
  have h4R := (evsJ_bd hjo.2).1
  clear hj he ht hjo
  go_enter Try.func52, Try.ntmps52
  go_wp2_with fail
  generalize hW : World.alloc _ _ = W0 at b1 k0 k1 k2 ⊢
  have hlo : w.heap.size + 3 ≤ W0.heap.size := by rw [← hW]; simp
  clear hW
  have K0 := Lib.hid k0
  have K1 := Lib.hid k1
  have K2 := Lib.hid k2
  have BB := Lib.hid b1
  clear b1 k0 k1 k2
  refine (CP.out _ BB.out).mono ?_
  rintro e w1 ⟨a1, c1, a2, c2, rfl, hm, hb⟩
  have hb0 := hb
  have hb := hb.trans ((Below.refl w1.heap.size w1).alloc (Nat.le_refl _) (.cells #[.slice a1 L.length c1, .slice a2 R.length c2, .int .i64 mk] 29) |>.mono hb.size)
  have K0 := Lib.hid (K0.out.below hb)
  have K1 := Lib.hid (K1.out.below hb)
  have K2 := Lib.hid (K2.out.below hb)
  have KN := Lib.hid (Blk.new w1 29 #[.slice a1 L.length c1, .slice a2 R.length c2, .int .i64 mk])
  have MM := Lib.hid (hm.below ((Below.refl w1.heap.size w1).alloc (Nat.le_refl _) (.cells #[.slice a1 L.length c1, .slice a2 R.length c2, .int .i64 mk] 29)) (Nat.le_refl _))
  have UP : Hid (w1.heap.size ≤ (w1.alloc (.cells #[.slice a1 L.length c1, .slice a2 R.length c2, .int .i64 mk] 29)).heap.size) := Lib.hid (by simp)
  have BB := Lib.hid (BB.out.trans (hb.mono BB.out.size))
  have hlo1 := hb0.size
  clear hb hb0 hm
  have q0 := K0.out.cell
  go_wp2_with fail
  refine (JO.out _ BB.out).mono ?_
  rintro e w3 ⟨rfl, hb⟩
  clear q0
  have K0 := Lib.hid (K0.out.below hb)
  have K1 := Lib.hid (K1.out.below hb)
  have K2 := Lib.hid (K2.out.below hb)
  have KN := Lib.hid (KN.out.below hb)
  have MM := Lib.hid (MM.out.below hb (by have := hb.size; have := UP.out; omega))
  have UP := Lib.hid (Nat.le_trans UP.out hb.size)
  have BB := Lib.hid (BB.out.trans (hb.mono BB.out.size))
  clear hb
  have q0 := K0.out.cell
  have q1 := K1.out.cell
  go_wp2_with fail
  refine (EV.out _).mono ?_
  rintro e w4 ⟨rfl, hb⟩
  clear q0 q1
  have K0 := Lib.hid (K0.out.below hb)
  have K1 := Lib.hid (K1.out.below hb)
  have K2 := Lib.hid (K2.out.below hb)
  have KN := Lib.hid (KN.out.below hb)
  have MM := Lib.hid (MM.out.below hb (by have := hb.size; have := UP.out; omega))
  have UP := Lib.hid (Nat.le_trans UP.out hb.size)
  have BB := Lib.hid (BB.out.trans (hb.mono BB.out.size))
  clear hb
  have q0 := K0.out.cell
  have q1 := K1.out.cell
  clear q0 q1
  have K0 := Lib.hid (K0.out.alloc (.cells #[] 53))
  have K1 := Lib.hid (K1.out.alloc (.cells #[] 53))
  have K2 := Lib.hid (K2.out.alloc (.cells #[] 53))
  have ltN := KN.out.lt
  have KN := Lib.hid (KN.out.alloc (.cells #[] 53))
  have bP := (Below.refl w4.heap.size w4).alloc (Nat.le_refl _) (.cells #[] 53)
  have MM := Lib.hid (MM.out.below bP UP.out)
  have O5 := Lib.hid (own0G w4 w4.heap.size (Nat.le_refl _))
  have hup4 := UP.out
  have BB := Lib.hid (BB.out.trans (bP.mono BB.out.size))
  have hb4 := bP.size
  clear bP
  have q1 := K1.out.cell
  have q0 := K0.out.cell
  have qx0 : ∀ i, w4.cell? ⟨w.heap.size, i, none⟩ = #[.slice a L.length c, .slice b R.length d, .int .i64 mk][i]? := fun i => by rw [← q0 i]; exact (World.cell?_alloc_lt _ _ _ (by simp; omega)).symm
  have qx1 : ∀ i, w4.cell? ⟨w.heap.size + 1, i, none⟩ = #[.int .i64 k, .int .i64 y, .int .i64 t, .int .i64 v][i]? := fun i => by rw [← q1 i]; exact (World.cell?_alloc_lt _ _ _ (by simp; omega)).symm
  go_wp2_with (go_at_call 70; refine (HT.out _).mono ?_; rintro e w' ⟨rfl, rfl⟩)
  clear q0 q1 qx0 qx1
  generalize hw5 : w4.alloc (.cells #[] 53) = w5 at K0 K1 K2 KN MM O5 BB hb4 ⊢
  clear hw5
  go_loopw [14, 15] (fun ls i wr => ∃ (q m : Nat) (ap : Option Addr) (cp : Nat), q ≤ L.length ∧ i = .int .i64 (q : Int) ∧ ls = .slice ap m cp ∧ m = (colJ L ⟨k, y, t, v⟩ by_ q).length ∧ wr.ownsRow w4.heap.size 53 5 (.slice ap m cp) m (flatG (colJ L ⟨k, y, t, v⟩ by_ q)) ∧ Below w4.heap.size w5 wr) (fun _ i _ => L.length - (intOf i).toNat)
  case atStart => exact ⟨0, 0, _, 0, Nat.zero_le _, rfl, rfl, rfl, O5.out, Below.refl _ _⟩
  case round =>
    obtain ⟨q, m, ap, cp, hq, rfl, rfl, hm, ho, hb⟩ := hrel
    have RO := Lib.hid ho
    have WB := Lib.hid hb
    have HM := Lib.hid hm
    have hml : m ≤ 2097152 := by rw [hm]; have := colJ_len (L := L) (B := ⟨k, y, t, v⟩) (by_ := by_) (k := q); omega
    have hsr := hb.size
    clear ho hb hm
    by_cases hlt : q < L.length
    · obtain ⟨bo, oo, rfl, hbo, hco⟩ := Fms.six H1.out (by omega)
      have hlt' : (q : Int) < (L.length : Int) := by omega
      have hnn : 0 ≤ (q : Int) := by omega
      have CO := Lib.hid (hco q hlt)
      have EV2 := Lib.hid (evJ_bd ((evsJ_bd HL1.out).2 q hlt)).2.1
      have RY := Lib.hid (fun h => colJ_yes (L := L) (B := ⟨k, y, t, v⟩) (by_ := by_) hlt h)
      have RN := Lib.hid (fun h => colJ_no (L := L) (B := ⟨k, y, t, v⟩) (by_ := by_) hlt h)
      clear hco
      generalize qel L q = Z at CO EV2 RY RN
      obtain ⟨z0, z1, z2, z3⟩ := Z
      simp only at CO
      have CC : Hid (∀ W : World, Below w4.heap.size w5 W → (W.cell? ⟨w.heap.size + 1, 0, none⟩ = some (.int .i64 k) ∧ W.cell? ⟨w.heap.size + 1, 1, none⟩ = some (.int .i64 y) ∧ W.cell? ⟨w.heap.size + 1, 2, none⟩ = some (.int .i64 t) ∧ W.cell? ⟨w.heap.size + 1, 3, none⟩ = some (.int .i64 v)) ∧
          (W.cell? ⟨bo, oo + q * 4, none⟩ = some (.int .i64 z0) ∧ W.cell? ⟨bo, oo + q * 4 + 1, none⟩ = some (.int .i64 z1) ∧ W.cell? ⟨bo, oo + q * 4 + 2, none⟩ = some (.int .i64 z2) ∧ W.cell? ⟨bo, oo + q * 4 + 3, none⟩ = some (.int .i64 z3))) := Lib.hid (fun W hW => by
        have kk := K1.out.belowB hW (by omega)
        have g2 : ∀ z, W.cell? ⟨bo, z, none⟩ = w.cell? ⟨bo, z, none⟩ := fun z => (hW.cell (p := ⟨bo, z, none⟩) (show bo < w4.heap.size by omega)).trans (BB.out.cell (p := ⟨bo, z, none⟩) (show bo < w.heap.size by omega))
        simp only [g2]
        exact ⟨⟨kk.cell 0, kk.cell 1, kk.cell 2, kk.cell 3⟩, CO.out⟩)
      have CM := Lib.hid (fun W => sMeet_x k y t v z0 z1 z2 z3 by_ W HE.out EV2.out)
      obtain ⟨⟨p0, p1, p2, p3⟩, r0, r1, r2, r3⟩ := CC.out wr WB.out
      go_wp2_with fail
      go_still_tail 6, (by kernel_rfl)
      change wpList _ _ _ _ _ wr.drew
      clear p0 p1 p2 p3 r0 r1 r2 r3
      have RO := Lib.hid (show wr.drew.ownsRow _ _ _ _ _ _ from RO.out)
      have WB := Lib.hid WB.out.drew
      generalize wr.drew = w7 at RO WB ⊢
      cases hmt : meetB ⟨k, y, t, v⟩ ⟨z0, z1, z2, z3⟩ by_ with
      | false =>
        have HX := Lib.hid (RN.out hmt)
        rw [hmt] at CM
        clear hmt RY RN
        go_wp2_with fail
        refine (CM.out _).mono ?_
        rintro e w8 ⟨rfl, hb⟩
        have RO := Lib.hid (owns_below RO.out hb)
        have WB := Lib.hid (WB.out.trans (hb.mono (Nat.le_trans hb4 WB.out.size)))
        clear hb
        go_wp2
        go_roundw
        case rel => exact ⟨q + 1, m, ap, cp, by omega, by go_num, rfl, by rw [HX.out]; exact HM.out, by rw [HX.out]; exact RO.out, WB.out⟩
        case measure => simp [intOf]; omega
      | true =>
        have HX := Lib.hid (RY.out hmt)
        rw [hmt] at CM
        clear hmt RY RN
        go_wp2_with fail
        refine (CM.out _).mono ?_
        rintro e w8 ⟨rfl, hb⟩
        have RO := Lib.hid (owns_below RO.out hb)
        have WB := Lib.hid (WB.out.trans (hb.mono (Nat.le_trans hb4 WB.out.size)))
        clear hb
        go_wp2_with fail
        refine wp_region_any (by kernel_rfl) ?_
        change wpAny _ _ _ _ _ _ _ (World.drew _)
        have RO := Lib.hid (show w8.drew.ownsRow _ _ _ _ _ _ from RO.out)
        have WB := Lib.hid WB.out.drew
        generalize w8.drew = w9 at RO WB ⊢
        obtain ⟨⟨p0, p1, p2, p3⟩, r0, r1, r2, r3⟩ := CC.out w9 WB.out
        refine wpAny_take (oi := ⟨some 76, _, _, _, _, _⟩) (i := 0) (v := .slice ap m cp) rfl (by kernel_rfl) (by kernel_rfl) (by kernel_rfl) (fun _ _ _ h => h) (Or.inl ⟨by kernel_rfl, fun w => by go_simp⟩) ?_
        go_simp
        refine wpAny_take (oi := ⟨some 77, _, _, _, _, _⟩) (i := 1) (v := .slice (some ⟨bo, oo, none⟩) L.length c) rfl (by kernel_rfl) (by kernel_rfl) (by kernel_rfl) (fun _ _ _ h => h) (Or.inl ⟨by kernel_rfl, fun w => by go_simp⟩) ?_
        go_simp
        refine wpAny_take (oi := ⟨some 78, _, _, _, _, _⟩) (i := 2) (v := .int .i64 (q : Int)) rfl (by kernel_rfl) (by kernel_rfl) (by kernel_rfl) (fun _ _ _ h => h) (Or.inl ⟨by kernel_rfl, fun w => by go_simp⟩) ?_
        go_simp
        refine wpAny_take (oi := ⟨some 79, _, _, _, _, _⟩) (i := 3) (v := .pointer (some ⟨bo, oo + q * 4, none⟩)) rfl (by kernel_rfl) (by kernel_rfl) (by kernel_rfl) (fun _ _ _ h => h) (Or.inl ⟨by kernel_rfl, fun w => by go_simp⟩) ?_
        go_simp
        refine wpAny_ready (rs := [4, 5]) (by kernel_rfl) (by simp) ?_
        refine AllReady.cons rfl (fun K hK => ?_) (AllReady.cons rfl (fun K hK => ?_) AllReady.nil)
        · go_simp
          refine hK _ _ ?_
          clear hK K
          refine wpAny_ready (rs := [5]) (by kernel_rfl) (by simp) ?_
          refine AllReady.cons rfl (fun K hK => ?_) AllReady.nil
          go_simp
          refine hK _ _ ?_
          clear hK K
          refine wpAny_ready (rs := [6]) (by kernel_rfl) (by simp) ?_
          refine AllReady.cons rfl (fun K hK => ?_) AllReady.nil
          go_simp
          go_at_call 72
          refine (sPair_x z0 z1 z2 z3 k y t v _).mono ?_
          rintro e w10 ⟨rfl, hb⟩
          have RO := Lib.hid (owns_below RO.out hb)
          have WB := Lib.hid (WB.out.trans (hb.mono (Nat.le_trans hb4 WB.out.size)))
          clear hb p0 p1 p2 p3 r0 r1 r2 r3
          refine hK _ _ ?_
          clear hK K
          refine wpAny_ready (rs := [7]) (by kernel_rfl) (by simp) ?_
          refine AllReady.cons rfl (fun K hK => ?_) AllReady.nil
          go_simp
          refine hK _ _ ?_
          clear hK K
          refine wpAny_ready (rs := [8]) (by kernel_rfl) (by simp) ?_
          refine AllReady.cons rfl (fun K hK => ?_) AllReady.nil
          obtain ⟨a4, c4, w11, hr3, ho3, hb3, _⟩ := appendG (w := w10) ⟨z1, z2, t, z3, v⟩ HM.out RO.out (Nat.le_trans hb4 WB.out.size) hml 30
          simp only at hr3
          have R3 := Lib.hid hr3
          have RO2 := Lib.hid ho3
          have WB2 := Lib.hid (WB.out.trans hb3)
          have HX2 : Hid ((colJ L ⟨k, y, t, v⟩ by_ (q + 1)) = (colJ L ⟨k, y, t, v⟩ by_ q) ++ [⟨z1, z2, t, z3, v⟩]) := Lib.hid (by rw [HX.out]; rfl)
          clear hr3 ho3 hb3
          refine step_append_runG rfl _ _ _ _ rfl _ _ rfl rfl _ _ R3.out ?_
          refine hK _ _ ?_
          clear hK K
          refine wpAny_ready (rs := [9]) (by kernel_rfl) (by simp) ?_
          refine AllReady.cons rfl (fun K hK => ?_) AllReady.nil
          go_simp
          refine hK _ _ ?_
          clear hK K
          refine wpAny_done (by kernel_rfl) ?_ _
          go_wp2
          go_roundw
          case rel => exact ⟨q + 1, m + 1, a4, c4, by omega, by go_num, rfl, by rw [HX2.out, List.length_append, ← HM.out]; rfl, by rw [HX2.out]; exact RO2.out, WB2.out⟩
          case measure => simp [intOf]; omega
        · go_simp
          refine hK _ _ ?_
          clear hK K
          refine wpAny_ready (rs := [4]) (by kernel_rfl) (by simp) ?_
          refine AllReady.cons rfl (fun K hK => ?_) AllReady.nil
          go_simp
          refine hK _ _ ?_
          clear hK K
          refine wpAny_ready (rs := [6]) (by kernel_rfl) (by simp) ?_
          refine AllReady.cons rfl (fun K hK => ?_) AllReady.nil
          go_simp
          go_at_call 72
          refine (sPair_x z0 z1 z2 z3 k y t v _).mono ?_
          rintro e w10 ⟨rfl, hb⟩
          have RO := Lib.hid (owns_below RO.out hb)
          have WB := Lib.hid (WB.out.trans (hb.mono (Nat.le_trans hb4 WB.out.size)))
          clear hb p0 p1 p2 p3 r0 r1 r2 r3
          refine hK _ _ ?_
          clear hK K
          refine wpAny_ready (rs := [7]) (by kernel_rfl) (by simp) ?_
          refine AllReady.cons rfl (fun K hK => ?_) AllReady.nil
          go_simp
          refine hK _ _ ?_
          clear hK K
          refine wpAny_ready (rs := [8]) (by kernel_rfl) (by simp) ?_
          refine AllReady.cons rfl (fun K hK => ?_) AllReady.nil
          obtain ⟨a4, c4, w11, hr3, ho3, hb3, _⟩ := appendG (w := w10) ⟨z1, z2, t, z3, v⟩ HM.out RO.out (Nat.le_trans hb4 WB.out.size) hml 30
          simp only at hr3
          have R3 := Lib.hid hr3
          have RO2 := Lib.hid ho3
          have WB2 := Lib.hid (WB.out.trans hb3)
          have HX2 : Hid ((colJ L ⟨k, y, t, v⟩ by_ (q + 1)) = (colJ L ⟨k, y, t, v⟩ by_ q) ++ [⟨z1, z2, t, z3, v⟩]) := Lib.hid (by rw [HX.out]; rfl)
          clear hr3 ho3 hb3
          refine step_append_runG rfl _ _ _ _ rfl _ _ rfl rfl _ _ R3.out ?_
          refine hK _ _ ?_
          clear hK K
          refine wpAny_ready (rs := [9]) (by kernel_rfl) (by simp) ?_
          refine AllReady.cons rfl (fun K hK => ?_) AllReady.nil
          go_simp
          refine hK _ _ ?_
          clear hK K
          refine wpAny_done (by kernel_rfl) ?_ _
          go_wp2
          go_roundw
          case rel => exact ⟨q + 1, m + 1, a4, c4, by omega, by go_num, rfl, by rw [HX2.out, List.length_append, ← HM.out]; rfl, by rw [HX2.out]; exact RO2.out, WB2.out⟩
          case measure => simp [intOf]; omega
    · obtain rfl : q = L.length := by omega
      have hlt' : ¬ (L.length : Int) < (L.length : Int) := by omega
      have hb := WB.out
      have K1 := Lib.hid (K1.out.belowB hb (by omega))
      have K2 := Lib.hid (K2.out.belowB hb (by omega))
      have KN := Lib.hid (KN.out.belowB hb ltN)
      have MM := Lib.hid (MM.out.below hb hup4)
      have BB := Lib.hid (BB.out.trans (hb.mono (show w.heap.size ≤ w4.heap.size by omega)))
      have hm2 := HM.out
      subst hm2
      have PR := Lib.hid (owns_less RO.out (show W0.heap.size ≤ w4.heap.size by omega))
      have UP := Lib.hid (show w1.heap.size ≤ wr.heap.size by omega)
      clear hb
      generalize hwr : wr = w7 at K1 K2 KN PR MM UP BB ⊢
      clear hwr
      have hup := UP.out
      obtain ⟨a3, c3, w9, hr3, hm9, hb9, hg9⟩ := Many.push (pre := [rQ a1 c1 L]) ⟨k, y, t, v⟩ MM.out UP.out (by omega) (by omega) 24
      have R3 := Lib.hid hr3
      have hrow := MM.out.r1.own
      have g2 := own_ne hrow K2.out (show 29 ≠ 38 by decide)
      have gn := own_ne hrow KN.out (show 29 ≠ 38 by decide)
      have K29 := Lib.hid (K2.out.grown hg9 g2)
      have KN9 := Lib.hid (KN.out.grown hg9 gn)
      have PR9 := Lib.hid (PR.out.kept hg9 (Apart.of_type PR.out hrow (show 53 ≠ 38 by decide)).ne)
      have M9 := Lib.hid (Many.snoc (r := rG ap cp (colJ L ⟨k, y, t, v⟩ by_ L.length)) hm9 PR9.out (fun s hs => by simp at hs; rcases hs with rfl | rfl <;> exact (show 38 ≠ 53 by decide)) (Nat.le_refl _))
      have qn := KN.out.cell
      have q1 := K1.out.cell
      have fn9 := KN9.out.frozen
      have dn9 := KN9.out.cell
      have KN10 := Lib.hid (KN9.out.put_ 1 (.slice a3 (R.length + 1) c3))
      have K210 := Lib.hid (K29.out.grown (grown_setCell w9 w1.heap.size 1 (.slice a3 (R.length + 1) c3)) (by have := hlo1; simp; omega))
      have M10 := Lib.hid (M9.out.setBox KN9.out (fun r hr => by simp at hr; rcases hr with rfl | rfl | rfl; exact (show 29 ≠ 38 by decide); exact (show 29 ≠ 38 by decide); exact (show 29 ≠ 53 by decide)) 1 (.slice a3 (R.length + 1) c3))
      have B10 := Lib.hid ((BB.out.trans (hb9.mono (show w.heap.size ≤ W0.heap.size by omega))).setCell (p := ⟨w1.heap.size, 1, none⟩) (by have := hlo1; simp; omega) (.slice a3 (R.length + 1) c3))
      have q10 := KN10.out.cell
      have f10 := K210.out.frozen
      have d2 := K210.out.cell
      have HPX : Hid (AddPost L (R ++ [⟨k, y, t, v⟩]) mk (colJ L ⟨k, y, t, v⟩ by_ L.length) 0 w (.returned (.tuple #[.agg #[.slice a1 L.length c1, .slice a3 (R.length + 1) c3, .int .i64 mk], .slice ap (colJ L ⟨k, y, t, v⟩ by_ L.length).length cp, .int .i64 0])) ((((w9.setCell ⟨w1.heap.size, 1, none⟩ (.slice a3 (R.length + 1) c3)).setCell ⟨w.heap.size + 1 + 1, 0, none⟩ (.slice a1 L.length c1)).setCell ⟨w.heap.size + 1 + 1, 1, none⟩ (.slice a3 (R.length + 1) c3)).setCell ⟨w.heap.size + 1 + 1, 2, none⟩ (.int .i64 mk))) := Lib.hid (by
        refine ⟨a1, c1, a3, c3, ap, cp, by simp, (((((M10.out.setCell ?_ _).setCell ?_ _).setCell ?_ _).less ?_ ?_)), ((B10.out.setCell ?_ _).setCell ?_ _).setCell ?_ _⟩ <;> first | omega | (simp; omega) | simp)
      clear hr3 hm9 hb9 hg9 hrow g2 gn PR9 M9 M10 B10 MM PR
      go_wp2_with (at_builtin; refine Lib.wpList_append_run _ rfl _ _ _ _ rfl _ _ rfl rfl _ _ R3.out ?_)
      exact bodyPost_ret (v := .tuple #[.agg #[.slice a1 L.length c1, .slice a3 (R.length + 1) c3, .int .i64 mk], .slice ap (colJ L ⟨k, y, t, v⟩ by_ L.length).length cp, .int .i64 0]) (by simp [results, Try.results52, go_sem, d2]) rfl HPX.out
end Go.Proofs.Ytneolndbhklboaa
