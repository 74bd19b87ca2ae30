/- Chapter 12, impl's side: AddJoin. (made by tools/mkaddj.py) -/
import Derived.Test.YtneolndbhklboaaManyQ
import Derived.Test.YtneolndbhklboaaCopyJ
import Derived.Test.YtneolndbhklboaaPlainJn4
import Derived.Test.YtneolndbhklboaaMeet3
import Derived.Test.YtneolndbhklboaaJn2
namespace Go.Proofs.Ytneolndbhklboaa
open Go.RowKit
theorem iLateJ_x (m t : Int) (w : World) : Calls Try.prog 85 #[.int .i64 m, .int .i64 t] w fun e w' => e = .returned (.bool (decide (t ≤ m))) ∧ w' = w := by
  by_cases h : t ≤ m
  · rw [show decide (t ≤ m) = true by simp [h]]
    go_enter Try.func85, Try.ntmps85
    go_wp2
    go_ret
    exact ⟨by simp [go_sem], rfl⟩
  · rw [show decide (t ≤ m) = false by simp [h]]
    go_enter Try.func85, Try.ntmps85
    go_wp2
    go_ret
    exact ⟨by simp [go_sem], rfl⟩
set_option maxHeartbeats 4000000 in
set_option maxRecDepth 100000 in
theorem iAdd_bad1 (a b : Option Addr) (c d : Nat) (L R : List Fm) (mk by_ : Int) (lf : Bool) (k y t v : Int) (hi : Nat) (w : World) (h1 : Fms w hi a c L) (h2 : Fms w hi b d R) (hB : hi ≤ w.heap.size) (hl1 : L.length ≤ 1048576) (hl2 : R.length ≤ 1048576) (hj : joinOkJ L R mk = false) :
    Calls Try.prog 54 #[.agg #[.slice a L.length c, .slice b R.length d, .int .i64 mk], .int .i64 by_, .bool lf, (.agg #[.int .i64 k, .int .i64 y, .int .i64 t, .int .i64 v])] w (AddPost L R mk [] 3 w) := by
  have b1 := (((Below.refl w.heap.size w).alloc (Nat.le_refl _) (.cells #[.slice a L.length c, .slice b R.length d, .int .i64 mk] 29)).alloc (by simp) (.cells #[.int .i64 k, .int .i64 y, .int .i64 t, .int .i64 v] 38)).alloc (by simp; omega) (.cells #[.slice none 0 0, .slice none 0 0, .int .i64 0] 29)
  have k0 := ((Blk.new w 29 #[.slice a L.length c, .slice b R.length d, .int .i64 mk]).alloc (.cells #[.int .i64 k, .int .i64 y, .int .i64 t, .int .i64 v] 38)).alloc (.cells #[.slice none 0 0, .slice none 0 0, .int .i64 0] 29)
  have k1 := (Blk.new (w.alloc (.cells #[.slice a L.length c, .slice b R.length d, .int .i64 mk] 29)) 38 #[.int .i64 k, .int .i64 y, .int .i64 t, .int .i64 v]).alloc (.cells #[.slice none 0 0, .slice none 0 0, .int .i64 0] 29)
  have k2 := Blk.new ((w.alloc (.cells #[.slice a L.length c, .slice b R.length d, .int .i64 mk] 29)).alloc (.cells #[.int .i64 k, .int .i64 y, .int .i64 t, .int .i64 v] 38)) 29 #[.slice none 0 0, .slice none 0 0, .int .i64 0]
  simp only [World.size_alloc] at k1 k2
  have H1 := Lib.hid h1
  have H2 := Lib.hid h2
  have CP : Hid (∀ W, Below w.heap.size w W → Calls Try.prog 83 #[.agg #[.slice a L.length c, .slice b R.length d, .int .i64 mk]] W (FreshJn L R mk W)) := Lib.hid (fun W hW => copied_x a b c d mk L R hi W (H1.out.below (hW.mono hB)) (H2.out.below (hW.mono hB)) (Nat.le_trans hB hW.size) hl1 hl2)
  have JO : Hid (∀ W, Below w.heap.size w W → Calls Try.prog 46 #[.agg #[.slice a L.length c, .slice b R.length d, .int .i64 mk]] W fun e w' => e = .returned (.bool (joinOkJ L R mk)) ∧ Below W.heap.size W w') := Lib.hid (fun W hW => iJoinOk_any a b c d L R mk hi W (H1.out.below (hW.mono hB)) (H2.out.below (hW.mono hB)) (Nat.le_trans hB hW.size))
  have EV := Lib.hid (fun W => iEv_x k y t v W)
  have HT := Lib.hid (fun W => jTime_any by_ W)
  have HL := Lib.hid (fun W => iLateJ_x mk t W)
  clear h1 h2
  rw [hj] at JO
  clear hj EV HT HL
  go_enter Try.func54, Try.ntmps54
  go_wp2_with fail
  generalize hW : World.alloc _ _ = W0 at b1 k0 k1 k2 ⊢
  have hlo : w.heap.size + 3 ≤ W0.heap.size := by rw [← hW]; simp
  clear hW
  have K0 := Lib.hid k0
  have K1 := Lib.hid k1
  have K2 := Lib.hid k2
  have BB := Lib.hid b1
  clear b1 k0 k1 k2
  refine (CP.out _ BB.out).mono ?_
  rintro e w1 ⟨a1, c1, a2, c2, rfl, hm, hb⟩
  have hb0 := hb
  have hb := hb.trans ((Below.refl w1.heap.size w1).alloc (Nat.le_refl _) (.cells #[.slice a1 L.length c1, .slice a2 R.length c2, .int .i64 mk] 29) |>.mono hb.size)
  have K0 := Lib.hid (K0.out.below hb)
  have K1 := Lib.hid (K1.out.below hb)
  have K2 := Lib.hid (K2.out.below hb)
  have KN := Lib.hid (Blk.new w1 29 #[.slice a1 L.length c1, .slice a2 R.length c2, .int .i64 mk])
  have MM := Lib.hid (hm.below ((Below.refl w1.heap.size w1).alloc (Nat.le_refl _) (.cells #[.slice a1 L.length c1, .slice a2 R.length c2, .int .i64 mk] 29)) (Nat.le_refl _))
  have UP : Hid (w1.heap.size ≤ (w1.alloc (.cells #[.slice a1 L.length c1, .slice a2 R.length c2, .int .i64 mk] 29)).heap.size) := Lib.hid (by simp)
  have BB := Lib.hid (BB.out.trans (hb.mono BB.out.size))
  have hlo1 := hb0.size
  clear hb hb0 hm
  have q0 := K0.out.cell
  go_wp2_with fail
  refine (JO.out _ BB.out).mono ?_
  rintro e w3 ⟨rfl, hb⟩
  clear q0
  have K0 := Lib.hid (K0.out.below hb)
  have K1 := Lib.hid (K1.out.below hb)
  have K2 := Lib.hid (K2.out.below hb)
  have KN := Lib.hid (KN.out.below hb)
  have MM := Lib.hid (MM.out.below hb (by have := hb.size; have := UP.out; omega))
  have UP := Lib.hid (Nat.le_trans UP.out hb.size)
  have BB := Lib.hid (BB.out.trans (hb.mono BB.out.size))
  clear hb
  have q0 := K0.out.cell
  have qn := KN.out.cell
  have f2 := K2.out.frozen
  have d2 := K2.out.cell
  have HP : Hid (AddPost L R mk [] 3 w (.returned (.tuple #[.agg #[.slice a1 L.length c1, .slice a2 R.length c2, .int .i64 mk], .slice none 0 0, .int .i64 3])) (((w3.setCell ⟨w.heap.size + 1 + 1, 0, none⟩ (.slice a1 L.length c1)).setCell ⟨w.heap.size + 1 + 1, 1, none⟩ (.slice a2 R.length c2)).setCell ⟨w.heap.size + 1 + 1, 2, none⟩ (.int .i64 mk))) := Lib.hid (by
    refine ⟨a1, c1, a2, c2, none, 0, rfl, (((((MM.out.nil3.setCell ?_ _).setCell ?_ _).setCell ?_ _).less ?_ ?_)), ((BB.out.setCell ?_ _).setCell ?_ _).setCell ?_ _⟩ <;> first | omega | (simp; omega) | (simp; exact UP.out))
  go_wp2
  exact bodyPost_ret (v := .tuple #[.agg #[.slice a1 L.length c1, .slice a2 R.length c2, .int .i64 mk], .slice none 0 0, .int .i64 3]) (by simp [results, Try.results54, go_sem, d2]) rfl HP.out
set_option maxHeartbeats 4000000 in
set_option maxRecDepth 100000 in
theorem iAdd_bad2 (a b : Option Addr) (c d : Nat) (L R : List Fm) (mk by_ : Int) (lf : Bool) (k y t v : Int) (hi : Nat) (w : World) (h1 : Fms w hi a c L) (h2 : Fms w hi b d R) (hB : hi ≤ w.heap.size) (hl1 : L.length ≤ 1048576) (hl2 : R.length ≤ 1048576) (hj : joinOkJ L R mk = true) (he : evJ ⟨k, y, t, v⟩ = false) :
    Calls Try.prog 54 #[.agg #[.slice a L.length c, .slice b R.length d, .int .i64 mk], .int .i64 by_, .bool lf, (.agg #[.int .i64 k, .int .i64 y, .int .i64 t, .int .i64 v])] w (AddPost L R mk [] 3 w) := by
  have b1 := (((Below.refl w.heap.size w).alloc (Nat.le_refl _) (.cells #[.slice a L.length c, .slice b R.length d, .int .i64 mk] 29)).alloc (by simp) (.cells #[.int .i64 k, .int .i64 y, .int .i64 t, .int .i64 v] 38)).alloc (by simp; omega) (.cells #[.slice none 0 0, .slice none 0 0, .int .i64 0] 29)
  have k0 := ((Blk.new w 29 #[.slice a L.length c, .slice b R.length d, .int .i64 mk]).alloc (.cells #[.int .i64 k, .int .i64 y, .int .i64 t, .int .i64 v] 38)).alloc (.cells #[.slice none 0 0, .slice none 0 0, .int .i64 0] 29)
  have k1 := (Blk.new (w.alloc (.cells #[.slice a L.length c, .slice b R.length d, .int .i64 mk] 29)) 38 #[.int .i64 k, .int .i64 y, .int .i64 t, .int .i64 v]).alloc (.cells #[.slice none 0 0, .slice none 0 0, .int .i64 0] 29)
  have k2 := Blk.new ((w.alloc (.cells #[.slice a L.length c, .slice b R.length d, .int .i64 mk] 29)).alloc (.cells #[.int .i64 k, .int .i64 y, .int .i64 t, .int .i64 v] 38)) 29 #[.slice none 0 0, .slice none 0 0, .int .i64 0]
  simp only [World.size_alloc] at k1 k2
  have H1 := Lib.hid h1
  have H2 := Lib.hid h2
  have CP : Hid (∀ W, Below w.heap.size w W → Calls Try.prog 83 #[.agg #[.slice a L.length c, .slice b R.length d, .int .i64 mk]] W (FreshJn L R mk W)) := Lib.hid (fun W hW => copied_x a b c d mk L R hi W (H1.out.below (hW.mono hB)) (H2.out.below (hW.mono hB)) (Nat.le_trans hB hW.size) hl1 hl2)
  have JO : Hid (∀ W, Below w.heap.size w W → Calls Try.prog 46 #[.agg #[.slice a L.length c, .slice b R.length d, .int .i64 mk]] W fun e w' => e = .returned (.bool (joinOkJ L R mk)) ∧ Below W.heap.size W w') := Lib.hid (fun W hW => iJoinOk_any a b c d L R mk hi W (H1.out.below (hW.mono hB)) (H2.out.below (hW.mono hB)) (Nat.le_trans hB hW.size))
  have EV := Lib.hid (fun W => iEv_x k y t v W)
  have HT := Lib.hid (fun W => jTime_any by_ W)
  have HL := Lib.hid (fun W => iLateJ_x mk t W)
  clear h1 h2
  rw [hj] at JO
  rw [he] at EV
  clear hj he HT HL
  go_enter Try.func54, Try.ntmps54
  go_wp2_with fail
  generalize hW : World.alloc _ _ = W0 at b1 k0 k1 k2 ⊢
  have hlo : w.heap.size + 3 ≤ W0.heap.size := by rw [← hW]; simp
  clear hW
  have K0 := Lib.hid k0
  have K1 := Lib.hid k1
  have K2 := Lib.hid k2
  have BB := Lib.hid b1
  clear b1 k0 k1 k2
  refine (CP.out _ BB.out).mono ?_
  rintro e w1 ⟨a1, c1, a2, c2, rfl, hm, hb⟩
  have hb0 := hb
  have hb := hb.trans ((Below.refl w1.heap.size w1).alloc (Nat.le_refl _) (.cells #[.slice a1 L.length c1, .slice a2 R.length c2, .int .i64 mk] 29) |>.mono hb.size)
  have K0 := Lib.hid (K0.out.below hb)
  have K1 := Lib.hid (K1.out.below hb)
  have K2 := Lib.hid (K2.out.below hb)
  have KN := Lib.hid (Blk.new w1 29 #[.slice a1 L.length c1, .slice a2 R.length c2, .int .i64 mk])
  have MM := Lib.hid (hm.below ((Below.refl w1.heap.size w1).alloc (Nat.le_refl _) (.cells #[.slice a1 L.length c1, .slice a2 R.length c2, .int .i64 mk] 29)) (Nat.le_refl _))
  have UP : Hid (w1.heap.size ≤ (w1.alloc (.cells #[.slice a1 L.length c1, .slice a2 R.length c2, .int .i64 mk] 29)).heap.size) := Lib.hid (by simp)
  have BB := Lib.hid (BB.out.trans (hb.mono BB.out.size))
  have hlo1 := hb0.size
  clear hb hb0 hm
  have q0 := K0.out.cell
  go_wp2_with fail
  refine (JO.out _ BB.out).mono ?_
  rintro e w3 ⟨rfl, hb⟩
  clear q0
  have K0 := Lib.hid (K0.out.below hb)
  have K1 := Lib.hid (K1.out.below hb)
  have K2 := Lib.hid (K2.out.below hb)
  have KN := Lib.hid (KN.out.below hb)
  have MM := Lib.hid (MM.out.below hb (by have := hb.size; have := UP.out; omega))
  have UP := Lib.hid (Nat.le_trans UP.out hb.size)
  have BB := Lib.hid (BB.out.trans (hb.mono BB.out.size))
  clear hb
  have q0 := K0.out.cell
  have q1 := K1.out.cell
  go_wp2_with fail
  refine (EV.out _).mono ?_
  rintro e w4 ⟨rfl, hb⟩
  clear q0 q1
  have K0 := Lib.hid (K0.out.below hb)
  have K1 := Lib.hid (K1.out.below hb)
  have K2 := Lib.hid (K2.out.below hb)
  have KN := Lib.hid (KN.out.below hb)
  have MM := Lib.hid (MM.out.below hb (by have := hb.size; have := UP.out; omega))
  have UP := Lib.hid (Nat.le_trans UP.out hb.size)
  have BB := Lib.hid (BB.out.trans (hb.mono BB.out.size))
  clear hb
  have q0 := K0.out.cell
  have q1 := K1.out.cell
  have qn := KN.out.cell
  have f2 := K2.out.frozen
  have d2 := K2.out.cell
  have HP : Hid (AddPost L R mk [] 3 w (.returned (.tuple #[.agg #[.slice a1 L.length c1, .slice a2 R.length c2, .int .i64 mk], .slice none 0 0, .int .i64 3])) (((w4.setCell ⟨w.heap.size + 1 + 1, 0, none⟩ (.slice a1 L.length c1)).setCell ⟨w.heap.size + 1 + 1, 1, none⟩ (.slice a2 R.length c2)).setCell ⟨w.heap.size + 1 + 1, 2, none⟩ (.int .i64 mk))) := Lib.hid (by
    refine ⟨a1, c1, a2, c2, none, 0, rfl, (((((MM.out.nil3.setCell ?_ _).setCell ?_ _).setCell ?_ _).less ?_ ?_)), ((BB.out.setCell ?_ _).setCell ?_ _).setCell ?_ _⟩ <;> first | omega | (simp; omega) | (simp; exact UP.out))
  go_wp2
  exact bodyPost_ret (v := .tuple #[.agg #[.slice a1 L.length c1, .slice a2 R.length c2, .int .i64 mk], .slice none 0 0, .int .i64 3]) (by simp [results, Try.results54, go_sem, d2]) rfl HP.out
set_option maxHeartbeats 4000000 in
set_option maxRecDepth 100000 in
theorem iAdd_bad3 (a b : Option Addr) (c d : Nat) (L R : List Fm) (mk by_ : Int) (lf : Bool) (k y t v : Int) (hi : Nat) (w : World) (h1 : Fms w hi a c L) (h2 : Fms w hi b d R) (hB : hi ≤ w.heap.size) (hl1 : L.length ≤ 1048576) (hl2 : R.length ≤ 1048576) (hj : joinOkJ L R mk = true) (he : evJ ⟨k, y, t, v⟩ = true) (ht : inB by_ 0 1000000 = false) :
    Calls Try.prog 54 #[.agg #[.slice a L.length c, .slice b R.length d, .int .i64 mk], .int .i64 by_, .bool lf, (.agg #[.int .i64 k, .int .i64 y, .int .i64 t, .int .i64 v])] w (AddPost L R mk [] 3 w) := by
  have b1 := (((Below.refl w.heap.size w).alloc (Nat.le_refl _) (.cells #[.slice a L.length c, .slice b R.length d, .int .i64 mk] 29)).alloc (by simp) (.cells #[.int .i64 k, .int .i64 y, .int .i64 t, .int .i64 v] 38)).alloc (by simp; omega) (.cells #[.slice none 0 0, .slice none 0 0, .int .i64 0] 29)
  have k0 := ((Blk.new w 29 #[.slice a L.length c, .slice b R.length d, .int .i64 mk]).alloc (.cells #[.int .i64 k, .int .i64 y, .int .i64 t, .int .i64 v] 38)).alloc (.cells #[.slice none 0 0, .slice none 0 0, .int .i64 0] 29)
  have k1 := (Blk.new (w.alloc (.cells #[.slice a L.length c, .slice b R.length d, .int .i64 mk] 29)) 38 #[.int .i64 k, .int .i64 y, .int .i64 t, .int .i64 v]).alloc (.cells #[.slice none 0 0, .slice none 0 0, .int .i64 0] 29)
  have k2 := Blk.new ((w.alloc (.cells #[.slice a L.length c, .slice b R.length d, .int .i64 mk] 29)).alloc (.cells #[.int .i64 k, .int .i64 y, .int .i64 t, .int .i64 v] 38)) 29 #[.slice none 0 0, .slice none 0 0, .int .i64 0]
  simp only [World.size_alloc] at k1 k2
  have H1 := Lib.hid h1
  have H2 := Lib.hid h2
  have CP : Hid (∀ W, Below w.heap.size w W → Calls Try.prog 83 #[.agg #[.slice a L.length c, .slice b R.length d, .int .i64 mk]] W (FreshJn L R mk W)) := Lib.hid (fun W hW => copied_x a b c d mk L R hi W (H1.out.below (hW.mono hB)) (H2.out.below (hW.mono hB)) (Nat.le_trans hB hW.size) hl1 hl2)
  have JO : Hid (∀ W, Below w.heap.size w W → Calls Try.prog 46 #[.agg #[.slice a L.length c, .slice b R.length d, .int .i64 mk]] W fun e w' => e = .returned (.bool (joinOkJ L R mk)) ∧ Below W.heap.size W w') := Lib.hid (fun W hW => iJoinOk_any a b c d L R mk hi W (H1.out.below (hW.mono hB)) (H2.out.below (hW.mono hB)) (Nat.le_trans hB hW.size))
  have EV := Lib.hid (fun W => iEv_x k y t v W)
  have HT := Lib.hid (fun W => jTime_any by_ W)
  have HL := Lib.hid (fun W => iLateJ_x mk t W)
  clear h1 h2
  rw [hj] at JO
  rw [he] at EV
  rw [ht] at HT
  clear hj he ht HL
  go_enter Try.func54, Try.ntmps54
  go_wp2_with fail
  generalize hW : World.alloc _ _ = W0 at b1 k0 k1 k2 ⊢
  have hlo : w.heap.size + 3 ≤ W0.heap.size := by rw [← hW]; simp
  clear hW
  have K0 := Lib.hid k0
  have K1 := Lib.hid k1
  have K2 := Lib.hid k2
  have BB := Lib.hid b1
  clear b1 k0 k1 k2
  refine (CP.out _ BB.out).mono ?_
  rintro e w1 ⟨a1, c1, a2, c2, rfl, hm, hb⟩
  have hb0 := hb
  have hb := hb.trans ((Below.refl w1.heap.size w1).alloc (Nat.le_refl _) (.cells #[.slice a1 L.length c1, .slice a2 R.length c2, .int .i64 mk] 29) |>.mono hb.size)
  have K0 := Lib.hid (K0.out.below hb)
  have K1 := Lib.hid (K1.out.below hb)
  have K2 := Lib.hid (K2.out.below hb)
  have KN := Lib.hid (Blk.new w1 29 #[.slice a1 L.length c1, .slice a2 R.length c2, .int .i64 mk])
  have MM := Lib.hid (hm.below ((Below.refl w1.heap.size w1).alloc (Nat.le_refl _) (.cells #[.slice a1 L.length c1, .slice a2 R.length c2, .int .i64 mk] 29)) (Nat.le_refl _))
  have UP : Hid (w1.heap.size ≤ (w1.alloc (.cells #[.slice a1 L.length c1, .slice a2 R.length c2, .int .i64 mk] 29)).heap.size) := Lib.hid (by simp)
  have BB := Lib.hid (BB.out.trans (hb.mono BB.out.size))
  have hlo1 := hb0.size
  clear hb hb0 hm
  have q0 := K0.out.cell
  go_wp2_with fail
  refine (JO.out _ BB.out).mono ?_
  rintro e w3 ⟨rfl, hb⟩
  clear q0
  have K0 := Lib.hid (K0.out.below hb)
  have K1 := Lib.hid (K1.out.below hb)
  have K2 := Lib.hid (K2.out.below hb)
  have KN := Lib.hid (KN.out.below hb)
  have MM := Lib.hid (MM.out.below hb (by have := hb.size; have := UP.out; omega))
  have UP := Lib.hid (Nat.le_trans UP.out hb.size)
  have BB := Lib.hid (BB.out.trans (hb.mono BB.out.size))
  clear hb
  have q0 := K0.out.cell
  have q1 := K1.out.cell
  go_wp2_with fail
  refine (EV.out _).mono ?_
  rintro e w4 ⟨rfl, hb⟩
  clear q0 q1
  have K0 := Lib.hid (K0.out.below hb)
  have K1 := Lib.hid (K1.out.below hb)
  have K2 := Lib.hid (K2.out.below hb)
  have KN := Lib.hid (KN.out.below hb)
  have MM := Lib.hid (MM.out.below hb (by have := hb.size; have := UP.out; omega))
  have UP := Lib.hid (Nat.le_trans UP.out hb.size)
  have BB := Lib.hid (BB.out.trans (hb.mono BB.out.size))
  clear hb
  have q0 := K0.out.cell
  have q1 := K1.out.cell
  have qn := KN.out.cell
  have f2 := K2.out.frozen
  have d2 := K2.out.cell
  have HP : Hid (AddPost L R mk [] 3 w (.returned (.tuple #[.agg #[.slice a1 L.length c1, .slice a2 R.length c2, .int .i64 mk], .slice none 0 0, .int .i64 3])) (((w4.setCell ⟨w.heap.size + 1 + 1, 0, none⟩ (.slice a1 L.length c1)).setCell ⟨w.heap.size + 1 + 1, 1, none⟩ (.slice a2 R.length c2)).setCell ⟨w.heap.size + 1 + 1, 2, none⟩ (.int .i64 mk))) := Lib.hid (by
    refine ⟨a1, c1, a2, c2, none, 0, rfl, (((((MM.out.nil3.setCell ?_ _).setCell ?_ _).setCell ?_ _).less ?_ ?_)), ((BB.out.setCell ?_ _).setCell ?_ _).setCell ?_ _⟩ <;> first | omega | (simp; omega) | (simp; exact UP.out))
  go_wp2_with (go_at_call 67; refine (HT.out _).mono ?_; rintro e w' ⟨rfl, rfl⟩)
  exact bodyPost_ret (v := .tuple #[.agg #[.slice a1 L.length c1, .slice a2 R.length c2, .int .i64 mk], .slice none 0 0, .int .i64 3]) (by simp [results, Try.results54, go_sem, d2]) rfl HP.out
set_option maxHeartbeats 4000000 in
set_option maxRecDepth 100000 in
theorem iAdd_late (a b : Option Addr) (c d : Nat) (L R : List Fm) (mk by_ : Int) (lf : Bool) (k y t v : Int) (hi : Nat) (w : World) (h1 : Fms w hi a c L) (h2 : Fms w hi b d R) (hB : hi ≤ w.heap.size) (hl1 : L.length ≤ 1048576) (hl2 : R.length ≤ 1048576) (hj : joinOkJ L R mk = true) (he : evJ ⟨k, y, t, v⟩ = true) (ht : inB by_ 0 1000000 = true) (hx : t ≤ mk) :
    Calls Try.prog 54 #[.agg #[.slice a L.length c, .slice b R.length d, .int .i64 mk], .int .i64 by_, .bool lf, (.agg #[.int .i64 k, .int .i64 y, .int .i64 t, .int .i64 v])] w (AddPost L R mk [] 1 w) := by
  have b1 := (((Below.refl w.heap.size w).alloc (Nat.le_refl _) (.cells #[.slice a L.length c, .slice b R.length d, .int .i64 mk] 29)).alloc (by simp) (.cells #[.int .i64 k, .int .i64 y, .int .i64 t, .int .i64 v] 38)).alloc (by simp; omega) (.cells #[.slice none 0 0, .slice none 0 0, .int .i64 0] 29)
  have k0 := ((Blk.new w 29 #[.slice a L.length c, .slice b R.length d, .int .i64 mk]).alloc (.cells #[.int .i64 k, .int .i64 y, .int .i64 t, .int .i64 v] 38)).alloc (.cells #[.slice none 0 0, .slice none 0 0, .int .i64 0] 29)
  have k1 := (Blk.new (w.alloc (.cells #[.slice a L.length c, .slice b R.length d, .int .i64 mk] 29)) 38 #[.int .i64 k, .int .i64 y, .int .i64 t, .int .i64 v]).alloc (.cells #[.slice none 0 0, .slice none 0 0, .int .i64 0] 29)
  have k2 := Blk.new ((w.alloc (.cells #[.slice a L.length c, .slice b R.length d, .int .i64 mk] 29)).alloc (.cells #[.int .i64 k, .int .i64 y, .int .i64 t, .int .i64 v] 38)) 29 #[.slice none 0 0, .slice none 0 0, .int .i64 0]
  simp only [World.size_alloc] at k1 k2
  have H1 := Lib.hid h1
  have H2 := Lib.hid h2
  have CP : Hid (∀ W, Below w.heap.size w W → Calls Try.prog 83 #[.agg #[.slice a L.length c, .slice b R.length d, .int .i64 mk]] W (FreshJn L R mk W)) := Lib.hid (fun W hW => copied_x a b c d mk L R hi W (H1.out.below (hW.mono hB)) (H2.out.below (hW.mono hB)) (Nat.le_trans hB hW.size) hl1 hl2)
  have JO : Hid (∀ W, Below w.heap.size w W → Calls Try.prog 46 #[.agg #[.slice a L.length c, .slice b R.length d, .int .i64 mk]] W fun e w' => e = .returned (.bool (joinOkJ L R mk)) ∧ Below W.heap.size W w') := Lib.hid (fun W hW => iJoinOk_any a b c d L R mk hi W (H1.out.below (hW.mono hB)) (H2.out.below (hW.mono hB)) (Nat.le_trans hB hW.size))
  have EV := Lib.hid (fun W => iEv_x k y t v W)
  have HT := Lib.hid (fun W => jTime_any by_ W)
  have HL := Lib.hid (fun W => iLateJ_x mk t W)
  clear h1 h2
  rw [hj] at JO
  rw [he] at EV
  rw [ht] at HT
  rw [show decide (t ≤ mk) = true by simp [hx]] at HL
  clear hj he ht hx
  go_enter Try.func54, Try.ntmps54
  go_wp2_with fail
  generalize hW : World.alloc _ _ = W0 at b1 k0 k1 k2 ⊢
  have hlo : w.heap.size + 3 ≤ W0.heap.size := by rw [← hW]; simp
  clear hW
  have K0 := Lib.hid k0
  have K1 := Lib.hid k1
  have K2 := Lib.hid k2
  have BB := Lib.hid b1
  clear b1 k0 k1 k2
  refine (CP.out _ BB.out).mono ?_
  rintro e w1 ⟨a1, c1, a2, c2, rfl, hm, hb⟩
  have hb0 := hb
  have hb := hb.trans ((Below.refl w1.heap.size w1).alloc (Nat.le_refl _) (.cells #[.slice a1 L.length c1, .slice a2 R.length c2, .int .i64 mk] 29) |>.mono hb.size)
  have K0 := Lib.hid (K0.out.below hb)
  have K1 := Lib.hid (K1.out.below hb)
  have K2 := Lib.hid (K2.out.below hb)
  have KN := Lib.hid (Blk.new w1 29 #[.slice a1 L.length c1, .slice a2 R.length c2, .int .i64 mk])
  have MM := Lib.hid (hm.below ((Below.refl w1.heap.size w1).alloc (Nat.le_refl _) (.cells #[.slice a1 L.length c1, .slice a2 R.length c2, .int .i64 mk] 29)) (Nat.le_refl _))
  have UP : Hid (w1.heap.size ≤ (w1.alloc (.cells #[.slice a1 L.length c1, .slice a2 R.length c2, .int .i64 mk] 29)).heap.size) := Lib.hid (by simp)
  have BB := Lib.hid (BB.out.trans (hb.mono BB.out.size))
  have hlo1 := hb0.size
  clear hb hb0 hm
  have q0 := K0.out.cell
  go_wp2_with fail
  refine (JO.out _ BB.out).mono ?_
  rintro e w3 ⟨rfl, hb⟩
  clear q0
  have K0 := Lib.hid (K0.out.below hb)
  have K1 := Lib.hid (K1.out.below hb)
  have K2 := Lib.hid (K2.out.below hb)
  have KN := Lib.hid (KN.out.below hb)
  have MM := Lib.hid (MM.out.below hb (by have := hb.size; have := UP.out; omega))
  have UP := Lib.hid (Nat.le_trans UP.out hb.size)
  have BB := Lib.hid (BB.out.trans (hb.mono BB.out.size))
  clear hb
  have q0 := K0.out.cell
  have q1 := K1.out.cell
  go_wp2_with fail
  refine (EV.out _).mono ?_
  rintro e w4 ⟨rfl, hb⟩
  clear q0 q1
  have K0 := Lib.hid (K0.out.below hb)
  have K1 := Lib.hid (K1.out.below hb)
  have K2 := Lib.hid (K2.out.below hb)
  have KN := Lib.hid (KN.out.below hb)
  have MM := Lib.hid (MM.out.below hb (by have := hb.size; have := UP.out; omega))
  have UP := Lib.hid (Nat.le_trans UP.out hb.size)
  have BB := Lib.hid (BB.out.trans (hb.mono BB.out.size))
  clear hb
  have q0 := K0.out.cell
  have q1 := K1.out.cell
  have qn := KN.out.cell
  have f2 := K2.out.frozen
  have d2 := K2.out.cell
  have HP : Hid (AddPost L R mk [] 1 w (.returned (.tuple #[.agg #[.slice a1 L.length c1, .slice a2 R.length c2, .int .i64 mk], .slice none 0 0, .int .i64 1])) (((w4.setCell ⟨w.heap.size + 1 + 1, 0, none⟩ (.slice a1 L.length c1)).setCell ⟨w.heap.size + 1 + 1, 1, none⟩ (.slice a2 R.length c2)).setCell ⟨w.heap.size + 1 + 1, 2, none⟩ (.int .i64 mk))) := Lib.hid (by
    refine ⟨a1, c1, a2, c2, none, 0, rfl, (((((MM.out.nil3.setCell ?_ _).setCell ?_ _).setCell ?_ _).less ?_ ?_)), ((BB.out.setCell ?_ _).setCell ?_ _).setCell ?_ _⟩ <;> first | omega | (simp; omega) | (simp; exact UP.out))
  go_wp2_with (first | (go_at_call 67; refine (HT.out _).mono ?_; rintro e w' ⟨rfl, rfl⟩) | (go_at_call 85; refine (HL.out _).mono ?_; rintro e w' ⟨rfl, rfl⟩))
  exact bodyPost_ret (v := .tuple #[.agg #[.slice a1 L.length c1, .slice a2 R.length c2, .int .i64 mk], .slice none 0 0, .int .i64 1]) (by simp [results, Try.results54, go_sem, d2]) rfl HP.out
theorem Many.setBox {lo up g : Nat} {rs : List RowD} {w : World} {T : TypeId} {cs : Array Value} (h : Many lo up rs w) (hk : Blk w g T cs) (hne : ∀ r ∈ rs, T ≠ r.T) (i : Nat) (u : Value) : Many lo up rs (w.setCell ⟨g, i, none⟩ u) :=
  ⟨fun r hr => ⟨(h.row r hr).own.kept (grown_setCell w g i u) (by
    have := own_ne (h.row r hr).own hk (hne r hr)
    cases hv : r.v.ownBlock with
    | none => exact .inl rfl
    | some k => exact .inr (fun e => this (by rw [hv, e]))), (h.row r hr).up⟩, h.apart⟩
set_option maxHeartbeats 4000000 in
set_option maxRecDepth 100000 in
theorem iAdd_leftF (a b : Option Addr) (c d : Nat) (L R : List Fm) (mk by_ : Int) (k y t v : Int) (hi : Nat) (w : World) (h1 : Fms w hi a c L) (h2 : Fms w hi b d R) (hB : hi ≤ w.heap.size) (hl1 : L.length ≤ 1048576) (hl2 : R.length ≤ 1048576) (hj : joinOkJ L R mk = true) (he : evJ ⟨k, y, t, v⟩ = true) (ht : inB by_ 0 1000000 = true) (hx : ¬ t ≤ mk) (hf : L.length = 40) :
    Calls Try.prog 54 #[.agg #[.slice a L.length c, .slice b R.length d, .int .i64 mk], .int .i64 by_, .bool true, (.agg #[.int .i64 k, .int .i64 y, .int .i64 t, .int .i64 v])] w (AddPost L R mk [] 2 w) := by
  have b1 := (((Below.refl w.heap.size w).alloc (Nat.le_refl _) (.cells #[.slice a L.length c, .slice b R.length d, .int .i64 mk] 29)).alloc (by simp) (.cells #[.int .i64 k, .int .i64 y, .int .i64 t, .int .i64 v] 38)).alloc (by simp; omega) (.cells #[.slice none 0 0, .slice none 0 0, .int .i64 0] 29)
  have k0 := ((Blk.new w 29 #[.slice a L.length c, .slice b R.length d, .int .i64 mk]).alloc (.cells #[.int .i64 k, .int .i64 y, .int .i64 t, .int .i64 v] 38)).alloc (.cells #[.slice none 0 0, .slice none 0 0, .int .i64 0] 29)
  have k1 := (Blk.new (w.alloc (.cells #[.slice a L.length c, .slice b R.length d, .int .i64 mk] 29)) 38 #[.int .i64 k, .int .i64 y, .int .i64 t, .int .i64 v]).alloc (.cells #[.slice none 0 0, .slice none 0 0, .int .i64 0] 29)
  have k2 := Blk.new ((w.alloc (.cells #[.slice a L.length c, .slice b R.length d, .int .i64 mk] 29)).alloc (.cells #[.int .i64 k, .int .i64 y, .int .i64 t, .int .i64 v] 38)) 29 #[.slice none 0 0, .slice none 0 0, .int .i64 0]
  simp only [World.size_alloc] at k1 k2
  have H1 := Lib.hid h1
  have H2 := Lib.hid h2
  have CP : Hid (∀ W, Below w.heap.size w W → Calls Try.prog 83 #[.agg #[.slice a L.length c, .slice b R.length d, .int .i64 mk]] W (FreshJn L R mk W)) := Lib.hid (fun W hW => copied_x a b c d mk L R hi W (H1.out.below (hW.mono hB)) (H2.out.below (hW.mono hB)) (Nat.le_trans hB hW.size) hl1 hl2)
  have JO : Hid (∀ W, Below w.heap.size w W → Calls Try.prog 46 #[.agg #[.slice a L.length c, .slice b R.length d, .int .i64 mk]] W fun e w' => e = .returned (.bool (joinOkJ L R mk)) ∧ Below W.heap.size W w') := Lib.hid (fun W hW => iJoinOk_any a b c d L R mk hi W (H1.out.below (hW.mono hB)) (H2.out.below (hW.mono hB)) (Nat.le_trans hB hW.size))
  have EV := Lib.hid (fun W => iEv_x k y t v W)
  have HT := Lib.hid (fun W => jTime_any by_ W)
  have HL := Lib.hid (fun W => iLateJ_x mk t W)
  clear h1 h2
  have h40b : ((L.length : Int) == 40) = true := by simp; omega
  clear hf
  rw [hj] at JO
  rw [he] at EV
  rw [ht] at HT
  rw [show decide (t ≤ mk) = false by simp [hx]] at HL
  have HE := Lib.hid he
  have HBY := Lib.hid (inB_bd ht)
  have hjo : evsJ L = true ∧ evsJ R = true := by
    unfold joinOkJ at hj
    simp only [Bool.and_eq_true] at hj
    exact ⟨hj.1, hj.2.1⟩
  have HL1 := Lib.hid hjo.1
  have HR := Lib.hid hjo.2
  clear hj he ht hx hjo
  go_enter Try.func54, Try.ntmps54
  go_wp2_with fail
  generalize hW : World.alloc _ _ = W0 at b1 k0 k1 k2 ⊢
  have hlo : w.heap.size + 3 ≤ W0.heap.size := by rw [← hW]; simp
  clear hW
  have K0 := Lib.hid k0
  have K1 := Lib.hid k1
  have K2 := Lib.hid k2
  have BB := Lib.hid b1
  clear b1 k0 k1 k2
  refine (CP.out _ BB.out).mono ?_
  rintro e w1 ⟨a1, c1, a2, c2, rfl, hm, hb⟩
  have hb0 := hb
  have hb := hb.trans ((Below.refl w1.heap.size w1).alloc (Nat.le_refl _) (.cells #[.slice a1 L.length c1, .slice a2 R.length c2, .int .i64 mk] 29) |>.mono hb.size)
  have K0 := Lib.hid (K0.out.below hb)
  have K1 := Lib.hid (K1.out.below hb)
  have K2 := Lib.hid (K2.out.below hb)
  have KN := Lib.hid (Blk.new w1 29 #[.slice a1 L.length c1, .slice a2 R.length c2, .int .i64 mk])
  have MM := Lib.hid (hm.below ((Below.refl w1.heap.size w1).alloc (Nat.le_refl _) (.cells #[.slice a1 L.length c1, .slice a2 R.length c2, .int .i64 mk] 29)) (Nat.le_refl _))
  have UP : Hid (w1.heap.size ≤ (w1.alloc (.cells #[.slice a1 L.length c1, .slice a2 R.length c2, .int .i64 mk] 29)).heap.size) := Lib.hid (by simp)
  have BB := Lib.hid (BB.out.trans (hb.mono BB.out.size))
  have hlo1 := hb0.size
  clear hb hb0 hm
  have q0 := K0.out.cell
  go_wp2_with fail
  refine (JO.out _ BB.out).mono ?_
  rintro e w3 ⟨rfl, hb⟩
  clear q0
  have K0 := Lib.hid (K0.out.below hb)
  have K1 := Lib.hid (K1.out.below hb)
  have K2 := Lib.hid (K2.out.below hb)
  have KN := Lib.hid (KN.out.below hb)
  have MM := Lib.hid (MM.out.below hb (by have := hb.size; have := UP.out; omega))
  have UP := Lib.hid (Nat.le_trans UP.out hb.size)
  have BB := Lib.hid (BB.out.trans (hb.mono BB.out.size))
  clear hb
  have q0 := K0.out.cell
  have q1 := K1.out.cell
  go_wp2_with fail
  refine (EV.out _).mono ?_
  rintro e w4 ⟨rfl, hb⟩
  clear q0 q1
  have K0 := Lib.hid (K0.out.below hb)
  have K1 := Lib.hid (K1.out.below hb)
  have K2 := Lib.hid (K2.out.below hb)
  have KN := Lib.hid (KN.out.below hb)
  have MM := Lib.hid (MM.out.below hb (by have := hb.size; have := UP.out; omega))
  have UP := Lib.hid (Nat.le_trans UP.out hb.size)
  have BB := Lib.hid (BB.out.trans (hb.mono BB.out.size))
  clear hb
  have q0 := K0.out.cell
  have q1 := K1.out.cell
  have bA := (Below.refl w4.heap.size w4).alloc (Nat.le_refl _) (.cells #[.int .i64 k, .int .i64 y, .int .i64 t, .int .i64 v] 38)
  have fo := fms_one w4 38 ⟨k, y, t, v⟩
  have HB1 := Lib.hid (H1.out.below ((BB.out.trans (bA.mono BB.out.size)).mono hB))
  have HB2 := Lib.hid (H2.out.below ((BB.out.trans (bA.mono BB.out.size)).mono hB))
  have hbs := BB.out.size
  have PO := pairsOf_any (some ⟨w4.heap.size, 0, none⟩) b 1 R.length 1 d [⟨k, y, t, v⟩] R by_ (w4.heap.size + 1) _ fo (HB2.out.more (by omega)) rfl rfl (by simp) (evsJ_one HE.out) HR.out HBY.out
  rw [show ([⟨k, y, t, v⟩] : List Fm).length = 1 from rfl, allJ_one] at PO
  have PO := Lib.hid PO
  have BA := Lib.hid bA
  clear bA fo hbs
  have qa := (K0.out.alloc (.cells #[.int .i64 k, .int .i64 y, .int .i64 t, .int .i64 v] 38)).cell
  go_wp2_with (first | (go_at_call 67; refine (HT.out _).mono ?_; rintro e w' ⟨rfl, rfl⟩) | (go_at_call 85; refine (HL.out _).mono ?_; rintro e w' ⟨rfl, rfl⟩))
  refine PO.out.mono ?_
  rintro e w6 ⟨p1, z1, rfl, ho, hb⟩
  have hb := BA.out.trans (hb.mono BA.out.size)
  have PR := Lib.hid (owns_less ho (Nat.le_trans hlo1 (Nat.le_trans UP.out BA.out.size)))
  clear ho q0 q1 qa BA
  have K0 := Lib.hid (K0.out.below hb)
  have K1 := Lib.hid (K1.out.below hb)
  have K2 := Lib.hid (K2.out.below hb)
  have KN := Lib.hid (KN.out.below hb)
  have MM := Lib.hid (MM.out.below hb (by have := hb.size; have := UP.out; omega))
  have UP := Lib.hid (Nat.le_trans UP.out hb.size)
  have BB := Lib.hid (BB.out.trans (hb.mono BB.out.size))
  clear hb
  have q0 := K0.out.cell
  have q1 := K1.out.cell
  have qn := KN.out.cell
  have f2 := K2.out.frozen
  have d2 := K2.out.cell
  have HP : Hid (AddPost L R mk [] 2 w (.returned (.tuple #[.agg #[.slice a1 L.length c1, .slice a2 R.length c2, .int .i64 mk], .slice none 0 0, .int .i64 2])) (((w6.setCell ⟨w.heap.size + 1 + 1, 0, none⟩ (.slice a1 L.length c1)).setCell ⟨w.heap.size + 1 + 1, 1, none⟩ (.slice a2 R.length c2)).setCell ⟨w.heap.size + 1 + 1, 2, none⟩ (.int .i64 mk))) := Lib.hid (by
    refine ⟨a1, c1, a2, c2, none, 0, rfl, (((((MM.out.nil3.setCell ?_ _).setCell ?_ _).setCell ?_ _).less ?_ ?_)), ((BB.out.setCell ?_ _).setCell ?_ _).setCell ?_ _⟩ <;> first | omega | (simp; omega) | (simp; exact UP.out))
  go_wp2
  exact bodyPost_ret (v := .tuple #[.agg #[.slice a1 L.length c1, .slice a2 R.length c2, .int .i64 mk], .slice none 0 0, .int .i64 2]) (by simp [results, Try.results54, go_sem, d2]) rfl HP.out
set_option maxHeartbeats 4000000 in
set_option maxRecDepth 100000 in
theorem iAdd_leftD (a b : Option Addr) (c d : Nat) (L R : List Fm) (mk by_ : Int) (k y t v : Int) (hi : Nat) (w : World) (h1 : Fms w hi a c L) (h2 : Fms w hi b d R) (hB : hi ≤ w.heap.size) (hl1 : L.length ≤ 1048576) (hl2 : R.length ≤ 1048576) (hj : joinOkJ L R mk = true) (he : evJ ⟨k, y, t, v⟩ = true) (ht : inB by_ 0 1000000 = true) (hx : ¬ t ≤ mk) (hf : L.length ≠ 40) :
    Calls Try.prog 54 #[.agg #[.slice a L.length c, .slice b R.length d, .int .i64 mk], .int .i64 by_, .bool true, (.agg #[.int .i64 k, .int .i64 y, .int .i64 t, .int .i64 v])] w (AddPost (L ++ [⟨k, y, t, v⟩]) R mk (rowJ ⟨k, y, t, v⟩ R by_ R.length) 0 w) := by
  have b1 := (((Below.refl w.heap.size w).alloc (Nat.le_refl _) (.cells #[.slice a L.length c, .slice b R.length d, .int .i64 mk] 29)).alloc (by simp) (.cells #[.int .i64 k, .int .i64 y, .int .i64 t, .int .i64 v] 38)).alloc (by simp; omega) (.cells #[.slice none 0 0, .slice none 0 0, .int .i64 0] 29)
  have k0 := ((Blk.new w 29 #[.slice a L.length c, .slice b R.length d, .int .i64 mk]).alloc (.cells #[.int .i64 k, .int .i64 y, .int .i64 t, .int .i64 v] 38)).alloc (.cells #[.slice none 0 0, .slice none 0 0, .int .i64 0] 29)
  have k1 := (Blk.new (w.alloc (.cells #[.slice a L.length c, .slice b R.length d, .int .i64 mk] 29)) 38 #[.int .i64 k, .int .i64 y, .int .i64 t, .int .i64 v]).alloc (.cells #[.slice none 0 0, .slice none 0 0, .int .i64 0] 29)
  have k2 := Blk.new ((w.alloc (.cells #[.slice a L.length c, .slice b R.length d, .int .i64 mk] 29)).alloc (.cells #[.int .i64 k, .int .i64 y, .int .i64 t, .int .i64 v] 38)) 29 #[.slice none 0 0, .slice none 0 0, .int .i64 0]
  simp only [World.size_alloc] at k1 k2
  have H1 := Lib.hid h1
  have H2 := Lib.hid h2
  have CP : Hid (∀ W, Below w.heap.size w W → Calls Try.prog 83 #[.agg #[.slice a L.length c, .slice b R.length d, .int .i64 mk]] W (FreshJn L R mk W)) := Lib.hid (fun W hW => copied_x a b c d mk L R hi W (H1.out.below (hW.mono hB)) (H2.out.below (hW.mono hB)) (Nat.le_trans hB hW.size) hl1 hl2)
  have JO : Hid (∀ W, Below w.heap.size w W → Calls Try.prog 46 #[.agg #[.slice a L.length c, .slice b R.length d, .int .i64 mk]] W fun e w' => e = .returned (.bool (joinOkJ L R mk)) ∧ Below W.heap.size W w') := Lib.hid (fun W hW => iJoinOk_any a b c d L R mk hi W (H1.out.below (hW.mono hB)) (H2.out.below (hW.mono hB)) (Nat.le_trans hB hW.size))
  have EV := Lib.hid (fun W => iEv_x k y t v W)
  have HT := Lib.hid (fun W => jTime_any by_ W)
  have HL := Lib.hid (fun W => iLateJ_x mk t W)
  clear h1 h2
  have h40b : ((L.length : Int) == 40) = false := by simp; omega
  clear hf
  rw [hj] at JO
  rw [he] at EV
  rw [ht] at HT
  rw [show decide (t ≤ mk) = false by simp [hx]] at HL
  have HE := Lib.hid he
  have HBY := Lib.hid (inB_bd ht)
  have hjo : evsJ L = true ∧ evsJ R = true := by
    unfold joinOkJ at hj
    simp only [Bool.and_eq_true] at hj
    exact ⟨hj.1, hj.2.1⟩
  have HL1 := Lib.hid hjo.1
  have HR := Lib.hid hjo.2
  clear hj he ht hx hjo
  go_enter Try.func54, Try.ntmps54
  go_wp2_with fail
  generalize hW : World.alloc _ _ = W0 at b1 k0 k1 k2 ⊢
  have hlo : w.heap.size + 3 ≤ W0.heap.size := by rw [← hW]; simp
  clear hW
  have K0 := Lib.hid k0
  have K1 := Lib.hid k1
  have K2 := Lib.hid k2
  have BB := Lib.hid b1
  clear b1 k0 k1 k2
  refine (CP.out _ BB.out).mono ?_
  rintro e w1 ⟨a1, c1, a2, c2, rfl, hm, hb⟩
  have hb0 := hb
  have hb := hb.trans ((Below.refl w1.heap.size w1).alloc (Nat.le_refl _) (.cells #[.slice a1 L.length c1, .slice a2 R.length c2, .int .i64 mk] 29) |>.mono hb.size)
  have K0 := Lib.hid (K0.out.below hb)
  have K1 := Lib.hid (K1.out.below hb)
  have K2 := Lib.hid (K2.out.below hb)
  have KN := Lib.hid (Blk.new w1 29 #[.slice a1 L.length c1, .slice a2 R.length c2, .int .i64 mk])
  have MM := Lib.hid (hm.below ((Below.refl w1.heap.size w1).alloc (Nat.le_refl _) (.cells #[.slice a1 L.length c1, .slice a2 R.length c2, .int .i64 mk] 29)) (Nat.le_refl _))
  have UP : Hid (w1.heap.size ≤ (w1.alloc (.cells #[.slice a1 L.length c1, .slice a2 R.length c2, .int .i64 mk] 29)).heap.size) := Lib.hid (by simp)
  have BB := Lib.hid (BB.out.trans (hb.mono BB.out.size))
  have hlo1 := hb0.size
  clear hb hb0 hm
  have q0 := K0.out.cell
  go_wp2_with fail
  refine (JO.out _ BB.out).mono ?_
  rintro e w3 ⟨rfl, hb⟩
  clear q0
  have K0 := Lib.hid (K0.out.below hb)
  have K1 := Lib.hid (K1.out.below hb)
  have K2 := Lib.hid (K2.out.below hb)
  have KN := Lib.hid (KN.out.below hb)
  have MM := Lib.hid (MM.out.below hb (by have := hb.size; have := UP.out; omega))
  have UP := Lib.hid (Nat.le_trans UP.out hb.size)
  have BB := Lib.hid (BB.out.trans (hb.mono BB.out.size))
  clear hb
  have q0 := K0.out.cell
  have q1 := K1.out.cell
  go_wp2_with fail
  refine (EV.out _).mono ?_
  rintro e w4 ⟨rfl, hb⟩
  clear q0 q1
  have K0 := Lib.hid (K0.out.below hb)
  have K1 := Lib.hid (K1.out.below hb)
  have K2 := Lib.hid (K2.out.below hb)
  have KN := Lib.hid (KN.out.below hb)
  have MM := Lib.hid (MM.out.below hb (by have := hb.size; have := UP.out; omega))
  have UP := Lib.hid (Nat.le_trans UP.out hb.size)
  have BB := Lib.hid (BB.out.trans (hb.mono BB.out.size))
  clear hb
  have q0 := K0.out.cell
  have q1 := K1.out.cell
  have bA := (Below.refl w4.heap.size w4).alloc (Nat.le_refl _) (.cells #[.int .i64 k, .int .i64 y, .int .i64 t, .int .i64 v] 38)
  have fo := fms_one w4 38 ⟨k, y, t, v⟩
  have HB1 := Lib.hid (H1.out.below ((BB.out.trans (bA.mono BB.out.size)).mono hB))
  have HB2 := Lib.hid (H2.out.below ((BB.out.trans (bA.mono BB.out.size)).mono hB))
  have hbs := BB.out.size
  have PO := pairsOf_any (some ⟨w4.heap.size, 0, none⟩) b 1 R.length 1 d [⟨k, y, t, v⟩] R by_ (w4.heap.size + 1) _ fo (HB2.out.more (by omega)) rfl rfl (by simp) (evsJ_one HE.out) HR.out HBY.out
  rw [show ([⟨k, y, t, v⟩] : List Fm).length = 1 from rfl, allJ_one] at PO
  have PO := Lib.hid PO
  have BA := Lib.hid bA
  clear bA fo hbs
  have qa := (K0.out.alloc (.cells #[.int .i64 k, .int .i64 y, .int .i64 t, .int .i64 v] 38)).cell
  go_wp2_with (first | (go_at_call 67; refine (HT.out _).mono ?_; rintro e w' ⟨rfl, rfl⟩) | (go_at_call 85; refine (HL.out _).mono ?_; rintro e w' ⟨rfl, rfl⟩))
  refine PO.out.mono ?_
  rintro e w6 ⟨p1, z1, rfl, ho, hb⟩
  have hb := BA.out.trans (hb.mono BA.out.size)
  have PR := Lib.hid (owns_less ho (Nat.le_trans hlo1 (Nat.le_trans UP.out BA.out.size)))
  clear ho q0 q1 qa BA
  have K0 := Lib.hid (K0.out.below hb)
  have K1 := Lib.hid (K1.out.below hb)
  have K2 := Lib.hid (K2.out.below hb)
  have KN := Lib.hid (KN.out.below hb)
  have MM := Lib.hid (MM.out.below hb (by have := hb.size; have := UP.out; omega))
  have UP := Lib.hid (Nat.le_trans UP.out hb.size)
  have BB := Lib.hid (BB.out.trans (hb.mono BB.out.size))
  clear hb
  have q0 := K0.out.cell
  have q1 := K1.out.cell
  have qn := KN.out.cell
  go_wp2_with fail
  refine wp_region_any (by kernel_rfl) ?_
  change wpAny _ _ _ _ _ _ _ (World.drew _)
  have K1 := Lib.hid K1.out.drew
  have K2 := Lib.hid K2.out.drew
  have KN := Lib.hid KN.out.drew
  have PR := Lib.hid (show (w6.drew).ownsRow _ _ _ _ _ _ from PR.out)
  have MM := Lib.hid (MM.out.below ((Below.refl _ w6).drew) UP.out)
  have UP := Lib.hid (show w1.heap.size ≤ w6.drew.heap.size from UP.out)
  have BB := Lib.hid BB.out.drew
  clear q0 q1
  generalize w6.drew = w7 at K1 K2 KN PR MM UP BB ⊢
  have hup := UP.out
  obtain ⟨a3, c3, w9, hr3, hm9, hb9, hg9⟩ := Many.push (pre := []) ⟨k, y, t, v⟩ MM.out UP.out (by omega) (by omega) 24
  have R3 := Lib.hid hr3
  have hrow := MM.out.r0.own
  have g2 := own_ne hrow K2.out (show 29 ≠ 38 by decide)
  have gn := own_ne hrow KN.out (show 29 ≠ 38 by decide)
  have K29 := Lib.hid (K2.out.grown hg9 g2)
  have KN9 := Lib.hid (KN.out.grown hg9 gn)
  have PR9 := Lib.hid (PR.out.kept hg9 (Apart.of_type PR.out hrow (show 53 ≠ 38 by decide)).ne)
  have M9 := Lib.hid (Many.snoc (r := rG p1 z1 (rowJ ⟨k, y, t, v⟩ R by_ R.length)) hm9 PR9.out (fun s hs => by simp at hs; rcases hs with rfl | rfl <;> exact (show 38 ≠ 53 by decide)) (Nat.le_refl _))
  have qn := KN.out.cell
  have qn2 := (KN.out.alloc (.cells #[.int .i64 k, .int .i64 y, .int .i64 t, .int .i64 v] 38)).cell
  have q1 := K1.out.cell
  have fn9 := KN9.out.frozen
  have dn9 := KN9.out.cell
  have KN10 := Lib.hid (KN9.out.put_ 0 (.slice a3 (L.length + 1) c3))
  have K210 := Lib.hid (K29.out.grown (grown_setCell w9 w1.heap.size 0 (.slice a3 (L.length + 1) c3)) (by have := hlo1; simp; omega))
  have M10 := Lib.hid (M9.out.setBox KN9.out (fun r hr => by simp at hr; rcases hr with rfl | rfl | rfl; exact (show 29 ≠ 38 by decide); exact (show 29 ≠ 38 by decide); exact (show 29 ≠ 53 by decide)) 0 (.slice a3 (L.length + 1) c3))
  have B10 := Lib.hid ((BB.out.trans (hb9.mono (show w.heap.size ≤ W0.heap.size by omega))).setCell (p := ⟨w1.heap.size, 0, none⟩) (by have := hlo1; simp; omega) (.slice a3 (L.length + 1) c3))
  have q10 := KN10.out.cell
  have f10 := K210.out.frozen
  have d2 := K210.out.cell
  have HPX : Hid (AddPost (L ++ [⟨k, y, t, v⟩]) R mk (rowJ ⟨k, y, t, v⟩ R by_ R.length) 0 w (.returned (.tuple #[.agg #[.slice a3 (L.length + 1) c3, .slice a2 R.length c2, .int .i64 mk], .slice p1 (rowJ ⟨k, y, t, v⟩ R by_ R.length).length z1, .int .i64 0])) ((((w9.setCell ⟨w1.heap.size, 0, none⟩ (.slice a3 (L.length + 1) c3)).setCell ⟨w.heap.size + 1 + 1, 0, none⟩ (.slice a3 (L.length + 1) c3)).setCell ⟨w.heap.size + 1 + 1, 1, none⟩ (.slice a2 R.length c2)).setCell ⟨w.heap.size + 1 + 1, 2, none⟩ (.int .i64 mk))) := Lib.hid (by
    refine ⟨a3, c3, a2, c2, p1, z1, by simp, (((((M10.out.setCell ?_ _).setCell ?_ _).setCell ?_ _).less ?_ ?_)), ((B10.out.setCell ?_ _).setCell ?_ _).setCell ?_ _⟩ <;> first | omega | (simp; omega) | simp)
  clear hr3 hm9 hb9 hg9 hrow g2 gn PR9 M9 M10 B10 MM PR
  refine wpAny_take (oi := ⟨some 58, _, _, _, _, _⟩) (i := 0) (v := .pointer (some ⟨w1.heap.size, 0, none⟩)) rfl (by kernel_rfl) (by kernel_rfl) (by kernel_rfl) (fun _ _ _ h => h) (Or.inl ⟨by kernel_rfl, fun w => by go_simp⟩) ?_
  go_simp
  refine wpAny_take (oi := ⟨some 59, _, _, _, _, _⟩) (i := 1) (v := .pointer (some ⟨w1.heap.size, 0, none⟩)) rfl (by kernel_rfl) (by kernel_rfl) (by kernel_rfl) (fun _ _ _ h => h) (Or.inl ⟨by kernel_rfl, fun w => by go_simp⟩) ?_
  go_simp
  refine wpAny_take (oi := ⟨some 60, _, _, _, _, _⟩) (i := 2) (v := .pointer (some ⟨w1.heap.size, 0, none⟩)) rfl (by kernel_rfl) (by kernel_rfl) (by kernel_rfl) (fun _ _ _ h => h) (Or.inl ⟨by kernel_rfl, fun w => by go_simp⟩) ?_
  go_simp
  refine wpAny_ready (rs := [3, 4]) (by kernel_rfl) (by simp) ?_
  refine AllReady.cons rfl (fun K hK => ?_) (AllReady.cons rfl (fun K hK => ?_) AllReady.nil)
  · go_simp
    refine hK _ _ ?_
    clear hK K
    refine wpAny_ready (rs := [4]) (by kernel_rfl) (by simp) ?_
    refine AllReady.cons rfl (fun K hK => ?_) AllReady.nil
    go_simp
    refine hK _ _ ?_
    clear hK K
    refine wpAny_ready (rs := [5]) (by kernel_rfl) (by simp) ?_
    refine AllReady.cons rfl (fun K hK => ?_) AllReady.nil
    go_simp
    refine hK _ _ ?_
    clear hK K
    refine wpAny_ready (rs := [6]) (by kernel_rfl) (by simp) ?_
    refine AllReady.cons rfl (fun K hK => ?_) AllReady.nil
    refine step_append_runG rfl _ _ _ _ rfl _ _ rfl rfl _ _ R3.out ?_
    refine hK _ _ ?_
    clear hK K
    refine wpAny_ready (rs := [7]) (by kernel_rfl) (by simp) ?_
    refine AllReady.cons rfl (fun K hK => ?_) AllReady.nil
    go_simp
    refine hK _ _ ?_
    clear hK K
    refine wpAny_ready (rs := [8]) (by kernel_rfl) (by simp) ?_
    refine AllReady.cons rfl (fun K hK => ?_) AllReady.nil
    go_simp
    refine hK _ _ ?_
    clear hK K
    refine wpAny_done (by kernel_rfl) ?_ _
    clear qn qn2 fn9 dn9
    go_wp2
    exact bodyPost_ret (v := .tuple #[.agg #[.slice a3 (L.length + 1) c3, .slice a2 R.length c2, .int .i64 mk], .slice p1 (rowJ ⟨k, y, t, v⟩ R by_ R.length).length z1, .int .i64 0]) (by simp [results, Try.results54, go_sem, d2]) rfl HPX.out
  · go_simp
    refine hK _ _ ?_
    clear hK K
    refine wpAny_ready (rs := [3, 5]) (by kernel_rfl) (by simp) ?_
    refine AllReady.cons rfl (fun K hK => ?_) (AllReady.cons rfl (fun K hK => ?_) AllReady.nil)
    · go_simp
      refine hK _ _ ?_
      clear hK K
      refine wpAny_ready (rs := [5]) (by kernel_rfl) (by simp) ?_
      refine AllReady.cons rfl (fun K hK => ?_) AllReady.nil
      go_simp
      refine hK _ _ ?_
      clear hK K
      refine wpAny_ready (rs := [6]) (by kernel_rfl) (by simp) ?_
      refine AllReady.cons rfl (fun K hK => ?_) AllReady.nil
      refine step_append_runG rfl _ _ _ _ rfl _ _ rfl rfl _ _ R3.out ?_
      refine hK _ _ ?_
      clear hK K
      refine wpAny_ready (rs := [7]) (by kernel_rfl) (by simp) ?_
      refine AllReady.cons rfl (fun K hK => ?_) AllReady.nil
      go_simp
      refine hK _ _ ?_
      clear hK K
      refine wpAny_ready (rs := [8]) (by kernel_rfl) (by simp) ?_
      refine AllReady.cons rfl (fun K hK => ?_) AllReady.nil
      go_simp
      refine hK _ _ ?_
      clear hK K
      refine wpAny_done (by kernel_rfl) ?_ _
      clear qn qn2 fn9 dn9
      go_wp2
      exact bodyPost_ret (v := .tuple #[.agg #[.slice a3 (L.length + 1) c3, .slice a2 R.length c2, .int .i64 mk], .slice p1 (rowJ ⟨k, y, t, v⟩ R by_ R.length).length z1, .int .i64 0]) (by simp [results, Try.results54, go_sem, d2]) rfl HPX.out
    · go_simp
      refine hK _ _ ?_
      clear hK K
      refine wpAny_ready (rs := [3]) (by kernel_rfl) (by simp) ?_
      refine AllReady.cons rfl (fun K hK => ?_) AllReady.nil
      go_simp
      refine hK _ _ ?_
      clear hK K
      refine wpAny_ready (rs := [6]) (by kernel_rfl) (by simp) ?_
      refine AllReady.cons rfl (fun K hK => ?_) AllReady.nil
      refine step_append_runG rfl _ _ _ _ rfl _ _ rfl rfl _ _ R3.out ?_
      refine hK _ _ ?_
      clear hK K
      refine wpAny_ready (rs := [7]) (by kernel_rfl) (by simp) ?_
      refine AllReady.cons rfl (fun K hK => ?_) AllReady.nil
      go_simp
      refine hK _ _ ?_
      clear hK K
      refine wpAny_ready (rs := [8]) (by kernel_rfl) (by simp) ?_
      refine AllReady.cons rfl (fun K hK => ?_) AllReady.nil
      go_simp
      refine hK _ _ ?_
      clear hK K
      refine wpAny_done (by kernel_rfl) ?_ _
      clear qn qn2 fn9 dn9
      go_wp2
      exact bodyPost_ret (v := .tuple #[.agg #[.slice a3 (L.length + 1) c3, .slice a2 R.length c2, .int .i64 mk], .slice p1 (rowJ ⟨k, y, t, v⟩ R by_ R.length).length z1, .int .i64 0]) (by simp [results, Try.results54, go_sem, d2]) rfl HPX.out
set_option maxHeartbeats 4000000 in
set_option maxRecDepth 100000 in
theorem iAdd_rightF (a b : Option Addr) (c d : Nat) (L R : List Fm) (mk by_ : Int) (k y t v : Int) (hi : Nat) (w : World) (h1 : Fms w hi a c L) (h2 : Fms w hi b d R) (hB : hi ≤ w.heap.size) (hl1 : L.length ≤ 1048576) (hl2 : R.length ≤ 1048576) (hj : joinOkJ L R mk = true) (he : evJ ⟨k, y, t, v⟩ = true) (ht : inB by_ 0 1000000 = true) (hx : ¬ t ≤ mk) (hf : R.length = 40) :
    Calls Try.prog 54 #[.agg #[.slice a L.length c, .slice b R.length d, .int .i64 mk], .int .i64 by_, .bool false, (.agg #[.int .i64 k, .int .i64 y, .int .i64 t, .int .i64 v])] w (AddPost L R mk [] 2 w) := by
  have b1 := (((Below.refl w.heap.size w).alloc (Nat.le_refl _) (.cells #[.slice a L.length c, .slice b R.length d, .int .i64 mk] 29)).alloc (by simp) (.cells #[.int .i64 k, .int .i64 y, .int .i64 t, .int .i64 v] 38)).alloc (by simp; omega) (.cells #[.slice none 0 0, .slice none 0 0, .int .i64 0] 29)
  have k0 := ((Blk.new w 29 #[.slice a L.length c, .slice b R.length d, .int .i64 mk]).alloc (.cells #[.int .i64 k, .int .i64 y, .int .i64 t, .int .i64 v] 38)).alloc (.cells #[.slice none 0 0, .slice none 0 0, .int .i64 0] 29)
  have k1 := (Blk.new (w.alloc (.cells #[.slice a L.length c, .slice b R.length d, .int .i64 mk] 29)) 38 #[.int .i64 k, .int .i64 y, .int .i64 t, .int .i64 v]).alloc (.cells #[.slice none 0 0, .slice none 0 0, .int .i64 0] 29)
  have k2 := Blk.new ((w.alloc (.cells #[.slice a L.length c, .slice b R.length d, .int .i64 mk] 29)).alloc (.cells #[.int .i64 k, .int .i64 y, .int .i64 t, .int .i64 v] 38)) 29 #[.slice none 0 0, .slice none 0 0, .int .i64 0]
  simp only [World.size_alloc] at k1 k2
  have H1 := Lib.hid h1
  have H2 := Lib.hid h2
  have CP : Hid (∀ W, Below w.heap.size w W → Calls Try.prog 83 #[.agg #[.slice a L.length c, .slice b R.length d, .int .i64 mk]] W (FreshJn L R mk W)) := Lib.hid (fun W hW => copied_x a b c d mk L R hi W (H1.out.below (hW.mono hB)) (H2.out.below (hW.mono hB)) (Nat.le_trans hB hW.size) hl1 hl2)
  have JO : Hid (∀ W, Below w.heap.size w W → Calls Try.prog 46 #[.agg #[.slice a L.length c, .slice b R.length d, .int .i64 mk]] W fun e w' => e = .returned (.bool (joinOkJ L R mk)) ∧ Below W.heap.size W w') := Lib.hid (fun W hW => iJoinOk_any a b c d L R mk hi W (H1.out.below (hW.mono hB)) (H2.out.below (hW.mono hB)) (Nat.le_trans hB hW.size))
  have EV := Lib.hid (fun W => iEv_x k y t v W)
  have HT := Lib.hid (fun W => jTime_any by_ W)
  have HL := Lib.hid (fun W => iLateJ_x mk t W)
  clear h1 h2
  have h40b : ((R.length : Int) == 40) = true := by simp; omega
  clear hf
  rw [hj] at JO
  rw [he] at EV
  rw [ht] at HT
  rw [show decide (t ≤ mk) = false by simp [hx]] at HL
  have HE := Lib.hid he
  have HBY := Lib.hid (inB_bd ht)
  have hjo : evsJ L = true ∧ evsJ R = true := by
    unfold joinOkJ at hj
    simp only [Bool.and_eq_true] at hj
    exact ⟨hj.1, hj.2.1⟩
  have HL1 := Lib.hid hjo.1
  have HR := Lib.hid hjo.2
  clear hj he ht hx hjo
  go_enter Try.func54, Try.ntmps54
  go_wp2_with fail
  generalize hW : World.alloc _ _ = W0 at b1 k0 k1 k2 ⊢
  have hlo : w.heap.size + 3 ≤ W0.heap.size := by rw [← hW]; simp
  clear hW
  have K0 := Lib.hid k0
  have K1 := Lib.hid k1
  have K2 := Lib.hid k2
  have BB := Lib.hid b1
  clear b1 k0 k1 k2
  refine (CP.out _ BB.out).mono ?_
  rintro e w1 ⟨a1, c1, a2, c2, rfl, hm, hb⟩
  have hb0 := hb
  have hb := hb.trans ((Below.refl w1.heap.size w1).alloc (Nat.le_refl _) (.cells #[.slice a1 L.length c1, .slice a2 R.length c2, .int .i64 mk] 29) |>.mono hb.size)
  have K0 := Lib.hid (K0.out.below hb)
  have K1 := Lib.hid (K1.out.below hb)
  have K2 := Lib.hid (K2.out.below hb)
  have KN := Lib.hid (Blk.new w1 29 #[.slice a1 L.length c1, .slice a2 R.length c2, .int .i64 mk])
  have MM := Lib.hid (hm.below ((Below.refl w1.heap.size w1).alloc (Nat.le_refl _) (.cells #[.slice a1 L.length c1, .slice a2 R.length c2, .int .i64 mk] 29)) (Nat.le_refl _))
  have UP : Hid (w1.heap.size ≤ (w1.alloc (.cells #[.slice a1 L.length c1, .slice a2 R.length c2, .int .i64 mk] 29)).heap.size) := Lib.hid (by simp)
  have BB := Lib.hid (BB.out.trans (hb.mono BB.out.size))
  have hlo1 := hb0.size
  clear hb hb0 hm
  have q0 := K0.out.cell
  go_wp2_with fail
  refine (JO.out _ BB.out).mono ?_
  rintro e w3 ⟨rfl, hb⟩
  clear q0
  have K0 := Lib.hid (K0.out.below hb)
  have K1 := Lib.hid (K1.out.below hb)
  have K2 := Lib.hid (K2.out.below hb)
  have KN := Lib.hid (KN.out.below hb)
  have MM := Lib.hid (MM.out.below hb (by have := hb.size; have := UP.out; omega))
  have UP := Lib.hid (Nat.le_trans UP.out hb.size)
  have BB := Lib.hid (BB.out.trans (hb.mono BB.out.size))
  clear hb
  have q0 := K0.out.cell
  have q1 := K1.out.cell
  go_wp2_with fail
  refine (EV.out _).mono ?_
  rintro e w4 ⟨rfl, hb⟩
  clear q0 q1
  have K0 := Lib.hid (K0.out.below hb)
  have K1 := Lib.hid (K1.out.below hb)
  have K2 := Lib.hid (K2.out.below hb)
  have KN := Lib.hid (KN.out.below hb)
  have MM := Lib.hid (MM.out.below hb (by have := hb.size; have := UP.out; omega))
  have UP := Lib.hid (Nat.le_trans UP.out hb.size)
  have BB := Lib.hid (BB.out.trans (hb.mono BB.out.size))
  clear hb
  have q0 := K0.out.cell
  have q1 := K1.out.cell
  have bA := (Below.refl w4.heap.size w4).alloc (Nat.le_refl _) (.cells #[.int .i64 k, .int .i64 y, .int .i64 t, .int .i64 v] 38)
  have fo := fms_one w4 38 ⟨k, y, t, v⟩
  have HB1 := Lib.hid (H1.out.below ((BB.out.trans (bA.mono BB.out.size)).mono hB))
  have HB2 := Lib.hid (H2.out.below ((BB.out.trans (bA.mono BB.out.size)).mono hB))
  have hbs := BB.out.size
  have PO := pairsOf_any (some ⟨w4.heap.size, 0, none⟩) b 1 R.length 1 d [⟨k, y, t, v⟩] R by_ (w4.heap.size + 1) _ fo (HB2.out.more (by omega)) rfl rfl (by simp) (evsJ_one HE.out) HR.out HBY.out
  rw [show ([⟨k, y, t, v⟩] : List Fm).length = 1 from rfl, allJ_one] at PO
  have PO := Lib.hid PO
  have BA := Lib.hid bA
  clear bA fo hbs
  have qa := (K0.out.alloc (.cells #[.int .i64 k, .int .i64 y, .int .i64 t, .int .i64 v] 38)).cell
  go_wp2_with (first | (go_at_call 67; refine (HT.out _).mono ?_; rintro e w' ⟨rfl, rfl⟩) | (go_at_call 85; refine (HL.out _).mono ?_; rintro e w' ⟨rfl, rfl⟩))
  refine PO.out.mono ?_
  rintro e w6 ⟨p1, z1, rfl, ho, hb⟩
  have hb := BA.out.trans (hb.mono BA.out.size)
  have PR := Lib.hid (owns_less ho (Nat.le_trans hlo1 (Nat.le_trans UP.out BA.out.size)))
  clear ho q0 q1 qa BA
  have K0 := Lib.hid (K0.out.below hb)
  have K1 := Lib.hid (K1.out.below hb)
  have K2 := Lib.hid (K2.out.below hb)
  have KN := Lib.hid (KN.out.below hb)
  have MM := Lib.hid (MM.out.below hb (by have := hb.size; have := UP.out; omega))
  have UP := Lib.hid (Nat.le_trans UP.out hb.size)
  have BB := Lib.hid (BB.out.trans (hb.mono BB.out.size))
  clear hb
  have q0 := K0.out.cell
  have q1 := K1.out.cell
  have bA := (Below.refl w6.heap.size w6).alloc (Nat.le_refl _) (.cells #[.int .i64 k, .int .i64 y, .int .i64 t, .int .i64 v] 38)
  have fo := fms_one w6 38 ⟨k, y, t, v⟩
  have HB1 := Lib.hid (H1.out.below ((BB.out.trans (bA.mono BB.out.size)).mono hB))
  have HB2 := Lib.hid (H2.out.below ((BB.out.trans (bA.mono BB.out.size)).mono hB))
  have hbs := BB.out.size
  have PO := pairsOf_any a (some ⟨w6.heap.size, 0, none⟩) L.length 1 c 1 L [⟨k, y, t, v⟩] by_ (w6.heap.size + 1) _ (HB1.out.more (by omega)) fo rfl rfl (by simp) HL1.out (evsJ_one HE.out) HBY.out
  rw [allJ_col] at PO
  have PO := Lib.hid PO
  have BA := Lib.hid bA
  clear bA fo hbs
  go_wp2_with fail
  refine PO.out.mono ?_
  rintro e w8 ⟨p2, z2, rfl, ho, hb⟩
  have hb := BA.out.trans (hb.mono BA.out.size)
  have PR := Lib.hid (owns_less ho (Nat.le_trans hlo1 (Nat.le_trans UP.out BA.out.size)))
  clear ho q0 q1 BA
  have K0 := Lib.hid (K0.out.below hb)
  have K1 := Lib.hid (K1.out.below hb)
  have K2 := Lib.hid (K2.out.below hb)
  have KN := Lib.hid (KN.out.below hb)
  have MM := Lib.hid (MM.out.below hb (by have := hb.size; have := UP.out; omega))
  have UP := Lib.hid (Nat.le_trans UP.out hb.size)
  have BB := Lib.hid (BB.out.trans (hb.mono BB.out.size))
  clear hb
  have q0 := K0.out.cell
  have q1 := K1.out.cell
  have qn := KN.out.cell
  have f2 := K2.out.frozen
  have d2 := K2.out.cell
  have HP : Hid (AddPost L R mk [] 2 w (.returned (.tuple #[.agg #[.slice a1 L.length c1, .slice a2 R.length c2, .int .i64 mk], .slice none 0 0, .int .i64 2])) (((w8.setCell ⟨w.heap.size + 1 + 1, 0, none⟩ (.slice a1 L.length c1)).setCell ⟨w.heap.size + 1 + 1, 1, none⟩ (.slice a2 R.length c2)).setCell ⟨w.heap.size + 1 + 1, 2, none⟩ (.int .i64 mk))) := Lib.hid (by
    refine ⟨a1, c1, a2, c2, none, 0, rfl, (((((MM.out.nil3.setCell ?_ _).setCell ?_ _).setCell ?_ _).less ?_ ?_)), ((BB.out.setCell ?_ _).setCell ?_ _).setCell ?_ _⟩ <;> first | omega | (simp; omega) | (simp; exact UP.out))
  go_wp2
  exact bodyPost_ret (v := .tuple #[.agg #[.slice a1 L.length c1, .slice a2 R.length c2, .int .i64 mk], .slice none 0 0, .int .i64 2]) (by simp [results, Try.results54, go_sem, d2]) rfl HP.out
set_option maxHeartbeats 4000000 in
set_option maxRecDepth 100000 in
theorem iAdd_rightD (a b : Option Addr) (c d : Nat) (L R : List Fm) (mk by_ : Int) (k y t v : Int) (hi : Nat) (w : World) (h1 : Fms w hi a c L) (h2 : Fms w hi b d R) (hB : hi ≤ w.heap.size) (hl1 : L.length ≤ 1048576) (hl2 : R.length ≤ 1048576) (hj : joinOkJ L R mk = true) (he : evJ ⟨k, y, t, v⟩ = true) (ht : inB by_ 0 1000000 = true) (hx : ¬ t ≤ mk) (hf : R.length ≠ 40) :
    Calls Try.prog 54 #[.agg #[.slice a L.length c, .slice b R.length d, .int .i64 mk], .int .i64 by_, .bool false, (.agg #[.int .i64 k, .int .i64 y, .int .i64 t, .int .i64 v])] w (AddPost L (R ++ [⟨k, y, t, v⟩]) mk (colJ L ⟨k, y, t, v⟩ by_ L.length) 0 w) := by
  have b1 := (((Below.refl w.heap.size w).alloc (Nat.le_refl _) (.cells #[.slice a L.length c, .slice b R.length d, .int .i64 mk] 29)).alloc (by simp) (.cells #[.int .i64 k, .int .i64 y, .int .i64 t, .int .i64 v] 38)).alloc (by simp; omega) (.cells #[.slice none 0 0, .slice none 0 0, .int .i64 0] 29)
  have k0 := ((Blk.new w 29 #[.slice a L.length c, .slice b R.length d, .int .i64 mk]).alloc (.cells #[.int .i64 k, .int .i64 y, .int .i64 t, .int .i64 v] 38)).alloc (.cells #[.slice none 0 0, .slice none 0 0, .int .i64 0] 29)
  have k1 := (Blk.new (w.alloc (.cells #[.slice a L.length c, .slice b R.length d, .int .i64 mk] 29)) 38 #[.int .i64 k, .int .i64 y, .int .i64 t, .int .i64 v]).alloc (.cells #[.slice none 0 0, .slice none 0 0, .int .i64 0] 29)
  have k2 := Blk.new ((w.alloc (.cells #[.slice a L.length c, .slice b R.length d, .int .i64 mk] 29)).alloc (.cells #[.int .i64 k, .int .i64 y, .int .i64 t, .int .i64 v] 38)) 29 #[.slice none 0 0, .slice none 0 0, .int .i64 0]
  simp only [World.size_alloc] at k1 k2
  have H1 := Lib.hid h1
  have H2 := Lib.hid h2
  have CP : Hid (∀ W, Below w.heap.size w W → Calls Try.prog 83 #[.agg #[.slice a L.length c, .slice b R.length d, .int .i64 mk]] W (FreshJn L R mk W)) := Lib.hid (fun W hW => copied_x a b c d mk L R hi W (H1.out.below (hW.mono hB)) (H2.out.below (hW.mono hB)) (Nat.le_trans hB hW.size) hl1 hl2)
  have JO : Hid (∀ W, Below w.heap.size w W → Calls Try.prog 46 #[.agg #[.slice a L.length c, .slice b R.length d, .int .i64 mk]] W fun e w' => e = .returned (.bool (joinOkJ L R mk)) ∧ Below W.heap.size W w') := Lib.hid (fun W hW => iJoinOk_any a b c d L R mk hi W (H1.out.below (hW.mono hB)) (H2.out.below (hW.mono hB)) (Nat.le_trans hB hW.size))
  have EV := Lib.hid (fun W => iEv_x k y t v W)
  have HT := Lib.hid (fun W => jTime_any by_ W)
  have HL := Lib.hid (fun W => iLateJ_x mk t W)
  clear h1 h2
  have h40b : ((R.length : Int) == 40) = false := by simp; omega
  clear hf
  rw [hj] at JO
  rw [he] at EV
  rw [ht] at HT
  rw [show decide (t ≤ mk) = false by simp [hx]] at HL
  have HE := Lib.hid he
  have HBY := Lib.hid (inB_bd ht)
  have hjo : evsJ L = true ∧ evsJ R = true := by
    unfold joinOkJ at hj
    simp only [Bool.and_eq_true] at hj
    exact ⟨hj.1, hj.2.1⟩
  have HL1 := Lib.hid hjo.1
  have HR := Lib.hid hjo.2
  clear hj he ht hx hjo
  go_enter Try.func54, Try.ntmps54
  go_wp2_with fail
  generalize hW : World.alloc _ _ = W0 at b1 k0 k1 k2 ⊢
  have hlo : w.heap.size + 3 ≤ W0.heap.size := by rw [← hW]; simp
  clear hW
  have K0 := Lib.hid k0
  have K1 := Lib.hid k1
  have K2 := Lib.hid k2
  have BB := Lib.hid b1
  clear b1 k0 k1 k2
  refine (CP.out _ BB.out).mono ?_
  rintro e w1 ⟨a1, c1, a2, c2, rfl, hm, hb⟩
  have hb0 := hb
  have hb := hb.trans ((Below.refl w1.heap.size w1).alloc (Nat.le_refl _) (.cells #[.slice a1 L.length c1, .slice a2 R.length c2, .int .i64 mk] 29) |>.mono hb.size)
  have K0 := Lib.hid (K0.out.below hb)
  have K1 := Lib.hid (K1.out.below hb)
  have K2 := Lib.hid (K2.out.below hb)
  have KN := Lib.hid (Blk.new w1 29 #[.slice a1 L.length c1, .slice a2 R.length c2, .int .i64 mk])
  have MM := Lib.hid (hm.below ((Below.refl w1.heap.size w1).alloc (Nat.le_refl _) (.cells #[.slice a1 L.length c1, .slice a2 R.length c2, .int .i64 mk] 29)) (Nat.le_refl _))
  have UP : Hid (w1.heap.size ≤ (w1.alloc (.cells #[.slice a1 L.length c1, .slice a2 R.length c2, .int .i64 mk] 29)).heap.size) := Lib.hid (by simp)
  have BB := Lib.hid (BB.out.trans (hb.mono BB.out.size))
  have hlo1 := hb0.size
  clear hb hb0 hm
  have q0 := K0.out.cell
  go_wp2_with fail
  refine (JO.out _ BB.out).mono ?_
  rintro e w3 ⟨rfl, hb⟩
  clear q0
  have K0 := Lib.hid (K0.out.below hb)
  have K1 := Lib.hid (K1.out.below hb)
  have K2 := Lib.hid (K2.out.below hb)
  have KN := Lib.hid (KN.out.below hb)
  have MM := Lib.hid (MM.out.below hb (by have := hb.size; have := UP.out; omega))
  have UP := Lib.hid (Nat.le_trans UP.out hb.size)
  have BB := Lib.hid (BB.out.trans (hb.mono BB.out.size))
  clear hb
  have q0 := K0.out.cell
  have q1 := K1.out.cell
  go_wp2_with fail
  refine (EV.out _).mono ?_
  rintro e w4 ⟨rfl, hb⟩
  clear q0 q1
  have K0 := Lib.hid (K0.out.below hb)
  have K1 := Lib.hid (K1.out.below hb)
  have K2 := Lib.hid (K2.out.below hb)
  have KN := Lib.hid (KN.out.below hb)
  have MM := Lib.hid (MM.out.below hb (by have := hb.size; have := UP.out; omega))
  have UP := Lib.hid (Nat.le_trans UP.out hb.size)
  have BB := Lib.hid (BB.out.trans (hb.mono BB.out.size))
  clear hb
  have q0 := K0.out.cell
  have q1 := K1.out.cell
  have bA := (Below.refl w4.heap.size w4).alloc (Nat.le_refl _) (.cells #[.int .i64 k, .int .i64 y, .int .i64 t, .int .i64 v] 38)
  have fo := fms_one w4 38 ⟨k, y, t, v⟩
  have HB1 := Lib.hid (H1.out.below ((BB.out.trans (bA.mono BB.out.size)).mono hB))
  have HB2 := Lib.hid (H2.out.below ((BB.out.trans (bA.mono BB.out.size)).mono hB))
  have hbs := BB.out.size
  have PO := pairsOf_any (some ⟨w4.heap.size, 0, none⟩) b 1 R.length 1 d [⟨k, y, t, v⟩] R by_ (w4.heap.size + 1) _ fo (HB2.out.more (by omega)) rfl rfl (by simp) (evsJ_one HE.out) HR.out HBY.out
  rw [show ([⟨k, y, t, v⟩] : List Fm).length = 1 from rfl, allJ_one] at PO
  have PO := Lib.hid PO
  have BA := Lib.hid bA
  clear bA fo hbs
  have qa := (K0.out.alloc (.cells #[.int .i64 k, .int .i64 y, .int .i64 t, .int .i64 v] 38)).cell
  go_wp2_with (first | (go_at_call 67; refine (HT.out _).mono ?_; rintro e w' ⟨rfl, rfl⟩) | (go_at_call 85; refine (HL.out _).mono ?_; rintro e w' ⟨rfl, rfl⟩))
  refine PO.out.mono ?_
  rintro e w6 ⟨p1, z1, rfl, ho, hb⟩
  have hb := BA.out.trans (hb.mono BA.out.size)
  have PR := Lib.hid (owns_less ho (Nat.le_trans hlo1 (Nat.le_trans UP.out BA.out.size)))
  clear ho q0 q1 qa BA
  have K0 := Lib.hid (K0.out.below hb)
  have K1 := Lib.hid (K1.out.below hb)
  have K2 := Lib.hid (K2.out.below hb)
  have KN := Lib.hid (KN.out.below hb)
  have MM := Lib.hid (MM.out.below hb (by have := hb.size; have := UP.out; omega))
  have UP := Lib.hid (Nat.le_trans UP.out hb.size)
  have BB := Lib.hid (BB.out.trans (hb.mono BB.out.size))
  clear hb
  have q0 := K0.out.cell
  have q1 := K1.out.cell
  have bA := (Below.refl w6.heap.size w6).alloc (Nat.le_refl _) (.cells #[.int .i64 k, .int .i64 y, .int .i64 t, .int .i64 v] 38)
  have fo := fms_one w6 38 ⟨k, y, t, v⟩
  have HB1 := Lib.hid (H1.out.below ((BB.out.trans (bA.mono BB.out.size)).mono hB))
  have HB2 := Lib.hid (H2.out.below ((BB.out.trans (bA.mono BB.out.size)).mono hB))
  have hbs := BB.out.size
  have PO := pairsOf_any a (some ⟨w6.heap.size, 0, none⟩) L.length 1 c 1 L [⟨k, y, t, v⟩] by_ (w6.heap.size + 1) _ (HB1.out.more (by omega)) fo rfl rfl (by simp) HL1.out (evsJ_one HE.out) HBY.out
  rw [allJ_col] at PO
  have PO := Lib.hid PO
  have BA := Lib.hid bA
  clear bA fo hbs
  go_wp2_with fail
  refine PO.out.mono ?_
  rintro e w8 ⟨p2, z2, rfl, ho, hb⟩
  have hb := BA.out.trans (hb.mono BA.out.size)
  have PR := Lib.hid (owns_less ho (Nat.le_trans hlo1 (Nat.le_trans UP.out BA.out.size)))
  clear ho q0 q1 BA
  have K0 := Lib.hid (K0.out.below hb)
  have K1 := Lib.hid (K1.out.below hb)
  have K2 := Lib.hid (K2.out.below hb)
  have KN := Lib.hid (KN.out.below hb)
  have MM := Lib.hid (MM.out.below hb (by have := hb.size; have := UP.out; omega))
  have UP := Lib.hid (Nat.le_trans UP.out hb.size)
  have BB := Lib.hid (BB.out.trans (hb.mono BB.out.size))
  clear hb
  have q0 := K0.out.cell
  have q1 := K1.out.cell
  have qn := KN.out.cell
  go_wp2_with fail
  refine wp_region_any (by kernel_rfl) ?_
  change wpAny _ _ _ _ _ _ _ (World.drew _)
  have K1 := Lib.hid K1.out.drew
  have K2 := Lib.hid K2.out.drew
  have KN := Lib.hid KN.out.drew
  have PR := Lib.hid (show (w8.drew).ownsRow _ _ _ _ _ _ from PR.out)
  have MM := Lib.hid (MM.out.below ((Below.refl _ w8).drew) UP.out)
  have UP := Lib.hid (show w1.heap.size ≤ w8.drew.heap.size from UP.out)
  have BB := Lib.hid BB.out.drew
  clear q0 q1
  generalize w8.drew = w7 at K1 K2 KN PR MM UP BB ⊢
  have hup := UP.out
  obtain ⟨a3, c3, w9, hr3, hm9, hb9, hg9⟩ := Many.push (pre := [rQ a1 c1 L]) ⟨k, y, t, v⟩ MM.out UP.out (by omega) (by omega) 24
  have R3 := Lib.hid hr3
  have hrow := MM.out.r1.own
  have g2 := own_ne hrow K2.out (show 29 ≠ 38 by decide)
  have gn := own_ne hrow KN.out (show 29 ≠ 38 by decide)
  have K29 := Lib.hid (K2.out.grown hg9 g2)
  have KN9 := Lib.hid (KN.out.grown hg9 gn)
  have PR9 := Lib.hid (PR.out.kept hg9 (Apart.of_type PR.out hrow (show 53 ≠ 38 by decide)).ne)
  have M9 := Lib.hid (Many.snoc (r := rG p2 z2 (colJ L ⟨k, y, t, v⟩ by_ L.length)) hm9 PR9.out (fun s hs => by simp at hs; rcases hs with rfl | rfl <;> exact (show 38 ≠ 53 by decide)) (Nat.le_refl _))
  have qn := KN.out.cell
  have qn2 := (KN.out.alloc (.cells #[.int .i64 k, .int .i64 y, .int .i64 t, .int .i64 v] 38)).cell
  have q1 := K1.out.cell
  have fn9 := KN9.out.frozen
  have dn9 := KN9.out.cell
  have KN10 := Lib.hid (KN9.out.put_ 1 (.slice a3 (R.length + 1) c3))
  have K210 := Lib.hid (K29.out.grown (grown_setCell w9 w1.heap.size 1 (.slice a3 (R.length + 1) c3)) (by have := hlo1; simp; omega))
  have M10 := Lib.hid (M9.out.setBox KN9.out (fun r hr => by simp at hr; rcases hr with rfl | rfl | rfl; exact (show 29 ≠ 38 by decide); exact (show 29 ≠ 38 by decide); exact (show 29 ≠ 53 by decide)) 1 (.slice a3 (R.length + 1) c3))
  have B10 := Lib.hid ((BB.out.trans (hb9.mono (show w.heap.size ≤ W0.heap.size by omega))).setCell (p := ⟨w1.heap.size, 1, none⟩) (by have := hlo1; simp; omega) (.slice a3 (R.length + 1) c3))
  have q10 := KN10.out.cell
  have f10 := K210.out.frozen
  have d2 := K210.out.cell
  have HPX : Hid (AddPost L (R ++ [⟨k, y, t, v⟩]) mk (colJ L ⟨k, y, t, v⟩ by_ L.length) 0 w (.returned (.tuple #[.agg #[.slice a1 L.length c1, .slice a3 (R.length + 1) c3, .int .i64 mk], .slice p2 (colJ L ⟨k, y, t, v⟩ by_ L.length).length z2, .int .i64 0])) ((((w9.setCell ⟨w1.heap.size, 1, none⟩ (.slice a3 (R.length + 1) c3)).setCell ⟨w.heap.size + 1 + 1, 0, none⟩ (.slice a1 L.length c1)).setCell ⟨w.heap.size + 1 + 1, 1, none⟩ (.slice a3 (R.length + 1) c3)).setCell ⟨w.heap.size + 1 + 1, 2, none⟩ (.int .i64 mk))) := Lib.hid (by
    refine ⟨a1, c1, a3, c3, p2, z2, by simp, (((((M10.out.setCell ?_ _).setCell ?_ _).setCell ?_ _).less ?_ ?_)), ((B10.out.setCell ?_ _).setCell ?_ _).setCell ?_ _⟩ <;> first | omega | (simp; omega) | simp)
  clear hr3 hm9 hb9 hg9 hrow g2 gn PR9 M9 M10 B10 MM PR
  refine wpAny_take (oi := ⟨some 58, _, _, _, _, _⟩) (i := 0) (v := .pointer (some ⟨w1.heap.size, 1, none⟩)) rfl (by kernel_rfl) (by kernel_rfl) (by kernel_rfl) (fun _ _ _ h => h) (Or.inl ⟨by kernel_rfl, fun w => by go_simp⟩) ?_
  go_simp
  refine wpAny_take (oi := ⟨some 59, _, _, _, _, _⟩) (i := 1) (v := .pointer (some ⟨w1.heap.size, 1, none⟩)) rfl (by kernel_rfl) (by kernel_rfl) (by kernel_rfl) (fun _ _ _ h => h) (Or.inl ⟨by kernel_rfl, fun w => by go_simp⟩) ?_
  go_simp
  refine wpAny_take (oi := ⟨some 60, _, _, _, _, _⟩) (i := 2) (v := .pointer (some ⟨w1.heap.size, 1, none⟩)) rfl (by kernel_rfl) (by kernel_rfl) (by kernel_rfl) (fun _ _ _ h => h) (Or.inl ⟨by kernel_rfl, fun w => by go_simp⟩) ?_
  go_simp
  refine wpAny_ready (rs := [3, 4]) (by kernel_rfl) (by simp) ?_
  refine AllReady.cons rfl (fun K hK => ?_) (AllReady.cons rfl (fun K hK => ?_) AllReady.nil)
  · go_simp
    refine hK _ _ ?_
    clear hK K
    refine wpAny_ready (rs := [4]) (by kernel_rfl) (by simp) ?_
    refine AllReady.cons rfl (fun K hK => ?_) AllReady.nil
    go_simp
    refine hK _ _ ?_
    clear hK K
    refine wpAny_ready (rs := [5]) (by kernel_rfl) (by simp) ?_
    refine AllReady.cons rfl (fun K hK => ?_) AllReady.nil
    go_simp
    refine hK _ _ ?_
    clear hK K
    refine wpAny_ready (rs := [6]) (by kernel_rfl) (by simp) ?_
    refine AllReady.cons rfl (fun K hK => ?_) AllReady.nil
    refine step_append_runG rfl _ _ _ _ rfl _ _ rfl rfl _ _ R3.out ?_
    refine hK _ _ ?_
    clear hK K
    refine wpAny_ready (rs := [7]) (by kernel_rfl) (by simp) ?_
    refine AllReady.cons rfl (fun K hK => ?_) AllReady.nil
    go_simp
    refine hK _ _ ?_
    clear hK K
    refine wpAny_ready (rs := [8]) (by kernel_rfl) (by simp) ?_
    refine AllReady.cons rfl (fun K hK => ?_) AllReady.nil
    go_simp
    refine hK _ _ ?_
    clear hK K
    refine wpAny_done (by kernel_rfl) ?_ _
    clear qn qn2 fn9 dn9
    go_wp2
    exact bodyPost_ret (v := .tuple #[.agg #[.slice a1 L.length c1, .slice a3 (R.length + 1) c3, .int .i64 mk], .slice p2 (colJ L ⟨k, y, t, v⟩ by_ L.length).length z2, .int .i64 0]) (by simp [results, Try.results54, go_sem, d2]) rfl HPX.out
  · go_simp
    refine hK _ _ ?_
    clear hK K
    refine wpAny_ready (rs := [3, 5]) (by kernel_rfl) (by simp) ?_
    refine AllReady.cons rfl (fun K hK => ?_) (AllReady.cons rfl (fun K hK => ?_) AllReady.nil)
    · go_simp
      refine hK _ _ ?_
      clear hK K
      refine wpAny_ready (rs := [5]) (by kernel_rfl) (by simp) ?_
      refine AllReady.cons rfl (fun K hK => ?_) AllReady.nil
      go_simp
      refine hK _ _ ?_
      clear hK K
      refine wpAny_ready (rs := [6]) (by kernel_rfl) (by simp) ?_
      refine AllReady.cons rfl (fun K hK => ?_) AllReady.nil
      refine step_append_runG rfl _ _ _ _ rfl _ _ rfl rfl _ _ R3.out ?_
      refine hK _ _ ?_
      clear hK K
      refine wpAny_ready (rs := [7]) (by kernel_rfl) (by simp) ?_
      refine AllReady.cons rfl (fun K hK => ?_) AllReady.nil
      go_simp
      refine hK _ _ ?_
      clear hK K
      refine wpAny_ready (rs := [8]) (by kernel_rfl) (by simp) ?_
      refine AllReady.cons rfl (fun K hK => ?_) AllReady.nil
      go_simp
      refine hK _ _ ?_
      clear hK K
      refine wpAny_done (by kernel_rfl) ?_ _
      clear qn qn2 fn9 dn9
      go_wp2
      exact bodyPost_ret (v := .tuple #[.agg #[.slice a1 L.length c1, .slice a3 (R.length + 1) c3, .int .i64 mk], .slice p2 (colJ L ⟨k, y, t, v⟩ by_ L.length).length z2, .int .i64 0]) (by simp [results, Try.results54, go_sem, d2]) rfl HPX.out
    · go_simp
      refine hK _ _ ?_
      clear hK K
      refine wpAny_ready (rs := [3]) (by kernel_rfl) (by simp) ?_
      refine AllReady.cons rfl (fun K hK => ?_) AllReady.nil
      go_simp
      refine hK _ _ ?_
      clear hK K
      refine wpAny_ready (rs := [6]) (by kernel_rfl) (by simp) ?_
      refine AllReady.cons rfl (fun K hK => ?_) AllReady.nil
      refine step_append_runG rfl _ _ _ _ rfl _ _ rfl rfl _ _ R3.out ?_
      refine hK _ _ ?_
      clear hK K
      refine wpAny_ready (rs := [7]) (by kernel_rfl) (by simp) ?_
      refine AllReady.cons rfl (fun K hK => ?_) AllReady.nil
      go_simp
      refine hK _ _ ?_
      clear hK K
      refine wpAny_ready (rs := [8]) (by kernel_rfl) (by simp) ?_
      refine AllReady.cons rfl (fun K hK => ?_) AllReady.nil
      go_simp
      refine hK _ _ ?_
      clear hK K
      refine wpAny_done (by kernel_rfl) ?_ _
      clear qn qn2 fn9 dn9
      go_wp2
      exact bodyPost_ret (v := .tuple #[.agg #[.slice a1 L.length c1, .slice a3 (R.length + 1) c3, .int .i64 mk], .slice p2 (colJ L ⟨k, y, t, v⟩ by_ L.length).length z2, .int .i64 0]) (by simp [results, Try.results54, go_sem, d2]) rfl HPX.out
end Go.Proofs.Ytneolndbhklboaa
