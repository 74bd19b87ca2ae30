/- Chapter 12, spec's side: RaiseJoin. (made by tools/mkraisejs.py) -/
import Derived.Test.YtneolndbhklboaaPlainJn6
import Derived.Test.YtneolndbhklboaaCopyJ
import Derived.Test.YtneolndbhklboaaJn1
import Derived.Deep.RegionLaw
import Derived.Deep.RegionWith
namespace Go.Proofs.Ytneolndbhklboaa
open Go.RowKit
set_option maxHeartbeats 4000000 in
set_option maxRecDepth 100000 in
theorem sRaise_bad1 (a b : Option Addr) (c d : Nat) (L R : List Fm) (mk by_ x : Int) (hi : Nat) (w : World) (h1 : Fms w hi a c L) (h2 : Fms w hi b d R) (hB : hi ≤ w.heap.size) (hl1 : L.length ≤ 1048576) (hl2 : R.length ≤ 1048576) (hj : joinOkJ L R mk = false) :
    Calls Try.prog 55 #[.agg #[.slice a L.length c, .slice b R.length d, .int .i64 mk], .int .i64 by_, .int .i64 x] w (RaisePost L R mk (-1) w) := by
  have b1 := ((Below.refl w.heap.size w).alloc (Nat.le_refl _) (.cells #[.slice a L.length c, .slice b R.length d, .int .i64 mk] 29)).alloc (by simp) (.cells #[.slice none 0 0, .slice none 0 0, .int .i64 0] 29)
  have k0 := (Blk.new w 29 #[.slice a L.length c, .slice b R.length d, .int .i64 mk]).alloc (.cells #[.slice none 0 0, .slice none 0 0, .int .i64 0] 29)
  have k2 := Blk.new (w.alloc (.cells #[.slice a L.length c, .slice b R.length d, .int .i64 mk] 29)) 29 #[.slice none 0 0, .slice none 0 0, .int .i64 0]
  simp only [World.size_alloc] at k2
  have H1 := Lib.hid h1
  have H2 := Lib.hid h2
  have JO : Hid (∀ W, Below w.heap.size w W → Calls Try.prog 44 #[.agg #[.slice a L.length c, .slice b R.length d, .int .i64 mk]] W fun e w' => e = .returned (.bool (joinOkJ L R mk)) ∧ Below W.heap.size W w') := Lib.hid (fun W hW => sJoinOk_any a b c d L R mk hi W (H1.out.below (hW.mono hB)) (H2.out.below (hW.mono hB)) (Nat.le_trans hB hW.size))
  have HM := Lib.hid (fun W => sMarkJ_any x W)
  have HT := Lib.hid (fun W => specIn_any by_ 0 1000000 W)
  have CP : Hid (∀ W, Below w.heap.size w W → Calls Try.prog 81 #[.agg #[.slice a L.length c, .slice b R.length d, .int .i64 mk]] W (FreshJn L R mk W)) := Lib.hid (fun W hW => sCopy_x a b c d mk L R hi W (H1.out.below (hW.mono hB)) (H2.out.below (hW.mono hB)) (Nat.le_trans hB hW.size) hl1 hl2)
  clear h1 h2
  rw [hj] at JO
  clear hj HM HT
  go_enter Try.func55, Try.ntmps55
  go_wp2_with fail
  generalize hW : World.alloc _ _ = W0 at b1 k0 k2 ⊢
  have hlo : w.heap.size + 2 ≤ W0.heap.size := by rw [← hW]; simp
  clear hW
  have K0 := Lib.hid k0
  have K2 := Lib.hid k2
  have BB := Lib.hid b1
  clear b1 k0 k2
  refine (JO.out _ BB.out).mono ?_
  rintro e w3 ⟨rfl, hb⟩
  have K0 := Lib.hid (K0.out.below hb)
  have K2 := Lib.hid (K2.out.below hb)
  have hlo3 : w.heap.size + 2 ≤ w3.heap.size := Nat.le_trans hlo hb.size
  have BB := Lib.hid (BB.out.trans (hb.mono BB.out.size))
  clear hb
  have q0 := K0.out.cell
  go_wp2_with fail
  refine (CP.out _ BB.out).mono ?_
  rintro e w4 ⟨a1, c1, a2, c2, rfl, hm, hb⟩
  have K2 := Lib.hid (K2.out.below hb)
  have f2 := K2.out.frozen
  have d2 := K2.out.cell
  have HP : Hid (RaisePost L R mk (-1) w (.returned (.tuple #[.agg #[.slice a1 L.length c1, .slice a2 R.length c2, .int .i64 mk], .int .i64 (-1)])) (((w4.setCell ⟨w.heap.size + 1, 0, none⟩ (.slice a1 L.length c1)).setCell ⟨w.heap.size + 1, 1, none⟩ (.slice a2 R.length c2)).setCell ⟨w.heap.size + 1, 2, none⟩ (.int .i64 mk))) := Lib.hid (by
    refine ⟨a1, c1, a2, c2, rfl, ((((hm.setCell ?_ _).setCell ?_ _).setCell ?_ _).less ?_ ?_), ((((BB.out.trans (hb.mono BB.out.size)).setCell ?_ _).setCell ?_ _).setCell ?_ _)⟩ <;> first | omega | (simp; omega) | simp)
  clear hm hb q0
  go_wp2
  exact bodyPost_ret (v := .tuple #[.agg #[.slice a1 L.length c1, .slice a2 R.length c2, .int .i64 mk], .int .i64 (-1)]) (by simp [results, Try.results55, go_sem, d2]) rfl HP.out
set_option maxHeartbeats 4000000 in
set_option maxRecDepth 100000 in
theorem sRaise_bad2 (a b : Option Addr) (c d : Nat) (L R : List Fm) (mk by_ x : Int) (hi : Nat) (w : World) (h1 : Fms w hi a c L) (h2 : Fms w hi b d R) (hB : hi ≤ w.heap.size) (hl1 : L.length ≤ 1048576) (hl2 : R.length ≤ 1048576) (hj : joinOkJ L R mk = true) (hx : inB x (-1) 1000000 = false) :
    Calls Try.prog 55 #[.agg #[.slice a L.length c, .slice b R.length d, .int .i64 mk], .int .i64 by_, .int .i64 x] w (RaisePost L R mk (-1) w) := by
  have b1 := ((Below.refl w.heap.size w).alloc (Nat.le_refl _) (.cells #[.slice a L.length c, .slice b R.length d, .int .i64 mk] 29)).alloc (by simp) (.cells #[.slice none 0 0, .slice none 0 0, .int .i64 0] 29)
  have k0 := (Blk.new w 29 #[.slice a L.length c, .slice b R.length d, .int .i64 mk]).alloc (.cells #[.slice none 0 0, .slice none 0 0, .int .i64 0] 29)
  have k2 := Blk.new (w.alloc (.cells #[.slice a L.length c, .slice b R.length d, .int .i64 mk] 29)) 29 #[.slice none 0 0, .slice none 0 0, .int .i64 0]
  simp only [World.size_alloc] at k2
  have H1 := Lib.hid h1
  have H2 := Lib.hid h2
  have JO : Hid (∀ W, Below w.heap.size w W → Calls Try.prog 44 #[.agg #[.slice a L.length c, .slice b R.length d, .int .i64 mk]] W fun e w' => e = .returned (.bool (joinOkJ L R mk)) ∧ Below W.heap.size W w') := Lib.hid (fun W hW => sJoinOk_any a b c d L R mk hi W (H1.out.below (hW.mono hB)) (H2.out.below (hW.mono hB)) (Nat.le_trans hB hW.size))
  have HM := Lib.hid (fun W => sMarkJ_any x W)
  have HT := Lib.hid (fun W => specIn_any by_ 0 1000000 W)
  have CP : Hid (∀ W, Below w.heap.size w W → Calls Try.prog 81 #[.agg #[.slice a L.length c, .slice b R.length d, .int .i64 mk]] W (FreshJn L R mk W)) := Lib.hid (fun W hW => sCopy_x a b c d mk L R hi W (H1.out.below (hW.mono hB)) (H2.out.below (hW.mono hB)) (Nat.le_trans hB hW.size) hl1 hl2)
  clear h1 h2
  rw [hj] at JO
  rw [hx] at HM
  clear hj hx
  go_enter Try.func55, Try.ntmps55
  go_wp2_with fail
  generalize hW : World.alloc _ _ = W0 at b1 k0 k2 ⊢
  have hlo : w.heap.size + 2 ≤ W0.heap.size := by rw [← hW]; simp
  clear hW
  have K0 := Lib.hid k0
  have K2 := Lib.hid k2
  have BB := Lib.hid b1
  clear b1 k0 k2
  refine (JO.out _ BB.out).mono ?_
  rintro e w3 ⟨rfl, hb⟩
  have K0 := Lib.hid (K0.out.below hb)
  have K2 := Lib.hid (K2.out.below hb)
  have hlo3 : w.heap.size + 2 ≤ w3.heap.size := Nat.le_trans hlo hb.size
  have BB := Lib.hid (BB.out.trans (hb.mono BB.out.size))
  clear hb
  have q0 := K0.out.cell
  go_wp2_with (first | (go_at_call 78; refine (HM.out _).mono ?_; rintro e w' ⟨rfl, rfl⟩) | (go_at_call 70; refine (HT.out _).mono ?_; rintro e w' ⟨rfl, rfl⟩))
  refine (CP.out _ BB.out).mono ?_
  rintro e w4 ⟨a1, c1, a2, c2, rfl, hm, hb⟩
  have K2 := Lib.hid (K2.out.below hb)
  have f2 := K2.out.frozen
  have d2 := K2.out.cell
  have HP : Hid (RaisePost L R mk (-1) w (.returned (.tuple #[.agg #[.slice a1 L.length c1, .slice a2 R.length c2, .int .i64 mk], .int .i64 (-1)])) (((w4.setCell ⟨w.heap.size + 1, 0, none⟩ (.slice a1 L.length c1)).setCell ⟨w.heap.size + 1, 1, none⟩ (.slice a2 R.length c2)).setCell ⟨w.heap.size + 1, 2, none⟩ (.int .i64 mk))) := Lib.hid (by
    refine ⟨a1, c1, a2, c2, rfl, ((((hm.setCell ?_ _).setCell ?_ _).setCell ?_ _).less ?_ ?_), ((((BB.out.trans (hb.mono BB.out.size)).setCell ?_ _).setCell ?_ _).setCell ?_ _)⟩ <;> first | omega | (simp; omega) | simp)
  clear hm hb q0
  go_wp2
  exact bodyPost_ret (v := .tuple #[.agg #[.slice a1 L.length c1, .slice a2 R.length c2, .int .i64 mk], .int .i64 (-1)]) (by simp [results, Try.results55, go_sem, d2]) rfl HP.out
set_option maxHeartbeats 4000000 in
set_option maxRecDepth 100000 in
theorem sRaise_bad3 (a b : Option Addr) (c d : Nat) (L R : List Fm) (mk by_ x : Int) (hi : Nat) (w : World) (h1 : Fms w hi a c L) (h2 : Fms w hi b d R) (hB : hi ≤ w.heap.size) (hl1 : L.length ≤ 1048576) (hl2 : R.length ≤ 1048576) (hj : joinOkJ L R mk = true) (hx : inB x (-1) 1000000 = true) (ht : inB by_ 0 1000000 = false) :
    Calls Try.prog 55 #[.agg #[.slice a L.length c, .slice b R.length d, .int .i64 mk], .int .i64 by_, .int .i64 x] w (RaisePost L R mk (-1) w) := by
  have b1 := ((Below.refl w.heap.size w).alloc (Nat.le_refl _) (.cells #[.slice a L.length c, .slice b R.length d, .int .i64 mk] 29)).alloc (by simp) (.cells #[.slice none 0 0, .slice none 0 0, .int .i64 0] 29)
  have k0 := (Blk.new w 29 #[.slice a L.length c, .slice b R.length d, .int .i64 mk]).alloc (.cells #[.slice none 0 0, .slice none 0 0, .int .i64 0] 29)
  have k2 := Blk.new (w.alloc (.cells #[.slice a L.length c, .slice b R.length d, .int .i64 mk] 29)) 29 #[.slice none 0 0, .slice none 0 0, .int .i64 0]
  simp only [World.size_alloc] at k2
  have H1 := Lib.hid h1
  have H2 := Lib.hid h2
  have JO : Hid (∀ W, Below w.heap.size w W → Calls Try.prog 44 #[.agg #[.slice a L.length c, .slice b R.length d, .int .i64 mk]] W fun e w' => e = .returned (.bool (joinOkJ L R mk)) ∧ Below W.heap.size W w') := Lib.hid (fun W hW => sJoinOk_any a b c d L R mk hi W (H1.out.below (hW.mono hB)) (H2.out.below (hW.mono hB)) (Nat.le_trans hB hW.size))
  have HM := Lib.hid (fun W => sMarkJ_any x W)
  have HT := Lib.hid (fun W => specIn_any by_ 0 1000000 W)
  have CP : Hid (∀ W, Below w.heap.size w W → Calls Try.prog 81 #[.agg #[.slice a L.length c, .slice b R.length d, .int .i64 mk]] W (FreshJn L R mk W)) := Lib.hid (fun W hW => sCopy_x a b c d mk L R hi W (H1.out.below (hW.mono hB)) (H2.out.below (hW.mono hB)) (Nat.le_trans hB hW.size) hl1 hl2)
  clear h1 h2
  rw [hj] at JO
  rw [hx] at HM
  rw [ht] at HT
  clear hj hx ht
  go_enter Try.func55, Try.ntmps55
  go_wp2_with fail
  generalize hW : World.alloc _ _ = W0 at b1 k0 k2 ⊢
  have hlo : w.heap.size + 2 ≤ W0.heap.size := by rw [← hW]; simp
  clear hW
  have K0 := Lib.hid k0
  have K2 := Lib.hid k2
  have BB := Lib.hid b1
  clear b1 k0 k2
  refine (JO.out _ BB.out).mono ?_
  rintro e w3 ⟨rfl, hb⟩
  have K0 := Lib.hid (K0.out.below hb)
  have K2 := Lib.hid (K2.out.below hb)
  have hlo3 : w.heap.size + 2 ≤ w3.heap.size := Nat.le_trans hlo hb.size
  have BB := Lib.hid (BB.out.trans (hb.mono BB.out.size))
  clear hb
  have q0 := K0.out.cell
  go_wp2_with (first | (go_at_call 78; refine (HM.out _).mono ?_; rintro e w' ⟨rfl, rfl⟩) | (go_at_call 70; refine (HT.out _).mono ?_; rintro e w' ⟨rfl, rfl⟩))
  refine (CP.out _ BB.out).mono ?_
  rintro e w4 ⟨a1, c1, a2, c2, rfl, hm, hb⟩
  have K2 := Lib.hid (K2.out.below hb)
  have f2 := K2.out.frozen
  have d2 := K2.out.cell
  have HP : Hid (RaisePost L R mk (-1) w (.returned (.tuple #[.agg #[.slice a1 L.length c1, .slice a2 R.length c2, .int .i64 mk], .int .i64 (-1)])) (((w4.setCell ⟨w.heap.size + 1, 0, none⟩ (.slice a1 L.length c1)).setCell ⟨w.heap.size + 1, 1, none⟩ (.slice a2 R.length c2)).setCell ⟨w.heap.size + 1, 2, none⟩ (.int .i64 mk))) := Lib.hid (by
    refine ⟨a1, c1, a2, c2, rfl, ((((hm.setCell ?_ _).setCell ?_ _).setCell ?_ _).less ?_ ?_), ((((BB.out.trans (hb.mono BB.out.size)).setCell ?_ _).setCell ?_ _).setCell ?_ _)⟩ <;> first | omega | (simp; omega) | simp)
  clear hm hb q0
  go_wp2
  exact bodyPost_ret (v := .tuple #[.agg #[.slice a1 L.length c1, .slice a2 R.length c2, .int .i64 mk], .int .i64 (-1)]) (by simp [results, Try.results55, go_sem, d2]) rfl HP.out
set_option maxHeartbeats 4000000 in
set_option maxRecDepth 100000 in
theorem sRaise_good (a b : Option Addr) (c d : Nat) (L R : List Fm) (mk by_ x : Int) (hi : Nat) (w : World) (h1 : Fms w hi a c L) (h2 : Fms w hi b d R) (hB : hi ≤ w.heap.size) (hl1 : L.length ≤ 1048576) (hl2 : R.length ≤ 1048576) (hj : joinOkJ L R mk = true) (hx : inB x (-1) 1000000 = true) (ht : inB by_ 0 1000000 = true) :
    Calls Try.prog 55 #[.agg #[.slice a L.length c, .slice b R.length d, .int .i64 mk], .int .i64 by_, .int .i64 x] w (RaisePost (ltTo L (max mk x + 1 - by_) L.length) (ltTo R (max mk x + 1 - by_) R.length) (max mk x) ((L.length : Int) + (R.length : Int) - ((ltTo L (max mk x + 1 - by_) L.length).length : Int) - ((ltTo R (max mk x + 1 - by_) R.length).length : Int)) w) := by
  have b1 := ((Below.refl w.heap.size w).alloc (Nat.le_refl _) (.cells #[.slice a L.length c, .slice b R.length d, .int .i64 mk] 29)).alloc (by simp) (.cells #[.slice none 0 0, .slice none 0 0, .int .i64 0] 29)
  have k0 := (Blk.new w 29 #[.slice a L.length c, .slice b R.length d, .int .i64 mk]).alloc (.cells #[.slice none 0 0, .slice none 0 0, .int .i64 0] 29)
  have k2 := Blk.new (w.alloc (.cells #[.slice a L.length c, .slice b R.length d, .int .i64 mk] 29)) 29 #[.slice none 0 0, .slice none 0 0, .int .i64 0]
  simp only [World.size_alloc] at k2
  have H1 := Lib.hid h1
  have H2 := Lib.hid h2
  have JO : Hid (∀ W, Below w.heap.size w W → Calls Try.prog 44 #[.agg #[.slice a L.length c, .slice b R.length d, .int .i64 mk]] W fun e w' => e = .returned (.bool (joinOkJ L R mk)) ∧ Below W.heap.size W w') := Lib.hid (fun W hW => sJoinOk_any a b c d L R mk hi W (H1.out.below (hW.mono hB)) (H2.out.below (hW.mono hB)) (Nat.le_trans hB hW.size))
  have HM := Lib.hid (fun W => sMarkJ_any x W)
  have HT := Lib.hid (fun W => specIn_any by_ 0 1000000 W)
  have CP : Hid (∀ W, Below w.heap.size w W → Calls Try.prog 81 #[.agg #[.slice a L.length c, .slice b R.length d, .int .i64 mk]] W (FreshJn L R mk W)) := Lib.hid (fun W hW => sCopy_x a b c d mk L R hi W (H1.out.below (hW.mono hB)) (H2.out.below (hW.mono hB)) (Nat.le_trans hB hW.size) hl1 hl2)
  clear h1 h2
  have g1 := (jOk_bd (J := ⟨L, R, mk⟩) hj).2.2.2.2
  have g2 := inB_bd hx
  have g3 := inB_bd ht
  simp only at g1
  have MO := Lib.hid (fun W => moreJ_any mk x W)
  rw [hj] at JO
  rw [hx] at HM
  rw [ht] at HT
  clear hj hx ht CP
  have hsum : -1 ≤ max mk x ∧ max mk x ≤ 1000000 := by omega
  generalize hM : max mk x = M at hsum MO ⊢
  have LL := Lib.hid (fun (W : World) (hW : Below w.heap.size w W) => sLeft_any a L.length c L (M + 1 - by_) hi W (H1.out.below (hW.mono hB)) rfl (Nat.le_trans hB hW.size) hl1)
  have LR := Lib.hid (fun (W : World) (hW : Below w.heap.size w W) => sLeft_any b R.length d R (M + 1 - by_) hi W (H2.out.below (hW.mono hB)) rfl (Nat.le_trans hB hW.size) hl2)
  have n1 := lt_len (L := L) (x := M + 1 - by_) (Nat.le_refl L.length)
  have n2 := lt_len (L := R) (x := M + 1 - by_) (Nat.le_refl R.length)
  generalize ltTo L (M + 1 - by_) L.length = X at LL n1 ⊢
  generalize ltTo R (M + 1 - by_) R.length = Y at LR n2 ⊢
  clear hM
  go_enter Try.func55, Try.ntmps55
  go_wp2_with fail
  generalize hW : World.alloc _ _ = W0 at b1 k0 k2 ⊢
  have hlo : w.heap.size + 2 ≤ W0.heap.size := by rw [← hW]; simp
  clear hW
  have K0 := Lib.hid k0
  have K2 := Lib.hid k2
  have BB := Lib.hid b1
  clear b1 k0 k2
  refine (JO.out _ BB.out).mono ?_
  rintro e w3 ⟨rfl, hb⟩
  have K0 := Lib.hid (K0.out.below hb)
  have K2 := Lib.hid (K2.out.below hb)
  have hlo3 : w.heap.size + 2 ≤ w3.heap.size := Nat.le_trans hlo hb.size
  have BB := Lib.hid (BB.out.trans (hb.mono BB.out.size))
  clear hb
  have q0 := K0.out.cell
  have hbs := BB.out.size
  have bN := (Below.refl w3.heap.size w3).alloc (Nat.le_refl _) (.cells #[.slice none 0 0, .slice none 0 0, .int .i64 M] 29)
  have KN := Lib.hid (Blk.new w3 29 #[.slice none 0 0, .slice none 0 0, .int .i64 M])
  have K0 := Lib.hid (K0.out.below bN)
  have K2 := Lib.hid (K2.out.below bN)
  have BB := Lib.hid (BB.out.trans (bN.mono hbs))
  have qj := K0.out.cell
  have qn := KN.out.cell
  clear bN
  go_wp2_with (first | (first | (go_at_call 78; refine (HM.out _).mono ?_; rintro e w' ⟨rfl, rfl⟩) | (go_at_call 70; refine (HT.out _).mono ?_; rintro e w' ⟨rfl, rfl⟩)) | (go_at_call 86; refine (MO.out _).mono ?_; rintro e w' ⟨rfl, rfl⟩))
  refine (LL.out _ BB.out).mono ?_
  rintro e w4 ⟨a1, c1, rfl, ho, hb⟩
  have K0 := Lib.hid (K0.out.below hb)
  have K2 := Lib.hid (K2.out.below hb)
  have KN := Lib.hid (KN.out.below hb)
  have hlt3 : w3.heap.size < w4.heap.size := by have := hb.size; simp at this; omega
  have BB := Lib.hid ((BB.out.trans (hb.mono BB.out.size)).setCell (p := ⟨w3.heap.size, 0, none⟩) (by simp; omega) (.slice a1 X.length c1))
  have fN := KN.out.frozen
  have dN := KN.out.cell
  have O1 := Lib.hid (own_setCell_lo ho (p := ⟨w3.heap.size, 0, none⟩) (by simp) (.slice a1 X.length c1))
  have K0 := Lib.hid (K0.out.grown (grown_setCell w4 w3.heap.size 0 (.slice a1 X.length c1)) (by simp; omega))
  have K2 := Lib.hid (K2.out.grown (grown_setCell w4 w3.heap.size 0 (.slice a1 X.length c1)) (by simp; omega))
  have KN := Lib.hid (KN.out.put_ 0 (.slice a1 X.length c1))
  clear ho hb q0 qj qn
  have qj := K0.out.cell
  have qn := KN.out.cell
  go_wp2_with fail
  refine (LR.out _ BB.out).mono ?_
  rintro e w5 ⟨a2, c2, rfl, ho, hb⟩
  have MM := Lib.hid (Many.two (x0 := rQ a1 c1 X) (x1 := rQ a2 c2 Y) O1.out hb ho (Nat.le_refl _) (by simp; omega))
  have K0 := Lib.hid (K0.out.below hb)
  have K2 := Lib.hid (K2.out.below hb)
  have KN := Lib.hid (KN.out.below hb)
  have hlt5 : w3.heap.size < w5.heap.size := by have := hb.size; simp at this; omega
  have BB := Lib.hid ((BB.out.trans (hb.mono BB.out.size)).setCell (p := ⟨w3.heap.size, 1, none⟩) (by simp; omega) (.slice a2 Y.length c2))
  clear fN dN qj qn ho hb
  have fN := KN.out.frozen
  have dN := KN.out.cell
  have MM := Lib.hid (MM.out.setCell (p := ⟨w3.heap.size, 1, none⟩) (by simp) (.slice a2 Y.length c2))
  have K0 := Lib.hid (K0.out.grown (grown_setCell w5 w3.heap.size 1 (.slice a2 Y.length c2)) (by simp; omega))
  have K2 := Lib.hid (K2.out.grown (grown_setCell w5 w3.heap.size 1 (.slice a2 Y.length c2)) (by simp; omega))
  have KN := Lib.hid (KN.out.put_ 1 (.slice a2 Y.length c2))
  go_wp2_with fail
  generalize hw6 : World.setCell _ _ _ = w6 at MM K0 K2 KN BB ⊢
  have hs6 : w5.heap.size = w6.heap.size := by rw [← hw6]; simp
  clear fN dN hw6
  have K0 := Lib.hid K0.out.drew
  have K2 := Lib.hid K2.out.drew
  have KN := Lib.hid KN.out.drew
  have MM := Lib.hid (MM.out.below ((Below.refl _ w6).drew) (Nat.le_of_eq hs6))
  have BB := Lib.hid BB.out.drew
  have qj := K0.out.cell
  have qn := KN.out.cell
  have f2 := K2.out.frozen
  have d2 := K2.out.cell
  have HP : Hid (RaisePost X Y M ((L.length : Int) + (R.length : Int) - (X.length : Int) - (Y.length : Int)) w (.returned (.tuple #[.agg #[.slice a1 X.length c1, .slice a2 Y.length c2, .int .i64 M], .int .i64 ((L.length : Int) + (R.length : Int) - (X.length : Int) - (Y.length : Int))])) (((w6.drew.setCell ⟨w.heap.size + 1, 0, none⟩ (.slice a1 X.length c1)).setCell ⟨w.heap.size + 1, 1, none⟩ (.slice a2 Y.length c2)).setCell ⟨w.heap.size + 1, 2, none⟩ (.int .i64 M))) := Lib.hid (by
    refine ⟨a1, c1, a2, c2, rfl, ((((MM.out.setCell ?_ _).setCell ?_ _).setCell ?_ _).less ?_ ?_), (((BB.out.setCell ?_ _).setCell ?_ _).setCell ?_ _)⟩ <;> first | omega | (simp; omega) | (simp; exact Nat.le_of_eq hs6) | simp)
  have d20 : w6.cell? ⟨w.heap.size + 1, 0, none⟩ = some (.slice none 0 0) := K2.out.cell 0
  have d21 : w6.cell? ⟨w.heap.size + 1, 1, none⟩ = some (.slice none 0 0) := K2.out.cell 1
  have d22 : w6.cell? ⟨w.heap.size + 1, 2, none⟩ = some (.int .i64 0) := K2.out.cell 2
  have f20 : w6.frozen? ⟨w.heap.size + 1, 0, none⟩ = false := K2.out.frozen 0
  have f21 : w6.frozen? ⟨w.heap.size + 1, 1, none⟩ = false := K2.out.frozen 1
  have f22 : w6.frozen? ⟨w.heap.size + 1, 2, none⟩ = false := K2.out.frozen 2
  have j20 : w6.cell? ⟨w.heap.size, 0, none⟩ = some (.slice a L.length c) := K0.out.cell 0
  have j21 : w6.cell? ⟨w.heap.size, 1, none⟩ = some (.slice b R.length d) := K0.out.cell 1
  have n20 : w6.cell? ⟨w3.heap.size, 0, none⟩ = some (.slice a1 X.length c1) := KN.out.cell 0
  have n21 : w6.cell? ⟨w3.heap.size, 1, none⟩ = some (.slice a2 Y.length c2) := KN.out.cell 1
  have n22 : w6.cell? ⟨w3.heap.size, 2, none⟩ = some (.int .i64 M) := KN.out.cell 2
  go_region
  all_goals
    go_wp2
    exact bodyPost_ret (v := .tuple #[.agg #[.slice a1 X.length c1, .slice a2 Y.length c2, .int .i64 M], .int .i64 ((L.length : Int) + (R.length : Int) - (X.length : Int) - (Y.length : Int))]) (by simp [results, Try.results55, go_sem, d20, d21, d22]) rfl HP.out
end Go.Proofs.Ytneolndbhklboaa
