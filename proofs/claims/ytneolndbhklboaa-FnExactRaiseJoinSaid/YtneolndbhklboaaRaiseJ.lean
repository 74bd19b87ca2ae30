/- Chapter 12, impl's side: RaiseJoin. (made by tools/mkraisej.py) -/
import Derived.Test.YtneolndbhklboaaDelG
import Derived.Test.YtneolndbhklboaaManyQ
import Derived.Test.YtneolndbhklboaaCopyJ
import Derived.Test.YtneolndbhklboaaJnI1
import Derived.Test.YtneolndbhklboaaMeet3
import Derived.Test.YtneolndbhklboaaPlainJn6
namespace Go.Proofs.Ytneolndbhklboaa
open Go.RowKit
theorem ob_len (a : Option Addr) (n m c : Nat) : (Value.slice a n c).ownBlock = (Value.slice a m c).ownBlock := by cases a <;> rfl
theorem apart_len {a : Option Addr} {n m c : Nat} {v : Value} (h : Apart (.slice a n c) v) : Apart (.slice a m c) v := fun k h1 h2 => h k ((ob_len a n m c).trans h1) h2
/-- One of many rows cut, in its own block. -/
theorem Many.cut {pre post : List RowD} {a : Option Addr} {c lo up : Nat} {l l' : List Fm} {w w' : World} (h : Many lo up (pre ++ rQ a c l :: post) w) (ho : w'.ownsRow lo 38 4 (.slice a l'.length c) l'.length (flatQ l')) (hg : w.grownBy w' (Value.slice a l.length c).ownBlock) : Many lo up (pre ++ rQ a c l' :: post) w' := by
  have hr := h.row (rQ a c l) (by simp)
  have hap := List.pairwise_append.1 h.apart
  have hap2 := List.pairwise_cons.1 hap.2.1
  refine ⟨fun s hs => ?_, List.pairwise_append.2 ⟨hap.1, List.pairwise_cons.2 ⟨fun s hs => apart_len (hap2.1 s hs), hap2.2⟩, fun x hx y hy => ?_⟩⟩
  · rcases List.mem_append.1 hs with hs | hs
    · exact (h.row s (by simp [hs])).apart hg (hap.2.2 s hs (rQ a c l) (by simp))
    · rcases List.mem_cons.1 hs with rfl | hs
      · exact ⟨ho, fun k hk => hr.up k ((ob_len a l.length l'.length c).trans hk)⟩
      · exact (h.row s (by simp [hs])).apart hg ((hap2.1 s hs).symm)
  · rcases List.mem_cons.1 hy with rfl | hy
    · exact (apart_len (hap.2.2 x hx (rQ a c l) (by simp)).symm).symm
    · exact hap.2.2 x hx y (by simp [hy])
theorem Many.setBoxQ {lo up g : Nat} {rs : List RowD} {w : World} {T : TypeId} {cs : Array Value} (h : Many lo up rs w) (hk : Blk w g T cs) (hne : ∀ r ∈ rs, T ≠ r.T) (i : Nat) (u : Value) : Many lo up rs (w.setCell ⟨g, i, none⟩ u) :=
  ⟨fun r hr => ⟨(h.row r hr).own.kept (grown_setCell w g i u) (by
    have := own_ne (h.row r hr).own hk (hne r hr)
    cases hv : r.v.ownBlock with
    | none => exact .inl rfl
    | some k => exact .inr (fun e => this (by rw [hv, e]))), (h.row r hr).up⟩, h.apart⟩
/-- The block of a row, or one that is far. -/
theorem pick_block {w : World} {lo n c N B : Nat} {T : TypeId} {a : Option Addr} {sz : Nat} {xs : List Value} (h : w.ownsRow lo T sz (.slice a n c) n xs) (hN : some N ≠ (Value.slice a n c).ownBlock) (hB : some B ≠ (Value.slice a n c).ownBlock) : ∃ g, (∀ p, a = some p → p.block = g) ∧ N ≠ g ∧ B ≠ g := by
  rcases h.2 with ⟨hv, _⟩ | ⟨g, cap, cur, hv, _⟩
  · simp only [Value.slice.injEq] at hv
    obtain ⟨rfl, _⟩ := hv
    exact ⟨N + B + 1, fun p hp => by simp at hp, by omega, by omega⟩
  · simp only [Value.slice.injEq] at hv
    obtain ⟨rfl, _⟩ := hv
    refine ⟨g, fun p hp => by simp at hp; rw [← hp], fun e => hN (by simp [Value.ownBlock, e]), fun e => hB (by simp [Value.ownBlock, e])⟩
theorem ltTo_ok (L : List Fm) (x : Int) (n : Nat) (h : evsJ L = true) : evsJ (ltTo L x n) = true := by
  unfold evsJ at h ⊢
  simp only [Bool.and_eq_true, decide_eq_true_eq, List.all_eq_true] at h ⊢
  exact ⟨Nat.le_trans (List.length_filter_le _ _) (Nat.le_trans (List.length_take_le' _ _) h.1), fun F hF => h.2 F (List.mem_of_mem_take (List.mem_filter.1 hF).1)⟩
set_option maxHeartbeats 4000000 in
set_option maxRecDepth 100000 in
theorem iRaise_bad1 (a b : Option Addr) (c d : Nat) (L R : List Fm) (mk by_ x : Int) (hi : Nat) (w : World) (h1 : Fms w hi a c L) (h2 : Fms w hi b d R) (hB : hi ≤ w.heap.size) (hl1 : L.length ≤ 1048576) (hl2 : R.length ≤ 1048576) (hj : joinOkJ L R mk = false) :
    Calls Try.prog 56 #[.agg #[.slice a L.length c, .slice b R.length d, .int .i64 mk], .int .i64 by_, .int .i64 x] w (RaisePost L R mk (-1) w) := by
  have b1 := (((Below.refl w.heap.size w).alloc (Nat.le_refl _) (.cells #[.slice a L.length c, .slice b R.length d, .int .i64 mk] 29)).alloc (by simp) (.cells #[.int .i64 by_] 3)).alloc (by simp; omega) (.cells #[.slice none 0 0, .slice none 0 0, .int .i64 0] 29)
  have k0 := ((Blk.new w 29 #[.slice a L.length c, .slice b R.length d, .int .i64 mk]).alloc (.cells #[.int .i64 by_] 3)).alloc (.cells #[.slice none 0 0, .slice none 0 0, .int .i64 0] 29)
  have k1 := (Blk.new (w.alloc (.cells #[.slice a L.length c, .slice b R.length d, .int .i64 mk] 29)) 3 #[.int .i64 by_]).alloc (.cells #[.slice none 0 0, .slice none 0 0, .int .i64 0] 29)
  have k2 := Blk.new ((w.alloc (.cells #[.slice a L.length c, .slice b R.length d, .int .i64 mk] 29)).alloc (.cells #[.int .i64 by_] 3)) 29 #[.slice none 0 0, .slice none 0 0, .int .i64 0]
  simp only [World.size_alloc] at k1 k2
  have H1 := Lib.hid h1
  have H2 := Lib.hid h2
  have CP : Hid (∀ W, Below w.heap.size w W → Calls Try.prog 83 #[.agg #[.slice a L.length c, .slice b R.length d, .int .i64 mk]] W (FreshJn L R mk W)) := Lib.hid (fun W hW => copied_x a b c d mk L R hi W (H1.out.below (hW.mono hB)) (H2.out.below (hW.mono hB)) (Nat.le_trans hB hW.size) hl1 hl2)
  have JO : Hid (∀ W, Below w.heap.size w W → Calls Try.prog 46 #[.agg #[.slice a L.length c, .slice b R.length d, .int .i64 mk]] W fun e w' => e = .returned (.bool (joinOkJ L R mk)) ∧ Below W.heap.size W w') := Lib.hid (fun W hW => iJoinOk_any a b c d L R mk hi W (H1.out.below (hW.mono hB)) (H2.out.below (hW.mono hB)) (Nat.le_trans hB hW.size))
  have HM := Lib.hid (fun W => jMark_any x W)
  have HT := Lib.hid (fun W => jTime_any by_ W)
  clear h1 h2
  rw [hj] at JO
  clear hj HT HM
  go_enter Try.func56, Try.ntmps56
  go_wp2_with fail
  generalize hW : World.alloc _ _ = W0 at b1 k0 k1 k2 ⊢
  have hlo : w.heap.size + 3 ≤ W0.heap.size := by rw [← hW]; simp
  clear hW
  have K0 := Lib.hid k0
  have K1 := Lib.hid k1
  have K2 := Lib.hid k2
  have BB := Lib.hid b1
  clear b1 k0 k1 k2
  refine (CP.out _ BB.out).mono ?_
  rintro e w1 ⟨a1, c1, a2, c2, rfl, hm, hb⟩
  have hb0 := hb
  have hb := hb.trans ((Below.refl w1.heap.size w1).alloc (Nat.le_refl _) (.cells #[.slice a1 L.length c1, .slice a2 R.length c2, .int .i64 mk] 29) |>.mono hb.size)
  have K0 := Lib.hid (K0.out.below hb)
  have K1 := Lib.hid (K1.out.below hb)
  have K2 := Lib.hid (K2.out.below hb)
  have KN := Lib.hid (Blk.new w1 29 #[.slice a1 L.length c1, .slice a2 R.length c2, .int .i64 mk])
  have MM := Lib.hid (hm.below ((Below.refl w1.heap.size w1).alloc (Nat.le_refl _) (.cells #[.slice a1 L.length c1, .slice a2 R.length c2, .int .i64 mk] 29)) (Nat.le_refl _))
  have UP : Hid (w1.heap.size ≤ (w1.alloc (.cells #[.slice a1 L.length c1, .slice a2 R.length c2, .int .i64 mk] 29)).heap.size) := Lib.hid (by simp)
  have BB := Lib.hid (BB.out.trans (hb.mono BB.out.size))
  have hlo1 := hb0.size
  clear hb hb0 hm
  have q0 := K0.out.cell
  go_wp2_with fail
  refine (JO.out _ BB.out).mono ?_
  rintro e w3 ⟨rfl, hb⟩
  clear q0
  have K0 := Lib.hid (K0.out.below hb)
  have K1 := Lib.hid (K1.out.below hb)
  have K2 := Lib.hid (K2.out.below hb)
  have KN := Lib.hid (KN.out.below hb)
  have MM := Lib.hid (MM.out.below hb (by have := hb.size; have := UP.out; omega))
  have UP := Lib.hid (Nat.le_trans UP.out hb.size)
  have BB := Lib.hid (BB.out.trans (hb.mono BB.out.size))
  clear hb
  have q0 := K0.out.cell
  have qn := KN.out.cell
  have f2 := K2.out.frozen
  have d2 := K2.out.cell
  have HP : Hid (RaisePost L R mk (-1) w (.returned (.tuple #[.agg #[.slice a1 L.length c1, .slice a2 R.length c2, .int .i64 mk], .int .i64 (-1)])) (((w3.setCell ⟨w.heap.size + 1 + 1, 0, none⟩ (.slice a1 L.length c1)).setCell ⟨w.heap.size + 1 + 1, 1, none⟩ (.slice a2 R.length c2)).setCell ⟨w.heap.size + 1 + 1, 2, none⟩ (.int .i64 mk))) := Lib.hid (by
    refine ⟨a1, c1, a2, c2, rfl, (((((MM.out.setCell ?_ _).setCell ?_ _).setCell ?_ _).less ?_ ?_)), ((BB.out.setCell ?_ _).setCell ?_ _).setCell ?_ _⟩ <;> first | omega | (simp; omega) | (simp; exact UP.out))
  go_wp2
  exact bodyPost_ret (v := .tuple #[.agg #[.slice a1 L.length c1, .slice a2 R.length c2, .int .i64 mk], .int .i64 (-1)]) (by simp [results, Try.results56, go_sem, d2]) rfl HP.out
set_option maxHeartbeats 4000000 in
set_option maxRecDepth 100000 in
theorem iRaise_bad2 (a b : Option Addr) (c d : Nat) (L R : List Fm) (mk by_ x : Int) (hi : Nat) (w : World) (h1 : Fms w hi a c L) (h2 : Fms w hi b d R) (hB : hi ≤ w.heap.size) (hl1 : L.length ≤ 1048576) (hl2 : R.length ≤ 1048576) (hj : joinOkJ L R mk = true) (he : inB x (-1) 1000000 = false) :
    Calls Try.prog 56 #[.agg #[.slice a L.length c, .slice b R.length d, .int .i64 mk], .int .i64 by_, .int .i64 x] w (RaisePost L R mk (-1) w) := by
  have b1 := (((Below.refl w.heap.size w).alloc (Nat.le_refl _) (.cells #[.slice a L.length c, .slice b R.length d, .int .i64 mk] 29)).alloc (by simp) (.cells #[.int .i64 by_] 3)).alloc (by simp; omega) (.cells #[.slice none 0 0, .slice none 0 0, .int .i64 0] 29)
  have k0 := ((Blk.new w 29 #[.slice a L.length c, .slice b R.length d, .int .i64 mk]).alloc (.cells #[.int .i64 by_] 3)).alloc (.cells #[.slice none 0 0, .slice none 0 0, .int .i64 0] 29)
  have k1 := (Blk.new (w.alloc (.cells #[.slice a L.length c, .slice b R.length d, .int .i64 mk] 29)) 3 #[.int .i64 by_]).alloc (.cells #[.slice none 0 0, .slice none 0 0, .int .i64 0] 29)
  have k2 := Blk.new ((w.alloc (.cells #[.slice a L.length c, .slice b R.length d, .int .i64 mk] 29)).alloc (.cells #[.int .i64 by_] 3)) 29 #[.slice none 0 0, .slice none 0 0, .int .i64 0]
  simp only [World.size_alloc] at k1 k2
  have H1 := Lib.hid h1
  have H2 := Lib.hid h2
  have CP : Hid (∀ W, Below w.heap.size w W → Calls Try.prog 83 #[.agg #[.slice a L.length c, .slice b R.length d, .int .i64 mk]] W (FreshJn L R mk W)) := Lib.hid (fun W hW => copied_x a b c d mk L R hi W (H1.out.below (hW.mono hB)) (H2.out.below (hW.mono hB)) (Nat.le_trans hB hW.size) hl1 hl2)
  have JO : Hid (∀ W, Below w.heap.size w W → Calls Try.prog 46 #[.agg #[.slice a L.length c, .slice b R.length d, .int .i64 mk]] W fun e w' => e = .returned (.bool (joinOkJ L R mk)) ∧ Below W.heap.size W w') := Lib.hid (fun W hW => iJoinOk_any a b c d L R mk hi W (H1.out.below (hW.mono hB)) (H2.out.below (hW.mono hB)) (Nat.le_trans hB hW.size))
  have HM := Lib.hid (fun W => jMark_any x W)
  have HT := Lib.hid (fun W => jTime_any by_ W)
  clear h1 h2
  rw [hj] at JO
  rw [he] at HM
  clear hj he
  go_enter Try.func56, Try.ntmps56
  go_wp2_with fail
  generalize hW : World.alloc _ _ = W0 at b1 k0 k1 k2 ⊢
  have hlo : w.heap.size + 3 ≤ W0.heap.size := by rw [← hW]; simp
  clear hW
  have K0 := Lib.hid k0
  have K1 := Lib.hid k1
  have K2 := Lib.hid k2
  have BB := Lib.hid b1
  clear b1 k0 k1 k2
  refine (CP.out _ BB.out).mono ?_
  rintro e w1 ⟨a1, c1, a2, c2, rfl, hm, hb⟩
  have hb0 := hb
  have hb := hb.trans ((Below.refl w1.heap.size w1).alloc (Nat.le_refl _) (.cells #[.slice a1 L.length c1, .slice a2 R.length c2, .int .i64 mk] 29) |>.mono hb.size)
  have K0 := Lib.hid (K0.out.below hb)
  have K1 := Lib.hid (K1.out.below hb)
  have K2 := Lib.hid (K2.out.below hb)
  have KN := Lib.hid (Blk.new w1 29 #[.slice a1 L.length c1, .slice a2 R.length c2, .int .i64 mk])
  have MM := Lib.hid (hm.below ((Below.refl w1.heap.size w1).alloc (Nat.le_refl _) (.cells #[.slice a1 L.length c1, .slice a2 R.length c2, .int .i64 mk] 29)) (Nat.le_refl _))
  have UP : Hid (w1.heap.size ≤ (w1.alloc (.cells #[.slice a1 L.length c1, .slice a2 R.length c2, .int .i64 mk] 29)).heap.size) := Lib.hid (by simp)
  have BB := Lib.hid (BB.out.trans (hb.mono BB.out.size))
  have hlo1 := hb0.size
  clear hb hb0 hm
  have q0 := K0.out.cell
  go_wp2_with fail
  refine (JO.out _ BB.out).mono ?_
  rintro e w3 ⟨rfl, hb⟩
  clear q0
  have K0 := Lib.hid (K0.out.below hb)
  have K1 := Lib.hid (K1.out.below hb)
  have K2 := Lib.hid (K2.out.below hb)
  have KN := Lib.hid (KN.out.below hb)
  have MM := Lib.hid (MM.out.below hb (by have := hb.size; have := UP.out; omega))
  have UP := Lib.hid (Nat.le_trans UP.out hb.size)
  have BB := Lib.hid (BB.out.trans (hb.mono BB.out.size))
  clear hb
  have q0 := K0.out.cell
  have qn := KN.out.cell
  have f2 := K2.out.frozen
  have d2 := K2.out.cell
  clear HT
  have HP : Hid (RaisePost L R mk (-1) w (.returned (.tuple #[.agg #[.slice a1 L.length c1, .slice a2 R.length c2, .int .i64 mk], .int .i64 (-1)])) (((w3.setCell ⟨w.heap.size + 1 + 1, 0, none⟩ (.slice a1 L.length c1)).setCell ⟨w.heap.size + 1 + 1, 1, none⟩ (.slice a2 R.length c2)).setCell ⟨w.heap.size + 1 + 1, 2, none⟩ (.int .i64 mk))) := Lib.hid (by
    refine ⟨a1, c1, a2, c2, rfl, (((((MM.out.setCell ?_ _).setCell ?_ _).setCell ?_ _).less ?_ ?_)), ((BB.out.setCell ?_ _).setCell ?_ _).setCell ?_ _⟩ <;> first | omega | (simp; omega) | (simp; exact UP.out))
  go_wp2_with (first | (go_at_call 79; refine (HM.out _).mono ?_; rintro e w' ⟨rfl, rfl⟩) | (go_at_call 67; refine (jTime_any by_ _).mono ?_; rintro e w' ⟨rfl, rfl⟩))
  exact bodyPost_ret (v := .tuple #[.agg #[.slice a1 L.length c1, .slice a2 R.length c2, .int .i64 mk], .int .i64 (-1)]) (by simp [results, Try.results56, go_sem, d2]) rfl HP.out
set_option maxHeartbeats 4000000 in
set_option maxRecDepth 100000 in
theorem iRaise_bad3 (a b : Option Addr) (c d : Nat) (L R : List Fm) (mk by_ x : Int) (hi : Nat) (w : World) (h1 : Fms w hi a c L) (h2 : Fms w hi b d R) (hB : hi ≤ w.heap.size) (hl1 : L.length ≤ 1048576) (hl2 : R.length ≤ 1048576) (hj : joinOkJ L R mk = true) (he : inB x (-1) 1000000 = true) (ht : inB by_ 0 1000000 = false) :
    Calls Try.prog 56 #[.agg #[.slice a L.length c, .slice b R.length d, .int .i64 mk], .int .i64 by_, .int .i64 x] w (RaisePost L R mk (-1) w) := by
  have b1 := (((Below.refl w.heap.size w).alloc (Nat.le_refl _) (.cells #[.slice a L.length c, .slice b R.length d, .int .i64 mk] 29)).alloc (by simp) (.cells #[.int .i64 by_] 3)).alloc (by simp; omega) (.cells #[.slice none 0 0, .slice none 0 0, .int .i64 0] 29)
  have k0 := ((Blk.new w 29 #[.slice a L.length c, .slice b R.length d, .int .i64 mk]).alloc (.cells #[.int .i64 by_] 3)).alloc (.cells #[.slice none 0 0, .slice none 0 0, .int .i64 0] 29)
  have k1 := (Blk.new (w.alloc (.cells #[.slice a L.length c, .slice b R.length d, .int .i64 mk] 29)) 3 #[.int .i64 by_]).alloc (.cells #[.slice none 0 0, .slice none 0 0, .int .i64 0] 29)
  have k2 := Blk.new ((w.alloc (.cells #[.slice a L.length c, .slice b R.length d, .int .i64 mk] 29)).alloc (.cells #[.int .i64 by_] 3)) 29 #[.slice none 0 0, .slice none 0 0, .int .i64 0]
  simp only [World.size_alloc] at k1 k2
  have H1 := Lib.hid h1
  have H2 := Lib.hid h2
  have CP : Hid (∀ W, Below w.heap.size w W → Calls Try.prog 83 #[.agg #[.slice a L.length c, .slice b R.length d, .int .i64 mk]] W (FreshJn L R mk W)) := Lib.hid (fun W hW => copied_x a b c d mk L R hi W (H1.out.below (hW.mono hB)) (H2.out.below (hW.mono hB)) (Nat.le_trans hB hW.size) hl1 hl2)
  have JO : Hid (∀ W, Below w.heap.size w W → Calls Try.prog 46 #[.agg #[.slice a L.length c, .slice b R.length d, .int .i64 mk]] W fun e w' => e = .returned (.bool (joinOkJ L R mk)) ∧ Below W.heap.size W w') := Lib.hid (fun W hW => iJoinOk_any a b c d L R mk hi W (H1.out.below (hW.mono hB)) (H2.out.below (hW.mono hB)) (Nat.le_trans hB hW.size))
  have HM := Lib.hid (fun W => jMark_any x W)
  have HT := Lib.hid (fun W => jTime_any by_ W)
  clear h1 h2
  rw [hj] at JO
  rw [he] at HM
  rw [ht] at HT
  clear hj he ht
  go_enter Try.func56, Try.ntmps56
  go_wp2_with fail
  generalize hW : World.alloc _ _ = W0 at b1 k0 k1 k2 ⊢
  have hlo : w.heap.size + 3 ≤ W0.heap.size := by rw [← hW]; simp
  clear hW
  have K0 := Lib.hid k0
  have K1 := Lib.hid k1
  have K2 := Lib.hid k2
  have BB := Lib.hid b1
  clear b1 k0 k1 k2
  refine (CP.out _ BB.out).mono ?_
  rintro e w1 ⟨a1, c1, a2, c2, rfl, hm, hb⟩
  have hb0 := hb
  have hb := hb.trans ((Below.refl w1.heap.size w1).alloc (Nat.le_refl _) (.cells #[.slice a1 L.length c1, .slice a2 R.length c2, .int .i64 mk] 29) |>.mono hb.size)
  have K0 := Lib.hid (K0.out.below hb)
  have K1 := Lib.hid (K1.out.below hb)
  have K2 := Lib.hid (K2.out.below hb)
  have KN := Lib.hid (Blk.new w1 29 #[.slice a1 L.length c1, .slice a2 R.length c2, .int .i64 mk])
  have MM := Lib.hid (hm.below ((Below.refl w1.heap.size w1).alloc (Nat.le_refl _) (.cells #[.slice a1 L.length c1, .slice a2 R.length c2, .int .i64 mk] 29)) (Nat.le_refl _))
  have UP : Hid (w1.heap.size ≤ (w1.alloc (.cells #[.slice a1 L.length c1, .slice a2 R.length c2, .int .i64 mk] 29)).heap.size) := Lib.hid (by simp)
  have BB := Lib.hid (BB.out.trans (hb.mono BB.out.size))
  have hlo1 := hb0.size
  clear hb hb0 hm
  have q0 := K0.out.cell
  go_wp2_with fail
  refine (JO.out _ BB.out).mono ?_
  rintro e w3 ⟨rfl, hb⟩
  clear q0
  have K0 := Lib.hid (K0.out.below hb)
  have K1 := Lib.hid (K1.out.below hb)
  have K2 := Lib.hid (K2.out.below hb)
  have KN := Lib.hid (KN.out.below hb)
  have MM := Lib.hid (MM.out.below hb (by have := hb.size; have := UP.out; omega))
  have UP := Lib.hid (Nat.le_trans UP.out hb.size)
  have BB := Lib.hid (BB.out.trans (hb.mono BB.out.size))
  clear hb
  have q0 := K0.out.cell
  have q1 := K1.out.cell
  have qn := KN.out.cell
  have f2 := K2.out.frozen
  have d2 := K2.out.cell
  have HP : Hid (RaisePost L R mk (-1) w (.returned (.tuple #[.agg #[.slice a1 L.length c1, .slice a2 R.length c2, .int .i64 mk], .int .i64 (-1)])) (((w3.setCell ⟨w.heap.size + 1 + 1, 0, none⟩ (.slice a1 L.length c1)).setCell ⟨w.heap.size + 1 + 1, 1, none⟩ (.slice a2 R.length c2)).setCell ⟨w.heap.size + 1 + 1, 2, none⟩ (.int .i64 mk))) := Lib.hid (by
    refine ⟨a1, c1, a2, c2, rfl, (((((MM.out.setCell ?_ _).setCell ?_ _).setCell ?_ _).less ?_ ?_)), ((BB.out.setCell ?_ _).setCell ?_ _).setCell ?_ _⟩ <;> first | omega | (simp; omega) | (simp; exact UP.out))
  go_wp2_with (first | (go_at_call 79; refine (HM.out _).mono ?_; rintro e w' ⟨rfl, rfl⟩) | (go_at_call 67; refine (HT.out _).mono ?_; rintro e w' ⟨rfl, rfl⟩))
  exact bodyPost_ret (v := .tuple #[.agg #[.slice a1 L.length c1, .slice a2 R.length c2, .int .i64 mk], .int .i64 (-1)]) (by simp [results, Try.results56, go_sem, d2]) rfl HP.out
set_option maxHeartbeats 4000000 in
set_option maxRecDepth 100000 in
theorem iRaise_stay (a b : Option Addr) (c d : Nat) (L R : List Fm) (mk by_ x : Int) (hi : Nat) (w : World) (h1 : Fms w hi a c L) (h2 : Fms w hi b d R) (hB : hi ≤ w.heap.size) (hl1 : L.length ≤ 1048576) (hl2 : R.length ≤ 1048576) (hj : joinOkJ L R mk = true) (he : inB x (-1) 1000000 = true) (ht : inB by_ 0 1000000 = true) (hx : ¬ mk < x) (X Y : List Fm) (hX : ltTo L (mk + 1 - by_) L.length = X) (hY : ltTo R (mk + 1 - by_) R.length = Y) :
    Calls Try.prog 56 #[.agg #[.slice a L.length c, .slice b R.length d, .int .i64 mk], .int .i64 by_, .int .i64 x] w (RaisePost X Y mk ((L.length : Int) + (R.length : Int) - (X.length : Int) - (Y.length : Int)) w) := by
  have b1 := (((Below.refl w.heap.size w).alloc (Nat.le_refl _) (.cells #[.slice a L.length c, .slice b R.length d, .int .i64 mk] 29)).alloc (by simp) (.cells #[.int .i64 by_] 3)).alloc (by simp; omega) (.cells #[.slice none 0 0, .slice none 0 0, .int .i64 0] 29)
  have k0 := ((Blk.new w 29 #[.slice a L.length c, .slice b R.length d, .int .i64 mk]).alloc (.cells #[.int .i64 by_] 3)).alloc (.cells #[.slice none 0 0, .slice none 0 0, .int .i64 0] 29)
  have k1 := (Blk.new (w.alloc (.cells #[.slice a L.length c, .slice b R.length d, .int .i64 mk] 29)) 3 #[.int .i64 by_]).alloc (.cells #[.slice none 0 0, .slice none 0 0, .int .i64 0] 29)
  have k2 := Blk.new ((w.alloc (.cells #[.slice a L.length c, .slice b R.length d, .int .i64 mk] 29)).alloc (.cells #[.int .i64 by_] 3)) 29 #[.slice none 0 0, .slice none 0 0, .int .i64 0]
  simp only [World.size_alloc] at k1 k2
  have H1 := Lib.hid h1
  have H2 := Lib.hid h2
  have CP : Hid (∀ W, Below w.heap.size w W → Calls Try.prog 83 #[.agg #[.slice a L.length c, .slice b R.length d, .int .i64 mk]] W (FreshJn L R mk W)) := Lib.hid (fun W hW => copied_x a b c d mk L R hi W (H1.out.below (hW.mono hB)) (H2.out.below (hW.mono hB)) (Nat.le_trans hB hW.size) hl1 hl2)
  have JO : Hid (∀ W, Below w.heap.size w W → Calls Try.prog 46 #[.agg #[.slice a L.length c, .slice b R.length d, .int .i64 mk]] W fun e w' => e = .returned (.bool (joinOkJ L R mk)) ∧ Below W.heap.size W w') := Lib.hid (fun W hW => iJoinOk_any a b c d L R mk hi W (H1.out.below (hW.mono hB)) (H2.out.below (hW.mono hB)) (Nat.le_trans hB hW.size))
  have HM := Lib.hid (fun W => jMark_any x W)
  have HT := Lib.hid (fun W => jTime_any by_ W)
  clear h1 h2
  have WR : Hid (IntKind.i64.wrap ((L.length : Int) + (R.length : Int) - ((X.length : Int) + (Y.length : Int))) = (L.length : Int) + (R.length : Int) - ((X.length : Int) + (Y.length : Int))) := Lib.hid (by
    have e1 : X.length ≤ L.length := hX ▸ lt_len (Nat.le_refl _)
    have e2 : Y.length ≤ R.length := hY ▸ lt_len (Nat.le_refl _)
    exact IntWalk.i64_in _ (by omega))
  have HJ := Lib.hid hj
  have HX := Lib.hid hX
  have HY := Lib.hid hY
  have HK : Hid (joinOkJ X Y mk = true) := Lib.hid (by
    unfold joinOkJ at hj ⊢
    simp only [Bool.and_eq_true] at hj ⊢
    exact ⟨hX ▸ ltTo_ok L _ _ hj.1, hY ▸ ltTo_ok R _ _ hj.2.1, hj.2.2⟩)
  have BJ : Hid ((-1 ≤ mk ∧ mk ≤ 1000000) ∧ (0 ≤ by_ ∧ by_ ≤ 1000000)) := Lib.hid ⟨by
    unfold joinOkJ at hj
    simp only [Bool.and_eq_true] at hj
    exact inB_bd hj.2.2, inB_bd ht⟩
  rw [hj] at JO
  rw [he] at HM
  rw [ht] at HT
  clear hj he ht hX hY
  go_enter Try.func56, Try.ntmps56
  go_wp2_with fail
  generalize hW : World.alloc _ _ = W0 at b1 k0 k1 k2 ⊢
  have hlo : w.heap.size + 3 ≤ W0.heap.size := by rw [← hW]; simp
  clear hW
  have K0 := Lib.hid k0
  have K1 := Lib.hid k1
  have K2 := Lib.hid k2
  have BB := Lib.hid b1
  clear b1 k0 k1 k2
  refine (CP.out _ BB.out).mono ?_
  rintro e w1 ⟨a1, c1, a2, c2, rfl, hm, hb⟩
  have hb0 := hb
  have hb := hb.trans ((Below.refl w1.heap.size w1).alloc (Nat.le_refl _) (.cells #[.slice a1 L.length c1, .slice a2 R.length c2, .int .i64 mk] 29) |>.mono hb.size)
  have K0 := Lib.hid (K0.out.below hb)
  have K1 := Lib.hid (K1.out.below hb)
  have K2 := Lib.hid (K2.out.below hb)
  have KN := Lib.hid (Blk.new w1 29 #[.slice a1 L.length c1, .slice a2 R.length c2, .int .i64 mk])
  have MM := Lib.hid (hm.below ((Below.refl w1.heap.size w1).alloc (Nat.le_refl _) (.cells #[.slice a1 L.length c1, .slice a2 R.length c2, .int .i64 mk] 29)) (Nat.le_refl _))
  have UP : Hid (w1.heap.size ≤ (w1.alloc (.cells #[.slice a1 L.length c1, .slice a2 R.length c2, .int .i64 mk] 29)).heap.size) := Lib.hid (by simp)
  have BB := Lib.hid (BB.out.trans (hb.mono BB.out.size))
  have hlo1 := hb0.size
  clear hb hb0 hm
  have q0 := K0.out.cell
  go_wp2_with fail
  refine (JO.out _ BB.out).mono ?_
  rintro e w3 ⟨rfl, hb⟩
  clear q0
  have K0 := Lib.hid (K0.out.below hb)
  have K1 := Lib.hid (K1.out.below hb)
  have K2 := Lib.hid (K2.out.below hb)
  have KN := Lib.hid (KN.out.below hb)
  have MM := Lib.hid (MM.out.below hb (by have := hb.size; have := UP.out; omega))
  have UP := Lib.hid (Nat.le_trans UP.out hb.size)
  have BB := Lib.hid (BB.out.trans (hb.mono BB.out.size))
  clear hb
  have q0 := K0.out.cell
  have q1 := K1.out.cell
  have qn := KN.out.cell
  have fN := KN.out.frozen
  have bj := BJ.out
  have M4 := Lib.hid (MM.out.setBoxQ KN.out (fun r hr => by simp at hr; rcases hr with rfl | rfl <;> exact (show 29 ≠ 38 by decide)) 2 (.int .i64 mk))
  have KN4 := Lib.hid (KN.out.put_ 2 (.int .i64 mk))
  have K04 := Lib.hid (K0.out.grown (grown_setCell w3 w1.heap.size 2 (.int .i64 mk)) (by simp; omega))
  have K14 := Lib.hid (K1.out.grown (grown_setCell w3 w1.heap.size 2 (.int .i64 mk)) (by simp; omega))
  have K24 := Lib.hid (K2.out.grown (grown_setCell w3 w1.heap.size 2 (.int .i64 mk)) (by simp; omega))
  have hs3 := BB.out.size
  have hup3 := UP.out
  have B4 := Lib.hid (BB.out.setCell (p := ⟨w1.heap.size, 2, none⟩) (by simp; omega) (.int .i64 mk))
  have U4 : Hid (w1.heap.size < (w3.setCell ⟨w1.heap.size, 2, none⟩ (.int .i64 mk)).heap.size) := Lib.hid (by have := KN.out.lt; simp; omega)
  obtain ⟨g1, hg1, hN1, hB1⟩ := pick_block M4.out.r0.own (own_ne M4.out.r0.own KN4.out (show 29 ≠ 38 by decide)) (own_ne M4.out.r0.own K14.out (show 3 ≠ 38 by decide))
  have D1 := del_any a1 g1 c1 L.length W0.heap.size L (mk + 1 - by_) (.pointer (some ⟨w1.heap.size, 0, none⟩)) (.pointer (some ⟨w.heap.size + 1, 0, none⟩)) _ M4.out.r0.own rfl hl1 hg1 (vain_x mk by_ w1.heap.size (w.heap.size + 1) g1 _ (KN4.out.cell 2) (K14.out.cell 0) U4.out (by have := U4.out; omega) hN1 hB1 bj.1 bj.2)
  rw [HX.out] at D1
  have D1 := Lib.hid D1
  clear hN1 hB1 hg1
  go_wp2_with (first | (go_at_call 79; refine (HM.out _).mono ?_; rintro e w' ⟨rfl, rfl⟩) | (go_at_call 67; refine (HT.out _).mono ?_; rintro e w' ⟨rfl, rfl⟩))
  refine D1.out.mono ?_
  rintro e w5 ⟨rfl, ho, hg⟩
  have hs5 := hg.size
  have K05 := Lib.hid (K04.out.grown hg (own_ne M4.out.r0.own K04.out (show 29 ≠ 38 by decide)))
  have K15 := Lib.hid (K14.out.grown hg (own_ne M4.out.r0.own K14.out (show 3 ≠ 38 by decide)))
  have K25 := Lib.hid (K24.out.grown hg (own_ne M4.out.r0.own K24.out (show 29 ≠ 38 by decide)))
  have KN5 := Lib.hid (KN4.out.grown hg (own_ne M4.out.r0.own KN4.out (show 29 ≠ 38 by decide)))
  have B5 := Lib.hid (B4.out.trans ((below_own M4.out.r0.own hg (by have := U4.out; omega)).mono (by omega)))
  have M5 := Lib.hid (Many.cut (pre := []) M4.out ho hg)
  have U5 : Hid (w1.heap.size < w5.heap.size) := Lib.hid (Nat.lt_of_lt_of_le U4.out hs5)
  clear D1 ho hg M4 KN4 K04 K14 K24 B4 U4 qn fN q0 q1 hs5
  have qn5 := KN5.out.cell
  have fN5 := KN5.out.frozen
  have M6 := Lib.hid (M5.out.setBoxQ KN5.out (fun r hr => by simp at hr; rcases hr with rfl | rfl <;> exact (show 29 ≠ 38 by decide)) 0 (.slice a1 X.length c1))
  have KN6 := Lib.hid (KN5.out.put_ 0 (.slice a1 X.length c1))
  have K06 := Lib.hid (K05.out.grown (grown_setCell w5 w1.heap.size 0 (.slice a1 X.length c1)) (by simp; omega))
  have K16 := Lib.hid (K15.out.grown (grown_setCell w5 w1.heap.size 0 (.slice a1 X.length c1)) (by simp; omega))
  have K26 := Lib.hid (K25.out.grown (grown_setCell w5 w1.heap.size 0 (.slice a1 X.length c1)) (by simp; omega))
  have B6 := Lib.hid (B5.out.setCell (p := ⟨w1.heap.size, 0, none⟩) (by simp; omega) (.slice a1 X.length c1))
  have U6 : Hid (w1.heap.size < (w5.setCell ⟨w1.heap.size, 0, none⟩ (.slice a1 X.length c1)).heap.size) := Lib.hid (by have := U5.out; simp; omega)
  have qn6 := KN6.out.cell
  obtain ⟨g2, hg2, hN2, hB2⟩ := pick_block M6.out.r1.own (own_ne M6.out.r1.own KN6.out (show 29 ≠ 38 by decide)) (own_ne M6.out.r1.own K16.out (show 3 ≠ 38 by decide))
  have D2 := del_any a2 g2 c2 R.length W0.heap.size R (mk + 1 - by_) (.pointer (some ⟨w1.heap.size, 0, none⟩)) (.pointer (some ⟨w.heap.size + 1, 0, none⟩)) _ M6.out.r1.own rfl hl2 hg2 (vain_x mk by_ w1.heap.size (w.heap.size + 1) g2 _ (KN6.out.cell 2) (K16.out.cell 0) U6.out (by have := U6.out; omega) hN2 hB2 bj.1 bj.2)
  rw [HY.out] at D2
  have D2 := Lib.hid D2
  clear hN2 hB2 hg2
  go_wp2_with fail
  refine D2.out.mono ?_
  rintro e w7 ⟨rfl, ho, hg⟩
  have hs7 := hg.size
  have K07 := Lib.hid (K06.out.grown hg (own_ne M6.out.r1.own K06.out (show 29 ≠ 38 by decide)))
  have K27 := Lib.hid (K26.out.grown hg (own_ne M6.out.r1.own K26.out (show 29 ≠ 38 by decide)))
  have KN7 := Lib.hid (KN6.out.grown hg (own_ne M6.out.r1.own KN6.out (show 29 ≠ 38 by decide)))
  have B7 := Lib.hid (B6.out.trans ((below_own M6.out.r1.own hg (by have := U6.out; omega)).mono (by omega)))
  have M7 := Lib.hid (Many.cut (pre := [rQ a1 c1 X]) M6.out ho hg)
  have U7 : Hid (w1.heap.size < w7.heap.size) := Lib.hid (Nat.lt_of_lt_of_le U6.out hs7)
  clear D2 ho hg M6 KN6 K06 K16 K26 B6 U6 qn5 fN5 qn6 hs7 K05 K15 K25 KN5 B5 M5 U5
  have qn7 := KN7.out.cell
  have fN7 := KN7.out.frozen
  have M8 := Lib.hid (M7.out.setBoxQ KN7.out (fun r hr => by simp at hr; rcases hr with rfl | rfl <;> exact (show 29 ≠ 38 by decide)) 1 (.slice a2 Y.length c2))
  have KN8 := Lib.hid (KN7.out.put_ 1 (.slice a2 Y.length c2))
  have K08 := Lib.hid (K07.out.grown (grown_setCell w7 w1.heap.size 1 (.slice a2 Y.length c2)) (by simp; omega))
  have K28 := Lib.hid (K27.out.grown (grown_setCell w7 w1.heap.size 1 (.slice a2 Y.length c2)) (by simp; omega))
  have B8 := Lib.hid (B7.out.setCell (p := ⟨w1.heap.size, 1, none⟩) (by simp; omega) (.slice a2 Y.length c2))
  have U8 : Hid (w1.heap.size < (w7.setCell ⟨w1.heap.size, 1, none⟩ (.slice a2 Y.length c2)).heap.size) := Lib.hid (by have := U7.out; simp; omega)
  go_wp2_with fail
  generalize hw8 : World.setCell _ _ _ = w8 at M8 K08 K28 KN8 B8 U8 ⊢
  clear hw8 qn7 fN7 K07 K27 KN7 B7 M7 U7
  have u8 := U8.out
  have K0 := Lib.hid K08.out.drew
  have K2 := Lib.hid K28.out.drew
  have KN := Lib.hid KN8.out.drew
  have MM := Lib.hid (M8.out.below ((Below.refl _ w8).drew) (by omega))
  have BB := Lib.hid B8.out.drew
  have U9 : Hid (w1.heap.size < w8.drew.heap.size) := Lib.hid u8
  clear M8 K08 K28 KN8 B8 U8 u8
  have u9 := U9.out
  have CJ : Hid (∀ W, Below w8.drew.heap.size w8.drew W → W.cell? ⟨w.heap.size, 0, none⟩ = some (.slice a L.length c) ∧ W.cell? ⟨w.heap.size, 1, none⟩ = some (.slice b R.length d) ∧ W.cell? ⟨w.heap.size, 2, none⟩ = some (.int .i64 mk) ∧ W.cell? ⟨w1.heap.size, 0, none⟩ = some (.slice a1 X.length c1) ∧ W.cell? ⟨w1.heap.size, 1, none⟩ = some (.slice a2 Y.length c2) ∧ W.cell? ⟨w1.heap.size, 2, none⟩ = some (.int .i64 mk)) := Lib.hid (fun W hW => ⟨(K0.out.below hW).cell 0, (K0.out.below hW).cell 1, (K0.out.below hW).cell 2, (KN.out.below hW).cell 0, (KN.out.below hW).cell 1, (KN.out.below hW).cell 2⟩)
  have bs := BB.out.size
  have HA : Hid (∀ W, Below w8.drew.heap.size w8.drew W → Calls Try.prog 19 #[.agg #[.slice a L.length c, .slice b R.length d, .int .i64 mk]] W fun e w' => e = .returned (.int .i64 ((L.length : Int) + (R.length : Int))) ∧ Below W.heap.size W w') := Lib.hid (fun W hW => by
    have hbW := BB.out.trans (hW.mono bs)
    have := iHeldIn_any a b c d L R mk hi W (H1.out.below (hbW.mono hB)) (H2.out.below (hbW.mono hB)) (Nat.le_trans hB hbW.size)
    rw [heldJ, if_pos HJ.out] at this
    exact this)
  have HN : Hid (∀ W, Below w8.drew.heap.size w8.drew W → Calls Try.prog 19 #[.agg #[.slice a1 X.length c1, .slice a2 Y.length c2, .int .i64 mk]] W fun e w' => e = .returned (.int .i64 ((X.length : Int) + (Y.length : Int))) ∧ Below W.heap.size W w') := Lib.hid (fun W hW => by
    have mm := MM.out.below hW (Nat.le_of_lt u9)
    have := iHeldIn_any a1 a2 c1 c2 X Y mk W.heap.size W mm.r0.qs mm.r1.qs (Nat.le_refl _)
    rw [heldJ, if_pos HK.out] at this
    exact this)
  have BQ := Lib.hid (Below.refl w8.drew.heap.size w8.drew)
  go_region_held3 (fun W => W.cell? ⟨w.heap.size, 0, none⟩ = some (.slice a L.length c) ∧ W.cell? ⟨w.heap.size, 1, none⟩ = some (.slice b R.length d) ∧ W.cell? ⟨w.heap.size, 2, none⟩ = some (.int .i64 mk) ∧ W.cell? ⟨w1.heap.size, 0, none⟩ = some (.slice a1 X.length c1) ∧ W.cell? ⟨w1.heap.size, 1, none⟩ = some (.slice a2 Y.length c2) ∧ W.cell? ⟨w1.heap.size, 2, none⟩ = some (.int .i64 mk))
    (first | with_reducible exact CJ.out _ BQ.out | (have hc := CJ.out _ BQ.out; exact ⟨cell_set3 hc.1 (by omega), cell_set3 hc.2.1 (by omega), cell_set3 hc.2.2.1 (by omega), cell_set3 hc.2.2.2.1 (by omega), cell_set3 hc.2.2.2.2.1 (by omega), cell_set3 hc.2.2.2.2.2 (by omega)⟩))
    (first | (go_at_call 19; (with_reducible refine (HA.out _ BQ.out).mono ?_); rintro e wz ⟨rfl, hb⟩; have BQ := Lib.hid (BQ.out.trans (hb.mono BQ.out.size)); clear hb; have d2 := (K2.out.below BQ.out).cell; have f2 := (K2.out.below BQ.out).frozen) | (go_at_call 19; (with_reducible refine (HN.out _ BQ.out).mono ?_); rintro e wz ⟨rfl, hb⟩; have BQ := Lib.hid (BQ.out.trans (hb.mono BQ.out.size)); clear hb; have d2 := (K2.out.below BQ.out).cell; have f2 := (K2.out.below BQ.out).frozen))
  all_goals
    have mm := MM.out.below BQ.out (Nat.le_of_lt u9)
    have bb := BB.out.trans (BQ.out.mono bs)
    have hq := BQ.out.size
    have HP : Hid (RaisePost X Y mk ((L.length : Int) + (R.length : Int) - (X.length : Int) - (Y.length : Int)) w (.returned (.tuple #[.agg #[.slice a1 X.length c1, .slice a2 Y.length c2, .int .i64 mk], .int .i64 ((L.length : Int) + (R.length : Int) - ((X.length : Int) + (Y.length : Int)))])) (((wz.setCell ⟨w.heap.size + 1 + 1, 0, none⟩ (.slice a1 X.length c1)).setCell ⟨w.heap.size + 1 + 1, 1, none⟩ (.slice a2 Y.length c2)).setCell ⟨w.heap.size + 1 + 1, 2, none⟩ (.int .i64 mk))) := Lib.hid (by
      refine ⟨a1, c1, a2, c2, by simp only [Int.sub_sub], (((((mm.setCell ?_ _).setCell ?_ _).setCell ?_ _).less ?_ ?_)), ((bb.setCell ?_ _).setCell ?_ _).setCell ?_ _⟩ <;> first | omega | (simp; omega))
    clear mm bb
    have wr := WR.out
    go_wp2
    exact bodyPost_ret (v := .tuple #[.agg #[.slice a1 X.length c1, .slice a2 Y.length c2, .int .i64 mk], .int .i64 ((L.length : Int) + (R.length : Int) - ((X.length : Int) + (Y.length : Int)))]) (by simp [results, Try.results56, go_sem, d2, wr]) rfl HP.out
set_option maxHeartbeats 4000000 in
set_option maxRecDepth 100000 in
theorem iRaise_rise (a b : Option Addr) (c d : Nat) (L R : List Fm) (mk by_ x : Int) (hi : Nat) (w : World) (h1 : Fms w hi a c L) (h2 : Fms w hi b d R) (hB : hi ≤ w.heap.size) (hl1 : L.length ≤ 1048576) (hl2 : R.length ≤ 1048576) (hj : joinOkJ L R mk = true) (he : inB x (-1) 1000000 = true) (ht : inB by_ 0 1000000 = true) (hx : mk < x) (X Y : List Fm) (hX : ltTo L (x + 1 - by_) L.length = X) (hY : ltTo R (x + 1 - by_) R.length = Y) :
    Calls Try.prog 56 #[.agg #[.slice a L.length c, .slice b R.length d, .int .i64 mk], .int .i64 by_, .int .i64 x] w (RaisePost X Y x ((L.length : Int) + (R.length : Int) - (X.length : Int) - (Y.length : Int)) w) := by
  have b1 := (((Below.refl w.heap.size w).alloc (Nat.le_refl _) (.cells #[.slice a L.length c, .slice b R.length d, .int .i64 mk] 29)).alloc (by simp) (.cells #[.int .i64 by_] 3)).alloc (by simp; omega) (.cells #[.slice none 0 0, .slice none 0 0, .int .i64 0] 29)
  have k0 := ((Blk.new w 29 #[.slice a L.length c, .slice b R.length d, .int .i64 mk]).alloc (.cells #[.int .i64 by_] 3)).alloc (.cells #[.slice none 0 0, .slice none 0 0, .int .i64 0] 29)
  have k1 := (Blk.new (w.alloc (.cells #[.slice a L.length c, .slice b R.length d, .int .i64 mk] 29)) 3 #[.int .i64 by_]).alloc (.cells #[.slice none 0 0, .slice none 0 0, .int .i64 0] 29)
  have k2 := Blk.new ((w.alloc (.cells #[.slice a L.length c, .slice b R.length d, .int .i64 mk] 29)).alloc (.cells #[.int .i64 by_] 3)) 29 #[.slice none 0 0, .slice none 0 0, .int .i64 0]
  simp only [World.size_alloc] at k1 k2
  have H1 := Lib.hid h1
  have H2 := Lib.hid h2
  have CP : Hid (∀ W, Below w.heap.size w W → Calls Try.prog 83 #[.agg #[.slice a L.length c, .slice b R.length d, .int .i64 mk]] W (FreshJn L R mk W)) := Lib.hid (fun W hW => copied_x a b c d mk L R hi W (H1.out.below (hW.mono hB)) (H2.out.below (hW.mono hB)) (Nat.le_trans hB hW.size) hl1 hl2)
  have JO : Hid (∀ W, Below w.heap.size w W → Calls Try.prog 46 #[.agg #[.slice a L.length c, .slice b R.length d, .int .i64 mk]] W fun e w' => e = .returned (.bool (joinOkJ L R mk)) ∧ Below W.heap.size W w') := Lib.hid (fun W hW => iJoinOk_any a b c d L R mk hi W (H1.out.below (hW.mono hB)) (H2.out.below (hW.mono hB)) (Nat.le_trans hB hW.size))
  have HM := Lib.hid (fun W => jMark_any x W)
  have HT := Lib.hid (fun W => jTime_any by_ W)
  clear h1 h2
  have WR : Hid (IntKind.i64.wrap ((L.length : Int) + (R.length : Int) - ((X.length : Int) + (Y.length : Int))) = (L.length : Int) + (R.length : Int) - ((X.length : Int) + (Y.length : Int))) := Lib.hid (by
    have e1 : X.length ≤ L.length := hX ▸ lt_len (Nat.le_refl _)
    have e2 : Y.length ≤ R.length := hY ▸ lt_len (Nat.le_refl _)
    exact IntWalk.i64_in _ (by omega))
  have HJ := Lib.hid hj
  have HX := Lib.hid hX
  have HY := Lib.hid hY
  have HK : Hid (joinOkJ X Y x = true) := Lib.hid (by
    unfold joinOkJ at hj ⊢
    simp only [Bool.and_eq_true] at hj ⊢
    exact ⟨hX ▸ ltTo_ok L _ _ hj.1, hY ▸ ltTo_ok R _ _ hj.2.1, he⟩)
  have BJ : Hid ((-1 ≤ x ∧ x ≤ 1000000) ∧ (0 ≤ by_ ∧ by_ ≤ 1000000)) := Lib.hid ⟨by
    unfold joinOkJ at hj
    simp only [Bool.and_eq_true] at hj
    exact inB_bd he, inB_bd ht⟩
  rw [hj] at JO
  rw [he] at HM
  rw [ht] at HT
  clear hj he ht hX hY
  go_enter Try.func56, Try.ntmps56
  go_wp2_with fail
  generalize hW : World.alloc _ _ = W0 at b1 k0 k1 k2 ⊢
  have hlo : w.heap.size + 3 ≤ W0.heap.size := by rw [← hW]; simp
  clear hW
  have K0 := Lib.hid k0
  have K1 := Lib.hid k1
  have K2 := Lib.hid k2
  have BB := Lib.hid b1
  clear b1 k0 k1 k2
  refine (CP.out _ BB.out).mono ?_
  rintro e w1 ⟨a1, c1, a2, c2, rfl, hm, hb⟩
  have hb0 := hb
  have hb := hb.trans ((Below.refl w1.heap.size w1).alloc (Nat.le_refl _) (.cells #[.slice a1 L.length c1, .slice a2 R.length c2, .int .i64 mk] 29) |>.mono hb.size)
  have K0 := Lib.hid (K0.out.below hb)
  have K1 := Lib.hid (K1.out.below hb)
  have K2 := Lib.hid (K2.out.below hb)
  have KN := Lib.hid (Blk.new w1 29 #[.slice a1 L.length c1, .slice a2 R.length c2, .int .i64 mk])
  have MM := Lib.hid (hm.below ((Below.refl w1.heap.size w1).alloc (Nat.le_refl _) (.cells #[.slice a1 L.length c1, .slice a2 R.length c2, .int .i64 mk] 29)) (Nat.le_refl _))
  have UP : Hid (w1.heap.size ≤ (w1.alloc (.cells #[.slice a1 L.length c1, .slice a2 R.length c2, .int .i64 mk] 29)).heap.size) := Lib.hid (by simp)
  have BB := Lib.hid (BB.out.trans (hb.mono BB.out.size))
  have hlo1 := hb0.size
  clear hb hb0 hm
  have q0 := K0.out.cell
  go_wp2_with fail
  refine (JO.out _ BB.out).mono ?_
  rintro e w3 ⟨rfl, hb⟩
  clear q0
  have K0 := Lib.hid (K0.out.below hb)
  have K1 := Lib.hid (K1.out.below hb)
  have K2 := Lib.hid (K2.out.below hb)
  have KN := Lib.hid (KN.out.below hb)
  have MM := Lib.hid (MM.out.below hb (by have := hb.size; have := UP.out; omega))
  have UP := Lib.hid (Nat.le_trans UP.out hb.size)
  have BB := Lib.hid (BB.out.trans (hb.mono BB.out.size))
  clear hb
  have q0 := K0.out.cell
  have q1 := K1.out.cell
  have qn := KN.out.cell
  have fN := KN.out.frozen
  have bj := BJ.out
  have M4 := Lib.hid (MM.out.setBoxQ KN.out (fun r hr => by simp at hr; rcases hr with rfl | rfl <;> exact (show 29 ≠ 38 by decide)) 2 (.int .i64 x))
  have KN4 := Lib.hid (KN.out.put_ 2 (.int .i64 x))
  have K04 := Lib.hid (K0.out.grown (grown_setCell w3 w1.heap.size 2 (.int .i64 x)) (by simp; omega))
  have K14 := Lib.hid (K1.out.grown (grown_setCell w3 w1.heap.size 2 (.int .i64 x)) (by simp; omega))
  have K24 := Lib.hid (K2.out.grown (grown_setCell w3 w1.heap.size 2 (.int .i64 x)) (by simp; omega))
  have hs3 := BB.out.size
  have hup3 := UP.out
  have B4 := Lib.hid (BB.out.setCell (p := ⟨w1.heap.size, 2, none⟩) (by simp; omega) (.int .i64 x))
  have U4 : Hid (w1.heap.size < (w3.setCell ⟨w1.heap.size, 2, none⟩ (.int .i64 x)).heap.size) := Lib.hid (by have := KN.out.lt; simp; omega)
  obtain ⟨g1, hg1, hN1, hB1⟩ := pick_block M4.out.r0.own (own_ne M4.out.r0.own KN4.out (show 29 ≠ 38 by decide)) (own_ne M4.out.r0.own K14.out (show 3 ≠ 38 by decide))
  have D1 := del_any a1 g1 c1 L.length W0.heap.size L (x + 1 - by_) (.pointer (some ⟨w1.heap.size, 0, none⟩)) (.pointer (some ⟨w.heap.size + 1, 0, none⟩)) _ M4.out.r0.own rfl hl1 hg1 (vain_x x by_ w1.heap.size (w.heap.size + 1) g1 _ (KN4.out.cell 2) (K14.out.cell 0) U4.out (by have := U4.out; omega) hN1 hB1 bj.1 bj.2)
  rw [HX.out] at D1
  have D1 := Lib.hid D1
  clear hN1 hB1 hg1
  go_wp2_with (first | (go_at_call 79; refine (HM.out _).mono ?_; rintro e w' ⟨rfl, rfl⟩) | (go_at_call 67; refine (HT.out _).mono ?_; rintro e w' ⟨rfl, rfl⟩))
  refine D1.out.mono ?_
  rintro e w5 ⟨rfl, ho, hg⟩
  have hs5 := hg.size
  have K05 := Lib.hid (K04.out.grown hg (own_ne M4.out.r0.own K04.out (show 29 ≠ 38 by decide)))
  have K15 := Lib.hid (K14.out.grown hg (own_ne M4.out.r0.own K14.out (show 3 ≠ 38 by decide)))
  have K25 := Lib.hid (K24.out.grown hg (own_ne M4.out.r0.own K24.out (show 29 ≠ 38 by decide)))
  have KN5 := Lib.hid (KN4.out.grown hg (own_ne M4.out.r0.own KN4.out (show 29 ≠ 38 by decide)))
  have B5 := Lib.hid (B4.out.trans ((below_own M4.out.r0.own hg (by have := U4.out; omega)).mono (by omega)))
  have M5 := Lib.hid (Many.cut (pre := []) M4.out ho hg)
  have U5 : Hid (w1.heap.size < w5.heap.size) := Lib.hid (Nat.lt_of_lt_of_le U4.out hs5)
  clear D1 ho hg M4 KN4 K04 K14 K24 B4 U4 qn fN q0 q1 hs5
  have qn5 := KN5.out.cell
  have fN5 := KN5.out.frozen
  have M6 := Lib.hid (M5.out.setBoxQ KN5.out (fun r hr => by simp at hr; rcases hr with rfl | rfl <;> exact (show 29 ≠ 38 by decide)) 0 (.slice a1 X.length c1))
  have KN6 := Lib.hid (KN5.out.put_ 0 (.slice a1 X.length c1))
  have K06 := Lib.hid (K05.out.grown (grown_setCell w5 w1.heap.size 0 (.slice a1 X.length c1)) (by simp; omega))
  have K16 := Lib.hid (K15.out.grown (grown_setCell w5 w1.heap.size 0 (.slice a1 X.length c1)) (by simp; omega))
  have K26 := Lib.hid (K25.out.grown (grown_setCell w5 w1.heap.size 0 (.slice a1 X.length c1)) (by simp; omega))
  have B6 := Lib.hid (B5.out.setCell (p := ⟨w1.heap.size, 0, none⟩) (by simp; omega) (.slice a1 X.length c1))
  have U6 : Hid (w1.heap.size < (w5.setCell ⟨w1.heap.size, 0, none⟩ (.slice a1 X.length c1)).heap.size) := Lib.hid (by have := U5.out; simp; omega)
  have qn6 := KN6.out.cell
  obtain ⟨g2, hg2, hN2, hB2⟩ := pick_block M6.out.r1.own (own_ne M6.out.r1.own KN6.out (show 29 ≠ 38 by decide)) (own_ne M6.out.r1.own K16.out (show 3 ≠ 38 by decide))
  have D2 := del_any a2 g2 c2 R.length W0.heap.size R (x + 1 - by_) (.pointer (some ⟨w1.heap.size, 0, none⟩)) (.pointer (some ⟨w.heap.size + 1, 0, none⟩)) _ M6.out.r1.own rfl hl2 hg2 (vain_x x by_ w1.heap.size (w.heap.size + 1) g2 _ (KN6.out.cell 2) (K16.out.cell 0) U6.out (by have := U6.out; omega) hN2 hB2 bj.1 bj.2)
  rw [HY.out] at D2
  have D2 := Lib.hid D2
  clear hN2 hB2 hg2
  go_wp2_with fail
  refine D2.out.mono ?_
  rintro e w7 ⟨rfl, ho, hg⟩
  have hs7 := hg.size
  have K07 := Lib.hid (K06.out.grown hg (own_ne M6.out.r1.own K06.out (show 29 ≠ 38 by decide)))
  have K27 := Lib.hid (K26.out.grown hg (own_ne M6.out.r1.own K26.out (show 29 ≠ 38 by decide)))
  have KN7 := Lib.hid (KN6.out.grown hg (own_ne M6.out.r1.own KN6.out (show 29 ≠ 38 by decide)))
  have B7 := Lib.hid (B6.out.trans ((below_own M6.out.r1.own hg (by have := U6.out; omega)).mono (by omega)))
  have M7 := Lib.hid (Many.cut (pre := [rQ a1 c1 X]) M6.out ho hg)
  have U7 : Hid (w1.heap.size < w7.heap.size) := Lib.hid (Nat.lt_of_lt_of_le U6.out hs7)
  clear D2 ho hg M6 KN6 K06 K16 K26 B6 U6 qn5 fN5 qn6 hs7 K05 K15 K25 KN5 B5 M5 U5
  have qn7 := KN7.out.cell
  have fN7 := KN7.out.frozen
  have M8 := Lib.hid (M7.out.setBoxQ KN7.out (fun r hr => by simp at hr; rcases hr with rfl | rfl <;> exact (show 29 ≠ 38 by decide)) 1 (.slice a2 Y.length c2))
  have KN8 := Lib.hid (KN7.out.put_ 1 (.slice a2 Y.length c2))
  have K08 := Lib.hid (K07.out.grown (grown_setCell w7 w1.heap.size 1 (.slice a2 Y.length c2)) (by simp; omega))
  have K28 := Lib.hid (K27.out.grown (grown_setCell w7 w1.heap.size 1 (.slice a2 Y.length c2)) (by simp; omega))
  have B8 := Lib.hid (B7.out.setCell (p := ⟨w1.heap.size, 1, none⟩) (by simp; omega) (.slice a2 Y.length c2))
  have U8 : Hid (w1.heap.size < (w7.setCell ⟨w1.heap.size, 1, none⟩ (.slice a2 Y.length c2)).heap.size) := Lib.hid (by have := U7.out; simp; omega)
  go_wp2_with fail
  generalize hw8 : World.setCell _ _ _ = w8 at M8 K08 K28 KN8 B8 U8 ⊢
  clear hw8 qn7 fN7 K07 K27 KN7 B7 M7 U7
  have u8 := U8.out
  have K0 := Lib.hid K08.out.drew
  have K2 := Lib.hid K28.out.drew
  have KN := Lib.hid KN8.out.drew
  have MM := Lib.hid (M8.out.below ((Below.refl _ w8).drew) (by omega))
  have BB := Lib.hid B8.out.drew
  have U9 : Hid (w1.heap.size < w8.drew.heap.size) := Lib.hid u8
  clear M8 K08 K28 KN8 B8 U8 u8
  have u9 := U9.out
  have CJ : Hid (∀ W, Below w8.drew.heap.size w8.drew W → W.cell? ⟨w.heap.size, 0, none⟩ = some (.slice a L.length c) ∧ W.cell? ⟨w.heap.size, 1, none⟩ = some (.slice b R.length d) ∧ W.cell? ⟨w.heap.size, 2, none⟩ = some (.int .i64 mk) ∧ W.cell? ⟨w1.heap.size, 0, none⟩ = some (.slice a1 X.length c1) ∧ W.cell? ⟨w1.heap.size, 1, none⟩ = some (.slice a2 Y.length c2) ∧ W.cell? ⟨w1.heap.size, 2, none⟩ = some (.int .i64 x)) := Lib.hid (fun W hW => ⟨(K0.out.below hW).cell 0, (K0.out.below hW).cell 1, (K0.out.below hW).cell 2, (KN.out.below hW).cell 0, (KN.out.below hW).cell 1, (KN.out.below hW).cell 2⟩)
  have bs := BB.out.size
  have HA : Hid (∀ W, Below w8.drew.heap.size w8.drew W → Calls Try.prog 19 #[.agg #[.slice a L.length c, .slice b R.length d, .int .i64 mk]] W fun e w' => e = .returned (.int .i64 ((L.length : Int) + (R.length : Int))) ∧ Below W.heap.size W w') := Lib.hid (fun W hW => by
    have hbW := BB.out.trans (hW.mono bs)
    have := iHeldIn_any a b c d L R mk hi W (H1.out.below (hbW.mono hB)) (H2.out.below (hbW.mono hB)) (Nat.le_trans hB hbW.size)
    rw [heldJ, if_pos HJ.out] at this
    exact this)
  have HN : Hid (∀ W, Below w8.drew.heap.size w8.drew W → Calls Try.prog 19 #[.agg #[.slice a1 X.length c1, .slice a2 Y.length c2, .int .i64 x]] W fun e w' => e = .returned (.int .i64 ((X.length : Int) + (Y.length : Int))) ∧ Below W.heap.size W w') := Lib.hid (fun W hW => by
    have mm := MM.out.below hW (Nat.le_of_lt u9)
    have := iHeldIn_any a1 a2 c1 c2 X Y x W.heap.size W mm.r0.qs mm.r1.qs (Nat.le_refl _)
    rw [heldJ, if_pos HK.out] at this
    exact this)
  have BQ := Lib.hid (Below.refl w8.drew.heap.size w8.drew)
  go_region_held3 (fun W => W.cell? ⟨w.heap.size, 0, none⟩ = some (.slice a L.length c) ∧ W.cell? ⟨w.heap.size, 1, none⟩ = some (.slice b R.length d) ∧ W.cell? ⟨w.heap.size, 2, none⟩ = some (.int .i64 mk) ∧ W.cell? ⟨w1.heap.size, 0, none⟩ = some (.slice a1 X.length c1) ∧ W.cell? ⟨w1.heap.size, 1, none⟩ = some (.slice a2 Y.length c2) ∧ W.cell? ⟨w1.heap.size, 2, none⟩ = some (.int .i64 x))
    (first | with_reducible exact CJ.out _ BQ.out | (have hc := CJ.out _ BQ.out; exact ⟨cell_set3 hc.1 (by omega), cell_set3 hc.2.1 (by omega), cell_set3 hc.2.2.1 (by omega), cell_set3 hc.2.2.2.1 (by omega), cell_set3 hc.2.2.2.2.1 (by omega), cell_set3 hc.2.2.2.2.2 (by omega)⟩))
    (first | (go_at_call 19; (with_reducible refine (HA.out _ BQ.out).mono ?_); rintro e wz ⟨rfl, hb⟩; have BQ := Lib.hid (BQ.out.trans (hb.mono BQ.out.size)); clear hb; have d2 := (K2.out.below BQ.out).cell; have f2 := (K2.out.below BQ.out).frozen) | (go_at_call 19; (with_reducible refine (HN.out _ BQ.out).mono ?_); rintro e wz ⟨rfl, hb⟩; have BQ := Lib.hid (BQ.out.trans (hb.mono BQ.out.size)); clear hb; have d2 := (K2.out.below BQ.out).cell; have f2 := (K2.out.below BQ.out).frozen))
  all_goals
    have mm := MM.out.below BQ.out (Nat.le_of_lt u9)
    have bb := BB.out.trans (BQ.out.mono bs)
    have hq := BQ.out.size
    have HP : Hid (RaisePost X Y x ((L.length : Int) + (R.length : Int) - (X.length : Int) - (Y.length : Int)) w (.returned (.tuple #[.agg #[.slice a1 X.length c1, .slice a2 Y.length c2, .int .i64 x], .int .i64 ((L.length : Int) + (R.length : Int) - ((X.length : Int) + (Y.length : Int)))])) (((wz.setCell ⟨w.heap.size + 1 + 1, 0, none⟩ (.slice a1 X.length c1)).setCell ⟨w.heap.size + 1 + 1, 1, none⟩ (.slice a2 Y.length c2)).setCell ⟨w.heap.size + 1 + 1, 2, none⟩ (.int .i64 x))) := Lib.hid (by
      refine ⟨a1, c1, a2, c2, by simp only [Int.sub_sub], (((((mm.setCell ?_ _).setCell ?_ _).setCell ?_ _).less ?_ ?_)), ((bb.setCell ?_ _).setCell ?_ _).setCell ?_ _⟩ <;> first | omega | (simp; omega))
    clear mm bb
    have wr := WR.out
    go_wp2
    exact bodyPost_ret (v := .tuple #[.agg #[.slice a1 X.length c1, .slice a2 Y.length c2, .int .i64 x], .int .i64 ((L.length : Int) + (R.length : Int) - ((X.length : Int) + (Y.length : Int)))]) (by simp [results, Try.results56, go_sem, d2, wr]) rfl HP.out
end Go.Proofs.Ytneolndbhklboaa
