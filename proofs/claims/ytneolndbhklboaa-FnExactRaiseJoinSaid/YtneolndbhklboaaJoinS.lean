/- Chapter 12: contracts of the laws' own helpers over a join. -/
import Derived.Test.YtneolndbhklboaaSzFm
import Derived.Test.YtneolndbhklboaaMany
namespace Go.Proofs.Ytneolndbhklboaa
open Go.RowKit
abbrev rQ (a : Option Addr) (c : Nat) (l : List Fm) : RowD := ⟨38, 4, a, l.length, c, flatQ l⟩
abbrev rG (a : Option Addr) (c : Nat) (l : List Pr) : RowD := ⟨53, 5, a, l.length, c, flatG l⟩
abbrev rI (a : Option Addr) (c : Nat) (l : List Int) : RowD := ⟨3, 1, a, l.length, c, l.map (Value.int .i64)⟩
/-- A call that hands back a join in memory of its own. -/
def FreshJn (L R : List Fm) (mk : Int) (w : World) (e : Ending) (w' : World) : Prop :=
  ∃ a c b d, e = .returned (.agg #[.slice a L.length c, .slice b R.length d, .int .i64 mk]) ∧ Many w.heap.size w'.heap.size [rQ a c L, rQ b d R] w' ∧ Below w.heap.size w w'
set_option maxHeartbeats 1000000 in
set_option maxRecDepth 100000 in
theorem szJoin_any (a b : Option Addr) (n m c d : Nat) (mk : Int) (w : World) (hn : n ≤ 9223372036854775807) (hm : m ≤ 9223372036854775807) :
    Calls Try.prog 43 #[.agg #[.slice a n c, .slice b m d, .int .i64 mk], .int .i64 1048576] w fun e w' => e = .returned (.int .i64 (if (1048576 : Int) - (n : Int) - (m : Int) < 0 then -1 else 1048576 - (n : Int) - (m : Int))) ∧ Below w.heap.size w w' := by
  have BB := Lib.hid ((Below.refl w.heap.size w).alloc (Nat.le_refl _) (.cells #[.slice a n c, .slice b m d, .int .i64 mk] 63))
  have h1 := Lib.hid (fun W => szFrameS_any a n c W hn)
  by_cases h : 1048576 < n
  · rw [if_pos (by omega)]
    have h1 := h1.out
    rw [if_pos (by omega)] at h1
    have H1 := Lib.hid h1
    clear h1
    go_enter Try.func43, Try.ntmps43
    go_wp2_with fail
    refine (H1.out _).mono ?_
    rintro e w' ⟨rfl, rfl⟩
    go_wp2
    go_ret
    exact ⟨rfl, BB.out⟩
  · have h1 := h1.out
    rw [if_neg (by omega)] at h1
    obtain ⟨q, hq⟩ : ∃ q : Nat, q = 1048576 - n := ⟨_, rfl⟩
    have hq2 : (1048576 : Int) - (n : Int) = (q : Int) := by omega
    rw [hq2] at h1 ⊢
    have H1 := Lib.hid h1
    have h2 := fun W => szFrameS_at b m d q W hm (by omega)
    have hq0 : ¬ (q : Int) < 0 := by omega
    clear h1 hq2 hq
    by_cases h3 : (q : Int) - (m : Int) < 0
    · rw [if_pos h3] at h2 ⊢
      have H2 := Lib.hid h2
      clear h2
      go_enter Try.func43, Try.ntmps43
      go_wp2_with fail
      refine (H1.out _).mono ?_
      rintro e w' ⟨rfl, rfl⟩
      go_wp2_with fail
      refine (H2.out _).mono ?_
      rintro e w' ⟨rfl, rfl⟩
      go_wp2
      go_ret
      exact ⟨rfl, BB.out⟩
    · rw [if_neg h3] at h2 ⊢
      have H2 := Lib.hid h2
      have h4 : ¬ (q : Int) - (m : Int) < 0 := h3
      clear h2
      generalize (q : Int) - (m : Int) = z at H2 h3 h4 ⊢
      go_enter Try.func43, Try.ntmps43
      go_wp2_with fail
      refine (H1.out _).mono ?_
      rintro e w' ⟨rfl, rfl⟩
      go_wp2_with fail
      refine (H2.out _).mono ?_
      rintro e w' ⟨rfl, rfl⟩
      go_wp2
      go_ret
      exact ⟨rfl, BB.out⟩
set_option maxHeartbeats 2000000 in
set_option maxRecDepth 100000 in
theorem toJoin_any (a b : Option Addr) (n m c d : Nat) (mk : Int) (L R : List Fm) (hi : Nat) (w : World) (h1 : Fms w hi a c L) (h2 : Fms w hi b d R) (hn : n = L.length) (hm : m = R.length) (hB : hi ≤ w.heap.size) (hl1 : L.length ≤ 1048576) (hl2 : R.length ≤ 1048576) :
    Calls Try.prog 45 #[.agg #[.slice a n c, .slice b m d, .int .i64 mk]] w (FreshJn L R mk w) := by
  subst hn
  subst hm
  have b1 := (Below.refl w.heap.size w).alloc (Nat.le_refl _) (.cells #[.slice a L.length c, .slice b R.length d, .int .i64 mk] 63)
  have b2 := b1.alloc (by simp) (.cells #[.slice none 0 0, .slice none 0 0, .int .i64 0] 29)
  have b3 := b2.alloc (by simp; omega) (.cells #[.slice none 0 0, .slice none 0 0, .int .i64 0] 29)
  have HN := Lib.hid (h1.below (b3.mono hB))
  have HN2 := Lib.hid (h2.below (b3.mono hB))
  have K0 := Lib.hid (((Blk.new w 63 #[.slice a L.length c, .slice b R.length d, .int .i64 mk]).alloc (.cells #[.slice none 0 0, .slice none 0 0, .int .i64 0] 29)).alloc (.cells #[.slice none 0 0, .slice none 0 0, .int .i64 0] 29))
  have K1 := Lib.hid ((Blk.new (w.alloc (.cells #[.slice a L.length c, .slice b R.length d, .int .i64 mk] 63)) 29 #[.slice none 0 0, .slice none 0 0, .int .i64 0]).alloc (.cells #[.slice none 0 0, .slice none 0 0, .int .i64 0] 29))
  have K2 := Lib.hid (Blk.new ((w.alloc (.cells #[.slice a L.length c, .slice b R.length d, .int .i64 mk] 63)).alloc (.cells #[.slice none 0 0, .slice none 0 0, .int .i64 0] 29)) 29 #[.slice none 0 0, .slice none 0 0, .int .i64 0])
  have B3 := Lib.hid b3
  clear h1 h2 b1 b2 b3
  go_enter Try.func45, Try.ntmps45
  go_wp2_with fail
  refine (toFrameS_any a _ c L _ _ HN.out rfl (by simp; omega) hl1).mono ?_
  rintro e w1 ⟨a1, c1, rfl, ho, hb⟩
  have k0 := K0.out.below hb
  have k1 := K1.out.below hb
  have k2 := K2.out.below hb
  have hs1 := hb.size
  simp only [World.size_alloc] at k0 k1 k2 ho hs1
  have HN2 := Lib.hid (HN2.out.below (hb.mono (by simp; omega)))
  have q0 := k0.cell
  have f2 := k2.frozen
  have q2 := k2.cell
  have B1 := Lib.hid (B3.out.trans (hb.mono (by simp; omega)))
  have k0' := Lib.hid (k0.grown (grown_setCell w1 (w.heap.size + 1 + 1) 0 (.slice a1 L.length c1)) (by simp; omega))
  have k1' := Lib.hid (k1.grown (grown_setCell w1 (w.heap.size + 1 + 1) 0 (.slice a1 L.length c1)) (by simp))
  have k2' := Lib.hid (k2.put_ 0 (.slice a1 L.length c1))
  have RO := Lib.hid (own_setCell_lo ho (p := ⟨w.heap.size + 1 + 1, 0, none⟩) (by simp) (.slice a1 L.length c1))
  have HN2 := Lib.hid (HN2.out.below ((Below.refl hi w1).setCell (p := ⟨w.heap.size + 1 + 1, 0, none⟩) (by simp; omega) (.slice a1 L.length c1)))
  have B1 := Lib.hid (B1.out.setCell (p := ⟨w.heap.size + 1 + 1, 0, none⟩) (by simp; omega) (.slice a1 L.length c1))
  clear k0 k1 k2 ho hb
  go_wp2_with fail
  refine (toFrameS_any b _ d R _ _ HN2.out rfl (by simp; omega) hl2).mono ?_
  rintro e w2 ⟨a2, c2, rfl, ho, hb⟩
  have k0 := k0'.out.below hb
  have k1 := k1'.out.below hb
  have k2 := k2'.out.below hb
  have MM := Lib.hid (Many.two (x0 := rQ a1 c1 L) (x1 := rQ a2 c2 R) RO.out hb ho (Nat.le_refl _) (by first | omega | (simp; omega) | simp))
  have B2 := Lib.hid (B1.out.trans (hb.mono (by simp; omega)))
  clear q0 f2 q2
  have q0 := k0.cell
  have q1 := k1.cell
  have q2 := k2.cell
  have f1 := k1.frozen
  have f2 := k2.frozen
  have HP : Hid (FreshJn L R mk w (.returned (.agg #[.slice a1 L.length c1, .slice a2 R.length c2, .int .i64 mk])) (((((w2.setCell ⟨w.heap.size + 1 + 1, 1, none⟩ (.slice a2 R.length c2)).setCell ⟨w.heap.size + 1 + 1, 2, none⟩ (.int .i64 mk)).setCell ⟨w.heap.size + 1, 0, none⟩ (.slice a1 L.length c1)).setCell ⟨w.heap.size + 1, 1, none⟩ (.slice a2 R.length c2)).setCell ⟨w.heap.size + 1, 2, none⟩ (.int .i64 mk))) := by
    refine ⟨a1, c1, a2, c2, rfl, ((((((MM.out.setCell ?_ _).setCell ?_ _).setCell ?_ _).setCell ?_ _).setCell ?_ _).less ?_ ?_), (((((B2.out.setCell ?_ _).setCell ?_ _).setCell ?_ _).setCell ?_ _).setCell ?_ _)⟩ <;> first | omega | (simp; omega) | simp
  clear ho hb k0 k1 k2
  go_wp2
  exact bodyPost_ret (v := .agg #[.slice a1 L.length c1, .slice a2 R.length c2, .int .i64 mk]) (by simp [results, Try.results45, go_sem, q1]) rfl HP.out
set_option maxHeartbeats 1000000 in
set_option maxRecDepth 100000 in
theorem eqJoin_any (a1 a2 b1 b2 : Option Addr) (n1 n2 m1 m2 c1 c2 d1 d2 : Nat) (mk : Int) (L R : List Fm) (h1 h2 : Nat) (w : World) (x1 : Fms w h1 a1 c1 L) (y1 : Fms w h1 b1 d1 R) (x2 : Fms w h2 a2 c2 L) (y2 : Fms w h2 b2 d2 R) (e1 : n1 = L.length) (e2 : n2 = L.length) (e3 : m1 = R.length) (e4 : m2 = R.length) (hB : h1 ≤ w.heap.size) (hC : h2 ≤ w.heap.size) :
    Calls Try.prog 47 #[.agg #[.slice a1 n1 c1, .slice b1 m1 d1, .int .i64 mk], .agg #[.slice a2 n2 c2, .slice b2 m2 d2, .int .i64 mk]] w fun e w' => e = .returned (.bool true) ∧ Below w.heap.size w w' := by
  subst e1 e2 e3 e4
  have s1 := (Below.refl w.heap.size w).alloc (Nat.le_refl _) (.cells #[.slice a1 L.length c1, .slice b1 R.length d1, .int .i64 mk] 29)
  have s2 := s1.alloc (by simp) (.cells #[.slice a2 L.length c2, .slice b2 R.length d2, .int .i64 mk] 29)
  have X1 := Lib.hid (x1.below (s2.mono hB))
  have X2 := Lib.hid (x2.below (s2.mono hC))
  have Y1 := Lib.hid (y1.below (s2.mono hB))
  have Y2 := Lib.hid (y2.below (s2.mono hC))
  have B2 := Lib.hid s2
  have K0 := Lib.hid ((Blk.new w 29 #[.slice a1 L.length c1, .slice b1 R.length d1, .int .i64 mk]).alloc (.cells #[.slice a2 L.length c2, .slice b2 R.length d2, .int .i64 mk] 29))
  have K1 := Lib.hid (Blk.new (w.alloc (.cells #[.slice a1 L.length c1, .slice b1 R.length d1, .int .i64 mk] 29)) 29 #[.slice a2 L.length c2, .slice b2 R.length d2, .int .i64 mk])
  clear x1 x2 y1 y2 s1 s2
  have hbb : (mk != mk) = false := by simp
  go_enter Try.func47, Try.ntmps47
  go_wp2_with fail
  refine (eqFrameS_any _ _ _ _ _ _ L _ _ _ X1.out X2.out rfl rfl (by simp; omega) (by simp; omega)).mono ?_
  rintro e w1 ⟨rfl, hb⟩
  have k0 := Lib.hid (K0.out.below hb)
  have k1 := Lib.hid (K1.out.below hb)
  have q0 := k0.out.cell
  have q1 := k1.out.cell
  simp only [World.size_alloc] at q0 q1 k1
  have hs := hb.size
  simp only [World.size_alloc] at hs
  have Y1 := Lib.hid (Y1.out.below (hb.mono (by simp; omega)))
  have Y2 := Lib.hid (Y2.out.below (hb.mono (by simp; omega)))
  have B3 := Lib.hid (B2.out.trans (hb.mono (by simp; omega)))
  clear hb
  go_wp2_with fail
  refine (eqFrameS_any _ _ _ _ _ _ R _ _ _ Y1.out Y2.out rfl rfl (by omega) (by omega)).mono ?_
  rintro e w2 ⟨rfl, hb⟩
  clear q0 q1
  have q0 := (k0.out.below hb).cell
  have q1 := (k1.out.below hb).cell
  have B4 := Lib.hid (B3.out.trans (hb.mono (by omega)))
  clear hb
  go_wp2
  go_ret
  exact ⟨rfl, B4.out⟩
/-- A join's rows are marked, what lies beside is as it was. -/
structure MarkedJ (lo up m : Nat) (a : Option Addr) (n c : Nat) (b : Option Addr) (n2 d : Nat) (rs : List RowD) (w w' : World) : Prop where
  many : Many lo up (⟨38, 4, a, n, c, flatQ (marksQ m n)⟩ :: ⟨38, 4, b, n2, d, flatQ (marksQ (m + 4 * n) n2)⟩ :: rs) w'
  spn : Spn lo up w w'
set_option maxHeartbeats 1000000 in
set_option maxRecDepth 100000 in
theorem markJoin_m (a b : Option Addr) (c d m : Nat) (mk M : Int) (L R : List Fm) (lo up : Nat) (rs : List RowD) (w : World) (hr : Many lo up (rQ a c L :: rQ b d R :: rs) w) (hM : M = (m : Int)) (hlo : lo ≤ w.heap.size) (hup : up ≤ w.heap.size) (hl1 : L.length ≤ 1048576) (hl2 : R.length ≤ 1048576) (hm : m ≤ 1000000000) :
    Calls Try.prog 50 #[.agg #[.slice a L.length c, .slice b R.length d, .int .i64 mk], .int .i64 M] w fun e w' => e = .returned (.int .i64 (M + 4 * (L.length : Int) + 4 * (R.length : Int))) ∧ MarkedJ lo up m a L.length c b R.length d rs w w' := by
  have b1 := Lib.hid ((Below.refl w.heap.size w).alloc (Nat.le_refl _) (.cells #[.slice a L.length c, .slice b R.length d, .int .i64 mk] 29))
  have K0 := Lib.hid (Blk.new w 29 #[.slice a L.length c, .slice b R.length d, .int .i64 mk])
  have HR := Lib.hid (hr.below b1.out hup)
  have HM := Lib.hid hM
  clear hr hM
  go_enter Try.func50, Try.ntmps50
  go_wp2_with fail
  refine (markFrameS_m a L.length c m M L lo _ HR.out.r0.own HM.out rfl (by simp; omega) hl1 (by omega)).mono ?_
  rintro e w1 ⟨rfl, hk⟩
  have H1 := Lib.hid (HR.out.m0 hk)
  have S1 := Lib.hid ((Spn.of_below (lo := lo) (up := up) b1.out).trans (Spn.of_mark HR.out.r0 hk.grown))
  have K1 := Lib.hid (K0.out.far HR.out.r0 hk.grown (.inr hup))
  have q0 := K1.out.cell
  have hs1 := hk.grown.size
  simp only [World.size_alloc] at hs1
  clear hk HR
  go_wp2_with fail
  refine (markFrameS_m b R.length d (m + 4 * L.length) _ R lo _ H1.out.r1.own (by have := HM.out; omega) rfl (by omega) hl2 (by omega)).mono ?_
  rintro e w2 ⟨rfl, hk⟩
  have H2 := Lib.hid (H1.out.m1 hk)
  have S2 := Lib.hid (S1.out.trans (Spn.of_mark H1.out.r1 hk.grown))
  clear hk H1
  go_wp2
  go_ret
  exact ⟨rfl, H2.out, S2.out⟩
set_option maxHeartbeats 1000000 in
set_option maxRecDepth 100000 in
theorem heldJoin_m (a b : Option Addr) (n n2 c d m : Nat) (mk M : Int) (hi : Nat) (w : World) (h1 : Fms w hi a c (marksQ m n)) (h2 : Fms w hi b d (marksQ (m + 4 * n) n2)) (hB : hi ≤ w.heap.size) (hM : M = (m : Int)) (hl1 : n ≤ 1048576) (hl2 : n2 ≤ 1048576) (hm : m ≤ 1000000000) :
    Calls Try.prog 51 #[.agg #[.slice a n c, .slice b n2 d, .int .i64 mk], .int .i64 M] w fun e w' => e = .returned (.int .i64 (M + 4 * (n : Int) + 4 * (n2 : Int))) ∧ Below w.heap.size w w' := by
  have b1 := Lib.hid ((Below.refl w.heap.size w).alloc (Nat.le_refl _) (.cells #[.slice a n c, .slice b n2 d, .int .i64 mk] 29))
  have K0 := Lib.hid (Blk.new w 29 #[.slice a n c, .slice b n2 d, .int .i64 mk])
  have H1 := Lib.hid (h1.below (b1.out.mono hB))
  have H2 := Lib.hid (h2.below (b1.out.mono hB))
  have g1 : ¬ M + 4 * (n : Int) < 0 := by omega
  have g2 : ¬ M + 4 * (n : Int) + 4 * (n2 : Int) < 0 := by omega
  have HM := Lib.hid hM
  clear h1 h2 hM
  go_enter Try.func51, Try.ntmps51
  go_wp2_with fail
  refine (heldFrameS_m a n c m M _ _ H1.out HM.out hl1 (by omega)).mono ?_
  rintro e w1 ⟨rfl, hb⟩
  have k0 := Lib.hid (K0.out.below hb)
  have q0 := k0.out.cell
  have hs := hb.size
  simp only [World.size_alloc] at hs
  have H2 := Lib.hid (H2.out.below (hb.mono (by simp; omega)))
  have B2 := Lib.hid (b1.out.trans (hb.mono (by simp)))
  clear hb
  go_wp2_with fail
  refine (heldFrameS_m b n2 d (m + 4 * n) _ _ _ H2.out (by have := HM.out; omega) hl2 (by omega)).mono ?_
  rintro e w2 ⟨rfl, hb⟩
  have B3 := Lib.hid (B2.out.trans (hb.mono (by omega)))
  clear hb
  go_wp2
  go_ret
  exact ⟨rfl, B3.out⟩
end Go.Proofs.Ytneolndbhklboaa
