/- Contracts of the laws' own helpers over a ring and over a credit. -/
import Derived.Test.YtkconbmgljmpfaaProg
import Derived.Test.YtkconbmgljmpfaaIntS
import Derived.Test.YtkconbmgljmpfaaRow
import Derived.WalkKit
import Derived.WalkSpells
import Derived.ProofKit
import Derived.Lib.Hide
import Derived.Outline
namespace Go.Proofs.Ytkconbmgljmpfaa
open Go.RowKit

/-- Marking ints leaves all that lies below the row's own base, and every row of another block. -/
structure MarkedI (T : TypeId) (lo : Nat) (a : Option Addr) (c m n : Nat) (w w' : World) : Prop where
  own : w'.ownsRow lo T 1 (.slice a n c) n ((marksI m n).map (Value.int .i64))
  below : Below lo w w'
  grown : w.grownBy w' (Value.slice a n c).ownBlock
theorem markInts_m (a : Option Addr) (n c m : Nat) (M : Int) (xs : List Int) (lo : Nat) (w : World) (hr : w.ownsRow lo 3 1 (.slice a n c) n (xs.map (Value.int .i64))) (hM : M = (m : Int)) (hn : n = xs.length) (hlo : lo ≤ w.heap.size) (hlen : n ≤ 1048576) (hm : m ≤ 1073741824) :
    Calls Try.prog 34 #[.slice a n c, .int .i64 M] w fun e w' => e = .returned (.int .i64 (M + (n : Int))) ∧ MarkedI 3 lo a c m n w w' := by
  subst hM
  subst hn
  exact (markInts_n a c m xs lo w hr hlen hm).mono fun e w' ⟨he, ho, hg⟩ => ⟨by rw [he]; exact ret_int (by omega), ho, below_own hr hg hlo, hg⟩
theorem heldInts_m (a : Option Addr) (n c m : Nat) (M : Int) (hi : Nat) (w : World) (hr : Nums .i64 w hi a c (marksI m n)) (hM : M = (m : Int)) (hlen : n ≤ 1048576) (hm : m ≤ 1073741824) :
    Calls Try.prog 35 #[.slice a n c, .int .i64 M] w fun e w' => e = .returned (.int .i64 (M + (n : Int))) ∧ Below w.heap.size w w' := by
  subst hM
  exact (heldInts_n a c m n hi w hr hlen hm).mono fun e w' ⟨he, hw⟩ => ⟨by rw [he]; exact ret_int (by omega), hw ▸ Below.refl _ _⟩
theorem Rw.markedI {T : TypeId} {lo up : Nat} {a : Option Addr} {c m n : Nat} {ys : List Value} {w1 w w' : World} (h : Rw T 1 lo up a n c ys w1) (hm : MarkedI T lo a c m n w w') : Rw T 1 lo up a n c ((marksI m n).map (Value.int .i64)) w' := ⟨hm.own, h.up⟩
theorem Nums.of_marksI {T : TypeId} {lo : Nat} {a : Option Addr} {c m n : Nat} {w w' : World} (h : MarkedI T lo a c m n w w') : Nums .i64 w' w'.heap.size a c (marksI m n) := (Nums.of_own h.own).2
theorem eqInts_b (a b : Option Addr) (n m ca cb : Nat) (xs : List Int) (ha hb : Nat) (w : World) (h1 : Nums .i64 w ha a ca xs) (h2 : Nums .i64 w hb b cb xs) (hn : n = xs.length) (hm : m = xs.length) :
    Calls Try.prog 33 #[.slice a n ca, .slice b m cb] w fun e w' => e = .returned (.bool true) ∧ Below w.heap.size w w' :=
  (eqInts_n a b n m ca cb xs ha hb w h1 h2 hn hm).mono fun e w' ⟨he, k, hw⟩ => ⟨he, by rw [hw]; exact below_drewN (Below.refl _ _) k⟩

/-- A ring by value. -/
def rv (a : Option Addr) (n c : Nat) (hd ct : Int) : Value := .agg #[.slice a n c, .int .i64 hd, .int .i64 ct]
/-- A call that hands back a ring in memory of its own. -/
def FreshRing (T : TypeId) (xs : List Int) (hd ct : Int) (w : World) (e : Ending) (w' : World) : Prop :=
  ∃ a c, e = .returned (.agg #[.slice a xs.length c, .int .i64 hd, .int .i64 ct]) ∧ w'.ownsRow w.heap.size T 1 (.slice a xs.length c) xs.length (xs.map (Value.int .i64)) ∧ Below w.heap.size w w'

theorem szRing_any (a : Option Addr) (n c : Nat) (hd ct : Int) (w : World) (hn : n ≤ 9223372036854775807) :
    Calls Try.prog 19 #[.agg #[.slice a n c, .int .i64 hd, .int .i64 ct], .int .i64 1048576] w fun e w' => e = .returned (.int .i64 (if (1048576 : Int) - (n : Int) < 0 then -1 else 1048576 - (n : Int))) ∧ Below w.heap.size w w' := by
  have hs := fun W => szInts_n a n c 1048576 W (by omega) (by omega) hn
  by_cases h : (1048576 : Int) - (n : Int) < 0
  · rw [if_pos h] at hs ⊢
    have HS := Lib.hid hs
    clear hs
    go_enter Try.func19, Try.ntmps19
    go_wp2_with fail
    refine (HS.out _).mono ?_
    rintro e w' ⟨rfl, rfl⟩
    go_wp2
    go_ret
    exact ⟨rfl, (Below.refl _ _).alloc (Nat.le_refl _) _⟩
  · rw [if_neg h] at hs ⊢
    have HS := Lib.hid hs
    clear hs
    go_enter Try.func19, Try.ntmps19
    go_wp2_with fail
    refine (HS.out _).mono ?_
    rintro e w' ⟨rfl, rfl⟩
    go_wp2
    go_ret
    exact ⟨rfl, (Below.refl _ _).alloc (Nat.le_refl _) _⟩

set_option maxHeartbeats 1000000 in
theorem toRing_any (a : Option Addr) (n c : Nat) (hd ct : Int) (xs : List Int) (hi : Nat) (w : World) (hr : Nums .i64 w hi a c xs) (hn : n = xs.length) (hB : hi ≤ w.heap.size) (hlen : xs.length ≤ 1048576) :
    Calls Try.prog 21 #[.agg #[.slice a n c, .int .i64 hd, .int .i64 ct]] w (FreshRing 3 xs hd ct w) := by
  subst hn
  have b1 := (Below.refl w.heap.size w).alloc (Nat.le_refl _) (.cells #[.slice a xs.length c, .int .i64 hd, .int .i64 ct] 38)
  have b2 := b1.alloc (by simp) (.cells #[.slice none 0 0, .int .i64 0, .int .i64 0] 28)
  have b3 := b2.alloc (by simp; omega) (.cells #[.slice none 0 0, .int .i64 0, .int .i64 0] 28)
  have HN := Lib.hid (hr.below (b3.mono hB))
  have K0 := Lib.hid (((Blk.new w 38 #[.slice a xs.length c, .int .i64 hd, .int .i64 ct]).alloc (.cells #[.slice none 0 0, .int .i64 0, .int .i64 0] 28)).alloc (.cells #[.slice none 0 0, .int .i64 0, .int .i64 0] 28))
  have K1 := Lib.hid ((Blk.new (w.alloc (.cells #[.slice a xs.length c, .int .i64 hd, .int .i64 ct] 38)) 28 #[.slice none 0 0, .int .i64 0, .int .i64 0]).alloc (.cells #[.slice none 0 0, .int .i64 0, .int .i64 0] 28))
  have K2 := Lib.hid (Blk.new ((w.alloc (.cells #[.slice a xs.length c, .int .i64 hd, .int .i64 ct] 38)).alloc (.cells #[.slice none 0 0, .int .i64 0, .int .i64 0] 28)) 28 #[.slice none 0 0, .int .i64 0, .int .i64 0])
  have B3 := Lib.hid b3
  clear hr b1 b2 b3
  go_enter Try.func21, Try.ntmps21
  go_wp2_with fail
  refine (toInts_n a _ c xs _ _ HN.out rfl (by simp; omega) hlen).mono ?_
  rintro e w1 ⟨a1, c1, rfl, ho, hb⟩
  have q0 := (K0.out.below hb).cell
  have q1 := (K1.out.below hb).cell
  have q2 := (K2.out.below hb).cell
  have f1 := (K1.out.below hb).frozen
  have f2 := (K2.out.below hb).frozen
  simp only [World.size_alloc] at q0 q1 q2 f1 f2
  have O1 := Lib.hid ho
  have B1 := Lib.hid (B3.out.trans (hb.mono (by simp; omega)))
  have HP : Hid (FreshRing 3 xs hd ct w (.returned (.agg #[.slice a1 xs.length c1, .int .i64 hd, .int .i64 ct])) ((((((w1.setCell ⟨w.heap.size + 1 + 1, 0, none⟩ (.slice a1 xs.length c1)).setCell ⟨w.heap.size + 1 + 1, 1, none⟩ (.int .i64 hd)).setCell ⟨w.heap.size + 1 + 1, 2, none⟩ (.int .i64 ct)).setCell ⟨w.heap.size + 1, 0, none⟩ (.slice a1 xs.length c1)).setCell ⟨w.heap.size + 1, 1, none⟩ (.int .i64 hd)).setCell ⟨w.heap.size + 1, 2, none⟩ (.int .i64 ct))) := by
    simp only [World.size_alloc] at ho
    refine ⟨a1, c1, rfl, owns_less (ownsRow_setCell_below (ownsRow_setCell_below (ownsRow_setCell_below (ownsRow_setCell_below (ownsRow_setCell_below (ownsRow_setCell_below ho ?_ _) ?_ _) ?_ _) ?_ _) ?_ _) ?_ _) (by omega), ((((((B1.out.setCell ?_ _).setCell ?_ _).setCell ?_ _).setCell ?_ _).setCell ?_ _).setCell ?_ _)⟩ <;> simp <;> omega
  clear ho hb
  go_wp2
  exact bodyPost_ret (v := .agg #[.slice a1 xs.length c1, .int .i64 hd, .int .i64 ct]) (by simp [results, Try.results21, go_sem, q1]) rfl HP.out

set_option maxHeartbeats 1000000 in
theorem eqRing_any (a1 a2 : Option Addr) (n m c d : Nat) (hd ct : Int) (xs : List Int) (h1 h2 : Nat) (w : World) (hx : Nums .i64 w h1 a1 c xs) (hy : Nums .i64 w h2 a2 d xs) (hn : n = xs.length) (hm : m = xs.length) (hB : h1 ≤ w.heap.size) (hC : h2 ≤ w.heap.size) :
    Calls Try.prog 23 #[.agg #[.slice a1 n c, .int .i64 hd, .int .i64 ct], .agg #[.slice a2 m d, .int .i64 hd, .int .i64 ct]] w fun e w' => e = .returned (.bool true) ∧ Below w.heap.size w w' := by
  subst hn
  subst hm
  have b1 := (Below.refl w.heap.size w).alloc (Nat.le_refl _) (.cells #[.slice a1 xs.length c, .int .i64 hd, .int .i64 ct] 28)
  have b2 := b1.alloc (by simp) (.cells #[.slice a2 xs.length d, .int .i64 hd, .int .i64 ct] 28)
  have H1 := Lib.hid (hx.below (b2.mono hB))
  have H2 := Lib.hid (hy.below (b2.mono hC))
  have B2 := Lib.hid b2
  clear hx hy b1 b2
  have hbb : (hd != hd) = false := by simp
  have hcc : (ct != ct) = false := by simp
  go_enter Try.func23, Try.ntmps23
  go_wp2_with fail
  refine (eqInts_n _ _ _ _ _ _ xs _ _ _ H1.out H2.out rfl rfl).mono ?_
  rintro e w' ⟨rfl, nd, rfl⟩
  go_wp2
  go_ret
  exact ⟨rfl, below_drewN B2.out nd⟩

set_option maxHeartbeats 1000000 in
theorem markRing_m (a : Option Addr) (n c m : Nat) (hd ct : Int) (M : Int) (xs : List Int) (lo : Nat) (w : World) (hr : w.ownsRow lo 3 1 (.slice a n c) n (xs.map (Value.int .i64))) (hM : M = (m : Int)) (hn : n = xs.length) (hlo : lo ≤ w.heap.size) (hlen : n ≤ 1048576) (hm : m ≤ 1073741824) :
    Calls Try.prog 26 #[.agg #[.slice a n c, .int .i64 hd, .int .i64 ct], .int .i64 M] w fun e w' => e = .returned (.int .i64 (M + (n : Int))) ∧ MarkedI 3 lo a c m n w w' := by
  have HR := Lib.hid (hr.alloc (.cells #[.slice a n c, .int .i64 hd, .int .i64 ct] 28))
  have HB := Lib.hid ((Below.refl lo w).alloc hlo (.cells #[.slice a n c, .int .i64 hd, .int .i64 ct] 28))
  have HM := Lib.hid hM
  have HN := Lib.hid hn
  clear hr hM hn
  go_enter Try.func26, Try.ntmps26
  go_wp2_with fail
  refine (markInts_m a n c m M xs lo _ HR.out HM.out HN.out (by simp; omega) hlen hm).mono ?_
  rintro e w1 ⟨rfl, hk⟩
  have HK : Hid (MarkedI 3 lo a c m n w w1) := ⟨hk.own, HB.out.trans hk.below, grown_trans (World.grownBy_alloc w _ _) hk.grown⟩
  clear hk
  go_wp2
  go_ret
  exact ⟨rfl, HK.out⟩

set_option maxHeartbeats 1000000 in
theorem heldRing_m (a : Option Addr) (n c m : Nat) (hd ct : Int) (M : Int) (hi : Nat) (w : World) (hr : Nums .i64 w hi a c (marksI m n)) (hB : hi ≤ w.heap.size) (hM : M = (m : Int)) (hlen : n ≤ 1048576) (hm : m ≤ 1073741824) :
    Calls Try.prog 27 #[.agg #[.slice a n c, .int .i64 hd, .int .i64 ct], .int .i64 M] w fun e w' => e = .returned (.int .i64 (M + (n : Int))) ∧ Below w.heap.size w w' := by
  have b1 := (Below.refl w.heap.size w).alloc (Nat.le_refl _) (.cells #[.slice a n c, .int .i64 hd, .int .i64 ct] 28)
  have HR := Lib.hid (hr.below (b1.mono hB))
  have HB := Lib.hid b1
  have HM := Lib.hid hM
  have hM0 : 0 ≤ M := by omega
  have hM1 : M ≤ 1073741824 := by omega
  clear hr b1 hM
  go_enter Try.func27, Try.ntmps27
  go_wp2_with fail
  refine (heldInts_m a n c m M _ _ HR.out HM.out hlen hm).mono ?_
  rintro e w1 ⟨rfl, hb⟩
  have HB1 := Lib.hid (HB.out.trans (hb.mono (by simp)))
  clear hb
  go_wp2
  go_ret
  exact ⟨rfl, HB1.out⟩


end Go.Proofs.Ytkconbmgljmpfaa
