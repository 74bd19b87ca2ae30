/- Contracts of the laws' own helpers over a decoder; DecoderOk. -/
import Derived.Test.YtddanfpiecgcgaaDoorProg
import Derived.Test.YtddanfpiecgcgaaDoorPlainDec
import Derived.WalkKit
import Derived.WalkSpells
import Derived.ProofKit
import Derived.Lib.Hide
import Derived.Outline
namespace Go.Proofs.YtddanfpiecgcgaaDoor
open Go.RowKit

theorem szDecoder_any (a : Option Addr) (n c : Nat) (b : Bool) (w : World) (hn : n ≤ 9223372036854775807) :
    Calls Tryd.prog 112 #[.agg #[.slice a n c, .bool b], .int .i64 1048576] w fun e w' => e = .returned (.int .i64 (if (1048576 : Int) - (n : Int) < 0 then -1 else 1048576 - (n : Int))) ∧ Below w.heap.size w w' := by
  have hs := fun W => szBytes_any a n c 1048576 W (by omega) (by omega) hn
  by_cases h : (1048576 : Int) - (n : Int) < 0
  · rw [if_pos h] at hs ⊢
    have HS := Lib.hid hs
    clear hs
    go_enter Tryd.func112, Tryd.ntmps112
    go_wp2_with fail
    refine (HS.out _).mono ?_
    rintro e w' ⟨rfl, rfl⟩
    go_wp2
    go_ret
    exact ⟨rfl, (Below.refl _ _).alloc (Nat.le_refl _) _⟩
  · rw [if_neg h] at hs ⊢
    have HS := Lib.hid hs
    clear hs
    go_enter Tryd.func112, Tryd.ntmps112
    go_wp2_with fail
    refine (HS.out _).mono ?_
    rintro e w' ⟨rfl, rfl⟩
    go_wp2
    go_ret
    exact ⟨rfl, (Below.refl _ _).alloc (Nat.le_refl _) _⟩

set_option maxHeartbeats 1000000 in
theorem toDecoder_any (a : Option Addr) (n c : Nat) (b : Bool) (xs : List Int) (hi : Nat) (w : World) (hr : Nums .u8 w hi a c xs) (hn : n = xs.length) (hB : hi ≤ w.heap.size) (hlen : xs.length ≤ 1048576) :
    Calls Tryd.prog 113 #[.agg #[.slice a n c, .bool b]] w (FreshDec 5 xs b w) := by
  subst hn
  have b1 := (Below.refl w.heap.size w).alloc (Nat.le_refl _) (.cells #[.slice a xs.length c, .bool b] 122)
  have b2 := b1.alloc (by simp) (.cells #[.slice none 0 0, .bool false] 130)
  have b3 := b2.alloc (by simp; omega) (.cells #[.slice none 0 0, .bool false] 130)
  have HN := Lib.hid (hr.below (b3.mono hB))
  have K0 := Lib.hid (((Blk.new w 122 #[.slice a xs.length c, .bool b]).alloc (.cells #[.slice none 0 0, .bool false] 130)).alloc (.cells #[.slice none 0 0, .bool false] 130))
  have K1 := Lib.hid ((Blk.new (w.alloc (.cells #[.slice a xs.length c, .bool b] 122)) 130 #[.slice none 0 0, .bool false]).alloc (.cells #[.slice none 0 0, .bool false] 130))
  have K2 := Lib.hid (Blk.new ((w.alloc (.cells #[.slice a xs.length c, .bool b] 122)).alloc (.cells #[.slice none 0 0, .bool false] 130)) 130 #[.slice none 0 0, .bool false])
  have B3 := Lib.hid b3
  clear hr b1 b2 b3
  go_enter Tryd.func113, Tryd.ntmps113
  go_wp2_with fail
  refine (toBytes_any a _ c xs _ _ HN.out rfl (by simp; omega) hlen).mono ?_
  rintro e w1 ⟨a1, c1, rfl, ho, hb⟩
  have q0 := (K0.out.below hb).cell
  have q1 := (K1.out.below hb).cell
  have q2 := (K2.out.below hb).cell
  have f1 := (K1.out.below hb).frozen
  have f2 := (K2.out.below hb).frozen
  simp only [World.size_alloc] at q0 q1 q2 f1 f2
  have O1 := Lib.hid ho
  have B1 := Lib.hid (B3.out.trans (hb.mono (by simp; omega)))
  have HP : Hid (FreshDec 5 xs b w (.returned (.agg #[.slice a1 xs.length c1, .bool b])) ((((w1.setCell ⟨w.heap.size + 1 + 1, 0, none⟩ (.slice a1 xs.length c1)).setCell ⟨w.heap.size + 1 + 1, 1, none⟩ (.bool b)).setCell ⟨w.heap.size + 1, 0, none⟩ (.slice a1 xs.length c1)).setCell ⟨w.heap.size + 1, 1, none⟩ (.bool b))) := by
    simp only [World.size_alloc] at ho
    refine ⟨a1, c1, rfl, owns_less (ownsRow_setCell_below (ownsRow_setCell_below (ownsRow_setCell_below (ownsRow_setCell_below ho ?_ _) ?_ _) ?_ _) ?_ _) (by omega), ((((B1.out.setCell ?_ _).setCell ?_ _).setCell ?_ _).setCell ?_ _)⟩ <;> simp <;> omega
  clear ho hb
  go_wp2
  exact bodyPost_ret (v := .agg #[.slice a1 xs.length c1, .bool b]) (by simp [results, Tryd.results113, go_sem, q1]) rfl HP.out

set_option maxHeartbeats 1000000 in
theorem eqDecoder_any (a1 a2 : Option Addr) (n m c d : Nat) (b : Bool) (xs : List Int) (h1 h2 : Nat) (w : World) (hx : Nums .u8 w h1 a1 c xs) (hy : Nums .u8 w h2 a2 d xs) (hn : n = xs.length) (hm : m = xs.length) (hB : h1 ≤ w.heap.size) (hC : h2 ≤ w.heap.size) :
    Calls Tryd.prog 117 #[.agg #[.slice a1 n c, .bool b], .agg #[.slice a2 m d, .bool b]] w fun e w' => e = .returned (.bool true) ∧ Below w.heap.size w w' := by
  subst hn
  subst hm
  have b1 := (Below.refl w.heap.size w).alloc (Nat.le_refl _) (.cells #[.slice a1 xs.length c, .bool b] 130)
  have b2 := b1.alloc (by simp) (.cells #[.slice a2 xs.length d, .bool b] 130)
  have H1 := Lib.hid (hx.below (b2.mono hB))
  have H2 := Lib.hid (hy.below (b2.mono hC))
  have B2 := Lib.hid b2
  clear hx hy b1 b2
  have hbb : (b != b) = false := by simp
  go_enter Tryd.func117, Tryd.ntmps117
  go_wp2_with fail
  refine (eqBytes_any _ _ _ _ _ _ xs _ _ _ H1.out H2.out rfl rfl).mono ?_
  rintro e w' ⟨rfl, nd, rfl⟩
  go_wp2
  go_ret
  exact ⟨rfl, below_drewN B2.out nd⟩




end Go.Proofs.YtddanfpiecgcgaaDoor
