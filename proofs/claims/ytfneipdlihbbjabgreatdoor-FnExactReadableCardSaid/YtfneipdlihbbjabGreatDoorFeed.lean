/- Contracts of the copies of a decoder and of FeedBytes. -/
import Derived.Test.YtfneipdlihbbjabGreatDoorClone
namespace Go.Proofs.YtfneipdlihbbjabGreatDoor
open Go.RowKit

/-- A decoder stored into the call's own result. -/
theorem dec_stored {T : TypeId} {xs : List Int} {a : Option Addr} {c lo g : Nat} {w w1 : World} (b : Bool) (ho : w1.ownsRow lo T 1 (.slice a xs.length c) xs.length (xs.map (Value.int .u8))) (hb : Below w.heap.size w w1) (hlo : w.heap.size ≤ g ∧ g < lo) :
    FreshDec T xs b w (.returned (.agg #[.slice a xs.length c, .bool b])) ((w1.setCell ⟨g, 0, none⟩ (.slice a xs.length c)).setCell ⟨g, 1, none⟩ (.bool b)) :=
  ⟨a, c, rfl, owns_less (ownsRow_setCell_below (ownsRow_setCell_below ho (show g < lo by omega) _) (show g < lo by omega) _) (by omega), (hb.setCell (p := ⟨g, 0, none⟩) hlo.1 _).setCell (p := ⟨g, 1, none⟩) hlo.1 _⟩

/-- A decoder and whether: of the call's own memory. -/
def FreshDecOk (T : TypeId) (xs : List Int) (b ok : Bool) (w : World) (e : Ending) (w' : World) : Prop :=
  ∃ a c, e = .returned (.tuple #[.agg #[.slice a xs.length c, .bool b], .bool ok]) ∧ w'.ownsRow w.heap.size T 1 (.slice a xs.length c) xs.length (xs.map (Value.int .u8)) ∧ Below w.heap.size w w'
theorem decok_stored {T : TypeId} {xs : List Int} {a : Option Addr} {c lo g : Nat} {w w1 : World} (b ok : Bool) (ho : w1.ownsRow lo T 1 (.slice a xs.length c) xs.length (xs.map (Value.int .u8))) (hb : Below w.heap.size w w1) (hlo : w.heap.size ≤ g ∧ g < lo) :
    FreshDecOk T xs b ok w (.returned (.tuple #[.agg #[.slice a xs.length c, .bool b], .bool ok])) ((w1.setCell ⟨g, 0, none⟩ (.slice a xs.length c)).setCell ⟨g, 1, none⟩ (.bool b)) :=
  ⟨a, c, rfl, owns_less (ownsRow_setCell_below (ownsRow_setCell_below ho (show g < lo by omega) _) (show g < lo by omega) _) (by omega), (hb.setCell (p := ⟨g, 0, none⟩) hlo.1 _).setCell (p := ⟨g, 1, none⟩) hlo.1 _⟩

def feedOk (xs : List Int) (b : Bool) (ys : List Int) : Bool := dOk xs.length b && !b && decide (xs.length + ys.length ≤ 400)
def feedL (xs : List Int) (b : Bool) (ys : List Int) : List Int := if feedOk xs b ys = true then xs ++ ys else xs
theorem feed_no1 {xs ys : List Int} {b : Bool} (h : dOk xs.length b = false) : feedOk xs b ys = false := by simp [feedOk, h]
theorem feed_no2 {xs ys : List Int} : feedOk xs true ys = false := by simp [feedOk]
theorem feed_no3 {xs ys : List Int} {b : Bool} (h : ¬ xs.length + ys.length ≤ 400) : feedOk xs b ys = false := by simp [feedOk, h]
theorem feed_yes {xs ys : List Int} (h : xs.length + ys.length ≤ 400) : feedOk xs false ys = true := by simp [feedOk, dOk, h]; omega
theorem feedL_le {xs ys : List Int} {b : Bool} (h : xs.length ≤ 1048576) : (feedL xs b ys).length ≤ 1048576 := by
  unfold feedL
  split
  · rename_i h2
    simp [feedOk] at h2
    simp; omega
  · exact h
theorem feedL_no {xs ys : List Int} {b : Bool} (h : feedOk xs b ys = false) : feedL xs b ys = xs := by simp [feedL, h]
theorem feedL_yes {xs ys : List Int} {b : Bool} (h : feedOk xs b ys = true) : feedL xs b ys = xs ++ ys := by simp [feedL, h]

set_option maxRecDepth 100000 in
set_option maxHeartbeats 1000000 in
theorem copied_any (a : Option Addr) (n c : Nat) (b : Bool) (xs : List Int) (hi : Nat) (w : World) (hr : Nums .u8 w hi a c xs) (hn : n = xs.length) (hB : hi ≤ w.heap.size) (hlen : xs.length ≤ 4194304) :
    Calls Tryz.prog 57 #[.agg #[.slice a n c, .bool b]] w (FreshDec 5 xs b w) := by
  subst hn
  have b1 := (Below.refl w.heap.size w).alloc (Nat.le_refl _) (.cells #[.slice a xs.length c, .bool b] 57)
  have b2 := b1.alloc (by simp) (.cells #[.slice none 0 0, .bool false] 57)
  have HN := Lib.hid (hr.below (b2.mono hB).drew)
  have K0 := Lib.hid ((Blk.new w 57 #[.slice a xs.length c, .bool b]).alloc (.cells #[.slice none 0 0, .bool false] 57))
  have K1 := Lib.hid (Blk.new (w.alloc (.cells #[.slice a xs.length c, .bool b] 57)) 57 #[.slice none 0 0, .bool false])
  have B2 := Lib.hid b2.drew
  clear hr b1 b2
  go_enter Tryz.func57, Tryz.ntmps57
  go_wp2_with fail
  go_region_with (go_at_call 60; refine (clone_any a _ c xs _ _ HN.out rfl (by simp; omega) hlen).mono ?_; rintro e w1 ⟨a1, c1, rfl, ho, hb⟩; have q0 := (K0.out.drew.below hb).cell; have q1 := (K1.out.drew.below hb).cell; have f1 := (K1.out.drew.below hb).frozen; simp only [World.size_alloc] at q1 f1; have HP := Lib.hid (dec_stored (g := w.heap.size + 1) b ho (B2.out.trans (hb.mono (by simp; omega))) (by constructor <;> simp)); clear ho hb)
  all_goals
    go_wp2
    exact bodyPost_ret (v := .agg #[.slice a1 xs.length c1, .bool b]) (by simp [results, Tryz.results57, go_sem, q1]) rfl HP.out
set_option maxRecDepth 100000 in
set_option maxHeartbeats 1000000 in
theorem l02Copy_any (a : Option Addr) (n c : Nat) (b : Bool) (xs : List Int) (hi : Nat) (w : World) (hr : Nums .u8 w hi a c xs) (hn : n = xs.length) (hB : hi ≤ w.heap.size) (hlen : xs.length ≤ 4194304) :
    Calls Tryz.prog 38 #[.agg #[.slice a n c, .bool b]] w (FreshDec 5 xs b w) := by
  subst hn
  have b1 := (Below.refl w.heap.size w).alloc (Nat.le_refl _) (.cells #[.slice a xs.length c, .bool b] 57)
  have b2 := b1.alloc (by simp) (.cells #[.slice none 0 0, .bool false] 57)
  have HN := Lib.hid (hr.below (b2.mono hB).drew)
  have K0 := Lib.hid ((Blk.new w 57 #[.slice a xs.length c, .bool b]).alloc (.cells #[.slice none 0 0, .bool false] 57))
  have K1 := Lib.hid (Blk.new (w.alloc (.cells #[.slice a xs.length c, .bool b] 57)) 57 #[.slice none 0 0, .bool false])
  have B2 := Lib.hid b2.drew
  clear hr b1 b2
  go_enter Tryz.func38, Tryz.ntmps38
  go_wp2_with fail
  go_region_with (go_at_call 40; refine (specBytes2_any a _ c xs _ _ HN.out rfl (by simp; omega) hlen).mono ?_; rintro e w1 ⟨a1, c1, rfl, ho, hb⟩; have q0 := (K0.out.drew.below hb).cell; have q1 := (K1.out.drew.below hb).cell; have f1 := (K1.out.drew.below hb).frozen; simp only [World.size_alloc] at q1 f1; have HP := Lib.hid (dec_stored (g := w.heap.size + 1) b ho (B2.out.trans (hb.mono (by simp; omega))) (by constructor <;> simp)); clear ho hb)
  all_goals
    go_wp2
    exact bodyPost_ret (v := .agg #[.slice a1 xs.length c1, .bool b]) (by simp [results, Tryz.results38, go_sem, q1]) rfl HP.out

end Go.Proofs.YtfneipdlihbbjabGreatDoor
