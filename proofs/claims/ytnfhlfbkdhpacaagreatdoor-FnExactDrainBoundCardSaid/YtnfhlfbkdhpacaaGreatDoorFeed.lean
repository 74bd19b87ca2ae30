/- Contracts of the copies of a decoder and of FeedBytes. -/
import Derived.Test.YtnfhlfbkdhpacaaGreatDoorClone
namespace Go.Proofs.YtnfhlfbkdhpacaaGreatDoor
open Go.RowKit

/-- A decoder stored into the call's own result. -/
theorem dec_stored {T : TypeId} {xs : List Int} {a : Option Addr} {c lo g : Nat} {w w1 : World} (b : Bool) (ho : w1.ownsRow lo T 1 (.slice a xs.length c) xs.length (xs.map (Value.int .u8))) (hb : Below w.heap.size w w1) (hlo : w.heap.size ≤ g ∧ g < lo) :
    FreshDec T xs b w (.returned (.agg #[.slice a xs.length c, .bool b])) ((w1.setCell ⟨g, 0, none⟩ (.slice a xs.length c)).setCell ⟨g, 1, none⟩ (.bool b)) :=
  ⟨a, c, rfl, owns_less (ownsRow_setCell_below (ownsRow_setCell_below ho (show g < lo by omega) _) (show g < lo by omega) _) (by omega), (hb.setCell (p := ⟨g, 0, none⟩) hlo.1 _).setCell (p := ⟨g, 1, none⟩) hlo.1 _⟩

/-- A decoder and whether: of the call's own memory. -/
def FreshDecOk (T : TypeId) (xs : List Int) (b ok : Bool) (w : World) (e : Ending) (w' : World) : Prop :=
  ∃ a c, e = .returned (.tuple #[.agg #[.slice a xs.length c, .bool b], .bool ok]) ∧ w'.ownsRow w.heap.size T 1 (.slice a xs.length c) xs.length (xs.map (Value.int .u8)) ∧ Below w.heap.size w w'
theorem decok_stored {T : TypeId} {xs : List Int} {a : Option Addr} {c lo g : Nat} {w w1 : World} (b ok : Bool) (ho : w1.ownsRow lo T 1 (.slice a xs.length c) xs.length (xs.map (Value.int .u8))) (hb : Below w.heap.size w w1) (hlo : w.heap.size ≤ g ∧ g < lo) :
    FreshDecOk T xs b ok w (.returned (.tuple #[.agg #[.slice a xs.length c, .bool b], .bool ok])) ((w1.setCell ⟨g, 0, none⟩ (.slice a xs.length c)).setCell ⟨g, 1, none⟩ (.bool b)) :=
  ⟨a, c, rfl, owns_less (ownsRow_setCell_below (ownsRow_setCell_below ho (show g < lo by omega) _) (show g < lo by omega) _) (by omega), (hb.setCell (p := ⟨g, 0, none⟩) hlo.1 _).setCell (p := ⟨g, 1, none⟩) hlo.1 _⟩

def feedOk (xs : List Int) (b : Bool) (ys : List Int) : Bool := dOk xs.length b && !b && decide (xs.length + ys.length ≤ 400)
def feedL (xs : List Int) (b : Bool) (ys : List Int) : List Int := if feedOk xs b ys = true then xs ++ ys else xs
theorem feed_no1 {xs ys : List Int} {b : Bool} (h : dOk xs.length b = false) : feedOk xs b ys = false := by simp [feedOk, h]
theorem feed_no2 {xs ys : List Int} : feedOk xs true ys = false := by simp [feedOk]
theorem feed_no3 {xs ys : List Int} {b : Bool} (h : ¬ xs.length + ys.length ≤ 400) : feedOk xs b ys = false := by simp [feedOk, h]
theorem feed_yes {xs ys : List Int} (h : xs.length + ys.length ≤ 400) : feedOk xs false ys = true := by simp [feedOk, dOk, h]; omega
theorem feedL_le {xs ys : List Int} {b : Bool} (h : xs.length ≤ 1048576) : (feedL xs b ys).length ≤ 1048576 := by
  unfold feedL
  split
  · rename_i h2
    simp [feedOk] at h2
    simp; omega
  · exact h
theorem feedL_no {xs ys : List Int} {b : Bool} (h : feedOk xs b ys = false) : feedL xs b ys = xs := by simp [feedL, h]
theorem feedL_yes {xs ys : List Int} {b : Bool} (h : feedOk xs b ys = true) : feedL xs b ys = xs ++ ys := by simp [feedL, h]

set_option maxRecDepth 100000 in
set_option maxHeartbeats 1000000 in
theorem copied_any (a : Option Addr) (n c : Nat) (b : Bool) (xs : List Int) (hi : Nat) (w : World) (hr : Nums .u8 w hi a c xs) (hn : n = xs.length) (hB : hi ≤ w.heap.size) (hlen : xs.length ≤ 4194304) :
    Calls Tryz.prog 106 #[.agg #[.slice a n c, .bool b]] w (FreshDec 5 xs b w) := by
  subst hn
  have b1 := (Below.refl w.heap.size w).alloc (Nat.le_refl _) (.cells #[.slice a xs.length c, .bool b] 91)
  have b2 := b1.alloc (by simp) (.cells #[.slice none 0 0, .bool false] 91)
  have HN := Lib.hid (hr.below (b2.mono hB).drew)
  have K0 := Lib.hid ((Blk.new w 91 #[.slice a xs.length c, .bool b]).alloc (.cells #[.slice none 0 0, .bool false] 91))
  have K1 := Lib.hid (Blk.new (w.alloc (.cells #[.slice a xs.length c, .bool b] 91)) 91 #[.slice none 0 0, .bool false])
  have B2 := Lib.hid b2.drew
  clear hr b1 b2
  go_enter Tryz.func106, Tryz.ntmps106
  go_wp2_with fail
  go_region_with (go_at_call 109; refine (clone_any a _ c xs _ _ HN.out rfl (by simp; omega) hlen).mono ?_; rintro e w1 ⟨a1, c1, rfl, ho, hb⟩; have q0 := (K0.out.drew.below hb).cell; have q1 := (K1.out.drew.below hb).cell; have f1 := (K1.out.drew.below hb).frozen; simp only [World.size_alloc] at q1 f1; have HP := Lib.hid (dec_stored (g := w.heap.size + 1) b ho (B2.out.trans (hb.mono (by simp; omega))) (by constructor <;> simp)); clear ho hb)
  all_goals
    go_wp2
    exact bodyPost_ret (v := .agg #[.slice a1 xs.length c1, .bool b]) (by simp [results, Tryz.results106, go_sem, q1]) rfl HP.out
set_option maxRecDepth 100000 in
set_option maxHeartbeats 1000000 in
theorem l02Copy_any (a : Option Addr) (n c : Nat) (b : Bool) (xs : List Int) (hi : Nat) (w : World) (hr : Nums .u8 w hi a c xs) (hn : n = xs.length) (hB : hi ≤ w.heap.size) (hlen : xs.length ≤ 4194304) :
    Calls Tryz.prog 102 #[.agg #[.slice a n c, .bool b]] w (FreshDec 5 xs b w) := by
  subst hn
  have b1 := (Below.refl w.heap.size w).alloc (Nat.le_refl _) (.cells #[.slice a xs.length c, .bool b] 91)
  have b2 := b1.alloc (by simp) (.cells #[.slice none 0 0, .bool false] 91)
  have HN := Lib.hid (hr.below (b2.mono hB).drew)
  have K0 := Lib.hid ((Blk.new w 91 #[.slice a xs.length c, .bool b]).alloc (.cells #[.slice none 0 0, .bool false] 91))
  have K1 := Lib.hid (Blk.new (w.alloc (.cells #[.slice a xs.length c, .bool b] 91)) 91 #[.slice none 0 0, .bool false])
  have B2 := Lib.hid b2.drew
  clear hr b1 b2
  go_enter Tryz.func102, Tryz.ntmps102
  go_wp2_with fail
  go_region_with (go_at_call 104; refine (specBytes2_any a _ c xs _ _ HN.out rfl (by simp; omega) hlen).mono ?_; rintro e w1 ⟨a1, c1, rfl, ho, hb⟩; have q0 := (K0.out.drew.below hb).cell; have q1 := (K1.out.drew.below hb).cell; have f1 := (K1.out.drew.below hb).frozen; simp only [World.size_alloc] at q1 f1; have HP := Lib.hid (dec_stored (g := w.heap.size + 1) b ho (B2.out.trans (hb.mono (by simp; omega))) (by constructor <;> simp)); clear ho hb)
  all_goals
    go_wp2
    exact bodyPost_ret (v := .agg #[.slice a1 xs.length c1, .bool b]) (by simp [results, Tryz.results102, go_sem, q1]) rfl HP.out
set_option maxRecDepth 100000 in
set_option maxHeartbeats 2000000 in
theorem implFeed_any (a a' : Option Addr) (n c m d : Nat) (b : Bool) (xs ys : List Int) (hi hj : Nat) (w : World) (hr : Nums .u8 w hi a c xs) (hs : Nums .u8 w hj a' d ys) (hn : n = xs.length) (hm : m = ys.length) (hB : hi ≤ w.heap.size) (hC : hj ≤ w.heap.size) (hlx : xs.length ≤ 1048576) (hly : ys.length ≤ 1048576) :
    Calls Tryz.prog 249 #[.agg #[.slice a n c, .bool b], .slice a' m d] w (FreshDecOk 5 (feedL xs b ys) b (feedOk xs b ys) w) := by
  have hc1 := hr.cap
  have hc2 := hr.big
  have hd1 := hs.cap
  have hd2 := hs.big
  subst hn
  subst hm
  have b1 := (Below.refl w.heap.size w).alloc (Nat.le_refl _) (.cells #[.slice a xs.length c, .bool b] 91)
  have b2 := b1.alloc (by simp) (.cells #[.slice none 0 0, .bool false] 91)
  have HR := Lib.hid (hr.below (b2.mono hB))
  have HS := Lib.hid (hs.below (b2.mono hC))
  have K0 := Lib.hid ((Blk.new w 91 #[.slice a xs.length c, .bool b]).alloc (.cells #[.slice none 0 0, .bool false] 91))
  have K1 := Lib.hid (Blk.new (w.alloc (.cells #[.slice a xs.length c, .bool b] 91)) 91 #[.slice none 0 0, .bool false])
  have B2 := Lib.hid b2
  clear hr hs b1 b2
  have HD := Lib.hid (fun W => implDecOk_any a xs.length c b W (by omega))
  cases hk : dOk xs.length b with
  | false =>
    rw [feedL_no (feed_no1 hk), feed_no1 hk]
    rw [hk] at HD
    clear hk
    go_enter Tryz.func249, Tryz.ntmps249
    go_wp2_with fail
    refine (HD.out _).mono ?_
    rintro e w1 ⟨rfl, hb⟩
    have k0 := K0.out.below hb
    have k1 := K1.out.below hb
    have q0 := k0.cell
    have q1 := k1.cell
    have f1 := k1.frozen
    simp only [World.size_alloc] at q1 f1
    have KK0 := Lib.hid k0
    have KK1 := Lib.hid k1
    have HR1 := Lib.hid (HR.out.below (hb.mono (by simp; omega)))
    have HS1 := Lib.hid (HS.out.below (hb.mono (by simp; omega)))
    have B1 := Lib.hid (B2.out.trans (hb.mono (by simp; omega)))
    have s1 := hb.size
    simp only [World.size_alloc] at s1
    clear hb k0 k1
    go_wp2_with fail
    refine (copied_any a _ c b xs _ _ HR1.out rfl (by omega) (by omega)).mono ?_
    rintro e w2 ⟨a2, c2, rfl, ho, hb⟩
    clear q0 q1 f1
    have q1 := (KK1.out.below hb).cell
    have f1 := (KK1.out.below hb).frozen
    simp only [World.size_alloc] at q1 f1
    have HP := Lib.hid (decok_stored (g := w.heap.size + 1) b false ho (B1.out.trans (hb.mono (by omega))) (by omega))
    clear ho hb
    go_wp2
    exact bodyPost_ret (v := .tuple #[.agg #[.slice a2 xs.length c2, .bool b], .bool false]) (by simp [results, Tryz.results249, go_sem, q1]) rfl HP.out
  | true =>
    rw [hk] at HD
    clear hk
    cases b with
    | true =>
      rw [feedL_no feed_no2, feed_no2]
      go_enter Tryz.func249, Tryz.ntmps249
      go_wp2_with fail
      refine (HD.out _).mono ?_
      rintro e w1 ⟨rfl, hb⟩
      have k0 := K0.out.below hb
      have k1 := K1.out.below hb
      have q0 := k0.cell
      have q1 := k1.cell
      have f1 := k1.frozen
      simp only [World.size_alloc] at q1 f1
      have KK0 := Lib.hid k0
      have KK1 := Lib.hid k1
      have HR1 := Lib.hid (HR.out.below (hb.mono (by simp; omega)))
      have HS1 := Lib.hid (HS.out.below (hb.mono (by simp; omega)))
      have B1 := Lib.hid (B2.out.trans (hb.mono (by simp; omega)))
      have s1 := hb.size
      simp only [World.size_alloc] at s1
      clear hb k0 k1
      go_wp2_with fail
      refine (copied_any a _ c true xs _ _ HR1.out rfl (by omega) (by omega)).mono ?_
      rintro e w2 ⟨a2, c2, rfl, ho, hb⟩
      clear q0 q1 f1
      have q1 := (KK1.out.below hb).cell
      have f1 := (KK1.out.below hb).frozen
      simp only [World.size_alloc] at q1 f1
      have HP := Lib.hid (decok_stored (g := w.heap.size + 1) true false ho (B1.out.trans (hb.mono (by omega))) (by omega))
      clear ho hb
      go_wp2
      exact bodyPost_ret (v := .tuple #[.agg #[.slice a2 xs.length c2, .bool true], .bool false]) (by simp [results, Tryz.results249, go_sem, q1]) rfl HP.out
    | false =>
      by_cases h4 : xs.length + ys.length ≤ 400
      · rw [feedL_yes (feed_yes h4), feed_yes h4]
        go_enter Tryz.func249, Tryz.ntmps249
        go_wp2_with fail
        refine (HD.out _).mono ?_
        rintro e w1 ⟨rfl, hb⟩
        have k0 := K0.out.below hb
        have k1 := K1.out.below hb
        have q0 := k0.cell
        have q1 := k1.cell
        have f1 := k1.frozen
        simp only [World.size_alloc] at q1 f1
        have KK0 := Lib.hid k0
        have KK1 := Lib.hid k1
        have HR1 := Lib.hid (HR.out.below (hb.mono (by simp; omega)))
        have HS1 := Lib.hid (HS.out.below (hb.mono (by simp; omega)))
        have B1 := Lib.hid (B2.out.trans (hb.mono (by simp; omega)))
        have s1 := hb.size
        simp only [World.size_alloc] at s1
        clear hb k0 k1
        go_wp2_with fail
        refine (concat_any _ a a' _ _ c d xs ys _ _ _ ?hk (HR1.out.below ((Below.refl hi w1).alloc (by omega) _)) (HS1.out.below ((Below.refl hj w1).alloc (by omega) _)) rfl rfl (by simp; omega) (by simp; omega) (by omega) (by omega)).mono ?_
        case hk => exact Blk.new _ _ _
        rintro e w2 ⟨a2, c2, rfl, ho, hb⟩
        clear q0 q1 f1
        have k1 := (KK1.out.alloc (.cells #[.slice a xs.length c, .slice a' ys.length d] 60)).below hb
        have q1 := k1.cell
        have f1 := k1.frozen
        simp only [World.size_alloc] at q1 f1
        have HP := Lib.hid (decok_stored (g := w.heap.size + 1) false true ho (B1.out.trans (((Below.refl w.heap.size w1).alloc (by omega) _).trans (hb.mono (by simp; omega)))) (by simp; omega))
        rw [List.length_append] at HP
        clear ho hb k1
        go_wp2
        exact bodyPost_ret (v := .tuple #[.agg #[.slice a2 (xs.length + ys.length) c2, .bool false], .bool true]) (by simp [results, Tryz.results249, go_sem, q1]) rfl HP.out
      · rw [feedL_no (feed_no3 h4), feed_no3 h4]
        go_enter Tryz.func249, Tryz.ntmps249
        go_wp2_with fail
        refine (HD.out _).mono ?_
        rintro e w1 ⟨rfl, hb⟩
        have k0 := K0.out.below hb
        have k1 := K1.out.below hb
        have q0 := k0.cell
        have q1 := k1.cell
        have f1 := k1.frozen
        simp only [World.size_alloc] at q1 f1
        have KK0 := Lib.hid k0
        have KK1 := Lib.hid k1
        have HR1 := Lib.hid (HR.out.below (hb.mono (by simp; omega)))
        have HS1 := Lib.hid (HS.out.below (hb.mono (by simp; omega)))
        have B1 := Lib.hid (B2.out.trans (hb.mono (by simp; omega)))
        have s1 := hb.size
        simp only [World.size_alloc] at s1
        clear hb k0 k1
        go_wp2_with fail
        refine (copied_any a _ c false xs _ _ HR1.out rfl (by omega) (by omega)).mono ?_
        rintro e w2 ⟨a2, c2, rfl, ho, hb⟩
        clear q0 q1 f1
        have q1 := (KK1.out.below hb).cell
        have f1 := (KK1.out.below hb).frozen
        simp only [World.size_alloc] at q1 f1
        have HP := Lib.hid (decok_stored (g := w.heap.size + 1) false false ho (B1.out.trans (hb.mono (by omega))) (by omega))
        clear ho hb
        go_wp2
        exact bodyPost_ret (v := .tuple #[.agg #[.slice a2 xs.length c2, .bool false], .bool false]) (by simp [results, Tryz.results249, go_sem, q1]) rfl HP.out

end Go.Proofs.YtnfhlfbkdhpacaaGreatDoor
