/- Contract of impl.TakeFrame. -/
import Derived.Test.YtkconbmgljmpfaaDoorNext
import Derived.Test.YtkconbmgljmpfaaDoorIs
namespace Go.Proofs.YtkconbmgljmpfaaDoor
open Go.RowKit

/-- What TakeFrame answers: the count, the frame. -/
def tkN (xs : List Int) : Int := if tkHere xs = true then (put0 xs).length else if tkMore xs = true then 0 else -1
def tkF (xs : List Int) : Value := if tkHere xs = true then (.agg #[.int .i64 (f0K xs), .int .i64 (f0Y xs), .int .i64 (f0T xs), .int .i64 (f0V xs)]) else (.agg #[.int .i64 0, .int .i64 0, .int .i64 0, .int .i64 0])
def TakePost (xs : List Int) (w : World) (e : Ending) (w' : World) : Prop := e = .returned (.tuple #[tkF xs, .int .i64 (tkN xs)]) ∧ Below w.heap.size w w'
theorem Flt.more {w : World} {B B' : Nat} {aB aS : Addr} (h : Flt w B aB aS) (hb : B ≤ B') : Flt w B' aB aS := ⟨h.bent, h.short, h.ne, h.rows, by have := h.low; omega⟩

theorem take_here {xs : List Int} {w w' : World} (hh : tkHere xs = true) (hb : Below w.heap.size w w') : TakePost xs w (.returned (.tuple #[(.agg #[.int .i64 (f0K xs), .int .i64 (f0Y xs), .int .i64 (f0T xs), .int .i64 (f0V xs)]), .int .i64 ((put0 xs).length : Int)])) w' := ⟨by simp [tkF, tkN, hh], hb⟩
theorem take_more {xs : List Int} {w w' : World} (hh : tkHere xs = false) (hm : tkMore xs = true) (hb : Below w.heap.size w w') : TakePost xs w (.returned (.tuple #[(.agg #[.int .i64 0, .int .i64 0, .int .i64 0, .int .i64 0]), .int .i64 0])) w' := ⟨by simp [tkF, tkN, hh, hm], hb⟩
theorem take_bad {xs : List Int} {w w' : World} (hh : tkHere xs = false) (hm : tkMore xs = false) (hb : Below w.heap.size w w') : TakePost xs w (.returned (.tuple #[(.agg #[.int .i64 0, .int .i64 0, .int .i64 0, .int .i64 0]), .int .i64 (-1)])) w' := ⟨by simp [tkF, tkN, hh, hm], hb⟩

set_option maxRecDepth 100000 in
set_option maxHeartbeats 4000000 in
theorem implTake_any (hi : Nat) (a : Option Addr) (c : Nat) (xs : List Int) (aB aS : Addr) (w : World) (hN : Nums .u8 w hi a c xs) (hh : hi ≤ w.heap.size) (hx : IsB xs) (hf : Flt w w.heap.size aB aS) :
    Calls Tryd.prog 22 #[.slice a xs.length c] w (TakePost xs w) := by
  have HX := Lib.hid hx
  have HF := Lib.hid hf
  have HN := Lib.hid (hN.more hh)
  have hcap := hN.cap
  have hbig := hN.big
  clear hx hf hN
  have b0 := (Below.refl w.heap.size w).alloc (Nat.le_refl _) (.cells #[.int .i64 0, .int .i64 0, .int .i64 0, .int .i64 0] 36)
  have b1 := b0.alloc (by simp) (.cells #[.slice a xs.length c, .nilIface] 63)
  have HA := Lib.hid b1
  have K0 := Lib.hid ((Blk.new w 36 #[.int .i64 0, .int .i64 0, .int .i64 0, .int .i64 0]).alloc (.cells #[.slice a xs.length c, .nilIface] 63))
  have HR := Lib.hid (show Rd ((w.alloc (.cells #[.int .i64 0, .int .i64 0, .int .i64 0, .int .i64 0] 36)).alloc (.cells #[.slice a xs.length c, .nilIface] 63)) (w.heap.size + 1) a xs.length c xs .nilIface from ⟨by simpa using Blk.new (w.alloc (.cells #[.int .i64 0, .int .i64 0, .int .i64 0, .int .i64 0] 36)) 63 #[.slice a xs.length c, .nilIface], (HN.out.below b1).more (by omega), rfl⟩)
  have HF2 := Lib.hid ((HF.out.below b1).more (show w.heap.size ≤ w.heap.size + 1 by omega))
  clear b0 b1
  go_enter Tryd.func22, Tryd.ntmps22
  go_wp2_with fail
  refine (next_any _ _ _ _ xs aB aS _ HR.out HX.out HF2.out).mono ?_
  rintro e w1 ⟨hg, a1, n1, c1, hcase⟩
  have G1 := Lib.hid (below_grown_own hg (show w.heap.size + 1 ≤ w.heap.size + 1 from Nat.le_refl _) (by simp))
  have B1 := Lib.hid (HA.out.trans (below_grown_own hg (show w.heap.size ≤ w.heap.size + 1 by omega) (by simp; omega)))
  have K1 := Lib.hid (K0.out.belowB G1.out (by omega))
  have F1 := Lib.hid (HF2.out.below G1.out)
  have qk := K1.out.cell
  have fk := K1.out.frozen
  clear hg
  rcases hcase with ⟨hh1, rfl, hr1⟩ | ⟨hh1, hm1, rfl, hr1⟩ | ⟨hh1, hm1, rfl, hr1⟩
  · have R1 := Lib.hid hr1
    have q1 := hr1.blk.cell
    have f1 := hr1.blk.frozen
    have R2 := Lib.hid (hr1.blk.alloc (.cells #[.int .i64 (f0K xs), .int .i64 (f0Y xs), .int .i64 (f0T xs), .int .i64 (f0V xs)] 36))
    have q2 := R2.out.cell
    have f2 := R2.out.frozen
    have l1 := hr1.blk.lt
    have F2 := Lib.hid (Blk.new w1 36 #[.int .i64 (f0K xs), .int .i64 (f0Y xs), .int .i64 (f0T xs), .int .i64 (f0V xs)])
    have K2 := Lib.hid (K1.out.alloc (.cells #[.int .i64 (f0K xs), .int .i64 (f0Y xs), .int .i64 (f0T xs), .int .i64 (f0V xs)] 36))
    have qk2 := K2.out.cell
    have fk2 := K2.out.frozen
    have fq2 := F2.out.cell
    have FF2 := Lib.hid (F1.out.below ((Below.refl _ w1).alloc (by omega) (.cells #[.int .i64 (f0K xs), .int .i64 (f0Y xs), .int .i64 (f0T xs), .int .i64 (f0V xs)] 36)))
    have gB2 := FF2.out.bent
    have gS2 := FF2.out.short
    have HH := Lib.hid hh1
    clear hr1 hh1
    go_wp2_with fail
    have hn1 := R1.out.len
    have hle : (put0 xs).length ≤ xs.length := by
      have h := HH.out
      unfold tkHere at h
      simp only [Bool.and_eq_true, decide_eq_true_eq] at h
      exact (List.isPrefixOf_iff_prefix.1 h.2).length_le
    rw [List.length_drop] at hn1
    subst hn1
    have hw : IntKind.i64.wrap ((xs.length : Int) - ((xs.length - (put0 xs).length : Nat) : Int)) = ((put0 xs).length : Int) := by rw [IntKind.wrap_i64]; omega
    refine (is_nil aS _).mono ?_
    rintro e w' ⟨rfl, rfl⟩
    go_wp2_with fail
    refine (is_nil aB _).mono ?_
    rintro e w' ⟨rfl, rfl⟩
    go_wp2
    go_region_with (fail)
    all_goals go_wp2
    all_goals exact bodyPost_ret (v := .tuple #[(.agg #[.int .i64 (f0K xs), .int .i64 (f0Y xs), .int .i64 (f0T xs), .int .i64 (f0V xs)]), .int .i64 ((put0 xs).length : Int)]) (by simp [results, Tryd.results22, go_sem, qk2]) rfl (take_here HH.out (four_below (B1.out.alloc (by omega) _) (Nat.le_refl _)).drew)
  · have R1 := Lib.hid hr1
    have q1 := hr1.blk.cell
    have f1 := hr1.blk.frozen
    have R2 := Lib.hid (hr1.blk.alloc (.cells #[.int .i64 0, .int .i64 0, .int .i64 0, .int .i64 0] 36))
    have q2 := R2.out.cell
    have f2 := R2.out.frozen
    have l1 := hr1.blk.lt
    have F2 := Lib.hid (Blk.new w1 36 #[.int .i64 0, .int .i64 0, .int .i64 0, .int .i64 0])
    have K2 := Lib.hid (K1.out.alloc (.cells #[.int .i64 0, .int .i64 0, .int .i64 0, .int .i64 0] 36))
    have qk2 := K2.out.cell
    have fk2 := K2.out.frozen
    have fq2 := F2.out.cell
    have FF2 := Lib.hid (F1.out.below ((Below.refl _ w1).alloc (by omega) (.cells #[.int .i64 0, .int .i64 0, .int .i64 0, .int .i64 0] 36)))
    have gB2 := FF2.out.bent
    have gS2 := FF2.out.short
    have HH := Lib.hid hh1
    have HM := Lib.hid hm1
    clear hr1 hh1 hm1
    go_wp2_with fail
    refine (is_same aS _).mono ?_
    rintro e w' ⟨rfl, rfl⟩
    go_wp2
    exact bodyPost_ret (v := .tuple #[(.agg #[.int .i64 0, .int .i64 0, .int .i64 0, .int .i64 0]), .int .i64 0]) (by simp [results, Tryd.results22, go_sem, qk2]) rfl (take_more HH.out HM.out (four_below (B1.out.alloc (by omega) _) (Nat.le_refl _)))
  · have R1 := Lib.hid hr1
    have q1 := hr1.blk.cell
    have f1 := hr1.blk.frozen
    have R2 := Lib.hid (hr1.blk.alloc (.cells #[.int .i64 0, .int .i64 0, .int .i64 0, .int .i64 0] 36))
    have q2 := R2.out.cell
    have f2 := R2.out.frozen
    have l1 := hr1.blk.lt
    have F2 := Lib.hid (Blk.new w1 36 #[.int .i64 0, .int .i64 0, .int .i64 0, .int .i64 0])
    have K2 := Lib.hid (K1.out.alloc (.cells #[.int .i64 0, .int .i64 0, .int .i64 0, .int .i64 0] 36))
    have qk2 := K2.out.cell
    have fk2 := K2.out.frozen
    have fq2 := F2.out.cell
    have FF2 := Lib.hid (F1.out.below ((Below.refl _ w1).alloc (by omega) (.cells #[.int .i64 0, .int .i64 0, .int .i64 0, .int .i64 0] 36)))
    have gB2 := FF2.out.bent
    have gS2 := FF2.out.short
    have HH := Lib.hid hh1
    have HM := Lib.hid hm1
    clear hr1 hh1 hm1
    go_wp2_with fail
    obtain ⟨⟨cb, tb, hcb⟩, ⟨cs, ts, hcs⟩⟩ := FF2.out.rows
    refine (is_other aB aS cb cs tb ts _ FF2.out.ne hcb hcs).mono ?_
    rintro e w' ⟨rfl, rfl⟩
    go_wp2_with fail
    refine (is_same aB _).mono ?_
    rintro e w' ⟨rfl, rfl⟩
    go_wp2
    exact bodyPost_ret (v := .tuple #[(.agg #[.int .i64 0, .int .i64 0, .int .i64 0, .int .i64 0]), .int .i64 (-1)]) (by simp [results, Tryd.results22, go_sem, qk2]) rfl (take_bad HH.out HM.out (four_below (B1.out.alloc (by omega) _) (Nat.le_refl _)))

end Go.Proofs.YtkconbmgljmpfaaDoor
