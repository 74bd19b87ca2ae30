/- Contract of newLink. -/
import Derived.Test.YtkconbmgljmpfaaLink1
import Derived.Test.YtkconbmgljmpfaaRing3
import Derived.Deep.RegionWith
import Derived.Test.YtkconbmgljmpfaaHeld
namespace Go.Proofs.Ytkconbmgljmpfaa
open Go.RowKit

/-- A link of the call's own. -/
def LkNew (n : Nat) (w : World) (e : Ending) (w' : World) : Prop :=
  ∃ q r g c, e = .returned (.pointer (some ⟨q, 0, none⟩)) ∧ Lk n w.heap.size q r g c ⟨List.replicate n 0, 0, 0⟩ w' ∧ w.heap.size ≤ q ∧ w.heap.size ≤ r ∧ w.heap.size ≤ g ∧ Below w.heap.size w w'

theorem lk_new {n r g : Nat} {w W : World} (n1 : 1 ≤ n) (n2 : n ≤ 20) (ho : W.ownsRow w.heap.size 3 1 (.slice (some ⟨r, 0, none⟩) n n) n ((List.replicate n (0 : Int)).map (Value.int .i64))) (hr0 : w.heap.size ≤ r) (hr1 : r < W.heap.size) (hg : w.heap.size ≤ g)
    (hgb : Blk W g 89 #[.int .i64 ((n : Int) + 0), .int .i64 (n : Int)]) (rg : r ≠ g) (hb : Below w.heap.size w W) :
    LkNew n w (.returned (.pointer (some ⟨W.heap.size, 0, none⟩))) (W.alloc (.cells #[.slice (some ⟨r, 0, none⟩) n n, .int .i64 0, .int .i64 0, .pointer (some ⟨g, 0, none⟩)] 67)) := by
  have hs := hb.size
  refine ⟨W.heap.size, r, g, n, rfl, ⟨Blk.new _ _ _, ?_, ho.alloc _, PlIn.start n n1 n2, by omega, by have := hgb.lt; omega, rg⟩, hs, hr0, hg, hb.alloc hs _⟩
  have := hgb.alloc (.cells #[.slice (some ⟨r, 0, none⟩) n n, .int .i64 0, .int .i64 0, .pointer (some ⟨g, 0, none⟩)] 67)
  rw [show (n : Int) + 0 = n by omega] at this
  rw [show (n : Int) - ((0 : Nat) : Int) = n by omega]
  exact this
set_option maxHeartbeats 2000000 in
set_option maxRecDepth 100000 in
theorem newLink_any (n : Nat) (w : World) (n1 : 1 ≤ n) (n2 : n ≤ 20) : Calls Try.prog 45 #[.int .i64 (n : Int)] w (LkNew n w) := by
  have hmk := fun W => run_make_row' (P := Try.prog) 24 3 (.int .i64 0) 8 Try.underlying24 infoI64 rfl .i64 .i64 n (by omega) (by omega) W
  rw [madeRep] at hmk
  have HC := Lib.hid (fun W => creditsOf_any (n : Int) 0 W (by omega) (by omega) (by omega) (by omega))
  go_enter Try.func45, Try.ntmps45
  go_wp2_with fail
  go_region_with (go_at_call 63; refine (HC.out _).mono ?_; rintro e w1 ⟨g, rfl, hg0, hgb, hb⟩; have HG := Lib.hid hgb; have HG0 := Lib.hid hg0; have HB := Lib.hid hb; clear hgb hg0 hb)
  · have o1 := own_rep w 3 n w.heap.size (Nat.le_refl _) (by omega)
    rw [List.length_replicate] at o1
    have hb := HB.out
    have hg := HG0.out
    rw [size_drew_, World.size_alloc] at hg
    have s1 := hb.size
    rw [size_drew_, World.size_alloc] at s1
    have HP := Lib.hid (lk_new (w := w) (W := w1) (r := w.heap.size) (g := g) n1 n2 (owns_below (w := (w.alloc (.cells (fullK .i64 (List.replicate n 0)) 3)).drew) o1 hb) (Nat.le_refl _) (by omega) (by omega) HG.out (by omega) (((Below.refl w.heap.size w).alloc (Nat.le_refl _) _).drew.trans (hb.mono (by rw [size_drew_, World.size_alloc]; omega))))
    clear o1 hb
    go_wp2
    go_ret
    exact HP.out
  · have hb := HB.out
    have hg := HG0.out
    rw [size_drew_] at hg
    have s1 := hb.size
    rw [size_drew_] at s1
    have o1 := own_rep w1 3 n w.heap.size s1 (by omega)
    rw [List.length_replicate] at o1
    have hlt := HG.out.lt
    have HP := Lib.hid (lk_new (w := w) (W := w1.alloc (.cells (fullK .i64 (List.replicate n 0)) 3)) (r := w1.heap.size) (g := g) n1 n2 o1 s1 (by simp) hg (HG.out.alloc _) (by omega) (((Below.refl w.heap.size w).drew.trans (hb.mono (by rw [size_drew_]; omega))).alloc s1 _))
    simp only [World.size_alloc] at HP
    clear o1 hb
    go_wp2
    go_ret
    exact HP.out
end Go.Proofs.Ytkconbmgljmpfaa
