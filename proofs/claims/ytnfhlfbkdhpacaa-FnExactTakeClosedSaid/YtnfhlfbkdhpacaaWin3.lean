/- Contracts of chapter 5: two aggs compared, one merged into another, impl and spec. (made by tools/mkwin3.py) -/
import Derived.Test.YtnfhlfbkdhpacaaWin2
import Derived.StillTailTactics
namespace Go.Proofs.Ytnfhlfbkdhpacaa
open Go.RowKit

theorem Blk.far_ {w : World} {g : Nat} {t : TypeId} {cs : Array Value} (h : Blk w g t cs) {p : Addr} (hp : g ≠ p.block) (u : Value) : Blk (w.setCell p u) g t cs := (Below.heap_setCell w p u g hp).trans h
theorem boxed2 (w : World) (T U : TypeId) (cs ds : Array Value) : Blk ((w.alloc (.cells cs T)).alloc (.cells ds U)) w.heap.size T cs ∧ Blk ((w.alloc (.cells cs T)).alloc (.cells ds U)) (w.heap.size + 1) U ds ∧
    ((w.alloc (.cells cs T)).alloc (.cells ds U)).heap.size = w.heap.size + 2 ∧ Below w.heap.size w ((w.alloc (.cells cs T)).alloc (.cells ds U)) :=
  ⟨(Blk.new w T cs).alloc _, by have := Blk.new (w.alloc (.cells cs T)) U ds; rwa [World.size_alloc] at this, by simp, ((Below.refl _ _).alloc (Nat.le_refl _) _).alloc (by simp) _⟩

set_option maxHeartbeats 2000000 in
set_option maxRecDepth 100000 in
theorem cmpA_x (u0 u1 u2 u3 u4 u5 v0 v1 v2 v3 v4 v5 : Int) (w : World) : Calls Try.prog 37 #[(.agg #[.int .i64 u0, .int .i64 u1, .int .i64 u2, .int .i64 u3, .int .i64 u4, .int .i64 u5]), (.agg #[.int .i64 v0, .int .i64 v1, .int .i64 v2, .int .i64 v3, .int .i64 v4, .int .i64 v5])] w fun e w' => e = .returned (.int .i64 (cmpA ⟨u0, u1, u2, u3, u4, u5⟩ ⟨v0, v1, v2, v3, v4, v5⟩)) ∧ Below w.heap.size w w' := by
  obtain ⟨K0, K1, hsz, bb⟩ := boxed2 w 37 37 #[.int .i64 u0, .int .i64 u1, .int .i64 u2, .int .i64 u3, .int .i64 u4, .int .i64 u5] #[.int .i64 v0, .int .i64 v1, .int .i64 v2, .int .i64 v3, .int .i64 v4, .int .i64 v5]
  rw [show cmpA ⟨u0, u1, u2, u3, u4, u5⟩ ⟨v0, v1, v2, v3, v4, v5⟩ = orI (cmpI u0 v0) (cmpI u1 v1) from rfl]
  generalize hX : cmpI u0 v0 = X
  generalize hY : cmpI u1 v1 = Y
  have CX := Lib.hid (fun W => compare_q u0 v0 W)
  have CY := Lib.hid (fun W => compare_q u1 v1 W)
  rw [hX] at CX
  rw [hY] at CY
  clear hX hY
  go_enter Try.func37, Try.ntmps37
  go_wp2_with fail
  generalize hW : World.alloc _ _ = W at K0 K1 hsz bb ⊢
  have a0 := K0.cell 0
  have a1 := K0.cell 1
  have c0 := K1.cell 0
  have c1 := K1.cell 1
  have BB := Lib.hid bb.drew
  have HS := Lib.hid hsz
  clear hW K0 K1 bb hsz
  go_still_tail 10, (by kernel_rfl)
  still_call (CX.out _)
  repeat still_step
  still_call (CY.out _)
  repeat still_step
  refine wpStill_nil ?_
  change wpList _ _ _ _ _ W.drew
  generalize W.drew = W2 at BB ⊢
  clear a0 a1 c0 c1
  go_wp2_with (go_at_call 49; refine (or_any _ X Y _ (by simp [go_sem]) (by simp [go_sem])).mono ?_; rintro e w' ⟨rfl, rfl⟩)
  go_ret
  exact ⟨rfl, BB.out.alloc BB.out.size _⟩

/-- The cells 2 .. 5 of an agg at o of block g. -/
structure Mid (W : World) (g o : Nat) (a b c d : Int) : Prop where
  h2 : W.cell? ⟨g, o + 2, none⟩ = some (.int .i64 a)
  h3 : W.cell? ⟨g, o + 3, none⟩ = some (.int .i64 b)
  h4 : W.cell? ⟨g, o + 4, none⟩ = some (.int .i64 c)
  h5 : W.cell? ⟨g, o + 5, none⟩ = some (.int .i64 d)
  f : ∀ j, W.frozen? ⟨g, j, none⟩ = false
theorem addr_ne {g o i j : Nat} (h : i ≠ j) : (⟨g, o + i, none⟩ : Addr) ≠ ⟨g, o + j, none⟩ := fun e => by injection e; omega
section
variable {W : World} {g o : Nat} {a b c d : Int}
theorem Mid.set2 (h : Mid W g o a b c d) (x : Int) : Mid (W.setCell ⟨g, o + 2, none⟩ (.int .i64 x)) g o x b c d :=
  ⟨World.cell?_setCell_same _ _ _ h.h2, (World.cell?_setCell_other _ _ _ _ (addr_ne (by omega))).trans h.h3, (World.cell?_setCell_other _ _ _ _ (addr_ne (by omega))).trans h.h4, (World.cell?_setCell_other _ _ _ _ (addr_ne (by omega))).trans h.h5, fun j => by rw [World.frozen?_setCell]; exact h.f j⟩
theorem Mid.set3 (h : Mid W g o a b c d) (x : Int) : Mid (W.setCell ⟨g, o + 3, none⟩ (.int .i64 x)) g o a x c d :=
  ⟨(World.cell?_setCell_other _ _ _ _ (addr_ne (by omega))).trans h.h2, World.cell?_setCell_same _ _ _ h.h3, (World.cell?_setCell_other _ _ _ _ (addr_ne (by omega))).trans h.h4, (World.cell?_setCell_other _ _ _ _ (addr_ne (by omega))).trans h.h5, fun j => by rw [World.frozen?_setCell]; exact h.f j⟩
theorem Mid.set4 (h : Mid W g o a b c d) (x : Int) : Mid (W.setCell ⟨g, o + 4, none⟩ (.int .i64 x)) g o a b x d :=
  ⟨(World.cell?_setCell_other _ _ _ _ (addr_ne (by omega))).trans h.h2, (World.cell?_setCell_other _ _ _ _ (addr_ne (by omega))).trans h.h3, World.cell?_setCell_same _ _ _ h.h4, (World.cell?_setCell_other _ _ _ _ (addr_ne (by omega))).trans h.h5, fun j => by rw [World.frozen?_setCell]; exact h.f j⟩
theorem Mid.below (h : Mid W g o a b c d) {W' : World} {B : Nat} (hb : Below B W W') (hg : g < B) : Mid W' g o a b c d :=
  ⟨(hb.cell (p := ⟨g, o + 2, none⟩) hg).trans h.h2, (hb.cell (p := ⟨g, o + 3, none⟩) hg).trans h.h3, (hb.cell (p := ⟨g, o + 4, none⟩) hg).trans h.h4, (hb.cell (p := ⟨g, o + 5, none⟩) hg).trans h.h5, fun j => (hb.frozen (p := ⟨g, j, none⟩) hg).trans (h.f j)⟩
theorem Mid.set5 (h : Mid W g o a b c d) (x : Int) : Mid (W.setCell ⟨g, o + 5, none⟩ (.int .i64 x)) g o a b c x :=
  ⟨(World.cell?_setCell_other _ _ _ _ (addr_ne (by omega))).trans h.h2, (World.cell?_setCell_other _ _ _ _ (addr_ne (by omega))).trans h.h3, (World.cell?_setCell_other _ _ _ _ (addr_ne (by omega))).trans h.h4, World.cell?_setCell_same _ _ _ h.h5, fun j => by rw [World.frozen?_setCell]; exact h.f j⟩
theorem Mid.drew (h : Mid W g o a b c d) : Mid W.drew g o a b c d := ⟨h.h2, h.h3, h.h4, h.h5, h.f⟩
end
def minI (a b : Int) : Int := if b < a then b else a
def maxI (a b : Int) : Int := if a < b then b else a
/-- (*Agg).merge: what comes of the two. -/
def sumA (S T : Ag) : Ag := ⟨S.win, S.key, capS (S.cnt + T.cnt), capS (S.sum + T.sum), minI S.mn T.mn, maxI S.mx T.mx⟩
/-- .. in memory, the orders drawn. -/
def mergedTo (w : World) (g o : Nat) (T : TypeId) (cs : Array Value) (x2 x3 x4 x5 : Int) (w' : World) : Prop :=
  w' = (((((((((w.alloc (.cells cs T)).drew).setCell ⟨g, o + 2, none⟩ (.int .i64 x2)).drew).setCell ⟨g, o + 3, none⟩ (.int .i64 x3)).drew).setCell ⟨g, o + 4, none⟩ (.int .i64 x4)).drew).setCell ⟨g, o + 5, none⟩ (.int .i64 x5))

end Go.Proofs.Ytnfhlfbkdhpacaa
