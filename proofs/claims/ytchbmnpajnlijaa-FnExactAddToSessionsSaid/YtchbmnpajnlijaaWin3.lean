/- Contracts of chapter 5: two aggs compared, one merged into another, impl and spec. (made by tools/mkwin3.py) -/
import Derived.Test.YtchbmnpajnlijaaWin2
import Derived.StillTailTactics
namespace Go.Proofs.Ytchbmnpajnlijaa
open Go.RowKit

theorem Blk.far_ {w : World} {g : Nat} {t : TypeId} {cs : Array Value} (h : Blk w g t cs) {p : Addr} (hp : g ≠ p.block) (u : Value) : Blk (w.setCell p u) g t cs := (Below.heap_setCell w p u g hp).trans h
theorem boxed2 (w : World) (T U : TypeId) (cs ds : Array Value) : Blk ((w.alloc (.cells cs T)).alloc (.cells ds U)) w.heap.size T cs ∧ Blk ((w.alloc (.cells cs T)).alloc (.cells ds U)) (w.heap.size + 1) U ds ∧
    ((w.alloc (.cells cs T)).alloc (.cells ds U)).heap.size = w.heap.size + 2 ∧ Below w.heap.size w ((w.alloc (.cells cs T)).alloc (.cells ds U)) :=
  ⟨(Blk.new w T cs).alloc _, by have := Blk.new (w.alloc (.cells cs T)) U ds; rwa [World.size_alloc] at this, by simp, ((Below.refl _ _).alloc (Nat.le_refl _) _).alloc (by simp) _⟩

set_option maxHeartbeats 2000000 in
set_option maxRecDepth 100000 in
theorem cmpA_x (u0 u1 u2 u3 u4 u5 v0 v1 v2 v3 v4 v5 : Int) (w : World) : Calls Try.prog 106 #[(.agg #[.int .i64 u0, .int .i64 u1, .int .i64 u2, .int .i64 u3, .int .i64 u4, .int .i64 u5]), (.agg #[.int .i64 v0, .int .i64 v1, .int .i64 v2, .int .i64 v3, .int .i64 v4, .int .i64 v5])] w fun e w' => e = .returned (.int .i64 (cmpA ⟨u0, u1, u2, u3, u4, u5⟩ ⟨v0, v1, v2, v3, v4, v5⟩)) ∧ Below w.heap.size w w' := by
  obtain ⟨K0, K1, hsz, bb⟩ := boxed2 w 86 86 #[.int .i64 u0, .int .i64 u1, .int .i64 u2, .int .i64 u3, .int .i64 u4, .int .i64 u5] #[.int .i64 v0, .int .i64 v1, .int .i64 v2, .int .i64 v3, .int .i64 v4, .int .i64 v5]
  rw [show cmpA ⟨u0, u1, u2, u3, u4, u5⟩ ⟨v0, v1, v2, v3, v4, v5⟩ = orI (cmpI u0 v0) (cmpI u1 v1) from rfl]
  generalize hX : cmpI u0 v0 = X
  generalize hY : cmpI u1 v1 = Y
  have CX := Lib.hid (fun W => compare_q u0 v0 W)
  have CY := Lib.hid (fun W => compare_q u1 v1 W)
  rw [hX] at CX
  rw [hY] at CY
  clear hX hY
  go_enter Try.func106, Try.ntmps106
  go_wp2_with fail
  generalize hW : World.alloc _ _ = W at K0 K1 hsz bb ⊢
  have a0 := K0.cell 0
  have a1 := K0.cell 1
  have c0 := K1.cell 0
  have c1 := K1.cell 1
  have BB := Lib.hid bb.drew
  have HS := Lib.hid hsz
  clear hW K0 K1 bb hsz
  go_still_tail 10, (by kernel_rfl)
  still_call (CX.out _)
  repeat still_step
  still_call (CY.out _)
  repeat still_step
  refine wpStill_nil ?_
  change wpList _ _ _ _ _ W.drew
  generalize W.drew = W2 at BB ⊢
  clear a0 a1 c0 c1
  go_wp2_with (go_at_call 133; refine (or_any _ X Y _ (by simp [go_sem]) (by simp [go_sem])).mono ?_; rintro e w' ⟨rfl, rfl⟩)
  go_ret
  exact ⟨rfl, BB.out.alloc BB.out.size _⟩

/-- The cells 2 .. 5 of an agg at o of block g. -/
structure Mid (W : World) (g o : Nat) (a b c d : Int) : Prop where
  h2 : W.cell? ⟨g, o + 2, none⟩ = some (.int .i64 a)
  h3 : W.cell? ⟨g, o + 3, none⟩ = some (.int .i64 b)
  h4 : W.cell? ⟨g, o + 4, none⟩ = some (.int .i64 c)
  h5 : W.cell? ⟨g, o + 5, none⟩ = some (.int .i64 d)
  f : ∀ j, W.frozen? ⟨g, j, none⟩ = false
theorem addr_ne {g o i j : Nat} (h : i ≠ j) : (⟨g, o + i, none⟩ : Addr) ≠ ⟨g, o + j, none⟩ := fun e => by injection e; omega
section
variable {W : World} {g o : Nat} {a b c d : Int}
theorem Mid.set2 (h : Mid W g o a b c d) (x : Int) : Mid (W.setCell ⟨g, o + 2, none⟩ (.int .i64 x)) g o x b c d :=
  ⟨World.cell?_setCell_same _ _ _ h.h2, (World.cell?_setCell_other _ _ _ _ (addr_ne (by omega))).trans h.h3, (World.cell?_setCell_other _ _ _ _ (addr_ne (by omega))).trans h.h4, (World.cell?_setCell_other _ _ _ _ (addr_ne (by omega))).trans h.h5, fun j => by rw [World.frozen?_setCell]; exact h.f j⟩
theorem Mid.set3 (h : Mid W g o a b c d) (x : Int) : Mid (W.setCell ⟨g, o + 3, none⟩ (.int .i64 x)) g o a x c d :=
  ⟨(World.cell?_setCell_other _ _ _ _ (addr_ne (by omega))).trans h.h2, World.cell?_setCell_same _ _ _ h.h3, (World.cell?_setCell_other _ _ _ _ (addr_ne (by omega))).trans h.h4, (World.cell?_setCell_other _ _ _ _ (addr_ne (by omega))).trans h.h5, fun j => by rw [World.frozen?_setCell]; exact h.f j⟩
theorem Mid.set4 (h : Mid W g o a b c d) (x : Int) : Mid (W.setCell ⟨g, o + 4, none⟩ (.int .i64 x)) g o a b x d :=
  ⟨(World.cell?_setCell_other _ _ _ _ (addr_ne (by omega))).trans h.h2, (World.cell?_setCell_other _ _ _ _ (addr_ne (by omega))).trans h.h3, World.cell?_setCell_same _ _ _ h.h4, (World.cell?_setCell_other _ _ _ _ (addr_ne (by omega))).trans h.h5, fun j => by rw [World.frozen?_setCell]; exact h.f j⟩
theorem Mid.below (h : Mid W g o a b c d) {W' : World} {B : Nat} (hb : Below B W W') (hg : g < B) : Mid W' g o a b c d :=
  ⟨(hb.cell (p := ⟨g, o + 2, none⟩) hg).trans h.h2, (hb.cell (p := ⟨g, o + 3, none⟩) hg).trans h.h3, (hb.cell (p := ⟨g, o + 4, none⟩) hg).trans h.h4, (hb.cell (p := ⟨g, o + 5, none⟩) hg).trans h.h5, fun j => (hb.frozen (p := ⟨g, j, none⟩) hg).trans (h.f j)⟩
theorem Mid.set5 (h : Mid W g o a b c d) (x : Int) : Mid (W.setCell ⟨g, o + 5, none⟩ (.int .i64 x)) g o a b c x :=
  ⟨(World.cell?_setCell_other _ _ _ _ (addr_ne (by omega))).trans h.h2, (World.cell?_setCell_other _ _ _ _ (addr_ne (by omega))).trans h.h3, (World.cell?_setCell_other _ _ _ _ (addr_ne (by omega))).trans h.h4, World.cell?_setCell_same _ _ _ h.h5, fun j => by rw [World.frozen?_setCell]; exact h.f j⟩
theorem Mid.drew (h : Mid W g o a b c d) : Mid W.drew g o a b c d := ⟨h.h2, h.h3, h.h4, h.h5, h.f⟩
end
def minI (a b : Int) : Int := if b < a then b else a
def maxI (a b : Int) : Int := if a < b then b else a
/-- (*Agg).merge: what comes of the two. -/
def sumA (S T : Ag) : Ag := ⟨S.win, S.key, capS (S.cnt + T.cnt), capS (S.sum + T.sum), minI S.mn T.mn, maxI S.mx T.mx⟩
/-- .. in memory, the orders drawn. -/
def mergedTo (w : World) (g o : Nat) (T : TypeId) (cs : Array Value) (x2 x3 x4 x5 : Int) (w' : World) : Prop :=
  w' = (((((((((w.alloc (.cells cs T)).drew).setCell ⟨g, o + 2, none⟩ (.int .i64 x2)).drew).setCell ⟨g, o + 3, none⟩ (.int .i64 x3)).drew).setCell ⟨g, o + 4, none⟩ (.int .i64 x4)).drew).setCell ⟨g, o + 5, none⟩ (.int .i64 x5))

theorem held_q (x : Int) (w : World) : Calls Try.prog 102 #[.int .i64 x] w fun e w' => e = .returned (.int .i64 (capS x)) ∧ w' = w := (implHeld_any x w).mono fun _ _ ⟨h, h2⟩ => ⟨h, h2.symm⟩
set_option maxHeartbeats 4000000 in
set_option maxRecDepth 100000 in
theorem merge_x (g o : Nat) (u2 u3 u4 u5 v0 v1 v2 v3 v4 v5 : Int) (w : World) (hg : g < w.heap.size) (hm : Mid w g o u2 u3 u4 u5) (b1 : -1000000000 ≤ u2 ∧ u2 ≤ 1000000000) (b2 : -1000000000 ≤ u3 ∧ u3 ≤ 1000000000) (b3 : -1000000000 ≤ v2 ∧ v2 ≤ 1000000000) (b4 : -1000000000 ≤ v3 ∧ v3 ≤ 1000000000) :
    Calls Try.prog 107 #[.pointer (some ⟨g, o, none⟩), (.agg #[.int .i64 v0, .int .i64 v1, .int .i64 v2, .int .i64 v3, .int .i64 v4, .int .i64 v5])] w fun e w' => e = .returned (.tuple #[]) ∧ mergedTo w g o 86 #[.int .i64 v0, .int .i64 v1, .int .i64 v2, .int .i64 v3, .int .i64 v4, .int .i64 v5] (capS (u2 + v2)) (capS (u3 + v3)) (minI u4 v4) (maxI u5 v5) w' := by
  have HC := Lib.hid (And.intro hm (And.intro b1 (And.intro b2 (And.intro b3 b4))))
  clear hm b1 b2 b3 b4
  by_cases h4 : v4 < u4
  · rw [show minI u4 v4 = v4 by simp [minI, h4]]
    by_cases h5 : u5 < v5
    · rw [show maxI u5 v5 = v5 by simp [maxI, h5]]
      obtain ⟨hm, b1, b2, b3, b4⟩ := HC.out
      clear HC
      have K0 := Lib.hid (Blk.new w 86 #[.int .i64 v0, .int .i64 v1, .int .i64 v2, .int .i64 v3, .int .i64 v4, .int .i64 v5])
      have M0 := Lib.hid (hm.below ((Below.refl w.heap.size w).alloc (Nat.le_refl _) (.cells #[.int .i64 v0, .int .i64 v1, .int .i64 v2, .int .i64 v3, .int .i64 v4, .int .i64 v5] 86)) hg)
      have hne : w.heap.size ≠ g := by omega
      have s2 : IntKind.i64.wrap (u2 + v2) = u2 + v2 := IntWalk.i64_in _ (by omega)
      have s3 : IntKind.i64.wrap (u3 + v3) = u3 + v3 := IntWalk.i64_in _ (by omega)
      have C2 := Lib.hid (fun W => held_q (u2 + v2) W)
      have C3 := Lib.hid (fun W => held_q (u3 + v3) W)
      generalize capS (u2 + v2) = y2 at C2 ⊢
      generalize capS (u3 + v3) = y3 at C3 ⊢
      clear hm b1 b2 b3 b4
      go_enter Try.func107, Try.ntmps107
      go_wp2_with fail
      generalize hW : World.alloc _ _ = W at K0 M0 ⊢
      have HW := Lib.hid hW
      clear hW
      have k2 := K0.out.cell 2
      have m2 := M0.out.h2
      have f2 := M0.out.f (o + 2)
      go_still_tail 10, (by kernel_rfl)
      still_call (C2.out _)
      repeat still_step
      refine wpStill_nil ?_
      change wpList _ _ _ _ _ W.drew
      have K2 := Lib.hid ((show Blk W.drew _ _ _ from K0.out).far_ (p := ⟨g, o + 2, none⟩) hne (.int .i64 y2))
      have M2 := Lib.hid (M0.out.drew.set2 y2)
      have n2 := M0.out.drew.h2
      have e2 := M0.out.drew.f (o + 2)
      clear k2 m2 f2
      generalize hV0 : W.drew = V0 at n2 e2 K2 M2 ⊢
      have HV0 := Lib.hid hV0
      clear hV0
      go_wp2_with fail
      clear n2 e2
      generalize hU0 : World.setCell _ _ _ = U0 at K2 M2 ⊢
      have HU0 := Lib.hid hU0
      clear hU0
      have k3 := K2.out.cell 3
      have m3 := M2.out.h3
      have f3 := M2.out.f (o + 3)
      go_still_tail 10, (by kernel_rfl)
      still_call (C3.out _)
      repeat still_step
      refine wpStill_nil ?_
      change wpList _ _ _ _ _ U0.drew
      have K3 := Lib.hid ((show Blk U0.drew _ _ _ from K2.out).far_ (p := ⟨g, o + 3, none⟩) hne (.int .i64 y3))
      have M3 := Lib.hid (M2.out.drew.set3 y3)
      have n3 := M2.out.drew.h3
      have e3 := M2.out.drew.f (o + 3)
      clear k3 m3 f3
      generalize hV1 : U0.drew = V1 at n3 e3 K3 M3 ⊢
      have HV1 := Lib.hid hV1
      clear hV1
      go_wp2_with fail
      clear n3 e3
      generalize hU1 : World.setCell _ _ _ = U1 at K3 M3 ⊢
      have HU1 := Lib.hid hU1
      clear hU1
      have k4 := K3.out.cell 4
      have m4 := M3.out.h4
      have f4 := M3.out.f (o + 4)
      go_still_tail 9, (by kernel_rfl)
      change wpList _ _ _ _ _ U1.drew
      have K4 := Lib.hid ((show Blk U1.drew _ _ _ from K3.out).far_ (p := ⟨g, o + 4, none⟩) hne (.int .i64 v4))
      have M4 := Lib.hid (M3.out.drew.set4 v4)
      have n4 := M3.out.drew.h4
      have e4 := M3.out.drew.f (o + 4)
      clear k4 m4 f4
      generalize hV2 : U1.drew = V2 at n4 e4 K4 M4 ⊢
      have HV2 := Lib.hid hV2
      clear hV2
      go_wp2_with fail
      clear n4 e4
      generalize hU2 : World.setCell _ _ _ = U2 at K4 M4 ⊢
      have HU2 := Lib.hid hU2
      clear hU2
      have k5 := K4.out.cell 5
      have m5 := M4.out.h5
      have f5 := M4.out.f (o + 5)
      go_still_tail 9, (by kernel_rfl)
      change wpList _ _ _ _ _ U2.drew
      have K5 := Lib.hid ((show Blk U2.drew _ _ _ from K4.out).far_ (p := ⟨g, o + 5, none⟩) hne (.int .i64 v5))
      have M5 := Lib.hid (M4.out.drew.set5 v5)
      have n5 := M4.out.drew.h5
      have e5 := M4.out.drew.f (o + 5)
      clear k5 m5 f5
      generalize hV3 : U2.drew = V3 at n5 e5 K5 M5 ⊢
      have HV3 := Lib.hid hV3
      clear hV3
      go_wp2
      have hW := HW.out
      subst hW
      have hV0 := HV0.out
      subst hV0
      have hU0 := HU0.out
      subst hU0
      have hV1 := HV1.out
      subst hV1
      have hU1 := HU1.out
      subst hU1
      have hV2 := HV2.out
      subst hV2
      have hU2 := HU2.out
      subst hU2
      have hV3 := HV3.out
      subst hV3
      exact bodyPost_end (v := .tuple #[]) (by simp [results, Try.results107, go_sem]) rfl ⟨rfl, by unfold mergedTo; rfl⟩
    · rw [show maxI u5 v5 = u5 by simp [maxI, h5]]
      obtain ⟨hm, b1, b2, b3, b4⟩ := HC.out
      clear HC
      have K0 := Lib.hid (Blk.new w 86 #[.int .i64 v0, .int .i64 v1, .int .i64 v2, .int .i64 v3, .int .i64 v4, .int .i64 v5])
      have M0 := Lib.hid (hm.below ((Below.refl w.heap.size w).alloc (Nat.le_refl _) (.cells #[.int .i64 v0, .int .i64 v1, .int .i64 v2, .int .i64 v3, .int .i64 v4, .int .i64 v5] 86)) hg)
      have hne : w.heap.size ≠ g := by omega
      have s2 : IntKind.i64.wrap (u2 + v2) = u2 + v2 := IntWalk.i64_in _ (by omega)
      have s3 : IntKind.i64.wrap (u3 + v3) = u3 + v3 := IntWalk.i64_in _ (by omega)
      have C2 := Lib.hid (fun W => held_q (u2 + v2) W)
      have C3 := Lib.hid (fun W => held_q (u3 + v3) W)
      generalize capS (u2 + v2) = y2 at C2 ⊢
      generalize capS (u3 + v3) = y3 at C3 ⊢
      clear hm b1 b2 b3 b4
      go_enter Try.func107, Try.ntmps107
      go_wp2_with fail
      generalize hW : World.alloc _ _ = W at K0 M0 ⊢
      have HW := Lib.hid hW
      clear hW
      have k2 := K0.out.cell 2
      have m2 := M0.out.h2
      have f2 := M0.out.f (o + 2)
      go_still_tail 10, (by kernel_rfl)
      still_call (C2.out _)
      repeat still_step
      refine wpStill_nil ?_
      change wpList _ _ _ _ _ W.drew
      have K2 := Lib.hid ((show Blk W.drew _ _ _ from K0.out).far_ (p := ⟨g, o + 2, none⟩) hne (.int .i64 y2))
      have M2 := Lib.hid (M0.out.drew.set2 y2)
      have n2 := M0.out.drew.h2
      have e2 := M0.out.drew.f (o + 2)
      clear k2 m2 f2
      generalize hV0 : W.drew = V0 at n2 e2 K2 M2 ⊢
      have HV0 := Lib.hid hV0
      clear hV0
      go_wp2_with fail
      clear n2 e2
      generalize hU0 : World.setCell _ _ _ = U0 at K2 M2 ⊢
      have HU0 := Lib.hid hU0
      clear hU0
      have k3 := K2.out.cell 3
      have m3 := M2.out.h3
      have f3 := M2.out.f (o + 3)
      go_still_tail 10, (by kernel_rfl)
      still_call (C3.out _)
      repeat still_step
      refine wpStill_nil ?_
      change wpList _ _ _ _ _ U0.drew
      have K3 := Lib.hid ((show Blk U0.drew _ _ _ from K2.out).far_ (p := ⟨g, o + 3, none⟩) hne (.int .i64 y3))
      have M3 := Lib.hid (M2.out.drew.set3 y3)
      have n3 := M2.out.drew.h3
      have e3 := M2.out.drew.f (o + 3)
      clear k3 m3 f3
      generalize hV1 : U0.drew = V1 at n3 e3 K3 M3 ⊢
      have HV1 := Lib.hid hV1
      clear hV1
      go_wp2_with fail
      clear n3 e3
      generalize hU1 : World.setCell _ _ _ = U1 at K3 M3 ⊢
      have HU1 := Lib.hid hU1
      clear hU1
      have k4 := K3.out.cell 4
      have m4 := M3.out.h4
      have f4 := M3.out.f (o + 4)
      go_still_tail 9, (by kernel_rfl)
      change wpList _ _ _ _ _ U1.drew
      have K4 := Lib.hid ((show Blk U1.drew _ _ _ from K3.out).far_ (p := ⟨g, o + 4, none⟩) hne (.int .i64 v4))
      have M4 := Lib.hid (M3.out.drew.set4 v4)
      have n4 := M3.out.drew.h4
      have e4 := M3.out.drew.f (o + 4)
      clear k4 m4 f4
      generalize hV2 : U1.drew = V2 at n4 e4 K4 M4 ⊢
      have HV2 := Lib.hid hV2
      clear hV2
      go_wp2_with fail
      clear n4 e4
      generalize hU2 : World.setCell _ _ _ = U2 at K4 M4 ⊢
      have HU2 := Lib.hid hU2
      clear hU2
      have k5 := K4.out.cell 5
      have m5 := M4.out.h5
      have f5 := M4.out.f (o + 5)
      go_still_tail 9, (by kernel_rfl)
      change wpList _ _ _ _ _ U2.drew
      have K5 := Lib.hid ((show Blk U2.drew _ _ _ from K4.out).far_ (p := ⟨g, o + 5, none⟩) hne (.int .i64 u5))
      have M5 := Lib.hid (M4.out.drew.set5 u5)
      have n5 := M4.out.drew.h5
      have e5 := M4.out.drew.f (o + 5)
      clear k5 m5 f5
      generalize hV3 : U2.drew = V3 at n5 e5 K5 M5 ⊢
      have HV3 := Lib.hid hV3
      clear hV3
      go_wp2
      have hW := HW.out
      subst hW
      have hV0 := HV0.out
      subst hV0
      have hU0 := HU0.out
      subst hU0
      have hV1 := HV1.out
      subst hV1
      have hU1 := HU1.out
      subst hU1
      have hV2 := HV2.out
      subst hV2
      have hU2 := HU2.out
      subst hU2
      have hV3 := HV3.out
      subst hV3
      exact bodyPost_end (v := .tuple #[]) (by simp [results, Try.results107, go_sem]) rfl ⟨rfl, by unfold mergedTo; rfl⟩
  · rw [show minI u4 v4 = u4 by simp [minI, h4]]
    by_cases h5 : u5 < v5
    · rw [show maxI u5 v5 = v5 by simp [maxI, h5]]
      obtain ⟨hm, b1, b2, b3, b4⟩ := HC.out
      clear HC
      have K0 := Lib.hid (Blk.new w 86 #[.int .i64 v0, .int .i64 v1, .int .i64 v2, .int .i64 v3, .int .i64 v4, .int .i64 v5])
      have M0 := Lib.hid (hm.below ((Below.refl w.heap.size w).alloc (Nat.le_refl _) (.cells #[.int .i64 v0, .int .i64 v1, .int .i64 v2, .int .i64 v3, .int .i64 v4, .int .i64 v5] 86)) hg)
      have hne : w.heap.size ≠ g := by omega
      have s2 : IntKind.i64.wrap (u2 + v2) = u2 + v2 := IntWalk.i64_in _ (by omega)
      have s3 : IntKind.i64.wrap (u3 + v3) = u3 + v3 := IntWalk.i64_in _ (by omega)
      have C2 := Lib.hid (fun W => held_q (u2 + v2) W)
      have C3 := Lib.hid (fun W => held_q (u3 + v3) W)
      generalize capS (u2 + v2) = y2 at C2 ⊢
      generalize capS (u3 + v3) = y3 at C3 ⊢
      clear hm b1 b2 b3 b4
      go_enter Try.func107, Try.ntmps107
      go_wp2_with fail
      generalize hW : World.alloc _ _ = W at K0 M0 ⊢
      have HW := Lib.hid hW
      clear hW
      have k2 := K0.out.cell 2
      have m2 := M0.out.h2
      have f2 := M0.out.f (o + 2)
      go_still_tail 10, (by kernel_rfl)
      still_call (C2.out _)
      repeat still_step
      refine wpStill_nil ?_
      change wpList _ _ _ _ _ W.drew
      have K2 := Lib.hid ((show Blk W.drew _ _ _ from K0.out).far_ (p := ⟨g, o + 2, none⟩) hne (.int .i64 y2))
      have M2 := Lib.hid (M0.out.drew.set2 y2)
      have n2 := M0.out.drew.h2
      have e2 := M0.out.drew.f (o + 2)
      clear k2 m2 f2
      generalize hV0 : W.drew = V0 at n2 e2 K2 M2 ⊢
      have HV0 := Lib.hid hV0
      clear hV0
      go_wp2_with fail
      clear n2 e2
      generalize hU0 : World.setCell _ _ _ = U0 at K2 M2 ⊢
      have HU0 := Lib.hid hU0
      clear hU0
      have k3 := K2.out.cell 3
      have m3 := M2.out.h3
      have f3 := M2.out.f (o + 3)
      go_still_tail 10, (by kernel_rfl)
      still_call (C3.out _)
      repeat still_step
      refine wpStill_nil ?_
      change wpList _ _ _ _ _ U0.drew
      have K3 := Lib.hid ((show Blk U0.drew _ _ _ from K2.out).far_ (p := ⟨g, o + 3, none⟩) hne (.int .i64 y3))
      have M3 := Lib.hid (M2.out.drew.set3 y3)
      have n3 := M2.out.drew.h3
      have e3 := M2.out.drew.f (o + 3)
      clear k3 m3 f3
      generalize hV1 : U0.drew = V1 at n3 e3 K3 M3 ⊢
      have HV1 := Lib.hid hV1
      clear hV1
      go_wp2_with fail
      clear n3 e3
      generalize hU1 : World.setCell _ _ _ = U1 at K3 M3 ⊢
      have HU1 := Lib.hid hU1
      clear hU1
      have k4 := K3.out.cell 4
      have m4 := M3.out.h4
      have f4 := M3.out.f (o + 4)
      go_still_tail 9, (by kernel_rfl)
      change wpList _ _ _ _ _ U1.drew
      have K4 := Lib.hid ((show Blk U1.drew _ _ _ from K3.out).far_ (p := ⟨g, o + 4, none⟩) hne (.int .i64 u4))
      have M4 := Lib.hid (M3.out.drew.set4 u4)
      have n4 := M3.out.drew.h4
      have e4 := M3.out.drew.f (o + 4)
      clear k4 m4 f4
      generalize hV2 : U1.drew = V2 at n4 e4 K4 M4 ⊢
      have HV2 := Lib.hid hV2
      clear hV2
      go_wp2_with fail
      clear n4 e4
      generalize hU2 : World.setCell _ _ _ = U2 at K4 M4 ⊢
      have HU2 := Lib.hid hU2
      clear hU2
      have k5 := K4.out.cell 5
      have m5 := M4.out.h5
      have f5 := M4.out.f (o + 5)
      go_still_tail 9, (by kernel_rfl)
      change wpList _ _ _ _ _ U2.drew
      have K5 := Lib.hid ((show Blk U2.drew _ _ _ from K4.out).far_ (p := ⟨g, o + 5, none⟩) hne (.int .i64 v5))
      have M5 := Lib.hid (M4.out.drew.set5 v5)
      have n5 := M4.out.drew.h5
      have e5 := M4.out.drew.f (o + 5)
      clear k5 m5 f5
      generalize hV3 : U2.drew = V3 at n5 e5 K5 M5 ⊢
      have HV3 := Lib.hid hV3
      clear hV3
      go_wp2
      have hW := HW.out
      subst hW
      have hV0 := HV0.out
      subst hV0
      have hU0 := HU0.out
      subst hU0
      have hV1 := HV1.out
      subst hV1
      have hU1 := HU1.out
      subst hU1
      have hV2 := HV2.out
      subst hV2
      have hU2 := HU2.out
      subst hU2
      have hV3 := HV3.out
      subst hV3
      exact bodyPost_end (v := .tuple #[]) (by simp [results, Try.results107, go_sem]) rfl ⟨rfl, by unfold mergedTo; rfl⟩
    · rw [show maxI u5 v5 = u5 by simp [maxI, h5]]
      obtain ⟨hm, b1, b2, b3, b4⟩ := HC.out
      clear HC
      have K0 := Lib.hid (Blk.new w 86 #[.int .i64 v0, .int .i64 v1, .int .i64 v2, .int .i64 v3, .int .i64 v4, .int .i64 v5])
      have M0 := Lib.hid (hm.below ((Below.refl w.heap.size w).alloc (Nat.le_refl _) (.cells #[.int .i64 v0, .int .i64 v1, .int .i64 v2, .int .i64 v3, .int .i64 v4, .int .i64 v5] 86)) hg)
      have hne : w.heap.size ≠ g := by omega
      have s2 : IntKind.i64.wrap (u2 + v2) = u2 + v2 := IntWalk.i64_in _ (by omega)
      have s3 : IntKind.i64.wrap (u3 + v3) = u3 + v3 := IntWalk.i64_in _ (by omega)
      have C2 := Lib.hid (fun W => held_q (u2 + v2) W)
      have C3 := Lib.hid (fun W => held_q (u3 + v3) W)
      generalize capS (u2 + v2) = y2 at C2 ⊢
      generalize capS (u3 + v3) = y3 at C3 ⊢
      clear hm b1 b2 b3 b4
      go_enter Try.func107, Try.ntmps107
      go_wp2_with fail
      generalize hW : World.alloc _ _ = W at K0 M0 ⊢
      have HW := Lib.hid hW
      clear hW
      have k2 := K0.out.cell 2
      have m2 := M0.out.h2
      have f2 := M0.out.f (o + 2)
      go_still_tail 10, (by kernel_rfl)
      still_call (C2.out _)
      repeat still_step
      refine wpStill_nil ?_
      change wpList _ _ _ _ _ W.drew
      have K2 := Lib.hid ((show Blk W.drew _ _ _ from K0.out).far_ (p := ⟨g, o + 2, none⟩) hne (.int .i64 y2))
      have M2 := Lib.hid (M0.out.drew.set2 y2)
      have n2 := M0.out.drew.h2
      have e2 := M0.out.drew.f (o + 2)
      clear k2 m2 f2
      generalize hV0 : W.drew = V0 at n2 e2 K2 M2 ⊢
      have HV0 := Lib.hid hV0
      clear hV0
      go_wp2_with fail
      clear n2 e2
      generalize hU0 : World.setCell _ _ _ = U0 at K2 M2 ⊢
      have HU0 := Lib.hid hU0
      clear hU0
      have k3 := K2.out.cell 3
      have m3 := M2.out.h3
      have f3 := M2.out.f (o + 3)
      go_still_tail 10, (by kernel_rfl)
      still_call (C3.out _)
      repeat still_step
      refine wpStill_nil ?_
      change wpList _ _ _ _ _ U0.drew
      have K3 := Lib.hid ((show Blk U0.drew _ _ _ from K2.out).far_ (p := ⟨g, o + 3, none⟩) hne (.int .i64 y3))
      have M3 := Lib.hid (M2.out.drew.set3 y3)
      have n3 := M2.out.drew.h3
      have e3 := M2.out.drew.f (o + 3)
      clear k3 m3 f3
      generalize hV1 : U0.drew = V1 at n3 e3 K3 M3 ⊢
      have HV1 := Lib.hid hV1
      clear hV1
      go_wp2_with fail
      clear n3 e3
      generalize hU1 : World.setCell _ _ _ = U1 at K3 M3 ⊢
      have HU1 := Lib.hid hU1
      clear hU1
      have k4 := K3.out.cell 4
      have m4 := M3.out.h4
      have f4 := M3.out.f (o + 4)
      go_still_tail 9, (by kernel_rfl)
      change wpList _ _ _ _ _ U1.drew
      have K4 := Lib.hid ((show Blk U1.drew _ _ _ from K3.out).far_ (p := ⟨g, o + 4, none⟩) hne (.int .i64 u4))
      have M4 := Lib.hid (M3.out.drew.set4 u4)
      have n4 := M3.out.drew.h4
      have e4 := M3.out.drew.f (o + 4)
      clear k4 m4 f4
      generalize hV2 : U1.drew = V2 at n4 e4 K4 M4 ⊢
      have HV2 := Lib.hid hV2
      clear hV2
      go_wp2_with fail
      clear n4 e4
      generalize hU2 : World.setCell _ _ _ = U2 at K4 M4 ⊢
      have HU2 := Lib.hid hU2
      clear hU2
      have k5 := K4.out.cell 5
      have m5 := M4.out.h5
      have f5 := M4.out.f (o + 5)
      go_still_tail 9, (by kernel_rfl)
      change wpList _ _ _ _ _ U2.drew
      have K5 := Lib.hid ((show Blk U2.drew _ _ _ from K4.out).far_ (p := ⟨g, o + 5, none⟩) hne (.int .i64 u5))
      have M5 := Lib.hid (M4.out.drew.set5 u5)
      have n5 := M4.out.drew.h5
      have e5 := M4.out.drew.f (o + 5)
      clear k5 m5 f5
      generalize hV3 : U2.drew = V3 at n5 e5 K5 M5 ⊢
      have HV3 := Lib.hid hV3
      clear hV3
      go_wp2
      have hW := HW.out
      subst hW
      have hV0 := HV0.out
      subst hV0
      have hU0 := HU0.out
      subst hU0
      have hV1 := HV1.out
      subst hV1
      have hU1 := HU1.out
      subst hU1
      have hV2 := HV2.out
      subst hV2
      have hU2 := HU2.out
      subst hU2
      have hV3 := HV3.out
      subst hV3
      exact bodyPost_end (v := .tuple #[]) (by simp [results, Try.results107, go_sem]) rfl ⟨rfl, by unfold mergedTo; rfl⟩
end Go.Proofs.Ytchbmnpajnlijaa
