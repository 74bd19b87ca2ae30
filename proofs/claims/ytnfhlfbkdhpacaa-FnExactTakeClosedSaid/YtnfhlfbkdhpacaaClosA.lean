/- impl.ClosedOf at every shard. -/
import Derived.Test.YtnfhlfbkdhpacaaClosI
namespace Go.Proofs.Ytnfhlfbkdhpacaa
open Go.RowKit

theorem sok_rising {l : List Ag} {mk lt ov : Int} (h : sokB l mk lt ov = true) : Rising l ∧ l.length ≤ 40 := by
  have := sok_bd h
  exact ⟨okUp_rising this.2.2.2.2, this.1⟩
set_option maxHeartbeats 1000000 in
theorem implClosed_any (a : Option Addr) (c : Nat) (mk lt ov sz : Int) (xs : List Ag) (hi : Nat) (w : World) (hr : Ags w hi a c xs) (hB : hi ≤ w.heap.size) :
    Calls Try.prog 8 #[.agg #[.slice a xs.length c, .int .i64 mk, .int .i64 lt, .int .i64 ov], .int .i64 sz] w (FreshR aC 37 6 (closedL xs mk lt ov sz) w) := by
  cases hS : sokB xs mk lt ov with
  | false =>
    rw [closed_no1 hS]
    have B0 := Lib.hid ((Below.refl w.heap.size w).alloc (Nat.le_refl _) (.cells #[.slice a xs.length c, .int .i64 mk, .int .i64 lt, .int .i64 ov] 29))
    have HR := Lib.hid hr
    have HOK := Lib.hid (fun (W : World) (h : Ags W hi a c xs) (h2 : hi ≤ W.heap.size) => implShardOk_any a xs.length c mk lt ov xs hi W h rfl h2)
    rw [hS] at HOK
    clear hr hS
    go_enter Try.func8, Try.ntmps8
    go_wp2_with fail
    refine (HOK.out _ (HR.out.below (B0.out.mono hB)) (by simp; omega)).mono ?_
    rintro e w1 ⟨rfl, hb⟩
    have B1 := Lib.hid (B0.out.trans (hb.mono (by simp)))
    clear hb
    go_wp2
    go_ret
    exact ⟨none, 0, rfl, World.ownsRow_nil _ _ _ _, B1.out⟩
  | true =>
    cases hZ : inB sz 1 1000000 with
    | false =>
      rw [closed_no2 hZ]
      have B0 := Lib.hid ((Below.refl w.heap.size w).alloc (Nat.le_refl _) (.cells #[.slice a xs.length c, .int .i64 mk, .int .i64 lt, .int .i64 ov] 29))
      have HR := Lib.hid hr
      have HOK := Lib.hid (fun (W : World) (h : Ags W hi a c xs) (h2 : hi ≤ W.heap.size) => implShardOk_any a xs.length c mk lt ov xs hi W h rfl h2)
      rw [hS] at HOK
      have HSZ := Lib.hid (fun W => iSize_any sz W)
      rw [hZ] at HSZ
      clear hr hS hZ
      go_enter Try.func8, Try.ntmps8
      go_wp2_with fail
      refine (HOK.out _ (HR.out.below (B0.out.mono hB)) (by simp; omega)).mono ?_
      rintro e w1 ⟨rfl, hb⟩
      have B1 := Lib.hid (B0.out.trans (hb.mono (by simp)))
      clear hb
      go_wp2_with fail
      refine (HSZ.out _).mono ?_
      rintro e w' ⟨rfl, rfl⟩
      go_wp2
      go_ret
      exact ⟨none, 0, rfl, World.ownsRow_nil _ _ _ _, B1.out⟩
    | true =>
      obtain ⟨h1, h2⟩ := sok_rising hS
      rw [closed_yes hS hZ]
      exact implClosed_yes a c mk lt ov sz xs hi w hr hB hS hZ (by omega) h1
end Go.Proofs.Ytnfhlfbkdhpacaa
