/- Chapter 12: rows at a world; a join marked keeps every block of another type. (made by tools/mkmarkj.py) -/
import Derived.Test.YtneolndbhklboaaAddJ
namespace Go.Proofs.Ytneolndbhklboaa
open Go.RowKit
/-- Rows, all below the world's end. -/
def ManyAt (lo : Nat) (rs : List RowD) (w : World) : Prop := Many lo w.heap.size rs w
section
variable {lo : Nat} {rs : List RowD} {w w' : World}
theorem Many.at {up : Nat} (h : Many lo up rs w) (hu : up ≤ w.heap.size) : ManyAt lo rs w := h.less (Nat.le_refl _) hu
theorem ManyAt.below (h : ManyAt lo rs w) (hb : Below w.heap.size w w') : ManyAt lo rs w' := (Many.below h hb (Nat.le_refl _)).at hb.size
theorem ManyAt.alloc (h : ManyAt lo rs w) (o : Obj) : ManyAt lo rs (w.alloc o) := h.below ((Below.refl _ _).alloc (Nat.le_refl _) o)
theorem ManyAt.drew (h : ManyAt lo rs w) : ManyAt lo rs w.drew := h.below (Below.refl _ _).drew
theorem ManyAt.lower {lo' : Nat} (h : ManyAt lo rs w) (hl : lo' ≤ lo) : ManyAt lo' rs w := Many.less h hl (Nat.le_refl _)
end
theorem three_ {w : World} {g : Nat} {T : TypeId} {x0 x1 x2 : Value} (h : Blk w g T #[x0, x1, x2]) (a b c : Value) : Blk (((w.setCell ⟨g, 0, none⟩ a).setCell ⟨g, 1, none⟩ b).setCell ⟨g, 2, none⟩ c) g T #[a, b, c] := by
  simpa using ((h.put_ 0 a).put_ 1 b).put_ 2 c
theorem below_set3 {w W : World} {B g : Nat} (h : Below B w W) (hg : B ≤ g) (a b c : Value) : Below B w (((W.setCell ⟨g, 0, none⟩ a).setCell ⟨g, 1, none⟩ b).setCell ⟨g, 2, none⟩ c) :=
  ((h.setCell (p := ⟨g, 0, none⟩) hg a).setCell (p := ⟨g, 1, none⟩) hg b).setCell (p := ⟨g, 2, none⟩) hg c
theorem many_set3 {lo g : Nat} {rs : List RowD} {W : World} {T : TypeId} {x0 x1 x2 : Value} (h : ManyAt lo rs W) (hk : Blk W g T #[x0, x1, x2]) (hne : ∀ r ∈ rs, T ≠ r.T) (a b c : Value) : ManyAt lo rs (((W.setCell ⟨g, 0, none⟩ a).setCell ⟨g, 1, none⟩ b).setCell ⟨g, 2, none⟩ c) := by
  have h1 := Many.setBox h hk hne 0 a
  have k1 := hk.put_ 0 a
  have h2 := Many.setBox h1 k1 hne 1 b
  have k2 := k1.put_ 1 b
  have h3 := Many.setBox h2 k2 hne 2 c
  exact h3.at (by simp)
theorem own_neR {w : World} {T E : TypeId} {sz lo up n c g : Nat} {a : Option Addr} {xs : List Value} {cs : Array Value} (h : Rw E sz lo up a n c xs w) (hk : Blk w g T cs) (hne : T ≠ E) : some g ≠ (Value.slice a n c).ownBlock := own_ne h.own hk hne
set_option maxHeartbeats 1000000 in
set_option maxRecDepth 100000 in
theorem markJoin_k (a b : Option Addr) (c d m : Nat) (mk M : Int) (L R : List Fm) (lo up : Nat) (rs : List RowD) (w : World) (hr : Many lo up (rQ a c L :: rQ b d R :: rs) w) (hM : M = (m : Int)) (hlo : lo ≤ w.heap.size) (hup : up ≤ w.heap.size) (hl1 : L.length ≤ 1048576) (hl2 : R.length ≤ 1048576) (hm : m ≤ 1000000000) :
    Calls Try.prog 50 #[.agg #[.slice a L.length c, .slice b R.length d, .int .i64 mk], .int .i64 M] w fun e w' => e = .returned (.int .i64 (M + 4 * (L.length : Int) + 4 * (R.length : Int))) ∧ MarkedJ lo up m a L.length c b R.length d rs w w' ∧ ∀ g T cs, T ≠ 38 → Blk w g T cs → Blk w' g T cs := by
  have b1 := Lib.hid ((Below.refl w.heap.size w).alloc (Nat.le_refl _) (.cells #[.slice a L.length c, .slice b R.length d, .int .i64 mk] 29))
  have K0 := Lib.hid (Blk.new w 29 #[.slice a L.length c, .slice b R.length d, .int .i64 mk])
  have HR := Lib.hid (hr.below b1.out hup)
  have HM := Lib.hid hM
  have KK : Hid (∀ g T cs, T ≠ 38 → Blk w g T cs → Blk (w.alloc (.cells #[.slice a L.length c, .slice b R.length d, .int .i64 mk] 29)) g T cs) := Lib.hid (fun g T cs _ h => h.alloc _)
  clear hr hM
  go_enter Try.func50, Try.ntmps50
  go_wp2_with fail
  refine (markFrameS_m a L.length c m M L lo _ HR.out.r0.own HM.out rfl (by simp; omega) hl1 (by omega)).mono ?_
  rintro e w1 ⟨rfl, hk⟩
  have KK := Lib.hid (fun g T cs (h : T ≠ 38) h2 => (KK.out g T cs h h2).grown hk.grown (own_neR HR.out.r0 (KK.out g T cs h h2) h))
  have H1 := Lib.hid (HR.out.m0 hk)
  have S1 := Lib.hid ((Spn.of_below (lo := lo) (up := up) b1.out).trans (Spn.of_mark HR.out.r0 hk.grown))
  have K1 := Lib.hid (K0.out.far HR.out.r0 hk.grown (.inr hup))
  have q0 := K1.out.cell
  have hs1 := hk.grown.size
  simp only [World.size_alloc] at hs1
  clear hk HR
  go_wp2_with fail
  refine (markFrameS_m b R.length d (m + 4 * L.length) _ R lo _ H1.out.r1.own (by have := HM.out; omega) rfl (by omega) hl2 (by omega)).mono ?_
  rintro e w2 ⟨rfl, hk⟩
  have KK := Lib.hid (fun g T cs (h : T ≠ 38) h2 => (KK.out g T cs h h2).grown hk.grown (own_neR H1.out.r1 (KK.out g T cs h h2) h))
  have H2 := Lib.hid (H1.out.m1 hk)
  have S2 := Lib.hid (S1.out.trans (Spn.of_mark H1.out.r1 hk.grown))
  clear hk H1
  go_wp2
  go_ret
  exact ⟨rfl, ⟨H2.out, S2.out⟩, KK.out⟩
end Go.Proofs.Ytneolndbhklboaa
