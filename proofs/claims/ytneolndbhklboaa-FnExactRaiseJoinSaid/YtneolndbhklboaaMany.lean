/- Several rows of a call's own at once: no two share a block. No program. -/
import Derived.Test.YtneolndbhklboaaRecs
namespace Go.Proofs.Ytneolndbhklboaa
open Go.RowKit

structure RowD where
  T : TypeId
  sz : Nat
  a : Option Addr
  n : Nat
  c : Nat
  xs : List Value
abbrev RowD.v (r : RowD) : Value := .slice r.a r.n r.c
/-- Two slices that are no parts of one block. -/
def Apart (u v : Value) : Prop := ∀ k, u.ownBlock = some k → v.ownBlock ≠ some k
theorem Apart.symm {u v : Value} (h : Apart u v) : Apart v u := fun k hv hu => h k hu hv
theorem Apart.nil1 (v : Value) : Apart (.slice none 0 0) v := fun k h => by simp [Value.ownBlock] at h
theorem Apart.nil2 (v : Value) : Apart v (.slice none 0 0) := (Apart.nil1 v).symm
theorem Apart.of_lt {w w2 : World} {lo lo2 : Nat} {T T2 : TypeId} {sz sz2 n n2 : Nat} {v v2 : Value} {xs xs2 : List Value} (h : w.ownsRow lo T sz v n xs) (h2 : w2.ownsRow lo2 T2 sz2 v2 n2 xs2) (hl : w.heap.size ≤ lo2) : Apart v v2 := fun k h3 h4 => by
  have := (h.lt k h3).2
  have := (h2.lt k h4).1
  omega
theorem Apart.of_type {w : World} {b1 b2 s1 s2 n1 n2 : Nat} {e1 e2 : TypeId} {v1 v2 : Value} {xs1 xs2 : List Value} (h1 : w.ownsRow b1 e1 s1 v1 n1 xs1) (h2 : w.ownsRow b2 e2 s2 v2 n2 xs2) (hne : e1 ≠ e2) : Apart v1 v2 := fun k h3 h4 => by
  rcases h1.2 with ⟨rfl, _⟩ | ⟨g, cap, cur, rfl, _, hh, _⟩
  · simp [Value.ownBlock] at h3
  · rcases h2.2 with ⟨rfl, _⟩ | ⟨g', cap', cur', rfl, _, hh', _⟩
    · simp [Value.ownBlock] at h4
    · have e1 : g = k := by simpa [Value.ownBlock] using h3
      have e2 : g' = k := by simpa [Value.ownBlock] using h4
      subst e1
      subst e2
      rw [hh] at hh'
      injection hh' with hh'
      injection hh' with _ ht
      exact hne ht
theorem Apart.ne {u v : Value} (h : Apart u v) : u.ownBlock = none ∨ u.ownBlock ≠ v.ownBlock := by
  cases hu : u.ownBlock with
  | none => exact .inl rfl
  | some k => exact .inr fun e => h k hu e.symm
theorem Rw.apart {T : TypeId} {sz lo up n c : Nat} {a : Option Addr} {xs : List Value} {w w' : World} {v : Value} (h : Rw T sz lo up a n c xs w) (hg : w.grownBy w' v.ownBlock) (ha : Apart (.slice a n c) v) : Rw T sz lo up a n c xs w' :=
  ⟨h.own.kept hg ha.ne, h.up⟩
structure Many (lo up : Nat) (rs : List RowD) (w : World) : Prop where
  row : ∀ r ∈ rs, Rw r.T r.sz lo up r.a r.n r.c r.xs w
  apart : rs.Pairwise (fun r s => Apart r.v s.v)
section
variable {lo up : Nat} {rs : List RowD} {x0 x1 x2 x3 : RowD} {zs : List Value} {w w' : World}
theorem Many.below {B : Nat} (h : Many lo up rs w) (hb : Below B w w') (hB : up ≤ B) : Many lo up rs w' := ⟨fun r hr => (h.row r hr).below hb hB, h.apart⟩
theorem Many.other {T1 : TypeId} {sz1 lo1 up1 n1 c1 : Nat} {a1 : Option Addr} {ys : List Value} {w1 : World} (h : Many lo up rs w) (h1 : Rw T1 sz1 lo1 up1 a1 n1 c1 ys w1) (hg : w.grownBy w' (Value.slice a1 n1 c1).ownBlock) (hd : up ≤ lo1 ∨ up1 ≤ lo) : Many lo up rs w' :=
  ⟨fun r hr => (h.row r hr).other h1 hg hd, h.apart⟩
theorem Many.less {lo' up' : Nat} (h : Many lo up rs w) (hl : lo' ≤ lo) (hu : up ≤ up') : Many lo' up' rs w :=
  ⟨fun r hr => ⟨⟨(h.row r hr).own.1, (h.row r hr).own.2.imp id fun ⟨g, cap, cur, hv, hb, k⟩ => ⟨g, cap, cur, hv, by omega, k⟩⟩, fun k hk => Nat.lt_of_lt_of_le ((h.row r hr).up k hk) hu⟩, h.apart⟩
theorem Many.r0 (h : Many lo up (x0 :: rs) w) : Rw x0.T x0.sz lo up x0.a x0.n x0.c x0.xs w := h.row x0 (by simp)
theorem Many.r1 (h : Many lo up (x0 :: x1 :: rs) w) : Rw x1.T x1.sz lo up x1.a x1.n x1.c x1.xs w := h.row x1 (by simp)
theorem Many.r2 (h : Many lo up (x0 :: x1 :: x2 :: rs) w) : Rw x2.T x2.sz lo up x2.a x2.n x2.c x2.xs w := h.row x2 (by simp)
theorem Many.r3 (h : Many lo up (x0 :: x1 :: x2 :: x3 :: rs) w) : Rw x3.T x3.sz lo up x3.a x3.n x3.c x3.xs w := h.row x3 (by simp)
theorem Many.mark {pre post : List RowD} {r : RowD} (h : Many lo up (pre ++ r :: post) w) (hm : MarkedR r.T r.sz lo r.a r.c r.n zs w w') : Many lo up (pre ++ { r with xs := zs } :: post) w' := by
  have hr := h.row r (by simp)
  have hap := List.pairwise_append.1 h.apart
  have hap2 := List.pairwise_cons.1 hap.2.1
  refine ⟨fun s hs => ?_, List.pairwise_append.2 ⟨hap.1, List.pairwise_cons.2 ⟨hap2.1, hap2.2⟩, fun x hx y hy => ?_⟩⟩
  · rcases List.mem_append.1 hs with hs | hs
    · exact (h.row s (by simp [hs])).apart hm.grown (hap.2.2 s hs r (by simp))
    · rcases List.mem_cons.1 hs with rfl | hs
      · exact ⟨hm.own, hr.up⟩
      · exact (h.row s (by simp [hs])).apart hm.grown ((hap2.1 s hs).symm)
  · rcases List.mem_cons.1 hy with rfl | hy
    · exact hap.2.2 x hx r (by simp)
    · exact hap.2.2 x hx y (by simp [hy])
theorem Many.m0 (h : Many lo up (x0 :: rs) w) (hm : MarkedR x0.T x0.sz lo x0.a x0.c x0.n zs w w') : Many lo up ({ x0 with xs := zs } :: rs) w' := Many.mark (pre := []) h hm
theorem Many.m1 (h : Many lo up (x0 :: x1 :: rs) w) (hm : MarkedR x1.T x1.sz lo x1.a x1.c x1.n zs w w') : Many lo up (x0 :: { x1 with xs := zs } :: rs) w' := Many.mark (pre := [x0]) h hm
theorem Many.m2 (h : Many lo up (x0 :: x1 :: x2 :: rs) w) (hm : MarkedR x2.T x2.sz lo x2.a x2.c x2.n zs w w') : Many lo up (x0 :: x1 :: { x2 with xs := zs } :: rs) w' := Many.mark (pre := [x0, x1]) h hm
theorem Many.m3 (h : Many lo up (x0 :: x1 :: x2 :: x3 :: rs) w) (hm : MarkedR x3.T x3.sz lo x3.a x3.c x3.n zs w w') : Many lo up (x0 :: x1 :: x2 :: { x3 with xs := zs } :: rs) w' := Many.mark (pre := [x0, x1, x2]) h hm
/-- Two rows, the second laid behind the first. -/
theorem Many.two {w0 : World} {lo2 : Nat} (h0 : w0.ownsRow lo x0.T x0.sz x0.v x0.n x0.xs) (hb : Below w0.heap.size w0 w) (h1 : w.ownsRow lo2 x1.T x1.sz x1.v x1.n x1.xs) (hl : w0.heap.size ≤ lo2) (hlo : lo ≤ w0.heap.size) : Many lo w.heap.size [x0, x1] w := by
  have g0 := (Rw.new h0).below hb (Nat.le_refl _)
  refine ⟨fun r hr => ?_, by simpa using Apart.of_lt h0 h1 hl⟩
  rcases List.mem_cons.1 hr with rfl | hr
  · exact ⟨g0.own, fun k hk => Nat.lt_of_lt_of_le (g0.up k hk) hb.size⟩
  · obtain rfl : r = x1 := by simpa using hr
    exact Rw.new (owns_less h1 (by omega))
/-- One more row, of another type than all. -/
theorem Many.snoc {r : RowD} (h : Many lo up rs w) (hr : w.ownsRow lo r.T r.sz r.v r.n r.xs) (hne : ∀ s ∈ rs, s.T ≠ r.T) (hu : up ≤ w.heap.size) : Many lo w.heap.size (rs ++ [r]) w := by
  refine ⟨fun s hs => ?_, List.pairwise_append.2 ⟨h.apart, by simp, fun x hx y hy => ?_⟩⟩
  · rcases List.mem_append.1 hs with hs | hs
    · exact ⟨(h.row s hs).own, fun k hk => Nat.lt_of_lt_of_le ((h.row s hs).up k hk) hu⟩
    · obtain rfl : s = r := by simpa using hs
      exact Rw.new hr
  · obtain rfl : y = r := by simpa using hy
    exact Apart.of_type (h.row x hx).own hr (hne x hx)
theorem own_setCell_lo {T : TypeId} {sz n : Nat} {v : Value} {xs : List Value} (h : w.ownsRow lo T sz v n xs) {p : Addr} (hp : p.block < lo) (u : Value) : (w.setCell p u).ownsRow lo T sz v n xs := by
  refine ⟨h.1, ?_⟩
  rcases h.2 with h2 | ⟨g, cap, cur, hv, hg, hh, r⟩
  · exact .inl h2
  · exact .inr ⟨g, cap, cur, hv, hg, by rw [Below.heap_setCell w p u g (by omega)]; exact hh, r⟩
theorem Many.setCell (h : Many lo up rs w) {p : Addr} (hp : p.block < lo) (u : Value) : Many lo up rs (w.setCell p u) :=
  ⟨fun r hr => ⟨own_setCell_lo (h.row r hr).own hp u, (h.row r hr).up⟩, h.apart⟩
/-- Nothing has changed but what lies in lo .. up - 1. -/
structure Spn (lo up : Nat) (w w' : World) : Prop where
  os : w'.os = w.os
  tape : w'.tape = w.tape
  output : w'.output = w.output
  size : w.heap.size ≤ w'.heap.size
  block : ∀ k, k < w.heap.size → (k < lo ∨ up ≤ k) → w'.heap[k]? = w.heap[k]?
theorem Spn.trans {w'' : World} (h : Spn lo up w w') (k : Spn lo up w' w'') : Spn lo up w w'' :=
  ⟨k.os.trans h.os, k.tape.trans h.tape, k.output.trans h.output, Nat.le_trans h.size k.size, fun i hi hd => (k.block i (Nat.lt_of_lt_of_le hi h.size) hd).trans (h.block i hi hd)⟩
theorem Spn.below (h : Spn lo up w w') (hlo : lo ≤ w.heap.size) : Below lo w w' := ⟨h.os, h.tape, h.output, h.size, fun k hk => h.block k (by omega) (.inl hk)⟩
theorem Spn.of_below (h : Below w.heap.size w w') : Spn lo up w w' := ⟨h.os, h.tape, h.output, h.size, fun k hk _ => h.block k hk⟩
theorem Spn.of_mark {T : TypeId} {sz n c : Nat} {a : Option Addr} {xs : List Value} {w1 : World} (h : Rw T sz lo up a n c xs w1) (hg : w.grownBy w' (Value.slice a n c).ownBlock) : Spn lo up w w' :=
  ⟨hg.os, hg.tape, hg.output, hg.size, fun k hk hd => hg.block k hk (fun e => by have h4 := (h.own.lt k e.symm).1; have h5 := h.up k e.symm; omega)⟩
theorem Blk.spn {g : Nat} {t : TypeId} {cs : Array Value} (h : Blk w g t cs) (hs : Spn lo up w w') (hd : g < lo ∨ up ≤ g) : Blk w' g t cs := (hs.block g h.lt hd).trans h
theorem Many.spn {lo1 up1 : Nat} (h : Many lo up rs w) (hs : Spn lo1 up1 w w') (hd : up ≤ lo1 ∨ up1 ≤ lo) : Many lo up rs w' := by
  refine ⟨fun r hr => ⟨⟨(h.row r hr).own.1, ?_⟩, (h.row r hr).up⟩, h.apart⟩
  rcases (h.row r hr).own.2 with h2 | ⟨g, cap, cur, hv, hg, hh, q⟩
  · exact .inl h2
  · have hk := (h.row r hr).up g (by rw [hv]; rfl)
    have hlt := ((h.row r hr).own.lt g (by rw [hv]; rfl)).2
    exact .inr ⟨g, cap, cur, hv, hg, by rw [hs.block g hlt (by omega)]; exact hh, q⟩
end
end Go.Proofs.Ytneolndbhklboaa
