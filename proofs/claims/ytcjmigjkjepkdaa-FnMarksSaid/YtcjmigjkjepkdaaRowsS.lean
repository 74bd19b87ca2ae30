/- Slices of slices of ints: how they read (Grid), rows of the call's own (Rows2), and the laws' own helpers over them. -/
import Derived.Test.YtcjmigjkjepkdaaRingS
namespace Go.Proofs.Ytcjmigjkjepkdaa
open Go.RowKit

/-- How many numbers lie in the first k rows. -/
def tot (ess : List (List Int)) : Nat → Nat
  | 0 => 0
  | k + 1 => tot ess k + (ess.getD k []).length
theorem tot_le (ess : List (List Int)) {i k : Nat} (h : i ≤ k) : tot ess i ≤ tot ess k := by
  induction k with
  | zero => obtain rfl : i = 0 := by omega
            exact Nat.le_refl _
  | succ k ih =>
    rcases Nat.lt_or_ge i (k + 1) with h1 | h1
    · have := ih (by omega); simp only [tot]; omega
    · obtain rfl : i = k + 1 := by omega
      exact Nat.le_refl _
theorem row_le (ess : List (List Int)) {i k : Nat} (h : i < k) : (ess.getD i []).length ≤ tot ess k := by
  have := tot_le ess (show i + 1 ≤ k by omega)
  simp only [tot] at this
  omega

/-- A slice of slices of ints, all below block hi, reads as ess. -/
structure Grid (w : World) (hi : Nat) (a : Option Addr) (c : Nat) (ess : List (List Int)) : Prop where
  cap : ess.length ≤ c
  big : c ≤ 9223372036854775807
  lies : ess = [] ∨ ∃ b off, a = some ⟨b, off, none⟩ ∧ b < hi ∧ ∀ i, i < ess.length → ∃ ai ci, w.cell? ⟨b, off + i, none⟩ = some (.slice ai (ess.getD i []).length ci) ∧ Nums .i64 w hi ai ci (ess.getD i [])
theorem Grid.below {w w' : World} {hi c : Nat} {a : Option Addr} {ess : List (List Int)} (h : Grid w hi a c ess) (hb : Below hi w w') : Grid w' hi a c ess :=
  ⟨h.cap, h.big, h.lies.imp id fun ⟨b, off, ha, hlt, hc⟩ => ⟨b, off, ha, hlt, fun i hi' => by
    obtain ⟨ai, ci, h1, h2⟩ := hc i hi'
    exact ⟨ai, ci, (hb.cell (p := ⟨b, off + i, none⟩) hlt).trans h1, h2.below hb⟩⟩⟩
theorem Grid.none_ (w : World) (hi : Nat) : Grid w hi none 0 [] := ⟨Nat.le_refl _, by omega, .inl rfl⟩

/-- Of what lies outside the blocks lo .. up - 1 nothing has turned. -/
structure Span (lo up : Nat) (w w' : World) : Prop where
  os : w'.os = w.os
  tape : w'.tape = w.tape
  output : w'.output = w.output
  size : w.heap.size ≤ w'.heap.size
  block : ∀ k, k < w.heap.size → (k < lo ∨ up ≤ k) → w'.heap[k]? = w.heap[k]?
theorem Span.refl (lo up : Nat) (w : World) : Span lo up w w := ⟨rfl, rfl, rfl, Nat.le_refl _, fun _ _ _ => rfl⟩
theorem Span.trans {lo up : Nat} {w w' w'' : World} (h : Span lo up w w') (k : Span lo up w' w'') : Span lo up w w'' :=
  ⟨k.os.trans h.os, k.tape.trans h.tape, k.output.trans h.output, Nat.le_trans h.size k.size, fun i hi hd => (k.block i (Nat.lt_of_lt_of_le hi h.size) hd).trans (h.block i hi hd)⟩
theorem Span.below {lo up : Nat} {w w' : World} (h : Span lo up w w') (hlo : lo ≤ w.heap.size) : Below lo w w' := ⟨h.os, h.tape, h.output, h.size, fun k hk => h.block k (by omega) (.inl hk)⟩
theorem Span.of_below {lo up : Nat} {w w' : World} (h : Below w.heap.size w w') : Span lo up w w' := ⟨h.os, h.tape, h.output, h.size, fun k hk _ => h.block k hk⟩
theorem Blk.span {lo up : Nat} {w w' : World} {g : Nat} {t : TypeId} {cs : Array Value} (h : Blk w g t cs) (hs : Span lo up w w') (hd : g < lo ∨ up ≤ g) : Blk w' g t cs := (hs.block g h.lt hd).trans h
theorem Rw.span {T : TypeId} {sz lo up n c lo1 up1 : Nat} {a : Option Addr} {xs : List Value} {w w' : World} (h : Rw T sz lo up a n c xs w) (hs : Span lo1 up1 w w') (hd : up ≤ lo1 ∨ up1 ≤ lo) : Rw T sz lo up a n c xs w' := by
  refine ⟨⟨h.own.1, ?_⟩, h.up⟩
  rcases h.own.2 with h2 | ⟨g, cap, cur, hv, hg, hh, r⟩
  · exact .inl h2
  · have hk := h.up g (by rw [hv]; rfl)
    have hlt := (h.own.lt g (by rw [hv]; rfl)).2
    exact .inr ⟨g, cap, cur, hv, hg, by rw [hs.block g hlt (by omega)]; exact hh, r⟩

/-- A slice of slices of the call's own: all its blocks lie in lo .. up - 1, no two rows share one. -/
structure Rows2 (lo up : Nat) (a : Option Addr) (c : Nat) (ess : List (List Int)) (w : World) : Prop where
  cap : ess.length ≤ c
  big : c ≤ 9223372036854775807
  lies : ess = [] ∨ ∃ (g : Nat) (row : Nat → Option Addr × Nat) (cs : Array Value), a = some ⟨g, 0, none⟩ ∧ lo ≤ g ∧ g < up ∧ Blk w g 29 cs ∧
    (∀ i, i < ess.length → cs[i]? = some (.slice (row i).1 (ess.getD i []).length (row i).2)) ∧
    (∀ i, i < ess.length → Rw 3 1 lo up (row i).1 (ess.getD i []).length (row i).2 ((ess.getD i []).map (Value.int .i64)) w) ∧
    (∀ i j, i < j → j < ess.length → ∀ x, (Value.slice (row i).1 (ess.getD i []).length (row i).2).ownBlock = some x → (Value.slice (row j).1 (ess.getD j []).length (row j).2).ownBlock ≠ some x)
section
variable {lo up c : Nat} {a : Option Addr} {ess : List (List Int)} {w w' : World}
theorem Rows2.grid (h : Rows2 lo up a c ess w) : Grid w w.heap.size a c ess :=
  ⟨h.cap, h.big, h.lies.imp id fun ⟨g, row, cs, ha, hg, hu, hk, hc, hr, _⟩ => ⟨g, 0, ha, hk.lt, fun i hi => ⟨(row i).1, (row i).2, by rw [Nat.zero_add, hk.cell i]; exact hc i hi, (hr i hi).nums⟩⟩⟩
theorem Rows2.below {B : Nat} (h : Rows2 lo up a c ess w) (hb : Below B w w') (hB : up ≤ B) : Rows2 lo up a c ess w' :=
  ⟨h.cap, h.big, h.lies.imp id fun ⟨g, row, cs, ha, hg, hu, hk, hc, hr, hd⟩ => ⟨g, row, cs, ha, hg, hu, hk.belowB hb (by omega), hc, fun i hi => (hr i hi).below hb hB, hd⟩⟩
theorem Rows2.other {T1 : TypeId} {sz1 lo1 up1 n1 c1 : Nat} {a1 : Option Addr} {ys : List Value} {w1 : World} (h : Rows2 lo up a c ess w) (h1 : Rw T1 sz1 lo1 up1 a1 n1 c1 ys w1) (hg : w.grownBy w' (Value.slice a1 n1 c1).ownBlock) (hd : up ≤ lo1 ∨ up1 ≤ lo) : Rows2 lo up a c ess w' :=
  ⟨h.cap, h.big, h.lies.imp id fun ⟨g, row, cs, ha, hg2, hu, hk, hc, hr, hdd⟩ => ⟨g, row, cs, ha, hg2, hu, hk.far h1 hg (by omega), hc, fun i hi => (hr i hi).other h1 hg hd, hdd⟩⟩
theorem Rows2.span {lo1 up1 : Nat} (h : Rows2 lo up a c ess w) (hs : Span lo1 up1 w w') (hd : up ≤ lo1 ∨ up1 ≤ lo) : Rows2 lo up a c ess w' :=
  ⟨h.cap, h.big, h.lies.imp id fun ⟨g, row, cs, ha, hg2, hu, hk, hc, hr, hdd⟩ => ⟨g, row, cs, ha, hg2, hu, hk.span hs (by omega), hc, fun i hi => (hr i hi).span hs hd, hdd⟩⟩
end
/-- A call that hands back rows of its own. -/
def FreshRows (ess : List (List Int)) (w : World) (e : Ending) (w' : World) : Prop :=
  ∃ a c, e = .returned (.slice a ess.length c) ∧ Rows2 w.heap.size w'.heap.size a c ess w' ∧ Below w.heap.size w w'

/-- What is left of the room: below nought, or all rows fit. -/
def SzPost (ess : List (List Int)) (w : World) (e : Ending) (w' : World) : Prop :=
  ∃ L : Int, e = .returned (.int .i64 L) ∧ -1 ≤ L ∧ L ≤ 1048576 ∧ (0 ≤ L → ess.length + tot ess ess.length ≤ 1048576) ∧ w = w'
end Go.Proofs.Ytcjmigjkjepkdaa
