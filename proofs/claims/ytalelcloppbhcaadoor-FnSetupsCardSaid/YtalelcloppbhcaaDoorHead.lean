/- Rows of records that begin with a slice: how they read, and copies of the call's own. No program. -/
import Derived.Test.YtalelcloppbhcaaDoorRecs
import Derived.Laws.OwnMore
import Derived.Deep.MidRow
namespace Go.Proofs.YtalelcloppbhcaaDoor
open Go.RowKit

/-- How a record that begins with a slice reads: the slice's length, the cells behind it, what the slice holds below block hi, and the same as a row of the call's own. -/
structure Hd (α : Type) where
  ln : α → Nat
  tail : α → List Value
  rd : World → Nat → α → Option Addr → Nat → Prop
  ow : World → Nat → α → Option Addr → Nat → Prop
  rd_below : ∀ {w w' : World} {hi : Nat} {x : α} {a : Option Addr} {c : Nat}, rd w hi x a c → Below hi w w' → rd w' hi x a c
  rd_more : ∀ {w : World} {hi hi' : Nat} {x : α} {a : Option Addr} {c : Nat}, rd w hi x a c → hi ≤ hi' → rd w hi' x a c
  ow_rd : ∀ {w : World} {lo : Nat} {x : α} {a : Option Addr} {c : Nat}, ow w lo x a c → rd w w.heap.size x a c
  ow_below : ∀ {w w' : World} {lo : Nat} {x : α} {a : Option Addr} {c : Nat}, ow w lo x a c → Below w.heap.size w w' → ow w' lo x a c
  ow_set : ∀ {w : World} {lo : Nat} {x : α} {a : Option Addr} {c : Nat} {p : Addr} (v : Value), ow w lo x a c → p.block < lo → ow (w.setCell p v) lo x a c
  ow_less : ∀ {w : World} {lo lo' : Nat} {x : α} {a : Option Addr} {c : Nat}, ow w lo x a c → lo' ≤ lo → ow w lo' x a c

section
variable {α : Type} (H : Hd α) (k : Nat) (d : α)
/-- A slice of such records, all below block hi, reads as l. -/
structure HRow (w : World) (hi : Nat) (a : Option Addr) (c : Nat) (l : List α) : Prop where
  cap : l.length ≤ c
  big : c ≤ 9223372036854775807
  lies : l = [] ∨ ∃ b off, a = some ⟨b, off, none⟩ ∧ b < hi ∧ ∀ i, i < l.length → ∃ ai ci, w.cell? ⟨b, off + i * k, none⟩ = some (.slice ai (H.ln (rel d l i)) ci) ∧
    (∀ q, q + 1 < k → w.cell? ⟨b, off + i * k + (q + 1), none⟩ = (H.tail (rel d l i))[q]?) ∧ H.rd w hi (rel d l i) ai ci
/-- The same in memory of the call's own, from block lo on. -/
structure HOwn (T : TypeId) (w : World) (lo : Nat) (a : Option Addr) (c : Nat) (l : List α) : Prop where
  cap : l.length ≤ c
  big : c ≤ 9223372036854775807
  lies : l = [] ∨ ∃ b CS, a = some ⟨b, 0, none⟩ ∧ lo ≤ b ∧ Blk w b T CS ∧ ∀ i, i < l.length → ∃ ai ci, CS[i * k]? = some (.slice ai (H.ln (rel d l i)) ci) ∧
    (∀ q, q + 1 < k → CS[i * k + (q + 1)]? = (H.tail (rel d l i))[q]?) ∧ H.ow w lo (rel d l i) ai ci
/-- The first j records have been copied into block g. -/
structure HCop (T : TypeId) (g : Nat) (l : List α) (j : Nat) (w : World) : Prop where
  ex : ∃ CS, Blk w g T CS ∧ CS.size = l.length * k ∧ ∀ i, i < j → ∃ ai ci, CS[i * k]? = some (.slice ai (H.ln (rel d l i)) ci) ∧
    (∀ q, q + 1 < k → CS[i * k + (q + 1)]? = (H.tail (rel d l i))[q]?) ∧ H.ow w (g + 1) (rel d l i) ai ci
/-- What the slices of the first j records hold together. -/
def totH (l : List α) : Nat → Nat
  | 0 => 0
  | j + 1 => totH l j + H.ln (rel d l j)
/-- A call that hands back a copy of such a row. -/
def FreshH (T : TypeId) (l : List α) (w : World) (e : Ending) (w' : World) : Prop :=
  ∃ a c, e = .returned (.slice a l.length c) ∧ HOwn H k d T w' w.heap.size a c l ∧ Below w.heap.size w w'
end
section
variable {α : Type} {H : Hd α} {k : Nat} {d : α} {w w' : World} {hi hi' lo lo' c g : Nat} {T : TypeId} {a : Option Addr} {l : List α}
theorem totH_le {i j : Nat} (h : i ≤ j) : totH H d l i ≤ totH H d l j := by
  induction j with
  | zero => obtain rfl : i = 0 := by omega
            exact Nat.le_refl _
  | succ j ih =>
    rcases Nat.lt_or_ge i (j + 1) with h1 | h1
    · have := ih (by omega); simp only [totH]; omega
    · obtain rfl : i = j + 1 := by omega
      exact Nat.le_refl _
theorem head_le {i j : Nat} (h : i < j) : H.ln (rel d l i) ≤ totH H d l j := by
  have := totH_le (H := H) (d := d) (l := l) (show i + 1 ≤ j by omega)
  simp only [totH] at this
  omega
theorem HRow.below (h : HRow H k d w hi a c l) (hb : Below hi w w') : HRow H k d w' hi a c l :=
  ⟨h.cap, h.big, h.lies.imp id fun ⟨b, off, ha, hlt, hc⟩ => ⟨b, off, ha, hlt, fun i hi2 => by
    obtain ⟨ai, ci, h1, h2, h3⟩ := hc i hi2
    exact ⟨ai, ci, (hb.cell (p := ⟨b, off + i * k, none⟩) hlt).trans h1, fun q hq => (hb.cell (p := ⟨b, off + i * k + (q + 1), none⟩) hlt).trans (h2 q hq), H.rd_below h3 hb⟩⟩⟩
theorem HRow.more (h : HRow H k d w hi a c l) (hh : hi ≤ hi') : HRow H k d w hi' a c l :=
  ⟨h.cap, h.big, h.lies.imp id fun ⟨b, off, ha, hlt, hc⟩ => ⟨b, off, ha, by omega, fun i hi2 => by
    obtain ⟨ai, ci, h1, h2, h3⟩ := hc i hi2
    exact ⟨ai, ci, h1, h2, H.rd_more h3 hh⟩⟩⟩
theorem HRow.none_ (w : World) (hi : Nat) : HRow H k d w hi none 0 [] := ⟨Nat.le_refl _, by omega, .inl rfl⟩
theorem HRow.cells (h : HRow H k d w hi a c l) (hne : 0 < l.length) : ∃ b off, a = some ⟨b, off, none⟩ ∧ b < hi ∧ ∀ i, i < l.length → ∃ ai ci, w.cell? ⟨b, off + i * k, none⟩ = some (.slice ai (H.ln (rel d l i)) ci) ∧
    (∀ q, q + 1 < k → w.cell? ⟨b, off + i * k + (q + 1), none⟩ = (H.tail (rel d l i))[q]?) ∧ H.rd w hi (rel d l i) ai ci :=
  h.lies.resolve_left (by intro h; subst h; simp at hne)
theorem HOwn.row (h : HOwn H k d T w lo a c l) : HRow H k d w w.heap.size a c l :=
  ⟨h.cap, h.big, h.lies.imp id fun ⟨b, CS, ha, hlo, hB, hc⟩ => ⟨b, 0, ha, hB.lt, fun i hi2 => by
    obtain ⟨ai, ci, h1, h2, h3⟩ := hc i hi2
    exact ⟨ai, ci, by rw [Nat.zero_add, hB.cell]; exact h1, fun q hq => by rw [Nat.zero_add, hB.cell]; exact h2 q hq, H.ow_rd h3⟩⟩⟩
theorem HOwn.below (h : HOwn H k d T w lo a c l) (hb : Below w.heap.size w w') : HOwn H k d T w' lo a c l :=
  ⟨h.cap, h.big, h.lies.imp id fun ⟨b, CS, ha, hlo, hB, hc⟩ => ⟨b, CS, ha, hlo, hB.below hb, fun i hi2 => by
    obtain ⟨ai, ci, h1, h2, h3⟩ := hc i hi2
    exact ⟨ai, ci, h1, h2, H.ow_below h3 hb⟩⟩⟩
theorem HOwn.set (h : HOwn H k d T w lo a c l) {p : Addr} (hp : p.block < lo) (v : Value) : HOwn H k d T (w.setCell p v) lo a c l :=
  ⟨h.cap, h.big, h.lies.imp id fun ⟨b, CS, ha, hlo, hB, hc⟩ => ⟨b, CS, ha, hlo, (Below.heap_setCell w p v b (by omega)).trans hB, fun i hi2 => by
    obtain ⟨ai, ci, h1, h2, h3⟩ := hc i hi2
    exact ⟨ai, ci, h1, h2, H.ow_set v h3 hp⟩⟩⟩
theorem HOwn.less (h : HOwn H k d T w lo a c l) (hh : lo' ≤ lo) : HOwn H k d T w lo' a c l :=
  ⟨h.cap, h.big, h.lies.imp id fun ⟨b, CS, ha, hlo, hB, hc⟩ => ⟨b, CS, ha, by omega, hB, fun i hi2 => by
    obtain ⟨ai, ci, h1, h2, h3⟩ := hc i hi2
    exact ⟨ai, ci, h1, h2, H.ow_less h3 hh⟩⟩⟩
theorem HCop.start {CS : Array Value} (hB : Blk w g T CS) (hs : CS.size = l.length * k) : HCop H k d T g l 0 w := ⟨CS, hB, hs, fun i hi => by omega⟩
theorem HCop.below {j : Nat} (h : HCop H k d T g l j w) (hb : Below w.heap.size w w') : HCop H k d T g l j w' := by
  obtain ⟨CS, hB, hs, hc⟩ := h.ex
  refine ⟨CS, hB.below hb, hs, fun i hi => ?_⟩
  obtain ⟨ai, ci, h1, h2, h3⟩ := hc i hi
  exact ⟨ai, ci, h1, h2, H.ow_below h3 hb⟩
theorem HCop.done (h : HCop H k d T g l l.length w) (hl : l.length ≤ 1048576) (hlo : lo ≤ g) : HOwn H k d T w lo (some ⟨g, 0, none⟩) l.length l := by
  obtain ⟨CS, hB, hs, hc⟩ := h.ex
  refine ⟨Nat.le_refl _, by omega, .inr ⟨g, CS, rfl, hlo, hB, fun i hi => ?_⟩⟩
  obtain ⟨ai, ci, h1, h2, h3⟩ := hc i hi
  exact ⟨ai, ci, h1, h2, H.ow_less h3 (by omega)⟩
theorem hblk_far {t : TypeId} {cs : Array Value} (h : Blk w g t cs) {p : Addr} (hp : g ≠ p.block) (u : Value) : Blk (w.setCell p u) g t cs := (Below.heap_setCell w p u g hp).trans h
/-- Cells that are set from o on. -/
def setFrom (CS : Array Value) (o : Nat) : List Value → Array Value
  | [] => CS
  | v :: vs => setFrom (CS.setIfInBounds o v) (o + 1) vs
theorem setFrom_size (vs : List Value) : ∀ (CS : Array Value) (o : Nat), (setFrom CS o vs).size = CS.size := by
  induction vs with
  | nil => intro CS o; rfl
  | cons v vs ih => intro CS o; rw [setFrom, ih]; simp
theorem setFrom_out (vs : List Value) : ∀ (CS : Array Value) (o i : Nat), (i < o ∨ o + vs.length ≤ i) → (setFrom CS o vs)[i]? = CS[i]? := by
  induction vs with
  | nil => intro CS o i _; rfl
  | cons v vs ih =>
    intro CS o i h
    simp only [List.length_cons] at h
    rw [setFrom, ih _ _ _ (by omega), Array.getElem?_setIfInBounds_ne (by omega)]
theorem setFrom_in (vs : List Value) : ∀ (CS : Array Value) (o q : Nat), q < vs.length → o + q < CS.size → (setFrom CS o vs)[o + q]? = vs[q]? := by
  induction vs with
  | nil => intro CS o q h; simp at h
  | cons v vs ih =>
    intro CS o q h hs
    rw [setFrom]
    cases q with
    | zero =>
      rw [setFrom_out _ _ _ _ (by omega)]
      simp [show o < CS.size by omega]
    | succ q =>
      rw [show o + (q + 1) = o + 1 + q by omega, ih _ _ _ (by simpa using h) (by simp; omega)]
      simp
theorem blk_setCells (vs : List Value) : ∀ {w : World} {CS : Array Value} (o : Nat), Blk w g T CS → Blk (w.setCells g o vs) g T (setFrom CS o vs) := by
  induction vs with
  | nil => intro w CS o h; exact h
  | cons v vs ih =>
    intro w CS o h
    exact ih (o + 1) (Blk.put_ h o v)
theorem ow_setCells (vs : List Value) : ∀ {w : World} {x : α} {ai : Option Addr} {ci : Nat} (o : Nat), H.ow w (g + 1) x ai ci → H.ow (w.setCells g o vs) (g + 1) x ai ci := by
  induction vs with
  | nil => intro w x ai ci o h; exact h
  | cons v vs ih =>
    intro w x ai ci o h
    exact ih (o + 1) (H.ow_set v h (show g < g + 1 by omega))
theorem below_setCells (vs : List Value) {B : Nat} (hB : B ≤ g) : ∀ {w0 w : World} (o : Nat), Below B w0 w → Below B w0 (w.setCells g o vs) := by
  induction vs with
  | nil => intro w0 w o h; exact h
  | cons v vs ih =>
    intro w0 w o h
    exact ih (o + 1) (h.setCell (p := ⟨g, o, none⟩) hB v)
theorem size_setCells (vs : List Value) : ∀ {w : World} (o : Nat), (w.setCells g o vs).heap.size = w.heap.size := by
  induction vs with
  | nil => intro w o; rfl
  | cons v vs ih =>
    intro w o
    exact (ih (o + 1)).trans (by simp [World.setCell])
theorem far_setCells (vs : List Value) {b : Nat} {cs : Array Value} (hb : b ≠ g) : ∀ {w : World} (o : Nat), Blk w b T cs → Blk (w.setCells g o vs) b T cs := by
  induction vs with
  | nil => intro w o h; exact h
  | cons v vs ih =>
    intro w o h
    exact ih (o + 1) (hblk_far h (p := ⟨g, o, none⟩) hb v)
theorem blk_there {cs : Array Value} {n o : Nat} (h : Blk w g T cs) (hn : o + n ≤ cs.size) : w.there g o n := fun j hj => by
  refine ⟨?_, h.frozen _⟩
  rw [h.cell]
  simp
  omega
theorem HOwn.setCells (vs : List Value) (hg : g < lo) : ∀ {w : World} (o : Nat), HOwn H k d T w lo a c l → HOwn H k d T (w.setCells g o vs) lo a c l := by
  induction vs with
  | nil => intro w o h; exact h
  | cons v vs ih =>
    intro w o h
    exact ih (o + 1) (h.set (p := ⟨g, o, none⟩) hg v)
/-- One record more. -/
theorem HCop.step {j : Nat} {ai : Option Addr} {ci : Nat} (h : HCop H k d T g l j w) (hk : 0 < k) (ht : (H.tail (rel d l j)).length + 1 = k) (hj : j < l.length) (ho : H.ow w (g + 1) (rel d l j) ai ci) :
    HCop H k d T g l (j + 1) (w.setCells g (j * k) (.slice ai (H.ln (rel d l j)) ci :: H.tail (rel d l j))) := by
  obtain ⟨CS, hB, hs, hc⟩ := h.ex
  have hjk : j * k + k ≤ CS.size := by
    have := Nat.mul_le_mul_right k (show j + 1 ≤ l.length from hj)
    rw [Nat.succ_mul] at this
    omega
  refine ⟨_, blk_setCells _ _ hB, by rw [setFrom_size, hs], fun i hi => ?_⟩
  by_cases he : i = j
  · subst he
    refine ⟨ai, ci, ?_, fun q hq => ?_, ow_setCells _ _ ho⟩
    · have := setFrom_in (.slice ai (H.ln (rel d l i)) ci :: H.tail (rel d l i)) CS (i * k) 0 (by simp) (by omega)
      simpa using this
    · have := setFrom_in (.slice ai (H.ln (rel d l i)) ci :: H.tail (rel d l i)) CS (i * k) (q + 1) (by simp; omega) (by omega)
      simpa using this
  · have hik : i * k + k ≤ j * k := by
      have := Nat.mul_le_mul_right k (show i + 1 ≤ j by omega)
      rw [Nat.succ_mul] at this
      omega
    obtain ⟨a1, c1, h1, h2, h3⟩ := hc i (by omega)
    exact ⟨a1, c1, by rw [setFrom_out _ _ _ _ (by omega)]; exact h1, fun q hq => by rw [setFrom_out _ _ _ _ (by omega)]; exact h2 q hq, ow_setCells _ _ h3⟩
end
end Go.Proofs.YtalelcloppbhcaaDoor
