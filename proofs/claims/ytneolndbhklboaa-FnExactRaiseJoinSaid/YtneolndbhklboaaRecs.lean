/- Rows of records of one size, whatever the record: how they read, as an argument's row and as a row of the call's own; marks written through them. No program. -/
import Derived.Test.YtneolndbhklboaaMem
import Derived.Test.YtneolndbhklboaaRow
namespace Go.Proofs.Ytneolndbhklboaa
open Go.RowKit

section
variable {α : Type} (enc : α → List Value) (sz : Nat) (d : α)
/-- The cells of a list of records. -/
def flatR (l : List α) : List Value := l.flatMap enc
theorem flatR_nil : flatR enc ([] : List α) = [] := rfl
theorem flatR_cons (x : α) (l : List α) : flatR enc (x :: l) = enc x ++ flatR enc l := rfl
theorem flatR_append (l m : List α) : flatR enc (l ++ m) = flatR enc l ++ flatR enc m := by simp [flatR]
theorem flatR_snoc (l : List α) (x : α) : flatR enc (l ++ [x]) = flatR enc l ++ enc x := by simp [flatR]
theorem flatR_len (hsz : ∀ x, (enc x).length = sz) (l : List α) : (flatR enc l).length = l.length * sz := by
  induction l with
  | nil => simp [flatR]
  | cons x l ih => rw [flatR_cons, List.length_append, ih, hsz, List.length_cons, Nat.succ_mul]; omega
/-- The record at i. -/
def rel (l : List α) (i : Nat) : α := l.getD i d
theorem rel_lt {l : List α} {i : Nat} (hi : i < l.length) : rel d l i = l[i] := by simp [rel, List.getD, hi]
theorem rel_cons_succ (x : α) (l : List α) (i : Nat) : rel d (x :: l) (i + 1) = rel d l i := by simp [rel]
theorem rel_take {l : List α} {i : Nat} (hi : i < l.length) : l.take (i + 1) = l.take i ++ [rel d l i] := by
  rw [List.take_succ_eq_append_getElem hi, rel_lt d hi]
theorem rel_drop {l : List α} {i : Nat} (hi : i < l.length) : l.drop i = rel d l i :: l.drop (i + 1) := by
  rw [List.drop_eq_getElem_cons hi, rel_lt d hi]
theorem rel_map {β : Type} (f : α → β) (e : β) {l : List α} {i : Nat} (hi : i < l.length) : rel e (l.map f) i = f (rel d l i) := by simp [rel, List.getD, hi]
theorem flatR_at (hsz : ∀ x, (enc x).length = sz) (l : List α) (i q : Nat) (hi : i < l.length) (hq : q < sz) : (flatR enc l)[i * sz + q]? = (enc (rel d l i))[q]? := by
  induction l generalizing i with
  | nil => simp at hi
  | cons x l ih =>
    rw [flatR_cons]
    cases i with
    | zero => rw [Nat.zero_mul, Nat.zero_add, List.getElem?_append_left (by rw [hsz]; exact hq)]; simp [rel]
    | succ i =>
      rw [List.getElem?_append_right (by rw [hsz, Nat.succ_mul]; omega), hsz, rel_cons_succ, show (i + 1) * sz + q - sz = i * sz + q by rw [Nat.succ_mul]; omega]
      exact ih i (by simpa using hi)

/-- A slice of records, all below block hi, reads as l. -/
structure Recs (w : World) (hi : Nat) (a : Option Addr) (c : Nat) (l : List α) : Prop where
  cap : l.length ≤ c
  big : c ≤ 9223372036854775807
  lies : l = [] ∨ ∃ b off, a = some ⟨b, off, none⟩ ∧ b < hi ∧ ∀ i, i < l.length → ∀ q, q < sz → w.cell? ⟨b, off + i * sz + q, none⟩ = (enc (rel d l i))[q]?
end
section
variable {α : Type} {enc : α → List Value} {sz : Nat} {d : α} {w w' : World} {hi hi' c : Nat} {a : Option Addr} {l : List α}
theorem Recs.below (h : Recs enc sz d w hi a c l) (hb : Below hi w w') : Recs enc sz d w' hi a c l :=
  ⟨h.cap, h.big, h.lies.imp id fun ⟨b, off, ha, hlt, hc⟩ => ⟨b, off, ha, hlt, fun i hi' q hq => (hb.cell (p := ⟨b, off + i * sz + q, none⟩) hlt).trans (hc i hi' q hq)⟩⟩
theorem Recs.more (h : Recs enc sz d w hi a c l) (hh : hi ≤ hi') : Recs enc sz d w hi' a c l :=
  ⟨h.cap, h.big, h.lies.imp id fun ⟨b, off, ha, hlt, hc⟩ => ⟨b, off, ha, Nat.lt_of_lt_of_le hlt hh, hc⟩⟩
theorem Recs.none_ (w : World) (hi : Nat) : Recs enc sz d w hi none 0 [] := ⟨Nat.le_refl _, by omega, .inl rfl⟩
theorem Recs.cells (h : Recs enc sz d w hi a c l) (hne : 0 < l.length) : ∃ b off, a = some ⟨b, off, none⟩ ∧ b < hi ∧ ∀ i, i < l.length → ∀ q, q < sz → w.cell? ⟨b, off + i * sz + q, none⟩ = (enc (rel d l i))[q]? :=
  h.lies.resolve_left (by intro h; subst h; simp at hne)
/-- A row of the call's own: its length, its capacity's bounds, where it lies. -/
theorem ownR_len {T : TypeId} {lo n : Nat} (hsz : ∀ x, (enc x).length = sz) (h0 : 0 < sz) (h : w.ownsRow lo T sz (.slice a n c) n (flatR enc l)) : n = l.length := by
  have h1 := h.1
  rw [flatR_len enc sz hsz] at h1
  exact (Nat.eq_of_mul_eq_mul_right h0 h1).symm
theorem ownR_cap {T : TypeId} {lo n : Nat} {xs : List Value} (h : w.ownsRow lo T sz (.slice a n c) n xs) : n ≤ c ∧ c ≤ 9223372036854775807 := by
  rcases h.2 with ⟨hv, h1⟩ | ⟨g, cap, cur, hv, hlo, hh, h1, h2, _⟩
  · simp only [Value.slice.injEq] at hv
    omega
  · simp only [Value.slice.injEq] at hv
    unfold maxLen at h2
    omega
theorem ownR_block {T : TypeId} {lo n : Nat} {xs : List Value} (h : w.ownsRow lo T sz (.slice a n c) n xs) (hn : 1 ≤ n) : ∃ g, a = some ⟨g, 0, none⟩ ∧ lo ≤ g ∧ g < w.heap.size := by
  rcases h.2 with ⟨hv, h1⟩ | ⟨g, cap, cur, hv, hlo, hh, _⟩
  · omega
  · simp only [Value.slice.injEq] at hv
    exact ⟨g, hv.1, hlo, (Array.getElem?_eq_some_iff.1 hh).1⟩
theorem Recs.of_own {T : TypeId} {lo n : Nat} (hsz : ∀ x, (enc x).length = sz) (h0 : 0 < sz) (h : w.ownsRow lo T sz (.slice a n c) n (flatR enc l)) : Recs enc sz d w w.heap.size a c l := by
  have hn := ownR_len hsz h0 h
  subst hn
  have hc := ownR_cap h
  refine ⟨hc.1, hc.2, ?_⟩
  rcases Nat.eq_zero_or_pos l.length with h1 | h1
  · exact .inl (List.length_eq_zero_iff.1 h1)
  · obtain ⟨g, rfl, hg, hlt⟩ := ownR_block h h1
    refine .inr ⟨g, 0, rfl, hlt, fun i hi q hq => ?_⟩
    rw [Nat.zero_add, h.cellAt (i * sz + q) (by
      have := Nat.mul_le_mul_right sz (show i + 1 ≤ l.length from hi)
      rw [Nat.succ_mul] at this
      omega)]
    exact flatR_at enc sz d hsz l i q hi hq
theorem Rw.recs {T : TypeId} {lo up n : Nat} (hsz : ∀ x, (enc x).length = sz) (h0 : 0 < sz) (h : Rw T sz lo up a n c (flatR enc l) w) : Recs enc sz d w w.heap.size a c l := Recs.of_own hsz h0 h.own
/-- The records from m on. -/
theorem Recs.drop (h : Recs enc sz d w hi a c l) (m : Nat) (hm : m ≤ l.length) : Recs enc sz d w hi (if c = m then a else a.map (·.add (m * sz))) (c - m) (l.drop m) := by
  have hcap := h.cap
  refine ⟨by simp; omega, by have := h.big; omega, ?_⟩
  by_cases he : m = l.length
  · exact .inl (by subst he; simp)
  · obtain ⟨b, off, rfl, hlt', hc⟩ := h.cells (by omega)
    refine .inr ⟨b, off + m * sz, ?_, hlt', fun i hi' q hq => ?_⟩
    · rw [if_neg (by omega)]
      simp only [Option.map, Addr.add]
      by_cases h0 : m * sz = 0
      · simp [h0]
      · simp [h0]
    · have e : rel d (l.drop m) i = rel d l (m + i) := by simp [rel, List.getD]
      rw [e]
      have := hc (m + i) (by simp at hi'; omega) q hq
      rw [Nat.add_mul] at this
      rw [← this]
      congr 2
      omega
/-- The records up to m (the capacity may shrink to c'). -/
theorem Recs.take {c' : Nat} (h : Recs enc sz d w hi a c l) (m : Nat) (hm : m ≤ l.length) (hc' : m ≤ c') (hcc : c' ≤ c) : Recs enc sz d w hi a c' (l.take m) := by
  refine ⟨by simp; omega, by have := h.big; omega, ?_⟩
  rcases Nat.eq_zero_or_pos m with rfl | h0
  · exact .inl (by simp)
  · obtain ⟨b, off, rfl, hlt', hc⟩ := h.cells (by omega)
    refine .inr ⟨b, off, rfl, hlt', fun i hi' q hq => ?_⟩
    have hi2 : i < m := by simp at hi'; omega
    have e : rel d (l.take m) i = rel d l i := by simp [rel, List.getD, hi2]
    rw [e]
    exact hc i (by omega) q hq
end
section
/-- Marking a row leaves all that lies below the row's own base, and every row of another block. -/
structure MarkedR (T : TypeId) (sz lo : Nat) (a : Option Addr) (c n : Nat) (xs : List Value) (w w' : World) : Prop where
  own : w'.ownsRow lo T sz (.slice a n c) n xs
  below : Below lo w w'
  grown : w.grownBy w' (Value.slice a n c).ownBlock
theorem Blk.put_ {w : World} {g : Nat} {t : TypeId} {cs : Array Value} (h : Blk w g t cs) (i : Nat) (u : Value) : Blk (w.setCell ⟨g, i, none⟩ u) g t (cs.setIfInBounds i u) := by
  unfold Blk at h ⊢
  simp [World.setCell, Array.getElem?_modify, h]
/-- A call that hands back a row of records of its own. -/
def FreshR {α : Type} (enc : α → List Value) (T : TypeId) (sz : Nat) (l : List α) (w : World) (e : Ending) (w' : World) : Prop :=
  ∃ a c, e = .returned (.slice a l.length c) ∧ w'.ownsRow w.heap.size T sz (.slice a l.length c) l.length (flatR enc l) ∧ Below w.heap.size w w'
end
end Go.Proofs.Ytneolndbhklboaa
