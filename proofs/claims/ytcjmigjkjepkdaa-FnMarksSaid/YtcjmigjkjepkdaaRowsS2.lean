/- The laws' own helpers over slices of slices of ints: the copy, the comparison, the marks. -/
import Derived.Test.YtcjmigjkjepkdaaRowsS
import Derived.Deep.RegionWith
namespace Go.Proofs.Ytcjmigjkjepkdaa
open Go.RowKit

theorem infoSl : (Try.prog.info? 29).map (fun i => (i.zero, i.size, i.bytes)) = some (some (.slice none 0 0), 1, 24) := by kernel_rfl
theorem info_partsSl (h : (Try.prog.info? 29).map (fun i => (i.zero, i.size, i.bytes)) = some (some (.slice none 0 0), 1, 24)) : ∃ i0, Try.prog.info? 29 = some i0 ∧ i0.zero = some (.slice none 0 0) ∧ i0.size = 1 ∧ i0.bytes = 24 := by
  cases hi : Try.prog.info? 29 with
  | none => rw [hi] at h; cases h
  | some i => rw [hi] at h; simp at h; exact ⟨i, rfl, h.1, h.2.1, h.2.2⟩

theorem madeSl_size (n : Nat) : (madeCells #[Value.slice none 0 0] n).size = n := by
  rw [size_madeCells]
theorem Blk.set__ {w : World} {g : Nat} {t : TypeId} {cs : Array Value} (h : Blk w g t cs) (i : Nat) (u : Value) : Blk (w.setCell ⟨g, i, none⟩ u) g t (cs.setIfInBounds i u) := by
  unfold Blk at h ⊢
  simp [World.setCell, Array.getElem?_modify, h]

/-- The copy, k rows done. -/
structure Copied (lo : Nat) (g : Nat) (ess : List (List Int)) (k : Nat) (W : World) : Prop where
  ex : ∃ (row : Nat → Option Addr × Nat) (cs : Array Value), Blk W g 29 cs ∧ cs.size = ess.length ∧
    (∀ i, i < k → cs[i]? = some (.slice (row i).1 (ess.getD i []).length (row i).2)) ∧
    (∀ i, i < k → Rw 3 1 lo W.heap.size (row i).1 (ess.getD i []).length (row i).2 ((ess.getD i []).map (Value.int .i64)) W) ∧
    (∀ i j, i < j → j < k → ∀ x, (Value.slice (row i).1 (ess.getD i []).length (row i).2).ownBlock = some x → (Value.slice (row j).1 (ess.getD j []).length (row j).2).ownBlock ≠ some x)
theorem Copied.start {lo g : Nat} {ess : List (List Int)} {W : World} {cs : Array Value} (h : Blk W g 29 cs) (hs : cs.size = ess.length) : Copied lo g ess 0 W :=
  ⟨⟨fun _ => (none, 0), cs, h, hs, fun i hi => absurd hi (by omega), fun i hi => absurd hi (by omega), fun i j _ hj => absurd hj (by omega)⟩⟩
/-- One row more. -/
theorem Copied.step {lo g k : Nat} {ess : List (List Int)} {W W' : World} (h : Copied lo g ess k W) (hk : k < ess.length) (hlo : lo ≤ W.heap.size) {a : Option Addr} {c : Nat}
    (ho : W'.ownsRow W.heap.size 3 1 (.slice a (ess.getD k []).length c) (ess.getD k []).length ((ess.getD k []).map (Value.int .i64))) (hb : Below W.heap.size W W') :
    Copied lo g ess (k + 1) (W'.setCell ⟨g, k, none⟩ (.slice a (ess.getD k []).length c)) := by
  obtain ⟨row, cs, hB, hs, hc, hr, hd⟩ := h.ex
  have hB' := hB.below hb
  have hne : ∀ {lo n c : Nat} {a : Option Addr} {xs : List Value}, W'.ownsRow lo 3 1 (.slice a n c) n xs → (Value.slice a n c).ownBlock ≠ some g := fun h1 => by
    rcases h1.2 with ⟨he, _⟩ | ⟨g', cap, cur, he, _, hh, _⟩
    · rw [he]; simp [Value.ownBlock]
    · rw [he]
      intro e
      have e' : g' = g := by simpa [Value.ownBlock] using e
      subst e'
      unfold Blk at hB'
      rw [hh] at hB'
      injection hB' with hB'
      injection hB' with _ ht
      exact absurd ht (by decide)
  have hset : ∀ {n c lo up : Nat} {b : Option Addr} {xs : List Value} (v : Value), Rw 3 1 lo up b n c xs W' → Rw 3 1 lo up b n c xs (W'.setCell ⟨g, k, none⟩ v) := fun v h1 =>
    ⟨h1.own.kept (grown_setCell _ _ _ _) (.inr (fun e => hne h1.own e)), h1.up⟩
  have hwide : ∀ {n c lo up lo' up' : Nat} {b : Option Addr} {xs : List Value} {V : World}, Rw 3 1 lo up b n c xs V → lo' ≤ lo → up ≤ up' → Rw 3 1 lo' up' b n c xs V := fun h1 h2 h3 =>
    ⟨owns_less h1.own h2, fun x hx => Nat.lt_of_lt_of_le (h1.up x hx) h3⟩
  have hsz : (W'.setCell ⟨g, k, none⟩ (.slice a (ess.getD k []).length c)).heap.size = W'.heap.size := by simp
  refine ⟨⟨fun i => if i = k then (a, c) else row i, cs.setIfInBounds k (.slice a (ess.getD k []).length c), hB'.set__ k _, by simpa using hs, fun i hi => ?_, fun i hi => ?_, fun i j hij hj x hx => ?_⟩⟩
  · by_cases he : i = k
    · subst he
      simp only [if_true]
      rw [Array.getElem?_setIfInBounds_self_of_lt (by omega)]
    · simp only [he, if_false]
      rw [Array.getElem?_setIfInBounds_ne (by omega)]
      exact hc i (by omega)
  · by_cases he : i = k
    · subst he
      simp only [if_true]
      refine hset _ (hwide (Rw.new ho) hlo ?_)
      rw [hsz]; exact Nat.le_refl _
    · simp only [he, if_false]
      refine hset _ (hwide ((hr i (by omega)).below hb (Nat.le_refl _)) (Nat.le_refl _) ?_)
      rw [hsz]; exact hb.size
  · have hik : i ≠ k := by omega
    simp only [hik, if_false] at hx
    by_cases he : j = k
    · subst he
      simp only [if_true]
      intro hy
      have h1 := (hr i (by omega)).up x hx
      have h2 := (ho.lt x hy).1
      omega
    · simp only [he, if_false]
      exact hd i j hij (by omega) x hx
theorem Copied.rows {lo g : Nat} {ess : List (List Int)} {W : World} (h : Copied lo g ess ess.length W) (hg : lo ≤ g) (hb : ess.length ≤ 9223372036854775807) : Rows2 lo W.heap.size (some ⟨g, 0, none⟩) ess.length ess W := by
  obtain ⟨row, cs, hB, hs, hc, hr, hd⟩ := h.ex
  exact ⟨Nat.le_refl _, hb, .inr ⟨g, row, cs, rfl, hg, hB.lt, hB, hc, hr, hd⟩⟩

/-- The marks: j rows done. -/
structure MarkingG (lo up g : Nat) (row : Nat → Option Addr × Nat) (cs : Array Value) (ess : List (List Int)) (w : World) (j : Nat) (W : World) : Prop where
  blk : Blk W g 29 cs
  rest : ∀ i, j ≤ i → i < ess.length → Rw 3 1 lo up (row i).1 (ess.getD i []).length (row i).2 ((ess.getD i []).map (Value.int .i64)) W
  span : Span lo up w W
theorem MarkingG.step {lo up g j m : Nat} {row : Nat → Option Addr × Nat} {cs : Array Value} {ess : List (List Int)} {w W W' : World} (h : MarkingG lo up g row cs ess w j W) (hj : j < ess.length)
    (hd : ∀ i j, i < j → j < ess.length → ∀ x, (Value.slice (row i).1 (ess.getD i []).length (row i).2).ownBlock = some x → (Value.slice (row j).1 (ess.getD j []).length (row j).2).ownBlock ≠ some x)
    (hm : MarkedI 3 lo (row j).1 (row j).2 m (ess.getD j []).length W W') : MarkingG lo up g row cs ess w (j + 1) W' := by
  have hR := h.rest j (Nat.le_refl _) hj
  have hne : (Value.slice (row j).1 (ess.getD j []).length (row j).2).ownBlock ≠ some g := by
    rcases hR.own.2 with ⟨he, _⟩ | ⟨g', cap, cur, he, _, hh, _⟩
    · rw [he]; simp [Value.ownBlock]
    · rw [he]
      intro e
      have e' : g' = g := by simpa [Value.ownBlock] using e
      subst e'
      have hB := h.blk
      unfold Blk at hB
      rw [hh] at hB
      injection hB with hB
      injection hB with _ ht
      exact absurd ht (by decide)
  refine ⟨h.blk.grown hm.grown (fun e => hne e.symm), fun i hi hin => ?_, ?_⟩
  · have hI := h.rest i (by omega) hin
    refine ⟨hI.own.kept hm.grown ?_, hI.up⟩
    by_cases hv : (Value.slice (row i).1 (ess.getD i []).length (row i).2).ownBlock = none
    · exact .inl hv
    · refine .inr fun e => ?_
      obtain ⟨x, hx⟩ := Option.ne_none_iff_exists'.1 hv
      exact hd j i (by omega) hin x (by rw [← e]; exact hx) hx
  · refine h.span.trans ⟨hm.grown.os, hm.grown.tape, hm.grown.output, hm.grown.size, fun k hk hd2 => hm.grown.block k hk (fun e => ?_)⟩
    have h1 := hR.up k e.symm
    have h2 := (hR.own.lt k e.symm).1
    omega
end Go.Proofs.Ytcjmigjkjepkdaa
