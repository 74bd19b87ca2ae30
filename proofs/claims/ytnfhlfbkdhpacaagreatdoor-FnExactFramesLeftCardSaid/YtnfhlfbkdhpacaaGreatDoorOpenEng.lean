/- What an argument that is an engine is as a value, out of its reading. (made by tools/mkopeneng.py) -/
import Derived.Test.YtnfhlfbkdhpacaaGreatDoorJoint1
import Derived.Test.YtnfhlfbkdhpacaaGreatDoorEngS
namespace Go.Proofs.YtnfhlfbkdhpacaaGreatDoor
open Go.ChangeShapes Go.WideShapes Go.ChangeAt Go.RowKit Go.Joins Go.Deep

set_option maxRecDepth 100000 in
/-- The cell of a slice whose elements are told by R. -/
theorem slice_open {H : Type} {enc : TypeId × Value → H} {W : World} {held : Bool} {fuel : Nat} {x : DataW H × List MemPlace} {a : Option Addr} {n c : Nat} {LS T : TypeId} {k : Nat} {α : Type} (d : α) (R : α → List Value → Prop)
    (hu : Tryz.prog.underlying LS = some (.slice T)) (hk : Tryz.prog.cellsOf T = k) (hk0 : 0 < k)
    (hel : ∀ (fuel : Nat) (cs : List Value) (y : DataW H × List MemPlace), cs.length = k → DataW.trod enc Tryz.prog W 0 (fun _ => true) held fuel T cs = some y → ∃ S, R S cs)
    (hf : DataW.trod enc Tryz.prog W 0 (fun _ => true) held fuel LS [.slice a n c] = some x) :
    ∃ l : List α, n = l.length ∧ l.length ≤ c ∧ c ≤ 9223372036854775807 ∧ (l = [] ∨ ∃ b off, a = some ⟨b, off, none⟩ ∧ b < W.heap.size ∧ ∀ i, i < l.length → ∃ cs : List Value, R (rel d l i) cs ∧ ∀ q, q < k → W.cell? ⟨b, off + i * k + q, none⟩ = cs[q]?) := by
  rcases DataW.trod_slice hu hf with ⟨hcs, _⟩ | ⟨ad, len, cap, elems, rest, m, _, hcs, _, _, hlc, hm, hlen, hee, _⟩
  · simp at hcs
    obtain ⟨rfl, rfl, rfl⟩ := hcs
    exact ⟨[], rfl, Nat.le_refl _, by omega, .inl rfl⟩
  · simp at hcs
    obtain ⟨rfl, rfl, rfl⟩ := hcs
    unfold maxLen at hm
    rw [hk] at hee
    have each : ∀ i, ∃ S : α, i < n → ∃ cs : List Value, cs.length = k ∧ R S cs ∧ ∀ q, q < k → W.cell? ((ad.add (i * k)).add q) = cs[q]? := by
      intro i
      by_cases hi : i < n
      · have h1 := hee i hi
        rw [List.getElem?_eq_getElem (by omega)] at h1
        obtain ⟨cs, hc1, hc2⟩ := Option.bind_eq_some_iff.1 h1
        obtain ⟨_, hl5, hat⟩ := World.cells?_some hc1
        obtain ⟨S, hS⟩ := hel _ _ _ hl5 hc2
        exact ⟨S, fun _ => ⟨cs, hl5, hS, fun q hq => hat q hq⟩⟩
      · exact ⟨d, fun h => absurd h hi⟩
    obtain ⟨S, hS⟩ := Classical.axiomOfChoice each
    have hl : ((List.range n).map S).length = n := by simp
    refine ⟨(List.range n).map S, hl.symm, by rw [hl]; exact hlc, by omega, ?_⟩
    by_cases h0 : n = 0
    · subst h0; exact .inl (by simp)
    · obtain ⟨c0, l0, _, h00⟩ := hS 0 (by omega)
      have h00 := h00 0 hk0
      rw [List.getElem?_eq_getElem (by omega)] at h00
      have hspot : ad.spot = none := by
        have := World.cell?_spot h00
        simpa [Addr.add] using this
      obtain ⟨b, off, spot⟩ := ad
      simp only at hspot
      subst hspot
      have hlt := block_lt_of_cell h00
      refine .inr ⟨b, off, rfl, by simpa [Addr.add] using hlt, fun i hi => ?_⟩
      rw [hl] at hi
      have hg : rel d ((List.range n).map S) i = S i := by simp [rel, List.getD, hi]
      rw [hg]
      obtain ⟨cs, _, hR, hk2⟩ := hS i hi
      refine ⟨cs, hR, fun q hq => ?_⟩
      have z := hk2 q hq
      simp only [addr_add_] at z
      exact z
theorem cells_int : Tryz.prog.cellsOf 3 = 1 := by kernel_rfl
theorem cells_bool : Tryz.prog.cellsOf 4 = 1 := by kernel_rfl
theorem cells_u8 : Tryz.prog.cellsOf 5 = 1 := by kernel_rfl
theorem cells_frame : Tryz.prog.cellsOf 131 = 4 := by kernel_rfl
set_option maxRecDepth 100000 in
theorem frame_open {H : Type} {enc : TypeId × Value → H} {W : World} {held : Bool} {fuel : Nat} {x : DataW H × List MemPlace} {c0 c1 c2 c3 : Value} (hf : DataW.trod enc Tryz.prog W 0 (fun _ => true) held fuel 131 [c0, c1, c2, c3] = some x) : ∃ (z0 : Int) (z1 : Int) (z2 : Int) (z3 : Int), c0 = .int .i64 z0 ∧ c1 = .int .i64 z1 ∧ c2 = .int .i64 z2 ∧ c3 = .int .i64 z3 ∧ Is64 z0 ∧ Is64 z1 ∧ Is64 z2 ∧ Is64 z3 := by
  obtain ⟨xs, n, _, rfl, _, hlen, hf⟩ := DataW.trod_struct Tryz.underlying131 hf
  obtain ⟨y0, y1, y2, y3, rfl⟩ : ∃ y0 y1 y2 y3, xs = [y0, y1, y2, y3] := by
    match xs, hlen with
    | [y0, y1, y2, y3], _ => exact ⟨y0, y1, y2, y3, rfl⟩
  have h0 := hf 0 _ rfl
  have h1 := hf 1 _ rfl
  have h2 := hf 2 _ rfl
  have h3 := hf 3 _ rfl
  simp [cells_int] at h0 h1 h2 h3
  obtain ⟨z0, e0, w0⟩ := DataW.trod_int Tryz.underlying3 h0
  obtain ⟨z1, e1, w1⟩ := DataW.trod_int Tryz.underlying3 h1
  obtain ⟨z2, e2, w2⟩ := DataW.trod_int Tryz.underlying3 h2
  obtain ⟨z3, e3, w3⟩ := DataW.trod_int Tryz.underlying3 h3
  simp at e0 e1 e2 e3
  exact ⟨z0, z1, z2, z3, e0, e1, e2, e3, i64_wf w0.2, i64_wf w1.2, i64_wf w2.2, i64_wf w3.2⟩
theorem cells_source : Tryz.prog.cellsOf 116 = 5 := by kernel_rfl
set_option maxRecDepth 100000 in
theorem source_open {H : Type} {enc : TypeId × Value → H} {W : World} {held : Bool} {fuel : Nat} {x : DataW H × List MemPlace} {c0 c1 c2 c3 c4 : Value} (hf : DataW.trod enc Tryz.prog W 0 (fun _ => true) held fuel 116 [c0, c1, c2, c3, c4] = some x) : ∃ (z0 : Int) (z1 : Int) (z2 : Int) (z3 : Bool) (z4 : Bool), c0 = .int .i64 z0 ∧ c1 = .int .i64 z1 ∧ c2 = .int .i64 z2 ∧ c3 = .bool z3 ∧ c4 = .bool z4 ∧ Is64 z0 ∧ Is64 z1 ∧ Is64 z2 := by
  obtain ⟨xs, n, _, rfl, _, hlen, hf⟩ := DataW.trod_struct Tryz.underlying116 hf
  obtain ⟨y0, y1, y2, y3, y4, rfl⟩ : ∃ y0 y1 y2 y3 y4, xs = [y0, y1, y2, y3, y4] := by
    match xs, hlen with
    | [y0, y1, y2, y3, y4], _ => exact ⟨y0, y1, y2, y3, y4, rfl⟩
  have h0 := hf 0 _ rfl
  have h1 := hf 1 _ rfl
  have h2 := hf 2 _ rfl
  have h3 := hf 3 _ rfl
  have h4 := hf 4 _ rfl
  simp [cells_int, cells_bool] at h0 h1 h2 h3 h4
  obtain ⟨z0, e0, w0⟩ := DataW.trod_int Tryz.underlying3 h0
  obtain ⟨z1, e1, w1⟩ := DataW.trod_int Tryz.underlying3 h1
  obtain ⟨z2, e2, w2⟩ := DataW.trod_int Tryz.underlying3 h2
  obtain ⟨z3, e3, w3⟩ := DataW.trod_bool Tryz.underlying4 h3
  obtain ⟨z4, e4, w4⟩ := DataW.trod_bool Tryz.underlying4 h4
  simp at e0 e1 e2 e3 e4
  exact ⟨z0, z1, z2, z3, z4, e0, e1, e2, e3, e4, i64_wf w0.2, i64_wf w1.2, i64_wf w2.2⟩
theorem cells_setup : Tryz.prog.cellsOf 23 = 9 := by kernel_rfl
set_option maxRecDepth 100000 in
theorem setup_open {H : Type} {enc : TypeId × Value → H} {W : World} {held : Bool} {fuel : Nat} {x : DataW H × List MemPlace} {c0 c1 c2 c3 c4 c5 c6 c7 c8 : Value} (hf : DataW.trod enc Tryz.prog W 0 (fun _ => true) held fuel 23 [c0, c1, c2, c3, c4, c5, c6, c7, c8] = some x) : ∃ (z0 : Int) (z1 : Int) (z2 : Int) (z3 : Int) (z4 : Int) (z5 : Int) (z6 : Int) (z7 : Int) (z8 : Int), c0 = .int .i64 z0 ∧ c1 = .int .i64 z1 ∧ c2 = .int .i64 z2 ∧ c3 = .int .i64 z3 ∧ c4 = .int .i64 z4 ∧ c5 = .int .i64 z5 ∧ c6 = .int .i64 z6 ∧ c7 = .int .i64 z7 ∧ c8 = .int .i64 z8 ∧ Is64 z0 ∧ Is64 z1 ∧ Is64 z2 ∧ Is64 z3 ∧ Is64 z4 ∧ Is64 z5 ∧ Is64 z6 ∧ Is64 z7 ∧ Is64 z8 := by
  obtain ⟨xs, n, _, rfl, _, hlen, hf⟩ := DataW.trod_struct Tryz.underlying23 hf
  obtain ⟨y0, y1, y2, y3, y4, y5, y6, y7, y8, rfl⟩ : ∃ y0 y1 y2 y3 y4 y5 y6 y7 y8, xs = [y0, y1, y2, y3, y4, y5, y6, y7, y8] := by
    match xs, hlen with
    | [y0, y1, y2, y3, y4, y5, y6, y7, y8], _ => exact ⟨y0, y1, y2, y3, y4, y5, y6, y7, y8, rfl⟩
  have h0 := hf 0 _ rfl
  have h1 := hf 1 _ rfl
  have h2 := hf 2 _ rfl
  have h3 := hf 3 _ rfl
  have h4 := hf 4 _ rfl
  have h5 := hf 5 _ rfl
  have h6 := hf 6 _ rfl
  have h7 := hf 7 _ rfl
  have h8 := hf 8 _ rfl
  simp [cells_int] at h0 h1 h2 h3 h4 h5 h6 h7 h8
  obtain ⟨z0, e0, w0⟩ := DataW.trod_int Tryz.underlying3 h0
  obtain ⟨z1, e1, w1⟩ := DataW.trod_int Tryz.underlying3 h1
  obtain ⟨z2, e2, w2⟩ := DataW.trod_int Tryz.underlying3 h2
  obtain ⟨z3, e3, w3⟩ := DataW.trod_int Tryz.underlying3 h3
  obtain ⟨z4, e4, w4⟩ := DataW.trod_int Tryz.underlying3 h4
  obtain ⟨z5, e5, w5⟩ := DataW.trod_int Tryz.underlying3 h5
  obtain ⟨z6, e6, w6⟩ := DataW.trod_int Tryz.underlying3 h6
  obtain ⟨z7, e7, w7⟩ := DataW.trod_int Tryz.underlying3 h7
  obtain ⟨z8, e8, w8⟩ := DataW.trod_int Tryz.underlying3 h8
  simp at e0 e1 e2 e3 e4 e5 e6 e7 e8
  exact ⟨z0, z1, z2, z3, z4, z5, z6, z7, z8, e0, e1, e2, e3, e4, e5, e6, e7, e8, i64_wf w0.2, i64_wf w1.2, i64_wf w2.2, i64_wf w3.2, i64_wf w4.2, i64_wf w5.2, i64_wf w6.2, i64_wf w7.2, i64_wf w8.2⟩
theorem cells_tally : Tryz.prog.cellsOf 31 = 6 := by kernel_rfl
set_option maxRecDepth 100000 in
theorem tally_open {H : Type} {enc : TypeId × Value → H} {W : World} {held : Bool} {fuel : Nat} {x : DataW H × List MemPlace} {c0 c1 c2 c3 c4 c5 : Value} (hf : DataW.trod enc Tryz.prog W 0 (fun _ => true) held fuel 31 [c0, c1, c2, c3, c4, c5] = some x) : ∃ (z0 : Int) (z1 : Int) (z2 : Int) (z3 : Int) (z4 : Int) (z5 : Int), c0 = .int .i64 z0 ∧ c1 = .int .i64 z1 ∧ c2 = .int .i64 z2 ∧ c3 = .int .i64 z3 ∧ c4 = .int .i64 z4 ∧ c5 = .int .i64 z5 ∧ Is64 z0 ∧ Is64 z1 ∧ Is64 z2 ∧ Is64 z3 ∧ Is64 z4 ∧ Is64 z5 := by
  obtain ⟨xs, n, _, rfl, _, hlen, hf⟩ := DataW.trod_struct Tryz.underlying31 hf
  obtain ⟨y0, y1, y2, y3, y4, y5, rfl⟩ : ∃ y0 y1 y2 y3 y4 y5, xs = [y0, y1, y2, y3, y4, y5] := by
    match xs, hlen with
    | [y0, y1, y2, y3, y4, y5], _ => exact ⟨y0, y1, y2, y3, y4, y5, rfl⟩
  have h0 := hf 0 _ rfl
  have h1 := hf 1 _ rfl
  have h2 := hf 2 _ rfl
  have h3 := hf 3 _ rfl
  have h4 := hf 4 _ rfl
  have h5 := hf 5 _ rfl
  simp [cells_int] at h0 h1 h2 h3 h4 h5
  obtain ⟨z0, e0, w0⟩ := DataW.trod_int Tryz.underlying3 h0
  obtain ⟨z1, e1, w1⟩ := DataW.trod_int Tryz.underlying3 h1
  obtain ⟨z2, e2, w2⟩ := DataW.trod_int Tryz.underlying3 h2
  obtain ⟨z3, e3, w3⟩ := DataW.trod_int Tryz.underlying3 h3
  obtain ⟨z4, e4, w4⟩ := DataW.trod_int Tryz.underlying3 h4
  obtain ⟨z5, e5, w5⟩ := DataW.trod_int Tryz.underlying3 h5
  simp at e0 e1 e2 e3 e4 e5
  exact ⟨z0, z1, z2, z3, z4, z5, e0, e1, e2, e3, e4, e5, i64_wf w0.2, i64_wf w1.2, i64_wf w2.2, i64_wf w3.2, i64_wf w4.2, i64_wf w5.2⟩
theorem cells_agg : Tryz.prog.cellsOf 138 = 6 := by kernel_rfl
set_option maxRecDepth 100000 in
theorem agg_open {H : Type} {enc : TypeId × Value → H} {W : World} {held : Bool} {fuel : Nat} {x : DataW H × List MemPlace} {c0 c1 c2 c3 c4 c5 : Value} (hf : DataW.trod enc Tryz.prog W 0 (fun _ => true) held fuel 138 [c0, c1, c2, c3, c4, c5] = some x) : ∃ (z0 : Int) (z1 : Int) (z2 : Int) (z3 : Int) (z4 : Int) (z5 : Int), c0 = .int .i64 z0 ∧ c1 = .int .i64 z1 ∧ c2 = .int .i64 z2 ∧ c3 = .int .i64 z3 ∧ c4 = .int .i64 z4 ∧ c5 = .int .i64 z5 ∧ Is64 z0 ∧ Is64 z1 ∧ Is64 z2 ∧ Is64 z3 ∧ Is64 z4 ∧ Is64 z5 := by
  obtain ⟨xs, n, _, rfl, _, hlen, hf⟩ := DataW.trod_struct Tryz.underlying138 hf
  obtain ⟨y0, y1, y2, y3, y4, y5, rfl⟩ : ∃ y0 y1 y2 y3 y4 y5, xs = [y0, y1, y2, y3, y4, y5] := by
    match xs, hlen with
    | [y0, y1, y2, y3, y4, y5], _ => exact ⟨y0, y1, y2, y3, y4, y5, rfl⟩
  have h0 := hf 0 _ rfl
  have h1 := hf 1 _ rfl
  have h2 := hf 2 _ rfl
  have h3 := hf 3 _ rfl
  have h4 := hf 4 _ rfl
  have h5 := hf 5 _ rfl
  simp [cells_int] at h0 h1 h2 h3 h4 h5
  obtain ⟨z0, e0, w0⟩ := DataW.trod_int Tryz.underlying3 h0
  obtain ⟨z1, e1, w1⟩ := DataW.trod_int Tryz.underlying3 h1
  obtain ⟨z2, e2, w2⟩ := DataW.trod_int Tryz.underlying3 h2
  obtain ⟨z3, e3, w3⟩ := DataW.trod_int Tryz.underlying3 h3
  obtain ⟨z4, e4, w4⟩ := DataW.trod_int Tryz.underlying3 h4
  obtain ⟨z5, e5, w5⟩ := DataW.trod_int Tryz.underlying3 h5
  simp at e0 e1 e2 e3 e4 e5
  exact ⟨z0, z1, z2, z3, z4, z5, e0, e1, e2, e3, e4, e5, i64_wf w0.2, i64_wf w1.2, i64_wf w2.2, i64_wf w3.2, i64_wf w4.2, i64_wf w5.2⟩
set_option maxRecDepth 100000 in
theorem ints_row {H : Type} {enc : TypeId × Value → H} {W : World} {held : Bool} {fuel : Nat} {x : DataW H × List MemPlace} {a : Option Addr} {n c : Nat} (hf : DataW.trod enc Tryz.prog W 0 (fun _ => true) held fuel 29 [.slice a n c] = some x) : ∃ l : List (Int), n = l.length ∧ Nums .i64 W W.heap.size a c l := by
  obtain ⟨l, hn, h1, h2, h3⟩ := slice_open (0) (fun S cs => cs = [.int .i64 S]) Tryz.underlying29 cells_int (by omega) (fun fuel cs y hl hy => by
    obtain ⟨c0, rfl⟩ : ∃ c0, cs = [c0] := by
      match cs, hl with
      | [c0], _ => exact ⟨c0, rfl⟩
    obtain ⟨z, e0, _⟩ := DataW.trod_int Tryz.underlying3 hy
    exact ⟨z, e0⟩
    ) hf
  refine ⟨l, hn, h1, h2, h3.imp id fun ⟨b, off, ha, hlt, hc⟩ => ⟨b, off, ha, hlt, fun i hi => ?_⟩⟩
  obtain ⟨cs, rfl, hq⟩ := hc i hi
  have z := hq 0 (by omega)
  rw [Nat.mul_one, Nat.add_zero] at z
  rw [z, rel_lt 0 hi]
  simp [el, List.getD, hi]
theorem u8_wf {n : Int} (h : (Lit.int .u8 n).wf = true) : 0 ≤ n ∧ n ≤ 255 := by simpa [Lit.wf, IntKind.min, IntKind.max, IntKind.signed, IntKind.bits] using h
set_option maxRecDepth 100000 in
theorem bytes_row {H : Type} {enc : TypeId × Value → H} {W : World} {held : Bool} {fuel : Nat} {x : DataW H × List MemPlace} {a : Option Addr} {n c : Nat} (hf : DataW.trod enc Tryz.prog W 0 (fun _ => true) held fuel 60 [.slice a n c] = some x) : ∃ l : List (Int), n = l.length ∧ (Nums .u8 W W.heap.size a c l ∧ ∀ x ∈ l, 0 ≤ x ∧ x ≤ 255) := by
  obtain ⟨l, hn, h1, h2, h3⟩ := slice_open (0) (fun S cs => cs = [.int .u8 S] ∧ 0 ≤ S ∧ S ≤ 255) Tryz.underlying60 cells_u8 (by omega) (fun fuel cs y hl hy => by
    obtain ⟨c0, rfl⟩ : ∃ c0, cs = [c0] := by
      match cs, hl with
      | [c0], _ => exact ⟨c0, rfl⟩
    obtain ⟨z, e0, w0⟩ := DataW.trod_int Tryz.underlying5 hy
    exact ⟨z, e0, u8_wf w0.2⟩
    ) hf
  have HN : Nums .u8 W W.heap.size a c l := by
    refine ⟨h1, h2, h3.imp id fun ⟨b, off, ha, hlt, hc⟩ => ⟨b, off, ha, hlt, fun i hi => ?_⟩⟩
    obtain ⟨cs, ⟨rfl, _⟩, hq⟩ := hc i hi
    have z := hq 0 (by omega)
    rw [Nat.mul_one, Nat.add_zero] at z
    rw [z, rel_lt 0 hi]
    simp [el, List.getD, hi]
  refine ⟨l, hn, HN, ?_⟩
  intro x hx
  obtain ⟨i, hi, rfl⟩ := List.mem_iff_getElem.1 hx
  rcases h3 with h3 | ⟨b, off, ha, hlt, hc⟩
  · subst h3; simp at hi
  · obtain ⟨cs, ⟨_, hb⟩, _⟩ := hc i hi
    rw [rel_lt 0 hi] at hb
    exact hb
set_option maxRecDepth 100000 in
theorem aggs__row {H : Type} {enc : TypeId × Value → H} {W : World} {held : Bool} {fuel : Nat} {x : DataW H × List MemPlace} {a : Option Addr} {n c : Nat} (hf : DataW.trod enc Tryz.prog W 0 (fun _ => true) held fuel 28 [.slice a n c] = some x) : ∃ l : List (Ag), n = l.length ∧ Ags W W.heap.size a c l := by
  obtain ⟨l, hn, h1, h2, h3⟩ := slice_open (aD) (fun S cs => cs = aC S) Tryz.underlying28 cells_agg (by omega) (fun fuel cs y hl hy => by
    obtain ⟨c0, c1, c2, c3, c4, c5, rfl⟩ : ∃ c0 c1 c2 c3 c4 c5, cs = [c0, c1, c2, c3, c4, c5] := by
      match cs, hl with
      | [c0, c1, c2, c3, c4, c5], _ => exact ⟨c0, c1, c2, c3, c4, c5, rfl⟩
    obtain ⟨z0, z1, z2, z3, z4, z5, rfl, rfl, rfl, rfl, rfl, rfl, _⟩ := agg_open hy
    exact ⟨⟨z0, z1, z2, z3, z4, z5⟩, rfl⟩
    ) hf
  refine ⟨l, hn, h1, h2, h3.imp id fun ⟨b, off, ha, hlt, hc⟩ => ⟨b, off, ha, hlt, fun i hi q hq => ?_⟩⟩
  obtain ⟨cs, rfl, hh⟩ := hc i hi
  exact hh q hq
theorem cells_msg : Tryz.prog.cellsOf 133 = 5 := by kernel_rfl
set_option maxRecDepth 100000 in
theorem msg_open {H : Type} {enc : TypeId × Value → H} {W : World} {held : Bool} {fuel : Nat} {x : DataW H × List MemPlace} {c0 c1 c2 c3 c4 : Value} (hf : DataW.trod enc Tryz.prog W 0 (fun _ => true) held fuel 133 [c0, c1, c2, c3, c4] = some x) : ∃ S : Mq, [c0, c1, c2, c3, c4] = qC S := by
  obtain ⟨xs, n, _, rfl, _, hlen, hf⟩ := DataW.trod_struct Tryz.underlying133 hf
  obtain ⟨y0, y1, rfl⟩ : ∃ y0 y1, xs = [y0, y1] := by
    match xs, hlen with
    | [y0, y1], _ => exact ⟨y0, y1, rfl⟩
  have h0 := hf 0 _ rfl
  have h1 := hf 1 _ rfl
  simp [cells_int, cells_frame] at h0 h1
  obtain ⟨z0, z1, z2, z3, rfl, rfl, rfl, rfl, _⟩ := frame_open h0
  obtain ⟨z4, e4, _⟩ := DataW.trod_int Tryz.underlying3 h1
  simp at e4
  subst e4
  exact ⟨⟨z0, z1, z2, z3, z4⟩, rfl⟩
set_option maxRecDepth 100000 in
theorem msgs_row {H : Type} {enc : TypeId × Value → H} {W : World} {held : Bool} {fuel : Nat} {x : DataW H × List MemPlace} {a : Option Addr} {n c : Nat} (hf : DataW.trod enc Tryz.prog W 0 (fun _ => true) held fuel 25 [.slice a n c] = some x) : ∃ l : List (Mq), n = l.length ∧ Mqs W W.heap.size a c l := by
  obtain ⟨l, hn, h1, h2, h3⟩ := slice_open (qD) (fun S cs => cs = qC S) Tryz.underlying25 cells_msg (by omega) (fun fuel cs y hl hy => by
    obtain ⟨c0, c1, c2, c3, c4, rfl⟩ : ∃ c0 c1 c2 c3 c4, cs = [c0, c1, c2, c3, c4] := by
      match cs, hl with
      | [c0, c1, c2, c3, c4], _ => exact ⟨c0, c1, c2, c3, c4, rfl⟩
    exact msg_open hy
    ) hf
  refine ⟨l, hn, h1, h2, h3.imp id fun ⟨b, off, ha, hlt, hc⟩ => ⟨b, off, ha, hlt, fun i hi q hq => ?_⟩⟩
  obtain ⟨cs, rfl, hh⟩ := hc i hi
  exact hh q hq
theorem cells_smsg : Tryz.prog.cellsOf 25 = 1 := by kernel_rfl
set_option maxRecDepth 100000 in
theorem msgss_row {H : Type} {enc : TypeId × Value → H} {W : World} {held : Bool} {fuel : Nat} {x : DataW H × List MemPlace} {a : Option Addr} {n c : Nat} (hf : DataW.trod enc Tryz.prog W 0 (fun _ => true) held fuel 26 [.slice a n c] = some x) : ∃ l : List (List Mq), n = l.length ∧ HRow hdMq 1 ([] : List Mq) W W.heap.size a c l := by
  obtain ⟨l, hn, h1, h2, h3⟩ := slice_open ([]) (fun S cs => ∃ ai ci, cs = [.slice ai S.length ci] ∧ Mqs W W.heap.size ai ci S) Tryz.underlying26 cells_smsg (by omega) (fun fuel cs y hl hy => by
    obtain ⟨c0, rfl⟩ : ∃ c0, cs = [c0] := by
      match cs, hl with
      | [c0], _ => exact ⟨c0, rfl⟩
    have hs : ∃ a m c, c0 = .slice a m c := by
      rcases DataW.trod_slice Tryz.underlying25 hy with ⟨hcs, _⟩ | ⟨ad, len, cap, elems, rest, m, _, hcs, _⟩
      · simp at hcs; exact ⟨_, _, _, hcs⟩
      · simp at hcs; exact ⟨_, _, _, hcs⟩
    obtain ⟨a, m, c, rfl⟩ := hs
    obtain ⟨l, rfl, hN⟩ := msgs_row hy
    exact ⟨l, _, _, rfl, hN⟩
    ) hf
  refine ⟨l, hn, h1, h2, h3.imp id fun ⟨b, off, ha, hlt, hc⟩ => ⟨b, off, ha, hlt, fun i hi => ?_⟩⟩
  obtain ⟨cs, ⟨ai, ci, rfl, hN⟩, hh⟩ := hc i hi
  exact ⟨ai, ci, hh 0 (by omega), fun q hq => absurd hq (by omega), hN⟩
theorem cells_shard : Tryz.prog.cellsOf 121 = 4 := by kernel_rfl
theorem cells_saggs : Tryz.prog.cellsOf 28 = 1 := by kernel_rfl
set_option maxRecDepth 100000 in
theorem shard_open {H : Type} {enc : TypeId × Value → H} {W : World} {held : Bool} {fuel : Nat} {x : DataW H × List MemPlace} {c0 c1 c2 c3 : Value} (hf : DataW.trod enc Tryz.prog W 0 (fun _ => true) held fuel 121 [c0, c1, c2, c3] = some x) : ∃ S : Sh, ∃ ai ci, [c0, c1, c2, c3] = .slice ai S.l.length ci :: hdSh.tail S ∧ Ags W W.heap.size ai ci S.l := by
  obtain ⟨xs, n, _, rfl, _, hlen, hf⟩ := DataW.trod_struct Tryz.underlying121 hf
  obtain ⟨y0, y1, y2, y3, rfl⟩ : ∃ y0 y1 y2 y3, xs = [y0, y1, y2, y3] := by
    match xs, hlen with
    | [y0, y1, y2, y3], _ => exact ⟨y0, y1, y2, y3, rfl⟩
  have h0 := hf 0 _ rfl
  have h1 := hf 1 _ rfl
  have h2 := hf 2 _ rfl
  have h3 := hf 3 _ rfl
  simp [cells_int, cells_saggs] at h0 h1 h2 h3
  obtain ⟨z1, e1, _⟩ := DataW.trod_int Tryz.underlying3 h1
  obtain ⟨z2, e2, _⟩ := DataW.trod_int Tryz.underlying3 h2
  obtain ⟨z3, e3, _⟩ := DataW.trod_int Tryz.underlying3 h3
  simp at e1 e2 e3
  subst e1 e2 e3
  have hs0 : ∃ a m c, c0 = .slice a m c := by
    rcases DataW.trod_slice Tryz.underlying28 h0 with ⟨hcs, _⟩ | ⟨ad, len, cap, elems, rest, m, _, hcs, _⟩
    · simp at hcs; exact ⟨_, _, _, hcs⟩
    · simp at hcs; exact ⟨_, _, _, hcs⟩
  obtain ⟨a, m, c, rfl⟩ := hs0
  obtain ⟨l, rfl, hN⟩ := aggs__row h0
  exact ⟨⟨l, z1, z2, z3⟩, a, c, rfl, hN⟩
set_option maxRecDepth 100000 in
theorem shards_row {H : Type} {enc : TypeId × Value → H} {W : World} {held : Bool} {fuel : Nat} {x : DataW H × List MemPlace} {a : Option Addr} {n c : Nat} (hf : DataW.trod enc Tryz.prog W 0 (fun _ => true) held fuel 27 [.slice a n c] = some x) : ∃ l : List (Sh), n = l.length ∧ HRow hdSh 4 shD W W.heap.size a c l := by
  obtain ⟨l, hn, h1, h2, h3⟩ := slice_open (shD) (fun S cs => ∃ ai ci, cs = .slice ai S.l.length ci :: hdSh.tail S ∧ Ags W W.heap.size ai ci S.l) Tryz.underlying27 cells_shard (by omega) (fun fuel cs y hl hy => by
    obtain ⟨c0, c1, c2, c3, rfl⟩ : ∃ c0 c1 c2 c3, cs = [c0, c1, c2, c3] := by
      match cs, hl with
      | [c0, c1, c2, c3], _ => exact ⟨c0, c1, c2, c3, rfl⟩
    exact shard_open hy
    ) hf
  refine ⟨l, hn, h1, h2, h3.imp id fun ⟨b, off, ha, hlt, hc⟩ => ⟨b, off, ha, hlt, fun i hi => ?_⟩⟩
  obtain ⟨cs, ⟨ai, ci, rfl, hN⟩, hh⟩ := hc i hi
  exact ⟨ai, ci, hh 0 (by omega), fun q hq => hh (q + 1) hq, hN⟩
theorem cells_decoder : Tryz.prog.cellsOf 115 = 2 := by kernel_rfl
theorem cells_sbytes : Tryz.prog.cellsOf 60 = 1 := by kernel_rfl
set_option maxRecDepth 100000 in
theorem decoder_open {H : Type} {enc : TypeId × Value → H} {W : World} {held : Bool} {fuel : Nat} {x : DataW H × List MemPlace} {c0 c1 : Value} (hf : DataW.trod enc Tryz.prog W 0 (fun _ => true) held fuel 115 [c0, c1] = some x) : ∃ (l : List Int) (bad : Bool) (ai : Option Addr) (ci : Nat), c0 = .slice ai l.length ci ∧ c1 = .bool bad ∧ Nums .u8 W W.heap.size ai ci l ∧ ∀ x ∈ l, 0 ≤ x ∧ x ≤ 255 := by
  obtain ⟨xs, n, _, rfl, _, hlen, hf⟩ := DataW.trod_struct Tryz.underlying115 hf
  obtain ⟨y0, y1, rfl⟩ : ∃ y0 y1, xs = [y0, y1] := by
    match xs, hlen with
    | [y0, y1], _ => exact ⟨y0, y1, rfl⟩
  have h0 := hf 0 _ rfl
  have h1 := hf 1 _ rfl
  simp [cells_bool, cells_sbytes] at h0 h1
  obtain ⟨z1, e1, _⟩ := DataW.trod_bool Tryz.underlying4 h1
  simp at e1
  subst e1
  have hs0 : ∃ a m c, c0 = .slice a m c := by
    rcases DataW.trod_slice Tryz.underlying60 h0 with ⟨hcs, _⟩ | ⟨ad, len, cap, elems, rest, m, _, hcs, _⟩
    · simp at hcs; exact ⟨_, _, _, hcs⟩
    · simp at hcs; exact ⟨_, _, _, hcs⟩
  obtain ⟨a, m, c, rfl⟩ := hs0
  obtain ⟨l, rfl, hN⟩ := bytes_row h0
  exact ⟨l, z1, a, c, rfl, rfl, hN⟩
theorem cells_conn : Tryz.prog.cellsOf 118 = 7 := by kernel_rfl
set_option maxRecDepth 100000 in
theorem conn_open {H : Type} {enc : TypeId × Value → H} {W : World} {held : Bool} {fuel : Nat} {x : DataW H × List MemPlace} {c0 c1 c2 c3 c4 c5 c6 : Value} (hf : DataW.trod enc Tryz.prog W 0 (fun _ => true) held fuel 118 [c0, c1, c2, c3, c4, c5, c6] = some x) : ∃ S : Cn, ∃ ai ci, [c0, c1, c2, c3, c4, c5, c6] = .slice ai S.l.length ci :: hdCn.tail S ∧ Nums .u8 W W.heap.size ai ci S.l ∧ ∀ x ∈ S.l, 0 ≤ x ∧ x ≤ 255 := by
  obtain ⟨xs, n, _, rfl, _, hlen, hf⟩ := DataW.trod_struct Tryz.underlying118 hf
  obtain ⟨y0, y1, rfl⟩ : ∃ y0 y1, xs = [y0, y1] := by
    match xs, hlen with
    | [y0, y1], _ => exact ⟨y0, y1, rfl⟩
  have h0 := hf 0 _ rfl
  have h1 := hf 1 _ rfl
  simp [cells_decoder, cells_source] at h0 h1
  obtain ⟨l, bad, a, c, rfl, rfl, hN⟩ := decoder_open h0
  obtain ⟨z0, z1, z2, z3, z4, rfl, rfl, rfl, rfl, rfl, _⟩ := source_open h1
  exact ⟨⟨l, bad, z0, z1, z2, z3, z4⟩, a, c, rfl, hN⟩
set_option maxRecDepth 100000 in
theorem conns_row {H : Type} {enc : TypeId × Value → H} {W : World} {held : Bool} {fuel : Nat} {x : DataW H × List MemPlace} {a : Option Addr} {n c : Nat} (hf : DataW.trod enc Tryz.prog W 0 (fun _ => true) held fuel 24 [.slice a n c] = some x) : ∃ l : List (Cn), n = l.length ∧ (HRow hdCn 7 cnD W W.heap.size a c l ∧ ∀ i, i < l.length → ∀ x ∈ (rel cnD l i).l, 0 ≤ x ∧ x ≤ 255) := by
  obtain ⟨l, hn, h1, h2, h3⟩ := slice_open (cnD) (fun S cs => ∃ ai ci, cs = .slice ai S.l.length ci :: hdCn.tail S ∧ Nums .u8 W W.heap.size ai ci S.l ∧ ∀ x ∈ S.l, 0 ≤ x ∧ x ≤ 255) Tryz.underlying24 cells_conn (by omega) (fun fuel cs y hl hy => by
    obtain ⟨c0, c1, c2, c3, c4, c5, c6, rfl⟩ : ∃ c0 c1 c2 c3 c4 c5 c6, cs = [c0, c1, c2, c3, c4, c5, c6] := by
      match cs, hl with
      | [c0, c1, c2, c3, c4, c5, c6], _ => exact ⟨c0, c1, c2, c3, c4, c5, c6, rfl⟩
    exact conn_open hy
    ) hf
  have HN : HRow hdCn 7 cnD W W.heap.size a c l := by
    refine ⟨h1, h2, h3.imp id fun ⟨b, off, ha, hlt, hc⟩ => ⟨b, off, ha, hlt, fun i hi => ?_⟩⟩
    obtain ⟨cs, ⟨ai, ci, rfl, hN, _⟩, hh⟩ := hc i hi
    exact ⟨ai, ci, hh 0 (by omega), fun q hq => hh (q + 1) hq, hN⟩
  refine ⟨l, hn, HN, ?_⟩
  intro i hi
  rcases h3 with h3 | ⟨b, off, ha, hlt, hc⟩
  · subst h3; simp at hi
  · obtain ⟨cs, ⟨ai, ci, _, _, hB⟩, _⟩ := hc i hi
    exact hB
theorem cells_sconns : Tryz.prog.cellsOf 24 = 1 := by kernel_rfl
theorem cells_smsgss : Tryz.prog.cellsOf 26 = 1 := by kernel_rfl
theorem cells_sshards : Tryz.prog.cellsOf 27 = 1 := by kernel_rfl
theorem cells_sints : Tryz.prog.cellsOf 29 = 1 := by kernel_rfl
theorem cells_engine : Tryz.prog.cellsOf 33 = 24 := by kernel_rfl
/-- Its numbers are ints. -/
def En64 (E : En) : Prop := Is64 E.s0 ∧ Is64 E.s1 ∧ Is64 E.s2 ∧ Is64 E.s3 ∧ Is64 E.s4 ∧ Is64 E.s5 ∧ Is64 E.s6 ∧ Is64 E.s7 ∧ Is64 E.s8 ∧ Is64 E.now ∧ Is64 E.mode ∧ Is64 E.mark ∧ Is64 E.t0 ∧ Is64 E.t1 ∧ Is64 E.t2 ∧ Is64 E.t3 ∧ Is64 E.t4 ∧ Is64 E.t5 ∧ ∀ i, i < E.cs.length → ∀ x ∈ (rel cnD E.cs i).l, 0 ≤ x ∧ x ≤ 255
set_option maxRecDepth 100000 in
set_option maxHeartbeats 1000000 in
theorem engine_open {H : Type} {enc : TypeId × Value → H} {W : World} {held : Bool} {fuel : Nat} {x : DataW H × List MemPlace} {c0 c1 c2 c3 c4 c5 c6 c7 c8 c9 c10 c11 c12 c13 c14 c15 c16 c17 c18 c19 c20 c21 c22 c23 : Value} (hf : DataW.trod enc Tryz.prog W 0 (fun _ => true) held fuel 33 [c0, c1, c2, c3, c4, c5, c6, c7, c8, c9, c10, c11, c12, c13, c14, c15, c16, c17, c18, c19, c20, c21, c22, c23] = some x) : ∃ (E : En) (p : Pl), Value.agg #[c0, c1, c2, c3, c4, c5, c6, c7, c8, c9, c10, c11, c12, c13, c14, c15, c16, c17, c18, c19, c20, c21, c22, c23] = ev E p ∧ EnR W W.heap.size p E ∧ En64 E := by
  obtain ⟨xs, n, _, rfl, _, hlen, hf⟩ := DataW.trod_struct Tryz.underlying33 hf
  obtain ⟨y0, y1, y2, y3, y4, y5, y6, y7, y8, y9, y10, rfl⟩ : ∃ y0 y1 y2 y3 y4 y5 y6 y7 y8 y9 y10, xs = [y0, y1, y2, y3, y4, y5, y6, y7, y8, y9, y10] := by
    match xs, hlen with
    | [y0, y1, y2, y3, y4, y5, y6, y7, y8, y9, y10], _ => exact ⟨y0, y1, y2, y3, y4, y5, y6, y7, y8, y9, y10, rfl⟩
  have h0 := hf 0 _ rfl
  have h1 := hf 1 _ rfl
  have h2 := hf 2 _ rfl
  have h3 := hf 3 _ rfl
  have h4 := hf 4 _ rfl
  have h5 := hf 5 _ rfl
  have h6 := hf 6 _ rfl
  have h7 := hf 7 _ rfl
  have h8 := hf 8 _ rfl
  have h9 := hf 9 _ rfl
  have h10 := hf 10 _ rfl
  simp [cells_int, cells_setup, cells_tally, cells_sconns, cells_smsg, cells_smsgss, cells_sshards, cells_saggs, cells_sints] at h0 h1 h2 h3 h4 h5 h6 h7 h8 h9 h10
  obtain ⟨s0, s1, s2, s3, s4, s5, s6, s7, s8, rfl, rfl, rfl, rfl, rfl, rfl, rfl, rfl, rfl, i0, i1, i2, i3, i4, i5, i6, i7, i8⟩ := setup_open h0
  obtain ⟨now, e1, w1⟩ := DataW.trod_int Tryz.underlying3 h1
  obtain ⟨mode, e2, w2⟩ := DataW.trod_int Tryz.underlying3 h2
  obtain ⟨mark, e8, w8⟩ := DataW.trod_int Tryz.underlying3 h8
  simp at e1 e2 e8
  subst e1 e2 e8
  obtain ⟨t0, t1, t2, t3, t4, t5, rfl, rfl, rfl, rfl, rfl, rfl, j0, j1, j2, j3, j4, j5⟩ := tally_open h10
  have hs3 : ∃ a m c, c11 = .slice a m c := by
    rcases DataW.trod_slice Tryz.underlying24 h3 with ⟨hcs, _⟩ | ⟨ad, len, cap, elems, rest, m, _, hcs, _⟩
    · simp at hcs; exact ⟨_, _, _, hcs⟩
    · simp at hcs; exact ⟨_, _, _, hcs⟩
  obtain ⟨a3, m3, d3, rfl⟩ := hs3
  obtain ⟨l3, rfl, hN3⟩ := conns_row h3
  have hs4 : ∃ a m c, c12 = .slice a m c := by
    rcases DataW.trod_slice Tryz.underlying25 h4 with ⟨hcs, _⟩ | ⟨ad, len, cap, elems, rest, m, _, hcs, _⟩
    · simp at hcs; exact ⟨_, _, _, hcs⟩
    · simp at hcs; exact ⟨_, _, _, hcs⟩
  obtain ⟨a4, m4, d4, rfl⟩ := hs4
  obtain ⟨l4, rfl, hN4⟩ := msgs_row h4
  have hs5 : ∃ a m c, c13 = .slice a m c := by
    rcases DataW.trod_slice Tryz.underlying26 h5 with ⟨hcs, _⟩ | ⟨ad, len, cap, elems, rest, m, _, hcs, _⟩
    · simp at hcs; exact ⟨_, _, _, hcs⟩
    · simp at hcs; exact ⟨_, _, _, hcs⟩
  obtain ⟨a5, m5, d5, rfl⟩ := hs5
  obtain ⟨l5, rfl, hN5⟩ := msgss_row h5
  have hs6 : ∃ a m c, c14 = .slice a m c := by
    rcases DataW.trod_slice Tryz.underlying27 h6 with ⟨hcs, _⟩ | ⟨ad, len, cap, elems, rest, m, _, hcs, _⟩
    · simp at hcs; exact ⟨_, _, _, hcs⟩
    · simp at hcs; exact ⟨_, _, _, hcs⟩
  obtain ⟨a6, m6, d6, rfl⟩ := hs6
  obtain ⟨l6, rfl, hN6⟩ := shards_row h6
  have hs7 : ∃ a m c, c15 = .slice a m c := by
    rcases DataW.trod_slice Tryz.underlying28 h7 with ⟨hcs, _⟩ | ⟨ad, len, cap, elems, rest, m, _, hcs, _⟩
    · simp at hcs; exact ⟨_, _, _, hcs⟩
    · simp at hcs; exact ⟨_, _, _, hcs⟩
  obtain ⟨a7, m7, d7, rfl⟩ := hs7
  obtain ⟨l7, rfl, hN7⟩ := aggs__row h7
  have hs9 : ∃ a m c, c17 = .slice a m c := by
    rcases DataW.trod_slice Tryz.underlying29 h9 with ⟨hcs, _⟩ | ⟨ad, len, cap, elems, rest, m, _, hcs, _⟩
    · simp at hcs; exact ⟨_, _, _, hcs⟩
    · simp at hcs; exact ⟨_, _, _, hcs⟩
  obtain ⟨a9, m9, d9, rfl⟩ := hs9
  obtain ⟨l9, rfl, hN9⟩ := ints_row h9
  exact ⟨⟨s0, s1, s2, s3, s4, s5, s6, s7, s8, now, mode, l3, l4, l5, l6, l7, mark, l9, t0, t1, t2, t3, t4, t5⟩, ⟨a3, d3, a4, d4, a5, d5, a6, d6, a7, d7, a9, d9⟩, rfl, ⟨hN3.1, hN4, hN5, hN6, hN7, hN9⟩, ⟨i0, i1, i2, i3, i4, i5, i6, i7, i8, i64_wf w1.2, i64_wf w2.2, i64_wf w8.2, j0, j1, j2, j3, j4, j5, hN3.2⟩⟩
set_option maxRecDepth 100000 in
theorem arg_engine {H : Type} {enc : TypeId × Value → H} {W : World} {base : Nat} {v : Value} {d : DataW H} {p : List MemPlace} (hv : Value.okWide Tryz.prog W .any base 33 v)
    (h : DataW.Trod enc Tryz.prog W 0 (fun _ => true) true 33 v d p) : ∃ (E : En) (q : Pl), v = ev E q ∧ EnR W W.heap.size q E ∧ En64 E := by
  obtain ⟨cs, rfl, hsz⟩ := okWide_struct Tryz.underlying33 hv
  rw [cells_engine] at hsz
  obtain ⟨l⟩ := cs
  obtain ⟨c0, c1, c2, c3, c4, c5, c6, c7, c8, c9, c10, c11, c12, c13, c14, c15, c16, c17, c18, c19, c20, c21, c22, c23, rfl⟩ : ∃ c0 c1 c2 c3 c4 c5 c6 c7 c8 c9 c10 c11 c12 c13 c14 c15 c16 c17 c18 c19 c20 c21 c22 c23, l = [c0, c1, c2, c3, c4, c5, c6, c7, c8, c9, c10, c11, c12, c13, c14, c15, c16, c17, c18, c19, c20, c21, c22, c23] := by
    match l, hsz with
    | [c0, c1, c2, c3, c4, c5, c6, c7, c8, c9, c10, c11, c12, c13, c14, c15, c16, c17, c18, c19, c20, c21, c22, c23], _ => exact ⟨c0, c1, c2, c3, c4, c5, c6, c7, c8, c9, c10, c11, c12, c13, c14, c15, c16, c17, c18, c19, c20, c21, c22, c23, rfl⟩
  obtain ⟨fuel, hf⟩ := h
  exact engine_open (by simpa [Value.cells] using hf)
end Go.Proofs.YtnfhlfbkdhpacaaGreatDoor
