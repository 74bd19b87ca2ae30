/- Contracts of chapter 3's rings: when they are one, copies, on impl's and on spec's side. -/
import Derived.Test.YtcjmigjkjepkdaaRingS
import Derived.Test.YtcjmigjkjepkdaaPlainRing
import Derived.Test.YtcjmigjkjepkdaaHeld
import Derived.LaidEql
import Derived.WalkSpells
import Derived.Lib.LazyBuf
namespace Go.Proofs.Ytcjmigjkjepkdaa
open Go.RowKit

theorem within_any (x a b : Int) (w : World) : Calls Try.prog 50 #[.int .i64 x, .int .i64 a, .int .i64 b] w fun e w' => e = .returned (.bool (inB x a b)) ∧ w = w' := by
  by_cases h1 : a ≤ x
  · by_cases h2 : x ≤ b
    · rw [inB_yes h1 h2]
      go_enter Try.func50, Try.ntmps50
      go_wp2
      go_ret
      exact ⟨rfl, rfl⟩
    · rw [inB_no (by omega)]
      go_enter Try.func50, Try.ntmps50
      go_wp2
      go_ret
      exact ⟨rfl, rfl⟩
  · rw [inB_no (by omega)]
    go_enter Try.func50, Try.ntmps50
    go_wp2
    go_ret
    exact ⟨rfl, rfl⟩

theorem nums_one (k : IntKind) (xs : List Int) : ∀ u ∈ xs.map (Value.int k), u.oneCell' = true := by
  intro u hu
  simp only [List.mem_map] at hu
  obtain ⟨x, _, rfl⟩ := hu
  rfl
/-- The cells of a slice that is not nil, by an address. -/
theorem Nums.cells {k : IntKind} {w : World} {hi : Nat} {ad : Addr} {c : Nat} {xs : List Int} (h : Nums k w hi (some ad) c xs) : ∀ j u, (xs.map (Value.int k))[j]? = some u → w.cell? (ad.add j) = some u := by
  intro j u hj
  have hl : j < xs.length := by
    have := (List.getElem?_eq_some_iff.1 hj).1
    simpa using this
  rcases h.lies with h0 | ⟨b, off, ha, hlt, hc⟩
  · subst h0; simp at hl
  · injection ha with ha
    subst ha
    have e : (⟨b, off, none⟩ : Addr).add j = ⟨b, off + j, none⟩ := by
      by_cases h0 : j = 0
      · subst h0; rfl
      · simp [Addr.add, h0]
    rw [e, hc j hl, ← hj, el_cell _ _ _ hl]
theorem info_partsI (h : (Try.prog.info? 3).map (fun i => (i.zero, i.size, i.bytes)) = some (some (.int .i64 0), 1, 8)) : ∃ i0, Try.prog.info? 3 = some i0 ∧ i0.zero = some (.int .i64 0) ∧ i0.size = 1 ∧ i0.bytes = 8 := by
  cases hi : Try.prog.info? 3 with
  | none => rw [hi] at h; cases h
  | some i => rw [hi] at h; simp at h; exact ⟨i, rfl, h.1, h.2.1, h.2.2⟩


theorem one_i64 (x : Int) : ∀ u ∈ [Value.int .i64 x], u.oneCell' = true := by intro u hu; simp at hu; subst hu; rfl
theorem cell_one_newI (w : World) (T : TypeId) (x : Value) : ∀ j u, [x][j]? = some u → (w.alloc (.cells #[x] T)).cell? ((⟨w.heap.size, 0, none⟩ : Addr).add j) = some u := by
  intro j u hj
  obtain rfl : j = 0 := by
    have := (List.getElem?_eq_some_iff.1 hj).1
    simp at this; exact this
  simp only [List.getElem?_cons_zero, Option.some.injEq] at hj
  subst hj
  simp [Addr.add]


/-- A ring stored into the call's own result. -/
theorem ring_stored {T : TypeId} {xs : List Int} {a : Option Addr} {c lo g : Nat} {hd ct : Int} {w w1 : World} (ho : w1.ownsRow lo T 1 (.slice a xs.length c) xs.length (xs.map (Value.int .i64))) (hb : Below w.heap.size w w1) (hlo : w.heap.size ≤ g ∧ g < lo) :
    FreshRing T xs hd ct w (.returned (.agg #[.slice a xs.length c, .int .i64 hd, .int .i64 ct])) (((w1.setCell ⟨g, 0, none⟩ (.slice a xs.length c)).setCell ⟨g, 1, none⟩ (.int .i64 hd)).setCell ⟨g, 2, none⟩ (.int .i64 ct)) :=
  ⟨a, c, rfl, owns_less (ownsRow_setCell_below (ownsRow_setCell_below (ownsRow_setCell_below ho (show g < lo by omega) _) (show g < lo by omega) _) (show g < lo by omega) _) (by omega), ((hb.setCell (p := ⟨g, 0, none⟩) hlo.1 _).setCell (p := ⟨g, 1, none⟩) hlo.1 _).setCell (p := ⟨g, 2, none⟩) hlo.1 _⟩


end Go.Proofs.Ytcjmigjkjepkdaa
