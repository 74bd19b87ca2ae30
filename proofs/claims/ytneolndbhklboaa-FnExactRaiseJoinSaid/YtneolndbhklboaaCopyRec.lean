/- The library's copy over records of k cells, and blocks written in a stretch. No program. -/
import Derived.Test.YtneolndbhklboaaRecs
import Derived.Laws.IdiomCopy
import Derived.Lib.AppendZerosOnto
namespace Go.Proofs.Ytneolndbhklboaa
open Go.RowKit

theorem run_copy_recs {P : Program} (w : World) (dT sT ty elem : TypeId) (b o dLen dCap : Nat) (a : Addr) (sLen sCap k m : Nat) (cs : List Value)
    (hu : P.underlying dT = some (.slice elem)) (hs : (P.info? elem).map (·.size) = some k) (hm : m = Nat.min sLen dLen) (hn : cs.length = m * k)
    (hsrc : ∀ j v, cs[j]? = some v → w.cell? (a.add j) = some v) (hc : ∀ j, j < cs.length → (w.cell? ⟨b, o + j, none⟩).isSome = true) (hf : ∀ j, j < cs.length → w.frozen? ⟨b, o + j, none⟩ = false) (h1 : ∀ v ∈ cs, v.oneCell' = true) :
    (Builtin.copy_ #[dT, sT] ty #[.slice (some ⟨b, o, none⟩) dLen dCap, .slice (some a) sLen sCap]).run P w = .ok (goInt m) (w.setCells b o cs) := by
  have hl := run_loadCells_list (P := P) w a cs hsrc
  have hst := run_storeCells_cells (P := P) b o cs 0 w (by simpa using hc) (by simpa using hf) h1
  cases hq : P.info? elem with
  | none => simp [hq] at hs
  | some i =>
    have hi : i.size = k := by simpa [hq] using hs
    simp [Builtin.copy_, run_underlying hu, Builtin.lenOf, Builtin.firstCells, sizeOf, typeInfo, hq, hi, ← hm, ← hn, hl, hst]
/-- A stretch written over. -/
def over (cur : List Value) (o : Nat) (vs : List Value) : List Value := cur.take o ++ vs ++ cur.drop (o + vs.length)
theorem over_len {cur vs : List Value} {o : Nat} (h : o + vs.length ≤ cur.length) : (over cur o vs).length = cur.length := by simp [over]; omega
theorem over_cons {cur r : List Value} {o : Nat} {v : Value} (h : o + (r.length + 1) ≤ cur.length) : over (cur.set o v) (o + 1) r = over cur o (v :: r) := by
  unfold over
  rw [List.take_set, List.drop_set]
  rw [if_pos (by omega)]
  have e : (cur.take (o + 1)).set o v = cur.take o ++ [v] := by
    rw [List.take_succ_eq_append_getElem (by omega), List.set_append_right _ _ (by rw [List.length_take]; omega), List.length_take, show o - min o cur.length = 0 by omega]
    rfl
  rw [e]
  simp only [List.length_cons, List.append_assoc, List.cons_append, List.nil_append]
  rw [show o + 1 + r.length = o + (r.length + 1) by omega]
theorem blk_setCells {T : TypeId} (g : Nat) : ∀ (vs : List Value) (o : Nat) (w : World) (cur : List Value), Blk w g T cur.toArray → o + vs.length ≤ cur.length → Blk (w.setCells g o vs) g T (over cur o vs).toArray
  | [], o, w, cur, h, _ => by simpa [over, World.setCells] using h
  | v :: r, o, w, cur, h, hl => by
    simp only [List.length_cons] at hl
    have h1 := h.put_ o v
    have e : cur.toArray.setIfInBounds o v = (cur.set o v).toArray := by simp
    rw [e] at h1
    have h2 := blk_setCells g r (o + 1) _ _ h1 (by simp; omega)
    rw [over_cons hl] at h2
    exact h2
/-- A tail shifted by one record, and a record put in. -/
theorem over_over {cur vs rs : List Value} {i n : Nat} (hv : vs.length = (n - i) * 6) (hr : rs.length = 6) (hi : i < n) (hl : (n + 1) * 6 ≤ cur.length) : (over (over cur ((i + 1) * 6) vs) (i * 6) rs).take ((n + 1) * 6) = cur.take (i * 6) ++ (rs ++ vs) := by
  obtain ⟨D, hD⟩ : ∃ D, cur.drop ((i + 1) * 6 + vs.length) = D := ⟨_, rfl⟩
  have e : over cur ((i + 1) * 6) vs = cur.take ((i + 1) * 6) ++ (vs ++ D) := by simp [over, hD]
  have h1 : (cur.take ((i + 1) * 6)).length = (i + 1) * 6 := by rw [List.length_take]; omega
  have h2 : (cur.take (i * 6)).length = i * 6 := by rw [List.length_take]; omega
  have hA : (cur.take ((i + 1) * 6) ++ (vs ++ D)).take (i * 6) = cur.take (i * 6) := by rw [List.take_append_of_le_length (by omega), List.take_take, Nat.min_eq_left (by omega)]
  have hB : (cur.take ((i + 1) * 6) ++ (vs ++ D)).drop (i * 6 + 6) = vs ++ D := by rw [List.drop_append_of_le_length (by omega), List.drop_of_length_le (by omega), List.nil_append]
  have hE : over (over cur ((i + 1) * 6) vs) (i * 6) rs = (cur.take (i * 6) ++ (rs ++ vs)) ++ D := by
    rw [e]
    unfold over
    rw [hA, hr, hB]
    simp
  have hL : (cur.take (i * 6) ++ (rs ++ vs)).length = (n + 1) * 6 := by rw [List.length_append, List.length_append, h2, hr, hv]; omega
  rw [hE, List.take_append_of_le_length (by omega), List.take_of_length_le (by omega)]
/-- A record and a tail put behind a beginning. -/
theorem over_two {cur A vs rs : List Value} {i n : Nat} (hA : cur.take (i * 6) = A) (hv : vs.length = (n - i) * 6) (hr : rs.length = 6) (hi : i < n) (hl : (n + 1) * 6 ≤ cur.length) : (over (over cur (i * 6) rs) ((i + 1) * 6) vs).take ((n + 1) * 6) = A ++ (rs ++ vs) := by
  obtain ⟨D, hD⟩ : ∃ D, cur.drop (i * 6 + 6) = D := ⟨_, rfl⟩
  have h2 : A.length = i * 6 := by rw [← hA, List.length_take]; omega
  have e : over cur (i * 6) rs = (A ++ rs) ++ D := by unfold over; rw [hA, hr, hD]
  have h3 : (A ++ rs).length = (i + 1) * 6 := by rw [List.length_append, h2, hr]; omega
  have hB : ((A ++ rs) ++ D).take ((i + 1) * 6) = A ++ rs := by rw [List.take_append_of_le_length (by omega), List.take_of_length_le (by omega)]
  have hE : over (over cur (i * 6) rs) ((i + 1) * 6) vs = (A ++ (rs ++ vs)) ++ ((A ++ rs) ++ D).drop ((i + 1) * 6 + vs.length) := by
    rw [e]
    unfold over
    rw [hB]
    simp
  have hL : (A ++ (rs ++ vs)).length = (n + 1) * 6 := by rw [List.length_append, List.length_append, h2, hr, hv]; omega
  rw [hE, List.take_append_of_le_length (by omega), List.take_of_length_le (by omega)]
theorem grown_setCells (g : Nat) : ∀ (vs : List Value) (o : Nat) (w : World), w.grownBy (w.setCells g o vs) (some g)
  | [], _, _ => World.grownBy.refl _ _
  | v :: r, o, w => grown_trans (grown_setCell w g o v) (grown_setCells g r (o + 1) _)
end Go.Proofs.Ytneolndbhklboaa
