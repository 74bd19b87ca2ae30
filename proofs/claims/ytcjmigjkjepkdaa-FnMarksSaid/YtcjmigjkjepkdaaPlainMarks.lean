/- Plain: what the sorted lags say of the marks. -/
import Derived.Test.YtcjmigjkjepkdaaCrowd
import Derived.Sort.AssemblyPlain
namespace Go.Proofs.Ytcjmigjkjepkdaa

theorem sorted_top {lt : Nat → Nat → Bool} (swo : Sort.SWO lt) (hlt : ∀ x y, x ≤ 1000001 → y ≤ 1000001 → lt x y = false → y ≤ x) (rs : List Nat) (hb : ∀ r ∈ rs, r ≤ 1000001) :
    (Sort.sort lt rs.toArray).size = rs.length ∧ (∀ j, j < rs.length → (Sort.sort lt rs.toArray)[j]! ∈ rs) ∧ ∀ x ∈ rs, x ≤ (Sort.sort lt rs.toArray)[rs.length - 1]! := by
  obtain ⟨⟨hs, _, hp⟩, hsd⟩ := Sort.sort_sorts lt swo rs.toArray
  generalize Sort.sort lt rs.toArray = d at hs hp hsd
  have hs' : d.size = rs.length := by simpa using hs
  have e1 : d.extract 0 rs.toArray.size = d := by rw [← hs]; simp
  have e2 : rs.toArray.extract 0 rs.toArray.size = rs.toArray := by simp
  rw [e1, e2] at hp
  have hm : ∀ j, j < rs.length → d[j]! ∈ rs := fun j hj => by
    have h1 : d[j]! ∈ d.toList := by
      rw [getElem!_pos d j (by omega)]
      exact Array.mem_toList_iff.2 (Array.getElem_mem _)
    exact hp.mem_iff.1 h1
  refine ⟨hs', hm, fun x hx => ?_⟩
  have h1 : x ∈ d.toList := hp.mem_iff.2 hx
  obtain ⟨i, hi, rfl⟩ := List.mem_iff_getElem.1 h1
  have hi' : i < rs.length := by simpa [hs'] using hi
  have e3 : d.toList[i] = d[i]! := by rw [getElem!_pos d i (by omega)]; simp
  rw [e3]
  by_cases hl : i = rs.length - 1
  · rw [hl]; exact Nat.le_refl _
  · exact hlt _ _ (hb _ (hm _ (by omega))) (hb _ (hm _ (by omega))) (hsd i (rs.length - 1) (Nat.zero_le _) (by omega) (by simp; omega))

/-- The lags that have been told: those of f that are no longer to come. -/
structure Told (f : Lit → Option Src) (left : Lit → Bool) (rs : List Nat) : Prop where
  of : ∀ r ∈ rs, ∃ k S, f k = some S ∧ left k = false ∧ r = lagOf S.m
  all : ∀ k S, f k = some S → left k = false → lagOf S.m ∈ rs
theorem Told.start {D : DataW Unit} {f : Lit → Option Src} (h : HasE D f) : Told f (Maps.has D) [] :=
  ⟨fun r hr => (nomatch hr), fun k S hk hl => by rw [h.has_, hk] at hl; cases hl⟩
theorem Told.step {f : Lit → Option Src} {left : Lit → Bool} {rs : List Nat} {k : Lit} {S : Src} (h : Told f left rs) (hk : f k = some S) (hq : k.sameKey k = true) :
    Told f (fun z => left z && !z.sameKey k) (rs ++ [lagOf S.m]) where
  of := fun r hr => by
    rcases List.mem_append.1 hr with hr | hr
    · obtain ⟨z, T, h1, h2, h3⟩ := h.of r hr
      exact ⟨z, T, h1, by simp [h2], h3⟩
    · rw [List.mem_singleton] at hr
      exact ⟨k, S, hk, by simp [hq], hr⟩
  all := fun z T hz hl => by
    rw [List.mem_append]
    by_cases e : z = k
    · right
      rw [e, hk] at hz
      cases hz
      simp
    · left
      rw [Maps.sameKey_ne e] at hl
      exact h.all z T hz (by simpa using hl)
/-- What marks hands back. -/
def MarksOf (f : Lit → Option Src) (ms : List Int) : Prop :=
  (ms = [] ∧ ∀ k, f k = none) ∨ ∃ m rest, ms = m :: rest ∧ (∃ k S, f k = some S ∧ S.m = m) ∧ ∀ k S, f k = some S → m ≤ S.m
theorem told_marks {lt : Nat → Nat → Bool} (swo : Sort.SWO lt) (hlt : ∀ x y, x ≤ 1000001 → y ≤ 1000001 → lt x y = false → y ≤ x) {f : Lit → Option Src} {left : Lit → Bool} {rs : List Nat} (h : Told f left rs)
    (hf : ∀ k S, f k = some S → -1 ≤ S.m ∧ S.m ≤ 1000000) (hl : ∀ k, left k = false) {ms : List Int}
    (hms : ms = (List.range rs.length).map fun j => 1000000 - ((Sort.sort lt rs.toArray)[rs.length - 1 - j]! : Int)) : MarksOf f ms := by
  have hb : ∀ r ∈ rs, r ≤ 1000001 := fun r hr => by
    obtain ⟨k, S, h1, _, h3⟩ := h.of r hr
    have := hf k S h1
    rw [h3]; unfold lagOf; omega
  obtain ⟨_, t2, t3⟩ := sorted_top swo hlt rs hb
  cases hr : rs with
  | nil =>
    left
    refine ⟨by rw [hms, hr]; rfl, fun k => ?_⟩
    cases hk : f k with
    | none => rfl
    | some S => have := h.all k S hk (hl k); rw [hr] at this; cases this
  | cons r rest =>
    right
    have hpos : 0 < rs.length := by rw [hr]; simp
    obtain ⟨n, hn⟩ : ∃ n, rs.length = n + 1 := ⟨rs.length - 1, by omega⟩
    obtain ⟨k, S, h1, _, h3⟩ := h.of _ (t2 (rs.length - 1) (by omega))
    have hS := hf k S h1
    refine ⟨1000000 - ((Sort.sort lt rs.toArray)[rs.length - 1]! : Int), _, by rw [hms, hn, List.range_succ_eq_map]; rfl, ⟨k, S, h1, ?_⟩, fun z T hz => ?_⟩
    · rw [h3]; unfold lagOf; omega
    · have h4 := t3 _ (h.all z T hz (hl z))
      have hT := hf z T hz
      rw [h3] at h4 ⊢
      unfold lagOf at *; omega
end Go.Proofs.Ytcjmigjkjepkdaa
