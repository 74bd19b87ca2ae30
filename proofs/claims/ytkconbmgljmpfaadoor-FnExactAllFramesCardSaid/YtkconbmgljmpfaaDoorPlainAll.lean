/- Plain: all frames from the front of bytes; lists of frames as cells. No program. -/
import Derived.Test.YtkconbmgljmpfaaDoorPlainTake
import Derived.Test.YtkconbmgljmpfaaDoorMem
namespace Go.Proofs.YtkconbmgljmpfaaDoor

structure Fr where
  k : Int
  y : Int
  t : Int
  v : Int
/-- The cells of a list of frames. -/
def flatF (l : List Fr) : List Value := l.flatMap fun f => [.int .i64 f.k, .int .i64 f.y, .int .i64 f.t, .int .i64 f.v]
theorem flatF_nil : flatF [] = [] := rfl
theorem flatF_snoc (l : List Fr) (f : Fr) : flatF (l ++ [f]) = flatF l ++ [.int .i64 f.k, .int .i64 f.y, .int .i64 f.t, .int .i64 f.v] := by simp [flatF]
theorem flatF_append (l m : List Fr) : flatF (l ++ m) = flatF l ++ flatF m := by simp [flatF]
theorem flatF_len (l : List Fr) : (flatF l).length = l.length * 4 := by
  induction l with
  | nil => rfl
  | cons f l ih =>
    have e : flatF (f :: l) = [.int .i64 f.k, .int .i64 f.y, .int .i64 f.t, .int .i64 f.v] ++ flatF l := rfl
    rw [e, List.length_append, ih]
    simp; omega
def frD : Fr := ⟨0, 0, 0, 0⟩
/-- The frame at i. -/
def fel (l : List Fr) (i : Nat) : Fr := l.getD i frD
theorem flatF_at (l : List Fr) (i : Nat) (hi : i < l.length) : (flatF l)[i * 4]? = some (.int .i64 (fel l i).k) ∧ (flatF l)[i * 4 + 1]? = some (.int .i64 (fel l i).y) ∧ (flatF l)[i * 4 + 2]? = some (.int .i64 (fel l i).t) ∧ (flatF l)[i * 4 + 3]? = some (.int .i64 (fel l i).v) := by
  induction l generalizing i with
  | nil => simp at hi
  | cons f l ih =>
    have e : flatF (f :: l) = [.int .i64 f.k, .int .i64 f.y, .int .i64 f.t, .int .i64 f.v] ++ flatF l := rfl
    rw [e]
    cases i with
    | zero => simp [fel]
    | succ i =>
      have h := ih i (by simpa using hi)
      have e2 : fel (f :: l) (i + 1) = fel l i := by simp [fel]
      rw [e2]
      have e4 : ∀ j, ([.int .i64 f.k, .int .i64 f.y, .int .i64 f.t, .int .i64 f.v] ++ flatF l)[(i + 1) * 4 + j]? = (flatF l)[i * 4 + j]? := fun j => by
        rw [List.getElem?_append_right (by simp; omega)]
        congr 1
        simp; omega
      exact ⟨(e4 0).trans h.1, (e4 1).trans h.2.1, (e4 2).trans h.2.2.1, (e4 3).trans h.2.2.2⟩
theorem fel_take (l : List Fr) (i : Nat) (hi : i < l.length) : l.take (i + 1) = l.take i ++ [fel l i] := by
  rw [List.take_add_one]
  simp [fel, List.getD, hi]

def fr0 (xs : List Int) : Fr := ⟨f0K xs, f0Y xs, f0T xs, f0V xs⟩
theorem here_len {xs : List Int} (h : tkHere xs = true) : 0 < (put0 xs).length ∧ (put0 xs).length ≤ xs.length := by
  unfold tkHere at h
  rw [Bool.and_eq_true, decide_eq_true_eq] at h
  exact ⟨h.1, (List.isPrefixOf_iff_prefix.1 h.2).length_le⟩
/-- The frames, how many bytes are left, whether what is left is bent. -/
def afGo : Nat → List Int → List Fr × Nat × Bool
  | 0, xs => ([], xs.length, false)
  | m + 1, xs => if tkHere xs = true then (fr0 xs :: (afGo m (xs.drop (put0 xs).length)).1, (afGo m (xs.drop (put0 xs).length)).2) else ([], xs.length, !tkMore xs)
theorem af_here {m : Nat} {xs : List Int} (h : tkHere xs = true) : afGo (m + 1) xs = (fr0 xs :: (afGo m (xs.drop (put0 xs).length)).1, (afGo m (xs.drop (put0 xs).length)).2) := by simp [afGo, h]
theorem af_stop {m : Nat} {xs : List Int} (h : tkHere xs = false) : afGo (m + 1) xs = ([], xs.length, !tkMore xs) := by simp [afGo, h]
/-- What AllFrames answers. -/
structure Af where
  list : List Fr
  n : Int
  bad : Bool
def af (xs : List Int) : Af := if xs.length ≤ 400 then ⟨(afGo (xs.length + 1) xs).1, (xs.length : Int) - ((afGo (xs.length + 1) xs).2.1 : Int), (afGo (xs.length + 1) xs).2.2⟩ else ⟨[], 0, true⟩
theorem af_big {xs : List Int} (h : ¬ xs.length ≤ 400) : af xs = ⟨[], 0, true⟩ := by simp [af, h]
theorem af_ok {xs : List Int} (h : xs.length ≤ 400) : af xs = ⟨(afGo (xs.length + 1) xs).1, (xs.length : Int) - ((afGo (xs.length + 1) xs).2.1 : Int), (afGo (xs.length + 1) xs).2.2⟩ := by simp [af, h]
theorem afGo_le : ∀ (m : Nat) (xs : List Int), (afGo m xs).1.length ≤ xs.length ∧ (afGo m xs).2.1 ≤ xs.length
  | 0, xs => by simp [afGo]
  | m + 1, xs => by
    cases h : tkHere xs with
    | true =>
      rw [af_here h]
      have h1 := here_len h
      have h2 := afGo_le m (xs.drop (put0 xs).length)
      simp only [List.length_drop] at h2
      simp only [List.length_cons]
      omega
    | false => rw [af_stop h]; simp
theorem af_len (xs : List Int) : (af xs).list.length ≤ 400 := by
  by_cases h : xs.length ≤ 400
  · rw [af_ok h]
    have := (afGo_le (xs.length + 1) xs).1
    simp only
    omega
  · rw [af_big h]; simp
/-- Where a round stands: what was told so far, and what is left. -/
structure AfAt (xs : List Int) (acc : List Fr) (rest : List Int) (m : Nat) : Prop where
  eq : afGo (xs.length + 1) xs = (acc ++ (afGo m rest).1, (afGo m rest).2)
  lt : rest.length < m
  le : acc.length + rest.length ≤ xs.length
theorem AfAt.start (xs : List Int) : AfAt xs [] xs (xs.length + 1) := ⟨by simp, by omega, by simp⟩
theorem AfAt.step {xs : List Int} {acc : List Fr} {rest : List Int} {m : Nat} (h : AfAt xs acc rest m) (hh : tkHere rest = true) : AfAt xs (acc ++ [fr0 rest]) (rest.drop (put0 rest).length) (m - 1) := by
  obtain ⟨he, hl, hle⟩ := h
  obtain ⟨j, rfl⟩ : ∃ j, m = j + 1 := ⟨m - 1, by omega⟩
  have hp := here_len hh
  refine ⟨?_, by rw [List.length_drop]; omega, by simp; omega⟩
  rw [he, af_here hh, Nat.add_sub_cancel]
  simp
theorem AfAt.stop {xs : List Int} {acc : List Fr} {rest : List Int} {m : Nat} (h : AfAt xs acc rest m) (hh : tkHere rest = false) (hx : xs.length ≤ 400) : af xs = ⟨acc, (xs.length : Int) - (rest.length : Int), !tkMore rest⟩ := by
  obtain ⟨he, hl, hle⟩ := h
  obtain ⟨j, rfl⟩ : ∃ j, m = j + 1 := ⟨m - 1, by omega⟩
  rw [af_ok hx, he, af_stop hh]
  simp

end Go.Proofs.YtkconbmgljmpfaaDoor
