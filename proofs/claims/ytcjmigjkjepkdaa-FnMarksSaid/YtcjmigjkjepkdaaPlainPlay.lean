/- Plain: what a list of events does to a source (chapter 4). No program. -/
import Derived.Test.YtcjmigjkjepkdaaPlainSrc
import Derived.Test.YtcjmigjkjepkdaaPlain
namespace Go.Proofs.Ytcjmigjkjepkdaa

/-- What one event does: the source behind it, and whether it was taken. -/
def psT (l a : Int) (e : List Int) (S : Src) : Src :=
  if e.length = 3 then (if el e 0 = 0 then evT S l (el e 1) (el e 2) else if el e 0 = 1 then mkT S (el e 1) (el e 2) else if el e 0 = 2 then ttT S a (el e 2) else if el e 0 = 3 then clT S else S) else S
def psK (l a : Int) (e : List Int) (S : Src) : Bool :=
  if e.length = 3 then (if el e 0 = 0 then evOk S l (el e 1) (el e 2) else if el e 0 = 1 then mkOk S (el e 1) (el e 2) else if el e 0 = 2 then ttOk S a (el e 2) else if el e 0 = 3 then clOk S else false) else false
def psX (l a : Int) (e : List Int) (S : Src) : Int := if psK l a e S = true then (psT l a e S).m else -2
theorem psX_yes {l a : Int} {e : List Int} {S : Src} (h : psK l a e S = true) : psX l a e S = (psT l a e S).m := by simp [psX, h]
theorem psX_no {l a : Int} {e : List Int} {S : Src} (h : psK l a e S = false) : psX l a e S = -2 := by simp [psX, h]
section
variable {l a : Int} {e : List Int} {S : Src}
theorem ps_len (h : ¬ e.length = 3) : psT l a e S = S ∧ psK l a e S = false := by simp [psT, psK, h]
theorem ps_0 (h : e.length = 3) (h0 : el e 0 = 0) : psT l a e S = evT S l (el e 1) (el e 2) ∧ psK l a e S = evOk S l (el e 1) (el e 2) := by simp [psT, psK, h, h0]
theorem ps_1 (h : e.length = 3) (h0 : el e 0 = 1) : psT l a e S = mkT S (el e 1) (el e 2) ∧ psK l a e S = mkOk S (el e 1) (el e 2) := by simp [psT, psK, h, h0]
theorem ps_2 (h : e.length = 3) (h0 : el e 0 = 2) : psT l a e S = ttT S a (el e 2) ∧ psK l a e S = ttOk S a (el e 2) := by simp [psT, psK, h, h0]
theorem ps_3 (h : e.length = 3) (h0 : el e 0 = 3) : psT l a e S = clT S ∧ psK l a e S = clOk S := by simp [psT, psK, h, h0]
theorem ps_4 (h0 : ¬ el e 0 = 0) (h1 : ¬ el e 0 = 1) (h2 : ¬ el e 0 = 2) (h3 : ¬ el e 0 = 3) : psT l a e S = S ∧ psK l a e S = false := by
  by_cases h : e.length = 3 <;> simp [psT, psK, h, h0, h1, h2, h3]
end
/-- The source behind k events, and what was told. -/
def psS (l a : Int) (es : List (List Int)) : Nat → Src
  | 0 => newT 0
  | k + 1 => psT l a (es.getD k []) (psS l a es k)
def psL (l a : Int) (es : List (List Int)) : Nat → List Int
  | 0 => []
  | k + 1 => psL l a es k ++ [psX l a (es.getD k []) (psS l a es k)]
theorem psL_len (l a : Int) (es : List (List Int)) (k : Nat) : (psL l a es k).length = k := by
  induction k with
  | zero => rfl
  | succ k ih => simp [psL, ih]
def psEnd (l a : Int) (es : List (List Int)) : Src := if es.length ≤ 300 then psS l a es es.length else ⟨0, 0, 0, false, false⟩
def psAll (l a : Int) (es : List (List Int)) : List Int := if es.length ≤ 300 then psL l a es es.length else []
theorem ps_in {l a : Int} {es : List (List Int)} (h : es.length ≤ 300) : psEnd l a es = psS l a es es.length ∧ psAll l a es = psL l a es es.length := by simp [psEnd, psAll, h]
theorem ps_out {l a : Int} {es : List (List Int)} (h : ¬ es.length ≤ 300) : psEnd l a es = ⟨0, 0, 0, false, false⟩ ∧ psAll l a es = [] := by simp [psEnd, psAll, h]
theorem psAll_le (l a : Int) (es : List (List Int)) : (psAll l a es).length ≤ 300 := by
  unfold psAll
  split
  · rw [psL_len]; assumption
  · simp
theorem newT0 : newT 0 = ⟨-1, -1, 0, false, true⟩ := by
  have h : tickB 0 = true := tickB_yes (by omega) (by omega)
  simp [newT, h]
end Go.Proofs.Ytcjmigjkjepkdaa
