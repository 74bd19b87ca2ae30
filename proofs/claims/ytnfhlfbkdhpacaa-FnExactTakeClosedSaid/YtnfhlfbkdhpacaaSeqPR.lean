/- A range over a function whose iterator writes two blocks of its own between two yields: a law of one's own. No program. -/
import Derived.RangeFuncNested
import Derived.RangeFuncCalls
namespace Go.Proofs.Ytnfhlfbkdhpacaa
open Go.RowKit

/-- Blocks p and r alone are turned, of those that lay. -/
structure Off (p r : Nat) (A B : World) : Prop where
  os : B.os = A.os
  tape : B.tape = A.tape
  output : B.output = A.output
  size : A.heap.size ≤ B.heap.size
  block : ∀ k, k < A.heap.size → k ≠ p → k ≠ r → B.heap[k]? = A.heap[k]?
theorem Off.refl (p r : Nat) (A : World) : Off p r A A := ⟨rfl, rfl, rfl, Nat.le_refl _, fun _ _ _ _ => rfl⟩
theorem Off.trans {p r : Nat} {A B C : World} (h : Off p r A B) (k : Off p r B C) : Off p r A C :=
  ⟨k.os.trans h.os, k.tape.trans h.tape, k.output.trans h.output, Nat.le_trans h.size k.size, fun i hi hp hr => (k.block i (Nat.lt_of_lt_of_le hi h.size) hp hr).trans (h.block i hi hp hr)⟩
theorem Off.of_below {p r : Nat} {A B : World} (h : Below A.heap.size A B) : Off p r A B := ⟨h.os, h.tape, h.output, h.size, fun k hk _ _ => h.block k hk⟩
theorem Off.of_grown {p r g : Nat} {A B : World} (h : A.grownBy B (some g)) (hg : g = p ∨ g = r) : Off p r A B :=
  ⟨h.os, h.tape, h.output, h.size, fun k hk hp hr => h.block k hk (fun e => by injection e with e; rcases hg with rfl | rfl <;> omega)⟩
theorem Off.alloc {p r : Nat} {A B : World} (h : Off p r A B) (o : Obj) : Off p r A (B.alloc o) := h.trans (Off.of_below ((Below.refl _ B).alloc (Nat.le_refl _) o))
theorem Off.setCell {p r : Nat} {A B : World} (h : Off p r A B) {q : Addr} (hq : q.block = p ∨ q.block = r) (v : Value) : Off p r A (B.setCell q v) :=
  h.trans ⟨rfl, rfl, rfl, by show B.heap.size ≤ (B.heap.modify _ _).size; rw [Array.size_modify]; exact Nat.le_refl _, fun k _ hp hr => Below.heap_setCell B q v k (fun e => by rcases hq with h | h <;> omega)⟩
/-- Block p and block r lie as they lay. -/
structure KpR (p r : Nat) (A B : World) : Prop where
  size : A.heap.size ≤ B.heap.size
  fst : B.heap[p]? = A.heap[p]?
  snd : B.heap[r]? = A.heap[r]?
theorem KpR.refl (p r : Nat) (A : World) : KpR p r A A := ⟨Nat.le_refl _, rfl, rfl⟩
theorem KpR.trans {p r : Nat} {A B C : World} (h : KpR p r A B) (k : KpR p r B C) : KpR p r A C := ⟨Nat.le_trans h.size k.size, k.fst.trans h.fst, k.snd.trans h.snd⟩
theorem KpR.putObj {p r l : Nat} (W : World) (o : Obj) (hp : p ≠ l) (hr : r ≠ l) : KpR p r W (W.putObj l o) := ⟨by simp, World.putObj_heap_other hp, World.putObj_heap_other hr⟩

variable {F : Fence} {n : Nat} {P : Program}
/-- An iterator that lays two blocks and writes them between the yields. -/
def SeqPR {α : Type} (F : Fence) (n : Nat) (P : Program) (g : Nat) (lb : Array Value) (encs : α → Array Value) (S Sp : List α → Prop) (Nx : List α → α → Prop) (w : World) : Prop :=
  ∀ (l : Nat) (J : Nat → Nat → List α → World → Prop) (Jx : List α → World → Prop) (W : World), Below w.heap.size w W →
    (∀ p r pre A B, J p r pre A → Off p r A B → J p r pre B) →
    (∀ p r A, Below W.heap.size W A → W.heap.size ≤ p → W.heap.size ≤ r → p < A.heap.size → r < A.heap.size → J p r [] A) →
    (∀ p r pre x W1, J p r pre W1 → Nx pre x → YieldAt F (n - 1) P l (encs x) W1 fun e W' =>
      (e = .returned (.bool true) ∧ J p r (pre ++ [x]) W' ∧ KpR p r W1 W') ∨ (e = .returned (.bool false) ∧ Jx (pre ++ [x]) W')) →
    CallsIn F n P g (#[.func (.yield l) #[] #[]] ++ lb) W fun e W' => (∃ v, e = .returned v) ∧ ((∃ xs p r, S xs ∧ J p r xs W') ∨ (∃ pre, Sp pre ∧ Jx pre W'))

/-- How a round's body may be left. -/
def prPost {α : Type} (B : Nat) (p r : Nat) (I : Nat → Nat → List α → World → Prop) (Ix : Code → List α → World → Prop) (xs : List α) (W : World) : Exit → Act → World → Prop
  | .normal, _, W' => KeepsFrom B W W' ∧ KpR p r W W' ∧ I p r xs W'
  | .ret, _, W' => KeepsFrom B W W' ∧ Ix .ret xs W'
  | .exit id, _, W' => KeepsFrom B W W' ∧ Ix (.exit id) xs W'
  | .goto t, _, W' => KeepsFrom B W W' ∧ Ix (.goto t) xs W'
  | .panic _, _, _ => False
  | .outgrown, _, _ => False

theorem wpIn_rangeFunc_pr {α : Type} {g : Operand} {ps : Array Tmp} {assign body : Code} {Q : Exit → Act → World → Prop} {a : Act} {w : World}
    (hro : F.round = none) (h1 : 1 ≤ n) {gf : Nat} {lb : Array Value} (hg : a.eval g = .func (.func gf) #[] lb) (hFg : F.fn gf) (eg : ∀ args w, (callFunc gf args).run P w = .ok (.enter gf args) w)
    {encs : α → Array Value} {S Sp : List α → Prop} {Nx : List α → α → Prop} {w0 : World} (hseq : SeqPR F (n - 1) P gf lb encs S Sp Nx w0)
    (hb0 : Below w0.heap.size w0 w) (hps : ∀ x, (encs x).size = ps.size)
    (I : Nat → Nat → List α → World → Prop) (Ix : Code → List α → World → Prop) (hIo : ∀ p r pre A B, I p r pre A → Off p r A B → I p r pre B) (hI : ∀ p r, OwnFrom w.heap.size (I p r)) (hIx : ∀ c, OwnFrom w.heap.size (Ix c))
    (h0 : ∀ p r A, Below w.heap.size w A → w.heap.size + 2 ≤ p → w.heap.size + 2 ≤ r → p < A.heap.size → r < A.heap.size → I p r [] A)
    (Ax : α → Act → World → Prop) (hAx : ∀ x a', OwnFrom w.heap.size (fun (_ : Unit) W => Ax x a' W))
    (hassign : ∀ (l p r : Nat) (pre : List α) (x : α) (W : World) (K : Act → World → Prop), I p r pre W → (∀ a' W', KeepsFrom w.heap.size W W' → KpR p r W W' → I p r pre W' → Ax x a' W' → K a' W') →
      assign.wpIn (F.inRound l) (n - 1 - 1) P (Exit.then K (fun _ _ _ => False)) { tmps := (ps.zip (encs x)).foldl (fun t (p, v) => t.setIfInBounds p v) a.tmps, defers := [] } W)
    (hbody : ∀ (l p r : Nat) (pre : List α) (x : α) (a' : Act) (W : World), I p r pre W → Ax x a' W → Nx pre x → body.wpIn (F.inRound l) (n - 1 - 1) P (prPost w.heap.size p r I Ix (pre ++ [x]) W) a' W)
    (hdone : ∀ (D p r : Nat) (xs : List α) (W : World), w.heap.size ≤ D → S xs → I p r xs W → W.heap[D]? = some (.deferred (some [])) → Q .normal { a with defers := { target := .collected D, args := #[] } :: a.defers } W)
    (hstop : ∀ (D : Nat) (c : Code) (pre : List α) (W : World), w.heap.size ≤ D → Sp pre → Ix c pre W → W.heap[D]? = some (.deferred (some [])) → c.wpIn F n P Q { a with defers := { target := .collected D, args := #[] } :: a.defers } W) :
    (Code.rangeFunc g ps assign body).wpIn F n P Q a w := by
  refine wpIn_rangeFunc ?_
  intro fn hfn
  rw [hro]
  obtain ⟨rec, hrec⟩ : ∃ rec : LoopState → Option Code → Loop, rec = fun st pe => { state := st, pending := pe, fn, tmps := a.tmps, params := ps, assign, body, defers := w.heap.size } := ⟨_, rfl⟩
  obtain ⟨W1, hW1⟩ : ∃ W1, (w.alloc (.deferred (some []))).alloc (.loop (rec .ready none)) = W1 := ⟨_, rfl⟩
  have hL1 : W1.heap[w.heap.size + 1]? = some (.loop (rec .ready none)) := by
    rw [← hW1]; have := World.alloc_heap_new (w.alloc (.deferred (some []))) (.loop (rec .ready none)); rwa [World.size_alloc] at this
  have hK1 : W1.heap[w.heap.size]? = some (.deferred (some [])) := by
    rw [← hW1]; exact (Below.heap_alloc _ _ _ (by simp)).trans (World.alloc_heap_new w _)
  have hbw1 : Below w.heap.size w W1 := by
    rw [← hW1]; exact ((Below.refl _ w).alloc (Nat.le_refl _) _).alloc (by simp) _
  have hb1 : Below w0.heap.size w0 W1 := hb0.trans (hbw1.mono hb0.size)
  have hs1 : W1.heap.size = w.heap.size + 2 := by rw [← hW1]; simp
  refine ⟨w.heap.size + 1, [{ target := .collected w.heap.size, args := #[] }], W1, { target := .fn (.func gf) lb, args := #[.func (.yield (w.heap.size + 1)) #[] #[]] }, W1, gf,
    #[.func (.yield (w.heap.size + 1)) #[] #[]] ++ lb, W1, ?_, ?_, ?_, ?_, fun _ => h1, ?_⟩
  · rw [← hW1, hrec]; exact run_enterLoop_outer _ _ _ _ _
  · simp only [resolve, hg]
    simp [go_sem]
  · intro f' hf'; simp [Target.leads] at hf'; subst hf'; exact hFg
  · simp [invoke, go_sem, eg]
  · refine (hseq (w.heap.size + 1)
      (fun p r pre W => I p r pre W ∧ W.heap[w.heap.size + 1]? = some (.loop (rec .ready none)) ∧ W.heap[w.heap.size]? = some (.deferred (some [])) ∧ w.heap.size + 2 ≤ p ∧ w.heap.size + 2 ≤ r)
      (fun pre W => ∃ c, Ix c pre W ∧ W.heap[w.heap.size + 1]? = some (.loop (rec .done (some c))) ∧ W.heap[w.heap.size]? = some (.deferred (some [])))
      W1 hb1
      (fun p r pre A B hs ho => ⟨hIo p r pre A B hs.1 ho, (ho.block _ (Array.getElem?_eq_some_iff.1 hs.2.1).1 (by have := hs.2.2.2; omega) (by have := hs.2.2.2; omega)).trans hs.2.1,
        (ho.block _ (Array.getElem?_eq_some_iff.1 hs.2.2.1).1 (by have := hs.2.2.2; omega) (by have := hs.2.2.2; omega)).trans hs.2.2.1, hs.2.2.2⟩)
      (fun p r A hA hp hr hpl hrl => ⟨h0 p r A (hbw1.trans (hA.mono (by omega))) (by omega) (by omega) hpl hrl, (hA.block _ (by omega)).trans hL1, (hA.block _ (by omega)).trans hK1, by omega, by omega⟩)
      ?_).mono ?_
    · rintro p r pre x W ⟨hi, hl, hk, hp2, hr2⟩ hlen
      have hlt : w.heap.size + 1 < W.heap.size := (Array.getElem?_eq_some_iff.1 hl).1
      have hy := run_yield (P := P) (args := encs x) hl (by rw [hrec]; exact hps x)
      rw [hrec] at hy
      refine ⟨fn, _, assign, body, hy, roundIn_of_wpIn hfn (hassign _ p r pre x W _ hi ?_)⟩
      clear hy
      intro a' Wa hkfa hkpa hia hax
      replace hl := hkfa.same _ _ (by omega) hl rfl
      replace hk := hkfa.same _ _ (Nat.le_refl _) hk rfl
      replace hlt : w.heap.size + 1 < Wa.heap.size := (Array.getElem?_eq_some_iff.1 hl).1
      replace hi := hia
      clear hia
      revert hkpa hkfa
      generalize W = Wb
      intro hkfa hkpa
      obtain ⟨W, rfl⟩ : ∃ W, W = Wa := ⟨_, rfl⟩
      refine ⟨_, run_beginRound hl (by rw [hrec]), ?_⟩
      have hl2 : (W.putObj (w.heap.size + 1) (.loop { rec .ready none with state := .busy })).heap[w.heap.size + 1]? = some (.loop { rec .ready none with state := .busy }) := World.putObj_heap_same hlt
      have hk2 : (W.putObj (w.heap.size + 1) (.loop { rec .ready none with state := .busy })).heap[w.heap.size]? = some (.deferred (some [])) := (World.putObj_heap_other (by omega)).trans hk
      have hw2 : KpR p r W (W.putObj (w.heap.size + 1) (.loop { rec .ready none with state := .busy })) := KpR.putObj _ _ (by omega) (by omega)
      refine wpIn_mono (hbody _ p r pre x a' _ ((hI p r).putObj _ hi (by omega) hl rfl) ((hAx x a').putObj (s := ()) _ hax (by omega) hl rfl) hlen) ?_
      have fin : ∀ (jump : Option Code) (W3 : World), KeepsFrom w.heap.size (W.putObj (w.heap.size + 1) (.loop { rec .ready none with state := .busy })) W3 →
          (Instr.endRound (w.heap.size + 1) jump).run P W3 = .ok (.bool jump.isNone) (W3.putObj (w.heap.size + 1) (.loop (rec (if jump.isNone then .ready else .done) jump))) ∧
          W3.heap[w.heap.size + 1]? = some (.loop { rec .ready none with state := .busy }) ∧
          (W3.putObj (w.heap.size + 1) (.loop (rec (if jump.isNone then .ready else .done) jump))).heap[w.heap.size + 1]? = some (.loop (rec (if jump.isNone then .ready else .done) jump)) ∧
          (W3.putObj (w.heap.size + 1) (.loop (rec (if jump.isNone then .ready else .done) jump))).heap[w.heap.size]? = some (.deferred (some [])) := fun jump W3 hk3 => by
        have hl3 := hk3.same _ _ (by omega) hl2 rfl
        have := run_endRound (P := P) jump hl3
        rw [hrec] at this ⊢
        exact ⟨this, by rw [hrec] at hl3; exact hl3, World.putObj_heap_same (Array.getElem?_eq_some_iff.1 hl3).1, (World.putObj_heap_other (by omega)).trans (hk3.same _ _ (Nat.le_refl _) hk2 rfl)⟩
      rintro e a3 W3 hp
      cases e with
      | normal =>
        obtain ⟨hk3, hkp3, hi3⟩ := hp
        obtain ⟨hr, hl3, hl4, hk4⟩ := fin none W3 hk3
        exact ⟨_, _, hr, .inl ⟨rfl, ⟨(hI p r).putObj _ hi3 (by omega) hl3 rfl, hl4, hk4, hp2, hr2⟩, hkpa.trans ((hw2.trans hkp3).trans (KpR.putObj _ _ (by omega) (by omega)))⟩⟩
      | ret =>
        obtain ⟨hk3, hi3⟩ := hp
        obtain ⟨hr, hl3, hl4, hk4⟩ := fin (some .ret) W3 hk3
        exact ⟨_, _, hr, .inr ⟨rfl, .ret, (hIx _).putObj _ hi3 (by omega) hl3 rfl, hl4, hk4⟩⟩
      | exit id =>
        obtain ⟨hk3, hi3⟩ := hp
        obtain ⟨hr, hl3, hl4, hk4⟩ := fin (some (.exit id)) W3 hk3
        exact ⟨_, _, hr, .inr ⟨rfl, .exit id, (hIx _).putObj _ hi3 (by omega) hl3 rfl, hl4, hk4⟩⟩
      | goto t =>
        obtain ⟨hk3, hi3⟩ := hp
        obtain ⟨hr, hl3, hl4, hk4⟩ := fin (some (.goto t)) W3 hk3
        exact ⟨_, _, hr, .inr ⟨rfl, .goto t, (hIx _).putObj _ hi3 (by omega) hl3 rfl, hl4, hk4⟩⟩
      | panic ch => exact hp.elim
      | outgrown => exact hp.elim
    · rintro e W2 ⟨⟨v, rfl⟩, (⟨xs, p, r, hS, hi, hl, hk, _, _⟩ | ⟨pre, hSp, c, hi, hl, hk⟩)⟩
      · exact ⟨none, _, by have := run_endLoop (P := P) hl (by rw [hrec]; simp); rw [hrec] at this; exact this, hdone _ p r xs _ (Nat.le_refl _) hS ((hI p r).putObj _ hi (by omega) hl rfl) ((World.putObj_heap_other (by omega)).trans hk)⟩
      · exact ⟨some c, _, by have := run_endLoop (P := P) hl (by rw [hrec]; simp); rw [hrec] at this; exact this, hstop _ c pre _ (Nat.le_refl _) hSp ((hIx c).putObj _ hi (by omega) hl rfl) ((World.putObj_heap_other (by omega)).trans hk)⟩

end Go.Proofs.Ytnfhlfbkdhpacaa
