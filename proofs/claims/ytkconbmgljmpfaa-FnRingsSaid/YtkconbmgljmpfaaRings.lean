/- What FnRings asks of a link that was played: plain facts, the law's own helpers, its argument. -/
import Derived.Test.YtkconbmgljmpfaaQueue
import Derived.Test.YtkconbmgljmpfaaPlaySpec2
import Derived.Test.YtkconbmgljmpfaaRing8
import Derived.Test.YtkconbmgljmpfaaRing9a
import Derived.Test.YtkconbmgljmpfaaDrawOps
import Derived.Test.YtkconbmgljmpfaaBytesArg
import Derived.Test.YtkconbmgljmpfaaIntS
import Derived.Test.YtkconbmgljmpfaaHeld
namespace Go.Proofs.Ytkconbmgljmpfaa
open Go.ChangeShapes Go.WideShapes Go.ChangeAt Go.RowKit

/-- The argument of a law that draws. -/
theorem arg_code {H : Type} {enc : TypeId × Value → H} {W : World} {base : Nat} {v : Value} {d : DataW H} {p : List MemPlace} (hv : Value.okWide Try.prog W .any base 22 v)
    (h : DataW.Trod enc Try.prog W 0 (fun _ => true) true 22 v d p) : ∃ a n c, v = .slice a n c ∧ (n ≤ 1048576 → Bytes W W.heap.size a n) := by
  obtain ⟨a, n, c, rfl⟩ := okWide_slice Try.underlying22 hv
  exact ⟨a, n, c, rfl, bytes_of h⟩
theorem big_any (a : Option Addr) (len cap : Nat) (w : World) : Calls Try.prog 10 #[.slice a len cap] w fun e w' => e = .returned (.bool (decide ((1048576 : Int) < (len : Int)))) ∧ w = w' := by
  go_enter Try.func10, Try.ntmps10
  go_wp2
  go_ret
  exact ⟨rfl, rfl⟩
/-- What stands at the end. -/
theorem rings_end {n : Nat} {s : Pl} (h : PlIn n s) (n1 : 1 ≤ n) (n2 : n ≤ 20) :
    listL s.xs s.p s.k = rList s.xs s.p s.k ∧ growOk s.xs s.p s.k 20 = true ∧ growH s.xs s.p s.k 20 = 0 ∧ lOk s.xs s.p s.k ((n : Int) - (s.k : Int)) s.k = true ∧ listL (growL s.xs s.p s.k 20) 0 s.k = rList s.xs s.p s.k ∧ (growL s.xs s.p s.k 20).length = 20 := by
  obtain ⟨xs, p, k⟩ := s
  obtain ⟨hl, hp, hk, ho⟩ := h
  simp only at hl hp hk ho ⊢
  have hg : growOk xs p k ((20 : Nat) : Int) = true := by
    unfold growOk
    rw [ho, inB_yes (by omega) (by omega), Bool.and_self, Bool.true_and, decide_eq_true_eq]
    omega
  have hg1 := (grow_at hg).1
  have hg2 := (grow_at hg).2
  have hlen := rList_len xs p k
  have hgr := gRow_full (rList xs p k) 20
  rw [hlen] at hgr
  have hok := gRow_ok (L := rList xs p k) (n := 20) (i := k) (by omega) (by omega) (by omega) (by omega)
  have hgl := gRow_len (L := rList xs p k) (n := 20) (i := k) (by omega) (by omega)
  refine ⟨list_at ho, hg, hg2, ?_, ?_, ?_⟩
  · unfold lOk
    rw [ho, Bool.true_and, Bool.and_eq_true, Bool.and_eq_true, cOk_iff, decide_eq_true_eq, decide_eq_true_eq]
    omega
  · rw [show growL xs p k 20 = gRow (rList xs p k) 20 k by rw [hgr]; exact hg1]
    rw [show listL (gRow (rList xs p k) 20 k) 0 k = rList (gRow (rList xs p k) 20 k) 0 k from list_at (p := 0) hok]
    apply List.ext_getElem
    · simp [rList]
    · intro i h1 h2
      have hi : i < k := by simpa [rList] using h1
      have e1 : (rList (gRow (rList xs p k) 20 k) 0 k)[i] = el (gRow (rList xs p k) 20 k) i := by
        simp only [rList, List.getElem_map, List.getElem_range]
        rw [← rList, hgl, Nat.zero_add, Nat.mod_eq_of_lt (by omega)]
      rw [e1, hgr]
      have hi2 : i < (rList xs p k).length := by omega
      simp [el, List.getD, List.getElem?_append, hi2]
  · rw [show growL xs p k 20 = gRow (rList xs p k) 20 k by rw [hgr]; exact hg1, hgl]
/-- One op, as a queue sees it. -/
theorem rings_step {n : Nat} {s : Pl} (h : PlIn n s) (n1 : 1 ≤ n) (op : Int) :
    (0 ≤ op → s.k < n → plTold s op = 1 ∧ rList (plStep s op).xs (plStep s op).p (plStep s op).k = rList s.xs s.p s.k ++ [op]) ∧
    (0 ≤ op → ¬ s.k < n → plTold s op = 0 ∧ plStep s op = s) ∧
    (¬ 0 ≤ op → s.k = 0 → plTold s op = -1 ∧ plStep s op = s) ∧
    (¬ 0 ≤ op → 0 < s.k → rList s.xs s.p s.k = plTold s op :: rList (plStep s op).xs (plStep s op).p (plStep s op).k) := by
  obtain ⟨xs, p, k⟩ := s
  obtain ⟨hl, hp, hk, ho⟩ := h
  simp only at hl hp hk ho ⊢
  subst hl
  refine ⟨fun h0 h1 => ?_, fun h0 h1 => ?_, fun h0 h1 => ?_, fun h0 h1 => ?_⟩
  · simp only [plTold, plStep, if_pos h0, if_pos h1]
    exact ⟨trivial, rList_push h1 op⟩
  · simp [plTold, plStep, h0, h1]
  · simp [plTold, plStep, h0, h1]
  · simp only [plTold, plStep, if_neg h0, if_pos h1]
    exact rList_pop h1 hk hp
set_option maxHeartbeats 400000 in
theorem same_n (a b : Option Addr) (n m ca cb : Nat) (xs : List Int) (ha hb : Nat) (w : World) (h1 : Nums .i64 w ha a ca xs) (h2 : Nums .i64 w hb b cb xs) (hn : n = xs.length) (hm : m = xs.length) :
    Calls Try.prog 14 #[.slice a n ca, .slice b m cb] w fun e w' => e = .returned (.bool true) ∧ ∃ n, w' = w.drewN n := by
  subst hn
  subst hm
  have hc1 := h1.cap
  have hc2 := h1.big
  have hc3 := h2.cap
  by_cases h0 : xs = []
  · subst h0
    clear h1 h2
    go_enter Try.func14, Try.ntmps14
    go_wp2
    go_loopw [5] (fun i wr => i = .int .i64 0 ∧ wr = w) (fun i _ => 0 - (intOf i).toNat)
    case atStart => exact ⟨rfl, rfl⟩
    case round =>
      obtain ⟨rfl, rfl⟩ := hrel
      go_wp2
      go_ret
      exact ⟨rfl, 0, rfl⟩
  · rcases h1.lies with hl | ⟨b1, o1, rfl, hb1, hk1⟩
    · exact absurd hl h0
    rcases h2.lies with hl | ⟨b2, o2, rfl, hb2, hk2⟩
    · exact absurd hl h0
    have H1 := Lib.hid hk1
    have H2 := Lib.hid hk2
    clear hk1 hk2 h1 h2 h0
    go_enter Try.func14, Try.ntmps14
    go_wp2
    go_loopw [5] (fun i wr => ∃ k n : Nat, k ≤ xs.length ∧ i = .int .i64 k ∧ wr = w.drewN n) (fun i _ => xs.length - (intOf i).toNat)
    case atStart => exact ⟨0, 0, Nat.zero_le _, rfl, rfl⟩
    case round =>
      obtain ⟨k, n, hk, rfl, rfl⟩ := hrel
      by_cases hlt : k < xs.length
      · have hk1 := H1.out k hlt
        have hk2 := H2.out k hlt
        have hlt' : (k : Int) < (xs.length : Int) := by omega
        go_wp2
        go_quiet (fail)
        go_wp2
        go_roundw
        case rel => exact ⟨k + 1, _, by omega, by go_num, rfl⟩
        case measure => simp [intOf]; omega
      · obtain rfl : k = xs.length := by omega
        go_wp2
        go_ret
        exact ⟨rfl, n, rfl⟩
end Go.Proofs.Ytkconbmgljmpfaa
