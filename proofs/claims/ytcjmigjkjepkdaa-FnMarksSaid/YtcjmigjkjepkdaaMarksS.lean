/- What FnMarks asks of a source that was played and of a mark of all: plain facts, the law's own helpers, its argument. -/
import Derived.Test.YtcjmigjkjepkdaaAlt
import Derived.Test.YtcjmigjkjepkdaaDrawPlay
import Derived.Test.YtcjmigjkjepkdaaDrawAllM
import Derived.Test.YtcjmigjkjepkdaaPlaySrcS
import Derived.Test.YtcjmigjkjepkdaaAllMI
import Derived.Test.YtcjmigjkjepkdaaSrcsS2
namespace Go.Proofs.Ytcjmigjkjepkdaa
open Go.ChangeShapes Go.WideShapes Go.ChangeAt Go.RowKit

set_option maxRecDepth 100000 in
/-- The argument of a law that draws. -/
theorem arg_code {H : Type} {enc : TypeId × Value → H} {W : World} {base : Nat} {v : Value} {d : DataW H} {p : List MemPlace} (hv : Value.okWide Try.prog W .any base 22 v)
    (h : DataW.Trod enc Try.prog W 0 (fun _ => true) true 22 v d p) : ∃ a n c, v = .slice a n c ∧ (n ≤ 1048576 → Bytes W W.heap.size a n) := by
  obtain ⟨a, n, c, rfl⟩ := okWide_slice Try.underlying22 hv
  exact ⟨a, n, c, rfl, bytes_of h⟩
theorem big_any (a : Option Addr) (len cap : Nat) (w : World) : Calls Try.prog 5 #[.slice a len cap] w fun e w' => e = .returned (.bool (decide ((1048576 : Int) < (len : Int)))) ∧ w = w' := by
  go_enter Try.func5, Try.ntmps5
  go_wp2
  go_ret
  exact ⟨rfl, rfl⟩
set_option maxHeartbeats 400000 in
theorem same_n (a b : Option Addr) (n m ca cb : Nat) (xs : List Int) (ha hb : Nat) (w : World) (h1 : Nums .i64 w ha a ca xs) (h2 : Nums .i64 w hb b cb xs) (hn : n = xs.length) (hm : m = xs.length) :
    Calls Try.prog 9 #[.slice a n ca, .slice b m cb] w fun e w' => e = .returned (.bool true) ∧ ∃ n, w' = w.drewN n := by
  subst hn
  subst hm
  have hc1 := h1.cap
  have hc2 := h1.big
  have hc3 := h2.cap
  by_cases h0 : xs = []
  · subst h0
    clear h1 h2
    go_enter Try.func9, Try.ntmps9
    go_wp2
    go_loopw [5] (fun i wr => i = .int .i64 0 ∧ wr = w) (fun i _ => 0 - (intOf i).toNat)
    case atStart => exact ⟨rfl, rfl⟩
    case round =>
      obtain ⟨rfl, rfl⟩ := hrel
      go_wp2
      go_ret
      exact ⟨rfl, 0, rfl⟩
  · rcases h1.lies with hl | ⟨b1, o1, rfl, hb1, hk1⟩
    · exact absurd hl h0
    rcases h2.lies with hl | ⟨b2, o2, rfl, hb2, hk2⟩
    · exact absurd hl h0
    have H1 := Lib.hid hk1
    have H2 := Lib.hid hk2
    clear hk1 hk2 h1 h2 h0
    go_enter Try.func9, Try.ntmps9
    go_wp2
    go_loopw [5] (fun i wr => ∃ k n : Nat, k ≤ xs.length ∧ i = .int .i64 k ∧ wr = w.drewN n) (fun i _ => xs.length - (intOf i).toNat)
    case atStart => exact ⟨0, 0, Nat.zero_le _, rfl, rfl⟩
    case round =>
      obtain ⟨k, n, hk, rfl, rfl⟩ := hrel
      by_cases hlt : k < xs.length
      · have hk1 := H1.out k hlt
        have hk2 := H2.out k hlt
        have hlt' : (k : Int) < (xs.length : Int) := by omega
        go_wp2
        go_quiet (fail)
        go_wp2
        go_roundw
        case rel => exact ⟨k + 1, _, by omega, by go_num, rfl⟩
        case measure => simp [intOf]; omega
      · obtain rfl : k = xs.length := by omega
        go_wp2
        go_ret
        exact ⟨rfl, n, rfl⟩
theorem same_b (a b : Option Addr) (n m ca cb : Nat) (xs : List Int) (ha hb : Nat) (w : World) (h1 : Nums .i64 w ha a ca xs) (h2 : Nums .i64 w hb b cb xs) (hn : n = xs.length) (hm : m = xs.length) :
    Calls Try.prog 9 #[.slice a n ca, .slice b m cb] w fun e w' => e = .returned (.bool true) ∧ Below w.heap.size w w' :=
  (same_n a b n m ca cb xs ha hb w h1 h2 hn hm).mono fun e w' ⟨he, k, hw⟩ => ⟨he, by rw [hw]; exact below_drewN (Below.refl _ _) k⟩

theorem psT_m (l a : Int) (e : List Int) (S : Src) : S.m ≤ (psT l a e S).m := by
  unfold psT
  split
  · split
    · unfold evT; split
      · simp only; omega
      · exact Int.le_refl _
    · split
      · unfold mkT; split
        · simp only; omega
        · exact Int.le_refl _
      · split
        · unfold ttT; split <;> exact Int.le_refl _
        · split
          · unfold clT; split <;> exact Int.le_refl _
          · exact Int.le_refl _
  · exact Int.le_refl _
theorem psL_at (l a : Int) (es : List (List Int)) (n k : Nat) (hk : k < n) : el (psL l a es n) k = psX l a (es.getD k []) (psS l a es k) := by
  induction n with
  | zero => omega
  | succ n ih =>
    rw [psL]
    by_cases e : k = n
    · subst e
      simp [el, List.getD, psL_len]
    · have h := ih (by omega)
      rw [← h]
      simp [el, List.getD, List.getElem?_append_left (show k < (psL l a es n).length by rw [psL_len]; omega)]
/-- What was told never falls. -/
theorem told_rise (l a : Int) (es : List (List Int)) : ∃ M : Nat → Int, -1 ≤ M 0 ∧ (∀ k, M k ≤ M (k + 1)) ∧ ∀ k, k < (psAll l a es).length → el (psAll l a es) k = -2 ∨ el (psAll l a es) k = M (k + 1) := by
  refine ⟨fun k => (psS l a es k).m, by show -1 ≤ (newT 0).m; rw [newT0]; decide, fun k => psT_m _ _ _ _, fun k hk => ?_⟩
  unfold psAll at hk ⊢
  split at hk
  · rename_i h
    rw [if_pos h]
    rw [psL_len] at hk
    rw [psL_at l a es _ k hk]
    unfold psX
    split
    · exact .inr rfl
    · exact .inl rfl
  · simp at hk
/-- The mark of all is above no active one's, but for the last. -/
theorem allM_fits {l : List Src} {m : Int} (h : ¬ allM l m = -2) : m ≤ allM l m ∧ ∀ i, i < l.length → actB (sl l i) = true → (sl l i).m < allM l m → allM l m ≤ m := by
  unfold allM at h ⊢
  split at h
  · rename_i hc
    rw [if_pos hc]
    split
    · exact ⟨Int.le_refl _, fun i hi ha hlt => Int.le_refl _⟩
    · rename_i hd
      refine ⟨by omega, fun i hi ha hlt => ?_⟩
      have := lsM_le hi ha
      omega
  · exact absurd rfl h
end Go.Proofs.Ytcjmigjkjepkdaa
