/- The contract of spec.AddEvent, whole. -/
import Derived.Test.YtnnpppdgkbmieaaAddSpec4
import Derived.Test.YtnnpppdgkbmieaaAddSpec5
namespace Go.Proofs.Ytnnpppdgkbmieaa
open Go.RowKit
theorem specAdd_any (a : Option Addr) (n c : Nat) (mk lt ov sz rm k y t v : Int) (l : List Ag) (hi : Nat) (w : World) (hr : Ags w hi a c l) (hn : n = l.length) (hB : hi ≤ w.heap.size) (hlen : l.length ≤ 1048576) :
    Calls Try.prog 10 #[.agg #[.slice a n c, .int .i64 mk, .int .i64 lt, .int .i64 ov], .int .i64 sz, .int .i64 rm, (.agg #[.int .i64 k, .int .i64 y, .int .i64 t, .int .i64 v])] w (FreshShardI (addR l mk lt ov sz rm k y t v) mk w) := by
  cases hG : addGood l mk lt ov sz rm k y t v with
  | false => exact specAdd_bad a n c mk lt ov sz rm k y t v l hi w hr hn hB hlen hG
  | true =>
    by_cases hL : windowEnd (windowOf t sz) sz ≤ mk
    · exact specAdd_late a n c mk lt ov sz rm k y t v l hi w hr hn hB hlen hG hL
    · cases hF : foundB l (oneA (windowOf t sz) y v) with
      | true => exact specAdd_found a n c mk lt ov sz rm k y t v l hi w hr hn hB hlen hG hL hF
      | false =>
        by_cases hM : rm ≤ (l.length : Int)
        · exact specAdd_full a n c mk lt ov sz rm k y t v l hi w hr hn hB hlen hG hL hF hM
        · exact specAdd_put a n c mk lt ov sz rm k y t v l hi w hr hn hB hlen hG hL hF hM
theorem addR_len {l : List Ag} {mk lt ov sz rm k y t v : Int} (h : l.length ≤ 1048576) : (addR l mk lt ov sz rm k y t v).l.length ≤ 1048576 := by
  cases hG : addGood l mk lt ov sz rm k y t v with
  | false =>
    have e : addR l mk lt ov sz rm k y t v = ⟨l, lt, ov, 3⟩ := by unfold addR; rw [hG]; simp
    rw [e]; exact h
  | true =>
    have h40 : l.length ≤ 40 := (sok_bd (addGood_inv hG).1).1
    by_cases hL : windowEnd (windowOf t sz) sz ≤ mk
    · rw [addR_late hG hL]; exact h
    · cases hF : foundB l (oneA (windowOf t sz) y v) with
      | true => rw [addR_found hG hL hF]; show (l.set _ _).length ≤ _; rw [List.length_set]; exact h
      | false =>
        by_cases hM : rm ≤ (l.length : Int)
        · rw [addR_full hG hL hF hM]; exact h
        · rw [addR_put hG hL hF hM]; show (putIn l _ _).length ≤ _; rw [putIn_len (placeN_le _ _)]; omega
end Go.Proofs.Ytnnpppdgkbmieaa
