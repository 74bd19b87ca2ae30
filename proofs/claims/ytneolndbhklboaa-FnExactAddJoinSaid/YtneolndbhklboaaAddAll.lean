/- Chapter 12: AddJoin on both sides, at every argument. (made by tools/mkmarkj.py) -/
import Derived.Test.YtneolndbhklboaaAddJ
import Derived.Test.YtneolndbhklboaaAddJS
namespace Go.Proofs.Ytneolndbhklboaa
open Go.RowKit
theorem iAdd_any (a b : Option Addr) (c d : Nat) (L R : List Fm) (mk by_ : Int) (lf : Bool) (k y t v : Int) (hi : Nat) (w : World) (h1 : Fms w hi a c L) (h2 : Fms w hi b d R) (hB : hi ≤ w.heap.size) (hl1 : L.length ≤ 1048576) (hl2 : R.length ≤ 1048576) :
    Calls Try.prog 54 #[.agg #[.slice a L.length c, .slice b R.length d, .int .i64 mk], .int .i64 by_, .bool lf, (.agg #[.int .i64 k, .int .i64 y, .int .i64 t, .int .i64 v])] w (AddPost (addJ ⟨L, R, mk⟩ by_ lf ⟨k, y, t, v⟩).1.l (addJ ⟨L, R, mk⟩ by_ lf ⟨k, y, t, v⟩).1.r (addJ ⟨L, R, mk⟩ by_ lf ⟨k, y, t, v⟩).1.m (addJ ⟨L, R, mk⟩ by_ lf ⟨k, y, t, v⟩).2.1 (addJ ⟨L, R, mk⟩ by_ lf ⟨k, y, t, v⟩).2.2 w) := by
  cases hj : joinOkJ L R mk with
  | false => rw [addJ_bad1 (J := ⟨L, R, mk⟩) hj]; exact iAdd_bad1 a b c d L R mk by_ lf k y t v hi w h1 h2 hB hl1 hl2 hj
  | true =>
    cases he : evJ ⟨k, y, t, v⟩ with
    | false => rw [addJ_bad2 he]; exact iAdd_bad2 a b c d L R mk by_ lf k y t v hi w h1 h2 hB hl1 hl2 hj he
    | true =>
      cases ht : inB by_ 0 1000000 with
      | false => rw [addJ_bad3 ht]; exact iAdd_bad3 a b c d L R mk by_ lf k y t v hi w h1 h2 hB hl1 hl2 hj he ht
      | true =>
        by_cases hx : t ≤ mk
        · rw [addJ_late (J := ⟨L, R, mk⟩) hj he ht hx]; exact iAdd_late a b c d L R mk by_ lf k y t v hi w h1 h2 hB hl1 hl2 hj he ht hx
        · cases lf with
          | true =>
            by_cases hf : L.length = 40
            · rw [addJ_full (J := ⟨L, R, mk⟩) hj he ht hx (by simpa using hf)]; exact iAdd_leftF a b c d L R mk by_ k y t v hi w h1 h2 hB hl1 hl2 hj he ht hx hf
            · rw [addJ_left (J := ⟨L, R, mk⟩) hj he ht hx hf]; exact iAdd_leftD a b c d L R mk by_ k y t v hi w h1 h2 hB hl1 hl2 hj he ht hx hf
          | false =>
            by_cases hf : R.length = 40
            · rw [addJ_full (J := ⟨L, R, mk⟩) hj he ht hx (by simpa using hf)]; exact iAdd_rightF a b c d L R mk by_ k y t v hi w h1 h2 hB hl1 hl2 hj he ht hx hf
            · rw [addJ_right (J := ⟨L, R, mk⟩) hj he ht hx hf]; exact iAdd_rightD a b c d L R mk by_ k y t v hi w h1 h2 hB hl1 hl2 hj he ht hx hf
theorem sAdd_any (a b : Option Addr) (c d : Nat) (L R : List Fm) (mk by_ : Int) (lf : Bool) (k y t v : Int) (hi : Nat) (w : World) (h1 : Fms w hi a c L) (h2 : Fms w hi b d R) (hB : hi ≤ w.heap.size) (hl1 : L.length ≤ 1048576) (hl2 : R.length ≤ 1048576) :
    Calls Try.prog 52 #[.agg #[.slice a L.length c, .slice b R.length d, .int .i64 mk], .int .i64 by_, .bool lf, (.agg #[.int .i64 k, .int .i64 y, .int .i64 t, .int .i64 v])] w (AddPost (addJ ⟨L, R, mk⟩ by_ lf ⟨k, y, t, v⟩).1.l (addJ ⟨L, R, mk⟩ by_ lf ⟨k, y, t, v⟩).1.r (addJ ⟨L, R, mk⟩ by_ lf ⟨k, y, t, v⟩).1.m (addJ ⟨L, R, mk⟩ by_ lf ⟨k, y, t, v⟩).2.1 (addJ ⟨L, R, mk⟩ by_ lf ⟨k, y, t, v⟩).2.2 w) := by
  cases hj : joinOkJ L R mk with
  | false => rw [addJ_bad1 (J := ⟨L, R, mk⟩) hj]; exact sAdd_bad1 a b c d L R mk by_ lf k y t v hi w h1 h2 hB hl1 hl2 hj
  | true =>
    cases he : evJ ⟨k, y, t, v⟩ with
    | false => rw [addJ_bad2 he]; exact sAdd_bad2 a b c d L R mk by_ lf k y t v hi w h1 h2 hB hl1 hl2 hj he
    | true =>
      cases ht : inB by_ 0 1000000 with
      | false => rw [addJ_bad3 ht]; exact sAdd_bad3 a b c d L R mk by_ lf k y t v hi w h1 h2 hB hl1 hl2 hj he ht
      | true =>
        by_cases hx : t ≤ mk
        · rw [addJ_late (J := ⟨L, R, mk⟩) hj he ht hx]; exact sAdd_late a b c d L R mk by_ lf k y t v hi w h1 h2 hB hl1 hl2 hj he ht hx
        · cases lf with
          | true =>
            by_cases hf : L.length = 40
            · rw [addJ_full (J := ⟨L, R, mk⟩) hj he ht hx (by simpa using hf)]; exact sAdd_leftF a b c d L R mk by_ k y t v hi w h1 h2 hB hl1 hl2 hj he ht hx hf
            · rw [addJ_left (J := ⟨L, R, mk⟩) hj he ht hx hf]; exact sAdd_leftD a b c d L R mk by_ k y t v hi w h1 h2 hB hl1 hl2 hj he ht hx hf
          | false =>
            by_cases hf : R.length = 40
            · rw [addJ_full (J := ⟨L, R, mk⟩) hj he ht hx (by simpa using hf)]; exact sAdd_rightF a b c d L R mk by_ k y t v hi w h1 h2 hB hl1 hl2 hj he ht hx hf
            · rw [addJ_right (J := ⟨L, R, mk⟩) hj he ht hx hf]; exact sAdd_rightD a b c d L R mk by_ k y t v hi w h1 h2 hB hl1 hl2 hj he ht hx hf
end Go.Proofs.Ytneolndbhklboaa
