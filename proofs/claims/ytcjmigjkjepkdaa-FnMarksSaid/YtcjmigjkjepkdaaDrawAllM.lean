/- The draw of sources and of a last mark: whatever they are, they are some. -/
import Derived.Test.YtcjmigjkjepkdaaDrawSrc
import Derived.Test.YtcjmigjkjepkdaaSrcsS2
import Derived.Deep.LoopGhost
namespace Go.Proofs.Ytcjmigjkjepkdaa
open Go.RowKit

def flatS (l : List Src) : List Value := l.flatMap srV
theorem flatS_snoc (l : List Src) (S : Src) : flatS (l ++ [S]) = flatS l ++ srV S := by simp [flatS]
theorem flatS_at (l : List Src) (i : Nat) (hi : i < l.length) (q : Nat) (hq : q < 5) : (flatS l)[i * 5 + q]? = (srV (sl l i))[q]? := by
  induction l generalizing i with
  | nil => simp at hi
  | cons f l ih =>
    have e : flatS (f :: l) = srV f ++ flatS l := rfl
    rw [e]
    cases i with
    | zero => rw [Nat.zero_mul, Nat.zero_add, List.getElem?_append_left (by simp [srV]; omega)]; simp [sl]
    | succ i =>
      have h := ih i (by simpa using hi)
      have e2 : sl (f :: l) (i + 1) = sl l i := by simp [sl]
      rw [e2, List.getElem?_append_right (by simp [srV]; omega), ← h]
      congr 1
      simp [srV]; omega
theorem own_srcs {w : World} {lo n c : Nat} {T : TypeId} {a : Option Addr} {l : List Src} (h : w.ownsRow lo T 5 (.slice a n c) n (flatS l)) (hn : n = l.length) : Srcs w w.heap.size a c l := by
  subst hn
  rcases h.2 with ⟨he, h0⟩ | ⟨g, cap, cur, he, _, hh, hc, hm, _⟩
  · injection he with ha _ hc
    subst ha hc
    have hl : l = [] := List.length_eq_zero_iff.1 h0
    subst hl
    exact Srcs.none_ _ _
  · injection he with ha _ hc2
    subst ha hc2
    unfold maxLen at hm
    refine ⟨hc, hm, .inr ⟨g, 0, rfl, (Array.getElem?_eq_some_iff.1 hh).1, fun i hi => ?_⟩⟩
    have k := fun q (hq : q < 5) => (h.cellAt (i * 5 + q) (by omega)).trans (flatS_at l i hi q hq)
    simp only [Nat.zero_add]
    exact ⟨by simpa [srV] using k 0 (by omega), by simpa [srV] using k 1 (by omega), by simpa [srV] using k 2 (by omega), by simpa [srV] using k 3 (by omega), by simpa [srV] using k 4 (by omega)⟩
theorem news5 {W : World} {S : Src} {T : TypeId} {B : Nat} (hB : W.heap.size = B) : ∀ (j : Nat) (u : Value), (srV S)[j]? = some u → (W.alloc (.cells #[.int .i64 S.x, .int .i64 S.m, .int .i64 S.s, .bool S.i, .bool S.o] T)).cell? ((⟨B, 0, none⟩ : Addr).add j) = some u := by
  subst hB
  intro j u hj
  have hadd : (⟨W.heap.size, 0, none⟩ : Addr).add j = ⟨W.heap.size, j, none⟩ := by unfold Addr.add; split <;> simp_all
  rw [hadd, (Blk.new W T #[.int .i64 S.x, .int .i64 S.m, .int .i64 S.s, .bool S.i, .bool S.o]).cell j]
  simpa [srV] using hj
theorem one5 (S : Src) : ∀ u ∈ srV S, u.oneCell' = true := by
  intro u hu
  simp [srV] at hu
  rcases hu with rfl | rfl | rfl | rfl | rfl <;> rfl
theorem info_src (h : (Try.prog.info? 28).map (fun i => (i.zero, i.size, i.bytes)) = some (some (.agg #[.int .i64 0, .int .i64 0, .int .i64 0, .bool false, .bool false]), 5, 32)) : ∃ i0, Try.prog.info? 28 = some i0 ∧ i0.zero = some (.agg #[.int .i64 0, .int .i64 0, .int .i64 0, .bool false, .bool false]) ∧ i0.size = 5 ∧ i0.bytes = 32 := by
  cases hi : Try.prog.info? 28 with
  | none => rw [hi] at h; cases h
  | some i => rw [hi] at h; simp at h; exact ⟨i, rfl, h.1, h.2.1, h.2.2⟩

/-- A draw under way: the cursor, and the sources so far. -/
structure DL (p : Nat) (a : Option Addr) (len cap : Nat) (l : List Src) (la : Option Addr) (lc : Nat) (w W : World) : Prop where
  cur : Cur W p a len cap
  own : W.ownsRow (p + 1) 28 5 (.slice la l.length lc) l.length (flatS l)
  bel : Below w.heap.size w W
  wp : w.heap.size ≤ p
section
variable {p : Nat} {a la : Option Addr} {len cap lc : Nat} {l : List Src} {w W W' : World}
theorem DL.draw (h : DL p a len cap l la lc w W) (hc : Cur W' p a len cap) (hg : W.grownBy W' (some p)) : DL p a len cap l la lc w W' :=
  ⟨hc, h.own.kept hg (by
    cases ho : (Value.slice la l.length lc).ownBlock with
    | none => exact .inl rfl
    | some g => right; intro e; injection e with e; have := (h.own.lt g ho).1; omega),
   h.bel.trans (grown_below_ hg h.wp h.bel.size), h.wp⟩
theorem DL.alloc (h : DL p a len cap l la lc w W) (o : Obj) : DL p a len cap l la lc w (W.alloc o) :=
  ⟨h.cur.quiet (grown_alloc _ _ _), h.own.alloc o, h.bel.alloc h.bel.size o, h.wp⟩
theorem DL.more {la2 : Option Addr} {lc2 : Nat} {S : Src} (h : DL p a len cap l la lc w W) (hg : W.grownBy W' (Value.slice la l.length lc).ownBlock)
    (ho : W'.ownsRow (p + 1) 28 5 (.slice la2 (l.length + 1) lc2) (l.length + 1) (flatS l ++ srV S)) : DL p a len cap (l ++ [S]) la2 lc2 w W' := by
  have hb : Below (p + 1) W W' := below_own h.own hg h.cur.lt
  exact ⟨h.cur.below_ hb, by rw [flatS_snoc, List.length_append]; exact ho, h.bel.trans (hb.mono (by have := h.wp; omega)), h.wp⟩
end
/-- What comes out. -/
def AllMDraw (w : World) (e : Ending) (w' : World) : Prop :=
  ∃ (l : List Src) (la : Option Addr) (lc : Nat) (m : Int), e = .returned (.tuple #[.slice la l.length lc, .int .i64 m]) ∧ l.length ≤ 301 ∧ Srcs w' w'.heap.size la lc l ∧ Below w.heap.size w w'
set_option maxHeartbeats 4000000 in
set_option maxRecDepth 100000 in
theorem drawAllM_any (a : Option Addr) (len cap : Nat) (w : World) (hb : Bytes w w.heap.size a len) :
    Calls Try.prog 10 #[.slice a len cap] w (AllMDraw w) := by
  obtain ⟨i0, hi0, hz0, hz1, hz2⟩ := info_src infoSrc
  have HB := Lib.hid hb
  clear hb
  go_enter Try.func10, Try.ntmps10
  go_wp2_with fail
  refine (new_any a len cap _ HB.out).mono ?_
  rintro e w1 ⟨p, hp, rfl, hc1, hg1⟩
  have D1 : Hid (DL p a len cap [] (some ⟨w1.heap.size, 0, none⟩) 0 w (w1.alloc (.cells #[] 28))) :=
    Lib.hid ⟨hc1.quiet (grown_alloc _ _ _), World.ownsRow_made (e := 28) (size := 5) (base := p + 1) w1 #[] 0 hc1.lt (by unfold maxLen; omega) (by simp), (below_grown hg1).alloc hg1.size _, hp⟩
  clear hc1 hg1
  go_wp2_with fail
  refine (below_any p a len cap 5 (by omega) (by omega) _ D1.out.cur).mono ?_
  rintro e w2 ⟨x, rfl, hx0, hx1, hc2, hg2⟩
  have D2 := Lib.hid (D1.out.draw hc2 hg2)
  clear hc2 hg2 D1
  obtain ⟨n, rfl⟩ := Int.eq_ofNat_of_zero_le hx0
  go_wp2
  go_loopg [5, 6] n (fun gk v kv wr => ∃ (l : List Src) (la : Option Addr) (lc : Nat), l.length + gk ≤ 4 ∧ v = .slice la l.length lc ∧ kv = .int .i64 gk ∧ DL p a len cap l la lc w wr)
  case atStart => exact ⟨[], _, _, by simp; omega, rfl, rfl, D2.out⟩
  case round =>
    obtain ⟨l, la, lc, hl, rfl, rfl, hd⟩ := hrel
    have D3 := Lib.hid hd
    clear hd D2
    by_cases hk : 0 < gk
    · have hk' : (0 : Int) < (gk : Int) := by omega
      go_wp2_with fail
      refine (drawSrc_any p a len cap _ D3.out.cur).mono ?_
      rintro e w3 ⟨S, rfl, hc3, hg3⟩
      have D4 := Lib.hid (D3.out.draw hc3 hg3)
      clear hc3 hg3
      have hl4 := D4.out.cur.lt
      go_wp2_with (at_builtin; refine wpList_append_own _ rfl _ _ 33 rfl (p + 1) 28 i0 (.agg #[.int .i64 0, .int .i64 0, .int .i64 0, .bool false, .bool false]) 5 32 Try.underlying33 hi0 hz0 hz1 hz2 rfl (by decide) _ _ _ rfl (D4.out.own.alloc _) ⟨_, 0, none⟩ 1 1 (srV S) rfl rfl (news5 (by simp)) (one5 _) ?c3 ?c4 ?c5 ?_)
      case c3 => unfold maxLen; omega
      case c4 => omega
      case c5 => simp; omega
      intro v' w9 hown' hg9 _
      obtain ⟨a2, c2, rfl⟩ := owns_shape hown'
      have D9 := Lib.hid ((D4.out.alloc (.cells #[.int .i64 S.x, .int .i64 S.m, .int .i64 S.s, .bool S.i, .bool S.o] 28)).more hg9 hown')
      clear hown' hg9
      go_wp2
      go_roundg (gk - 1)
      case measure => omega
      case rel => exact ⟨l ++ [S], a2, c2, by simp; omega, by simp, by congr 1; omega, D9.out⟩
    · have hg0 : gk = 0 := by omega
      subst hg0
      go_upto_if 22 with (go_at_call 20; refine (once_any p a len cap 40 (by omega) (by omega) _ D3.out.cur).mono ?_; rintro e w3 ⟨b, rfl, hc3, hg3⟩)
      have D4 := Lib.hid (D3.out.draw hc3 hg3)
      clear hc3 hg3
      have hl4 : l.length ≤ 4 := by omega
      clear D3 hl
      go_cut [5] from 7 (fun v wx => ∃ (l : List Src) (la : Option Addr) (lc : Nat), v = .slice la l.length lc ∧ l.length ≤ 301 ∧ DL p a len cap l la lc w wx)
      case first =>
        cases b with
        | false =>
          go_wp2
          go_meet
          case rel => exact ⟨l, la, lc, rfl, by omega, D4.out⟩
        | true =>
          go_wp2
          go_loopg [5] 301 (fun gk v wr => ∃ (l : List Src) (la : Option Addr) (lc : Nat), l.length + gk ≤ 305 ∧ l.length ≤ 301 ∧ 301 ≤ gk + l.length ∧ v = .slice la l.length lc ∧ DL p a len cap l la lc w wr)
          case atStart => exact ⟨l, la, lc, by omega, by omega, by omega, rfl, D4.out⟩
          case round =>
            clear D4 hl4
            obtain ⟨l, la, lc, hl1, hl2, hl3, rfl, hd⟩ := hrel
            have D5 := Lib.hid hd
            clear hd
            go_wp2_with fail
            refine (below_any p a len cap 2 (by omega) (by omega) _ D5.out.cur).mono ?_
            rintro e w5 ⟨y, rfl, hy0, hy1, hc5, hg5⟩
            have D6 := Lib.hid (D5.out.draw hc5 hg5)
            clear hc5 hg5 D5
            have hl6 := D6.out.cur.lt
            by_cases hlt : (l.length : Int) < 300 + y
            · go_wp2_with (at_builtin; refine wpList_append_own _ rfl _ _ 33 rfl (p + 1) 28 i0 (.agg #[.int .i64 0, .int .i64 0, .int .i64 0, .bool false, .bool false]) 5 32 Try.underlying33 hi0 hz0 hz1 hz2 rfl (by decide) _ _ _ rfl (D6.out.own.alloc _) ⟨_, 0, none⟩ 1 1 (srV ⟨0, 5, 0, false, true⟩) rfl rfl (news5 (by simp)) (one5 _) ?c3 ?c4 ?c5 ?_)
              case c3 => unfold maxLen; omega
              case c4 => omega
              case c5 => simp; omega
              intro v' w9 hown' hg9 _
              obtain ⟨a2, c2, rfl⟩ := owns_shape hown'
              have D9 := Lib.hid ((D6.out.alloc (.cells #[.int .i64 0, .int .i64 5, .int .i64 0, .bool false, .bool true] 28)).more (S := ⟨0, 5, 0, false, true⟩) hg9 hown')
              clear hown' hg9
              go_wp2
              go_roundg (gk - 1)
              case measure => omega
              case rel => exact ⟨l ++ [⟨0, 5, 0, false, true⟩], a2, c2, by simp; omega, by simp; omega, by simp; omega, by simp, D9.out⟩
            · go_wp2
              go_meet
              case rel => exact ⟨l, la, lc, rfl, hl2, D6.out⟩
      case rest =>
        clear D4 hl4
        obtain ⟨l, la, lc, rfl, hl, hd⟩ := hcut
        have D5 := Lib.hid hd
        clear hd
        go_wp2_with fail
        refine (below_any p a len cap 40 (by omega) (by omega) _ D5.out.cur).mono ?_
        rintro e u1 ⟨y, rfl, hy0, hy1, hc5, hg5⟩
        have D6 := Lib.hid (D5.out.draw hc5 hg5)
        clear hc5 hg5 D5
        have D7 := Lib.hid (D6.out.alloc (.cells #[.int .i64 (-1), .int .i64 0, .int .i64 y, .int .i64 1000000, .int .i64 1000001, .int .i64 (-2)] 3))
        have hl6 := D6.out.cur.lt
        have R7 := Lib.hid (row_cells (xs := [-1, 0, y, 1000000, 1000001, -2]) (Blk.new u1 3 #[.int .i64 (-1), .int .i64 0, .int .i64 y, .int .i64 1000000, .int .i64 1000001, .int .i64 (-2)]) (by simp))
        go_wp2_with fail
        refine (pick_any p a len cap u1.heap.size 6 [-1, 0, y, 1000000, 1000001, -2] (by simp) (by simp) _ D7.out.cur (by simp) (by omega) R7.out).mono ?_
        rintro e u2 ⟨k, hk, rfl, hc8, hg8⟩
        have D8 := Lib.hid (D7.out.draw hc8 hg8)
        generalize el [-1, 0, y, 1000000, 1000001, -2] k = Z
        have HP : Hid (AllMDraw w (.returned (.tuple #[.slice la l.length lc, .int .i64 Z])) u2) := Lib.hid ⟨l, la, lc, Z, rfl, hl, own_srcs D8.out.own rfl, D8.out.bel⟩
        clear hc8 hg8 hk
        go_wp2
        go_ret2
        exact HP.out
end Go.Proofs.Ytcjmigjkjepkdaa
