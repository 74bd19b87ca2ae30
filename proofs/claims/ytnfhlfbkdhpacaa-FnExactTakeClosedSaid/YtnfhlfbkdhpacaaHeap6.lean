/- container/heap.Pop at a pile: the least agg comes out, the rest is a heap. -/
import Derived.Test.YtnfhlfbkdhpacaaHeap5
namespace Go.Proofs.Ytnfhlfbkdhpacaa
open Go.RowKit

theorem own_shorter {w : World} {lo g n c : Nat} {T : TypeId} {l : List Ag} (h : w.ownsRow lo T 6 (.slice (some ⟨g, 0, none⟩) (n + 1) c) (n + 1) (flatA l)) (hl : l.length = n + 1) : w.ownsRow lo T 6 (.slice (some ⟨g, 0, none⟩) n c) n (flatA (l.take n)) := by
  have e : flatA (l.take n) = (flatA l).take (n * 6) := by
    have h2 : flatA l = flatA (l.take n) ++ flatA (l.drop n) := by rw [← flatA_append, List.take_append_drop]
    have h3 : (flatA (l.take n)).length = n * 6 := by rw [flatA_len, List.length_take, Nat.min_eq_left (by omega)]
    have h4 : (flatA (l.take n) ++ flatA (l.drop n)).take (n * 6) = flatA (l.take n) := by rw [← h3, List.take_left]
    rw [h2]
    exact h4.symm
  refine ⟨by rw [flatA_len, List.length_take, Nat.min_eq_left (by omega)], ?_⟩
  rcases h.2 with ⟨hv, _⟩ | ⟨g', cap, cur, hv, hlo, hh, h1, h2, h3, h4⟩
  · cases hv
  · injection hv with ha hn hc
    injection ha with ha
    injection ha with hb
    subst hb hc
    refine .inr ⟨g, c, cur, rfl, hlo, hh, by omega, h2, h3, ?_⟩
    rw [e, ← h4, List.take_take, Nat.min_eq_left (by omega)]
set_option maxHeartbeats 2000000 in
set_option maxRecDepth 100000 in
theorem heapPop_x (pb g c m lo : Nat) (q r : List Ag) (x : Ag) (w : World) (hp : Blk w pb 69 #[.slice (some ⟨g, 0, none⟩) q.length c]) (ho : w.ownsRow lo 37 6 (.slice (some ⟨g, 0, none⟩) q.length c) q.length (flatA q)) (hm : q.length = m + 1) (hle : q.length ≤ 1048576) (hne : pb ≠ g)
    (hr : Rising (x :: r)) (hq : q.Perm (x :: r)) (hh : HeapN q q.length) :
    Calls Try.prog 41 #[.iface 60 (.pointer (some ⟨pb, 0, none⟩))] w fun e w' => e = .returned (.iface 37 (.agg #[.int .i64 x.win, .int .i64 x.key, .int .i64 x.cnt, .int .i64 x.sum, .int .i64 x.mn, .int .i64 x.mx])) ∧
      (∃ q' : List Ag, q'.Perm r ∧ HeapN q' q'.length ∧ q'.length = m ∧ Blk w' pb 69 #[.slice (some ⟨g, 0, none⟩) q'.length c] ∧ w'.ownsRow lo 37 6 (.slice (some ⟨g, 0, none⟩) q'.length c) q'.length (flatA q')) ∧ (∀ B, B ≤ pb → B ≤ g → B ≤ w.heap.size → Below B w w') ∧ ∀ k, k < w.heap.size → k ≠ pb → k ≠ g → w'.heap[k]? = w.heap[k]? := by
  have h0 : ael q 0 = x := pop_least hr hq hh
  have hx : HeapD (swapN q 0 m) (swapN q 0 m) m 0 := HeapN.begin (by rw [← hm]; exact hh)
  have hsl : (swapN q 0 m).length = q.length := swapN_len q 0 m
  have HSWX := Lib.hid (swap_x g q.length c 0 m lo q w ho rfl (by omega) (by omega))
  have HO := Lib.hid ho
  have HX := Lib.hid hx
  have HP := Lib.hid hp
  have HSL := Lib.hid hsl
  have HR := Lib.hid (fun (q2 : List Ag) h2 hl h3 => pop_rest (q := q) (q2 := q2) (r := r) (x := x) (n := m) hq hm h0 h2 hl h3)
  have HM := Lib.hid hm
  have em : ((q.length : Nat) : Int) - 1 = (m : Int) := by omega
  have hml := meth_len pb q.length c (some ⟨g, 0, none⟩) w (hp.cell 0)
  have hms := meth_swap pb q.length c (some ⟨g, 0, none⟩) w (hp.cell 0)
  clear ho hx hp hh hq hr h0 hsl hm
  go_enter Try.func41, Try.ntmps41
  go_wp2_with fail
  refine (len_x _ _ _ _).mono ?_
  rintro e w1 ⟨rfl, rfl⟩
  go_wp2_with fail
  clear hml hms
  refine HSWX.out.mono ?_
  rintro e w2 ⟨rfl, hsw⟩
  have hso := hsw.own HO.out (by have := HM.out; omega) (by have := HM.out; omega)
  have p2 : Blk w2 pb 69 #[.slice (some ⟨g, 0, none⟩) q.length c] := HP.out.grown hso.2 (fun e => by injection e with e; exact hne e)
  have HDN := Lib.hid (down_x pb g c m lo (swapN q 0 m) w2 (by rw [HSL.out]; exact p2) (by rw [HSL.out]; exact hso.1) HX.out (by rw [HSL.out, HM.out]; omega) (by rw [HSL.out]; exact hle) hne)
  have G2 := Lib.hid hso.2
  have P2 := Lib.hid p2
  clear hsw hso p2
  go_wp2_with fail
  refine HDN.out.mono ?_
  rintro e w3 ⟨⟨v, rfl⟩, q2, hz, hpm, hlast, ho3, hg3⟩
  rw [HSL.out] at ho3
  obtain ⟨r1, r2, r3, r4⟩ := HR.out q2 hpm (hlast m (Nat.le_refl _)) hz
  have p3 : Blk w3 pb 69 #[.slice (some ⟨g, 0, none⟩) q.length c] := P2.out.grown hg3 (fun e => by injection e with e; exact hne e)
  have e4 : q.length = q2.length := by rw [r4, HM.out]
  have HPL := Lib.hid (popLast_x pb g c m lo q2 w3 (by rw [← e4]; exact p3) (by rw [← e4]; exact ho3) r4)
  rw [r3] at HPL
  have hmp := meth_pop pb w3
  have P3 := Lib.hid p3
  have e5 : m + 1 = q2.length := r4.symm
  have O3 := Lib.hid (own_shorter (n := m) (by rw [e5, ← e4]; exact ho3) r4)
  have R1 := Lib.hid r1
  have R2 := Lib.hid r2
  have GG := Lib.hid (grown_trans G2.out hg3)
  have htl : (q2.take m).length = m := by rw [List.length_take]; omega
  have HTL := Lib.hid htl
  clear hz hpm hlast ho3 hg3 r1 r2 r3 p3 e4 e5 htl r4
  go_wp2_with fail
  clear hmp
  refine HPL.out.mono ?_
  rintro e w4 ⟨rfl, hw4⟩
  have HW4 := Lib.hid hw4
  clear hw4
  go_wp2
  go_ret
  refine ⟨rfl, ⟨q2.take m, R1.out, R2.out, HTL.out, ?_, ?_⟩, fun B hB1 hB2 hB3 => ?_, fun k hk1 hk2 hk3 => ?_⟩
  · rw [HW4.out, HTL.out]
    have z := Blk.put_ (P3.out.alloc (.cells #[.int .i64 x.win, .int .i64 x.key, .int .i64 x.cnt, .int .i64 x.sum, .int .i64 x.mn, .int .i64 x.mx] 37)) 0 (.slice (some ⟨g, 0, none⟩) m c)
    simpa using z
  · rw [HW4.out, HTL.out]
    refine (O3.out.alloc _).kept (grown_setCell _ _ _ _) (.inr (fun e => ?_))
    simp [Value.ownBlock] at e
    exact hne e.symm
  · rw [HW4.out]
    have b1 : Below B w w3 := ⟨GG.out.os, GG.out.tape, GG.out.output, GG.out.size, fun k hk => GG.out.block k (by omega) (fun e => by injection e with e; omega)⟩
    exact (b1.alloc (by have := GG.out.size; omega) _).setCell (p := ⟨pb, 0, none⟩) hB1 _
  · rw [HW4.out]
    exact (Below.heap_setCell _ _ _ _ hk2).trans ((Below.heap_alloc _ _ _ (Nat.lt_of_lt_of_le hk1 GG.out.size)).trans (GG.out.block k hk1 (fun e => by injection e with e; exact hk3 e)))
end Go.Proofs.Ytnfhlfbkdhpacaa
