/- The library's sort over lags: the row between two steps where new blocks were laid. -/
import Derived.Test.YtcjmigjkjepkdaaSortMed
import Derived.Sort.Walk13a
namespace Go.Proofs.Ytcjmigjkjepkdaa
open Go.RowKit

/-- The row behind some steps: it holds d; draws were made and new blocks laid; else nothing has turned. -/
def SG (L : Nat → Nat) (w : World) (g off : Nat) (d0 d : Array Nat) (wr : World) : Prop :=
  Sort.Holds (fV L) w g off d0 ∧ g < w.heap.size ∧ d.size = d0.size ∧ Sort.At (fV L) w g off d wr
section
variable {L : Nat → Nat} {w wr w' : World} {g off : Nat} {d0 d d2 : Array Nat}
theorem SG.start (h : Sort.Holds (fV L) w g off d0) (hg : g < w.heap.size) : SG L w g off d0 d0 w := ⟨h, hg, rfl, Sort.At.refl h⟩
theorem SG.size (h : SG L w g off d0 d wr) : d.size = d0.size := h.2.2.1
theorem SG.holds (h : SG L w g off d0 d wr) : Sort.Holds (fV L) wr g off d := (Sort.At.holds h.2.2.2 h.1 h.2.2.1 h.2.1).1
theorem SG.lt (h : SG L w g off d0 d wr) : g < wr.heap.size := (Sort.At.holds h.2.2.2 h.1 h.2.2.1 h.2.1).2
theorem SG.cell (h : SG L w g off d0 d wr) (j : Nat) (hj : j < d0.size) : wr.cell? ⟨g, off + j, none⟩ = some (.float .f64 (L d[j]!)) := (h.holds j (by rw [h.size]; exact hj)).1
theorem SG.frozen (h : SG L w g off d0 d wr) (j : Nat) (hj : j < d0.size) : wr.frozen? ⟨g, off + j, none⟩ = false := (h.holds j (by rw [h.size]; exact hj)).2
theorem SG.step (h : SG L w g off d0 d wr) (k : SA L wr g off d d2 w') : SG L w g off d0 d2 w' :=
  ⟨h.1, h.2.1, k.2.1.trans h.2.2.1, Sort.At.step h.2.2.2 h.2.1 k.2.1 k.2.2⟩
theorem SG.stepG (h : SG L w g off d0 d wr) (k : SG L wr g off d d2 w') : SG L w g off d0 d2 w' :=
  ⟨h.1, h.2.1, k.2.2.1.trans h.2.2.1, Sort.At.stepG h.2.2.2 h.2.1 k.2.2.1 k.2.2.2⟩
theorem SG.drewN (h : SG L w g off d0 d wr) (q : Nat) : SG L w g off d0 d (wr.drewN q) := ⟨h.1, h.2.1, h.2.2.1, Sort.At.ahead h.2.2.2 q⟩
theorem SG.swap (h : SG L w g off d0 d wr) (j k : Nat) (hj : j < d0.size) (hk : k < d0.size) :
    SG L w g off d0 (Sort.swp d j k) ((wr.setCell ⟨g, off + j, none⟩ (.float .f64 (L d[k]!))).setCell ⟨g, off + k, none⟩ (.float .f64 (L d[j]!))) :=
  h.step ((SA.start h.holds).swap j k (by rw [h.size]; exact hj) (by rw [h.size]; exact hk))
/-- A new block behind the row, and what is written into it. -/
theorem SG.alloc (h : SG L w g off d0 d wr) (o : Obj) : SG L w g off d0 d (wr.alloc o) := by
  obtain ⟨h1, h2, h3, n, os, rfl⟩ := h
  exact ⟨h1, h2, h3, n, os ++ #[o], by rw [Sort.alloc_eq_grow, Sort.grow_grow]⟩
theorem SG.write (h : SG L w g off d0 d wr) (p o : Nat) (v : Value) (hp : w.heap.size ≤ p) : SG L w g off d0 d (wr.setCell ⟨p, o, none⟩ v) := by
  obtain ⟨h1, h2, h3, n, os, rfl⟩ := h
  exact ⟨h1, h2, h3, n, _, by rw [Sort.setCell_eq, Sort.mapBlock_grow_new _ _ _ _ (by simpa using hp)]⟩
/-- .. behind a count's steps. -/
theorem SG.counted {d1 : Array Nat} {p s : Nat} (h : SG L w g off d0 d wr) (hp : w.heap.size ≤ p) (k : PR L wr g off d1 p s w') : SG L w g off d0 d w' := by
  obtain ⟨_, _, _, n, rfl⟩ := k
  exact (h.drewN n).write p 0 _ hp
theorem PR.laid (h : Sort.Holds (fV L) w g off d) (hg : g < w.heap.size) (e : TypeId) (W : World) (hW : W = w.alloc (.cells #[.int .i64 0] e)) : PR L W g off d w.heap.size 0 W := by
  have hh : W.heap[w.heap.size]? = some (.cells #[.int .i64 0] e) := by rw [hW]; exact Array.getElem?_push_size
  refine ⟨by rw [hW, Sort.alloc_eq_grow]; exact Sort.holds_grow _ _ _ _ _ _ hg h, ?_, ?_, 0, ?_⟩
  · simp [World.cell?, hh]
  · simp [World.frozen?, hh]
  · rw [Sort.ahead_zero, Sort.setCell_eq, Sort.mapBlock_id]
    intro c e2 fr h2
    rw [hh] at h2
    cases h2
    rfl
end
def hintN : Sort.Hint → Nat
  | .unknown => 0
  | .increasing => 1
  | .decreasing => 2
set_option maxHeartbeats 2000000 in
set_option maxRecDepth 100000 in
theorem pivot_any {L : Nat → Nat} {lt : Nat → Nat → Bool} (hL : LessOk L lt) (g off cap a b : Nat) (d : Array Nat) (w : World) (hH : Sort.Holds (fV L) w g off d) (hg : g < w.heap.size) (hab : a < b) (hb : b ≤ d.size) (hsz : d.size ≤ 1048576) :
    Calls Try.prog 72 #[.slice (some ⟨g, off, none⟩) d.size cap, .int .i64 a, .int .i64 b] w fun e w' =>
      e = .returned (.tuple #[.int .i64 (Sort.choosePivot lt d a b).1, .int .i64 (hintN (Sort.choosePivot lt d a b).2)]) ∧ SG L w g off d d w' := by
  have e1 : ((b : Int) - (a : Int)) = ((b - a : Nat) : Int) := by omega
  obtain ⟨l, hl⟩ : ∃ l, l = b - a := ⟨_, rfl⟩
  rw [← hl] at e1
  have hq : ((l : Int)).tdiv 4 = ((l / 4 : Nat) : Int) := by rw [Int.tdiv_eq_ediv_of_nonneg (by omega)]; omega
  obtain ⟨q, hq2⟩ : ∃ q, q = l / 4 := ⟨_, rfl⟩
  rw [← hq2] at hq
  have hlb : a + l = b := by omega
  have hlq : 4 * q ≤ l := by omega
  have hla : 0 < l := by omega
  have HL := Lib.hid hl
  have HQ := Lib.hid hq2
  have hlb2 : a + l ≤ d.size := by omega
  obtain ⟨i, hi⟩ : ∃ i, i = a + q := ⟨_, rfl⟩
  obtain ⟨j, hj⟩ : ∃ j, j = a + q * 2 := ⟨_, rfl⟩
  obtain ⟨k, hk⟩ : ∃ k, k = a + q * 3 := ⟨_, rfl⟩
  have i1 : (a : Int) + (q : Int) = (i : Int) := by omega
  have j1 : (a : Int) + (q : Int) * 2 = (j : Int) := by omega
  have k1 : (a : Int) + (q : Int) * 3 = (k : Int) := by omega
  have hjd : j < d.size := by omega
  have hfin : ∀ r : Nat × Nat, r = (if l ≥ 8 then (if l ≥ 50 then
        Sort.median lt d (Sort.medianAdjacent lt d i 0).1 (Sort.medianAdjacent lt d j (Sort.medianAdjacent lt d i 0).2).1 (Sort.medianAdjacent lt d k (Sort.medianAdjacent lt d j (Sort.medianAdjacent lt d i 0).2).2).1 (Sort.medianAdjacent lt d k (Sort.medianAdjacent lt d j (Sort.medianAdjacent lt d i 0).2).2).2
      else Sort.median lt d i j k 0) else (j, 0)) → Sort.choosePivot lt d a b = (r.1, if r.2 = 0 then .increasing else if r.2 = 12 then .decreasing else .unknown) := by
    intro r hr
    have ei : a + (b - a) / 4 * 1 = i := by rw [← hl, ← hq2]; omega
    have ej : a + (b - a) / 4 * 2 = j := by rw [← hl, ← hq2]; omega
    have ek : a + (b - a) / 4 * 3 = k := by rw [← hl, ← hq2]; omega
    unfold Sort.choosePivot
    simp only [ei, ej, ek]
    rw [hr, hl]
  have HF := Lib.hid hfin
  have HI := Lib.hid hi
  have HJ := Lib.hid hj
  have HK := Lib.hid hk
  have P0 : Hid (∀ W, W = w.alloc (.cells #[.int .i64 0] 3) → PR L W g off d w.heap.size 0 W) := Lib.hid (fun W hW => PR.laid hH hg 3 W hW)
  have S0 : Hid (∀ W w', W = w.alloc (.cells #[.int .i64 0] 3) → ∀ s, PR L W g off d w.heap.size s w' → SG L w g off d d w') := Lib.hid (fun W w' hW s h => SG.counted ((SG.start hH hg).alloc _ |> (by rw [hW]; exact ·)) (Nat.le_refl _) h)
  have hp : w.heap.size ≠ g := by omega
  have HME := Lib.hid (fun (W0 : World) (x y z t : Nat) (W : World) (hW : PR L W0 g off d w.heap.size t W) (hx : x < d.size) (hy : y < d.size) (hz : z < d.size) (ht : t ≤ 1000) => median_any hL g off cap w.heap.size x y z t d W0 W hW hp hx hy hz hsz (by omega))
  have HMA := Lib.hid (fun (W0 : World) (x t : Nat) (W : World) (hW : PR L W0 g off d w.heap.size t W) (hx0 : 1 ≤ x) (hx : x + 1 < d.size) (ht : t ≤ 1000) => medAdj_any hL g off cap w.heap.size x t d W0 W hW hp hx0 hx hsz (by omega))
  have HIN := Lib.hid (fun (x y z t : Nat) (hx : x < d.size) (hy : y < d.size) (hz : z < d.size) => median_in (lt := lt) d t hx hy hz)
  have hq1 : 8 ≤ l → 2 ≤ q := by omega
  have hq12 : 50 ≤ l → 12 ≤ q := by omega
  clear hl hq2 hi hj hk hfin hH hL hp
  by_cases h8 : 8 ≤ l
  · have h8i : (8 : Int) ≤ (l : Int) := by omega
    have hid : i < d.size := by rw [HI.out]; omega
    have hkd : k < d.size := by rw [HK.out]; omega
    by_cases h50 : 50 ≤ l
    · have h50i : (50 : Int) ≤ (l : Int) := by omega
      have hkd1 : k + 1 < d.size := by rw [HK.out]; omega
      have hjd1 : j + 1 < d.size := by rw [HJ.out]; omega
      have hid1 : i + 1 < d.size := by rw [HI.out]; omega
      have hi1 : 1 ≤ i := by rw [HI.out]; omega
      have hj1 : 1 ≤ j := by rw [HJ.out]; omega
      have hk1 : 1 ≤ k := by rw [HK.out]; omega
      obtain ⟨ri, si, h1⟩ : ∃ r s, Sort.medianAdjacent lt d i 0 = (r, s) := ⟨_, _, rfl⟩
      obtain ⟨rj, sj, h2⟩ : ∃ r s, Sort.medianAdjacent lt d j si = (r, s) := ⟨_, _, rfl⟩
      obtain ⟨rk, sk, h3⟩ : ∃ r s, Sort.medianAdjacent lt d k sj = (r, s) := ⟨_, _, rfl⟩
      obtain ⟨rm, sm, h4⟩ : ∃ r s, Sort.median lt d ri rj rk sk = (r, s) := ⟨_, _, rfl⟩
      have m1 := HIN.out (i - 1) i (i + 1) 0 (by omega) hid hid1
      rw [show Sort.median lt d (i - 1) i (i + 1) 0 = (ri, si) from h1] at m1
      have m2 := HIN.out (j - 1) j (j + 1) si (by omega) hjd hjd1
      rw [show Sort.median lt d (j - 1) j (j + 1) si = (rj, sj) from h2] at m2
      have m3 := HIN.out (k - 1) k (k + 1) sj (by omega) hkd hkd1
      rw [show Sort.median lt d (k - 1) k (k + 1) sj = (rk, sk) from h3] at m3
      have m4 := HIN.out ri rj rk sk m1.1 m2.1 m3.1
      rw [h4] at m4
      have hfin := HF.out (rm, sm) (by rw [if_pos h8, if_pos h50, h1]; simp only [h2]; simp only [h3]; exact h4.symm)
      have C1 := Lib.hid (fun W0 W h => HMA.out W0 i 0 W h hi1 hid1 (by omega))
      have C2 := Lib.hid (fun W0 W h => HMA.out W0 j si W h hj1 hjd1 (by have := m1.2; simp at this; omega))
      have C3 := Lib.hid (fun W0 W h => HMA.out W0 k sj W h hk1 hkd1 (by have := m1.2; have := m2.2; simp at *; omega))
      have C4 := Lib.hid (fun W0 W h => HME.out W0 ri rj rk sk W h m1.1 m2.1 m3.1 (by have := m1.2; have := m2.2; have := m3.2; simp at *; omega))
      rw [h1] at C1
      rw [h2] at C2
      rw [h3] at C3
      rw [h4] at C4
      rw [hfin]
      clear h1 h2 h3 h4 m1 m2 m3 m4 hfin HF
      go_enter Try.func72, Try.ntmps72
      go_wp2_with fail
      refine (C1.out _ _ (P0.out _ rfl)).mono ?_
      rintro e w1 ⟨rfl, p1⟩
      have P1 := Lib.hid p1
      clear p1
      go_wp2_with fail
      refine (C2.out _ _ P1.out).mono ?_
      rintro e w2 ⟨rfl, p2⟩
      have P2 := Lib.hid p2
      clear p2
      go_wp2_with fail
      refine (C3.out _ _ P2.out).mono ?_
      rintro e w3 ⟨rfl, p3⟩
      have P3 := Lib.hid p3
      clear p3
      go_wp2_with fail
      refine (C4.out _ _ P3.out).mono ?_
      rintro e w4 ⟨rfl, p4⟩
      have P4 := Lib.hid p4
      have cs := p4.2.1
      clear p4
      have SE := Lib.hid (S0.out _ _ rfl sm P4.out)
      by_cases z0 : sm = 0
      · subst z0
        go_wp2
        refine bodyPost_ret (v := .tuple #[.int .i64 rm, .int .i64 1]) (by simp [results, Try.results72, go_sem]) rfl ?_
        exact ⟨rfl, SE.out⟩
      · by_cases z2 : sm = 12
        · subst z2
          go_wp2
          refine bodyPost_ret (v := .tuple #[.int .i64 rm, .int .i64 2]) (by simp [results, Try.results72, go_sem]) rfl ?_
          exact ⟨rfl, SE.out⟩
        · have y0 : ¬ ((sm : Int) = 0) := by omega
          have y2 : ¬ ((sm : Int) = 12) := by omega
          go_wp2
          refine bodyPost_ret (v := .tuple #[.int .i64 rm, .int .i64 0]) (by simp [results, Try.results72, go_sem]) rfl ?_
          exact ⟨rfl, SE.out⟩
    · have h50i : ¬ (50 : Int) ≤ (l : Int) := by omega
      obtain ⟨rm, sm, h4⟩ : ∃ r s, Sort.median lt d i j k 0 = (r, s) := ⟨_, _, rfl⟩
      have hfin := HF.out (rm, sm) (by rw [if_pos h8, if_neg h50]; exact h4.symm)
      have C4 := Lib.hid (fun W0 W h => HME.out W0 i j k 0 W h hid hjd hkd (by omega))
      rw [h4] at C4
      rw [hfin]
      clear h4 hfin HF
      go_enter Try.func72, Try.ntmps72
      go_wp2_with fail
      refine (C4.out _ _ (P0.out _ rfl)).mono ?_
      rintro e w4 ⟨rfl, p4⟩
      have P4 := Lib.hid p4
      have cs := p4.2.1
      clear p4
      have SE := Lib.hid (S0.out _ _ rfl sm P4.out)
      by_cases z0 : sm = 0
      · subst z0
        go_wp2
        refine bodyPost_ret (v := .tuple #[.int .i64 rm, .int .i64 1]) (by simp [results, Try.results72, go_sem]) rfl ?_
        exact ⟨rfl, SE.out⟩
      · by_cases z2 : sm = 12
        · subst z2
          go_wp2
          refine bodyPost_ret (v := .tuple #[.int .i64 rm, .int .i64 2]) (by simp [results, Try.results72, go_sem]) rfl ?_
          exact ⟨rfl, SE.out⟩
        · have y0 : ¬ ((sm : Int) = 0) := by omega
          have y2 : ¬ ((sm : Int) = 12) := by omega
          go_wp2
          refine bodyPost_ret (v := .tuple #[.int .i64 rm, .int .i64 0]) (by simp [results, Try.results72, go_sem]) rfl ?_
          exact ⟨rfl, SE.out⟩
  · have h8i : ¬ (8 : Int) ≤ (l : Int) := by omega
    have hfin := HF.out (j, 0) (by rw [if_neg h8])
    rw [hfin]
    clear hfin HF
    go_enter Try.func72, Try.ntmps72
    go_wp2
    refine bodyPost_ret (v := .tuple #[.int .i64 j, .int .i64 1]) (by simp [results, Try.results72, go_sem]) rfl ?_
    exact ⟨rfl, S0.out _ _ rfl 0 (P0.out _ rfl)⟩
end Go.Proofs.Ytcjmigjkjepkdaa
