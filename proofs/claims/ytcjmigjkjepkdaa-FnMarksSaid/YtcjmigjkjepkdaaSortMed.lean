/- The library's sort over lags: order2Ordered, medianOrdered, medianAdjacentOrdered. -/
import Derived.Test.YtcjmigjkjepkdaaSortRev
namespace Go.Proofs.Ytcjmigjkjepkdaa
open Go.RowKit

/-- The row and the count of swaps behind a pointer: but for that count and the count of draws the world is w0. -/
def PR (L : Nat → Nat) (w0 : World) (g off : Nat) (d : Array Nat) (p s : Nat) (wr : World) : Prop :=
  Sort.Holds (fV L) wr g off d ∧ wr.cell? ⟨p, 0, none⟩ = some (.int .i64 s) ∧ wr.frozen? ⟨p, 0, none⟩ = false ∧ ∃ n, wr = (Sort.ahead w0 n).setCell ⟨p, 0, none⟩ (.int .i64 s)
section
variable {L : Nat → Nat} {w0 wr : World} {g off : Nat} {d : Array Nat} {p s : Nat}
theorem setCell_twice (w : World) (p o : Nat) (u v : Value) : (w.setCell ⟨p, o, none⟩ u).setCell ⟨p, o, none⟩ v = w.setCell ⟨p, o, none⟩ v := by
  rw [Sort.setCell_eq, Sort.setCell_eq, Sort.setCell_eq, Sort.mapBlock_mapBlock]
  congr 1
  funext c
  simp
theorem PR.holds (h : PR L w0 g off d p s wr) : Sort.Holds (fV L) wr g off d := h.1
theorem PR.drewN (h : PR L w0 g off d p s wr) (q : Nat) : PR L w0 g off d p s (wr.drewN q) := by
  obtain ⟨h1, h2, h3, n, h4⟩ := h
  exact ⟨h1, h2, h3, n + q, by rw [h4]; rw [Sort.setCell_ahead, Sort.setCell_ahead, ← Sort.ahead_ahead]; rfl⟩
theorem PR.put (h : PR L w0 g off d p s wr) (hp : p ≠ g) (t : Nat) : PR L w0 g off d p t (wr.setCell ⟨p, 0, none⟩ (.int .i64 t)) := by
  obtain ⟨h1, h2, h3, n, h4⟩ := h
  have e1 : wr.setCell ⟨p, 0, none⟩ (.int .i64 t) = Sort.putRow (fun (x : Nat) => Value.int .i64 (x : Int)) wr p 0 #[t] := by
    have hS : Sort.Holds (fun (x : Nat) => Value.int .i64 (x : Int)) wr p 0 #[s] := fun j hj => by
      have : j = 0 := by simp at hj; exact hj
      subst this
      exact ⟨by simpa using h2, by simpa using h3⟩
    have := Sort.putRow_set (fun (x : Nat) => Value.int .i64 (x : Int)) wr p 0 #[s] 0 t (by simp)
    rw [Sort.putRow_self _ _ _ _ _ hS] at this
    simpa using this
  refine ⟨fun j hj => ?_, ?_, ?_, n, ?_⟩
  · rw [e1]
    exact ⟨by rw [Sort.cell?_putRow_other _ _ _ _ _ _ (Or.inl (Ne.symm hp))]; exact (h1 j hj).1, by rw [Sort.frozen?_putRow]; exact (h1 j hj).2⟩
  · rw [e1]
    have hS : Sort.Holds (fun (x : Nat) => Value.int .i64 (x : Int)) wr p 0 #[s] := fun j hj => by
      have : j = 0 := by simp at hj; exact hj
      subst this
      exact ⟨by simpa using h2, by simpa using h3⟩
    simpa using Sort.cell?_putRow _ _ p 0 #[s] #[t] hS rfl 0 (by simp)
  · rw [e1, Sort.frozen?_putRow]; exact h3
  · rw [h4, setCell_twice]
end
/-- order2's answer, by its parts. -/
theorem order2_in {lt : Nat → Nat → Bool} (d : Array Nat) {a b n : Nat} (s : Nat) (ha : a < n) (hb : b < n) : (Sort.order2 lt d a b s).1 < n ∧ (Sort.order2 lt d a b s).2.1 < n ∧ (Sort.order2 lt d a b s).2.2 ≤ s + 1 := by
  unfold Sort.order2
  split
  · exact ⟨hb, ha, Nat.le_refl _⟩
  · exact ⟨ha, hb, Nat.le_succ _⟩

set_option maxHeartbeats 2000000 in
set_option maxRecDepth 100000 in
theorem order2_any {L : Nat → Nat} {lt : Nat → Nat → Bool} (hL : LessOk L lt) (g off cap p a b s : Nat) (d : Array Nat) (w0 w : World) (h : PR L w0 g off d p s w) (hp : p ≠ g) (ha : a < d.size) (hb : b < d.size) (_hsz : d.size ≤ 1048576) (hs : s ≤ 1048576) :
    Calls Try.prog 89 #[.slice (some ⟨g, off, none⟩) d.size cap, .int .i64 a, .int .i64 b, .pointer (some ⟨p, 0, none⟩)] w fun e w' =>
      e = .returned (.tuple #[.int .i64 (Sort.order2 lt d a b s).1, .int .i64 (Sort.order2 lt d a b s).2.1]) ∧ PR L w0 g off d p (Sort.order2 lt d a b s).2.2 w' := by
  have HLS : Hid (∀ (a b : Nat) (w : World), Calls Try.prog 75 #[.float .f64 (L a), .float .f64 (L b)] w fun e w' => e = .returned (.bool (lt a b)) ∧ w' = w) := hL
  obtain ⟨G, hG⟩ : ∃ G : Nat → Nat, ∀ t, G t = d[t]! := ⟨fun t => d[t]!, fun _ => rfl⟩
  have hcw : ∀ t, t < d.size → w.cell? ⟨g, off + t, none⟩ = some (.float .f64 (L (G t))) := fun t ht => by rw [hG]; exact (h.1 t ht).1
  have hfw : ∀ t, t < d.size → w.frozen? ⟨g, off + t, none⟩ = false := fun t ht => (h.1 t ht).2
  have cs := h.2.1
  have fs := h.2.2.1
  have HG := Lib.hid hG
  have HP := Lib.hid h
  have e1 := Lib.hid (fun (hl : lt (G b) (G a) = true) => (show Sort.order2 lt d a b s = (b, a, s + 1) by unfold Sort.order2; rw [hG, hG] at hl; rw [if_pos hl]))
  have e2 := Lib.hid (fun (hl : lt (G b) (G a) = false) => (show Sort.order2 lt d a b s = (a, b, s) by unfold Sort.order2; rw [hG, hG] at hl; rw [if_neg (by simp [hl])]))
  clear hL hG h
  go_enter Try.func89, Try.ntmps89
  go_wp2
  go_quiet (first | (go_at_call 75; refine Calls.quiet_of_same (HLS.out _ _ _)))
  go_wp2
  · have hl : lt (G b) (G a) = true := by assumption
    have HE := Lib.hid (e1.out hl)
    refine bodyPost_ret (v := .tuple #[.int .i64 b, .int .i64 a]) (by simp [results, Try.results89, go_sem]) rfl ?_
    rw [HE.out]; exact ⟨rfl, (HP.out.drewN nq).put hp (s + 1)⟩
  · have hl : lt (G b) (G a) = false := by assumption
    have HE := Lib.hid (e2.out hl)
    refine bodyPost_ret (v := .tuple #[.int .i64 a, .int .i64 b]) (by simp [results, Try.results89, go_sem]) rfl ?_
    rw [HE.out]; exact ⟨rfl, HP.out.drewN nq⟩

/-- median's answer, by its parts. -/
theorem median_in {lt : Nat → Nat → Bool} (d : Array Nat) {a b c n : Nat} (s : Nat) (ha : a < n) (hb : b < n) (hc : c < n) : (Sort.median lt d a b c s).1 < n ∧ (Sort.median lt d a b c s).2 ≤ s + 3 := by
  have h1 := order2_in (lt := lt) d s ha hb
  have h2 := order2_in (lt := lt) d (Sort.order2 lt d a b s).2.2 h1.2.1 hc
  have h3 := order2_in (lt := lt) d (Sort.order2 lt d (Sort.order2 lt d a b s).2.1 c (Sort.order2 lt d a b s).2.2).2.2 h1.1 h2.1
  exact ⟨h3.2.1, by have := h1.2.2; have := h2.2.2; have := h3.2.2; show (Sort.order2 lt d _ _ _).2.2 ≤ _; omega⟩

set_option maxHeartbeats 2000000 in
set_option maxRecDepth 100000 in
theorem median_any {L : Nat → Nat} {lt : Nat → Nat → Bool} (hL : LessOk L lt) (g off cap p a b c s : Nat) (d : Array Nat) (w0 w : World) (h : PR L w0 g off d p s w) (hp : p ≠ g) (ha : a < d.size) (hb : b < d.size) (hc : c < d.size) (hsz : d.size ≤ 1048576) (hs : s ≤ 1048000) :
    Calls Try.prog 86 #[.slice (some ⟨g, off, none⟩) d.size cap, .int .i64 a, .int .i64 b, .int .i64 c, .pointer (some ⟨p, 0, none⟩)] w fun e w' =>
      e = .returned (.int .i64 (Sort.median lt d a b c s).1) ∧ PR L w0 g off d p (Sort.median lt d a b c s).2 w' := by
  have HO := Lib.hid (fun (i j t : Nat) (W : World) (hW : PR L w0 g off d p t W) (hi : i < d.size) (hj : j < d.size) (ht : t ≤ 1048576) => order2_any hL g off cap p i j t d w0 W hW hp hi hj hsz ht)
  obtain ⟨i1, j1, s1, h1⟩ : ∃ i1 j1 s1, Sort.order2 lt d a b s = (i1, j1, s1) := ⟨_, _, _, rfl⟩
  obtain ⟨i2, j2, s2, h2⟩ : ∃ i2 j2 s2, Sort.order2 lt d j1 c s1 = (i2, j2, s2) := ⟨_, _, _, rfl⟩
  obtain ⟨i3, j3, s3, h3⟩ : ∃ i3 j3 s3, Sort.order2 lt d i1 i2 s2 = (i3, j3, s3) := ⟨_, _, _, rfl⟩
  have m1 := order2_in (lt := lt) d s ha hb
  rw [h1] at m1
  have m2 := order2_in (lt := lt) d s1 m1.2.1 hc
  rw [h2] at m2
  have m3 := order2_in (lt := lt) d s2 m1.1 m2.1
  rw [h3] at m3
  have hfin : Sort.median lt d a b c s = (j3, s3) := by
    unfold Sort.median
    simp only [h1, h2, h3]
  rw [hfin]
  have o1 := HO.out a b s w h ha hb (by omega)
  have HO2 := Lib.hid (fun W (hW : PR L w0 g off d p s1 W) => HO.out j1 c s1 W hW m1.2.1 hc (by have := m1.2.2; simp at this; omega))
  have HO3 := Lib.hid (fun W (hW : PR L w0 g off d p s2 W) => HO.out i1 i2 s2 W hW m1.1 m2.1 (by have := m1.2.2; have := m2.2.2; simp at *; omega))
  rw [h1] at o1
  have O1 := Lib.hid o1
  simp only [h2] at HO2
  simp only [h3] at HO3
  clear hL h h1 h2 h3 hfin m1 m2 m3 HO o1
  go_enter Try.func86, Try.ntmps86
  go_wp2_with fail
  refine O1.out.mono ?_
  rintro e w1 ⟨rfl, p1⟩
  have P1 := Lib.hid p1
  clear p1
  go_wp2_with fail
  refine (HO2.out _ P1.out).mono ?_
  rintro e w2 ⟨rfl, p2⟩
  have P2 := Lib.hid p2
  clear p2
  go_wp2_with fail
  refine (HO3.out _ P2.out).mono ?_
  rintro e w3 ⟨rfl, p3⟩
  have P3 := Lib.hid p3
  clear p3
  go_wp2
  go_ret
  exact ⟨rfl, P3.out⟩

set_option maxHeartbeats 2000000 in
set_option maxRecDepth 100000 in
theorem medAdj_any {L : Nat → Nat} {lt : Nat → Nat → Bool} (hL : LessOk L lt) (g off cap p a s : Nat) (d : Array Nat) (w0 w : World) (h : PR L w0 g off d p s w) (hp : p ≠ g) (ha0 : 1 ≤ a) (ha : a + 1 < d.size) (hsz : d.size ≤ 1048576) (hs : s ≤ 1048000) :
    Calls Try.prog 85 #[.slice (some ⟨g, off, none⟩) d.size cap, .int .i64 a, .pointer (some ⟨p, 0, none⟩)] w fun e w' =>
      e = .returned (.int .i64 (Sort.medianAdjacent lt d a s).1) ∧ PR L w0 g off d p (Sort.medianAdjacent lt d a s).2 w' := by
  have H1 := Lib.hid (median_any hL g off cap p (a - 1) a (a + 1) s d w0 w h hp (by omega) (by omega) ha hsz hs)
  have e1 : ((a : Int) - 1) = ((a - 1 : Nat) : Int) := by omega
  have e2 : ((a : Int) + 1) = ((a + 1 : Nat) : Int) := by omega
  have E1 := Lib.hid e1
  have E2 := Lib.hid e2
  clear hL h e1 e2
  go_enter Try.func85, Try.ntmps85
  go_wp2_with fail
  rw [E1.out, E2.out]
  refine H1.out.mono ?_
  rintro e w1 ⟨rfl, p1⟩
  have P1 := Lib.hid p1
  clear p1
  go_wp2
  go_ret
  exact ⟨rfl, P1.out⟩
end Go.Proofs.Ytcjmigjkjepkdaa
