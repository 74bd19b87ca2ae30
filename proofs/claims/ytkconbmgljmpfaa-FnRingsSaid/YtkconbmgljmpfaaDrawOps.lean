/- The draws of a link's ops: a number and a list of ops, up to their bounds alone. -/
import Derived.Test.YtkconbmgljmpfaaDraw
import Derived.Test.YtkconbmgljmpfaaRing1
namespace Go.Proofs.Ytkconbmgljmpfaa
open Go.RowKit

theorem Bytes.below_ {w w' : World} {p : Nat} {a : Option Addr} {len : Nat} (h : Bytes w p a len) (hb : Below p w w') : Bytes w' p a len :=
  ⟨h.small, h.lies.imp id fun ⟨b, off, ha, hlt, hc⟩ => ⟨b, off, ha, hlt, fun i hi => by
    obtain ⟨x, h0, h1, hx⟩ := hc i hi
    exact ⟨x, h0, h1, (hb.cell (p := ⟨b, off + i, none⟩) hlt).trans hx⟩⟩⟩
theorem Cur.below_ {w w' : World} {p : Nat} {a : Option Addr} {len cap : Nat} (h : Cur w p a len cap) (hb : Below (p + 1) w w') : Cur w' p a len cap := by
  have hblk : w'.heap[p]? = w.heap[p]? := hb.block p (by omega)
  obtain ⟨hlt, hby, h0, ⟨i, hi0, hi1, h1⟩, ⟨x, hx0, hx1, h2⟩, f1, f2⟩ := h
  exact ⟨Nat.lt_of_lt_of_le hlt hb.size, hby.below_ (hb.mono (Nat.le_succ _)), (World.cell?_of_block hblk).trans h0, ⟨i, hi0, hi1, (World.cell?_of_block hblk).trans h1⟩, ⟨x, hx0, hx1, (World.cell?_of_block hblk).trans h2⟩,
    (World.frozen?_of_block hblk).trans f1, (World.frozen?_of_block hblk).trans f2⟩
theorem grown_keeps {w w' : World} {p lo n : Nat} {T : TypeId} {v : Value} {xs : List Value} (h : w.ownsRow lo T 1 v n xs) (hg : w.grownBy w' (some p)) (hp : p < lo) : w'.ownsRow lo T 1 v n xs :=
  h.kept hg (by cases ho : v.ownBlock with
    | none => exact .inl rfl
    | some g => right; intro e; injection e with e; have := (h.lt g ho).1; omega)
theorem grown_below_ {w w' : World} {B p : Nat} (h : w.grownBy w' (some p)) (hp : B ≤ p) (hB : B ≤ w.heap.size) : Below B w w' := ⟨h.os, h.tape, h.output, h.size, fun k hk => h.block k (by omega) (fun e => by injection e with e; omega)⟩

theorem size40_any (a : Option Addr) (len cap : Nat) (w : World) (hl : len ≤ 1048576) :
    Calls Try.prog 39 #[.slice a len cap, .int .i64 40] w fun e w' => (∃ s : Int, e = .returned (.int .i64 s) ∧ 2 ≤ s ∧ s ≤ 40) ∧ w = w' := by
  have hd : 0 ≤ ((len : Int) / 16) ∧ ((len : Int) / 16) ≤ 65536 := by omega
  by_cases h : 40 < 2 + (len : Int) / 16
  · go_enter Try.func39, Try.ntmps39
    go_wp2
    go_ret
    exact ⟨⟨_, rfl, by omega, by omega⟩, rfl⟩
  · go_enter Try.func39, Try.ntmps39
    go_wp2
    go_ret
    exact ⟨⟨_, rfl, by omega, by omega⟩, rfl⟩

/-- A number and a list of ops, of the call's own. -/
def OpsPost (w : World) (e : Ending) (w' : World) : Prop :=
  ∃ (x : Int) (ops : List Int) (a : Option Addr) (c : Nat), e = .returned (.tuple #[.int .i64 x, .slice a ops.length c]) ∧ ops.length ≤ 301 ∧ w'.ownsRow w.heap.size 3 1 (.slice a ops.length c) ops.length (ops.map (Value.int .i64)) ∧ Below w.heap.size w w'
theorem row_cells {w : World} {b : Nat} {T : TypeId} {xs : List Int} {cs : Array Value} (hb : Blk w b T cs) (hcs : cs = (xs.map (Value.int .i64)).toArray) : ∀ i, i < xs.length → w.cell? ⟨b, i, none⟩ = some (.int .i64 (el xs i)) := by
  intro i hi
  subst hcs
  rw [hb.cell i]
  have := el_cell .i64 xs i hi
  simpa using this
set_option maxRecDepth 100000 in
set_option maxHeartbeats 2000000 in
/-- What follows the two first draws. -/
theorem drawOps_any (a : Option Addr) (len cap : Nat) (w : World) (hb : Bytes w w.heap.size a len) :
    Calls Try.prog 11 #[.slice a len cap] w (OpsPost w) := by
  obtain ⟨i0, hi0, hz0, hz1, hz2⟩ := info_partsI infoI64
  have hsm := hb.small
  have HB := Lib.hid hb
  clear hb
  go_enter Try.func11, Try.ntmps11
  go_wp2_with fail
  refine (new_any a len cap _ HB.out).mono ?_
  rintro e w1 ⟨p, hp, rfl, hc1, hg1⟩
  have hs1 := hg1.size
  have B1 := Lib.hid (below_grown hg1)
  have C1 := Lib.hid (hc1.below_ ((Below.refl (p + 1) w1).alloc hc1.lt (.cells #[] 3)))
  have O1 := Lib.hid (World.ownsRow_made (e := 3) (size := 1) (base := p + 1) w1 #[] 0 hc1.lt (by unfold maxLen; omega) (by simp))
  have hp1 := hc1.lt
  clear hc1 hg1
  go_wp2_with fail
  refine (size40_any a len cap _ hsm).mono ?_
  rintro e w' ⟨⟨s, rfl, hs2, hs40⟩, rfl⟩
  go_wp2_with fail
  refine (below_any p a len cap s (by omega) (by omega) _ C1.out).mono ?_
  rintro e w2 ⟨n, rfl, hn0, hn1, hc2, hg2⟩
  have B2 := Lib.hid ((B1.out.alloc hs1 (.cells #[] 3)).trans (grown_below_ hg2 hp (by simp; omega)))
  have O2 := Lib.hid (grown_keeps O1.out hg2 (Nat.lt_succ_self _))
  have C2 := Lib.hid hc2
  have s2 := hg2.size
  simp only [World.size_alloc] at s2
  clear hc2 hg2
  go_wp2_with fail
  refine (once_any p a len cap 40 (by omega) (by omega) _ C2.out).mono ?_
  rintro e w3 ⟨b, rfl, hc3, hg3⟩
  have B3 := Lib.hid (B2.out.trans (grown_below_ hg3 hp (by omega)))
  have O3 := Lib.hid (grown_keeps O2.out hg3 (Nat.lt_succ_self _))
  have C3 := Lib.hid hc3
  have s3 := hg3.size
  clear hc3 hg3
  cases b with
  | true =>
    go_wp2_with fail
    refine (below_any p a len cap 2 (by omega) (by omega) _ C3.out).mono ?_
    rintro e w4 ⟨y, rfl, hy0, hy1, hc4, hg4⟩
    have B4 := Lib.hid (B3.out.trans (grown_below_ hg4 hp (by omega)))
    have O4 := Lib.hid (grown_keeps O3.out hg4 (Nat.lt_succ_self _))
    have C4 := Lib.hid hc4
    have s4 := hg4.size
    clear hc4 hg4
    obtain ⟨m, hm⟩ : ∃ m : Nat, 300 + y = (m : Int) := ⟨(300 + y).toNat, by omega⟩
    have hm1 : m ≤ 301 := by omega
    go_wp2
    try rw [hm]
    go_loopw [5, 7] (fun v i wr => ∃ (j : Nat) (a' : Option Addr) (c' : Nat) (ops : List Int), j ≤ m ∧ i = .int .i64 j ∧ ops.length = j ∧ v = .slice a' j c' ∧ wr.ownsRow (p + 1) 3 1 (.slice a' j c') j (ops.map (Value.int .i64)) ∧ Cur wr p a len cap ∧ Below w.heap.size w wr)
      (fun _ i _ => m - (intOf i).toNat)
    case atStart => exact ⟨0, _, _, [], Nat.zero_le _, rfl, rfl, rfl, by simpa using O4.out, C4.out, B4.out⟩
    case round =>
      obtain ⟨j, a', c', ops, hj, rfl, hlen, rfl, hown, hcur, hbel⟩ := hrel
      have hsz := hbel.size
      have hpl := hcur.lt
      have HO := Lib.hid hown
      have HC := Lib.hid hcur
      have HE := Lib.hid hbel
      clear hown hcur hbel
      by_cases hlt : j < m
      · have hlt' : (j : Int) < (m : Int) := by omega
        go_wp2_with fail
        refine (below_any p a len cap 50 (by omega) (by omega) _ HC.out).mono ?_
        rintro e u1 ⟨x1, rfl, hx0, hx1, hd1, hg1⟩
        have D1 := Lib.hid hd1
        have E1 := Lib.hid (HE.out.trans (grown_below_ hg1 hp (by omega)))
        have P1 := Lib.hid (grown_keeps HO.out hg1 (Nat.lt_succ_self _))
        have t1 := hg1.size
        clear hd1 hg1
        go_wp2_with fail
        refine (below_any p a len cap 50 (by omega) (by omega) _ D1.out).mono ?_
        rintro e u2 ⟨x2, rfl, hy0, hy1, hd2, hg2⟩
        have hl2 := hd2.lt
        have D2 := Lib.hid (hd2.below_ ((Below.refl (p + 1) u2).alloc hd2.lt (.cells #[.int .i64 x1, .int .i64 x2, .int .i64 (-1), .int .i64 (-7)] 3)))
        have E2 := Lib.hid ((E1.out.trans (grown_below_ hg2 hp (by omega))).alloc (by have := hg2.size; omega) (.cells #[.int .i64 x1, .int .i64 x2, .int .i64 (-1), .int .i64 (-7)] 3))
        have P2 := Lib.hid ((grown_keeps P1.out hg2 (Nat.lt_succ_self _)).alloc (.cells #[.int .i64 x1, .int .i64 x2, .int .i64 (-1), .int .i64 (-7)] 3))
        have R2 := Lib.hid (row_cells (xs := [x1, x2, -1, -7]) (Blk.new u2 3 #[.int .i64 x1, .int .i64 x2, .int .i64 (-1), .int .i64 (-7)]) (by simp))
        have t2 := hg2.size
        clear hd2 hg2
        go_wp2_with fail
        refine (pick_any p a len cap u2.heap.size 4 [x1, x2, -1, -7] (by simp) (by simp) _ D2.out (by simp) (by omega) R2.out).mono ?_
        rintro e u3 ⟨k, hk, rfl, hd3, hg3⟩
        have hl3 := hd3.lt
        have E3 := Lib.hid (E2.out.trans (grown_below_ hg3 hp (by simp; omega)))
        have P3 := Lib.hid (grown_keeps P2.out hg3 (Nat.lt_succ_self _))
        have D3 := Lib.hid hd3
        have t3 := hg3.size
        simp only [World.size_alloc] at t3
        generalize el [x1, x2, -1, -7] k = X
        clear hd3 hg3 hk
        go_wp2_with (at_builtin; refine wpList_append_own _ rfl _ _ 24 rfl (p + 1) 3 i0 (.int .i64 0) 1 8 Try.underlying24 hi0 hz0 hz1 hz2 rfl (by decide) _ _ _ rfl (P3.out.alloc _) ⟨u3.heap.size, 0, none⟩ 1 1 [.int .i64 X] rfl rfl (cell_one_newI _ _ _) (one_i64 _) ?c3 ?c4 ?c5 ?_)
        case c3 => unfold maxLen; omega
        case c4 => omega
        case c5 => simp; omega
        intro v' u4 hown' hg _
        obtain ⟨a2, c2, rfl⟩ := owns_shape hown'
        have bo := ((Below.refl (p + 1) u3).alloc hl3 _).trans (below_own (P3.out.alloc _) hg (by simp; omega))
        have HC4 := Lib.hid (D3.out.below_ bo)
        have HE4 := Lib.hid (E3.out.trans (bo.mono (by omega)))
        have HO4 : Hid (u4.ownsRow (p + 1) 3 1 (.slice a2 (j + 1) c2) (j + 1) ((ops ++ [X]).map (Value.int .i64))) := Lib.hid (by rw [List.map_append]; exact hown')
        clear hown' hg bo
        go_wp2
        go_roundw
        case rel => exact ⟨j + 1, a2, c2, ops ++ [X], by omega, by go_num, by simp [hlen], rfl, HO4.out, HC4.out, HE4.out⟩
        case measure => simp [intOf]; omega
      · obtain rfl : j = m := by omega
        go_wp2_with fail
        refine (below_any p a len cap 8 (by omega) (by omega) _ HC.out).mono ?_
        rintro e u1 ⟨x1, rfl, hx0, hx1, hd1, hg1⟩
        have t1 := hg1.size
        have hl1 := hd1.lt
        have D1 := Lib.hid (hd1.below_ ((Below.refl (p + 1) u1).alloc hd1.lt (.cells #[.int .i64 1, .int .i64 2, .int .i64 3, .int .i64 (1 + x1), .int .i64 0, .int .i64 20, .int .i64 21] 3)))
        have E1 := Lib.hid ((HE.out.trans (grown_below_ hg1 hp (by omega))).alloc (by omega) (.cells #[.int .i64 1, .int .i64 2, .int .i64 3, .int .i64 (1 + x1), .int .i64 0, .int .i64 20, .int .i64 21] 3))
        have P1 := Lib.hid ((grown_keeps HO.out hg1 (Nat.lt_succ_self _)).alloc (.cells #[.int .i64 1, .int .i64 2, .int .i64 3, .int .i64 (1 + x1), .int .i64 0, .int .i64 20, .int .i64 21] 3))
        have R1 := Lib.hid (row_cells (xs := [1, 2, 3, 1 + x1, 0, 20, 21]) (Blk.new u1 3 #[.int .i64 1, .int .i64 2, .int .i64 3, .int .i64 (1 + x1), .int .i64 0, .int .i64 20, .int .i64 21]) (by simp))
        clear hd1 hg1
        go_wp2_with fail
        refine (pick_any p a len cap u1.heap.size 7 [1, 2, 3, 1 + x1, 0, 20, 21] (by simp) (by simp) _ D1.out (by simp) (by omega) R1.out).mono ?_
        rintro e u2 ⟨k, hk, rfl, hd2, hg2⟩
        have HP : Hid (OpsPost w (.returned (.tuple #[.int .i64 (el [1, 2, 3, 1 + x1, 0, 20, 21] k), .slice a' j c'])) u2) := Lib.hid (by
          subst hlen
          exact ⟨_, ops, a', c', rfl, hm1, owns_less (grown_keeps P1.out hg2 (Nat.lt_succ_self _)) (by omega), E1.out.trans (grown_below_ hg2 hp (by simp; omega))⟩)
        generalize el [1, 2, 3, 1 + x1, 0, 20, 21] k = X at HP ⊢
        clear hd2 hg2 hk
        go_wp2
        go_ret2
        exact HP.out

  | false =>
    obtain ⟨m, hm⟩ : ∃ m : Nat, n = (m : Int) := ⟨n.toNat, by omega⟩
    subst hm
    have hm1 : m ≤ 301 := by omega
    go_wp2
    go_loopw [5, 7] (fun v i wr => ∃ (j : Nat) (a' : Option Addr) (c' : Nat) (ops : List Int), j ≤ m ∧ i = .int .i64 j ∧ ops.length = j ∧ v = .slice a' j c' ∧ wr.ownsRow (p + 1) 3 1 (.slice a' j c') j (ops.map (Value.int .i64)) ∧ Cur wr p a len cap ∧ Below w.heap.size w wr)
      (fun _ i _ => m - (intOf i).toNat)
    case atStart => exact ⟨0, _, _, [], Nat.zero_le _, rfl, rfl, rfl, by simpa using O3.out, C3.out, B3.out⟩
    case round =>
      obtain ⟨j, a', c', ops, hj, rfl, hlen, rfl, hown, hcur, hbel⟩ := hrel
      have hsz := hbel.size
      have hpl := hcur.lt
      have HO := Lib.hid hown
      have HC := Lib.hid hcur
      have HE := Lib.hid hbel
      clear hown hcur hbel
      by_cases hlt : j < m
      · have hlt' : (j : Int) < (m : Int) := by omega
        go_wp2_with fail
        refine (below_any p a len cap 50 (by omega) (by omega) _ HC.out).mono ?_
        rintro e u1 ⟨x1, rfl, hx0, hx1, hd1, hg1⟩
        have D1 := Lib.hid hd1
        have E1 := Lib.hid (HE.out.trans (grown_below_ hg1 hp (by omega)))
        have P1 := Lib.hid (grown_keeps HO.out hg1 (Nat.lt_succ_self _))
        have t1 := hg1.size
        clear hd1 hg1
        go_wp2_with fail
        refine (below_any p a len cap 50 (by omega) (by omega) _ D1.out).mono ?_
        rintro e u2 ⟨x2, rfl, hy0, hy1, hd2, hg2⟩
        have hl2 := hd2.lt
        have D2 := Lib.hid (hd2.below_ ((Below.refl (p + 1) u2).alloc hd2.lt (.cells #[.int .i64 x1, .int .i64 x2, .int .i64 (-1), .int .i64 (-7)] 3)))
        have E2 := Lib.hid ((E1.out.trans (grown_below_ hg2 hp (by omega))).alloc (by have := hg2.size; omega) (.cells #[.int .i64 x1, .int .i64 x2, .int .i64 (-1), .int .i64 (-7)] 3))
        have P2 := Lib.hid ((grown_keeps P1.out hg2 (Nat.lt_succ_self _)).alloc (.cells #[.int .i64 x1, .int .i64 x2, .int .i64 (-1), .int .i64 (-7)] 3))
        have R2 := Lib.hid (row_cells (xs := [x1, x2, -1, -7]) (Blk.new u2 3 #[.int .i64 x1, .int .i64 x2, .int .i64 (-1), .int .i64 (-7)]) (by simp))
        have t2 := hg2.size
        clear hd2 hg2
        go_wp2_with fail
        refine (pick_any p a len cap u2.heap.size 4 [x1, x2, -1, -7] (by simp) (by simp) _ D2.out (by simp) (by omega) R2.out).mono ?_
        rintro e u3 ⟨k, hk, rfl, hd3, hg3⟩
        have hl3 := hd3.lt
        have E3 := Lib.hid (E2.out.trans (grown_below_ hg3 hp (by simp; omega)))
        have P3 := Lib.hid (grown_keeps P2.out hg3 (Nat.lt_succ_self _))
        have D3 := Lib.hid hd3
        have t3 := hg3.size
        simp only [World.size_alloc] at t3
        generalize el [x1, x2, -1, -7] k = X
        clear hd3 hg3 hk
        go_wp2_with (at_builtin; refine wpList_append_own _ rfl _ _ 24 rfl (p + 1) 3 i0 (.int .i64 0) 1 8 Try.underlying24 hi0 hz0 hz1 hz2 rfl (by decide) _ _ _ rfl (P3.out.alloc _) ⟨u3.heap.size, 0, none⟩ 1 1 [.int .i64 X] rfl rfl (cell_one_newI _ _ _) (one_i64 _) ?c3 ?c4 ?c5 ?_)
        case c3 => unfold maxLen; omega
        case c4 => omega
        case c5 => simp; omega
        intro v' u4 hown' hg _
        obtain ⟨a2, c2, rfl⟩ := owns_shape hown'
        have bo := ((Below.refl (p + 1) u3).alloc hl3 _).trans (below_own (P3.out.alloc _) hg (by simp; omega))
        have HC4 := Lib.hid (D3.out.below_ bo)
        have HE4 := Lib.hid (E3.out.trans (bo.mono (by omega)))
        have HO4 : Hid (u4.ownsRow (p + 1) 3 1 (.slice a2 (j + 1) c2) (j + 1) ((ops ++ [X]).map (Value.int .i64))) := Lib.hid (by rw [List.map_append]; exact hown')
        clear hown' hg bo
        go_wp2
        go_roundw
        case rel => exact ⟨j + 1, a2, c2, ops ++ [X], by omega, by go_num, by simp [hlen], rfl, HO4.out, HC4.out, HE4.out⟩
        case measure => simp [intOf]; omega
      · obtain rfl : j = m := by omega
        go_wp2_with fail
        refine (below_any p a len cap 8 (by omega) (by omega) _ HC.out).mono ?_
        rintro e u1 ⟨x1, rfl, hx0, hx1, hd1, hg1⟩
        have t1 := hg1.size
        have hl1 := hd1.lt
        have D1 := Lib.hid (hd1.below_ ((Below.refl (p + 1) u1).alloc hd1.lt (.cells #[.int .i64 1, .int .i64 2, .int .i64 3, .int .i64 (1 + x1), .int .i64 0, .int .i64 20, .int .i64 21] 3)))
        have E1 := Lib.hid ((HE.out.trans (grown_below_ hg1 hp (by omega))).alloc (by omega) (.cells #[.int .i64 1, .int .i64 2, .int .i64 3, .int .i64 (1 + x1), .int .i64 0, .int .i64 20, .int .i64 21] 3))
        have P1 := Lib.hid ((grown_keeps HO.out hg1 (Nat.lt_succ_self _)).alloc (.cells #[.int .i64 1, .int .i64 2, .int .i64 3, .int .i64 (1 + x1), .int .i64 0, .int .i64 20, .int .i64 21] 3))
        have R1 := Lib.hid (row_cells (xs := [1, 2, 3, 1 + x1, 0, 20, 21]) (Blk.new u1 3 #[.int .i64 1, .int .i64 2, .int .i64 3, .int .i64 (1 + x1), .int .i64 0, .int .i64 20, .int .i64 21]) (by simp))
        clear hd1 hg1
        go_wp2_with fail
        refine (pick_any p a len cap u1.heap.size 7 [1, 2, 3, 1 + x1, 0, 20, 21] (by simp) (by simp) _ D1.out (by simp) (by omega) R1.out).mono ?_
        rintro e u2 ⟨k, hk, rfl, hd2, hg2⟩
        have HP : Hid (OpsPost w (.returned (.tuple #[.int .i64 (el [1, 2, 3, 1 + x1, 0, 20, 21] k), .slice a' j c'])) u2) := Lib.hid (by
          subst hlen
          exact ⟨_, ops, a', c', rfl, hm1, owns_less (grown_keeps P1.out hg2 (Nat.lt_succ_self _)) (by omega), E1.out.trans (grown_below_ hg2 hp (by simp; omega))⟩)
        generalize el [1, 2, 3, 1 + x1, 0, 20, 21] k = X at HP ⊢
        clear hd2 hg2 hk
        go_wp2
        go_ret2
        exact HP.out

end Go.Proofs.Ytkconbmgljmpfaa
