/- Contracts of push and pop of a ring behind a pointer, its slots a row of the call's own. -/
import Derived.Test.YtkconbmgljmpfaaRing3
namespace Go.Proofs.Ytkconbmgljmpfaa
open Go.RowKit

/-- Of all that was there only block q and one row turn. -/
structure Two (w w' : World) (q : Nat) (row : Option Nat) : Prop where
  os : w'.os = w.os
  tape : w'.tape = w.tape
  output : w'.output = w.output
  size : w.heap.size ≤ w'.heap.size
  block : ∀ k, k < w.heap.size → k ≠ q → some k ≠ row → w'.heap[k]? = w.heap[k]?
theorem Two.refl (w : World) (q : Nat) (row : Option Nat) : Two w w q row := ⟨rfl, rfl, rfl, Nat.le_refl _, fun _ _ _ _ => rfl⟩
theorem Two.trans {a b c : World} {q : Nat} {row : Option Nat} (h : Two a b q row) (k : Two b c q row) : Two a c q row :=
  ⟨k.os.trans h.os, k.tape.trans h.tape, k.output.trans h.output, Nat.le_trans h.size k.size, fun i hi h1 h2 => (k.block i (Nat.lt_of_lt_of_le hi h.size) h1 h2).trans (h.block i hi h1 h2)⟩
theorem Two.of_below {w w' : World} {q : Nat} {row : Option Nat} (h : Below w.heap.size w w') : Two w w' q row := ⟨h.os, h.tape, h.output, h.size, fun k hk _ _ => h.block k hk⟩
theorem Two.of_row {w w' : World} {q : Nat} {row : Option Nat} (h : w.grownBy w' row) : Two w w' q row := ⟨h.os, h.tape, h.output, h.size, fun k hk _ h2 => h.block k hk h2⟩
theorem Two.of_blk {w w' : World} {q : Nat} {row : Option Nat} (h : w.grownBy w' (some q)) : Two w w' q row := ⟨h.os, h.tape, h.output, h.size, fun k hk h1 _ => h.block k hk (fun e => h1 (by injection e))⟩
theorem Two.below {w w' : World} {q B : Nat} {row : Option Nat} (h : Two w w' q row) (hq : B ≤ q) (hr : ∀ k, row = some k → B ≤ k) (hB : B ≤ w.heap.size) : Below B w w' :=
  ⟨h.os, h.tape, h.output, h.size, fun k hk => h.block k (by omega) (by omega) (fun e => by have := hr k e.symm; omega)⟩
theorem Blk.two {w w' : World} {g q : Nat} {t : TypeId} {cs : Array Value} {row : Option Nat} (h : Blk w g t cs) (k : Two w w' q row) (h1 : g ≠ q) (h2 : some g ≠ row) : Blk w' g t cs := (k.block g h.lt h1 h2).trans h
theorem Two.drew {w w' : World} {q : Nat} {row : Option Nat} (h : Two w.drew w' q row) : Two w w' q row := ⟨h.os, h.tape, h.output, h.size, h.block⟩
theorem Two.drewN {w w' : World} {n q : Nat} {row : Option Nat} (h : Two (w.drewN n) w' q row) : Two w w' q row := ⟨h.os, h.tape, h.output, h.size, h.block⟩

/-- A row of ints of the call's own with at least one place: its block. -/
theorem own_block {w : World} {lo n c : Nat} {T : TypeId} {a : Option Addr} {xs : List Int} (h : w.ownsRow lo T 1 (.slice a n c) n (xs.map (Value.int .i64))) (hn : 1 ≤ n) : ∃ g, a = some ⟨g, 0, none⟩ ∧ lo ≤ g ∧ g < w.heap.size := by
  rcases h.2 with ⟨hv, h1⟩ | ⟨g, cap, cur, hv, hlo, hh, _⟩
  · omega
  · simp only [Value.slice.injEq] at hv
    exact ⟨g, hv.1, hlo, (Array.getElem?_eq_some_iff.1 hh).1⟩

theorem Blk.far_ {w : World} {g : Nat} {t : TypeId} {cs : Array Value} (h : Blk w g t cs) {p : Addr} (hp : g ≠ p.block) (u : Value) : Blk (w.setCell p u) g t cs := (Below.heap_setCell w p u g hp).trans h
theorem set_same {cs : Array Value} {i : Nat} {v : Value} (h : cs[i]? = some v) : cs.setIfInBounds i v = cs := by
  apply Array.ext_getElem?
  intro j
  rw [Array.getElem?_setIfInBounds]
  split
  · rename_i e; subst e; rw [h]; split
    · rfl
    · rename_i hh; exact absurd (Array.getElem?_eq_some_iff.1 h).1 hh
  · rfl
theorem set_other {cs : Array Value} {i j : Nat} {v u : Value} (h : cs[i]? = some v) (hij : i ≠ j) : (cs.setIfInBounds j u)[i]? = some v := by
  rw [Array.getElem?_setIfInBounds, if_neg (fun e => hij e.symm)]; exact h
theorem set_here {cs : Array Value} {i : Nat} {v u : Value} (h : cs[i]? = some v) : (cs.setIfInBounds i u)[i]? = some u := by
  rw [Array.getElem?_setIfInBounds, if_pos rfl, if_pos (Array.getElem?_eq_some_iff.1 h).1]

theorem Blk.at_ {w W w1 : World} {g : Nat} {t : TypeId} {cs : Array Value} (h : Blk w g t cs) (hb : Below W.heap.size W w1) (e : W.heap = w.heap := by rfl) : Blk w1 g t cs := by
  have h' : Blk W g t cs := by unfold Blk at h ⊢; rw [e]; exact h
  exact h'.below hb
theorem owns_at {w W w1 : World} {lo : Nat} {T : TypeId} {sz : Nat} {v : Value} {n : Nat} {xs : List Value} (h : w.ownsRow lo T sz v n xs) (hb : Below W.heap.size W w1) (e : W.heap = w.heap := by rfl) : w1.ownsRow lo T sz v n xs := by
  have h' : W.ownsRow lo T sz v n xs := by
    refine ⟨h.1, ?_⟩
    rcases h.2 with h2 | ⟨g, cap, cur, hv, hg, hh, r⟩
    · exact .inl h2
    · exact .inr ⟨g, cap, cur, hv, hg, by rw [e]; exact hh, r⟩
  exact owns_below h' hb
theorem two_at {w W w1 : World} {q : Nat} {row : Option Nat} (hb : Below W.heap.size W w1) (e : W.heap = w.heap := by rfl) (e1 : W.os = w.os := by rfl) (e2 : W.tape = w.tape := by rfl) (e3 : W.output = w.output := by rfl) : Two w w1 q row :=
  ⟨hb.os.trans e1, hb.tape.trans e2, hb.output.trans e3, by rw [← e]; exact hb.size, fun k hk _ _ => by rw [← e]; exact hb.block k (by rw [e]; exact hk)⟩

/-- What push does. -/
def PushPost (q : Nat) (T : TypeId) (cs : Array Value) (lo : Nat) (a : Option Addr) (c : Nat) (xs ys : List Int) (ct' : Int) (ok : Bool) (w : World) (e : Ending) (w' : World) : Prop :=
  e = .returned (.bool ok) ∧ Blk w' q T (cs.setIfInBounds 2 (.int .i64 ct')) ∧ w'.ownsRow lo 3 1 (.slice a xs.length c) xs.length (ys.map (Value.int .i64)) ∧ Two w w' q (Value.slice a xs.length c).ownBlock

set_option maxHeartbeats 2000000 in
set_option maxRecDepth 100000 in
theorem push_any (q : Nat) (T : TypeId) (cs : Array Value) (lo : Nat) (a : Option Addr) (c : Nat) (p k : Nat) (x : Int) (xs : List Int) (w : World)
    (hq : Blk w q T cs) (h0 : cs[0]? = some (.slice a xs.length c)) (h1 : cs[1]? = some (.int .i64 (p : Int))) (h2 : cs[2]? = some (.int .i64 (k : Int)))
    (ho : w.ownsRow lo 3 1 (.slice a xs.length c) xs.length (xs.map (Value.int .i64))) (hqr : (Value.slice a xs.length c).ownBlock ≠ some q) (n1 : 1 ≤ xs.length) (n2 : xs.length ≤ 20) (hp : p < xs.length) (hk : k ≤ xs.length) :
    Calls Try.prog 59 #[.pointer (some ⟨q, 0, none⟩), .int .i64 x] w (PushPost q T cs lo a c xs (if k < xs.length then xs.set ((p + k) % xs.length) x else xs) (if k < xs.length then (k : Int) + 1 else k) (decide (k < xs.length)) w) := by
  have hl := hq.lt
  have q0 := (hq.cell 0).trans h0
  have q1 := (hq.cell 1).trans h1
  have q2 := (hq.cell 2).trans h2
  obtain ⟨_, hN⟩ := Nums.of_own ho
  have hcap := hN.cap
  have hbig := hN.big
  by_cases hf : k < xs.length
  · rw [if_pos hf, if_pos hf, decide_eq_true hf]
    obtain ⟨g, rfl, hg1, hg2⟩ := own_block ho n1
    have hne : g ≠ q := fun e => hqr (by rw [e]; rfl)
    clear hqr
    have hml : (p + k) % xs.length < xs.length := Nat.mod_lt _ (by omega)
    have PL : Hid (∀ W, Calls Try.prog 68 #[.agg #[.slice (some ⟨g, 0, none⟩) xs.length c, .int .i64 (p : Int), .int .i64 (k : Int)], .int .i64 (k : Int)] W fun e w' => e = .returned (.int .i64 (((p + k) % xs.length : Nat) : Int)) ∧ Below W.heap.size W w') :=
      fun W => place_any _ _ _ _ p k W n1 n2 hp (by omega)
    generalize (p + k) % xs.length = M at PL hml
    have HQ := Lib.hid hq
    have HO := Lib.hid ho
    have H0 := Lib.hid h0
    have H2 := Lib.hid h2
    have hkn : ((k : Int) == (xs.length : Int)) = false := by rw [beq_eq_false_iff_ne]; omega
    clear hN hq ho h0 h1 h2
    go_enter Try.func59, Try.ntmps59
    go_wp2
    go_quiet (fail)
    all_goals
      go_wp2_with fail
      go_region_with (go_at_call 68; refine (PL.out _).mono ?_; rintro e w1 ⟨rfl, hb⟩; have HQ1 := Lib.hid (HQ.out.at_ hb); have z0 := (HQ1.out.cell 0).trans H0.out; have ho1 := owns_at HO.out hb; have z1 := ho1.cellAt M (by omega); have z2 := ho1.frozenAt M; have HO1 := Lib.hid ho1; have HT1 := Lib.hid (two_at (w := w) (q := q) (row := some g) hb); clear hb ho1)
      all_goals
        have s1 := HO1.out.stored M (.int .i64 x)
        rw [← List.map_set] at s1
        have HQ2 := Lib.hid (HQ1.out.far_ (p := ⟨g, M, none⟩) (fun e => hne e.symm) (.int .i64 x))
        have k2 := (HQ2.out.cell 2).trans H2.out
        have kf := HQ2.out.frozen 2
        have HP : Hid (PushPost q T cs lo (some ⟨g, 0, none⟩) c xs (xs.set M x) ((k : Int) + 1) true w (.returned (.bool true)) ((w1.setCell ⟨g, M, none⟩ (.int .i64 x)).setCell ⟨q, 2, none⟩ (.int .i64 ((k : Int) + 1)))) :=
          ⟨rfl, HQ2.out.set_ 2 _, s1.1.kept (grown_setCell _ q 2 _) (.inr (fun e => hne (by injection e))), (HT1.out.trans (Two.of_row s1.2)).trans (Two.of_blk (grown_setCell _ _ _ _))⟩
        clear s1
        go_wp2
        go_ret
        exact HP.out
  · obtain rfl : k = xs.length := by omega
    rw [if_neg hf, if_neg hf, decide_eq_false hf]
    have HP : Hid (∀ n, PushPost q T cs lo a c xs xs (xs.length : Int) false w (.returned (.bool false)) (w.drewN n)) := by
      refine fun n => ⟨rfl, ?_, ho, ⟨rfl, rfl, rfl, Nat.le_refl _, fun _ _ _ _ => rfl⟩⟩
      rw [set_same h2]; exact hq
    clear hN hq ho h0 h1 h2
    go_enter Try.func59, Try.ntmps59
    go_wp2
    go_quiet (fail)
    all_goals
      go_wp2
      go_ret
      exact HP.out _

/-- What pop does. -/
def PopPost (q : Nat) (T : TypeId) (cs : Array Value) (lo : Nat) (a : Option Addr) (c : Nat) (xs ys : List Int) (hd' ct' x : Int) (ok : Bool) (w : World) (e : Ending) (w' : World) : Prop :=
  e = .returned (.tuple #[.int .i64 x, .bool ok]) ∧ Blk w' q T ((cs.setIfInBounds 1 (.int .i64 hd')).setIfInBounds 2 (.int .i64 ct')) ∧ w'.ownsRow lo 3 1 (.slice a xs.length c) xs.length (ys.map (Value.int .i64)) ∧ Two w w' q (Value.slice a xs.length c).ownBlock

set_option maxHeartbeats 2000000 in
set_option maxRecDepth 100000 in
theorem pop_any (q : Nat) (T : TypeId) (cs : Array Value) (lo : Nat) (a : Option Addr) (c : Nat) (p k : Nat) (xs : List Int) (w : World)
    (hq : Blk w q T cs) (h0 : cs[0]? = some (.slice a xs.length c)) (h1 : cs[1]? = some (.int .i64 (p : Int))) (h2 : cs[2]? = some (.int .i64 (k : Int)))
    (ho : w.ownsRow lo 3 1 (.slice a xs.length c) xs.length (xs.map (Value.int .i64))) (hqr : (Value.slice a xs.length c).ownBlock ≠ some q) (n1 : 1 ≤ xs.length) (n2 : xs.length ≤ 20) (hp : p < xs.length) (hk : k ≤ xs.length) :
    Calls Try.prog 60 #[.pointer (some ⟨q, 0, none⟩)] w (PopPost q T cs lo a c xs (if 0 < k then xs.set p 0 else xs) (if 0 < k then (((p + 1) % xs.length : Nat) : Int) else p) (if 0 < k then (k : Int) - 1 else k) (if 0 < k then el xs p else 0) (decide (0 < k)) w) := by
  have hl := hq.lt
  have q0 := (hq.cell 0).trans h0
  have q1 := (hq.cell 1).trans h1
  have q2 := (hq.cell 2).trans h2
  obtain ⟨_, hN⟩ := Nums.of_own ho
  have hcap := hN.cap
  have hbig := hN.big
  by_cases hf : 0 < k
  · rw [if_pos hf, if_pos hf, if_pos hf, if_pos hf, decide_eq_true hf]
    obtain ⟨g, rfl, hg1, hg2⟩ := own_block ho n1
    have hne : g ≠ q := fun e => hqr (by rw [e]; rfl)
    clear hqr
    have PL : Hid (∀ W, Calls Try.prog 68 #[.agg #[.slice (some ⟨g, 0, none⟩) xs.length c, .int .i64 (p : Int), .int .i64 (k : Int)], .int .i64 1] W fun e w' => e = .returned (.int .i64 (((p + 1) % xs.length : Nat) : Int)) ∧ Below W.heap.size W w') :=
      fun W => place_any _ _ _ _ p 1 W n1 n2 hp (by omega)
    generalize (p + 1) % xs.length = M at PL
    have z0 := (ho.cellAt p (by omega)).trans (el_cell .i64 xs p hp)
    have z1 := ho.frozenAt p
    have HQ := Lib.hid hq
    have HO := Lib.hid ho
    have H0 := Lib.hid h0
    have H1 := Lib.hid h1
    have H2 := Lib.hid h2
    have hkn : ((k : Int) == 0) = false := by rw [beq_eq_false_iff_ne]; omega
    clear hN hq ho h0 h1 h2
    go_enter Try.func60, Try.ntmps60
    go_wp2
    go_quiet (fail)
    all_goals
      go_wp2_with fail
      go_region_with (fail)
      all_goals
        have s1 := (show (w.drewN (nq + 1)).ownsRow lo 3 1 (.slice (some ⟨g, 0, none⟩) xs.length c) xs.length (xs.map (Value.int .i64)) from HO.out).stored p (.int .i64 0)
        rw [← List.map_set] at s1
        have S1 := Lib.hid s1.1
        have T1 := Lib.hid (Two.drewN (Two.of_row (q := q) s1.2))
        have HQ2 := Lib.hid (Blk.far_ (w := w.drewN (nq + 1)) (p := ⟨g, p, none⟩) HQ.out (fun e => hne e.symm) (.int .i64 0))
        have k0 := (HQ2.out.cell 0).trans H0.out
        have k1 := (HQ2.out.cell 1).trans H1.out
        have k2 := (HQ2.out.cell 2).trans H2.out
        clear s1 z0 z1 q0 q1 q2
        go_wp2_with fail
        refine (PL.out _).mono ?_
        rintro e w3 ⟨rfl, hb⟩
        have HQ3 := Lib.hid (HQ2.out.below hb)
        have S3 := Lib.hid (owns_below S1.out hb)
        have T3 := Lib.hid (T1.out.trans (Two.of_below hb))
        have f1 := HQ3.out.frozen 1
        have f1' := (HQ3.out.cell 1).trans H1.out
        have hl3 := HQ3.out.lt
        have HQ4 := Lib.hid (HQ3.out.set_ 1 (.int .i64 (M : Int)))
        have m2 := (HQ4.out.cell 2).trans (set_other H2.out (by omega))
        have f2 := HQ4.out.frozen 2
        have HP : Hid (PopPost q T cs lo (some ⟨g, 0, none⟩) c xs (xs.set p 0) (M : Int) ((k : Int) - 1) (el xs p) true w (.returned (.tuple #[.int .i64 (el xs p), .bool true])) ((w3.setCell ⟨q, 1, none⟩ (.int .i64 (M : Int))).setCell ⟨q, 2, none⟩ (.int .i64 ((k : Int) - 1)))) :=
          ⟨rfl, HQ4.out.set_ 2 _, (S3.out.kept (grown_setCell _ q 1 _) (.inr (fun e => hne (by injection e)))).kept (grown_setCell _ q 2 _) (.inr (fun e => hne (by injection e))), (T3.out.trans (Two.of_blk (grown_setCell _ _ _ _))).trans (Two.of_blk (grown_setCell _ _ _ _))⟩
        clear hb k0 k1 k2
        go_wp2
        exact bodyPost_ret (v := .tuple #[.int .i64 (el xs p), .bool true]) (by simp [results, Try.results60, go_sem]) rfl HP.out
  · obtain rfl : k = 0 := by omega
    rw [if_neg hf, if_neg hf, if_neg hf, if_neg hf, decide_eq_false hf]
    have HP : Hid (PopPost q T cs lo a c xs xs (p : Int) ((0 : Nat) : Int) 0 false w (.returned (.tuple #[.int .i64 0, .bool false])) w) := by
      refine ⟨rfl, ?_, ho, Two.refl _ _ _⟩
      rw [set_same h1, set_same h2]; exact hq
    clear hN hq ho h0 h1 h2
    go_enter Try.func60, Try.ntmps60
    go_wp2
    exact bodyPost_ret (v := .tuple #[.int .i64 0, .bool false]) (by simp [results, Try.results60, go_sem]) rfl HP.out

end Go.Proofs.Ytkconbmgljmpfaa
