/- Contract of (impl.Source).play: what one event does. -/
import Derived.Test.YtcjmigjkjepkdaaSrc4
import Derived.Test.YtcjmigjkjepkdaaPlainPlay
import Derived.Test.YtcjmigjkjepkdaaRowsS2
import Derived.Deep.QuietTactic
namespace Go.Proofs.Ytcjmigjkjepkdaa
open Go.RowKit

theorem Blk.belowD {w w' : World} {g n : Nat} {t : TypeId} {cs : Array Value} (h : Blk w g t cs) (hb : Below (w.drewN n).heap.size (w.drewN n) w') : Blk w' g t cs := Blk.below (w := w.drewN n) h hb
theorem below_viaD {lo n : Nat} {w W w' : World} (h : Below lo w W) (hb : Below (W.drewN n).heap.size (W.drewN n) w') (hlo : lo ≤ W.heap.size) : Below lo w w' := (below_drewN h n).trans (hb.mono hlo)
theorem SrcRes.as {S S' : Src} {b b' : Bool} {w w' : World} {e : Ending} (h : SrcRes S b w e w') (e1 : S' = S) (e2 : b' = b) : SrcRes S' b' w e w' := by subst e1 e2; exact h

set_option maxHeartbeats 2000000 in
set_option maxRecDepth 100000 in
theorem play_x (x m s : Int) (i o : Bool) (l af : Int) (a : Option Addr) (n c : Nat) (ev : List Int) (hi : Nat) (w : World) (hr : Nums .i64 w hi a c ev) (hn : n = ev.length) (hB : hi ≤ w.heap.size) :
    Calls Try.prog 28 #[(.agg #[.int .i64 x, .int .i64 m, .int .i64 s, .bool i, .bool o]), .int .i64 l, .int .i64 af, .slice a n c] w (SrcRes (psT l af ev ⟨x, m, s, i, o⟩) (psK l af ev ⟨x, m, s, i, o⟩) w) := by
  have J0 := Lib.hid ((Blk.new w 28 #[.int .i64 x, .int .i64 m, .int .i64 s, .bool i, .bool o]).alloc (.cells #[.int .i64 0, .int .i64 0, .int .i64 0, .bool false, .bool false] 28))
  have k1 := Blk.new (w.alloc (.cells #[.int .i64 x, .int .i64 m, .int .i64 s, .bool i, .bool o] 28)) 28 #[.int .i64 0, .int .i64 0, .int .i64 0, .bool false, .bool false]
  simp only [World.size_alloc] at k1
  have J1 := Lib.hid k1
  have BB := Lib.hid (((Below.refl w.heap.size w).alloc (Nat.le_refl _) (.cells #[.int .i64 x, .int .i64 m, .int .i64 s, .bool i, .bool o] 28)).alloc (by simp) (.cells #[.int .i64 0, .int .i64 0, .int .i64 0, .bool false, .bool false] 28))
  clear k1
  have hc1 := hr.cap
  have hc2 := hr.big
  by_cases h3 : n = 3
  · subst h3
    obtain ⟨b, off, rfl, hb, hc⟩ := hr.lies.resolve_left (by intro h; subst h; simp at hn)
    have c0 := hc 0 (by omega)
    have c1 := hc 1 (by omega)
    have c2 := hc 2 (by omega)
    have hbw : b < w.heap.size := by omega
    have P0 := Lib.hid (fun h => ps_0 (l := l) (a := af) (S := ⟨x, m, s, i, o⟩) hn.symm h)
    have P1 := Lib.hid (fun h => ps_1 (l := l) (a := af) (S := ⟨x, m, s, i, o⟩) hn.symm h)
    have P2 := Lib.hid (fun h => ps_2 (l := l) (a := af) (S := ⟨x, m, s, i, o⟩) hn.symm h)
    have P3 := Lib.hid (fun h => ps_3 (l := l) (a := af) (S := ⟨x, m, s, i, o⟩) hn.symm h)
    have P4 := Lib.hid (ps_4 (l := l) (a := af) (S := ⟨x, m, s, i, o⟩) (e := ev))
    rw [Nat.add_zero] at c0
    clear hc hr hn
    generalize el ev 0 = e0 at c0 P0 P1 P2 P3 P4
    generalize el ev 1 = e1 at c1 P0 P1 P2 P3 P4
    generalize el ev 2 = e2 at c2 P0 P1 P2 P3 P4
    generalize psT l af ev ⟨x, m, s, i, o⟩ = TT at P0 P1 P2 P3 P4 ⊢
    generalize psK l af ev ⟨x, m, s, i, o⟩ = KK at P0 P1 P2 P3 P4 ⊢
    by_cases z0 : e0 = 0
    · subst z0
      have e8 := P0.out rfl
      rw [e8.1, e8.2]
      clear e8 P0 P1 P2 P3 P4
      have HE := Lib.hid (implEvent_any ⟨x, m, s, i, o⟩ l e1 e2)
      generalize evT ⟨x, m, s, i, o⟩ l e1 e2 = R at HE ⊢
      generalize evOk ⟨x, m, s, i, o⟩ l e1 e2 = K at HE ⊢
      obtain ⟨x', m', s', i', o'⟩ := R
      go_enter Try.func28, Try.ntmps28
      go_wp2
      go_quiet (fail)
      go_wp2_with fail
      refine (HE.out _).mono ?_
      rintro e w1 ⟨rfl, hb⟩
      have BB2 := Lib.hid (below_viaD BB.out hb (by simp; omega))
      have k1 := J1.out.belowD hb
      have q1 := k1.cell
      have f1 := k1.frozen
      have l1 := hb.size
      clear hb k1
      go_wp2
      exact bodyPost_ret (v := .tuple #[(.agg #[.int .i64 x', .int .i64 m', .int .i64 s', .bool i', .bool o']), .bool K]) (by simp [results, Try.results28, go_sem, q1]) rfl ⟨rfl, below_set5 BB2.out (by omega) _ _ _ _ _⟩
    by_cases z1 : e0 = 1
    · subst z1
      have e8 := P1.out rfl
      rw [e8.1, e8.2]
      clear e8 P0 P1 P2 P3 P4
      have HE := Lib.hid (implMark_any ⟨x, m, s, i, o⟩ e1 e2)
      generalize mkT ⟨x, m, s, i, o⟩ e1 e2 = R at HE ⊢
      generalize mkOk ⟨x, m, s, i, o⟩ e1 e2 = K at HE ⊢
      obtain ⟨x', m', s', i', o'⟩ := R
      go_enter Try.func28, Try.ntmps28
      go_wp2
      go_quiet (fail)
      go_wp2_with fail
      refine (HE.out _).mono ?_
      rintro e w1 ⟨rfl, hb⟩
      have BB2 := Lib.hid (below_viaD BB.out hb (by simp; omega))
      have k1 := J1.out.belowD hb
      have q1 := k1.cell
      have f1 := k1.frozen
      have l1 := hb.size
      clear hb k1
      go_wp2
      exact bodyPost_ret (v := .tuple #[(.agg #[.int .i64 x', .int .i64 m', .int .i64 s', .bool i', .bool o']), .bool K]) (by simp [results, Try.results28, go_sem, q1]) rfl ⟨rfl, below_set5 BB2.out (by omega) _ _ _ _ _⟩
    by_cases z2 : e0 = 2
    · subst z2
      have e8 := P2.out rfl
      rw [e8.1, e8.2]
      clear e8 P0 P1 P2 P3 P4
      have HE := Lib.hid (implTickS_any ⟨x, m, s, i, o⟩ af e2)
      generalize ttT ⟨x, m, s, i, o⟩ af e2 = R at HE ⊢
      generalize ttOk ⟨x, m, s, i, o⟩ af e2 = K at HE ⊢
      obtain ⟨x', m', s', i', o'⟩ := R
      go_enter Try.func28, Try.ntmps28
      go_wp2
      go_quiet (fail)
      go_wp2_with fail
      refine (HE.out _).mono ?_
      rintro e w1 ⟨rfl, hb⟩
      have BB2 := Lib.hid (below_viaD BB.out hb (by simp; omega))
      have k1 := J1.out.belowD hb
      have q1 := k1.cell
      have f1 := k1.frozen
      have l1 := hb.size
      clear hb k1
      go_wp2
      exact bodyPost_ret (v := .tuple #[(.agg #[.int .i64 x', .int .i64 m', .int .i64 s', .bool i', .bool o']), .bool K]) (by simp [results, Try.results28, go_sem, q1]) rfl ⟨rfl, below_set5 BB2.out (by omega) _ _ _ _ _⟩
    by_cases z3 : e0 = 3
    · subst z3
      have e8 := P3.out rfl
      rw [e8.1, e8.2]
      clear e8 P0 P1 P2 P3 P4
      have HE := Lib.hid (implClose_any ⟨x, m, s, i, o⟩)
      generalize clT ⟨x, m, s, i, o⟩ = R at HE ⊢
      generalize clOk ⟨x, m, s, i, o⟩ = K at HE ⊢
      obtain ⟨x', m', s', i', o'⟩ := R
      go_enter Try.func28, Try.ntmps28
      go_wp2
      go_quiet (fail)
      go_wp2_with fail
      refine (HE.out _).mono ?_
      rintro e w1 ⟨rfl, hb⟩
      have BB2 := Lib.hid (below_viaD BB.out hb (by simp; omega))
      have k1 := J1.out.belowD hb
      have q1 := k1.cell
      have f1 := k1.frozen
      have l1 := hb.size
      clear hb k1
      go_wp2
      exact bodyPost_ret (v := .tuple #[(.agg #[.int .i64 x', .int .i64 m', .int .i64 s', .bool i', .bool o']), .bool K]) (by simp [results, Try.results28, go_sem, q1]) rfl ⟨rfl, below_set5 BB2.out (by omega) _ _ _ _ _⟩
    have e8 := P4.out z0 z1 z2 z3
    rw [e8.1, e8.2]
    clear e8 P0 P1 P2 P3 P4
    have HP := Lib.hid fun (a b c d e : Value) (k : Nat) => below_set5 (below_drewN BB.out k) (show w.heap.size ≤ w.heap.size + 1 by omega) a b c d e
    go_enter Try.func28, Try.ntmps28
    go_wp2
    go_quiet (fail)
    go_wp2
    exact bodyPost_ret (v := .tuple #[(.agg #[.int .i64 x, .int .i64 m, .int .i64 s, .bool i, .bool o]), .bool false]) (by simp [results, Try.results28, go_sem]) rfl ⟨rfl, HP.out _ _ _ _ _ _⟩
  · have e8 := ps_len (l := l) (a := af) (S := ⟨x, m, s, i, o⟩) (show ¬ ev.length = 3 by omega)
    rw [e8.1, e8.2]
    have h3' : ¬ ((n : Int) = 3) := by omega
    clear e8 hr hn h3
    have HP := Lib.hid fun (a b c d e : Value) => ((Below.refl w.heap.size w).alloc (Nat.le_refl _) (.cells #[.int .i64 x, .int .i64 m, .int .i64 s, .bool i, .bool o] 28)).alloc (by simp) (.cells #[a, b, c, d, e] 28)
    go_enter Try.func28, Try.ntmps28
    go_wp2
    exact bodyPost_ret (v := .tuple #[(.agg #[.int .i64 x, .int .i64 m, .int .i64 s, .bool i, .bool o]), .bool false]) (by simp [results, Try.results28, go_sem]) rfl ⟨rfl, HP.out _ _ _ _ _⟩
theorem play_any (S : Src) (l af : Int) (a : Option Addr) (n c : Nat) (ev : List Int) (hi : Nat) (w : World) (hr : Nums .i64 w hi a c ev) (hn : n = ev.length) (hB : hi ≤ w.heap.size) :
    Calls Try.prog 28 #[(.agg #[.int .i64 S.x, .int .i64 S.m, .int .i64 S.s, .bool S.i, .bool S.o]), .int .i64 l, .int .i64 af, .slice a n c] w (SrcRes (psT l af ev S) (psK l af ev S) w) := play_x S.x S.m S.s S.i S.o l af a n c ev hi w hr hn hB
end Go.Proofs.Ytcjmigjkjepkdaa
