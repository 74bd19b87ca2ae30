/- Contract of spec.PlayLink, at every argument. -/
import Derived.Test.YtkconbmgljmpfaaPlaySpec
namespace Go.Proofs.Ytkconbmgljmpfaa
open Go.RowKit

set_option maxHeartbeats 2000000 in
set_option maxRecDepth 100000 in
theorem specPlay_no (n : Int) (a : Option Addr) (c : Nat) (ops : List Int) (hi : Nat) (w : World) (hr : Nums .i64 w hi a c ops) (hok : playOk n ops = false) :
    Calls Try.prog 12 #[.int .i64 n, .slice a ops.length c] w (PlayResS 3 [] 0 0 0 0 [] w) := by
  have hcap := hr.cap
  have hbig := hr.big
  have b1 := (Below.refl w.heap.size w).alloc (Nat.le_refl _) (.cells #[.slice none 0 0, .int .i64 0, .int .i64 0] 28)
  have b2 := b1.alloc (by simp) (.cells #[.int .i64 0, .int .i64 0] 30)
  have K4 := Lib.hid ((Blk.new w 28 #[.slice none 0 0, .int .i64 0, .int .i64 0]).alloc (.cells #[.int .i64 0, .int .i64 0] 30))
  have k5 := Blk.new (w.alloc (.cells #[.slice none 0 0, .int .i64 0, .int .i64 0] 28)) 30 #[.int .i64 0, .int .i64 0]
  simp only [World.size_alloc] at k5
  have K5 := Lib.hid k5
  have B2 := Lib.hid b2
  clear hr b1 b2 k5
  have h300 : inB n 1 20 = true → 300 < ops.length := fun hc => by
    unfold playOk at hok
    rw [hc, Bool.true_and, decide_eq_false_iff_not] at hok
    omega
  have HNW : Hid (∀ W, Calls Try.prog 24 #[.int .i64 n] W (FreshRingOk 3 (newL n) 0 0 (inB n 1 20) W)) := fun W => specNew_any n W
  generalize newL n = L at HNW
  have hk : ∀ (W : World), Below w.heap.size w W → PlayResS 3 [] 0 0 0 0 [] w (.returned (.tuple #[.agg #[.slice none 0 0, .int .i64 0, .int .i64 0], .agg #[.int .i64 0, .int .i64 0], .slice none 0 0])) (((((W.setCell ⟨w.heap.size, 0, none⟩ (.slice none 0 0)).setCell ⟨w.heap.size, 1, none⟩ (.int .i64 0)).setCell ⟨w.heap.size, 2, none⟩ (.int .i64 0)).setCell ⟨w.heap.size + 1, 0, none⟩ (.int .i64 0)).setCell ⟨w.heap.size + 1, 1, none⟩ (.int .i64 0)) := fun W hb =>
    ⟨none, 0, none, 0, rfl, World.ownsRow_nil _ _ _ _, World.ownsRow_nil _ _ _ _, ((((hb.setCell (p := ⟨w.heap.size, 0, none⟩) (Nat.le_refl _) _).setCell (p := ⟨w.heap.size, 1, none⟩) (Nat.le_refl _) _).setCell (p := ⟨w.heap.size, 2, none⟩) (Nat.le_refl _) _).setCell (p := ⟨w.heap.size + 1, 0, none⟩) (Nat.le_succ _) _).setCell (p := ⟨w.heap.size + 1, 1, none⟩) (Nat.le_succ _) _⟩
  have HK := Lib.hid hk
  clear hk hok
  cases hc : inB n 1 20 with
  | false =>
    rw [hc] at HNW
    clear hc h300
    go_enter Try.func12, Try.ntmps12
    go_wp2_with fail
    refine (HNW.out _).mono ?_
    rintro e w1 ⟨a1, c1, rfl, ho, hb⟩
    have k4 := (K4.out.below hb).alloc (.cells #[.slice a1 L.length c1, .int .i64 0, .int .i64 0] 28)
    have k5 := (K5.out.below hb).alloc (.cells #[.slice a1 L.length c1, .int .i64 0, .int .i64 0] 28)
    have q4 := k4.cell
    have f4 := k4.frozen
    have q5 := k5.cell
    have f5 := k5.frozen
    have s1 := hb.size
    simp only [World.size_alloc] at s1
    have HP := Lib.hid (HK.out _ ((B2.out.trans (hb.mono (by simp; omega))).alloc (by omega) (.cells #[.slice a1 L.length c1, .int .i64 0, .int .i64 0] 28)))
    clear ho hb k4 k5
    go_wp2
    exact bodyPost_ret (v := .tuple #[.agg #[.slice none 0 0, .int .i64 0, .int .i64 0], .agg #[.int .i64 0, .int .i64 0], .slice none 0 0]) (by simp [results, Try.results12, go_sem, q4, q5]) rfl HP.out
  | true =>
    have h3 := h300 hc
    rw [hc] at HNW
    clear hc h300
    go_enter Try.func12, Try.ntmps12
    go_wp2_with fail
    refine (HNW.out _).mono ?_
    rintro e w1 ⟨a1, c1, rfl, ho, hb⟩
    have k4 := (K4.out.below hb).alloc (.cells #[.slice a1 L.length c1, .int .i64 0, .int .i64 0] 28)
    have k5 := (K5.out.below hb).alloc (.cells #[.slice a1 L.length c1, .int .i64 0, .int .i64 0] 28)
    have q4 := k4.cell
    have f4 := k4.frozen
    have q5 := k5.cell
    have f5 := k5.frozen
    have s1 := hb.size
    simp only [World.size_alloc] at s1
    have HP := Lib.hid (HK.out _ ((B2.out.trans (hb.mono (by simp; omega))).alloc (by omega) (.cells #[.slice a1 L.length c1, .int .i64 0, .int .i64 0] 28)))
    clear ho hb k4 k5
    go_wp2
    exact bodyPost_ret (v := .tuple #[.agg #[.slice none 0 0, .int .i64 0, .int .i64 0], .agg #[.int .i64 0, .int .i64 0], .slice none 0 0]) (by simp [results, Try.results12, go_sem, q4, q5]) rfl HP.out
theorem specPlay_any (n : Int) (a : Option Addr) (m c : Nat) (ops : List Int) (hi : Nat) (w : World) (hr : Nums .i64 w hi a c ops) (hn : m = ops.length) (hB : hi ≤ w.heap.size) (_hlen : ops.length ≤ 1048576) :
    Calls Try.prog 12 #[.int .i64 n, .slice a m c] w (PlayResS 3 (plEnd n ops).xs (plEnd n ops).p (plEnd n ops).k (plHome n ops) (plEnd n ops).k (plAll n ops) w) := by
  subst hn
  by_cases hok : playOk n ops = true
  · have hok2 := hok
    unfold playOk at hok2
    rw [Bool.and_eq_true, decide_eq_true_eq] at hok2
    have hnb := inB_iff.1 hok2.1
    obtain ⟨n, rfl⟩ : ∃ n' : Nat, n = n' := ⟨n.toNat, by omega⟩
    rw [(play_at hok).1, (play_at hok).2.1, (play_at hok).2.2]
    exact specPlay_yes n a c ops hi w hr hB (by omega) (by omega) hok2.2
  · have hok := Bool.eq_false_iff.2 hok
    rw [(play_no hok).1, (play_no hok).2.1, (play_no hok).2.2]
    exact specPlay_no n a c ops hi w hr hok
end Go.Proofs.Ytkconbmgljmpfaa
