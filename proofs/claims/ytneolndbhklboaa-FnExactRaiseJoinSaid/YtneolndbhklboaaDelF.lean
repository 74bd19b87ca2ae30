/- Chapter 12: slices.IndexFunc and slices.DeleteFunc over frames, the predicate a closure that reads. (made by tools/mkdelf.py) -/
import Derived.Test.YtneolndbhklboaaPlainJn6
import Derived.Test.YtneolndbhklboaaCopyRec
import Derived.Test.YtneolndbhklboaaFmA
import Derived.Shelf.Abstract
namespace Go.Proofs.Ytneolndbhklboaa
open Go.RowKit
theorem lt_all {L : List Fm} {x : Int} : ∀ {k : Nat}, k ≤ L.length → (∀ p, p < k → x ≤ (qel L p).t) → ltTo L x k = L.take k
  | 0, _, _ => by simp [ltTo]
  | k + 1, hk, h => by rw [lt_in (by omega) (h k (by omega)), lt_all (by omega) (fun p hp => h p (by omega)), qel_take (by omega)]
theorem first_or (L : List Fm) (x : Int) : ∀ k, k ≤ L.length → (∀ p, p < k → x ≤ (qel L p).t) ∨ ∃ i, i < k ∧ ¬ x ≤ (qel L i).t ∧ ∀ p, p < i → x ≤ (qel L p).t
  | 0, _ => .inl (fun p hp => by omega)
  | k + 1, hk => by
    rcases first_or L x k (by omega) with h | ⟨i, hi, h1, h2⟩
    · by_cases hx : x ≤ (qel L k).t
      · refine .inl (fun p hp => ?_)
        by_cases e : p = k
        · rw [e]; exact hx
        · exact h p (by omega)
      · exact .inr ⟨k, by omega, hx, h⟩
    · exact .inr ⟨i, by omega, h1, h2⟩
/-- A predicate that tells whether a frame's time lies below x, in every world that differs from w in block g and in what is new. -/
def Vain (fn : Nat) (cb : Array Value) (x : Int) (w : World) (g : Nat) : Prop := ∀ W, w.grownBy W (some g) → ∀ k y t v : Int, Calls Try.prog fn (#[(.agg #[.int .i64 k, .int .i64 y, .int .i64 t, .int .i64 v])] ++ cb) W fun e w' => e = .returned (.bool (decide (t < x))) ∧ Below W.heap.size W w'
theorem grown_any {w w' : World} {g : Nat} (h : w.grownBy w' none) : w.grownBy w' (some g) := ⟨h.os, h.tape, h.output, h.size, fun k hk _ => h.block k hk (by simp)⟩
theorem Vain.go {fn : Nat} {cb : Array Value} {x : Int} {w w' : World} {g : Nat} (h : Vain fn cb x w g) (hg : w.grownBy w' (some g)) : Vain fn cb x w' g := fun W hW => h W (grown_trans hg hW)
set_option maxHeartbeats 1000000 in
theorem vain_x (M by_ : Int) (N Bb g : Nat) (w : World) (hn : w.cell? ⟨N, 2, none⟩ = some (.int .i64 M)) (hb : w.cell? ⟨Bb, 0, none⟩ = some (.int .i64 by_)) (h1 : N < w.heap.size) (h2 : Bb < w.heap.size) (g1 : N ≠ g) (g2 : Bb ≠ g) (m1 : -1 ≤ M ∧ M ≤ 1000000) (m2 : 0 ≤ by_ ∧ by_ ≤ 1000000) :
    Vain 88 #[.pointer (some ⟨N, 0, none⟩), .pointer (some ⟨Bb, 0, none⟩)] (M + 1 - by_) w g := by
  intro W hW k y t v
  have B0 := (Below.refl W.heap.size W).alloc (Nat.le_refl _) (.cells #[.int .i64 k, .int .i64 y, .int .i64 t, .int .i64 v] 38)
  have c1 : ∀ o, W.cell? ⟨N, o, none⟩ = w.cell? ⟨N, o, none⟩ := fun o => by simp only [World.cell?, hW.block N h1 (by simp; exact g1)]
  have c2 : ∀ o, W.cell? ⟨Bb, o, none⟩ = w.cell? ⟨Bb, o, none⟩ := fun o => by simp only [World.cell?, hW.block Bb h2 (by simp; exact g2)]
  have hs := hW.size
  have qn := (B0.cell (p := ⟨N, 2, none⟩) (show N < W.heap.size by omega)).trans ((c1 2).trans hn)
  have qb := (B0.cell (p := ⟨Bb, 0, none⟩) (show Bb < W.heap.size by omega)).trans ((c2 0).trans hb)
  have BB := Lib.hid B0
  clear B0 c1 c2 hn hb
  by_cases hx : t < M + 1 - by_
  · rw [show decide (t < M + 1 - by_) = true by simp [hx]]
    go_enter Try.func88, Try.ntmps88
    go_wp2
    go_ret
    exact ⟨by simp [go_sem], BB.out⟩
  · rw [show decide (t < M + 1 - by_) = false by simp; omega]
    go_enter Try.func88, Try.ntmps88
    go_wp2
    go_ret
    exact ⟨by simp [go_sem], BB.out⟩
set_option maxHeartbeats 2000000 in
set_option maxRecDepth 100000 in
theorem idx_all (a : Option Addr) (n c : Nat) (L : List Fm) (x : Int) (cb : Array Value) (hi g : Nat) (w : World) (hr : Fms w hi a c L) (hn : n = L.length) (hB : hi ≤ w.heap.size) (p0 p1 : Value) (hcb : cb = #[p0, p1]) (VA : Vain 88 cb x w g) (hh : ∀ p, p < L.length → x ≤ (qel L p).t) :
    Calls Try.prog 105 #[.slice a n c, .func (.func 88) #[] #[p0, p1]] w fun e w' => e = .returned (.int .i64 (-1)) ∧ Below w.heap.size w w' := by
  subst hn
  subst hcb
  have m1 := hr.cap
  have m2 := hr.big
  have HR := Lib.hid hr
  have HV := Lib.hid VA
  have eg : ∀ args w, (callFunc 88 args).run Try.prog w = .ok (.enter 88 args) w := enters_of Try.func88 (by kernel_rfl) rfl
  have HH := Lib.hid hh
  clear hr VA hh
  go_enter Try.func105, Try.ntmps105
  go_wp2
  go_loopw [8] (fun vv wr => ∃ k : Nat, k ≤ L.length ∧ vv = .int .i64 (k : Int) ∧ Below w.heap.size w wr) (fun vv _ => L.length - (intOf vv).toNat)
  case atStart => exact ⟨0, Nat.zero_le _, rfl, Below.refl _ _⟩
  case round =>
    obtain ⟨k, hk, rfl, hb⟩ := hrel
    have HB := Lib.hid hb
    have hsw := hb.size
    clear hb
    by_cases hlt : k < L.length
    · obtain ⟨b1, off, rfl, hbh, hcell⟩ := Fms.six (HR.out.below (HB.out.mono hB)) (by omega)
      have hlt' : (k : Int) < (L.length : Int) := by omega
      have hnn : 0 ≤ (k : Int) := by omega
      obtain ⟨p0_, p1_, p2_, p3_⟩ := hcell k (by omega)
      have HX := HH.out k hlt
      clear hcell
      generalize qel L k = X at p0_ p1_ p2_ p3_ HX
      obtain ⟨e0, e1, e2, e3⟩ := X
      simp only at p0_ p1_ p2_ p3_ HX
      have CE := Lib.hid (HV.out wr (grown_any (grown_below HB.out)) e0 e1 e2 e3)
      rw [show decide (e2 < x) = false by simp; omega] at CE
      go_wp2_with fail
      refine CE.out.mono ?_
      rintro e w2 ⟨rfl, hb⟩
      have B2 := Lib.hid (HB.out.trans (hb.mono hsw))
      clear hb p0_ p1_ p2_ p3_
      go_wp2
      go_roundw
      case rel => exact ⟨k + 1, by omega, by go_num, B2.out⟩
      case measure => simp [intOf]; omega
    · obtain rfl : k = L.length := by omega
      go_wp2
      go_ret
      exact ⟨rfl, HB.out⟩
set_option maxHeartbeats 2000000 in
set_option maxRecDepth 100000 in
theorem idx_at (a : Option Addr) (n c : Nat) (L : List Fm) (x : Int) (cb : Array Value) (hi g : Nat) (w : World) (hr : Fms w hi a c L) (hn : n = L.length) (hB : hi ≤ w.heap.size) (p0 p1 : Value) (hcb : cb = #[p0, p1]) (VA : Vain 88 cb x w g) (i : Nat) (hi1 : i < L.length) (hh : ¬ x ≤ (qel L i).t ∧ ∀ p, p < i → x ≤ (qel L p).t) :
    Calls Try.prog 105 #[.slice a n c, .func (.func 88) #[] #[p0, p1]] w fun e w' => e = .returned (.int .i64 (i : Int)) ∧ Below w.heap.size w w' := by
  subst hn
  subst hcb
  have m1 := hr.cap
  have m2 := hr.big
  have HR := Lib.hid hr
  have HV := Lib.hid VA
  have eg : ∀ args w, (callFunc 88 args).run Try.prog w = .ok (.enter 88 args) w := enters_of Try.func88 (by kernel_rfl) rfl
  have HH := Lib.hid hh
  clear hr VA hh
  go_enter Try.func105, Try.ntmps105
  go_wp2
  go_loopw [8] (fun vv wr => ∃ k : Nat, k ≤ i ∧ vv = .int .i64 (k : Int) ∧ Below w.heap.size w wr) (fun vv _ => L.length - (intOf vv).toNat)
  case atStart => exact ⟨0, Nat.zero_le _, rfl, Below.refl _ _⟩
  case round =>
    obtain ⟨k, hk, rfl, hb⟩ := hrel
    have HB := Lib.hid hb
    have hsw := hb.size
    clear hb
    by_cases hlt : k < i
    · obtain ⟨b1, off, rfl, hbh, hcell⟩ := Fms.six (HR.out.below (HB.out.mono hB)) (by omega)
      have hlt' : (k : Int) < (L.length : Int) := by omega
      have hnn : 0 ≤ (k : Int) := by omega
      obtain ⟨p0_, p1_, p2_, p3_⟩ := hcell k (by omega)
      have HX := HH.out.2 k hlt
      clear hcell
      generalize qel L k = X at p0_ p1_ p2_ p3_ HX
      obtain ⟨e0, e1, e2, e3⟩ := X
      simp only at p0_ p1_ p2_ p3_ HX
      have CE := Lib.hid (HV.out wr (grown_any (grown_below HB.out)) e0 e1 e2 e3)
      rw [show decide (e2 < x) = false by simp; omega] at CE
      go_wp2_with fail
      refine CE.out.mono ?_
      rintro e w2 ⟨rfl, hb⟩
      have B2 := Lib.hid (HB.out.trans (hb.mono hsw))
      clear hb p0_ p1_ p2_ p3_
      go_wp2
      go_roundw
      case rel => exact ⟨k + 1, by omega, by go_num, B2.out⟩
      case measure => simp [intOf]; omega
    · obtain rfl : k = i := by omega
      obtain ⟨b1, off, rfl, hbh, hcell⟩ := Fms.six (HR.out.below (HB.out.mono hB)) (by omega)
      have hlt' : (k : Int) < (L.length : Int) := by omega
      have hnn : 0 ≤ (k : Int) := by omega
      obtain ⟨p0_, p1_, p2_, p3_⟩ := hcell k hi1
      have HX := HH.out.1
      clear hcell
      generalize qel L k = X at p0_ p1_ p2_ p3_ HX
      obtain ⟨e0, e1, e2, e3⟩ := X
      simp only at p0_ p1_ p2_ p3_ HX
      have CE := Lib.hid (HV.out wr (grown_any (grown_below HB.out)) e0 e1 e2 e3)
      rw [show decide (e2 < x) = true by simp; omega] at CE
      go_wp2_with fail
      refine CE.out.mono ?_
      rintro e w2 ⟨rfl, hb⟩
      have B2 := Lib.hid (HB.out.trans (hb.mono hsw))
      clear hb p0_ p1_ p2_ p3_
      go_wp2
      go_ret
      exact ⟨rfl, B2.out⟩
end Go.Proofs.Ytneolndbhklboaa
