/- How many messages and sums an engine has, on impl's and on spec's side. (made by tools/mkcnt.py) -/
import Derived.Test.YtnfhlfbkdhpacaaGreatDoorInFl
namespace Go.Proofs.YtnfhlfbkdhpacaaGreatDoor
open Go.RowKit

/-- The bounds that a sum over rows keeps to. -/
theorem totH_bd {α : Type} {H : Hd α} {d : α} {l : List α} {j : Nat} (hj : j < l.length) : totH H d l j + H.ln (rel d l j) ≤ totH H d l l.length := by
  have := totH_le (H := H) (d := d) (l := l) (show j + 1 ≤ l.length from hj)
  simpa [totH] using this
set_option maxHeartbeats 2000000 in
set_option maxRecDepth 100000 in
theorem implQd_any (E : En) (q : Pl) (L : List Value) (w : World) (hL : L = evL E q) (hr : EnR w w.heap.size q E) (hf : EnFits E) :
    Calls Tryz.prog 68 #[.agg L.toArray] w fun e w' => e = .returned (.int .i64 ((totH hdMq ([] : List Mq) E.qs E.qs.length : Nat) : Int)) ∧ Below w.heap.size w w' := by
  have K := Blk.new w 45 L.toArray
  have B := (Below.refl w.heap.size w).alloc (Nat.le_refl _) (.cells L.toArray 45)
  have c1 : (w.alloc (.cells L.toArray 45)).cell? ⟨w.heap.size, 13, none⟩ = some (.slice q.a2 E.qs.length q.c2) := by rw [K.cell, hL]; rfl
  have HQ := Lib.hid (hr.qs.below B)
  have K1 := Lib.hid K
  have BB := Lib.hid B
  unfold EnFits at hf
  have f1 : E.qs.length + totH hdMq ([] : List Mq) E.qs E.qs.length ≤ 1048576 := by omega
  clear hf hr hL K B
  obtain ⟨l, hl⟩ : ∃ x, x = E.qs := ⟨_, rfl⟩
  obtain ⟨qa, hqa⟩ : ∃ x, x = q.a2 := ⟨_, rfl⟩
  obtain ⟨qc, hqc⟩ : ∃ x, x = q.c2 := ⟨_, rfl⟩
  rw [← hl] at c1 HQ f1 ⊢
  rw [← hqa, ← hqc] at c1 HQ
  clear hl hqa hqc
  have m3 := HQ.out.cap
  have m4 := HQ.out.big
  have C1 := Lib.hid c1
  go_enter Tryz.func68, Tryz.ntmps68
  go_wp2
  clear c1
  go_loopw [3, 9, 5] (fun n i _ wr => ∃ j : Nat, j ≤ l.length ∧ i = .int .i64 j ∧ n = .int .i64 ((totH hdMq ([] : List Mq) l j : Nat) : Int) ∧ Below (w.alloc (.cells L.toArray 45)).heap.size (w.alloc (.cells L.toArray 45)) wr) (fun _ i _ _ => l.length - (intOf i).toNat)
  case atStart => exact ⟨0, Nat.zero_le _, rfl, by simp [totH], Below.refl _ _⟩
  case round =>
    obtain ⟨j, hj, rfl, rfl, hb⟩ := hrel
    have g0 : totH hdMq ([] : List Mq) l j ≤ 1048576 := Nat.le_trans (totH_le hj) (by omega)
    have HBB := Lib.hid hb
    have c1 : wr.cell? ⟨w.heap.size, 13, none⟩ = some (.slice qa l.length qc) := (hb.cell (p := ⟨w.heap.size, 13, none⟩) K1.out.lt).trans C1.out
    by_cases hlt : j < l.length
    · obtain ⟨b, off, rfl, hbh, hcell⟩ := (HQ.out.below (hb.mono BB.out.size)).cells (by omega)
      obtain ⟨ai, ci, h0, hq, hrd⟩ := hcell j hlt
      have g1 : totH hdMq ([] : List Mq) l j + hdMq.ln (rel ([] : List Mq) l j) ≤ totH hdMq ([] : List Mq) l l.length := totH_bd hlt
      have hS : totH hdMq ([] : List Mq) l (j + 1) = totH hdMq ([] : List Mq) l j + hdMq.ln (rel ([] : List Mq) l j) := rfl
      have HS := Lib.hid hS
      have hlt' : (j : Int) < (l.length : Int) := by omega
      rw [Nat.mul_one] at h0
      generalize totH hdMq ([] : List Mq) l j = t at g0 g1 HS ⊢
      generalize hdMq.ln (rel ([] : List Mq) l j) = m at h0 g1 HS
      have BA := Lib.hid fun cs : Array Value => HBB.out.alloc HBB.out.size (.cells cs 111)
      clear hcell hS hrd hb hq
      go_wp2
      go_roundw
      case rel => exact ⟨j + 1, by omega, by go_num, by rw [HS.out]; go_num, by first | exact HBB.out | exact BA.out _⟩
      case measure => simp [intOf]; omega
    · obtain rfl : j = l.length := by omega
      clear hb
      go_wp2
      go_ret
      exact ⟨rfl, BB.out.trans (HBB.out.mono BB.out.size)⟩
set_option maxHeartbeats 2000000 in
set_option maxRecDepth 100000 in
theorem implSums_any (E : En) (q : Pl) (L : List Value) (w : World) (hL : L = evL E q) (hr : EnR w w.heap.size q E) (hf : EnFits E) :
    Calls Tryz.prog 69 #[.agg L.toArray] w fun e w' => e = .returned (.int .i64 ((totH hdSh shD E.sh E.sh.length : Nat) : Int)) ∧ Below w.heap.size w w' := by
  have K := Blk.new w 45 L.toArray
  have B := (Below.refl w.heap.size w).alloc (Nat.le_refl _) (.cells L.toArray 45)
  have c1 : (w.alloc (.cells L.toArray 45)).cell? ⟨w.heap.size, 14, none⟩ = some (.slice q.a3 E.sh.length q.c3) := by rw [K.cell, hL]; rfl
  have HQ := Lib.hid (hr.sh.below B)
  have K1 := Lib.hid K
  have BB := Lib.hid B
  unfold EnFits at hf
  have f1 : E.sh.length + totH hdSh shD E.sh E.sh.length ≤ 1048576 := by omega
  clear hf hr hL K B
  obtain ⟨l, hl⟩ : ∃ x, x = E.sh := ⟨_, rfl⟩
  obtain ⟨qa, hqa⟩ : ∃ x, x = q.a3 := ⟨_, rfl⟩
  obtain ⟨qc, hqc⟩ : ∃ x, x = q.c3 := ⟨_, rfl⟩
  rw [← hl] at c1 HQ f1 ⊢
  rw [← hqa, ← hqc] at c1 HQ
  clear hl hqa hqc
  have m3 := HQ.out.cap
  have m4 := HQ.out.big
  have C1 := Lib.hid c1
  go_enter Tryz.func69, Tryz.ntmps69
  go_wp2
  clear c1
  go_loopw [3, 9] (fun n i wr => ∃ j : Nat, j ≤ l.length ∧ i = .int .i64 j ∧ n = .int .i64 ((totH hdSh shD l j : Nat) : Int) ∧ Below (w.alloc (.cells L.toArray 45)).heap.size (w.alloc (.cells L.toArray 45)) wr) (fun _ i _ => l.length - (intOf i).toNat)
  case atStart => exact ⟨0, Nat.zero_le _, rfl, by simp [totH], Below.refl _ _⟩
  case round =>
    obtain ⟨j, hj, rfl, rfl, hb⟩ := hrel
    have g0 : totH hdSh shD l j ≤ 1048576 := Nat.le_trans (totH_le hj) (by omega)
    have HBB := Lib.hid hb
    have c1 : wr.cell? ⟨w.heap.size, 14, none⟩ = some (.slice qa l.length qc) := (hb.cell (p := ⟨w.heap.size, 14, none⟩) K1.out.lt).trans C1.out
    by_cases hlt : j < l.length
    · obtain ⟨b, off, rfl, hbh, hcell⟩ := (HQ.out.below (hb.mono BB.out.size)).cells (by omega)
      obtain ⟨ai, ci, h0, hq, hrd⟩ := hcell j hlt
      have g1 : totH hdSh shD l j + hdSh.ln (rel shD l j) ≤ totH hdSh shD l l.length := totH_bd hlt
      have hS : totH hdSh shD l (j + 1) = totH hdSh shD l j + hdSh.ln (rel shD l j) := rfl
      have HS := Lib.hid hS
      have hlt' : (j : Int) < (l.length : Int) := by omega
      have q1 := hq 0 (by omega)
      have q2 := hq 1 (by omega)
      have q3 := hq 2 (by omega)
      simp only [hdSh, Nat.zero_add, Nat.reduceAdd, List.getElem?_cons_zero, List.getElem?_cons_succ] at q1 q2 q3
      generalize totH hdSh shD l j = t at g0 g1 HS ⊢
      generalize hdSh.ln (rel shD l j) = m at h0 g1 HS
      have BA := Lib.hid fun cs : Array Value => HBB.out.alloc HBB.out.size (.cells cs 111)
      clear hcell hS hrd hb hq
      go_wp2
      go_roundw
      case rel => exact ⟨j + 1, by omega, by go_num, by rw [HS.out]; go_num, by first | exact HBB.out | exact BA.out _⟩
      case measure => simp [intOf]; omega
    · obtain rfl : j = l.length := by omega
      clear hb
      go_wp2
      go_ret
      exact ⟨rfl, BB.out.trans (HBB.out.mono BB.out.size)⟩
set_option maxHeartbeats 2000000 in
set_option maxRecDepth 100000 in
theorem specQd_any (E : En) (q : Pl) (L : List Value) (w : World) (hL : L = evL E q) (hr : EnR w w.heap.size q E) (hf : EnFits E) :
    Calls Tryz.prog 65 #[.agg L.toArray] w fun e w' => e = .returned (.int .i64 ((totH hdMq ([] : List Mq) E.qs E.qs.length : Nat) : Int)) ∧ Below w.heap.size w w' := by
  have K := Blk.new w 45 L.toArray
  have B := (Below.refl w.heap.size w).alloc (Nat.le_refl _) (.cells L.toArray 45)
  have c1 : (w.alloc (.cells L.toArray 45)).cell? ⟨w.heap.size, 13, none⟩ = some (.slice q.a2 E.qs.length q.c2) := by rw [K.cell, hL]; rfl
  have HQ := Lib.hid (hr.qs.below B)
  have K1 := Lib.hid K
  have BB := Lib.hid B
  unfold EnFits at hf
  have f1 : E.qs.length + totH hdMq ([] : List Mq) E.qs E.qs.length ≤ 1048576 := by omega
  clear hf hr hL K B
  obtain ⟨l, hl⟩ : ∃ x, x = E.qs := ⟨_, rfl⟩
  obtain ⟨qa, hqa⟩ : ∃ x, x = q.a2 := ⟨_, rfl⟩
  obtain ⟨qc, hqc⟩ : ∃ x, x = q.c2 := ⟨_, rfl⟩
  rw [← hl] at c1 HQ f1 ⊢
  rw [← hqa, ← hqc] at c1 HQ
  clear hl hqa hqc
  have m3 := HQ.out.cap
  have m4 := HQ.out.big
  have C1 := Lib.hid c1
  go_enter Tryz.func65, Tryz.ntmps65
  go_wp2
  clear c1
  go_loopw [3, 4] (fun n i wr => ∃ j : Nat, j ≤ l.length ∧ i = .int .i64 j ∧ n = .int .i64 ((totH hdMq ([] : List Mq) l j : Nat) : Int) ∧ Below (w.alloc (.cells L.toArray 45)).heap.size (w.alloc (.cells L.toArray 45)) wr) (fun _ i _ => l.length - (intOf i).toNat)
  case atStart => exact ⟨0, Nat.zero_le _, rfl, by simp [totH], Below.refl _ _⟩
  case round =>
    obtain ⟨j, hj, rfl, rfl, hb⟩ := hrel
    have g0 : totH hdMq ([] : List Mq) l j ≤ 1048576 := Nat.le_trans (totH_le hj) (by omega)
    have HBB := Lib.hid hb
    have c1 : wr.cell? ⟨w.heap.size, 13, none⟩ = some (.slice qa l.length qc) := (hb.cell (p := ⟨w.heap.size, 13, none⟩) K1.out.lt).trans C1.out
    by_cases hlt : j < l.length
    · obtain ⟨b, off, rfl, hbh, hcell⟩ := (HQ.out.below (hb.mono BB.out.size)).cells (by omega)
      obtain ⟨ai, ci, h0, hq, hrd⟩ := hcell j hlt
      have g1 : totH hdMq ([] : List Mq) l j + hdMq.ln (rel ([] : List Mq) l j) ≤ totH hdMq ([] : List Mq) l l.length := totH_bd hlt
      have hS : totH hdMq ([] : List Mq) l (j + 1) = totH hdMq ([] : List Mq) l j + hdMq.ln (rel ([] : List Mq) l j) := rfl
      have HS := Lib.hid hS
      have hlt' : (j : Int) < (l.length : Int) := by omega
      rw [Nat.mul_one] at h0
      generalize totH hdMq ([] : List Mq) l j = t at g0 g1 HS ⊢
      generalize hdMq.ln (rel ([] : List Mq) l j) = m at h0 g1 HS
      have BA := Lib.hid fun cs : Array Value => HBB.out.alloc HBB.out.size (.cells cs 111)
      clear hcell hS hrd hb hq
      go_wp2
      go_roundw
      case rel => exact ⟨j + 1, by omega, by go_num, by rw [HS.out]; go_num, by first | exact HBB.out | exact BA.out _⟩
      case measure => simp [intOf]; omega
    · obtain rfl : j = l.length := by omega
      clear hb
      go_wp2
      go_ret
      exact ⟨rfl, BB.out.trans (HBB.out.mono BB.out.size)⟩
set_option maxHeartbeats 2000000 in
set_option maxRecDepth 100000 in
theorem specHd_any (E : En) (q : Pl) (L : List Value) (w : World) (hL : L = evL E q) (hr : EnR w w.heap.size q E) (hf : EnFits E) :
    Calls Tryz.prog 66 #[.agg L.toArray] w fun e w' => e = .returned (.int .i64 ((totH hdSh shD E.sh E.sh.length : Nat) : Int)) ∧ Below w.heap.size w w' := by
  have K := Blk.new w 45 L.toArray
  have B := (Below.refl w.heap.size w).alloc (Nat.le_refl _) (.cells L.toArray 45)
  have c1 : (w.alloc (.cells L.toArray 45)).cell? ⟨w.heap.size, 14, none⟩ = some (.slice q.a3 E.sh.length q.c3) := by rw [K.cell, hL]; rfl
  have HQ := Lib.hid (hr.sh.below B)
  have K1 := Lib.hid K
  have BB := Lib.hid B
  unfold EnFits at hf
  have f1 : E.sh.length + totH hdSh shD E.sh E.sh.length ≤ 1048576 := by omega
  clear hf hr hL K B
  obtain ⟨l, hl⟩ : ∃ x, x = E.sh := ⟨_, rfl⟩
  obtain ⟨qa, hqa⟩ : ∃ x, x = q.a3 := ⟨_, rfl⟩
  obtain ⟨qc, hqc⟩ : ∃ x, x = q.c3 := ⟨_, rfl⟩
  rw [← hl] at c1 HQ f1 ⊢
  rw [← hqa, ← hqc] at c1 HQ
  clear hl hqa hqc
  have m3 := HQ.out.cap
  have m4 := HQ.out.big
  have C1 := Lib.hid c1
  go_enter Tryz.func66, Tryz.ntmps66
  go_wp2
  clear c1
  go_loopw [3, 4] (fun n i wr => ∃ j : Nat, j ≤ l.length ∧ i = .int .i64 j ∧ n = .int .i64 ((totH hdSh shD l j : Nat) : Int) ∧ Below (w.alloc (.cells L.toArray 45)).heap.size (w.alloc (.cells L.toArray 45)) wr) (fun _ i _ => l.length - (intOf i).toNat)
  case atStart => exact ⟨0, Nat.zero_le _, rfl, by simp [totH], Below.refl _ _⟩
  case round =>
    obtain ⟨j, hj, rfl, rfl, hb⟩ := hrel
    have g0 : totH hdSh shD l j ≤ 1048576 := Nat.le_trans (totH_le hj) (by omega)
    have HBB := Lib.hid hb
    have c1 : wr.cell? ⟨w.heap.size, 14, none⟩ = some (.slice qa l.length qc) := (hb.cell (p := ⟨w.heap.size, 14, none⟩) K1.out.lt).trans C1.out
    by_cases hlt : j < l.length
    · obtain ⟨b, off, rfl, hbh, hcell⟩ := (HQ.out.below (hb.mono BB.out.size)).cells (by omega)
      obtain ⟨ai, ci, h0, hq, hrd⟩ := hcell j hlt
      have g1 : totH hdSh shD l j + hdSh.ln (rel shD l j) ≤ totH hdSh shD l l.length := totH_bd hlt
      have hS : totH hdSh shD l (j + 1) = totH hdSh shD l j + hdSh.ln (rel shD l j) := rfl
      have HS := Lib.hid hS
      have hlt' : (j : Int) < (l.length : Int) := by omega
      have q1 := hq 0 (by omega)
      have q2 := hq 1 (by omega)
      have q3 := hq 2 (by omega)
      simp only [hdSh, Nat.zero_add, Nat.reduceAdd, List.getElem?_cons_zero, List.getElem?_cons_succ] at q1 q2 q3
      generalize totH hdSh shD l j = t at g0 g1 HS ⊢
      generalize hdSh.ln (rel shD l j) = m at h0 g1 HS
      have BA := Lib.hid fun cs : Array Value => HBB.out.alloc HBB.out.size (.cells cs 111)
      clear hcell hS hrd hb hq
      go_wp2
      go_roundw
      case rel => exact ⟨j + 1, by omega, by go_num, by rw [HS.out]; go_num, by first | exact HBB.out | exact BA.out _⟩
      case measure => simp [intOf]; omega
    · obtain rfl : j = l.length := by omega
      clear hb
      go_wp2
      go_ret
      exact ⟨rfl, BB.out.trans (HBB.out.mono BB.out.size)⟩
end Go.Proofs.YtnfhlfbkdhpacaaGreatDoor
