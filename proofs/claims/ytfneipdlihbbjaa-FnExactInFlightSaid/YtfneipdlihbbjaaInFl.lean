/- InFlight: how many events stand in an engine's queues, on impl's and on spec's side. -/
import Derived.Test.YtfneipdlihbbjaaEngS
import Derived.Laws.OwnMore
namespace Go.Proofs.Ytfneipdlihbbjaa
open Go.RowKit

/-- The cells of an engine's value. -/
def evL (E : En) (p : Pl) : List Value := [.int .i64 E.s0, .int .i64 E.s1, .int .i64 E.s2, .int .i64 E.s3, .int .i64 E.s4, .int .i64 E.s5, .int .i64 E.s6, .int .i64 E.s7, .int .i64 E.s8, .int .i64 E.now, .int .i64 E.mode, .slice p.a0 E.cs.length p.c0, .slice p.a1 E.inq.length p.c1, .slice p.a2 E.qs.length p.c2, .slice p.a3 E.sh.length p.c3, .slice p.a4 E.out.length p.c4, .int .i64 E.mark, .slice p.a5 E.sent.length p.c5, .int .i64 E.t0, .int .i64 E.t1, .int .i64 E.t2, .int .i64 E.t3, .int .i64 E.t4, .int .i64 E.t5]
def isEv (S : Mq) : Bool := S.kd == 1
def evN (l : List Mq) : Nat := (l.filter isEv).length
def evT (ls : List (List Mq)) : Nat → Nat
  | 0 => 0
  | j + 1 => evT ls j + evN (rel [] ls j)
def inFl (E : En) : Int := ((evN E.inq + evT E.qs E.qs.length : Nat) : Int)
theorem evN_le (l : List Mq) : evN l ≤ l.length := List.length_filter_le _ _
theorem evN_take_ev {l : List Mq} {j : Nat} (hj : j < l.length) (h : (qel l j).kd = 1) : evN (l.take (j + 1)) = evN (l.take j) + 1 := by
  unfold evN
  rw [qel_take hj, List.filter_append]
  simp [isEv, h]
theorem evN_take_no {l : List Mq} {j : Nat} (hj : j < l.length) (h : ¬ (qel l j).kd = 1) : evN (l.take (j + 1)) = evN (l.take j) := by
  unfold evN
  rw [qel_take hj, List.filter_append]
  simp [isEv, h]
theorem evN_take_le (l : List Mq) (j : Nat) : evN (l.take j) ≤ l.length := Nat.le_trans (evN_le _) (by simp; omega)
theorem evT_le (ls : List (List Mq)) (j : Nat) : evT ls j ≤ totH hdMq ([] : List Mq) ls j := by
  induction j with
  | zero => exact Nat.le_refl _
  | succ j ih =>
    have : evN (rel [] ls j) ≤ (rel [] ls j).length := evN_le _
    show evT ls j + evN (rel [] ls j) ≤ totH hdMq ([] : List Mq) ls j + (rel [] ls j).length
    omega
theorem evT_le_all {ls : List (List Mq)} {j : Nat} (hj : j ≤ ls.length) : evT ls j ≤ totH hdMq ([] : List Mq) ls ls.length := Nat.le_trans (evT_le ls j) (totH_le hj)
theorem evT_row {ls : List (List Mq)} {j : Nat} (hj : j < ls.length) : evT ls j + (rel [] ls j).length ≤ totH hdMq ([] : List Mq) ls ls.length := by
  have h1 := evT_le ls j
  have h2 := totH_le (H := hdMq) (d := ([] : List Mq)) (l := ls) (show j + 1 ≤ ls.length from hj)
  have h3 : totH hdMq ([] : List Mq) ls (j + 1) = totH hdMq ([] : List Mq) ls j + (rel [] ls j).length := rfl
  omega
set_option maxHeartbeats 4000000 in
set_option maxRecDepth 100000 in
theorem specInFl_any (E : En) (q : Pl) (L : List Value) (w : World) (hL : L = evL E q) (hr : EnR w w.heap.size q E) (hf : EnFits E) :
    Calls Try.prog 20 #[.agg L.toArray] w fun e w' => e = .returned (.int .i64 (inFl E)) ∧ Below w.heap.size w w' := by
  have K := Blk.new w 62 L.toArray
  have B := (Below.refl w.heap.size w).alloc (Nat.le_refl _) (.cells L.toArray 62)
  have c12 : (w.alloc (.cells L.toArray 62)).cell? ⟨w.heap.size, 12, none⟩ = some (.slice q.a1 E.inq.length q.c1) := by rw [K.cell, hL]; rfl
  have c13 : (w.alloc (.cells L.toArray 62)).cell? ⟨w.heap.size, 13, none⟩ = some (.slice q.a2 E.qs.length q.c2) := by rw [K.cell, hL]; rfl
  have HM := Lib.hid (hr.inq.below B)
  have HQ := Lib.hid (hr.qs.below B)
  have BB := Lib.hid B
  unfold EnFits at hf
  unfold inFl
  obtain ⟨inq, hinq⟩ : ∃ x, x = E.inq := ⟨_, rfl⟩
  obtain ⟨qs, hqs⟩ : ∃ x, x = E.qs := ⟨_, rfl⟩
  rw [← hinq] at c12 HM hf ⊢
  rw [← hqs] at c13 HQ hf ⊢
  have f1 : inq.length + totH hdMq ([] : List Mq) qs qs.length ≤ 1048576 := by omega
  have f2 : qs.length ≤ 1048576 := by omega
  clear hf hr hL K B hinq hqs
  have HC := Lib.hid (⟨c12, c13⟩ : (w.alloc (.cells L.toArray 62)).cell? ⟨w.heap.size, 12, none⟩ = some (.slice q.a1 inq.length q.c1) ∧ (w.alloc (.cells L.toArray 62)).cell? ⟨w.heap.size, 13, none⟩ = some (.slice q.a2 qs.length q.c2))
  have m1 := HM.out.cap
  have m2 := HM.out.big
  have m3 := HQ.out.cap
  have m4 := HQ.out.big
  clear c12 c13
  obtain ⟨pa, hpa⟩ : ∃ x, x = q.a1 := ⟨_, rfl⟩
  obtain ⟨pc, hpc⟩ : ∃ x, x = q.c1 := ⟨_, rfl⟩
  obtain ⟨qa, hqa⟩ : ∃ x, x = q.a2 := ⟨_, rfl⟩
  obtain ⟨qc, hqc⟩ : ∃ x, x = q.c2 := ⟨_, rfl⟩
  rw [← hpa, ← hpc] at HC HM
  rw [← hqa, ← hqc] at HC HQ
  rw [← hpc] at m1 m2
  rw [← hqc] at m3 m4
  clear hpa hpc hqa hqc
  go_enter Try.func20, Try.ntmps20
  go_wp2
  go_loopw [3, 4] (fun n i wr => ∃ j : Nat, j ≤ inq.length ∧ i = .int .i64 j ∧ n = .int .i64 (evN (inq.take j) : Nat) ∧ wr = (w.alloc (.cells L.toArray 62))) (fun _ i _ => inq.length - (intOf i).toNat)
  case atStart => exact ⟨0, Nat.zero_le _, rfl, by simp [evN], rfl⟩
  case round =>
    obtain ⟨j, hj, rfl, rfl, rfl⟩ := hrel
    have hle := evN_take_le inq j
    obtain ⟨c12, c13⟩ := HC.out
    clear c13
    by_cases hlt : j < inq.length
    · obtain ⟨b, off, rfl, hbh, hcell⟩ := Mqs.six HM.out (by omega)
      obtain ⟨q0, _⟩ := hcell j hlt
      have hlt' : (j : Int) < (inq.length : Int) := by omega
      have T1 := Lib.hid (fun h => evN_take_ev (l := inq) (j := j) hlt h)
      have T2 := Lib.hid (fun h => evN_take_no (l := inq) (j := j) hlt h)
      clear hcell
      generalize (qel inq j).kd = kd at q0 T1 T2
      generalize evN (inq.take j) = t at hle T1 T2
      by_cases hk : kd = 1
      · subst hk
        have T3 := Lib.hid (T1.out rfl)
        clear T1 T2
        go_wp2
        go_roundw
        case rel => exact ⟨j + 1, by omega, by go_num, by rw [T3.out]; go_num, by first | rfl | trivial⟩
        case measure => simp [intOf]; omega
      · have hkb : (kd == 1) = false := beq_eq_false_iff_ne.2 hk
        have T3 := Lib.hid (T2.out hk)
        clear T1 T2
        go_wp2
        go_roundw
        case rel => exact ⟨j + 1, by omega, by go_num, by rw [T3.out], by first | rfl | trivial⟩
        case measure => simp [intOf]; omega
    · obtain rfl : j = inq.length := by omega
      have hN : evN (inq.take inq.length) = evN inq := by rw [List.take_length]
      rw [hN] at hle ⊢
      have hle0 := evN_le inq
      obtain ⟨t, ht⟩ : ∃ t, t = evN inq := ⟨_, rfl⟩
      rw [← ht] at hle hle0 ⊢
      have HT := Lib.hid ht
      clear ht
      go_wp2
      go_loopw [3, 5, 6] (fun n k i wr => ∃ j : Nat, j ≤ qs.length ∧ k = .int .i64 j ∧ n = .int .i64 ((t + evT qs j : Nat) : Int) ∧ wr = (w.alloc (.cells L.toArray 62))) (fun _ k _ _ => qs.length - (intOf k).toNat)
      case atStart => exact ⟨0, Nat.zero_le _, rfl, by simp [evT], rfl⟩
      case round =>
        obtain ⟨j, hj, rfl, rfl, rfl⟩ := hrel
        obtain ⟨_, c13⟩ := HC.out
        have g0 := evT_le_all (ls := qs) hj
        by_cases hlt : j < qs.length
        · obtain ⟨b, off, rfl, hbh, hcell⟩ := HQ.out.cells (by omega)
          obtain ⟨ai, ci, h0, _, hrd⟩ := hcell j hlt
          have g1 := evT_row hlt
          have hS : evT qs (j + 1) = evT qs j + evN (rel [] qs j) := rfl
          have HS := Lib.hid hS
          rw [Nat.mul_one] at h0
          clear hcell hS
          generalize rel [] qs j = row at h0 hrd g1 HS
          have h0 : (w.alloc (.cells L.toArray 62)).cell? ⟨b, off + j, none⟩ = some (.slice ai row.length ci) := h0
          have HRD := Lib.hid (show Mqs (w.alloc (.cells L.toArray 62)) w.heap.size ai ci row from hrd)
          have r1 := HRD.out.cap
          have r2 := HRD.out.big
          generalize evT qs j = u at g0 g1 HS ⊢
          have hlt' : (j : Int) < (qs.length : Int) := by omega
          clear hrd
          go_wp2
          go_loopw [3, 6] (fun n i wr => ∃ m : Nat, m ≤ row.length ∧ i = .int .i64 m ∧ n = .int .i64 ((t + u + evN (row.take m) : Nat) : Int) ∧ wr = (w.alloc (.cells L.toArray 62))) (fun _ i _ => row.length - (intOf i).toNat)
          case atStart => exact ⟨0, Nat.zero_le _, rfl, by simp [evN], rfl⟩
          case round =>
            obtain ⟨m, hm, rfl, rfl, rfl⟩ := hrel
            have hle2 := evN_take_le row m
            by_cases hlt2 : m < row.length
            · obtain ⟨b2, off2, rfl, hbh2, hcell2⟩ := Mqs.six HRD.out (by omega)
              obtain ⟨q0, _⟩ := hcell2 m hlt2
              have hlt2' : (m : Int) < (row.length : Int) := by omega
              have T1 := Lib.hid (fun h => evN_take_ev (l := row) (j := m) hlt2 h)
              have T2 := Lib.hid (fun h => evN_take_no (l := row) (j := m) hlt2 h)
              clear hcell2
              generalize (qel row m).kd = kd at q0 T1 T2
              generalize evN (row.take m) = v at hle2 T1 T2
              by_cases hk : kd = 1
              · subst hk
                have T3 := Lib.hid (T1.out rfl)
                clear T1 T2
                go_wp2
                go_roundw
                case rel => exact ⟨m + 1, by omega, by go_num, by rw [T3.out]; go_num, by first | rfl | trivial⟩
                case measure => simp [intOf]; omega
              · have hkb : (kd == 1) = false := beq_eq_false_iff_ne.2 hk
                have T3 := Lib.hid (T2.out hk)
                clear T1 T2
                go_wp2
                go_roundw
                case rel => exact ⟨m + 1, by omega, by go_num, by rw [T3.out], by first | rfl | trivial⟩
                case measure => simp [intOf]; omega
            · obtain rfl : m = row.length := by omega
              have hN : evN (row.take row.length) = evN row := by rw [List.take_length]
              rw [hN] at hle2 ⊢
              go_wp2
              go_roundw
              case rel => exact ⟨j + 1, by omega, by go_num, by rw [HS.out]; go_num, by first | rfl | trivial⟩
              case measure => simp [intOf]; omega
        · obtain rfl : j = qs.length := by omega
          go_wp2
          go_ret
          exact ⟨by rw [HT.out]; rfl, BB.out⟩
end Go.Proofs.Ytfneipdlihbbjaa
