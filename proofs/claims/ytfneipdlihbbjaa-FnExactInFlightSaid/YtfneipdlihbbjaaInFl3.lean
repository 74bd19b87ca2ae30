/- impl.InFlight's walk. -/
import Derived.Test.YtfneipdlihbbjaaInFl2
import Derived.Lib.AppendZeros
namespace Go.Proofs.Ytfneipdlihbbjaa
open Go.RowKit Go.Shelf

theorem evT_cons (x : List Mq) (ls : List (List Mq)) : ∀ j, evT (x :: ls) (j + 1) = evN x + evT ls j
  | 0 => by simp [evT, rel]
  | j + 1 => by
    show evT (x :: ls) (j + 1) + evN (rel [] (x :: ls) (j + 1)) = evN x + (evT ls j + evN (rel [] ls j))
    rw [evT_cons x ls j, rel_cons_succ]
    omega
set_option maxHeartbeats 4000000 in
set_option maxRecDepth 100000 in
theorem implInFl_any (E : En) (q : Pl) (L : List Value) (w : World) (hL : L = evL E q) (hr : EnR w w.heap.size q E) (hf : EnFits E) :
    Calls Try.prog 22 #[.agg L.toArray] w fun e w' => e = .returned (.int .i64 (inFl E)) ∧ Below w.heap.size w w' := by
  have K := Blk.new w 62 L.toArray
  have B := (Below.refl w.heap.size w).alloc (Nat.le_refl _) (.cells L.toArray 62)
  have c12 : (w.alloc (.cells L.toArray 62)).cell? ⟨w.heap.size, 12, none⟩ = some (.slice q.a1 E.inq.length q.c1) := by rw [K.cell, hL]; rfl
  have c13 : ((w.alloc (.cells L.toArray 62)).alloc (.cells #[.slice q.a1 E.inq.length q.c1] 57)).cell? ⟨w.heap.size, 13, none⟩ = some (.slice q.a2 E.qs.length q.c2) := by rw [(K.alloc _).cell, hL]; rfl
  unfold EnFits at hf
  have f1 : E.inq.length + totH hdMq ([] : List Mq) E.qs E.qs.length ≤ 1048576 := by omega
  have f2 : E.qs.length ≤ 1048576 := by omega
  obtain ⟨g, c, WB, hra, hrows, hbB⟩ := append_rows 58 (hr.inq.below B) (hr.qs.below B) (by simp) f2
  rw [World.size_alloc] at hra
  have HR := Lib.hid hra
  have hbw := B.trans (hbB.mono B.size)
  have HB := Lib.hid hbw
  have HQ := Lib.hid hrows
  have hres : inFl E = ((evT (E.inq :: E.qs) (1 + E.qs.length) : Nat) : Int) := by
    unfold inFl
    rw [Nat.add_comm 1, evT_cons]
  have htot : ∀ j, j ≤ 1 + E.qs.length → evT (E.inq :: E.qs) j ≤ 1048576 := fun j hj => by
    cases j with
    | zero => exact Nat.zero_le _
    | succ j =>
      rw [evT_cons]
      have := evN_le E.inq
      have := evT_le_all (ls := E.qs) (j := j) (by omega)
      omega
  have hrow : ∀ j, j < 1 + E.qs.length → evT (E.inq :: E.qs) j + (rel [] (E.inq :: E.qs) j).length ≤ 1048576 := fun j hj => by
    cases j with
    | zero => simp [evT, rel]; omega
    | succ j =>
      rw [evT_cons, rel_cons_succ]
      have := evN_le E.inq
      have := evT_row (ls := E.qs) (j := j) (by omega)
      omega
  rw [hres]
  have hcb := hrows.cap
  have hcb2 := hrows.big
  have m1 := hr.inq.cap
  have m2 := hr.inq.big
  have m3 := hr.qs.cap
  have m4 := hr.qs.big
  rw [List.length_cons] at hcb
  have hll : (E.inq :: E.qs).length = 1 + E.qs.length := by rw [List.length_cons]; omega
  have hn : 1 + E.qs.length ≤ 1048577 := by omega
  have hcb : 1 + E.qs.length ≤ c := by omega
  generalize E.inq :: E.qs = ls at HQ htot hrow hll ⊢
  generalize 1 + E.qs.length = n at HR htot hrow hll hn hcb ⊢
  have HT := Lib.hid htot
  have HRW := Lib.hid hrow
  have HLL := Lib.hid hll
  clear hf hr hL K B hres htot hrow hrows hbB hra hll hbw
  go_enter Try.func22, Try.ntmps22
  go_wp2_with (at_builtin; refine Lib.wpList_append_run _ rfl _ _ _ _ rfl _ _ rfl rfl _ _ HR.out ?_)
  go_loopw [3, 15, 5] (fun n0 i _ wr => ∃ j : Nat, j ≤ n ∧ i = .int .i64 j ∧ n0 = .int .i64 (evT ls j : Nat) ∧ Below WB.heap.size WB wr) (fun _ i _ _ => n - (intOf i).toNat)
  case atStart => exact ⟨0, Nat.zero_le _, rfl, by simp [evT], Below.refl _ _⟩
  case round =>
    obtain ⟨j, hj, rfl, rfl, hb⟩ := hrel
    have g0 := HT.out j hj
    have hsz := hb.size
    have HBB := Lib.hid hb
    by_cases hlt : j < n
    · obtain ⟨b, off, rfl, hbh, hcell⟩ := (HQ.out.below hb).cells (by have := HLL.out; omega)
      obtain ⟨ai, ci, h0, _, hrd⟩ := hcell j (by have := HLL.out; omega)
      have g1 := HRW.out j hlt
      have hS : evT ls (j + 1) = evT ls j + evN (rel [] ls j) := rfl
      have HS := Lib.hid hS
      rw [Nat.mul_one] at h0
      clear hcell hS hb
      generalize rel [] ls j = row at h0 hrd g1 HS
      have h0 : wr.cell? ⟨b, off + j, none⟩ = some (.slice ai row.length ci) := h0
      have HRD := Lib.hid (show Mqs wr WB.heap.size ai ci row from hrd)
      have r1 := HRD.out.cap
      have r2 := HRD.out.big
      generalize evT ls j = u at g0 g1 HS ⊢
      have hlt' : (j : Int) < (n : Int) := by omega
      clear hrd
      go_wp2
      go_loopw [3, 21] (fun n0 i wq => ∃ m : Nat, m ≤ row.length ∧ i = .int .i64 m ∧ n0 = .int .i64 ((u + evN (row.take m) : Nat) : Int) ∧ Below wr.heap.size wr wq) (fun _ i _ => row.length - (intOf i).toNat)
      case atStart => exact ⟨0, Nat.zero_le _, rfl, by simp [evN], Below.refl _ _⟩
      case round =>
        obtain ⟨m, hm, rfl, rfl, hb2⟩ := hrel
        have hle2 := evN_take_le row m
        have HB2 := Lib.hid hb2
        have hsz2 := hb2.size
        by_cases hlt2 : m < row.length
        · obtain ⟨b2, off2, rfl, hbh2, hcell2⟩ := Mqs.six (HRD.out.below (hb2.mono hsz)) (by omega)
          obtain ⟨q0, q1, q2, q3, q4⟩ := hcell2 m hlt2
          have hlt2' : (m : Int) < (row.length : Int) := by omega
          have T1 := Lib.hid (fun h => evN_take_ev (l := row) (j := m) hlt2 h)
          have T2 := Lib.hid (fun h => evN_take_no (l := row) (j := m) hlt2 h)
          clear hcell2 hb2
          generalize qel row m = S at q0 q1 q2 q3 q4 T1 T2
          obtain ⟨kd, ky, tm, vl, mr⟩ := S
          simp only at q0 q1 q2 q3 q4 T1 T2
          generalize evN (row.take m) = v at hle2 T1 T2
          have HM := Lib.hid (fun W => msgIsEv_x kd ky tm vl mr W)
          have B3 := Lib.hid (HB2.out.alloc hsz2 (.cells #[.int .i64 kd, .int .i64 ky, .int .i64 tm, .int .i64 vl, .int .i64 mr] 88))
          by_cases hk : kd = 1
          · subst hk
            have T3 := Lib.hid (T1.out rfl)
            clear T1 T2
            go_wp2_with fail
            refine (HM.out _).mono ?_
            rintro e w5 ⟨rfl, hb5⟩
            have B5 := Lib.hid (B3.out.trans (hb5.mono B3.out.size))
            clear hb5
            go_wp2
            go_roundw
            case rel => exact ⟨m + 1, by omega, by go_num, by rw [T3.out]; go_num, B5.out⟩
            case measure => simp [intOf]; omega
          · have hkb : (kd == 1) = false := beq_eq_false_iff_ne.2 hk
            have T3 := Lib.hid (T2.out hk)
            clear T1 T2
            rw [hkb] at HM
            go_wp2_with fail
            refine (HM.out _).mono ?_
            rintro e w5 ⟨rfl, hb5⟩
            have B5 := Lib.hid (B3.out.trans (hb5.mono B3.out.size))
            clear hb5
            go_wp2
            go_roundw
            case rel => exact ⟨m + 1, by omega, by go_num, by rw [T3.out]; go_num, B5.out⟩
            case measure => simp [intOf]; omega
        · obtain rfl : m = row.length := by omega
          have hN : evN (row.take row.length) = evN row := by rw [List.take_length]
          rw [hN] at hle2 ⊢
          clear hb2
          go_wp2
          go_roundw
          case rel => exact ⟨j + 1, by omega, by go_num, by first | (rw [HS.out]; done) | (rw [HS.out]; go_num), HBB.out.trans (HB2.out.mono hsz)⟩
          case measure => simp [intOf]; omega
    · obtain rfl : j = n := by omega
      clear hb
      go_wp2
      go_ret
      exact ⟨rfl, HB.out.trans (HBB.out.mono HB.out.size)⟩
end Go.Proofs.Ytfneipdlihbbjaa
