/- What a safe engine is; impl.EngineSafe. (made by tools/mksafe4.py) -/
import Derived.Test.YtnfhlfbkdhpacaaGreatDoorSafe3
import Derived.Deep.MidRow
import Derived.Test.YtnfhlfbkdhpacaaGreatDoorJoint1
namespace Go.Proofs.YtnfhlfbkdhpacaaGreatDoor
open Go.RowKit

/-- A whole value loaded by an operation whose guard is on. -/
theorem wpList_load_midG {P : Program} {ops : Array Oper} {rest : List Oper} {op : Oper} {a : Act} {w : World} {Q : Exit → Act → World → Prop} (hw : Region.wanted op (yielded ops a.tmps) = true) (ty : TypeId) (x : Operand) (ho : op.op = .load ty x)
    (b o : Nat) (hx : a.eval x = .pointer (some ⟨b, o, none⟩)) (cs : List Value) (d : TypeDesc) (hc : w.rangeAt b o cs)
    (hu : P.underlying ty = some d) (hd : d.isRow = true) (hi : (P.info? ty).map (·.size) = some cs.length)
    (h : wpList P ops Q rest (a.put op.dst (.agg cs.toArray)) w) : wpList P ops Q (op :: rest) a w := by
  unfold wpList
  rw [if_pos hw]
  exact .inl (wp_load_mid ty x ho b o hx cs d hc hu hd hi h)
/-- What EngineSafe answers. -/
noncomputable def safeE (E : En) : Bool := setOk E.s0 E.s1 E.s2 E.s3 E.s4 E.s5 E.s6 E.s7 E.s8 && (inB E.mode 0 2 && (partsB E && ((List.range E.sh.length).all (shOk E) && ((List.range E.cs.length).all (fun j => conOk (rel cnD E.cs j)) && (qOk false E.s5 E.inq && decide ((E.out.length : Int) ≤ E.s7))))))
theorem safe_set {E : En} (h : setOk E.s0 E.s1 E.s2 E.s3 E.s4 E.s5 E.s6 E.s7 E.s8 = false) : safeE E = false := by unfold safeE; rw [h, Bool.false_and]
theorem safe_mode {E : En} (h : inB E.mode 0 2 = false) : safeE E = false := by unfold safeE; rw [h, Bool.false_and, Bool.and_false]
theorem safe_parts {E : En} (h : partsB E = false) : safeE E = false := by unfold safeE; rw [h, Bool.false_and, Bool.and_false, Bool.and_false]
theorem safe_sh {E : En} {j : Nat} (hj : j < E.sh.length) (h : shOk E j = false) : safeE E = false := by
  have hz : (List.range E.sh.length).all (shOk E) = false := by
    rw [Bool.eq_false_iff]
    intro ha
    have := List.all_eq_true.1 ha j (List.mem_range.2 hj)
    rw [h] at this
    cases this
  unfold safeE; rw [hz]; simp
theorem safe_con {E : En} {j : Nat} (hj : j < E.cs.length) (h : conOk (rel cnD E.cs j) = false) : safeE E = false := by
  have hz : (List.range E.cs.length).all (fun j => conOk (rel cnD E.cs j)) = false := by
    rw [Bool.eq_false_iff]
    intro ha
    have := List.all_eq_true.1 ha j (List.mem_range.2 hj)
    rw [h] at this
    cases this
  unfold safeE; rw [hz]; simp
theorem safe_in {E : En} (h : qOk false E.s5 E.inq = false) : safeE E = false := by unfold safeE; rw [h]; simp
theorem safe_out {E : En} (h : ¬ (E.out.length : Int) ≤ E.s7) : safeE E = false := by unfold safeE; rw [decide_eq_false h]; simp
theorem safe_yes {E : En} (h1 : setOk E.s0 E.s1 E.s2 E.s3 E.s4 E.s5 E.s6 E.s7 E.s8 = true) (h2 : inB E.mode 0 2 = true) (h3 : partsB E = true) (h4 : ∀ j, j < E.sh.length → shOk E j = true) (h5 : ∀ j, j < E.cs.length → conOk (rel cnD E.cs j) = true)
    (h6 : qOk false E.s5 E.inq = true) (h7 : (E.out.length : Int) ≤ E.s7) : safeE E = true := by
  have z4 : (List.range E.sh.length).all (shOk E) = true := List.all_eq_true.2 fun j hj => h4 j (List.mem_range.1 hj)
  have z5 : (List.range E.cs.length).all (fun j => conOk (rel cnD E.cs j)) = true := List.all_eq_true.2 fun j hj => h5 j (List.mem_range.1 hj)
  unfold safeE
  rw [h1, h2, h3, z4, z5, h6, decide_eq_true h7]
  rfl
theorem parts_at {E : En} (h : partsB E = true) : (E.qs.length : Int) = E.s1 ∧ (E.sh.length : Int) = E.s1 ∧ (E.sent.length : Int) = E.s1 := by
  unfold partsB at h
  simp only [Bool.and_eq_true, beq_iff_eq] at h
  exact ⟨h.1.1, h.1.2, h.2⟩
set_option maxHeartbeats 4000000 in
set_option maxRecDepth 100000 in
theorem implSafe_any (E : En) (q : Pl) (L : List Value) (hi : Nat) (w : World) (hL : L = evL E q) (hr : EnR w w.heap.size q E) (ht : Tabs w hi) (hB : hi ≤ w.heap.size) :
    Calls Tryz.prog 67 #[.agg L.toArray] w fun e w' => e = .returned (.bool (safeE E)) ∧ Below w.heap.size w w' := by
  have k0 := Blk.new w 45 L.toArray
  have b1 := (Below.refl w.heap.size w).alloc (Nat.le_refl _) (.cells L.toArray 45)
  have B1 := Lib.hid b1
  have K0 := Lib.hid k0
  have HR := Lib.hid hr
  have HS := Lib.hid (fun (W : World) (hb : Below w.heap.size w W) => implSetOk_x E.s0 E.s1 E.s2 E.s3 E.s4 E.s5 E.s6 E.s7 E.s8 hi W (ht.below (hb.mono hB)) (Nat.le_trans hB hb.size))
  have HM := Lib.hid (fun W => isW_any E.mode 0 2 W)
  have HP := Lib.hid (fun W => hasParts_any E q L W hL)
  have HSH := Lib.hid (fun (j : Nat) (W : World) (hb : Below w.heap.size w W) h1 h2 h3 => shardOk_x E q L j W hL ((hr.below hb).more hb.size) h1 h2 h3)
  have HQ := Lib.hid (fun (W : World) (hb : Below w.heap.size w W) => queueEv_any q.a1 q.c1 E.s5 E.inq w.heap.size W (hr.inq.below hb) hb.size)
  have hlen : L.length = 24 := by rw [hL]; rfl
  have IL : Hid ((Tryz.prog.info? 45).map (·.size) = some L.length) := Lib.hid (by rw [hlen]; kernel_rfl)
  have Z1 := Lib.hid (safe_set (E := E))
  have Z2 := Lib.hid (safe_mode (E := E))
  have Z3 := Lib.hid (safe_parts (E := E))
  have Z4 := Lib.hid (fun j hj h => safe_sh (E := E) (j := j) hj h)
  have Z5 := Lib.hid (fun j hj h => safe_con (E := E) (j := j) hj h)
  have Z6 := Lib.hid (safe_in (E := E))
  have Z7 := Lib.hid (safe_out (E := E))
  have ZY := Lib.hid (safe_yes (E := E))
  have PA := Lib.hid (parts_at (E := E))
  have e0 : L.toArray[0]? = some (.int .i64 E.s0) := by rw [hL]; rfl
  have e1 : L.toArray[1]? = some (.int .i64 E.s1) := by rw [hL]; rfl
  have e2 : L.toArray[2]? = some (.int .i64 E.s2) := by rw [hL]; rfl
  have e3 : L.toArray[3]? = some (.int .i64 E.s3) := by rw [hL]; rfl
  have e4 : L.toArray[4]? = some (.int .i64 E.s4) := by rw [hL]; rfl
  have e5 : L.toArray[5]? = some (.int .i64 E.s5) := by rw [hL]; rfl
  have e6 : L.toArray[6]? = some (.int .i64 E.s6) := by rw [hL]; rfl
  have e7 : L.toArray[7]? = some (.int .i64 E.s7) := by rw [hL]; rfl
  have e8 : L.toArray[8]? = some (.int .i64 E.s8) := by rw [hL]; rfl
  have e10 : L.toArray[10]? = some (.int .i64 E.mode) := by rw [hL]; rfl
  have e11 : L.toArray[11]? = some (.slice q.a0 E.cs.length q.c0) := by rw [hL]; rfl
  have e12 : L.toArray[12]? = some (.slice q.a1 E.inq.length q.c1) := by rw [hL]; rfl
  have e14 : L.toArray[14]? = some (.slice q.a3 E.sh.length q.c3) := by rw [hL]; rfl
  have e15 : L.toArray[15]? = some (.slice q.a4 E.out.length q.c4) := by rw [hL]; rfl
  have c0 := (K0.out.cell 0).trans e0
  have c1 := (K0.out.cell 1).trans e1
  have c2 := (K0.out.cell 2).trans e2
  have c3 := (K0.out.cell 3).trans e3
  have c4 := (K0.out.cell 4).trans e4
  have c5 := (K0.out.cell 5).trans e5
  have c6 := (K0.out.cell 6).trans e6
  have c7 := (K0.out.cell 7).trans e7
  have c8 := (K0.out.cell 8).trans e8
  have E5 := Lib.hid e5
  have E7 := Lib.hid e7
  have E10 := Lib.hid e10
  have E11 := Lib.hid e11
  have E12 := Lib.hid e12
  have E14 := Lib.hid e14
  have E15 := Lib.hid e15
  have m1 := hr.sh.cap
  have m2 := hr.sh.big
  have m3 := hr.cs.cap
  have m4 := hr.cs.big
  have m5 := hr.out.cap
  have m6 := hr.out.big
  have m7 := hr.inq.cap
  have m8 := hr.inq.big
  clear hr ht hL k0 b1 hlen e0 e1 e2 e3 e4 e5 e6 e7 e8 e10 e11 e12 e14 e15
  generalize setOk E.s0 E.s1 E.s2 E.s3 E.s4 E.s5 E.s6 E.s7 E.s8 = so at HS Z1 ZY
  generalize inB E.mode 0 2 = mo at HM Z2 ZY
  generalize partsB E = po at HP Z3 ZY PA
  generalize qOk false E.s5 E.inq = qo at HQ Z6 ZY
  generalize safeE E = ans at *
  go_enter Tryz.func67, Tryz.ntmps67
  go_wp2_with fail
  refine (HS.out _ B1.out).mono ?_
  rintro e w1 ⟨rfl, hb⟩
  have K1 := Lib.hid (K0.out.below hb)
  have B2 := Lib.hid (B1.out.trans (hb.mono B1.out.size))
  clear hb c0 c1 c2 c3 c4 c5 c6 c7 c8
  have c10 := (K1.out.cell 10).trans E10.out
  cases so with
  | false =>
    have ZZ := Lib.hid (Z1.out rfl)
    go_wp2
    go_ret
    exact ⟨by rw [ZZ.out]; rfl, B2.out⟩
  | true =>
  go_wp2_with fail
  clear c10
  refine (HM.out _).mono ?_
  rintro e w2 ⟨rfl, rfl⟩
  cases mo with
  | false =>
    have ZZ := Lib.hid (Z2.out rfl)
    go_wp2
    go_ret
    exact ⟨by rw [ZZ.out]; rfl, B2.out⟩
  | true =>
  have RG1 := Lib.hid (range_blk K1.out)
  go_wp2_with (refine wpList_load_midG (by kernel_rfl) 45 _ rfl w.heap.size 0 rfl L _ RG1.out Tryz.underlying45 rfl IL.out ?_)
  refine (HP.out _).mono ?_
  rintro e w3 ⟨rfl, hb⟩
  have K3 := Lib.hid (K1.out.below hb)
  have B3 := Lib.hid (B2.out.trans (hb.mono B2.out.size))
  clear hb RG1
  cases po with
  | false =>
    have ZZ := Lib.hid (Z3.out rfl)
    go_wp2
    go_ret
    exact ⟨by rw [ZZ.out]; rfl, B3.out⟩
  | true =>
  obtain ⟨n1, n2, n3⟩ := PA.out rfl
  have NQ : Hid (∀ j : Nat, j < E.sh.length → j < E.qs.length ∧ j < E.sent.length) := Lib.hid (fun j hj => by omega)
  clear n1 n2 n3 PA
  have c14 := (K3.out.cell 14).trans E14.out
  go_wp2
  clear c14
  go_loopw [24] (fun i wr => ∃ j : Nat, j ≤ E.sh.length ∧ i = .int .i64 j ∧ (∀ m, m < j → shOk E m = true) ∧ Below w.heap.size w wr ∧ Blk wr w.heap.size 45 L.toArray) (fun i _ => E.sh.length - (intOf i).toNat)
  case atStart => exact ⟨0, Nat.zero_le _, rfl, fun m hm => by omega, B3.out, K3.out⟩
  case round =>
    obtain ⟨j, hj, rfl, hall, hb, hk⟩ := hrel
    have B4 := Lib.hid hb
    have K4 := Lib.hid hk
    have HA := Lib.hid hall
    have RG4 := Lib.hid (range_blk hk)
    clear hb hk hall
    by_cases hlt : j < E.sh.length
    · have HC := Lib.hid (HSH.out j wr B4.out (NQ.out j hlt).1 hlt (NQ.out j hlt).2)
      have HNJ := Lib.hid (Z4.out j hlt)
      have HST : Hid (shOk E j = true → ∀ m, m < j + 1 → shOk E m = true) := Lib.hid (fun h m hm => by
        rcases Nat.lt_or_ge m j with h1 | h1
        · exact HA.out m h1
        · obtain rfl : m = j := by omega
          exact h)
      have hlt' : (j : Int) < (E.sh.length : Int) := by omega
      generalize shOk E j = g at HC HNJ HST
      go_wp2_with (refine wpList_load_mid rfl 45 _ rfl w.heap.size 0 rfl L _ RG4.out Tryz.underlying45 rfl IL.out ?_)
      refine HC.out.mono ?_
      rintro e w5 ⟨rfl, hb⟩
      have K5 := Lib.hid (K4.out.below hb)
      have B5 := Lib.hid (B4.out.trans (hb.mono B4.out.size))
      clear hb
      cases g with
      | false =>
        have ZZ := Lib.hid (HNJ.out rfl)
        go_wp2
        go_ret
        exact ⟨by rw [ZZ.out]; rfl, B5.out⟩
      | true =>
        have HST2 := Lib.hid (HST.out rfl); clear HST
        go_wp2
        go_roundw
        case rel => exact ⟨j + 1, by omega, by go_num, HST2.out, B5.out, K5.out⟩
        case measure => simp [intOf]; omega
    · obtain rfl : j = E.sh.length := by omega
      have c11 := (K4.out.cell 11).trans E11.out
      have hnl : ¬ ((E.sh.length : Int) < (E.sh.length : Int)) := by omega
      go_wp2
      clear c11
      rename World => wq
      go_loopw [35] (fun i wr => ∃ j : Nat, j ≤ E.cs.length ∧ i = .int .i64 j ∧ (∀ m, m < j → conOk (rel cnD E.cs m) = true) ∧ Below w.heap.size w wr ∧ Blk wr w.heap.size 45 L.toArray) (fun i _ => E.cs.length - (intOf i).toNat)
      case atStart => exact ⟨0, Nat.zero_le _, rfl, fun m hm => by omega, B4.out, K4.out⟩
      case round =>
        obtain ⟨j, hj, rfl, hall, hb, hk⟩ := hrel
        have B6 := Lib.hid hb
        have K6 := Lib.hid hk
        have HB6 := Lib.hid hall
        clear hb hk hall
        by_cases hlt : j < E.cs.length
        · have hrow := (HR.out.cs).below B6.out
          obtain ⟨b, off, hab, hbh, hcell⟩ := hrow.cells (by omega)
          rw [hab]
          obtain ⟨ai, ci, h0, hq, hrd⟩ := hcell j hlt
          have HNJ := Lib.hid (Z5.out j hlt)
          have HST : Hid (conOk (rel cnD E.cs j) = true → ∀ m, m < j + 1 → conOk (rel cnD E.cs m) = true) := Lib.hid (fun h m hm => by
            rcases Nat.lt_or_ge m j with h1 | h1
            · exact HB6.out m h1
            · obtain rfl : m = j := by omega
              exact h)
          generalize rel cnD E.cs j = x at h0 hq hrd HNJ HST
          obtain ⟨xl, bad, mx, mr, sn, idl, opn⟩ := x
          have q0 : wr.cell? ⟨b, off + j * 7, none⟩ = some (.slice ai xl.length ci) := h0
          have q1 : wr.cell? ⟨b, off + j * 7 + 1, none⟩ = some (.bool bad) := hq 0 (by omega)
          have q2 : wr.cell? ⟨b, off + j * 7 + 2, none⟩ = some (.int .i64 mx) := hq 1 (by omega)
          have q3 : wr.cell? ⟨b, off + j * 7 + 3, none⟩ = some (.int .i64 mr) := hq 2 (by omega)
          have q4 : wr.cell? ⟨b, off + j * 7 + 4, none⟩ = some (.int .i64 sn) := hq 3 (by omega)
          have q5 : wr.cell? ⟨b, off + j * 7 + 5, none⟩ = some (.bool idl) := hq 4 (by omega)
          have q6 : wr.cell? ⟨b, off + j * 7 + 6, none⟩ = some (.bool opn) := hq 5 (by omega)
          have hm1 := Recs_cap_Conn hrd
          clear hcell h0 hq hrd hrow
          have HC := Lib.hid (fun W => conOk_x xl bad mx mr sn idl opn ai ci W hm1)
          have B7 := Lib.hid (B6.out.alloc B6.out.size (.cells #[.slice ai xl.length ci, .bool bad, .int .i64 mx, .int .i64 mr, .int .i64 sn, .bool idl, .bool opn] 95))
          have K7 := Lib.hid (K6.out.alloc (.cells #[.slice ai xl.length ci, .bool bad, .int .i64 mx, .int .i64 mr, .int .i64 sn, .bool idl, .bool opn] 95))
          have hlt' : (j : Int) < (E.cs.length : Int) := by omega
          generalize conOk ⟨xl, bad, mx, mr, sn, idl, opn⟩ = g at HC HNJ HST
          go_wp2_with fail
          refine (HC.out _).mono ?_
          rintro e w5 ⟨rfl, hb⟩
          have K5 := Lib.hid (K7.out.below hb)
          have B5 := Lib.hid (B7.out.trans (hb.mono B7.out.size))
          clear hb q0 q1 q2 q3 q4 q5 q6
          cases g with
          | false =>
            have ZZ := Lib.hid (HNJ.out rfl)
            go_wp2
            go_ret
            exact ⟨by rw [ZZ.out]; rfl, B5.out⟩
          | true =>
            have HST2 := Lib.hid (HST.out rfl); clear HST
            go_wp2
            go_roundw
            case rel => exact ⟨j + 1, by omega, by go_num, HST2.out, B5.out, K5.out⟩
            case measure => simp [intOf]; omega
        · obtain rfl : j = E.cs.length := by omega
          have c5 := (K6.out.cell 5).trans E5.out
          have c12 := (K6.out.cell 12).trans E12.out
          go_wp2_with fail
          clear c5 c12
          refine (HQ.out _ B6.out).mono ?_
          rintro e w5 ⟨rfl, hb⟩
          have K5 := Lib.hid (K6.out.below hb)
          have B5 := Lib.hid (B6.out.trans (hb.mono B6.out.size))
          clear hb
          cases qo with
          | false =>
            have ZZ := Lib.hid (Z6.out rfl)
            go_wp2
            go_ret
            exact ⟨by rw [ZZ.out]; rfl, B5.out⟩
          | true =>
            have c7 := (K5.out.cell 7).trans E7.out
            have c15 := (K5.out.cell 15).trans E15.out
            by_cases ho : (E.out.length : Int) ≤ E.s7
            · have ZZ := Lib.hid (ZY.out (by first | rfl | trivial) (by first | rfl | trivial) (by first | rfl | trivial) HA.out HB6.out (by first | rfl | trivial) ho)
              go_wp2
              go_ret
              exact ⟨by rw [ZZ.out]; first | rfl | exact congrArg (fun b => Ending.returned (.bool b)) (decide_eq_true ho), B5.out⟩
            · have ZZ := Lib.hid (Z7.out (by first | exact ho | omega))
              go_wp2
              go_ret
              exact ⟨by rw [ZZ.out]; exact congrArg (fun b => Ending.returned (.bool b)) (decide_eq_false (show ¬ (E.out.length : Int) ≤ E.s7 by omega)), B5.out⟩
end Go.Proofs.YtnfhlfbkdhpacaaGreatDoor
