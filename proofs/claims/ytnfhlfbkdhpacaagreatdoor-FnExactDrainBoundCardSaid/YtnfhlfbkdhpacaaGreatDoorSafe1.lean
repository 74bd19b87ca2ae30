/- What EngineSafe asks of frames, messages and connections, on impl's and on spec's side. (made by tools/mksafe1.py) -/
import Derived.Test.YtnfhlfbkdhpacaaGreatDoorInFl
import Derived.Test.YtnfhlfbkdhpacaaGreatDoorJoint1
namespace Go.Proofs.YtnfhlfbkdhpacaaGreatDoor
open Go.RowKit

def mqEv (S : Mq) : Bool := S.kd == 1 && fOk S.kd S.ky S.tm S.vl
def zeroQ (S : Mq) : Bool := S.kd == 0 && S.ky == 0 && S.tm == 0 && S.vl == 0
def mayB (alone : Bool) (S : Mq) : Bool := (alone && zeroQ S) || mqEv S
def mqB (alone : Bool) (S : Mq) : Bool := mayB alone S && isMk S.mr
def conOk (S : Cn) : Bool := sOk ⟨S.mx, S.mr, S.sn, S.idl, S.opn⟩ && dOk S.l.length S.bad
set_option maxHeartbeats 1000000 in
theorem fEv_x (k y t v : Int) (w : World) : Calls Tryz.prog 116 #[(.agg #[.int .i64 k, .int .i64 y, .int .i64 t, .int .i64 v])] w fun e w' => e = .returned (.bool (k == 1 && fOk k y t v)) ∧ Below w.heap.size w w' := by
  have B0 := Lib.hid ((Below.refl w.heap.size w).alloc (Nat.le_refl _) (.cells #[.int .i64 k, .int .i64 y, .int .i64 t, .int .i64 v] 97))
  have HF := Lib.hid (fun W => implFrameOk_any k y t v W)
  generalize fOk k y t v = ok at HF ⊢
  cases hk : (k == 1) with
  | false =>
    rw [Bool.false_and]
    go_enter Tryz.func116, Tryz.ntmps116
    go_wp2
    go_ret
    exact ⟨rfl, B0.out⟩
  | true =>
    rw [Bool.true_and]
    go_enter Tryz.func116, Tryz.ntmps116
    go_wp2_with fail
    refine (HF.out _).mono ?_
    rintro e w1 ⟨rfl, hb⟩
    have B1 := Lib.hid (B0.out.trans (hb.mono B0.out.size))
    clear hb
    go_wp2
    go_ret
    exact ⟨rfl, B1.out⟩
set_option maxHeartbeats 1000000 in
theorem fSent_x (k y t v : Int) (w : World) : Calls Tryz.prog 164 #[(.agg #[.int .i64 k, .int .i64 y, .int .i64 t, .int .i64 v])] w fun e w' => e = .returned (.bool ((k == 0 && y == 0 && t == 0 && v == 0) || (k == 1 && fOk k y t v))) ∧ Below w.heap.size w w' := by
  have B0 := Lib.hid ((Below.refl w.heap.size w).alloc (Nat.le_refl _) (.cells #[.int .i64 k, .int .i64 y, .int .i64 t, .int .i64 v] 97))
  have HF := Lib.hid (fun W => fEv_x k y t v W)
  generalize (k == 1 && fOk k y t v) = ok at HF ⊢
  by_cases hz : k = 0 ∧ y = 0 ∧ t = 0 ∧ v = 0
  · obtain ⟨rfl, rfl, rfl, rfl⟩ := hz
    have hok : (((0 : Int) == 0 && (0 : Int) == 0 && (0 : Int) == 0 && (0 : Int) == 0) || ok) = true := by simp
    rw [hok]
    go_enter Tryz.func164, Tryz.ntmps164
    go_wp2
    go_ret
    exact ⟨rfl, B0.out⟩
  · have hz2 : (k == 0 && y == 0 && t == 0 && v == 0) = false := by
      rw [Bool.eq_false_iff]
      intro h
      simp only [Bool.and_eq_true, beq_iff_eq] at h
      exact hz ⟨h.1.1.1, h.1.1.2, h.1.2, h.2⟩
    rw [hz2, Bool.false_or]
    by_cases h0 : k = 0
    · subst h0
      by_cases h1 : y = 0
      · subst h1
        by_cases h2 : t = 0
        · subst h2
          have h3 : (v == 0) = false := beq_eq_false_iff_ne.2 (fun h => hz ⟨rfl, rfl, rfl, h⟩)
          clear hz hz2
          go_enter Tryz.func164, Tryz.ntmps164
          go_wp2_with fail
          refine (HF.out _).mono ?_
          rintro e w1 ⟨rfl, hb⟩
          have B1 := Lib.hid (B0.out.trans (hb.mono B0.out.size))
          clear hb
          go_wp2
          go_ret
          exact ⟨rfl, B1.out⟩
        · have h2b : (t == 0) = false := beq_eq_false_iff_ne.2 h2
          clear hz hz2
          go_enter Tryz.func164, Tryz.ntmps164
          go_wp2_with fail
          refine (HF.out _).mono ?_
          rintro e w1 ⟨rfl, hb⟩
          have B1 := Lib.hid (B0.out.trans (hb.mono B0.out.size))
          clear hb
          go_wp2
          go_ret
          exact ⟨rfl, B1.out⟩
      · have h1b : (y == 0) = false := beq_eq_false_iff_ne.2 h1
        clear hz hz2
        go_enter Tryz.func164, Tryz.ntmps164
        go_wp2_with fail
        refine (HF.out _).mono ?_
        rintro e w1 ⟨rfl, hb⟩
        have B1 := Lib.hid (B0.out.trans (hb.mono B0.out.size))
        clear hb
        go_wp2
        go_ret
        exact ⟨rfl, B1.out⟩
    · have h0b : (k == 0) = false := beq_eq_false_iff_ne.2 h0
      clear hz hz2
      go_enter Tryz.func164, Tryz.ntmps164
      go_wp2_with fail
      refine (HF.out _).mono ?_
      rintro e w1 ⟨rfl, hb⟩
      have B1 := Lib.hid (B0.out.trans (hb.mono B0.out.size))
      clear hb
      go_wp2
      go_ret
      exact ⟨rfl, B1.out⟩
set_option maxHeartbeats 2000000 in
theorem specMsg_x (al : Bool) (k y t v m : Int) (w : World) : Calls Tryz.prog 84 #[.agg #[.int .i64 k, .int .i64 y, .int .i64 t, .int .i64 v, .int .i64 m], .bool al] w fun e w' => e = .returned (.bool (mqB al ⟨k, y, t, v, m⟩)) ∧ Below w.heap.size w w' := by
  have B0 := Lib.hid ((Below.refl w.heap.size w).alloc (Nat.le_refl _) (.cells #[.int .i64 k, .int .i64 y, .int .i64 t, .int .i64 v, .int .i64 m] 127))
  have HF := Lib.hid (fun W => specFrameOk_any k y t v W)
  have HM := Lib.hid (fun W => specMark_any m W)
  unfold mqB mayB zeroQ mqEv
  simp only
  generalize fOk k y t v = ok at HF ⊢
  cases hm : isMk m with
  | false =>
    rw [hm] at HM
    rw [Bool.and_false]
    clear hm
    go_enter Tryz.func84, Tryz.ntmps84
    go_wp2_with fail
    refine (HM.out _).mono ?_
    rintro e w1 ⟨rfl, rfl⟩
    go_wp2
    go_ret
    exact ⟨rfl, B0.out⟩
  | true =>
    rw [hm] at HM
    rw [Bool.and_true]
    clear hm
    by_cases h0 : k = 0
    · subst h0
      have e1 : ((al && ((0 : Int) == 0 && y == 0 && t == 0 && v == 0)) || ((0 : Int) == 1 && ok)) = (al && (y == 0 && t == 0 && v == 0)) := by simp
      rw [e1]
      cases al with
      | false =>
        rw [Bool.false_and]
        go_enter Tryz.func84, Tryz.ntmps84
        go_wp2_with fail
        refine (HM.out _).mono ?_
        rintro e w1 ⟨rfl, rfl⟩
        go_wp2
        go_ret
        exact ⟨rfl, B0.out⟩
      | true =>
        rw [Bool.true_and]
        have hyd : ∀ a : Int, (a == 0) = true ∨ (a == 0) = false := fun a => by cases (a == 0) <;> simp
        rcases hyd y with hy | hy <;> rcases hyd t with ht | ht <;> rcases hyd v with hv | hv <;> rw [hy, ht, hv] <;>
        · go_enter Tryz.func84, Tryz.ntmps84
          go_wp2_with fail
          refine (HM.out _).mono ?_
          rintro e w1 ⟨rfl, rfl⟩
          go_wp2
          go_ret
          exact ⟨by first | rfl | simp_all, B0.out⟩
    · have h0b : (k == 0) = false := beq_eq_false_iff_ne.2 h0
      have e1 : ((al && (k == 0 && y == 0 && t == 0 && v == 0)) || (k == 1 && ok)) = (k == 1 && ok) := by simp [h0b]
      rw [e1]
      cases hk : (k == 1) with
      | false =>
        rw [Bool.false_and]
        clear h0 e1
        go_enter Tryz.func84, Tryz.ntmps84
        go_wp2_with fail
        refine (HM.out _).mono ?_
        rintro e w1 ⟨rfl, rfl⟩
        go_wp2
        go_ret
        exact ⟨rfl, B0.out⟩
      | true =>
        rw [Bool.true_and]
        clear h0 e1
        go_enter Tryz.func84, Tryz.ntmps84
        go_wp2_with fail
        refine (HM.out _).mono ?_
        rintro e w1 ⟨rfl, rfl⟩
        go_wp2_with fail
        refine (HF.out _).mono ?_
        rintro e w2 ⟨rfl, hb⟩
        have B1 := Lib.hid (B0.out.trans (hb.mono B0.out.size))
        clear hb
        go_wp2
        go_ret
        exact ⟨rfl, B1.out⟩
set_option maxHeartbeats 1000000 in
theorem conOk_x (xl : List Int) (bad : Bool) (mx mr sn : Int) (idl opn : Bool) (a : Option Addr) (c : Nat) (w : World) (hn : xl.length ≤ 9223372036854775807) :
    Calls Tryz.prog 114 #[.agg #[.slice a xl.length c, .bool bad, .int .i64 mx, .int .i64 mr, .int .i64 sn, .bool idl, .bool opn]] w fun e w' => e = .returned (.bool (conOk ⟨xl, bad, mx, mr, sn, idl, opn⟩)) ∧ Below w.heap.size w w' := by
  have B0 := Lib.hid ((Below.refl w.heap.size w).alloc (Nat.le_refl _) (.cells #[.slice a xl.length c, .bool bad, .int .i64 mx, .int .i64 mr, .int .i64 sn, .bool idl, .bool opn] 95))
  have K0 := Lib.hid (Blk.new w 95 #[.slice a xl.length c, .bool bad, .int .i64 mx, .int .i64 mr, .int .i64 sn, .bool idl, .bool opn])
  have HS := Lib.hid (fun W => implSrcOk_any ⟨mx, mr, sn, idl, opn⟩ W)
  have HD := Lib.hid (fun W => implDecOk_any a xl.length c bad W hn)
  unfold conOk
  simp only
  generalize dOk xl.length bad = d at HD ⊢
  cases hs : sOk ⟨mx, mr, sn, idl, opn⟩ with
  | false =>
    rw [hs] at HS
    rw [Bool.false_and]
    go_enter Tryz.func114, Tryz.ntmps114
    go_wp2_with fail
    refine (HS.out _).mono ?_
    rintro e w1 ⟨rfl, hb⟩
    have B1 := Lib.hid (B0.out.trans (hb.mono B0.out.size))
    clear hb
    go_wp2
    go_ret
    exact ⟨rfl, B1.out⟩
  | true =>
    rw [hs] at HS
    rw [Bool.true_and]
    go_enter Tryz.func114, Tryz.ntmps114
    go_wp2_with fail
    refine (HS.out _).mono ?_
    rintro e w1 ⟨rfl, hb⟩
    have B1 := Lib.hid (B0.out.trans (hb.mono B0.out.size))
    have q1 := (K0.out.below hb).cell
    clear hb
    go_wp2_with fail
    clear q1
    refine (HD.out _).mono ?_
    rintro e w2 ⟨rfl, hb⟩
    have B2 := Lib.hid (B1.out.trans (hb.mono B1.out.size))
    clear hb
    go_wp2
    go_ret
    exact ⟨rfl, B2.out⟩
end Go.Proofs.YtnfhlfbkdhpacaaGreatDoor
