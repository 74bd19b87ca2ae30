/- impl.queueOk and (impl.Engine).hasParts. (made by tools/mksafe2.py) -/
import Derived.Test.YtnfhlfbkdhpacaaGreatDoorSafe1
namespace Go.Proofs.YtnfhlfbkdhpacaaGreatDoor
open Go.RowKit

def qOk (al : Bool) (room : Int) (l : List Mq) : Bool := decide ((l.length : Int) ≤ room) && l.all (mqB al)
theorem qOk_long {al : Bool} {room : Int} {l : List Mq} (h : ¬ (l.length : Int) ≤ room) : qOk al room l = false := by simp [qOk, h]
theorem qOk_no {al : Bool} {room : Int} {l : List Mq} {j : Nat} (hj : j < l.length) (h : mqB al (qel l j) = false) : qOk al room l = false := by
  rw [Bool.eq_false_iff]
  intro hq
  simp only [qOk, Bool.and_eq_true, List.all_eq_true] at hq
  have := hq.2 (qel l j) (by unfold qel; rw [rel_lt qD hj]; exact List.getElem_mem _)
  rw [h] at this
  cases this
theorem qOk_yes {al : Bool} {room : Int} {l : List Mq} (h : (l.length : Int) ≤ room) (ha : ∀ j, j < l.length → mqB al (qel l j) = true) : qOk al room l = true := by
  simp only [qOk, Bool.and_eq_true, List.all_eq_true, decide_eq_true_eq]
  refine ⟨h, fun x hx => ?_⟩
  obtain ⟨i, hi, rfl⟩ := List.mem_iff_getElem.1 hx
  have := ha i hi
  unfold qel at this
  rw [rel_lt qD hi] at this
  exact this
theorem qOk_at {al : Bool} {room : Int} {l : List Mq} (h : qOk al room l = true) : (l.length : Int) ≤ room ∧ ∀ j, j < l.length → mqB al (qel l j) = true := by
  simp only [qOk, Bool.and_eq_true, List.all_eq_true, decide_eq_true_eq] at h
  refine ⟨h.1, fun j hj => h.2 _ (by unfold qel; rw [rel_lt qD hj]; exact List.getElem_mem _)⟩
set_option maxHeartbeats 2000000 in
set_option maxRecDepth 100000 in
theorem queueSent_any (a : Option Addr) (c : Nat) (room : Int) (l : List Mq) (hi : Nat) (w : World) (hr : Mqs w hi a c l) (hB : hi ≤ w.heap.size) :
    Calls Tryz.prog 115 #[.slice a l.length c, .int .i64 room, .func (.func 164) #[] #[]] w fun e w' => e = .returned (.bool (qOk true room l)) ∧ Below w.heap.size w w' := by
  have m1 := hr.cap
  have m2 := hr.big
  have HR := Lib.hid hr
  have BR := Lib.hid (Below.refl w.heap.size w)
  clear hr
  by_cases hlen : (l.length : Int) ≤ room
  · have HY := Lib.hid (fun h => qOk_yes (al := true) hlen h)
    have HN := Lib.hid (fun j hj h => qOk_no (al := true) (room := room) (l := l) (j := j) hj h)
    go_enter Tryz.func115, Tryz.ntmps115
    go_wp2
    go_loopw [15] (fun i wr => ∃ j : Nat, j ≤ l.length ∧ i = .int .i64 j ∧ (∀ m, m < j → mqB true (qel l m) = true) ∧ Below w.heap.size w wr) (fun i _ => l.length - (intOf i).toNat)
    case atStart => exact ⟨0, Nat.zero_le _, rfl, fun m hm => by omega, BR.out⟩
    case round =>
      obtain ⟨j, hj, rfl, hall, hb⟩ := hrel
      have hsz := hb.size
      have HB := Lib.hid hb
      have HA := Lib.hid hall
      by_cases hlt : j < l.length
      · obtain ⟨b, off, rfl, hbh, hcell⟩ := Mqs.six (HR.out.below (hb.mono hB)) (by omega)
        obtain ⟨q0, q1, q2, q3, q4⟩ := hcell j hlt
        have hlt' : (j : Int) < (l.length : Int) := by omega
        have HNJ := Lib.hid (HN.out j hlt)
        have HST : Hid (mqB true (qel l j) = true → ∀ m, m < j + 1 → mqB true (qel l m) = true) := Lib.hid (fun h m hm => by
          rcases Nat.lt_or_ge m j with h1 | h1
          · exact HA.out m h1
          · obtain rfl : m = j := by omega
            exact h)
        clear hcell hall hb
        generalize qel l j = S at q0 q1 q2 q3 q4 HNJ HST
        obtain ⟨k, y, t, v, mr⟩ := S
        simp only at q0 q1 q2 q3 q4
        have HM := Lib.hid (fun W => isMark_any mr W)
        have HF := Lib.hid (fun W => fSent_x k y t v W)
        have hmq : mqB true ⟨k, y, t, v, mr⟩ = (((k == 0 && y == 0 && t == 0 && v == 0) || (k == 1 && fOk k y t v)) && isMk mr) := by simp [mqB, mayB, zeroQ, mqEv]
        rw [hmq] at HNJ HST
        generalize ((k == 0 && y == 0 && t == 0 && v == 0) || (k == 1 && fOk k y t v)) = g at HF HNJ HST
        generalize isMk mr = ok at HM HNJ HST
        have B1 := Lib.hid (HB.out.alloc hsz (.cells #[.int .i64 k, .int .i64 y, .int .i64 t, .int .i64 v, .int .i64 mr] 127))
        have K1 := Lib.hid (Blk.new wr 127 #[.int .i64 k, .int .i64 y, .int .i64 t, .int .i64 v, .int .i64 mr])
        clear hmq
        go_wp2_with fail
        refine (HF.out _).mono ?_
        rintro e w5 ⟨rfl, hb5⟩
        have B5 := Lib.hid (B1.out.trans (hb5.mono B1.out.size))
        have q5 := (K1.out.below hb5).cell
        clear hb5
        cases g with
        | false =>
          have HZ := Lib.hid (HNJ.out (by simp))
          go_wp2
          go_ret
          exact ⟨by rw [HZ.out]; rfl, B5.out⟩
        | true =>
          go_wp2_with fail
          clear q5
          refine (HM.out _).mono ?_
          rintro e w6 ⟨rfl, rfl⟩
          cases ok with
          | false =>
            have HZ := Lib.hid (HNJ.out (by simp))
            go_wp2
            go_ret
            exact ⟨by rw [HZ.out]; rfl, B5.out⟩
          | true =>
            have HZ := Lib.hid (HST.out (by simp))
            go_wp2
            go_roundw
            case rel => exact ⟨j + 1, by omega, by go_num, HZ.out, B5.out⟩
            case measure => simp [intOf]; omega
      · obtain rfl : j = l.length := by omega
        have HZ := Lib.hid (HY.out HA.out)
        clear hb hall
        go_wp2
        go_ret
        exact ⟨by rw [HZ.out]; rfl, HB.out⟩
  · rw [qOk_long hlen]
    go_enter Tryz.func115, Tryz.ntmps115
    go_wp2
    go_ret
    exact ⟨rfl, BR.out⟩
set_option maxHeartbeats 2000000 in
set_option maxRecDepth 100000 in
theorem queueEv_any (a : Option Addr) (c : Nat) (room : Int) (l : List Mq) (hi : Nat) (w : World) (hr : Mqs w hi a c l) (hB : hi ≤ w.heap.size) :
    Calls Tryz.prog 115 #[.slice a l.length c, .int .i64 room, .func (.func 116) #[] #[]] w fun e w' => e = .returned (.bool (qOk false room l)) ∧ Below w.heap.size w w' := by
  have m1 := hr.cap
  have m2 := hr.big
  have HR := Lib.hid hr
  have BR := Lib.hid (Below.refl w.heap.size w)
  clear hr
  by_cases hlen : (l.length : Int) ≤ room
  · have HY := Lib.hid (fun h => qOk_yes (al := false) hlen h)
    have HN := Lib.hid (fun j hj h => qOk_no (al := false) (room := room) (l := l) (j := j) hj h)
    go_enter Tryz.func115, Tryz.ntmps115
    go_wp2
    go_loopw [15] (fun i wr => ∃ j : Nat, j ≤ l.length ∧ i = .int .i64 j ∧ (∀ m, m < j → mqB false (qel l m) = true) ∧ Below w.heap.size w wr) (fun i _ => l.length - (intOf i).toNat)
    case atStart => exact ⟨0, Nat.zero_le _, rfl, fun m hm => by omega, BR.out⟩
    case round =>
      obtain ⟨j, hj, rfl, hall, hb⟩ := hrel
      have hsz := hb.size
      have HB := Lib.hid hb
      have HA := Lib.hid hall
      by_cases hlt : j < l.length
      · obtain ⟨b, off, rfl, hbh, hcell⟩ := Mqs.six (HR.out.below (hb.mono hB)) (by omega)
        obtain ⟨q0, q1, q2, q3, q4⟩ := hcell j hlt
        have hlt' : (j : Int) < (l.length : Int) := by omega
        have HNJ := Lib.hid (HN.out j hlt)
        have HST : Hid (mqB false (qel l j) = true → ∀ m, m < j + 1 → mqB false (qel l m) = true) := Lib.hid (fun h m hm => by
          rcases Nat.lt_or_ge m j with h1 | h1
          · exact HA.out m h1
          · obtain rfl : m = j := by omega
            exact h)
        clear hcell hall hb
        generalize qel l j = S at q0 q1 q2 q3 q4 HNJ HST
        obtain ⟨k, y, t, v, mr⟩ := S
        simp only at q0 q1 q2 q3 q4
        have HM := Lib.hid (fun W => isMark_any mr W)
        have HF := Lib.hid (fun W => fEv_x k y t v W)
        have hmq : mqB false ⟨k, y, t, v, mr⟩ = ((k == 1 && fOk k y t v) && isMk mr) := by simp [mqB, mayB, zeroQ, mqEv]
        rw [hmq] at HNJ HST
        generalize (k == 1 && fOk k y t v) = g at HF HNJ HST
        generalize isMk mr = ok at HM HNJ HST
        have B1 := Lib.hid (HB.out.alloc hsz (.cells #[.int .i64 k, .int .i64 y, .int .i64 t, .int .i64 v, .int .i64 mr] 127))
        have K1 := Lib.hid (Blk.new wr 127 #[.int .i64 k, .int .i64 y, .int .i64 t, .int .i64 v, .int .i64 mr])
        clear hmq
        go_wp2_with fail
        refine (HF.out _).mono ?_
        rintro e w5 ⟨rfl, hb5⟩
        have B5 := Lib.hid (B1.out.trans (hb5.mono B1.out.size))
        have q5 := (K1.out.below hb5).cell
        clear hb5
        cases g with
        | false =>
          have HZ := Lib.hid (HNJ.out (by simp))
          go_wp2
          go_ret
          exact ⟨by rw [HZ.out]; rfl, B5.out⟩
        | true =>
          go_wp2_with fail
          clear q5
          refine (HM.out _).mono ?_
          rintro e w6 ⟨rfl, rfl⟩
          cases ok with
          | false =>
            have HZ := Lib.hid (HNJ.out (by simp))
            go_wp2
            go_ret
            exact ⟨by rw [HZ.out]; rfl, B5.out⟩
          | true =>
            have HZ := Lib.hid (HST.out (by simp))
            go_wp2
            go_roundw
            case rel => exact ⟨j + 1, by omega, by go_num, HZ.out, B5.out⟩
            case measure => simp [intOf]; omega
      · obtain rfl : j = l.length := by omega
        have HZ := Lib.hid (HY.out HA.out)
        clear hb hall
        go_wp2
        go_ret
        exact ⟨by rw [HZ.out]; rfl, HB.out⟩
  · rw [qOk_long hlen]
    go_enter Tryz.func115, Tryz.ntmps115
    go_wp2
    go_ret
    exact ⟨rfl, BR.out⟩
/-- As many queues, shards and marks as shards. -/
def partsB (E : En) : Bool := ((E.qs.length : Int) == E.s1) && ((E.sh.length : Int) == E.s1) && ((E.sent.length : Int) == E.s1)
set_option maxHeartbeats 1000000 in
set_option maxRecDepth 100000 in
theorem hasParts_any (E : En) (q : Pl) (L : List Value) (w : World) (hL : L = evL E q) :
    Calls Tryz.prog 112 #[.agg L.toArray] w fun e w' => e = .returned (.bool (partsB E)) ∧ Below w.heap.size w w' := by
  have K := Blk.new w 45 L.toArray
  have BB := Lib.hid ((Below.refl w.heap.size w).alloc (Nat.le_refl _) (.cells L.toArray 45))
  have c1 : (w.alloc (.cells L.toArray 45)).cell? ⟨w.heap.size, 1, none⟩ = some (.int .i64 E.s1) := by rw [K.cell, hL]; rfl
  have c13 : (w.alloc (.cells L.toArray 45)).cell? ⟨w.heap.size, 13, none⟩ = some (.slice q.a2 E.qs.length q.c2) := by rw [K.cell, hL]; rfl
  have c14 : (w.alloc (.cells L.toArray 45)).cell? ⟨w.heap.size, 14, none⟩ = some (.slice q.a3 E.sh.length q.c3) := by rw [K.cell, hL]; rfl
  have c17 : (w.alloc (.cells L.toArray 45)).cell? ⟨w.heap.size, 17, none⟩ = some (.slice q.a5 E.sent.length q.c5) := by rw [K.cell, hL]; rfl
  unfold partsB
  clear K hL
  cases h1 : ((E.qs.length : Int) == E.s1) <;> cases h2 : ((E.sh.length : Int) == E.s1) <;> cases h3 : ((E.sent.length : Int) == E.s1) <;>
  · go_enter Tryz.func112, Tryz.ntmps112
    go_wp2
    go_ret
    exact ⟨rfl, BB.out⟩
end Go.Proofs.YtnfhlfbkdhpacaaGreatDoor
