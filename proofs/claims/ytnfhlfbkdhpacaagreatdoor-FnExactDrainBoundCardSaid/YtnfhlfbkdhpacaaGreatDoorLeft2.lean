/- spec.FramesLeft. -/
import Derived.Test.YtnfhlfbkdhpacaaGreatDoorLeft1
namespace Go.Proofs.YtnfhlfbkdhpacaaGreatDoor
open Go.RowKit

set_option maxHeartbeats 4000000 in
set_option maxRecDepth 100000 in
theorem specLeft_any (E : En) (q : Pl) (L : List Value) (w : World) (hL : L = evL E q) (hr : EnR w w.heap.size q E) (hf : EnFits E) (hB : EnB E) :
    Calls Tryz.prog 17 #[.agg L.toArray] w fun e w' => e = .returned (.int .i64 (frT E.cs E.cs.length : Nat)) ∧ Below w.heap.size w w' := by
  have K := Blk.new w 45 L.toArray
  have b1 := (Below.refl w.heap.size w).alloc (Nat.le_refl _) (.cells L.toArray 45)
  have c11 : (w.alloc (.cells L.toArray 45)).cell? ⟨w.heap.size, 11, none⟩ = some (.slice q.a0 E.cs.length q.c0) := by rw [K.cell, hL]; rfl
  unfold EnFits at hf
  have f1 : E.cs.length + totH hdCn cnD E.cs E.cs.length ≤ 1048576 := by omega
  have hQ := hr.cs
  have m3 := hQ.cap
  have m4 := hQ.big
  have B1 := Lib.hid b1
  unfold EnB at hB
  have q11 := c11
  obtain ⟨qa, hqa⟩ : ∃ z, z = q.a0 := ⟨_, rfl⟩
  obtain ⟨qc, hqc⟩ : ∃ z, z = q.c0 := ⟨_, rfl⟩
  obtain ⟨cs, hcs⟩ : ∃ z, z = E.cs := ⟨_, rfl⟩
  rw [← hqa, ← hqc, ← hcs] at hQ c11
  rw [← hqc, ← hcs] at m3
  rw [← hqc] at m4
  rw [← hcs] at f1 hB ⊢
  have KE : Hid (∀ W : World, Blk W w.heap.size 45 L.toArray → W.cell? ⟨w.heap.size, 11, none⟩ = some (.slice qa cs.length qc)) := Lib.hid (fun W hW => by rw [hW.cell, hL, hqa, hqc, hcs]; rfl)
  have K0 := Lib.hid K
  clear q11 hf hr hqa hqc hcs K hL b1 c11
  have HQ := Lib.hid hQ
  have HIB := Lib.hid hB
  clear hQ hB
  go_enter Tryz.func17, Tryz.ntmps17
  go_wp2_with fail
  go_loopw [3, 4] (fun n i wr => ∃ j : Nat, j ≤ cs.length ∧ i = .int .i64 j ∧ n = .int .i64 (frT cs j : Nat) ∧ Below w.heap.size w wr ∧ Blk wr w.heap.size 45 L.toArray) (fun _ i _ => cs.length - (intOf i).toNat)
  case atStart => exact ⟨0, Nat.zero_le _, rfl, rfl, B1.out, K0.out⟩
  case round =>
    obtain ⟨j, hj, rfl, rfl, hb, hke⟩ := hrel
    have c11 := KE.out wr hke
    have HKE := Lib.hid hke
    clear hke
    by_cases hlt : j < cs.length
    · have hlt' : (j : Int) < (cs.length : Int) := by omega
      obtain ⟨b, off, rfl, hbh, hcell⟩ := (HQ.out.below hb).cells (by omega)
      obtain ⟨ai, ci, h0, hq, hrd⟩ := hcell j hlt
      have hIB := HIB.out j hlt
      have hln := head_le (H := hdCn) (d := cnD) (l := cs) hlt
      have hT : frT cs (j + 1) = frT cs j + frN (rel cnD cs j).l (rel cnD cs j).bad := rfl
      have hbd := frT_le cs (j + 1)
      have htl := totH_le (H := hdCn) (d := cnD) (l := cs) (show j + 1 ≤ cs.length from hlt)
      generalize rel cnD cs j = S at h0 hq hrd hIB hln hT
      obtain ⟨xl, bad, mx, mr, sn, idl, opn⟩ := S
      simp only at hIB hT
      have hrd : Nums .u8 wr w.heap.size ai ci xl := hrd
      have hln : xl.length ≤ totH hdCn cnD cs cs.length := hln
      have q0 : wr.cell? ⟨b, off + j * 7, none⟩ = some (.slice ai xl.length ci) := h0
      have q1 : wr.cell? ⟨b, off + j * 7 + 1, none⟩ = some (.bool bad) := hq 0 (by omega)
      obtain ⟨F0, hF0⟩ : ∃ F0, F0 = frT cs j := ⟨_, rfl⟩
      rw [← hF0] at hT ⊢
      rw [hT] at hbd
      have HT := Lib.hid hT
      have hbs := hb.size
      have hF1 : F0 + frN xl bad ≤ 2097152 := by omega
      have AT : Hid (LeftAt w 91 [] wr.heap.size (F0 + frN xl bad) F0 xl bad ai ci (wr.alloc (.cells #[.slice ai xl.length ci, .bool bad] 91))) :=
        Lib.hid ⟨rfl, Blk.new wr _ _, .inl ((hrd.below ((Below.refl _ wr).alloc hbs _)).more hbs), hIB, by omega, hb.alloc hbs _, hbs⟩
      have KEA := Lib.hid (HKE.out.alloc (.cells #[.slice ai xl.length ci, .bool bad] 91))
      have hel := HKE.out.lt
      clear hcell h0 hq hrd hIB hT hbd htl hln hF0
      go_wp2_with fail
      clear q0 q1 c11
      rename World => wq
      go_loopw [3] (fun n w3 => ∃ (m : Nat) (xs : List Int) (bd : Bool) (a3 : Option Addr) (c3 : Nat), n = .int .i64 m ∧ wq.heap.size < w3.heap.size ∧ Blk w3 w.heap.size 45 L.toArray ∧ LeftAt w 91 [] wq.heap.size (F0 + frN xl bad) m xs bd a3 c3 w3) (fun n _ => F0 + frN xl bad - (intOf n).toNat)
      case atStart => exact ⟨F0, xl, bad, ai, ci, rfl, by simp, KEA.out, AT.out⟩
      case round =>
        obtain ⟨m, xs, bd, a3, c3, rfl, hsw, hke3, hat⟩ := hrel
        have hk : Blk wr wq.heap.size 91 #[.slice a3 xs.length c3, .bool bd] := hat.blk
        have hm := hat.sum
        have hcb := nums_bd (hat.row.nums (by omega))
        have HTN := Lib.hid (specNext_any wr.heap.size a3 xs.length c3 bd xs wr (hat.row.nums (by omega)) rfl (Nat.le_refl _) hat.isb hat.len)
        have HDO := Lib.hid (fun W => specDecOk_any a3 xs.length c3 bd W (by omega))
        have HK := Lib.hid hk
        have HE := Lib.hid hke3
        have HAT := Lib.hid hat
        have HM := Lib.hid hm
        have qk := hk.cell
        have hmle : m ≤ F0 + frN xl bad := by omega
        have OUT : Hid (∀ (W : World) (x y : Array Value) (k : Nat), Below wr.heap.size wr W → k = F0 + frN xl bad → ((k : Nat) : Int) = (frT cs (j + 1) : Nat) ∧ Below w.heap.size w ((W.alloc (.cells x 91)).alloc (.cells y 97)) ∧ Blk ((W.alloc (.cells x 91)).alloc (.cells y 97)) w.heap.size 45 L.toArray) :=
          Lib.hid (fun W x y k hb hk2 => ⟨by rw [HT.out, hk2], ((HAT.out.bel.trans (hb.mono HAT.out.bel.size)).alloc (Nat.le_trans HAT.out.bel.size hb.size) _).alloc (by have := HAT.out.bel.size; have := hb.size; simp; omega) _, ((HE.out.below hb).alloc _).alloc _⟩)
        clear hk hat hm hke3
        cases hg : nxGood xs bd with
        | false =>
          have h0 : frN xs bd = 0 := frN_stop (by rw [hg]; rfl)
          rw [nx_bad hg] at HTN
          have hmt : m = F0 + frN xl bad := by have := HM.out; omega
          have HMT := Lib.hid hmt
          cases hdk : dOk xs.length bd with
          | false =>
            rw [hdk] at HDO
            clear h0 hmt hdk hg
            go_wp2_with fail
            clear qk
            refine HTN.out.mono ?_
            rintro e w4 ⟨a4, c4, rfl, ho4, hb4⟩
            have z := fun x y => OUT.out w4 x y m hb4 HMT.out
            have Z := Lib.hid z
            have K4 := Lib.hid (((HK.out.below hb4).alloc (.cells #[.slice a4 xs.length c4, .bool bd] 91)).alloc (.cells #[.int .i64 0, .int .i64 0, .int .i64 0, .int .i64 0] 97))
            have q4 := K4.out.cell
            clear z hb4 ho4
            go_wp2_with fail
            clear q4
            refine (HDO.out _).mono ?_
            rintro e w5 ⟨rfl, hb5⟩
            have z1 := Lib.hid (Z.out #[] #[]).1
            have z2 := Lib.hid ((Z.out #[.slice a4 xs.length c4, .bool bd] #[.int .i64 0, .int .i64 0, .int .i64 0, .int .i64 0]).2.1.trans (hb5.mono (Z.out _ _).2.1.size))
            have z3 := Lib.hid ((Z.out #[.slice a4 xs.length c4, .bool bd] #[.int .i64 0, .int .i64 0, .int .i64 0, .int .i64 0]).2.2.below hb5)
            clear Z
            go_wp2
            go_roundw
            case rel => exact ⟨j + 1, by omega, by go_num, by rw [z1.out], z2.out, z3.out⟩
            case measure => simp [intOf]; omega
          | true =>
            obtain rfl : bd = true := by cases bd with | true => rfl | false => simp [nxGood, hdk] at hg
            rw [hdk] at HDO
            clear h0 hmt hdk hg
            go_wp2_with fail
            clear qk
            refine HTN.out.mono ?_
            rintro e w4 ⟨a4, c4, rfl, ho4, hb4⟩
            have z := fun x y => OUT.out w4 x y m hb4 HMT.out
            have Z := Lib.hid z
            have K4 := Lib.hid (((HK.out.below hb4).alloc (.cells #[.slice a4 xs.length c4, .bool true] 91)).alloc (.cells #[.int .i64 0, .int .i64 0, .int .i64 0, .int .i64 0] 97))
            have q4 := K4.out.cell
            clear z hb4 ho4
            go_wp2_with fail
            clear q4
            refine (HDO.out _).mono ?_
            rintro e w5 ⟨rfl, hb5⟩
            have z1 := Lib.hid (Z.out #[] #[]).1
            have z2 := Lib.hid ((Z.out #[.slice a4 xs.length c4, .bool true] #[.int .i64 0, .int .i64 0, .int .i64 0, .int .i64 0]).2.1.trans (hb5.mono (Z.out _ _).2.1.size))
            have z3 := Lib.hid ((Z.out #[.slice a4 xs.length c4, .bool true] #[.int .i64 0, .int .i64 0, .int .i64 0, .int .i64 0]).2.2.below hb5)
            clear Z
            have q5 := (K4.out.below hb5).cell
            go_wp2
            go_roundw
            case rel => exact ⟨j + 1, by omega, by go_num, by rw [z1.out], z2.out, z3.out⟩
            case measure => simp [intOf]; omega
        | true =>
          obtain rfl : bd = false := by cases bd with | false => rfl | true => simp [nxGood] at hg
          have hdk : dOk xs.length false = true := by simpa [nxGood] using hg
          rw [hdk] at HDO
          cases hh : tkHere xs with
          | true =>
            have hst : frN xs false = 1 + frN (xs.drop (put0 xs).length) false := by
              have z := frN_step (xs := xs) (b := false) (by rw [nx_here hg hh]; simp [hg])
              rw [nx_here hg hh] at z
              exact z
            rw [nx_here hg hh] at HTN
            have hib := IsB.drop HAT.out.isb (put0 xs).length
            have hll : (xs.drop (put0 xs).length).length ≤ xs.length := by rw [List.length_drop]; omega
            have hal := HAT.out.len
            generalize xs.drop (put0 xs).length = left at hst hib hll HTN
            generalize f0K xs = rk at HTN
            generalize f0Y xs = ry at HTN
            generalize f0T xs = rt at HTN
            generalize f0V xs = rv at HTN
            have HST := Lib.hid hst
            have HIL := Lib.hid hib
            clear hst hib hg hdk hh HDO
            go_wp2_with fail
            clear qk
            refine HTN.out.mono ?_
            rintro e w4 ⟨a4, c4, rfl, ho4, hb4⟩
            have ho4 : w4.ownsRow wr.heap.size 5 1 (.slice a4 left.length c4) left.length (left.map (Value.int .u8)) := ho4
            have hs4 := hb4.size
            have k4 := ((HK.out.below hb4).alloc (.cells #[.slice a4 left.length c4, .bool false] 91)).alloc (.cells #[.int .i64 rk, .int .i64 ry, .int .i64 rt, .int .i64 rv] 97)
            have b4 := ((HAT.out.bel.trans (hb4.mono HAT.out.bel.size)).alloc (Nat.le_trans HAT.out.bel.size hb4.size) (.cells #[.slice a4 left.length c4, .bool false] 91)).alloc (by have := HAT.out.bel.size; simp; omega) (.cells #[.int .i64 rk, .int .i64 ry, .int .i64 rt, .int .i64 rv] 97)
            have e4 := ((HE.out.below hb4).alloc (.cells #[.slice a4 left.length c4, .bool false] 91)).alloc (.cells #[.int .i64 rk, .int .i64 ry, .int .i64 rt, .int .i64 rv] 97)
            have o4 := (ho4.alloc (.cells #[.slice a4 left.length c4, .bool false] 91)).alloc (.cells #[.int .i64 rk, .int .i64 ry, .int .i64 rt, .int .i64 rv] 97)
            have q4 := k4.cell
            have f4 := k4.frozen
            have AT5 : Hid (LeftAt w 91 [] wq.heap.size (F0 + frN xl bad) (m + 1) left false a4 c4 ((((w4.alloc (.cells #[.slice a4 left.length c4, .bool false] 91)).alloc (.cells #[.int .i64 rk, .int .i64 ry, .int .i64 rt, .int .i64 rv] 97)).setCell ⟨wq.heap.size, 0, none⟩ (.slice a4 left.length c4)).setCell ⟨wq.heap.size, 1, none⟩ (.bool false))) := by
              refine Lib.hid ⟨?_, ?_, ?_, HIL.out, by omega, ?_, hbs⟩
              · have := HM.out
                have := HST.out
                omega
              · have z := (k4.put_ 0 (.slice a4 left.length c4)).put_ 1 (.bool false)
                simp only [List.setIfInBounds_toArray, List.set_cons_zero, List.set_cons_succ] at z
                exact z
              · exact (RowAt.set (.inr (owns_less o4 (by omega))) 0 _).set 1 _
              · exact (b4.setCell (p := ⟨wq.heap.size, 0, none⟩) hbs _).setCell (p := ⟨wq.heap.size, 1, none⟩) hbs _
            have KE5 : Hid (Blk ((((w4.alloc (.cells #[.slice a4 left.length c4, .bool false] 91)).alloc (.cells #[.int .i64 rk, .int .i64 ry, .int .i64 rt, .int .i64 rv] 97)).setCell ⟨wq.heap.size, 0, none⟩ (.slice a4 left.length c4)).setCell ⟨wq.heap.size, 1, none⟩ (.bool false)) w.heap.size 45 L.toArray) :=
              Lib.hid ((e4.farN_ (p := ⟨wq.heap.size, 0, none⟩) (show w.heap.size ≠ wq.heap.size by omega) _).farN_ (p := ⟨wq.heap.size, 1, none⟩) (show w.heap.size ≠ wq.heap.size by omega) _)
            have hmi : (m : Int) + 1 ≤ 2097153 := by omega
            have HM1 : Hid (m + 1 ≤ F0 + frN xl bad) := Lib.hid (by have := HM.out; have := HST.out; omega)
            clear k4 b4 e4 o4 ho4 hb4
            go_wp2
            go_roundw
            case rel => exact ⟨m + 1, left, false, a4, c4, by go_num, by simp; omega, KE5.out, AT5.out⟩
            case measure =>
              have := HM1.out
              simp [intOf]
              omega
          | false =>
            cases hmo : tkMore xs with
            | true =>
              have h0 : frN xs false = 0 := frN_stop (by rw [nx_more hg hh hmo]; simp)
              rw [nx_more hg hh hmo] at HTN
              have hmt : m = F0 + frN xl bad := by have := HM.out; omega
              have HMT := Lib.hid hmt
              clear h0 hmt hdk hg hh hmo
              go_wp2_with fail
              clear qk
              refine HTN.out.mono ?_
              rintro e w4 ⟨a4, c4, rfl, ho4, hb4⟩
              have z := fun x y => OUT.out w4 x y m hb4 HMT.out
              have Z := Lib.hid z
              clear z hb4 ho4
              go_wp2
              go_roundw
              case rel => exact ⟨j + 1, by omega, by go_num, by rw [(Z.out #[] #[]).1], (Z.out _ _).2.1, (Z.out _ _).2.2⟩
              case measure => simp [intOf]; omega
            | false =>
              have hst : frN xs false = 1 := by
                have z := frN_step (xs := xs) (b := false) (by rw [nx_bent hg hh hmo]; simp [hg])
                rw [nx_bent hg hh hmo] at z
                rw [z]
                have z2 : frN [] true = 0 := frN_stop (by simp [nxGood])
                show 1 + frN [] true = 1
                rw [z2]
              rw [nx_bent hg hh hmo] at HTN
              have hmt : m + 1 = F0 + frN xl bad := by have := HM.out; omega
              have HMT := Lib.hid hmt
              have hmi : (m : Int) + 1 ≤ 2097153 := by omega
              clear hst hmt hdk hg hh hmo
              go_wp2_with fail
              clear qk
              refine HTN.out.mono ?_
              rintro e w4 ⟨a4, c4, rfl, ho4, hb4⟩
              have z := fun x y => OUT.out w4 x y (m + 1) hb4 HMT.out
              have Z := Lib.hid z
              have K4 := Lib.hid (((HK.out.below hb4).alloc (.cells #[.slice a4 0 c4, .bool true] 91)).alloc (.cells #[.int .i64 0, .int .i64 0, .int .i64 0, .int .i64 0] 97))
              have q4 := K4.out.cell
              clear z hb4 ho4
              go_wp2_with fail
              clear q4
              refine (HDO.out _).mono ?_
              rintro e w5 ⟨rfl, hb5⟩
              have z1 := Lib.hid (Z.out #[] #[]).1
              have z2 := Lib.hid ((Z.out #[.slice a4 0 c4, .bool true] #[.int .i64 0, .int .i64 0, .int .i64 0, .int .i64 0]).2.1.trans (hb5.mono (Z.out _ _).2.1.size))
              have z3 := Lib.hid ((Z.out #[.slice a4 0 c4, .bool true] #[.int .i64 0, .int .i64 0, .int .i64 0, .int .i64 0]).2.2.below hb5)
              have q5 := (K4.out.below hb5).cell
              clear Z
              go_wp2
              go_roundw
              case rel => exact ⟨j + 1, by omega, by go_num, by rw [← z1.out]; go_num, z2.out, z3.out⟩
              case measure => simp [intOf]; omega
    · obtain rfl : j = cs.length := by omega
      have B3 := Lib.hid hb
      clear hb
      go_wp2
      go_ret
      exact ⟨rfl, B3.out⟩
end Go.Proofs.YtnfhlfbkdhpacaaGreatDoor
