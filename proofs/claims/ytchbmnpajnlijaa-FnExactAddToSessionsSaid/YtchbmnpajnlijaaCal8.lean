/- Chapter 11, impl's side: AddToSessions. (made by tools/mkcal8.py) -/
import Derived.Test.YtchbmnpajnlijaaCal7
import Derived.Test.YtchbmnpajnlijaaCal5
import Derived.Test.YtchbmnpajnlijaaCloneZ
import Derived.Test.YtchbmnpajnlijaaEvAgg
namespace Go.Proofs.Ytchbmnpajnlijaa
open Go.RowKit Go.Maps
theorem evQ_isEv (k y t v : Int) : evQ ⟨k, y, t, v⟩ = isEv k y t v := by
  unfold isEv evQ
  exact Bool.and_comm _ _
set_option maxHeartbeats 8000000 in
set_option maxRecDepth 100000 in
theorem implAddTo_any (a : Option Addr) (n c : Nat) (l : List Ss) (f0 f1 f2 f3 gap : Int) (hi : Nat) (w : World) (hr : Sss w hi a c l) (hn : n = l.length) (hB : hi ≤ w.heap.size) (hlen : l.length ≤ 1048576) :
    Calls Try.prog 52 #[.slice a n c, (.agg #[.int .i64 f0, .int .i64 f1, .int .i64 f2, .int .i64 f3]), .int .i64 gap] w (AddToPost (addToZ l ⟨f0, f1, f2, f3⟩ gap) w) := by
  subst hn
  have m1 := hr.cap
  have m2 := hr.big
  have HR := Lib.hid hr
  have b0 := (Below.refl w.heap.size w).alloc (Nat.le_refl _) (.cells #[.int .i64 f0, .int .i64 f1, .int .i64 f2, .int .i64 f3] 66)
  have B0 := Lib.hid b0
  have KF0 := Lib.hid (Blk.new w 66 #[.int .i64 f0, .int .i64 f1, .int .i64 f2, .int .i64 f3])
  have CL := Lib.hid (fun (W : World) (h : Sss W hi a c l) (h2 : hi ≤ W.heap.size) => cloneZ_any a l.length c l hi W h rfl h2 hlen)
  have EV := Lib.hid (fun W => isEvent_x f0 f1 f2 f3 W)
  have TI := Lib.hid (fun W => iTime_any gap W)
  have FS : Hid (addToZ l ⟨f0, f1, f2, f3⟩ gap = (l, false) → ∀ W, Below w.heap.size w W → ∀ a5 c5 W', W'.ownsRow W.heap.size 33 5 (.slice a5 l.length c5) l.length (flatZ l) → Below W.heap.size W W' → AddToPost (addToZ l ⟨f0, f1, f2, f3⟩ gap) w (.returned (.tuple #[.slice a5 l.length c5, .bool false])) W') := Lib.hid (fun e W hW a5 c5 W' ho hb => by
    rw [e]
    exact ⟨a5, c5, rfl, owns_less ho hW.size, hW.trans (hb.mono hW.size)⟩)
  clear hr b0
  cases hev : isEv f0 f1 f2 f3 with
  | false =>
    have hno := addToZ_no2 (l := l) (gap := gap) (F := ⟨f0, f1, f2, f3⟩) ((evQ_isEv f0 f1 f2 f3).trans hev)
    rw [hev] at EV
    go_enter Try.func52, Try.ntmps52
    go_wp2_with fail
    refine (EV.out _).mono ?_
    rintro e w1 ⟨rfl, hb⟩
    have B1 := Lib.hid (B0.out.trans (hb.mono (by simp)))
    have KF := Lib.hid (KF0.out.below hb)
    clear hb
    go_wp2_with fail
    refine (CL.out _ (HR.out.below (B1.out.mono hB)) (by have := B1.out.size; omega)).mono ?_
    rintro e w9 ⟨a9, c9, rfl, ho9, hb9⟩
    have FIN := Lib.hid (FS.out hno _ B1.out a9 c9 w9 ho9 hb9)
    clear ho9 hb9
    go_wp2
    exact bodyPost_ret (v := .tuple #[.slice a9 l.length c9, .bool false]) (by simp [results, Try.results52, go_sem]) rfl FIN.out
  | true =>
    have hevq : evQ ⟨f0, f1, f2, f3⟩ = true := (evQ_isEv f0 f1 f2 f3).trans hev
    rw [hev] at EV
    cases hs : inB gap 0 1000000 with
    | false =>
      have hno := addToZ_no1 (l := l) (gap := gap) (F := ⟨f0, f1, f2, f3⟩) (okS_no2 hs)
      rw [hs] at TI
      go_enter Try.func52, Try.ntmps52
      go_wp2_with fail
      refine (EV.out _).mono ?_
      rintro e w1 ⟨rfl, hb⟩
      have B1 := Lib.hid (B0.out.trans (hb.mono (by simp)))
      have KF := Lib.hid (KF0.out.below hb)
      clear hb
      go_wp2_with (go_at_call 63; refine (TI.out _).mono ?_; rintro e w' ⟨rfl, rfl⟩)
      refine (CL.out _ (HR.out.below (B1.out.mono hB)) (by have := B1.out.size; omega)).mono ?_
      rintro e w9 ⟨a9, c9, rfl, ho9, hb9⟩
      have FIN := Lib.hid (FS.out hno _ B1.out a9 c9 w9 ho9 hb9)
      clear ho9 hb9
      go_wp2
      exact bodyPost_ret (v := .tuple #[.slice a9 l.length c9, .bool false]) (by simp [results, Try.results52, go_sem]) rfl FIN.out
    | true =>
      rw [hs] at TI
      by_cases hl : l.length ≤ 200
      · have hd2 : ¬ (200 : Int) < (l.length : Int) := by omega
        have hg := inB_bd hs
        have CO := Lib.hid (fun (W : World) (h : Sss W hi a c l) (h2 : hi ≤ W.heap.size) => calOf_x a l.length c l gap hi W h rfl h2 (by omega) hg)
        have hok := okS_cal hl hs
        cases hc : calOk gap l with
        | false =>
          have hno := addToZ_no1 (l := l) (gap := gap) (F := ⟨f0, f1, f2, f3⟩) (hok.trans hc)
          go_enter Try.func52, Try.ntmps52
          go_wp2_with fail
          refine (EV.out _).mono ?_
          rintro e w1 ⟨rfl, hb⟩
          have B1 := Lib.hid (B0.out.trans (hb.mono (by simp)))
          have KF := Lib.hid (KF0.out.below hb)
          clear hb
          go_wp2_with (go_at_call 63; refine (TI.out _).mono ?_; rintro e w' ⟨rfl, rfl⟩)
          refine (CO.out _ (HR.out.below (B1.out.mono hB)) (by have := B1.out.size; omega)).mono ?_
          rintro e w2 ⟨v, rfl, hb, hv, _⟩
          rw [hc]
          obtain rfl := hv hc
          have B2 := Lib.hid (B1.out.trans (hb.mono B1.out.size))
          clear hb hv
          go_wp2_with fail
          refine (CL.out _ (HR.out.below (B2.out.mono hB)) (by have := B2.out.size; omega)).mono ?_
          rintro e w9 ⟨a9, c9, rfl, ho9, hb9⟩
          have FIN := Lib.hid (FS.out hno _ B2.out a9 c9 w9 ho9 hb9)
          clear ho9 hb9
          go_wp2
          exact bodyPost_ret (v := .tuple #[.slice a9 l.length c9, .bool false]) (by simp [results, Try.results52, go_sem]) rfl FIN.out
        | true =>
          have hoks := hok.trans hc
          go_enter Try.func52, Try.ntmps52
          go_wp2_with fail
          refine (EV.out _).mono ?_
          rintro e w1 ⟨rfl, hb⟩
          have B1 := Lib.hid (B0.out.trans (hb.mono (by simp)))
          have KF := Lib.hid (KF0.out.below hb)
          clear hb
          go_wp2_with (go_at_call 63; refine (TI.out _).mono ?_; rintro e w' ⟨rfl, rfl⟩)
          refine (CO.out _ (HR.out.below (B1.out.mono hB)) (by have := B1.out.size; omega)).mono ?_
          rintro e w2 ⟨v, rfl, hb, _, hv⟩
          rw [hc]
          obtain ⟨rfl, es, hC, hfe, hle, hokl, hsep⟩ := hv hc
          have C2 := Lib.hid hC
          have B2 := Lib.hid (B1.out.trans (hb.mono B1.out.size))
          have hs1 := B1.out.size
          have hs2 := hC.lt w1.heap.size (by simp)
          have KF2 := Lib.hid (KF.out.below hb)
          have hlf := KF.out.lt
          have q0 := KF2.out.cell 0
          have q1 := KF2.out.cell 1
          have q2 := KF2.out.cell 2
          have q3 := KF2.out.cell 3
          simp only [List.getElem?_toArray, List.getElem?_cons_zero, List.getElem?_cons_succ] at q0 q1 q2 q3
          have hso := evQ_ok hevq
          simp only at hso
          have HSO := Lib.hid hso
          have SO := Lib.hid (fun W => sesOf_x f0 f1 f2 f3 W)
          have OKL : Hid (okL (flatE es)) := Lib.hid (by rw [hfe]; exact hokl)
          have SEP : Hid (Sep gap (flatE es)) := Lib.hid (by rw [hfe]; exact hsep)
          have HFE := Lib.hid hfe
          have HY := Lib.hid (fun h3 => addToZ_yes (l := l) (F := ⟨f0, f1, f2, f3⟩) hoks hevq h3)
          have HN3 := Lib.hid (fun h3 => addToZ_no3 (l := l) (F := ⟨f0, f1, f2, f3⟩) (gap := gap) h3)
          have hal := addZ_len f1 f2 f3 gap l
          clear hb hv hC hfe hokl hsep hso hd2 hoks hok
          go_wp2_with fail
          refine (SO.out _).mono ?_
          rintro e w3 ⟨rfl, hb⟩
          have C3 := C2.out.below hb
          have B3 := Lib.hid (B2.out.trans (hb.mono (by omega)))
          have hs3 := hb.size
          have CA := Lib.hid (calAdd_x _ _ _ f1 f2 f2 1 f3 gap w3 C3 OKL.out SEP.out HSO.out hg (by omega) (by omega))
          clear hb C3 q0 q1 q2 q3
          go_wp2_with fail
          refine CA.out.mono ?_
          rintro e w4 ⟨rfl, es', A, M, Q, k1, k2, k3, k4⟩
          have hout := k3.addZ hg.1 HSO.out OKL.out SEP.out
          rw [HFE.out] at hout
          have hs4 := k4.size
          have B4 := Lib.hid (B3.out.trans (k4.below (by omega) (by omega)))
          have LI := Lib.hid (calList_x _ _ es' w4 k1 (by omega) (by rw [← hout]; omega))
          rw [← hout] at LI
          clear k1 k2 k3 k4 hout CA
          go_wp2_with fail
          refine LI.out.mono ?_
          rintro e w5 ⟨a5, c5, rfl, ho5, hb5⟩
          have B5 := Lib.hid (B4.out.trans (hb5.mono B4.out.size))
          have O5 := Lib.hid (owns_less ho5 B4.out.size)
          clear ho5 hb5 LI
          by_cases h9 : (addZ f1 f2 f3 gap l).length ≤ 200
          · have hd3 : ¬ (200 : Int) < ((addZ f1 f2 f3 gap l).length : Int) := by omega
            have FIN : Hid (AddToPost (addToZ l ⟨f0, f1, f2, f3⟩ gap) w (.returned (.tuple #[.slice a5 (addZ f1 f2 f3 gap l).length c5, .bool true])) w5) := Lib.hid (by
              rw [HY.out h9]
              exact ⟨a5, c5, rfl, O5.out, B5.out⟩)
            go_wp2
            exact bodyPost_ret (v := .tuple #[.slice a5 (addZ f1 f2 f3 gap l).length c5, .bool true]) (by simp [results, Try.results52, go_sem]) rfl FIN.out
          · have hd3 : (200 : Int) < ((addZ f1 f2 f3 gap l).length : Int) := by omega
            have hno := HN3.out h9
            go_wp2_with fail
            refine (CL.out _ (HR.out.below (B5.out.mono hB)) (by have := B5.out.size; omega)).mono ?_
            rintro e w9 ⟨a9, c9, rfl, ho9, hb9⟩
            have FIN := Lib.hid (FS.out hno _ B5.out a9 c9 w9 ho9 hb9)
            clear ho9 hb9
            go_wp2
            exact bodyPost_ret (v := .tuple #[.slice a9 l.length c9, .bool false]) (by simp [results, Try.results52, go_sem]) rfl FIN.out
      · have hd2 : (200 : Int) < (l.length : Int) := by omega
        have hno := addToZ_no1 (l := l) (gap := gap) (F := ⟨f0, f1, f2, f3⟩) (okS_no1 hl)
        go_enter Try.func52, Try.ntmps52
        go_wp2_with fail
        refine (EV.out _).mono ?_
        rintro e w1 ⟨rfl, hb⟩
        have B1 := Lib.hid (B0.out.trans (hb.mono (by simp)))
        have KF := Lib.hid (KF0.out.below hb)
        clear hb
        go_wp2_with (go_at_call 63; refine (TI.out _).mono ?_; rintro e w' ⟨rfl, rfl⟩)
        refine (CL.out _ (HR.out.below (B1.out.mono hB)) (by have := B1.out.size; omega)).mono ?_
        rintro e w9 ⟨a9, c9, rfl, ho9, hb9⟩
        have FIN := Lib.hid (FS.out hno _ B1.out a9 c9 w9 ho9 hb9)
        clear ho9 hb9
        go_wp2
        exact bodyPost_ret (v := .tuple #[.slice a9 l.length c9, .bool false]) (by simp [results, Try.results52, go_sem]) rfl FIN.out
end Go.Proofs.Ytchbmnpajnlijaa
