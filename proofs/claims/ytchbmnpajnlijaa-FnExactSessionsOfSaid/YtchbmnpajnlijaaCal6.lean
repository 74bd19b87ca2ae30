/- Chapter 11, impl's side: SessionsOf. (made by tools/mkcal6.py) -/
import Derived.Test.YtchbmnpajnlijaaCal4
import Derived.Test.YtchbmnpajnlijaaCal5
import Derived.Test.YtchbmnpajnlijaaEvOf
import Derived.Test.YtchbmnpajnlijaaWin1
import Derived.Carry
namespace Go.Proofs.Ytchbmnpajnlijaa
open Go.RowKit Go.Maps
theorem evF_evQ' : evF = evQ := by
  funext F
  unfold evF isEv evQ
  exact Bool.and_comm _ _
theorem own_heap {w w' : World} {lo sz n : Nat} {T : TypeId} {v : Value} {xs : List Value} (h : w.ownsRow lo T sz v n xs) (hk : ∀ g, lo ≤ g → g < w.heap.size → w'.heap[g]? = w.heap[g]?) : w'.ownsRow lo T sz v n xs := by
  refine ⟨h.1, ?_⟩
  rcases h.2 with h2 | ⟨g, cap, cur, hv, hl, hh, hr⟩
  · exact .inl h2
  · exact .inr ⟨g, cap, cur, hv, hl, (hk g hl (Array.getElem?_eq_some_iff.1 hh).1).trans hh, hr⟩
/-- The sessions of the first events. -/
def gZ (gap : Int) (E : List Fm) (k : Nat) : List Ss := (E.take k).foldl (fun s F => addZ F.y F.t F.v gap s) []
theorem gZ_step {gap : Int} {E : List Fm} {k : Nat} (hk : k < E.length) : gZ gap E (k + 1) = addZ (qel E k).y (qel E k).t (qel E k).v gap (gZ gap E k) := by
  unfold gZ
  rw [qel_take hk, List.foldl_append]
  rfl
theorem ev_at' {E L : List Fm} {k : Nat} (hE : E = L.filter evQ) (hk : k < E.length) : evQ (qel E k) = true := by
  rw [show qel E k = E[k] from rel_lt qD hk]
  subst hE
  exact (List.mem_filter.1 (List.getElem_mem hk)).2
theorem gZ_all {gap : Int} {L : List Fm} : gZ gap (L.filter evQ) (L.filter evQ).length = sesL gap L L.length := by unfold gZ sesL; rw [List.take_length, List.take_length]
theorem cal_made (w : World) : Cal (w.heap.size + 1) w.heap.size [] (w.alloc (.map #[] 0)) :=
  ⟨⟨.map [], World.ownsMap_made w Try.prog 3 rpV, CalD.nil⟩, fun e he => (by cases he), List.Pairwise.nil, by simp [entsB], fun b hb => (by simp [entsB] at hb)⟩
theorem Cal.lower {lo lo2 mb : Nat} {es : List Ent} {W : World} (h : Cal lo mb es W) (h2 : ∀ b, b ∈ entsB es → lo2 ≤ b) : Cal lo2 mb es W := ⟨h.map, h.ent, h.asc, h.nd, h2⟩
set_option maxHeartbeats 8000000 in
set_option maxRecDepth 100000 in
theorem implSess_any (a : Option Addr) (n c : Nat) (L : List Fm) (gap : Int) (hi : Nat) (w : World) (hr : Fms w hi a c L) (hn : n = L.length) (hB : hi ≤ w.heap.size) :
    Calls Try.prog 47 #[.slice a n c, .int .i64 gap] w (FreshR zC 33 5 (sessionsZ L gap) w) := by
  subst hn
  have m1 := hr.cap
  have m2 := hr.big
  have HR := Lib.hid hr
  clear hr
  have HP : Hid (FreshR zC 33 5 [] w (.returned (.slice none 0 0)) w) := Lib.hid ⟨none, 0, rfl, World.ownsRow_nil _ _ _ _, Below.refl _ _⟩
  have TI := Lib.hid (fun W => iTime_any gap W)
  cases hs : inB gap 0 1000000 with
  | false =>
    rw [sessionsZ_no1 hs]
    rw [hs] at TI
    go_enter Try.func47, Try.ntmps47
    go_wp2_with (go_at_call 63; refine (TI.out _).mono ?_; rintro e w' ⟨rfl, rfl⟩)
    exact bodyPost_ret (v := .slice none 0 0) (by simp [results, Try.results47, go_sem]) rfl HP.out
  | true =>
    rw [hs] at TI
    by_cases hl : L.length ≤ 300
    · have HY := Lib.hid (sessionsZ_yes (gap := gap) hs hl)
      have hd2 : ¬ (300 : Int) < (L.length : Int) := by omega
      have hg := inB_bd hs
      obtain ⟨E, hE⟩ : ∃ E, E = L.filter evQ := ⟨_, rfl⟩
      have HEV := Lib.hid (fun (k : Nat) hk => ev_at' (k := k) hE hk)
      have HGA := Lib.hid (show gZ gap E E.length = sesL gap L L.length by rw [hE]; exact gZ_all)
      have hEl : E.length ≤ 300 := by rw [hE]; have := List.length_filter_le evQ L; omega
      have bm := (Below.refl w.heap.size w).alloc (Nat.le_refl _) (.map #[] 0)
      have EV := Lib.hid (eventsOf_any a L.length c L hi _ (HR.out.below (bm.mono hB)) rfl (by simp; omega) (by omega))
      rw [evF_evQ', ← hE] at EV
      have CM := Lib.hid (cal_made w)
      have BM := Lib.hid bm
      have mk : (Instr.makeMap 107 none).run Try.prog w = .ok (.map (some w.heap.size)) (w.alloc (.map #[] 0)) := run_makeMap _ _
      clear hE hs bm HR HP
      go_enter Try.func47, Try.ntmps47
      go_wp2_with (go_at_call 63; refine (TI.out _).mono ?_; rintro e w' ⟨rfl, rfl⟩)
      refine EV.out.mono ?_
      rintro e w1 ⟨a1, c1, rfl, ho, hb⟩
      have EO := Lib.hid ho
      have ecap := (Fms.of_own ho).cap
      have C1 := Lib.hid (((CM.out.below hb).lower (lo2 := w1.heap.size) (fun b hb => (by simp [entsB] at hb))))
      have B1 := Lib.hid (BM.out.trans (hb.mono (by simp)))
      have hs1 : w.heap.size + 1 ≤ w1.heap.size := by have := hb.size; simp at this; omega
      simp only [World.size_alloc] at EO
      clear ho hb EV CM BM TI
      go_wp2
      clear hd2 mk
      go_loopw [20] (fun iv wr => ∃ (i : Nat) (es : List Ent), i ≤ E.length ∧ iv = .int .i64 (i : Int) ∧ Cal w1.heap.size w.heap.size es wr ∧ es.length ≤ i ∧ (flatE es).length ≤ i ∧ flatE es = gZ gap E i ∧ okL (flatE es) ∧ Sep gap (flatE es) ∧ LowM w1.heap.size w.heap.size w1 wr) (fun iv _ => E.length - (intOf iv).toNat)
      case atStart => exact ⟨0, [], Nat.zero_le _, rfl, C1.out, Nat.le_refl _, Nat.le_refl _, rfl, fun x hx => (by cases hx), List.Pairwise.nil, LowM.of_below (Below.refl _ _)⟩
      case round =>
        obtain ⟨i, es, hi2, rfl, hC, hle, hfl, hfe, hok, hsp, hlow⟩ := hrel
        have CC := Lib.hid hC
        have FE := Lib.hid hfe
        have OK := Lib.hid hok
        have SPP := Lib.hid hsp
        have LW := Lib.hid hlow
        have hsz := hlow.size
        clear hC hfe hok hsp hlow
        by_cases hlt : i < E.length
        · have EO2 := own_heap EO.out (w' := wr) (fun g h1 h2 => LW.out.block g h2 (by omega))
          obtain ⟨b1, off, rfl, hbh, hcell⟩ := Fms.six (Fms.of_own EO2) (by omega)
          have hlt' : (i : Int) < (E.length : Int) := by omega
          have hnn : 0 ≤ (i : Int) := by omega
          obtain ⟨p0, p1, p2, p3⟩ := hcell i hlt
          have HE := Lib.hid (HEV.out i hlt)
          have ST := Lib.hid (gZ_step (gap := gap) hlt)
          clear hcell EO2
          generalize qel E i = X at p0 p1 p2 p3 HE ST
          obtain ⟨e0, e1, e2, e3⟩ := X
          simp only at p0 p1 p2 p3 ST
          have hso := evQ_ok HE.out
          simp only at hso
          have KS := Lib.hid (Blk.new wr 66 #[.int .i64 e0, .int .i64 e1, .int .i64 e2, .int .i64 e3])
          have b3 := (Below.refl wr.heap.size wr).alloc (Nat.le_refl _) (.cells #[.int .i64 e0, .int .i64 e1, .int .i64 e2, .int .i64 e3] 66)
          have CC := Lib.hid (CC.out.below b3)
          have LW := Lib.hid (LW.out.trans (LowM.of_below (b3.mono hsz)))
          have SO := Lib.hid (fun W => sesOf_x e0 e1 e2 e3 W)
          have HSO := Lib.hid hso
          clear b3 hso
          go_wp2_with fail
          refine (SO.out _).mono ?_
          rintro e w3 ⟨rfl, hb⟩
          have C3 := CC.out.below hb
          have LW := Lib.hid (LW.out.trans (LowM.of_below (hb.mono (by simp; omega))))
          have CA := Lib.hid (calAdd_x _ _ _ e1 e2 e2 1 e3 gap w3 C3 OK.out SPP.out HSO.out hg (by have := hb.size; simp at this; omega) (by omega))
          clear hb C3
          go_wp2_with fail
          refine CA.out.mono ?_
          rintro e w4 ⟨rfl, es', A, M, Q, q1, q2, q3, q4⟩
          have hout := q3.addZ hg.1 HSO.out OK.out SPP.out
          have hse := q3.sep HSO.out OK.out SPP.out
          have FIN : Hid (∃ (i' : Nat) (es : List Ent), i' ≤ E.length ∧ Value.int .i64 ((i + 1 : Nat) : Int) = .int .i64 (i' : Int) ∧ Cal w1.heap.size w.heap.size es w4 ∧ es.length ≤ i' ∧ (flatE es).length ≤ i' ∧ flatE es = gZ gap E i' ∧ okL (flatE es) ∧ Sep gap (flatE es) ∧ LowM w1.heap.size w.heap.size w1 w4) := Lib.hid ⟨i + 1, es', by omega, rfl, q1, by omega, by rw [← hout]; have := addZ_len e1 e2 e3 gap (flatE es); omega, by rw [ST.out, ← FE.out]; exact hout.symm, hse.2, hse.1, LW.out.trans q4⟩
          clear q1 q2 q3 q4 hout hse
          go_wp2
          go_roundw
          case rel => (simp only [Int.natCast_add, Int.natCast_one] at FIN; first | exact FIN.out | (have := FIN.out; go_num; exact FIN.out))
          case measure => simp [intOf]; omega
        · obtain rfl : i = E.length := by omega
          have LI := Lib.hid (calList_x _ _ es wr CC.out (by omega) (by omega))
          have HF := Lib.hid (show flatE es = sessionsZ L gap by rw [FE.out, HGA.out, HY.out])
          have HBW := Lib.hid (B1.out.trans (LW.out.below (by omega) (Nat.le_refl _)))
          go_wp2_with fail
          refine LI.out.mono ?_
          rintro e w5 ⟨a5, c5, rfl, ho5, hb5⟩
          have FIN : Hid (FreshR zC 33 5 (sessionsZ L gap) w (.returned (.slice a5 (flatE es).length c5)) w5) := Lib.hid (by
            rw [← HF.out]
            exact ⟨a5, c5, rfl, owns_less ho5 (by omega), HBW.out.trans (hb5.mono (by omega))⟩)
          clear ho5 hb5
          go_wp2
          exact bodyPost_ret (v := .slice a5 (flatE es).length c5) (by simp [results, Try.results47, go_sem]) rfl FIN.out
    · rw [sessionsZ_no2 hl]
      have hd2 : (300 : Int) < (L.length : Int) := by omega
      go_enter Try.func47, Try.ntmps47
      go_wp2_with (go_at_call 63; refine (TI.out _).mono ?_; rintro e w' ⟨rfl, rfl⟩)
      exact bodyPost_ret (v := .slice none 0 0) (by simp [results, Try.results47, go_sem]) rfl HP.out
end Go.Proofs.Ytchbmnpajnlijaa
