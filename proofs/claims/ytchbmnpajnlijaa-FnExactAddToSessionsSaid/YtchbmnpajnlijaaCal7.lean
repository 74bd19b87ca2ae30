/- Chapter 11, impl's side: calendarOf. (made by tools/mkcal7.py) -/
import Derived.Test.YtchbmnpajnlijaaCal4
import Derived.Test.YtchbmnpajnlijaaSes1I
import Derived.Test.YtchbmnpajnlijaaPlainSes4
import Derived.Deep.RegionHeld3
import Derived.Carry
namespace Go.Proofs.Ytchbmnpajnlijaa
open Go.RowKit Go.Maps
theorem cal_made (w : World) : Cal (w.heap.size + 1) w.heap.size [] (w.alloc (.map #[] 0)) :=
  ⟨⟨.map [], World.ownsMap_made w Try.prog 3 rpV, CalD.nil⟩, fun e he => (by cases he), List.Pairwise.nil, by simp [entsB], fun b hb => (by simp [entsB] at hb)⟩
def calOk (gap : Int) (l : List Ss) : Bool := (List.range l.length).all (goodAt gap l)
theorem calOk_no {l : List Ss} {gap : Int} {k : Nat} (hk : k < l.length) (h : goodAt gap l k = false) : calOk gap l = false := by
  rw [Bool.eq_false_iff]
  intro e
  unfold calOk at e
  rw [List.all_eq_true] at e
  rw [e k (List.mem_range.2 hk)] at h
  cases h
theorem calOk_yes {l : List Ss} {gap : Int} (h3 : goodTo gap l l.length) : calOk gap l = true := List.all_eq_true.2 (fun i hi => h3 i (List.mem_range.1 hi))
theorem okS_cal {l : List Ss} {gap : Int} (h : l.length ≤ 200) (h2 : inB gap 0 1000000 = true) : okS l gap = calOk gap l := by simp [okS, calOk, h, h2]
theorem badP_ah (gap : Int) (A B : Ss) : badP gap A B = !ahS gap A B := by
  unfold badP ahS
  rw [Bool.eq_iff_iff]
  simp only [Bool.not_eq_true', decide_eq_true_eq, decide_eq_false_iff_not]
  omega
theorem ins_end {gap : Int} {e : Ss} {l l' A M Q : List Ss} (hg : 0 ≤ gap) (he : sesOk e = true) (ho : okL l) (ha : ∀ x, x ∈ l → ahS gap x e = true) (h : Ins gap e l l' A M Q) : l' = l ++ [e] := by
  have hM : M = [] := by
    cases M with
    | nil => rfl
    | cons m M =>
      exfalso
      have h1 := h.mid1 m (by simp)
      rw [ha m (by rw [h.eq]; simp)] at h1
      cases h1
  have hQ : Q = [] := by
    cases Q with
    | nil => rfl
    | cons q Q =>
      exfalso
      have h1 := ah_asym hg he (ho q (by rw [h.eq]; simp)) (h.post q (by simp))
      rw [ha q (by rw [h.eq]; simp)] at h1
      cases h1
  rw [h.out, h.eq, hM, hQ]
  simp
theorem ahead_all {gap : Int} {l : List Ss} {k : Nat} (hg : 0 ≤ gap) (ho : okL (l.take (k + 1))) (hs : Sep gap (l.take (k + 1))) (hk : k < l.length) {e : Ss} (h : ahS gap (zel l k) e = true) : ∀ x, x ∈ l.take (k + 1) → ahS gap x e = true := by
  rw [zel_take hk] at ho hs ⊢
  intro x hx
  rcases List.mem_append.1 hx with hx | hx
  · unfold Sep at hs
    have h1 := (List.pairwise_append.1 hs).2.2 x hx (zel l k) (by simp)
    exact ahS_trans hg (ho (zel l k) (by simp)) h1 h
  · rw [List.mem_singleton.1 hx]
    exact h
/-- What calendarOf answers. -/
def CalOfPost (l : List Ss) (gap : Int) (w : World) (e : Ending) (w' : World) : Prop :=
  ∃ v, e = .returned (.tuple #[v, .bool (calOk gap l)]) ∧ Below w.heap.size w w' ∧ (calOk gap l = false → v = .map none) ∧ (calOk gap l = true → v = .map (some w.heap.size) ∧ ∃ es, Cal (w.heap.size + 1) w.heap.size es w' ∧ flatE es = l ∧ es.length ≤ l.length ∧ okL l ∧ Sep gap l)
set_option maxHeartbeats 8000000 in
set_option maxRecDepth 100000 in
theorem calOf_x (a : Option Addr) (n c : Nat) (l : List Ss) (gap : Int) (hi : Nat) (w : World) (hr : Sss w hi a c l) (hn : n = l.length) (hB : hi ≤ w.heap.size) (hlen : l.length ≤ 1048575) (hg : 0 ≤ gap ∧ gap ≤ 1000000) :
    Calls Try.prog 97 #[.slice a n c, .int .i64 gap] w (CalOfPost l gap w) := by
  subst hn
  have m1 := hr.cap
  have m2 := hr.big
  have HR := Lib.hid hr
  have bm := (Below.refl w.heap.size w).alloc (Nat.le_refl _) (.map #[] 0)
  have CM := Lib.hid (cal_made w)
  have B0 := Lib.hid bm
  have mk : (Instr.makeMap 107 none).run Try.prog w = .ok (.map (some w.heap.size)) (w.alloc (.map #[] 0)) := run_makeMap _ _
  have HNO0 := Lib.hid (fun (k : Nat) (hk : k < l.length) (h : goodAt gap l k = false) (W : World) (hW : Below w.heap.size (w.alloc (.map #[] 0)) W) => (show CalOfPost l gap w (.returned (.tuple #[.map none, .bool false])) W from ⟨.map none, by rw [calOk_no hk h], bm.trans hW, fun _ => rfl, fun h2 => (by rw [calOk_no hk h] at h2; cases h2)⟩))
  clear hr bm
  go_enter Try.func97, Try.ntmps97
  go_wp2
  clear mk
  go_loopw [12] (fun iv wr => ∃ (k : Nat) (es : List Ent), k ≤ l.length ∧ iv = .int .i64 (k : Int) ∧ Cal (w.heap.size + 1) w.heap.size es wr ∧ es.length ≤ k ∧ flatE es = l.take k ∧ okL (flatE es) ∧ Sep gap (flatE es) ∧ goodTo gap l k ∧ LowM (w.heap.size + 1) w.heap.size (w.alloc (.map #[] 0)) wr ∧ Sss wr hi a c l) (fun iv _ => l.length - (intOf iv).toNat)
  case atStart => exact ⟨0, [], Nat.zero_le _, rfl, CM.out, Nat.le_refl _, rfl, fun x hx => (by cases hx), List.Pairwise.nil, fun i hi => by omega, LowM.of_below (Below.refl _ _), HR.out.below (B0.out.mono hB)⟩
  case round =>
    obtain ⟨k, es, hk, rfl, hC, hle, hfe, hok, hsp, hgd, hlow, hrw⟩ := hrel
    have CC := Lib.hid hC
    have FE := Lib.hid hfe
    have OK := Lib.hid hok
    have SPP := Lib.hid hsp
    have LW := Lib.hid hlow
    have HG := Lib.hid hgd
    have HRW := Lib.hid hrw
    have hsz : w.heap.size + 1 ≤ wr.heap.size := by have := hlow.size; simp at this; omega
    clear hC hfe hok hsp hlow hgd hrw CM
    by_cases hlt : k < l.length
    · obtain ⟨b1, off, rfl, hbh, hcell⟩ := Sss.six HRW.out (by omega)
      have hlt' : (k : Int) < (l.length : Int) := by omega
      have hnn : 0 ≤ (k : Int) := by omega
      obtain ⟨P0, P1, P2, P3, P4⟩ := hcell k hlt
      have GST : Hid (goodAt gap l k = true → goodTo gap l (k + 1)) := Lib.hid (fun h i hi => by
        rcases Nat.lt_or_ge i k with h' | h'
        · exact HG.out i h'
        · obtain rfl : i = k := by omega
          exact h)
      have HNO := Lib.hid (HNO0.out k hlt)
      have TK := Lib.hid (zel_take hlt)
      have SO := Lib.hid (fun W => implSesOk_x (zel l k).ky (zel l k).fr (zel l k).tt (zel l k).ct (zel l k).sm W)
      have eS : (⟨(zel l k).ky, (zel l k).fr, (zel l k).tt, (zel l k).ct, (zel l k).sm⟩ : Ss) = zel l k := rfl
      rw [eS] at SO
      clear hcell eS HNO0
      cases hs : sesOk (zel l k) with
      | false =>
        have HNO := Lib.hid (HNO.out (by unfold goodAt; rw [hs]; rfl))
        rw [hs] at SO
        clear GST hs TK
        generalize zel l k = Z at *
        obtain ⟨y0, y1, y2, y3, y4⟩ := Z
        simp only at P0 P1 P2 P3 P4
        have KB := Lib.hid ((Blk.new wr 33 #[.int .i64 y0, .int .i64 y1, .int .i64 y2, .int .i64 y3, .int .i64 y4]).drew)
        have b3 := ((Below.refl wr.heap.size wr).alloc (Nat.le_refl _) (.cells #[.int .i64 y0, .int .i64 y1, .int .i64 y2, .int .i64 y3, .int .i64 y4] 33)).drew
        have CC := Lib.hid (CC.out.below b3)
        have LW := Lib.hid (LW.out.trans (LowM.of_below (b3.mono hsz)))
        have HRW := Lib.hid (HRW.out.below (b3.mono (by omega)))
        clear b3
        have t0 : (wr.alloc (.cells #[.int .i64 y0, .int .i64 y1, .int .i64 y2, .int .i64 y3, .int .i64 y4] 33)).drew.cell? ⟨wr.heap.size, 0, none⟩ = some (.int .i64 y0) := KB.out.cell 0
        have t1 : (wr.alloc (.cells #[.int .i64 y0, .int .i64 y1, .int .i64 y2, .int .i64 y3, .int .i64 y4] 33)).drew.cell? ⟨wr.heap.size, 1, none⟩ = some (.int .i64 y1) := KB.out.cell 1
        have t2 : (wr.alloc (.cells #[.int .i64 y0, .int .i64 y1, .int .i64 y2, .int .i64 y3, .int .i64 y4] 33)).drew.cell? ⟨wr.heap.size, 2, none⟩ = some (.int .i64 y2) := KB.out.cell 2
        have t3 : (wr.alloc (.cells #[.int .i64 y0, .int .i64 y1, .int .i64 y2, .int .i64 y3, .int .i64 y4] 33)).drew.cell? ⟨wr.heap.size, 3, none⟩ = some (.int .i64 y3) := KB.out.cell 3
        have t4 : (wr.alloc (.cells #[.int .i64 y0, .int .i64 y1, .int .i64 y2, .int .i64 y3, .int .i64 y4] 33)).drew.cell? ⟨wr.heap.size, 4, none⟩ = some (.int .i64 y4) := KB.out.cell 4
        go_wp2_with fail
        refine wp_region_any (by kernel_rfl) ?_
        change wpAny _ _ _ _ _ _ _ (World.drew _)
        refine wpAny_ready (rs := [0]) (by kernel_rfl) (by simp) ?_
        refine AllReady.cons rfl (fun K hK => ?_) AllReady.nil
        go_simp
        refine hK _ _ ?_
        clear hK K
        refine wpAny_ready (rs := [1]) (by kernel_rfl) (by simp) ?_
        refine AllReady.cons rfl (fun K hK => ?_) AllReady.nil
        go_simp
        go_wp2_with (go_at_call 25; refine (SO.out _).mono ?_; rintro e w3 ⟨rfl, hb⟩; have hz := KB.out.lt; have CC := Lib.hid (CC.out.below hb); have LW := Lib.hid (LW.out.trans (LowM.of_below (hb.mono (by omega)))); have HRW := Lib.hid (HRW.out.below (hb.mono (by omega))); have KB := Lib.hid (KB.out.below hb); clear hb hz t0 t1 t2 t3 t4; have t0 : w3.cell? ⟨wr.heap.size, 0, none⟩ = some (.int .i64 y0) := KB.out.cell 0; have t1 : w3.cell? ⟨wr.heap.size, 1, none⟩ = some (.int .i64 y1) := KB.out.cell 1; have t2 : w3.cell? ⟨wr.heap.size, 2, none⟩ = some (.int .i64 y2) := KB.out.cell 2; have t3 : w3.cell? ⟨wr.heap.size, 3, none⟩ = some (.int .i64 y3) := KB.out.cell 3; have t4 : w3.cell? ⟨wr.heap.size, 4, none⟩ = some (.int .i64 y4) := KB.out.cell 4)
        refine wpAny_take (oi := ⟨some 19, _, _, _, _, _⟩) (i := 2) (v := .bool true) rfl (by kernel_rfl) (by kernel_rfl) (by kernel_rfl) (fun _ _ _ h => h) (Or.inl ⟨by kernel_rfl, fun w => by go_simp⟩) ?_
        go_simp
        refine wpAny_take (oi := ⟨some 20, _, _, _, _, _⟩) (i := 3) (v := .bool true) rfl (by kernel_rfl) (by kernel_rfl) (by kernel_rfl) (fun _ _ _ h => h) (Or.inl ⟨by kernel_rfl, fun w => by go_simp⟩) ?_
        go_simp
        refine wpAny_take (oi := ⟨some 21, _, _, _, _, _⟩) (i := 4) (v := undef) rfl (by kernel_rfl) (by kernel_rfl) (by kernel_rfl) (fun _ _ _ h => h) (Or.inr ⟨by kernel_rfl, rfl⟩) ?_
        go_simp
        refine wpAny_take (oi := ⟨some 22, _, _, _, _, _⟩) (i := 5) (v := undef) rfl (by kernel_rfl) (by kernel_rfl) (by kernel_rfl) (fun _ _ _ h => h) (Or.inr ⟨by kernel_rfl, rfl⟩) ?_
        go_simp
        refine wpAny_take (oi := ⟨some 23, _, _, _, _, _⟩) (i := 6) (v := undef) rfl (by kernel_rfl) (by kernel_rfl) (by kernel_rfl) (fun _ _ _ h => h) (Or.inr ⟨by kernel_rfl, rfl⟩) ?_
        go_simp
        refine wpAny_take (oi := ⟨some 24, _, _, _, _, _⟩) (i := 7) (v := undef) rfl (by kernel_rfl) (by kernel_rfl) (by kernel_rfl) (fun _ _ _ h => h) (Or.inr ⟨by kernel_rfl, rfl⟩) ?_
        go_simp
        refine wpAny_take (oi := ⟨some 25, _, _, _, _, _⟩) (i := 8) (v := undef) rfl (by kernel_rfl) (by kernel_rfl) (by kernel_rfl) (fun _ _ _ h => h) (Or.inr ⟨by kernel_rfl, rfl⟩) ?_
        go_simp
        refine wpAny_take (oi := ⟨some 26, _, _, _, _, _⟩) (i := 9) (v := undef) rfl (by kernel_rfl) (by kernel_rfl) (by kernel_rfl) (fun _ _ _ h => h) (Or.inr ⟨by kernel_rfl, rfl⟩) ?_
        go_simp
        refine wpAny_take (oi := ⟨some 27, _, _, _, _, _⟩) (i := 10) (v := undef) rfl (by kernel_rfl) (by kernel_rfl) (by kernel_rfl) (fun _ _ _ h => h) (Or.inr ⟨by kernel_rfl, rfl⟩) ?_
        go_simp
        refine wpAny_take (oi := ⟨some 28, _, _, _, _, _⟩) (i := 11) (v := undef) rfl (by kernel_rfl) (by kernel_rfl) (by kernel_rfl) (fun _ _ _ h => h) (Or.inr ⟨by kernel_rfl, rfl⟩) ?_
        go_simp
        refine wpAny_take (oi := ⟨some 29, _, _, _, _, _⟩) (i := 12) (v := undef) rfl (by kernel_rfl) (by kernel_rfl) (by kernel_rfl) (fun _ _ _ h => h) (Or.inr ⟨by kernel_rfl, rfl⟩) ?_
        go_simp
        refine wpAny_take (oi := ⟨some 30, _, _, _, _, _⟩) (i := 13) (v := undef) rfl (by kernel_rfl) (by kernel_rfl) (by kernel_rfl) (fun _ _ _ h => h) (Or.inr ⟨by kernel_rfl, rfl⟩) ?_
        go_simp
        refine wpAny_take (oi := ⟨some 31, _, _, _, _, _⟩) (i := 14) (v := undef) rfl (by kernel_rfl) (by kernel_rfl) (by kernel_rfl) (fun _ _ _ h => h) (Or.inr ⟨by kernel_rfl, rfl⟩) ?_
        go_simp
        refine wpAny_take (oi := ⟨some 32, _, _, _, _, _⟩) (i := 15) (v := undef) rfl (by kernel_rfl) (by kernel_rfl) (by kernel_rfl) (fun _ _ _ h => h) (Or.inr ⟨by kernel_rfl, rfl⟩) ?_
        go_simp
        refine wpAny_take (oi := ⟨some 33, _, _, _, _, _⟩) (i := 16) (v := undef) rfl (by kernel_rfl) (by kernel_rfl) (by kernel_rfl) (fun _ _ _ h => h) (Or.inr ⟨by kernel_rfl, rfl⟩) ?_
        go_simp
        refine wpAny_take (oi := ⟨some 34, _, _, _, _, _⟩) (i := 17) (v := .bool true) rfl (by kernel_rfl) (by kernel_rfl) (by kernel_rfl) (fun _ _ _ h => h) (Or.inl ⟨by kernel_rfl, fun w => by go_simp⟩) ?_
        go_simp
        refine wpAny_done (by kernel_rfl) ?_ _
        all_goals
          have FIN := Lib.hid (HNO.out _ (LW.out.below (by omega) (Nat.le_refl _)))
          clear t0 t1 t2 t3 t4 P0 P1 P2 P3 P4
          go_wp2
          exact bodyPost_ret (v := .tuple #[.map none, .bool false]) (by simp [results, Try.results97, go_sem]) rfl FIN.out
      | true =>
        rw [hs] at SO
        have HSO := Lib.hid hs
        rcases Nat.eq_zero_or_pos k with hk0 | hk0
        · have GD := Lib.hid (GST.out (by unfold goodAt; rw [hs, hk0]; rfl))
          have hk9 : decide ((0 : Int) < (k : Int)) = false := by simp; omega
          have AHD : Hid (∀ x, x ∈ flatE es → ahS gap x (zel l k) = true) := Lib.hid (fun x hx => by rw [FE.out, hk0] at hx; cases hx)
          clear GST hs HNO hk9
          subst hk0
          generalize zel l 0 = Z at *
          obtain ⟨y0, y1, y2, y3, y4⟩ := Z
          simp only [Nat.zero_mul, Nat.add_zero] at P0 P1 P2 P3 P4
          have KB := Lib.hid ((Blk.new wr 33 #[.int .i64 y0, .int .i64 y1, .int .i64 y2, .int .i64 y3, .int .i64 y4]).drew)
          have b3 := ((Below.refl wr.heap.size wr).alloc (Nat.le_refl _) (.cells #[.int .i64 y0, .int .i64 y1, .int .i64 y2, .int .i64 y3, .int .i64 y4] 33)).drew
          have CC := Lib.hid (CC.out.below b3)
          have LW := Lib.hid (LW.out.trans (LowM.of_below (b3.mono hsz)))
          have HRW := Lib.hid (HRW.out.below (b3.mono (by omega)))
          clear b3
          have t0 : (wr.alloc (.cells #[.int .i64 y0, .int .i64 y1, .int .i64 y2, .int .i64 y3, .int .i64 y4] 33)).drew.cell? ⟨wr.heap.size, 0, none⟩ = some (.int .i64 y0) := KB.out.cell 0
          have t1 : (wr.alloc (.cells #[.int .i64 y0, .int .i64 y1, .int .i64 y2, .int .i64 y3, .int .i64 y4] 33)).drew.cell? ⟨wr.heap.size, 1, none⟩ = some (.int .i64 y1) := KB.out.cell 1
          have t2 : (wr.alloc (.cells #[.int .i64 y0, .int .i64 y1, .int .i64 y2, .int .i64 y3, .int .i64 y4] 33)).drew.cell? ⟨wr.heap.size, 2, none⟩ = some (.int .i64 y2) := KB.out.cell 2
          have t3 : (wr.alloc (.cells #[.int .i64 y0, .int .i64 y1, .int .i64 y2, .int .i64 y3, .int .i64 y4] 33)).drew.cell? ⟨wr.heap.size, 3, none⟩ = some (.int .i64 y3) := KB.out.cell 3
          have t4 : (wr.alloc (.cells #[.int .i64 y0, .int .i64 y1, .int .i64 y2, .int .i64 y3, .int .i64 y4] 33)).drew.cell? ⟨wr.heap.size, 4, none⟩ = some (.int .i64 y4) := KB.out.cell 4
          go_wp2_with fail
          refine wp_region_any (by kernel_rfl) ?_
          change wpAny _ _ _ _ _ _ _ (World.drew _)
          refine wpAny_ready (rs := [0]) (by kernel_rfl) (by simp) ?_
          refine AllReady.cons rfl (fun K hK => ?_) AllReady.nil
          go_simp
          refine hK _ _ ?_
          clear hK K
          refine wpAny_ready (rs := [1]) (by kernel_rfl) (by simp) ?_
          refine AllReady.cons rfl (fun K hK => ?_) AllReady.nil
          go_simp
          go_wp2_with (go_at_call 25; refine (SO.out _).mono ?_; rintro e w3 ⟨rfl, hb⟩; have hz := KB.out.lt; have CC := Lib.hid (CC.out.below hb); have LW := Lib.hid (LW.out.trans (LowM.of_below (hb.mono (by omega)))); have HRW := Lib.hid (HRW.out.below (hb.mono (by omega))); have KB := Lib.hid (KB.out.below hb); clear hb hz t0 t1 t2 t3 t4; have t0 : w3.cell? ⟨wr.heap.size, 0, none⟩ = some (.int .i64 y0) := KB.out.cell 0; have t1 : w3.cell? ⟨wr.heap.size, 1, none⟩ = some (.int .i64 y1) := KB.out.cell 1; have t2 : w3.cell? ⟨wr.heap.size, 2, none⟩ = some (.int .i64 y2) := KB.out.cell 2; have t3 : w3.cell? ⟨wr.heap.size, 3, none⟩ = some (.int .i64 y3) := KB.out.cell 3; have t4 : w3.cell? ⟨wr.heap.size, 4, none⟩ = some (.int .i64 y4) := KB.out.cell 4)
          refine wpAny_take (oi := ⟨some 19, _, _, _, _, _⟩) (i := 2) (v := .bool false) rfl (by kernel_rfl) (by kernel_rfl) (by kernel_rfl) (fun _ _ _ h => h) (Or.inl ⟨by kernel_rfl, fun w => by go_simp⟩) ?_
          go_simp
          refine wpAny_take (oi := ⟨some 20, _, _, _, _, _⟩) (i := 3) (v := .bool false) rfl (by kernel_rfl) (by kernel_rfl) (by kernel_rfl) (fun _ _ _ h => h) (Or.inl ⟨by kernel_rfl, fun w => by go_simp⟩) ?_
          go_simp
          refine wpAny_take (oi := ⟨some 21, _, _, _, _, _⟩) (i := 4) (v := .int .i64 0) rfl (by kernel_rfl) (by kernel_rfl) (by kernel_rfl) (fun _ _ _ h => h) (Or.inl ⟨by kernel_rfl, fun w => by go_simp⟩) ?_
          go_simp
          refine wpAny_take (oi := ⟨some 22, _, _, _, _, _⟩) (i := 5) (v := .bool false) rfl (by kernel_rfl) (by kernel_rfl) (by kernel_rfl) (fun _ _ _ h => h) (Or.inl ⟨by kernel_rfl, fun w => by go_simp⟩) ?_
          go_simp
          refine wpAny_take (oi := ⟨some 23, _, _, _, _, _⟩) (i := 6) (v := .bool false) rfl (by kernel_rfl) (by kernel_rfl) (by kernel_rfl) (fun _ _ _ h => h) (Or.inl ⟨by kernel_rfl, fun w => by go_simp⟩) ?_
          go_simp
          refine wpAny_take (oi := ⟨some 24, _, _, _, _, _⟩) (i := 7) (v := undef) rfl (by kernel_rfl) (by kernel_rfl) (by kernel_rfl) (fun _ _ _ h => h) (Or.inr ⟨by kernel_rfl, rfl⟩) ?_
          go_simp
          refine wpAny_take (oi := ⟨some 25, _, _, _, _, _⟩) (i := 8) (v := undef) rfl (by kernel_rfl) (by kernel_rfl) (by kernel_rfl) (fun _ _ _ h => h) (Or.inr ⟨by kernel_rfl, rfl⟩) ?_
          go_simp
          refine wpAny_take (oi := ⟨some 26, _, _, _, _, _⟩) (i := 9) (v := undef) rfl (by kernel_rfl) (by kernel_rfl) (by kernel_rfl) (fun _ _ _ h => h) (Or.inr ⟨by kernel_rfl, rfl⟩) ?_
          go_simp
          refine wpAny_take (oi := ⟨some 27, _, _, _, _, _⟩) (i := 10) (v := undef) rfl (by kernel_rfl) (by kernel_rfl) (by kernel_rfl) (fun _ _ _ h => h) (Or.inr ⟨by kernel_rfl, rfl⟩) ?_
          go_simp
          refine wpAny_take (oi := ⟨some 28, _, _, _, _, _⟩) (i := 11) (v := undef) rfl (by kernel_rfl) (by kernel_rfl) (by kernel_rfl) (fun _ _ _ h => h) (Or.inr ⟨by kernel_rfl, rfl⟩) ?_
          go_simp
          refine wpAny_take (oi := ⟨some 29, _, _, _, _, _⟩) (i := 12) (v := undef) rfl (by kernel_rfl) (by kernel_rfl) (by kernel_rfl) (fun _ _ _ h => h) (Or.inr ⟨by kernel_rfl, rfl⟩) ?_
          go_simp
          refine wpAny_take (oi := ⟨some 30, _, _, _, _, _⟩) (i := 13) (v := undef) rfl (by kernel_rfl) (by kernel_rfl) (by kernel_rfl) (fun _ _ _ h => h) (Or.inr ⟨by kernel_rfl, rfl⟩) ?_
          go_simp
          refine wpAny_take (oi := ⟨some 31, _, _, _, _, _⟩) (i := 14) (v := undef) rfl (by kernel_rfl) (by kernel_rfl) (by kernel_rfl) (fun _ _ _ h => h) (Or.inr ⟨by kernel_rfl, rfl⟩) ?_
          go_simp
          refine wpAny_take (oi := ⟨some 32, _, _, _, _, _⟩) (i := 15) (v := undef) rfl (by kernel_rfl) (by kernel_rfl) (by kernel_rfl) (fun _ _ _ h => h) (Or.inr ⟨by kernel_rfl, rfl⟩) ?_
          go_simp
          refine wpAny_take (oi := ⟨some 33, _, _, _, _, _⟩) (i := 16) (v := .bool false) rfl (by kernel_rfl) (by kernel_rfl) (by kernel_rfl) (fun _ _ _ h => h) (Or.inl ⟨by kernel_rfl, fun w => by go_simp⟩) ?_
          go_simp
          refine wpAny_take (oi := ⟨some 34, _, _, _, _, _⟩) (i := 17) (v := .bool false) rfl (by kernel_rfl) (by kernel_rfl) (by kernel_rfl) (fun _ _ _ h => h) (Or.inl ⟨by kernel_rfl, fun w => by go_simp⟩) ?_
          go_simp
          refine wpAny_done (by kernel_rfl) ?_ _
          all_goals
            have CA := Lib.hid (calAdd_x _ _ _ y0 y1 y2 y3 y4 gap _ CC.out OK.out SPP.out HSO.out hg (by have := KB.out.lt; omega) (by omega))
            go_wp2_with fail
            refine CA.out.mono ?_
            rintro e w4 ⟨rfl, es', A, M, Q, q1, q2, q3, q4⟩
            have hend := ins_end hg.1 HSO.out OK.out AHD.out q3
            have hse := q3.sep HSO.out OK.out SPP.out
            have LW := Lib.hid (LW.out.trans q4)
            have FIN : Hid (∃ es : List Ent, Cal (w.heap.size + 1) w.heap.size es w4 ∧ es.length ≤ 0 + 1 ∧ flatE es = l.take (0 + 1) ∧ okL (flatE es) ∧ Sep gap (flatE es) ∧ goodTo gap l (0 + 1) ∧ LowM (w.heap.size + 1) w.heap.size (w.alloc (.map #[] 0)) w4 ∧ Sss w4 hi (some ⟨b1, off, none⟩) c l) := Lib.hid ⟨es', q1, by omega, by rw [hend, FE.out, TK.out], hse.2, hse.1, GD.out, LW.out, HR.out.below ((B0.out.trans (LW.out.below (by omega) (Nat.le_refl _))).mono hB)⟩
            clear q1 q2 q3 q4 hend hse t0 t1 t2 t3 t4 P0 P1 P2 P3 P4
            go_wp2
            go_roundw
            case rel =>
              obtain ⟨es, z1, z2, z3, z4, z5, z6, z7, z8⟩ := FIN.out
              exact ⟨0 + 1, es, by omega, by go_num, z1, z2, z3, z4, z5, z6, z7, z8⟩
            case measure => simp [intOf]; omega
        · obtain ⟨j, hj⟩ : ∃ j, k = j + 1 := ⟨k - 1, by omega⟩
          have hjl : j < l.length := by omega
          have hok1 := OK.out
          have hsp1 := SPP.out
          rw [FE.out, hj] at hok1 hsp1
          have bj : sesOk (zel l j) = true := hok1 (zel l j) (by rw [zel_take hjl]; simp)
          have bj := sesOk_bd bj
          have hga : goodAt gap l k = ahS gap (zel l j) (zel l k) := by
            unfold goodAt
            rw [hs, badP_ah, hj]
            simp
          have AHX := Lib.hid (fun (h : ahS gap (zel l j) (zel l k) = true) => ahead_all hg.1 hok1 hsp1 hjl h)
          rw [← hj, ← FE.out] at AHX
          have CL : Hid (∀ W, Sss W hi (some ⟨b1, off, none⟩) c l → W.cell? ⟨b1, off + j * 5, none⟩ = some (.int .i64 (zel l j).ky) ∧ W.cell? ⟨b1, off + j * 5 + 1, none⟩ = some (.int .i64 (zel l j).fr) ∧ W.cell? ⟨b1, off + j * 5 + 2, none⟩ = some (.int .i64 (zel l j).tt) ∧ W.cell? ⟨b1, off + j * 5 + 3, none⟩ = some (.int .i64 (zel l j).ct) ∧ W.cell? ⟨b1, off + j * 5 + 4, none⟩ = some (.int .i64 (zel l j).sm)) := Lib.hid (fun W hW => by
            obtain ⟨b', off', he, _, hc⟩ := Sss.six hW (by omega)
            injection he with he
            injection he with e1 e2
            subst e1 e2
            exact hc j hjl)
          have AH := Lib.hid (fun W => isAhead_x (zel l j).ky (zel l j).fr (zel l j).tt (zel l j).ct (zel l j).sm (zel l k).ky (zel l k).fr (zel l k).tt (zel l k).ct (zel l k).sm gap W bj.2.1 hg)
          have eA : ahS gap ⟨(zel l j).ky, (zel l j).fr, (zel l j).tt, (zel l j).ct, (zel l j).sm⟩ ⟨(zel l k).ky, (zel l k).fr, (zel l k).tt, (zel l k).ct, (zel l k).sm⟩ = ahS gap (zel l j) (zel l k) := rfl
          rw [eA] at AH
          have hwj2 : IntKind.i64.wrap ((k : Int) - 1) = (j : Int) := by rw [IntWalk.i64_in _ (by omega)]; omega
          have h0i : (0 : Int) < (k : Int) := by omega
          have hk9 : decide ((0 : Int) < (k : Int)) = true := decide_eq_true h0i
          have hjn : 0 ≤ (j : Int) := by omega
          have hjl' : (j : Int) < (l.length : Int) := by omega
          clear hok1 hsp1 eA
          cases hah : ahS gap (zel l j) (zel l k) with
          | false =>
            have HNO := Lib.hid (HNO.out (hga.trans hah))
            rw [hah] at AH
            clear GST hs TK hga hah AHX bj hj
            generalize zel l k = Z at *
            generalize zel l j = V at *
            obtain ⟨y0, y1, y2, y3, y4⟩ := Z
            obtain ⟨x0, x1, x2, x3, x4⟩ := V
            simp only at P0 P1 P2 P3 P4 CL
            have KB := Lib.hid ((Blk.new wr 33 #[.int .i64 y0, .int .i64 y1, .int .i64 y2, .int .i64 y3, .int .i64 y4]).drew)
            have b3 := ((Below.refl wr.heap.size wr).alloc (Nat.le_refl _) (.cells #[.int .i64 y0, .int .i64 y1, .int .i64 y2, .int .i64 y3, .int .i64 y4] 33)).drew
            have CC := Lib.hid (CC.out.below b3)
            have LW := Lib.hid (LW.out.trans (LowM.of_below (b3.mono hsz)))
            have HRW := Lib.hid (HRW.out.below (b3.mono (by omega)))
            clear b3
            have t0 : (wr.alloc (.cells #[.int .i64 y0, .int .i64 y1, .int .i64 y2, .int .i64 y3, .int .i64 y4] 33)).drew.cell? ⟨wr.heap.size, 0, none⟩ = some (.int .i64 y0) := KB.out.cell 0
            have t1 : (wr.alloc (.cells #[.int .i64 y0, .int .i64 y1, .int .i64 y2, .int .i64 y3, .int .i64 y4] 33)).drew.cell? ⟨wr.heap.size, 1, none⟩ = some (.int .i64 y1) := KB.out.cell 1
            have t2 : (wr.alloc (.cells #[.int .i64 y0, .int .i64 y1, .int .i64 y2, .int .i64 y3, .int .i64 y4] 33)).drew.cell? ⟨wr.heap.size, 2, none⟩ = some (.int .i64 y2) := KB.out.cell 2
            have t3 : (wr.alloc (.cells #[.int .i64 y0, .int .i64 y1, .int .i64 y2, .int .i64 y3, .int .i64 y4] 33)).drew.cell? ⟨wr.heap.size, 3, none⟩ = some (.int .i64 y3) := KB.out.cell 3
            have t4 : (wr.alloc (.cells #[.int .i64 y0, .int .i64 y1, .int .i64 y2, .int .i64 y3, .int .i64 y4] 33)).drew.cell? ⟨wr.heap.size, 4, none⟩ = some (.int .i64 y4) := KB.out.cell 4
            obtain ⟨p0, p1, p2, p3, p4⟩ := CL.out _ HRW.out
            go_wp2_with fail
            go_region_held3 (fun W => W.cell? ⟨wr.heap.size, 0, none⟩ = some (.int .i64 y0) ∧ W.cell? ⟨wr.heap.size, 1, none⟩ = some (.int .i64 y1) ∧ W.cell? ⟨wr.heap.size, 2, none⟩ = some (.int .i64 y2) ∧ W.cell? ⟨wr.heap.size, 3, none⟩ = some (.int .i64 y3) ∧ W.cell? ⟨wr.heap.size, 4, none⟩ = some (.int .i64 y4) ∧ W.cell? ⟨b1, off + j * 5, none⟩ = some (.int .i64 x0) ∧ W.cell? ⟨b1, off + j * 5 + 1, none⟩ = some (.int .i64 x1) ∧ W.cell? ⟨b1, off + j * 5 + 2, none⟩ = some (.int .i64 x2) ∧ W.cell? ⟨b1, off + j * 5 + 3, none⟩ = some (.int .i64 x3) ∧ W.cell? ⟨b1, off + j * 5 + 4, none⟩ = some (.int .i64 x4))
              (exact ⟨t0, t1, t2, t3, t4, p0, p1, p2, p3, p4⟩)
              ((first | (go_at_call 25; refine (SO.out _).mono ?_; rintro e w3 ⟨rfl, hb⟩; have hz := KB.out.lt; have CC := Lib.hid (CC.out.below hb); have LW := Lib.hid (LW.out.trans (LowM.of_below (hb.mono (by omega)))); have HRW := Lib.hid (HRW.out.below (hb.mono (by omega))); have KB := Lib.hid (KB.out.below hb); clear hb hz t0 t1 t2 t3 t4 p0 p1 p2 p3 p4; have t0 : w3.cell? ⟨wr.heap.size, 0, none⟩ = some (.int .i64 y0) := KB.out.cell 0; have t1 : w3.cell? ⟨wr.heap.size, 1, none⟩ = some (.int .i64 y1) := KB.out.cell 1; have t2 : w3.cell? ⟨wr.heap.size, 2, none⟩ = some (.int .i64 y2) := KB.out.cell 2; have t3 : w3.cell? ⟨wr.heap.size, 3, none⟩ = some (.int .i64 y3) := KB.out.cell 3; have t4 : w3.cell? ⟨wr.heap.size, 4, none⟩ = some (.int .i64 y4) := KB.out.cell 4; obtain ⟨p0, p1, p2, p3, p4⟩ := CL.out w3 HRW.out) | (go_at_call 125; refine (AH.out _).mono ?_; rintro e w3 ⟨rfl, hb⟩; have hz := KB.out.lt; have CC := Lib.hid (CC.out.below hb); have LW := Lib.hid (LW.out.trans (LowM.of_below (hb.mono (by omega)))); have HRW := Lib.hid (HRW.out.below (hb.mono (by omega))); have KB := Lib.hid (KB.out.below hb); clear hb hz t0 t1 t2 t3 t4 p0 p1 p2 p3 p4; have t0 : w3.cell? ⟨wr.heap.size, 0, none⟩ = some (.int .i64 y0) := KB.out.cell 0; have t1 : w3.cell? ⟨wr.heap.size, 1, none⟩ = some (.int .i64 y1) := KB.out.cell 1; have t2 : w3.cell? ⟨wr.heap.size, 2, none⟩ = some (.int .i64 y2) := KB.out.cell 2; have t3 : w3.cell? ⟨wr.heap.size, 3, none⟩ = some (.int .i64 y3) := KB.out.cell 3; have t4 : w3.cell? ⟨wr.heap.size, 4, none⟩ = some (.int .i64 y4) := KB.out.cell 4; obtain ⟨p0, p1, p2, p3, p4⟩ := CL.out w3 HRW.out)))
            all_goals
              have FIN := Lib.hid (HNO.out _ (LW.out.below (by omega) (Nat.le_refl _)))
              clear t0 t1 t2 t3 t4 P0 P1 P2 P3 P4 p0 p1 p2 p3 p4
              go_wp2
              exact bodyPost_ret (v := .tuple #[.map none, .bool false]) (by simp [results, Try.results97, go_sem]) rfl FIN.out
          | true =>
            have GD := Lib.hid (GST.out (hga.trans hah))
            have AHD := Lib.hid (AHX.out hah)
            rw [hah] at AH
            clear GST hs hga hah AHX HNO bj hj
            generalize zel l k = Z at *
            generalize zel l j = V at *
            obtain ⟨y0, y1, y2, y3, y4⟩ := Z
            obtain ⟨x0, x1, x2, x3, x4⟩ := V
            simp only at P0 P1 P2 P3 P4 CL
            have KB := Lib.hid ((Blk.new wr 33 #[.int .i64 y0, .int .i64 y1, .int .i64 y2, .int .i64 y3, .int .i64 y4]).drew)
            have b3 := ((Below.refl wr.heap.size wr).alloc (Nat.le_refl _) (.cells #[.int .i64 y0, .int .i64 y1, .int .i64 y2, .int .i64 y3, .int .i64 y4] 33)).drew
            have CC := Lib.hid (CC.out.below b3)
            have LW := Lib.hid (LW.out.trans (LowM.of_below (b3.mono hsz)))
            have HRW := Lib.hid (HRW.out.below (b3.mono (by omega)))
            clear b3
            have t0 : (wr.alloc (.cells #[.int .i64 y0, .int .i64 y1, .int .i64 y2, .int .i64 y3, .int .i64 y4] 33)).drew.cell? ⟨wr.heap.size, 0, none⟩ = some (.int .i64 y0) := KB.out.cell 0
            have t1 : (wr.alloc (.cells #[.int .i64 y0, .int .i64 y1, .int .i64 y2, .int .i64 y3, .int .i64 y4] 33)).drew.cell? ⟨wr.heap.size, 1, none⟩ = some (.int .i64 y1) := KB.out.cell 1
            have t2 : (wr.alloc (.cells #[.int .i64 y0, .int .i64 y1, .int .i64 y2, .int .i64 y3, .int .i64 y4] 33)).drew.cell? ⟨wr.heap.size, 2, none⟩ = some (.int .i64 y2) := KB.out.cell 2
            have t3 : (wr.alloc (.cells #[.int .i64 y0, .int .i64 y1, .int .i64 y2, .int .i64 y3, .int .i64 y4] 33)).drew.cell? ⟨wr.heap.size, 3, none⟩ = some (.int .i64 y3) := KB.out.cell 3
            have t4 : (wr.alloc (.cells #[.int .i64 y0, .int .i64 y1, .int .i64 y2, .int .i64 y3, .int .i64 y4] 33)).drew.cell? ⟨wr.heap.size, 4, none⟩ = some (.int .i64 y4) := KB.out.cell 4
            obtain ⟨p0, p1, p2, p3, p4⟩ := CL.out _ HRW.out
            go_wp2_with fail
            go_region_held3 (fun W => W.cell? ⟨wr.heap.size, 0, none⟩ = some (.int .i64 y0) ∧ W.cell? ⟨wr.heap.size, 1, none⟩ = some (.int .i64 y1) ∧ W.cell? ⟨wr.heap.size, 2, none⟩ = some (.int .i64 y2) ∧ W.cell? ⟨wr.heap.size, 3, none⟩ = some (.int .i64 y3) ∧ W.cell? ⟨wr.heap.size, 4, none⟩ = some (.int .i64 y4) ∧ W.cell? ⟨b1, off + j * 5, none⟩ = some (.int .i64 x0) ∧ W.cell? ⟨b1, off + j * 5 + 1, none⟩ = some (.int .i64 x1) ∧ W.cell? ⟨b1, off + j * 5 + 2, none⟩ = some (.int .i64 x2) ∧ W.cell? ⟨b1, off + j * 5 + 3, none⟩ = some (.int .i64 x3) ∧ W.cell? ⟨b1, off + j * 5 + 4, none⟩ = some (.int .i64 x4))
              (exact ⟨t0, t1, t2, t3, t4, p0, p1, p2, p3, p4⟩)
              ((first | (go_at_call 25; refine (SO.out _).mono ?_; rintro e w3 ⟨rfl, hb⟩; have hz := KB.out.lt; have CC := Lib.hid (CC.out.below hb); have LW := Lib.hid (LW.out.trans (LowM.of_below (hb.mono (by omega)))); have HRW := Lib.hid (HRW.out.below (hb.mono (by omega))); have KB := Lib.hid (KB.out.below hb); clear hb hz t0 t1 t2 t3 t4 p0 p1 p2 p3 p4; have t0 : w3.cell? ⟨wr.heap.size, 0, none⟩ = some (.int .i64 y0) := KB.out.cell 0; have t1 : w3.cell? ⟨wr.heap.size, 1, none⟩ = some (.int .i64 y1) := KB.out.cell 1; have t2 : w3.cell? ⟨wr.heap.size, 2, none⟩ = some (.int .i64 y2) := KB.out.cell 2; have t3 : w3.cell? ⟨wr.heap.size, 3, none⟩ = some (.int .i64 y3) := KB.out.cell 3; have t4 : w3.cell? ⟨wr.heap.size, 4, none⟩ = some (.int .i64 y4) := KB.out.cell 4; obtain ⟨p0, p1, p2, p3, p4⟩ := CL.out w3 HRW.out) | (go_at_call 125; refine (AH.out _).mono ?_; rintro e w3 ⟨rfl, hb⟩; have hz := KB.out.lt; have CC := Lib.hid (CC.out.below hb); have LW := Lib.hid (LW.out.trans (LowM.of_below (hb.mono (by omega)))); have HRW := Lib.hid (HRW.out.below (hb.mono (by omega))); have KB := Lib.hid (KB.out.below hb); clear hb hz t0 t1 t2 t3 t4 p0 p1 p2 p3 p4; have t0 : w3.cell? ⟨wr.heap.size, 0, none⟩ = some (.int .i64 y0) := KB.out.cell 0; have t1 : w3.cell? ⟨wr.heap.size, 1, none⟩ = some (.int .i64 y1) := KB.out.cell 1; have t2 : w3.cell? ⟨wr.heap.size, 2, none⟩ = some (.int .i64 y2) := KB.out.cell 2; have t3 : w3.cell? ⟨wr.heap.size, 3, none⟩ = some (.int .i64 y3) := KB.out.cell 3; have t4 : w3.cell? ⟨wr.heap.size, 4, none⟩ = some (.int .i64 y4) := KB.out.cell 4; obtain ⟨p0, p1, p2, p3, p4⟩ := CL.out w3 HRW.out)))
            all_goals
              have CA := Lib.hid (calAdd_x _ _ _ y0 y1 y2 y3 y4 gap _ CC.out OK.out SPP.out HSO.out hg (by have := KB.out.lt; omega) (by omega))
              go_wp2_with fail
              refine CA.out.mono ?_
              rintro e w4 ⟨rfl, es', A, M, Q, q1, q2, q3, q4⟩
              have hend := ins_end hg.1 HSO.out OK.out AHD.out q3
              have hse := q3.sep HSO.out OK.out SPP.out
              have LW := Lib.hid (LW.out.trans q4)
              have FIN : Hid (∃ es : List Ent, Cal (w.heap.size + 1) w.heap.size es w4 ∧ es.length ≤ k + 1 ∧ flatE es = l.take (k + 1) ∧ okL (flatE es) ∧ Sep gap (flatE es) ∧ goodTo gap l (k + 1) ∧ LowM (w.heap.size + 1) w.heap.size (w.alloc (.map #[] 0)) w4 ∧ Sss w4 hi (some ⟨b1, off, none⟩) c l) := Lib.hid ⟨es', q1, by omega, by rw [hend, FE.out, TK.out], hse.2, hse.1, GD.out, LW.out, HR.out.below ((B0.out.trans (LW.out.below (by omega) (Nat.le_refl _))).mono hB)⟩
              clear q1 q2 q3 q4 hend hse t0 t1 t2 t3 t4 P0 P1 P2 P3 P4 p0 p1 p2 p3 p4
              go_wp2
              go_roundw
              case rel =>
                obtain ⟨es, z1, z2, z3, z4, z5, z6, z7, z8⟩ := FIN.out
                exact ⟨k + 1, es, by omega, by go_num, z1, z2, z3, z4, z5, z6, z7, z8⟩
              case measure => simp [intOf]; omega
    · obtain rfl : k = l.length := by omega
      have HX := calOk_yes HG.out
      have FIN : Hid (CalOfPost l gap w (.returned (.tuple #[.map (some w.heap.size), .bool true])) wr) := Lib.hid (by
        have hfe := FE.out
        rw [List.take_length] at hfe
        exact ⟨_, by rw [HX], B0.out.trans (LW.out.below (by omega) (Nat.le_refl _)), fun h => (by rw [HX] at h; cases h), fun _ => ⟨rfl, es, CC.out, hfe, hle, hfe ▸ OK.out, hfe ▸ SPP.out⟩⟩)
      clear HX
      go_wp2
      exact bodyPost_ret (v := .tuple #[.map (some w.heap.size), .bool true]) (by simp [results, Try.results97, go_sem]) rfl FIN.out
end Go.Proofs.Ytchbmnpajnlijaa
