/- Chapter 11, impl's side: FoldSlides. (made by tools/mkfsi.py) -/
import Derived.Test.YtchbmnpajnlijaaPlainFs
import Derived.Test.YtchbmnpajnlijaaSl2
import Derived.Test.YtchbmnpajnlijaaFoldI
import Derived.Test.YtchbmnpajnlijaaFoldAll
import Derived.Deep.AppendLies
namespace Go.Proofs.Ytchbmnpajnlijaa
open Go.RowKit Stab
theorem evF_evQ : evF = evQ := by
  funext F
  unfold evF isEv evQ
  exact Bool.and_comm _ _
theorem own_own_ne' {w : World} {b1 b2 s1 s2 n1 n2 : Nat} {e1 e2 : TypeId} {v1 v2 : Value} {xs1 xs2 : List Value} (h1 : w.ownsRow b1 e1 s1 v1 n1 xs1) (h2 : w.ownsRow b2 e2 s2 v2 n2 xs2) (hne : e1 ≠ e2) : v1.ownBlock = none ∨ v1.ownBlock ≠ v2.ownBlock := by
  rcases h1.2 with ⟨rfl, _⟩ | ⟨g, cap, cur, rfl, _, hh, _⟩
  · exact .inl rfl
  · refine .inr fun e => ?_
    rcases h2.2 with ⟨rfl, _⟩ | ⟨g', cap', cur', rfl, _, hh', _⟩
    · simp [Value.ownBlock] at e
    · have : g = g' := by simpa [Value.ownBlock] using e
      subst this
      rw [hh] at hh'
      injection hh' with hh'
      injection hh' with _ ht
      exact hne ht
theorem appendA_l2 {w : World} {lo n c : Nat} {a1 : Option Addr} {l : List Ag} (S : Ag) (ho : w.ownsRow lo 86 6 (.slice a1 n c) n (flatA l)) (hlo : lo ≤ w.heap.size) (hb : n ≤ 2097152) (ty : TypeId) :
    ∃ g c3 w', (Builtin.append_ #[45, 45] ty #[.slice a1 n c, .slice (some ⟨w.heap.size, 0, none⟩) 1 1]).run Try.prog (w.alloc (.cells #[.int .i64 S.win, .int .i64 S.key, .int .i64 S.cnt, .int .i64 S.sum, .int .i64 S.mn, .int .i64 S.mx] 86)) = .ok (.slice (some ⟨g, 0, none⟩) (n + 1) c3) w' ∧
      w'.ownsRow lo 86 6 (.slice (some ⟨g, 0, none⟩) (n + 1) c3) (n + 1) (flatA (l ++ [S])) ∧ Below lo w w' ∧ w.grownBy w' (Value.slice a1 n c).ownBlock ∧ ((Value.slice a1 n c).ownBlock = some g ∨ w.heap.size ≤ g) ∧ g < w'.heap.size := by
  obtain ⟨i0, hi0, hz0, hz1, hz2⟩ := info_parts6 infoAgg
  obtain ⟨g, c3, w', hr, h2, h3, h4, h5⟩ := run_append_lies (P := Try.prog) (w := w.alloc (.cells (aC S).toArray 86)) 45 ty lo 86 i0 (.agg #[.int .i64 0, .int .i64 0, .int .i64 0, .int .i64 0, .int .i64 0, .int .i64 0]) 6 48 Try.underlying45 hi0 hz0 hz1 hz2 rfl (by decide) _ n _ (ho.alloc _) ⟨w.heap.size, 0, none⟩ 1 1 (aC S) rfl (newsA rfl) (aC_ones S) (by decide) (by unfold maxLen; omega) (by omega) (by simp; omega) _ rfl
  refine ⟨g, c3, w', hr, ?_, ((Below.refl lo w).alloc hlo _).trans (below_own (ho.alloc _) h3 (by simp; omega)), grown_trans (World.grownBy_alloc w _ _) h3, h4.imp id (fun e => by simp at e; omega), h5⟩
  rw [flatA_append]
  simpa [flatA, flatR] using h2
/-- Over the events alone. -/
def fsE (s h : Int) (E : List Fm) (k : Nat) : List Ag := (E.take k).flatMap (aggsW s h)
section
variable {s h : Int} {E L : List Fm} {k : Nat}
theorem fsE_step (hk : k < E.length) : fsE s h E (k + 1) = fsE s h E k ++ aggsW s h (qel E k) := by
  unfold fsE
  rw [qel_take hk]
  simp
theorem fsE_len : ∀ k, k ≤ E.length → (fsE s h E k).length ≤ 300 * k
  | 0, _ => Nat.le_refl _
  | k + 1, hk => by
    have := fsE_len k (by omega)
    rw [fsE_step (by omega), List.length_append]
    unfold aggsW
    rw [List.length_map]
    have := slides_le (qel E k).t s h
    omega
theorem ev_at (hE : E = L.filter evQ) (hk : k < E.length) : evQ (qel E k) = true := by
  rw [show qel E k = E[k] from rel_lt qD hk]
  subst hE
  exact (List.mem_filter.1 (List.getElem_mem hk)).2
theorem in_list (hE : E = L.filter evQ) (hk : k < E.length) : ∃ i, i < L.length ∧ qel L i = qel E k := by
  have hm : qel E k ∈ L := by
    rw [show qel E k = E[k] from rel_lt qD hk]
    subst hE
    exact (List.mem_filter.1 (List.getElem_mem hk)).1
  obtain ⟨i, hi, he⟩ := List.getElem_of_mem hm
  exact ⟨i, hi, (rel_lt qD hi).trans he⟩
theorem fsE_bad (hE : E = L.filter evQ) (hk : k < E.length) (a : 300 < slNum (qel E k).t s h) : fsL L s h = [] := by
  obtain ⟨i, hi, he⟩ := in_list hE hk
  exact fsL_no3 hi (by rw [he]; exact ev_at hE hk) (by rw [he]; exact a)
theorem fsE_good (hE : E = L.filter evQ) (h1 : slFine s h = true) (h2 : L.length ≤ 300) (hf : ∀ i, i < E.length → ¬ 300 < slNum (qel E i).t s h) : fsL L s h = foldP [] (fsE s h E E.length) := by
  rw [fsL_yes h1 h2 (fun i hi he hbig => ?_)]
  · unfold fsIn fsE
    rw [List.take_length, List.take_length, hE]
  · have hm : qel L i ∈ E := by
      rw [hE]
      refine List.mem_filter.2 ⟨?_, he⟩
      rw [show qel L i = L[i] from rel_lt qD hi]
      exact List.getElem_mem hi
    obtain ⟨j, hj, e⟩ := List.getElem_of_mem hm
    have e2 : qel E j = qel L i := (rel_lt qD hj).trans e
    exact hf j hj (by rw [e2]; exact hbig)
theorem fsE_ok (hE : E = L.filter evQ) : ∀ k, ∀ x, x ∈ fsE s h E k → SumOk x := fun k x hx => by
  unfold fsE aggsW at hx
  obtain ⟨F, hF, hx⟩ := List.mem_flatMap.1 hx
  obtain ⟨q, _, rfl⟩ := List.mem_map.1 hx
  have := List.mem_of_mem_take hF
  rw [hE] at this
  exact aggW_ok (List.mem_filter.1 this).2 q
theorem aggs_step (F : Fm) (W : List Int) {j : Nat} (hj : j < W.length) : (W.map (aggW F)).take (j + 1) = (W.map (aggW F)).take j ++ [aggW F (el W j)] := by
  rw [List.take_succ_eq_append_getElem (by rw [List.length_map]; exact hj)]
  congr 1
  simp [el, List.getD, hj]
theorem map_hIt (l : List Ag) : l.map hIt = l := by
  unfold hIt
  exact List.map_id' l
end
set_option maxHeartbeats 8000000 in
set_option maxRecDepth 100000 in
theorem implFs_any (a : Option Addr) (n c : Nat) (L : List Fm) (s h : Int) (hi : Nat) (w : World) (hr : Fms w hi a c L) (hn : n = L.length) (hB : hi ≤ w.heap.size) :
    Calls Try.prog 34 #[.slice a n c, .int .i64 s, .int .i64 h] w (FreshR aC 86 6 (fsL L s h) w) := by
  subst hn
  have m1 := hr.cap
  have m2 := hr.big
  have HP : Hid (∀ W, Below w.heap.size w W → FreshR aC 86 6 [] w (.returned (.slice none 0 0)) W) := Lib.hid (fun W h => ⟨none, 0, rfl, World.ownsRow_nil _ _ _ _, h⟩)
  have b1 := (Below.refl w.heap.size w).alloc (Nat.le_refl _) (.cells #[.int .i64 s, .int .i64 h] 77)
  have KB := Lib.hid (Blk.new w 77 #[.int .i64 s, .int .i64 h])
  have HR := Lib.hid (hr.below (b1.mono hB))
  have WB := Lib.hid b1
  have CO := Lib.hid (fun W => slOk_x s h W)
  clear hr b1
  cases hs : slFine s h with
  | false =>
    rw [fsL_no1 hs]
    rw [hs] at CO
    go_enter Try.func34, Try.ntmps34
    go_wp2_with fail
    refine (CO.out _).mono ?_
    rintro e w1 ⟨rfl, hb⟩
    have B1 := Lib.hid (WB.out.trans (hb.mono WB.out.size))
    clear hb
    go_wp2
    exact bodyPost_ret (v := .slice none 0 0) (by simp [results, Try.results34, go_sem]) rfl (HP.out _ B1.out)
  | true =>
    rw [hs] at CO
    by_cases hl : L.length ≤ 300
    · have hd : decide ((300 : Int) < (L.length : Int)) = false := by simp; omega
      have hd2 : ¬ (300 : Int) < (L.length : Int) := by omega
      obtain ⟨E, hE⟩ : ∃ E, E = L.filter evQ := ⟨_, rfl⟩
      have HE := Lib.hid hE
      have HBAD := Lib.hid (fun (k : Nat) hk a => fsE_bad (s := s) (h := h) (k := k) hE hk a)
      have HGOOD := Lib.hid (fun hf => fsE_good (E := E) hE hs hl hf)
      have HEV := Lib.hid (fun (k : Nat) hk => ev_at (k := k) hE hk)
      have HOK := Lib.hid (fsE_ok (s := s) (h := h) hE E.length)
      have hEl : E.length ≤ 300 := by rw [hE]; have := List.length_filter_le evQ L; omega
      have AT := Lib.hid (fun (t : Int) ht W => slAt_x t s h W ht hs)
      generalize fsL L s h = R at HBAD HGOOD ⊢
      have EV := Lib.hid (fun (W : World) (h1 : Fms W hi a c L) h2 => eventsOf_any a L.length c L hi W h1 rfl h2 (by omega))
      rw [evF_evQ, ← hE] at EV
      clear hE hs
      go_enter Try.func34, Try.ntmps34
      go_wp2_with fail
      refine (CO.out _).mono ?_
      rintro e w1 ⟨rfl, hb⟩
      have KB := Lib.hid (KB.out.below hb)
      have HR := Lib.hid (HR.out.below (hb.mono (by simp; omega)))
      have WB := Lib.hid (WB.out.trans (hb.mono WB.out.size))
      clear hb
      go_wp2_with fail
      refine (EV.out _ HR.out (by have := WB.out.size; omega)).mono ?_
      rintro e w2 ⟨a3, c3, rfl, ho, hb⟩
      have KB := Lib.hid (KB.out.below hb)
      have EO := Lib.hid (Fms.of_own ho)
      have WB := Lib.hid (WB.out.trans (hb.mono WB.out.size))
      have ecap := EO.out.cap
      clear ho hb HR CO EV
      have hbl := KB.out.lt
      go_wp2
      clear hd hd2
      go_loopw [8, 30] (fun ls i wr => ∃ (k : Nat) (a2 : Option Addr) (n2 c2 : Nat), k ≤ E.length ∧ i = .int .i64 (k : Int) ∧ ls = .slice a2 n2 c2 ∧ n2 = (fsE s h E k).length ∧ (∀ i, i < k → ¬ 300 < slNum (qel E i).t s h) ∧ wr.ownsRow w2.heap.size 86 6 (.slice a2 n2 c2) n2 (flatA (fsE s h E k)) ∧ Below w2.heap.size w2 wr) (fun _ i _ => E.length - (intOf i).toNat)
      case atStart => exact ⟨0, none, 0, 0, Nat.zero_le _, rfl, rfl, rfl, fun i hi => by omega, World.ownsRow_nil _ _ _ _, Below.refl _ _⟩
      case round =>
        obtain ⟨k, a2, n2, c2, hk, rfl, rfl, hn2, hfew, ho, hbr⟩ := hrel
        have HN2 := Lib.hid hn2
        have RO := Lib.hid ho
        have RB := Lib.hid hbr
        have HF := Lib.hid hfew
        have hsz := hbr.size
        have hwsz := WB.out.size
        clear hn2 ho hbr hfew
        by_cases hlt : k < E.length
        · obtain ⟨b1, off, rfl, hbh, hcell⟩ := Fms.six (EO.out.below RB.out) (by omega)
          have hlt' : (k : Int) < (E.length : Int) := by omega
          have hnn : 0 ≤ (k : Int) := by omega
          obtain ⟨p0, p1, p2, p3⟩ := hcell k hlt
          have EY := Lib.hid (fsE_step (s := s) (h := h) hlt)
          have EM := Lib.hid (fun hh => HBAD.out k hlt hh)
          have EFEW : Hid (¬ 300 < slNum (qel E k).t s h → ∀ i, i < k + 1 → ¬ 300 < slNum (qel E i).t s h) := Lib.hid (fun hh i hi => by
            rcases Nat.lt_or_ge i k with h' | h'
            · exact HF.out i h'
            · obtain rfl : i = k := by omega
              exact hh)
          have hev := HEV.out k hlt
          have hebd := evQ_bd hev
          have hln := fsE_len (s := s) (h := h) (E := E) k hk
          clear hcell hev
          generalize qel E k = X at p0 p1 p2 p3 EY EM EFEW hebd
          obtain ⟨e0, e1, e2, e3⟩ := X
          simp only at p0 p1 p2 p3 hebd
          have AT2 := Lib.hid (AT.out e2 (inB_yes hebd.2.1.1 hebd.2.1.2))
          have KB1 := (KB.out.below RB.out).alloc (.cells #[.int .i64 e0, .int .i64 e1, .int .i64 e2, .int .i64 e3] 66)
          have KS := Lib.hid (Blk.new wr 66 #[.int .i64 e0, .int .i64 e1, .int .i64 e2, .int .i64 e3])
          have RO := Lib.hid (RO.out.alloc (.cells #[.int .i64 e0, .int .i64 e1, .int .i64 e2, .int .i64 e3] 66))
          have RB := Lib.hid (RB.out.alloc hsz (.cells #[.int .i64 e0, .int .i64 e1, .int .i64 e2, .int .i64 e3] 66))
          have g0 := KB1.cell 0
          have g1 := KB1.cell 1
          have q2 := KS.out.cell 2
          simp only [List.getElem?_toArray, List.getElem?_cons_zero, List.getElem?_cons_succ] at g0 g1 q2
          clear KB1
          by_cases hm : 300 < slNum e2 s h
          · have HX := Lib.hid (EM.out hm)
            clear EY EM EFEW HF HN2 RO
            go_wp2_with fail
            refine (AT2.out _).mono ?_
            rintro e w3 ⟨aw, cw, rfl, how, hb⟩
            rw [decide_eq_true hm]
            have WF := Lib.hid (WB.out.trans ((RB.out.trans (hb.mono RB.out.size)).mono hwsz))
            clear hb how p0 p1 p2 p3 g0 g1 q2
            go_wp2
            exact bodyPost_ret (v := .slice none 0 0) (by simp [results, Try.results34, go_sem]) rfl (by rw [HX.out]; exact HP.out _ WF.out)
          · have EF := Lib.hid (EFEW.out hm)
            clear EM EFEW HF HBAD HGOOD HP
            have AG := Lib.hid (fun W => aggOf_x e0 e1 e2 e3 s W)
            generalize windowOf e2 s = WN at AG
            go_wp2_with fail
            refine (AT2.out _).mono ?_
            rintro e w3 ⟨aw, cw, rfl, how, hb⟩
            rw [decide_eq_false (show ¬ 300 < slNum e2 s h by omega)]
            have RO := Lib.hid (owns_below RO.out hb)
            have RB := Lib.hid (RB.out.trans (hb.mono RB.out.size))
            have K3 := KS.out.below hb
            have HOW := Lib.hid (owns_less how (show w2.heap.size ≤ _ by simp; omega))
            have hw300 := slides_le e2 s h
            have EE2 : Hid (fsE s h E (k + 1) = fsE s h E k ++ (slidesL e2 s h).map (aggW ⟨e0, e1, e2, e3⟩)) := EY
            clear hb how p0 p1 p2 p3 g0 g1 q2 EY hm AT2 KS
            have q0 := K3.cell 0
            have q1 := K3.cell 1
            have q2 := K3.cell 2
            have q3 := K3.cell 3
            simp only [List.getElem?_toArray, List.getElem?_cons_zero, List.getElem?_cons_succ] at q0 q1 q2 q3
            generalize slidesL e2 s h = W at *
            have HSTEP := Lib.hid (fun (i : Nat) hi => aggs_step ⟨e0, e1, e2, e3⟩ W (j := i) hi)
            have HEND : Hid (fsE s h E k ++ (W.map (aggW ⟨e0, e1, e2, e3⟩)).take W.length = fsE s h E (k + 1)) := Lib.hid (by
              rw [EE2.out, List.take_of_length_le (by rw [List.length_map]; exact Nat.le_refl _)])
            clear EE2 K3
            obtain ⟨A0, hA0⟩ : ∃ A0, A0 = fsE s h E k := ⟨_, rfl⟩
            rw [← hA0] at HEND RO HN2 hln
            clear hA0
            go_wp2_with fail
            refine (AG.out _).mono ?_
            rintro e w4 ⟨rfl, hb⟩
            have hs3 := RB.out.size
            have RO := Lib.hid (owns_below RO.out hb)
            have RB := Lib.hid (RB.out.trans (hb.mono hs3))
            have HOW := Lib.hid (owns_below HOW.out hb)
            have hs4 := RB.out.size
            clear hb q0 q1 q2 q3 AG
            have KA := Lib.hid (Blk.new w4 86 #[.int .i64 WN, .int .i64 e1, .int .i64 1, .int .i64 e3, .int .i64 e3, .int .i64 e3])
            have NE : Hid ((Value.slice a2 n2 c2).ownBlock ≠ some w4.heap.size) := Lib.hid (fun e9 => by
              have := (RO.out.lt _ e9).2
              omega)
            have RO := Lib.hid (RO.out.alloc (.cells #[.int .i64 WN, .int .i64 e1, .int .i64 1, .int .i64 e3, .int .i64 e3, .int .i64 e3] 86))
            have HOW := Lib.hid (HOW.out.alloc (.cells #[.int .i64 WN, .int .i64 e1, .int .i64 1, .int .i64 e3, .int .i64 e3, .int .i64 e3] 86))
            have RB := Lib.hid (RB.out.alloc hs4 (.cells #[.int .i64 WN, .int .i64 e1, .int .i64 1, .int .i64 e3, .int .i64 e3, .int .i64 e3] 86))
            go_wp2
            go_loopw [8, 48] (fun os is wr => ∃ (i : Nat) (a3 : Option Addr) (n3 c3 : Nat) (x : Int), i ≤ W.length ∧ is = .int .i64 (i : Int) ∧ os = .slice a3 n3 c3 ∧ n3 = (A0 ++ (W.map (aggW ⟨e0, e1, e2, e3⟩)).take i).length ∧ wr.ownsRow w2.heap.size 86 6 (.slice a3 n3 c3) n3 (flatA (A0 ++ (W.map (aggW ⟨e0, e1, e2, e3⟩)).take i)) ∧ (Value.slice a3 n3 c3).ownBlock ≠ some w4.heap.size ∧ wr.ownsRow w2.heap.size 3 1 (.slice aw W.length cw) W.length (W.map (Value.int .i64)) ∧ Blk wr w4.heap.size 86 #[.int .i64 x, .int .i64 e1, .int .i64 1, .int .i64 e3, .int .i64 e3, .int .i64 e3] ∧ Below w2.heap.size w2 wr) (fun _ is _ => W.length - (intOf is).toNat)
            case atStart => exact ⟨0, a2, n2, c2, WN, Nat.zero_le _, rfl, rfl, by simpa using HN2.out, by simpa using RO.out, NE.out, HOW.out, KA.out, RB.out⟩
            case round =>
              obtain ⟨i, a3, n3, c3, x, hi, rfl, rfl, hn3, ho, hne, how, hka, hb⟩ := hrel
              have HN3 := Lib.hid hn3
              have RO := Lib.hid ho
              have NE := Lib.hid hne
              have HOW := Lib.hid how
              have KA := Lib.hid hka
              have RB := Lib.hid hb
              clear hn3 ho hne how hka hb
              by_cases hil : i < W.length
              · have hil' : (i : Int) < (W.length : Int) := by omega
                have hnn2 : 0 ≤ (i : Int) := by omega
                obtain ⟨bw, ow, rfl, hbw, hcw⟩ := (Nums.of_own HOW.out).2.lies.resolve_left (by intro h9; rw [h9] at hil; simp at hil)
                have r0 := hcw i hil
                have HS1 := Lib.hid (HSTEP.out i hil)
                clear hcw
                generalize el W i = y at r0 HS1
                have k0 := KA.out.cell 0
                have k1 := KA.out.cell 1
                have k2 := KA.out.cell 2
                have k3 := KA.out.cell 3
                have k4 := KA.out.cell 4
                have k5 := KA.out.cell 5
                have kf := KA.out.frozen
                simp only [List.getElem?_toArray, List.getElem?_cons_zero, List.getElem?_cons_succ] at k0 k1 k2 k3 k4 k5
                have hszr := RB.out.size
                have gs := grown_setCell wr w4.heap.size 0 (.int .i64 y)
                have KA2 : Hid (Blk (wr.setCell ⟨w4.heap.size, 0, none⟩ (.int .i64 y)) w4.heap.size 86 #[.int .i64 y, .int .i64 e1, .int .i64 1, .int .i64 e3, .int .i64 e3, .int .i64 e3]) := Lib.hid (by simpa using KA.out.put_ 0 (.int .i64 y))
                have RO2 := Lib.hid (RO.out.kept gs (.inr NE.out))
                have HOW2 := Lib.hid (HOW.out.kept gs (.inr (own_blk_ne HOW.out KA.out (by decide)).symm))
                have RB2 := Lib.hid (RB.out.trans (below_grown_own gs (show w2.heap.size ≤ w4.heap.size by omega) hszr))
                clear gs
                obtain ⟨g, c5, w9, hr3, ho3, hb3, hg3, hl3, _⟩ := appendA_l2 (w := wr.setCell ⟨w4.heap.size, 0, none⟩ (.int .i64 y)) ⟨y, e1, 1, e3, e3, e3⟩ RO2.out (show w2.heap.size ≤ (wr.setCell _ _).heap.size by simp only [World.size_setCell]; exact hszr) (by have := HN3.out; simp at this; omega) 45
                simp only [World.size_setCell] at hr3 hl3
                have R3 := Lib.hid hr3
                have HS2 : Hid (A0 ++ (W.map (aggW ⟨e0, e1, e2, e3⟩)).take (i + 1) = (A0 ++ (W.map (aggW ⟨e0, e1, e2, e3⟩)).take i) ++ [⟨y, e1, 1, e3, e3, e3⟩]) := Lib.hid (by rw [HS1.out, List.append_assoc]; rfl)
                have RO3 := Lib.hid (show w9.ownsRow _ _ _ _ _ (flatA (A0 ++ (W.map (aggW ⟨e0, e1, e2, e3⟩)).take (i + 1))) by rw [HS2.out]; exact ho3)
                have HN4 : Hid (n3 + 1 = (A0 ++ (W.map (aggW ⟨e0, e1, e2, e3⟩)).take (i + 1)).length) := Lib.hid (by rw [HS2.out, List.length_append, ← HN3.out]; rfl)
                have RB3 := Lib.hid (RB2.out.trans hb3)
                have HOW3 := Lib.hid (HOW2.out.kept hg3 (own_own_ne' HOW2.out RO2.out (by decide)))
                have KA3 := Lib.hid (KA2.out.grown hg3 NE.out.symm)
                have NE3 : Hid ((Value.slice (some ⟨g, 0, none⟩) (n3 + 1) c5).ownBlock ≠ some w4.heap.size) := Lib.hid (fun e9 => by
                  have e8 : g = w4.heap.size := by simpa [Value.ownBlock] using e9
                  subst e8
                  rcases hl3 with h9 | h9
                  · exact NE.out h9
                  · have := KA.out.lt
                    omega)
                clear hr3 ho3 hb3 hg3 hl3 HS1
                go_wp2_with (at_builtin; refine Lib.wpList_append_run _ rfl _ _ _ _ rfl _ _ rfl rfl _ _ R3.out ?_)
                go_roundw
                case rel => exact ⟨i + 1, some ⟨g, 0, none⟩, n3 + 1, c5, y, by omega, by go_num, rfl, HN4.out, RO3.out, NE3.out, HOW3.out, KA3.out, RB3.out⟩
                case measure => simp [intOf]; omega
              · obtain rfl : i = W.length := by omega
                have e9 := HEND.out
                have HN6 : Hid (n3 = (fsE s h E (k + 1)).length) := Lib.hid (by rw [← e9]; exact HN3.out)
                have RO6 : Hid (wr.ownsRow w2.heap.size 86 6 (.slice a3 n3 c3) n3 (flatA (fsE s h E (k + 1)))) := Lib.hid (by rw [← e9]; exact RO.out)
                clear e9 HEND HSTEP RO HN3 HOW KA NE
                go_wp2
                go_roundw
                case rel => exact ⟨k + 1, a3, n3, c3, by omega, by go_num, rfl, HN6.out, fun i hi => by have := EF.out i hi; omega, RO6.out, RB.out⟩
                case measure => simp [intOf]; omega
        · have hlt' : ¬ (k : Int) < (E.length : Int) := by omega
          obtain rfl : k = E.length := by omega
          have HG := Lib.hid (HGOOD.out (fun i hi => by have := HF.out i hi; omega))
          have hln := fsE_len (s := s) (h := h) (E := E) E.length (Nat.le_refl _)
          have AL := Lib.hid (Ags.of_own RO.out)
          generalize fsE s h E E.length = FE at *
          have FC := foldIt_any a2 n2 c2 FE wr.heap.size wr AL.out HN2.out (Nat.le_refl _) (by omega) HOK.out
          rw [map_hIt] at FC
          have FC := Lib.hid FC
          have WF := Lib.hid (WB.out.trans (RB.out.mono hwsz))
          clear HBAD HGOOD HF HEV AT
          go_wp2_with fail
          refine FC.out.mono ?_
          rintro e w5 ⟨a4, c4, rfl, ho, hb⟩
          have FIN : Hid (FreshR aC 86 6 R w (.returned (.slice a4 (foldP [] FE).length c4)) w5) := Lib.hid (by
            rw [HG.out]
            exact ⟨a4, c4, rfl, owns_less ho WF.out.size, WF.out.trans (hb.mono WF.out.size)⟩)
          clear ho hb
          generalize (foldP [] FE).length = n4 at FIN ⊢
          go_wp2
          go_ret
          exact FIN.out
    · rw [fsL_no2 hl]
      have hd : decide ((300 : Int) < (L.length : Int)) = true := by simp; omega
      have hd2 : (300 : Int) < (L.length : Int) := by omega
      clear hs
      go_enter Try.func34, Try.ntmps34
      go_wp2_with fail
      refine (CO.out _).mono ?_
      rintro e w1 ⟨rfl, hb⟩
      have B1 := Lib.hid (WB.out.trans (hb.mono WB.out.size))
      clear hb
      go_wp2
      exact bodyPost_ret (v := .slice none 0 0) (by simp [results, Try.results34, go_sem]) rfl (HP.out _ B1.out)
end Go.Proofs.Ytchbmnpajnlijaa
