/- impl.AllMarks. -/
import Derived.Test.YtcjmigjkjepkdaaMarks
namespace Go.Proofs.Ytcjmigjkjepkdaa
open Go.RowKit Go.Maps

theorem ltR_le : ∀ x y, x ≤ 1000001 → y ≤ 1000001 → ltR x y = false → y ≤ x := fun x y hx hy h => by
  simp only [ltR, decide_eq_false_iff_not] at h
  omega
theorem marks_lag (b n : Nat) (D : DataW Unit) (f : Lit → Option Src) (w : World) (hown : w.ownsMap Try.prog 3 srcR b n D) (hE : HasE D f) (h300 : n ≤ 300) (hf : ∀ k S, f k = some S → -1 ≤ S.m ∧ S.m ≤ 1000000) :
    Calls Try.prog 34 #[.map (some b)] w fun e w' => ∃ (g : Option Addr) (c : Nat) (ms : List Int), e = .returned (.slice g ms.length c) ∧ w'.ownsRow w.heap.size 3 1 (.slice g ms.length c) ms.length (ms.map (Value.int .i64)) ∧ Below w.heap.size w w' ∧ MarksOf f ms :=
  marks_any less_ok ltR_swo ltR_le (Lib.hid lag_x) (Lib.hid fun r W hr => markOf_any r W hr) b n D f w hown hE h300 hf
theorem lsM_le {l : List Src} {k i : Nat} (hi : i < k) (ha : actB (sl l i) = true) : lsM l k ≤ (sl l i).m := by
  induction k with
  | zero => omega
  | succ k ih =>
    rw [lsM]
    by_cases e : i = k
    · subst e
      split
      · exact Int.le_refl _
      · rename_i h
        have : ¬ (sl l i).m < lsM l i := fun h2 => h ⟨ha, h2⟩
        omega
    · have h1 := ih (by omega)
      split
      · rename_i h; have := h.2; omega
      · exact h1
theorem lsM_at (l : List Src) (k : Nat) : lsM l k = 1000001 ∨ ∃ i, i < k ∧ actB (sl l i) = true ∧ lsM l k = (sl l i).m := by
  induction k with
  | zero => exact .inl rfl
  | succ k ih =>
    rw [lsM]
    split
    · rename_i h; exact .inr ⟨k, by omega, h.1, rfl⟩
    · rcases ih with h | ⟨i, hi, ha, h⟩
      · exact .inl h
      · exact .inr ⟨i, by omega, ha, h⟩
/-- Those of l that are active, by their places. -/
def liveF (l : List Src) (z : Lit) : Option Src := (placeF l l.length z).filter actB
theorem liveF_inv {l : List Src} {z : Lit} {S : Src} (h : liveF l z = some S) : ∃ i : Nat, i < l.length ∧ S = sl l i ∧ actB S = true := by
  obtain ⟨h1, h2⟩ := Option.filter_eq_some_iff.1 h
  obtain ⟨i, hi, _, hS⟩ := placeF_inv h1
  exact ⟨i, hi, hS, h2⟩
theorem liveF_mk {l : List Src} {i : Nat} (hi : i < l.length) (ha : actB (sl l i) = true) : liveF l (.int .i64 i) = some (sl l i) := by
  have h : placeF l l.length (.int .i64 i) = some (sl l i) := by simp [placeF, hi]
  unfold liveF
  rw [h]
  simp [Option.filter, ha]
theorem marks_none {l : List Src} {last : Int} (hm : isMk last = true) (h300 : l.length ≤ 300) (hok : okTo l l.length) (h : ∀ k, liveF l k = none) : allM l last = last := by
  refine allM_last hm h300 hok (.inl ?_)
  rcases lsM_at l l.length with e | ⟨i, hi, ha, _⟩
  · omega
  · have := h (.int .i64 i); rw [liveF_mk hi ha] at this; cases this
theorem marks_some {l : List Src} {last m : Int} (hm : isMk last = true) (h300 : l.length ≤ 300) (hok : okTo l l.length) (h1 : ∃ k S, liveF l k = some S ∧ S.m = m) (h2 : ∀ k S, liveF l k = some S → m ≤ S.m) : allM l last = max last m := by
  obtain ⟨k, S, hk, hS⟩ := h1
  obtain ⟨i, hi, e, ha⟩ := liveF_inv hk
  subst e
  have hb := sOk_bd (hok i hi)
  have hle := lsM_le hi ha
  have hls : lsM l l.length = m := by
    rcases lsM_at l l.length with e | ⟨j, hj, haj, e⟩
    · omega
    · have := h2 _ _ (liveF_mk hj haj); omega
  by_cases hl : lsM l l.length < last
  · rw [allM_last hm h300 hok (.inr hl)]; omega
  · rw [allM_least hm h300 hok (by omega) hl]; omega
set_option maxHeartbeats 4000000 in
set_option maxRecDepth 100000 in
theorem implAllM_any (a : Option Addr) (n c : Nat) (l : List Src) (last : Int) (hi : Nat) (w : World) (hr : Srcs w hi a c l) (hn : n = l.length) (hB : hi ≤ w.heap.size) :
    Calls Try.prog 12 #[.slice a n c, .int .i64 last] w fun e w' => e = .returned (.int .i64 (allM l last)) ∧ Below w.heap.size w w' := by
  subst hn
  have hc1 := hr.cap
  have hc2 := hr.big
  have HR := Lib.hid hr
  have HM := Lib.hid (isMark_any last)
  clear hr
  cases hm : isMk last with
  | false =>
    rw [allM_no1 hm]
    rw [hm] at HM
    clear hm
    go_enter Try.func12, Try.ntmps12
    go_wp2_with fail
    refine (HM.out _).mono ?_
    rintro e w' ⟨rfl, rfl⟩
    go_wp2
    exact bodyPost_ret (v := .int .i64 (-2)) (by simp [results, Try.results12, go_sem]) rfl ⟨rfl, Below.refl _ _⟩
  | true =>
    rw [hm] at HM
    by_cases h300 : l.length ≤ 300
    · have hlt300 : ¬ (300 < (l.length : Int)) := by omega
      have HMK := Lib.hid hm
      clear hm
      go_enter Try.func12, Try.ntmps12
      go_wp2_with fail
      refine (HM.out _).mono ?_
      rintro e w' ⟨rfl, rfl⟩
      go_wp2
      go_loopw [19] (fun i wr => ∃ k : Nat, k ≤ l.length ∧ i = .int .i64 k ∧ okTo l k ∧ Below w.heap.size w wr) (fun i _ => l.length - (intOf i).toNat)
      case atStart => exact ⟨0, Nat.zero_le _, rfl, fun i hi => absurd hi (by omega), Below.refl _ _⟩
      case round =>
        obtain ⟨k, hk, rfl, hok, hb⟩ := hrel
        have hsz := hb.size
        have HB := Lib.hid hb
        have HK := Lib.hid hok
        by_cases hlt : k < l.length
        · have hlt' : (k : Int) < (l.length : Int) := by omega
          obtain ⟨b, off, rfl, hbh, hcell⟩ := (HR.out.below (hb.mono hB)).lies.resolve_left (by intro h; subst h; simp at hlt)
          obtain ⟨q0, q1, q2, q3, q4⟩ := hcell k hlt
          have HSO := Lib.hid (implSrcOk_any (sl l k))
          have HN3 := Lib.hid (fun h => allM_no3 (last := last) hlt h)
          have HST := Lib.hid (fun h => okTo_step (l := l) (k := k) hok h)
          clear hcell hb hok
          obtain ⟨S, hS⟩ : ∃ S, S = sl l k := ⟨_, rfl⟩
          rw [← hS] at q0 q1 q2 q3 q4 HSO HN3 HST
          clear hS
          obtain ⟨x, m, s, i, o⟩ := S
          simp only at q0 q1 q2 q3 q4
          have B2 := Lib.hid (HB.out.alloc hsz (.cells #[.int .i64 x, .int .i64 m, .int .i64 s, .bool i, .bool o] 28))
          cases hs : sOk ⟨x, m, s, i, o⟩ with
          | false =>
            have HE := Lib.hid (HN3.out hs)
            rw [hs] at HSO
            clear hs
            go_wp2_with fail
            refine (HSO.out _).mono ?_
            rintro e w1 ⟨rfl, hb⟩
            have HB1 := Lib.hid (B2.out.trans (hb.mono (by simp; omega)))
            clear hb
            go_wp2
            exact bodyPost_ret (v := .int .i64 (-2)) (by simp [results, Try.results12, go_sem]) rfl ⟨by rw [HE.out], HB1.out⟩
          | true =>
            have HST2 := Lib.hid (HST.out hs)
            rw [hs] at HSO
            clear hs
            go_wp2_with fail
            refine (HSO.out _).mono ?_
            rintro e w1 ⟨rfl, hb⟩
            have HB1 := Lib.hid (B2.out.trans (hb.mono (by simp; omega)))
            clear hb q0 q1 q2 q3 q4
            go_wp2
            go_roundw
            case rel => exact ⟨k + 1, by omega, by go_num, HST2.out, HB1.out⟩
            case measure => simp [intOf] <;> omega
        · have hlt' : ¬ ((k : Int) < (l.length : Int)) := by omega
          have hkl : k = l.length := by omega
          rw [hkl] at HK
          clear hb hok
          have HCO := Lib.hid (crowdOf_any a l.length c l hi wr (HR.out.below (HB.out.mono hB)) rfl h300 (by omega))
          have hbd : ∀ z S, liveF l z = some S → -1 ≤ S.m ∧ S.m ≤ 1000000 := fun z S h => by
            obtain ⟨i, hi, e, _⟩ := liveF_inv h
            subst e
            have := sOk_bd (HK.out i hi)
            omega
          have HBD := Lib.hid hbd
          clear hbd
          go_wp2_with fail
          refine HCO.out.mono ?_
          rintro e w2 ⟨rfl, hb2, D, hown, hE⟩
          have HB2 := Lib.hid (HB.out.trans (hb2.mono hsz))
          have HDI := Lib.hid (dismiss_any wr.heap.size l.length D (placeF l l.length) w2 hown hE)
          have hs2 := hb2.size
          clear hb2 hown hE
          go_wp2_with fail
          refine HDI.out.mono ?_
          rintro e w3 ⟨rfl, hg3, D3, hown3, hE3⟩
          have HB3 := Lib.hid (HB2.out.grown hg3 (by omega) (fun j hj => by cases hj; exact hsz))
          have HMA := Lib.hid (marks_lag wr.heap.size l.length D3 (liveF l) w3 hown3 hE3 h300 HBD.out)
          have hs3 := hg3.size
          clear hg3 hown3 hE3
          go_wp2_with fail
          refine HMA.out.mono ?_
          rintro e w4 ⟨g, c4, ms, rfl, hrow, hb4, hmo⟩
          have HB4 := Lib.hid (HB3.out.trans (hb4.mono (by omega)))
          clear hb4
          rcases hmo with ⟨hms, hno⟩ | ⟨m, rest, hms, h1, h2⟩
          · subst hms
            have HE := Lib.hid (marks_none HMK.out h300 HK.out hno)
            clear hno hrow
            go_wp2
            exact bodyPost_ret (v := .int .i64 last) (by simp [results, Try.results12, go_sem]) rfl ⟨by rw [HE.out], HB4.out⟩
          · have HE := Lib.hid (marks_some HMK.out h300 HK.out h1 h2)
            subst hms
            obtain ⟨g', cap', hg'⟩ := ownsRow_succ (k := rest.length) hrow
            injection hg' with e1 e2 e3
            subst e1 e3
            have q0 := hrow.cellAt 0 (by simp)
            simp only [List.map_cons, List.getElem?_cons_zero] at q0
            have hl0 : (0 : Int) < ((m :: rest).length : Int) := by simp
            have hl1 : ¬ (((m :: rest).length : Int) = 0) := by omega
            generalize (m :: rest).length = ml at hl0 hl1 ⊢
            clear hrow h1 h2 e2
            go_wp2
            exact bodyPost_ret (v := .int .i64 (max last m)) (by simp [results, Try.results12, go_sem]) rfl ⟨by rw [HE.out], HB4.out⟩
    · rw [allM_no2 h300]
      have hlt300 : (300 : Int) < (l.length : Int) := by omega
      clear h300 hm
      go_enter Try.func12, Try.ntmps12
      go_wp2_with fail
      refine (HM.out _).mono ?_
      rintro e w' ⟨rfl, rfl⟩
      go_wp2
      exact bodyPost_ret (v := .int .i64 (-2)) (by simp [results, Try.results12, go_sem]) rfl ⟨rfl, Below.refl _ _⟩
end Go.Proofs.Ytcjmigjkjepkdaa
