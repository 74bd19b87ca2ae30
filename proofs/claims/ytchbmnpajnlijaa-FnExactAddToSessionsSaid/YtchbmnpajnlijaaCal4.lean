/- Chapter 11, impl's side: calendar.add. (made by tools/mkcal4.py) -/
import Derived.Test.YtchbmnpajnlijaaCalM2
namespace Go.Proofs.Ytchbmnpajnlijaa
open Go.RowKit Go.Maps
/-- What adding leaves. -/
def CalPost (lo mb : Nat) (es : List Ent) (s : Ss) (gap : Int) (w : World) (e : Ending) (w' : World) : Prop :=
  e = .returned (.tuple #[]) ∧ ∃ es' A M Q, Cal lo mb es' w' ∧ es'.length ≤ es.length + 1 ∧ Ins gap s (flatE es) (flatE es') A M Q ∧ LowM lo mb w w'
theorem stays_of {lo mb : Nat} {E1 E2 : List Ent} {E : Ent} {gap : Int} {e0 e1 e2 e3 e4 : Int} {A M Q : List Ss} {l' : List Ss} (W : World) (h : Cal lo mb (E1 ++ E :: E2) W) (he : sesOk ⟨e0, e1, e2, e3, e4⟩ = true) (ho : okL (flatE (E1 ++ E :: E2))) (hg : 0 ≤ gap ∧ gap ≤ 1000000) (hI : Ins gap ⟨e0, e1, e2, e3, e4⟩ E.ch l' A M Q) :
    Calls Try.prog 121 #[.pointer (some ⟨E.sb, 0, none⟩), (.agg #[.int .i64 e0, .int .i64 e1, .int .i64 e2, .int .i64 e3, .int .i64 e4]), .int .i64 gap] W fun en w' => en = .returned (.tuple #[]) ∧ ∃ wb, W.heap.size ≤ wb ∧ Blk w' E.sb 132 #[headV (.pointer none) (E.bs.take A.length ++ wb :: E.bs.drop (A.length + M.length))] ∧ Seg 136 w' (.pointer none) (E.bs.take A.length ++ wb :: E.bs.drop (A.length + M.length)) (A ++ M.foldl mrg ⟨e0, e1, e2, e3, e4⟩ :: Q) ∧ Only (E.sb :: E.bs) W w' := by
  obtain ⟨h1, h2, _⟩ := h.ent E (by simp)
  have hch : okL E.ch := fun x hx => ho x (by rw [flatE_mid]; simp [hx])
  have eq : E.ch = A ++ (M ++ Q) := by rw [hI.eq, List.append_assoc]
  rw [eq] at h2 hch
  refine staysAdd_x E.sb E.bs A M Q e0 e1 e2 e3 e4 gap W h2 h1 h.nodup_bs he hch hg hI.pre (fun m hm => ?_) hI.mid2 hI.post
  rcases List.mem_append.1 hm with hm | hm
  · exact hI.mid1 m hm
  · exact ah_asym hg.1 he (hch m (by simp [hm])) (hI.post m hm)
set_option maxHeartbeats 4000000 in
set_option maxRecDepth 100000 in
theorem calAdd_x (lo mb : Nat) (es : List Ent) (e0 e1 e2 e3 e4 gap : Int) (w : World) (hc : Cal lo mb es w) (ho : okL (flatE es)) (hs : Sep gap (flatE es)) (he : sesOk ⟨e0, e1, e2, e3, e4⟩ = true) (hg : 0 ≤ gap ∧ gap ≤ 1000000) (hlo : lo ≤ w.heap.size) (hlen : es.length ≤ 1048576) :
    Calls Try.prog 91 #[.map (some mb), (.agg #[.int .i64 e0, .int .i64 e1, .int .i64 e2, .int .i64 e3, .int .i64 e4]), .int .i64 gap] w (CalPost lo mb es ⟨e0, e1, e2, e3, e4⟩ gap w) := by
  have hk0 := (sesOk_bd he).1
  simp only at hk0
  have b0 := (Below.refl w.heap.size w).alloc (Nat.le_refl _) (.cells #[.int .i64 e0, .int .i64 e1, .int .i64 e2, .int .i64 e3, .int .i64 e4] 33)
  have KB := Lib.hid (Blk.new w 33 #[.int .i64 e0, .int .i64 e1, .int .i64 e2, .int .i64 e3, .int .i64 e4])
  have C0 := hc.below b0
  have HB0 := Lib.hid (b0.mono hlo)
  have hmb := hc.lt mb (by simp)
  rcases ent_split hc.asc e0 with ⟨E1, E, E2, rfl, hek⟩ | ⟨E1, E2, rfl, h1, h2⟩
  · obtain ⟨D, hD, hC⟩ := C0.map
    have hl := cal_look_yes hD hC (e := E) (by simp) (by rw [hek]; exact hk0)
    rw [hek] at hl
    obtain ⟨o1, o2⟩ := ch_ok ho hs
    obtain ⟨l', A, M, Q, hI⟩ := ins_some hg.1 he o1 o2
    have SA := Lib.hid (stays_of _ C0 he ho hg hI)
    have ST := Lib.hid (fun (w' : World) (wb : Nat) h5 h6 h7 h8 => cal_step (W' := w') (wb := wb) C0 hek he ho hI h5 (by simp; omega) h8 h6 h7)
    have HLW := Lib.hid C0.low
    clear hD hC hc ho hs he hI o1 o2 C0 b0
    go_enter Try.func91, Try.ntmps91
    go_wp2_with fail
    refine SA.out.mono ?_
    rintro e w2 ⟨rfl, wb, k1, k2, k3, k4⟩
    have FIN : Hid (CalPost lo mb (E1 ++ E :: E2) ⟨e0, e1, e2, e3, e4⟩ gap w (.returned (.tuple #[])) w2) := Lib.hid (by
      obtain ⟨es', q1, q2, q3⟩ := ST.out w2 wb k1 k2 k3 k4
      exact ⟨rfl, es', _, _, _, q1, by omega, q3, LowM.of_below (HB0.out.trans (k4.below (by simp; omega) (fun b hb => HLW.out b (List.mem_flatMap.2 ⟨E, by simp, hb⟩))))⟩)
    clear k1 k2 k3 k4
    go_wp2
    go_end0
    exact FIN.out
  · have hlt := hc.lt
    obtain ⟨D, hD, hC⟩ := C0.map
    have hl := cal_look_no hD hC (k := e0) (fun e hm => by
      rcases List.mem_append.1 hm with hm | hm
      · have := h1 e hm; omega
      · have := h2 e hm; omega) hk0
    have hbn := Blk.new (w.alloc (.cells #[.int .i64 e0, .int .i64 e1, .int .i64 e2, .int .i64 e3, .int .i64 e4] 33)) 132 #[.pointer none]
    have b1 := (Below.refl (w.alloc (.cells #[.int .i64 e0, .int .i64 e1, .int .i64 e2, .int .i64 e3, .int .i64 e4] 33)).heap.size (w.alloc (.cells #[.int .i64 e0, .int .i64 e1, .int .i64 e2, .int .i64 e3, .int .i64 e4] 33))).alloc (Nat.le_refl _) (.cells #[.pointer none] 132)
    have C1 := C0.below b1
    rw [World.size_alloc] at hbn
    obtain ⟨W2, hr, C2, hgr⟩ := C1.more hk0 h1 h2 (by unfold maxLen; omega) hbn (fun hm => by have := hlt _ hm; omega) (by omega)
    obtain ⟨D2, hD2, hC2⟩ := C2.map
    have hl2 := cal_look_yes hD2 hC2 (e := ⟨e0, w.heap.size + 1, [], []⟩) (by simp) hk0
    have ef : flatE (E1 ++ (⟨e0, w.heap.size + 1, [], []⟩ : Ent) :: E2) = flatE (E1 ++ E2) := by unfold flatE; simp
    have ho2 : okL (flatE (E1 ++ (⟨e0, w.heap.size + 1, [], []⟩ : Ent) :: E2)) := by rw [ef]; exact ho
    obtain ⟨l', A, M, Q, hI⟩ := ins_some (e := ⟨e0, e1, e2, e3, e4⟩) hg.1 he (l := []) (fun x hx => (by cases hx)) List.Pairwise.nil
    have SA := Lib.hid (stays_of W2 C2 he ho2 hg hI)
    have hsz2 : w.heap.size + 2 ≤ W2.heap.size := by have := hgr.size; simp at this; omega
    have ST := Lib.hid (fun (w' : World) (wb : Nat) h5 h6 h7 h8 => cal_step (W' := w') (wb := wb) C2 rfl he ho2 hI h5 (by omega) h8 h6 h7)
    rw [ef] at ST
    have HLW := Lib.hid C2.low
    have HB2 := Lib.hid ((LowM.of_below (mb := mb) (HB0.out.alloc (by simp; omega) (.cells #[.pointer none] 132))).trans (LowM.of_grown hgr (by simp; omega)))
    have hne : w.heap.size ≠ mb := by omega
    have K2 := Lib.hid ((KB.out.alloc (.cells #[.pointer none] 132)).grown hgr (fun e => by injection e with e; exact hne e))
    have k0 := K2.out.cell 0
    have k1 := K2.out.cell 1
    have k2 := K2.out.cell 2
    have k3 := K2.out.cell 3
    have k4 := K2.out.cell 4
    simp only [List.getElem?_toArray, List.getElem?_cons_zero, List.getElem?_cons_succ] at k0 k1 k2 k3 k4
    clear hD hC hc ho hs he hI h1 h2 C0 b0 C1 C2 hD2 hC2 hbn b1 hgr ho2 ef hlt K2 KB
    go_enter Try.func91, Try.ntmps91
    go_wp2_with fail
    refine SA.out.mono ?_
    rintro e w3 ⟨rfl, wb, k1', k2', k3', k4'⟩
    have FIN : Hid (CalPost lo mb (E1 ++ E2) ⟨e0, e1, e2, e3, e4⟩ gap w (.returned (.tuple #[])) w3) := Lib.hid (by
      obtain ⟨es', q1, q2, q3⟩ := ST.out w3 wb k1' k2' k3' k4'
      exact ⟨rfl, es', _, _, _, q1, by simp at q2 ⊢; omega, q3, HB2.out.trans (LowM.of_below (k4'.below (by omega) (fun b hb => HLW.out b (List.mem_flatMap.2 ⟨⟨e0, w.heap.size + 1, [], []⟩, by simp, hb⟩))))⟩)
    clear k1' k2' k3' k4'
    go_wp2
    go_end0
    exact FIN.out
end Go.Proofs.Ytchbmnpajnlijaa
