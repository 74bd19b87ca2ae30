/- Contract of spec.l02Begins. -/
import Derived.Test.YtnfhlfbkdhpacaaGreatDoorSpecBody
import Derived.Test.YtnfhlfbkdhpacaaGreatDoorSpecPut
import Derived.Test.YtnfhlfbkdhpacaaGreatDoorJoint1
namespace Go.Proofs.YtnfhlfbkdhpacaaGreatDoor
open Go.RowKit

def BegPost (xs : List Int) (w : World) (e : Ending) (w' : World) : Prop := e = .returned (.bool (begS xs)) ∧ Below w.heap.size w w'
def sliceLen : Value → Nat
  | .slice _ n _ => n
  | _ => 0
theorem beg_ret {xs : List Int} {w w' : World} {b : Bool} (hb : begS xs = b) (h : Below w.heap.size w w') : BegPost xs w (.returned (.bool b)) w' := ⟨by rw [hb], h⟩
theorem begS_body {xs : List Int} {n : Nat} (h2 : 2 ≤ xs.length) (h0 : el xs 0 = n) (hn : n = 9 ∨ n = 4 ∨ n = 1) (hk : sizeK (el xs 1) = n) :
    (frOkS (padB n xs) = false → begS xs = false) ∧ (frOkS (padB n xs) = true → xs.length ≤ n → begS xs = true) ∧
    (frOkS (padB n xs) = true → ¬ xs.length ≤ n → begS xs = agree xs (putL (el (padB n xs) 0) (sY (padB n xs)) (sT (padB n xs)) (sV (padB n xs)))) := by
  have hT : (el xs 0).toNat = n := by omega
  unfold begS
  rw [if_neg (show ¬ xs.length = 0 by omega), if_neg (show ¬ ¬ (el xs 0 = 9 ∨ el xs 0 = 4 ∨ el xs 0 = 1) by omega), if_neg (show ¬ xs.length = 1 by omega), if_neg (show ¬ sizeK (el xs 1) ≠ el xs 0 by omega), hT]
  refine ⟨fun h => by rw [if_pos h], fun h hl => by rw [if_neg (by rw [h]; simp), if_pos (by omega)], fun h hl => by rw [if_neg (by rw [h]; simp), if_neg (by omega)]⟩

set_option maxRecDepth 100000 in
theorem beg_zero (a : Option Addr) (c : Nat) (xs : List Int) (w : World) (hl : xs.length = 0) :
    Calls Tryz.prog 154 #[.slice a 0 c] w (BegPost xs w) := by
  have HP := Lib.hid (beg_ret (w := w) (show begS xs = true by unfold begS; rw [if_pos hl]) (Below.refl _ w))
  go_enter Tryz.func154, Tryz.ntmps154
  go_wp2
  go_ret
  exact HP.out
set_option maxRecDepth 100000 in
set_option maxHeartbeats 1000000 in
theorem beg_kind (b off c : Nat) (xs : List Int) (w : World) (hl : 1 ≤ xs.length) (hc : w.cell? ⟨b, off, none⟩ = some (.int .u8 (el xs 0))) (hx : 0 ≤ el xs 0 ∧ el xs 0 ≤ 255) (h9 : (el xs 0 == 9) = false) (h4 : (el xs 0 == 4) = false) (h1 : (el xs 0 == 1) = false) :
    Calls Tryz.prog 154 #[.slice (some ⟨b, off, none⟩) xs.length c] w (BegPost xs w) := by
  have HP := Lib.hid (beg_ret (w := w) (show begS xs = false by
    unfold begS
    simp at h9 h4 h1
    rw [if_neg (by omega), if_pos (by omega)]) (Below.refl _ w))
  generalize el xs 0 = K at *
  go_enter Tryz.func154, Tryz.ntmps154
  go_wp2
  all_goals first | (go_ret; exact HP.out) | (exfalso; simp_all)
set_option maxRecDepth 100000 in
set_option maxHeartbeats 1000000 in
theorem beg_one_9 (b off c : Nat) (xs : List Int) (w : World) (hl : xs.length = 1) (hc : w.cell? ⟨b, off, none⟩ = some (.int .u8 (el xs 0))) (h0 : el xs 0 = 9) :
    Calls Tryz.prog 154 #[.slice (some ⟨b, off, none⟩) 1 c] w (BegPost xs w) := by
  have HP := Lib.hid (beg_ret (w := w) (show begS xs = true by
    unfold begS
    rw [if_neg (by omega), if_neg (by omega), if_pos hl]) (Below.refl _ w))
  rw [h0] at hc
  go_enter Tryz.func154, Tryz.ntmps154
  go_wp2
  go_ret
  exact HP.out
set_option maxRecDepth 100000 in
set_option maxHeartbeats 1000000 in
theorem beg_size_9 (b off c : Nat) (xs : List Int) (w : World) (hl : 2 ≤ xs.length) (hc : w.cell? ⟨b, off, none⟩ = some (.int .u8 (el xs 0))) (hc1 : w.cell? ⟨b, off + 1, none⟩ = some (.int .u8 (el xs 1))) (hx : 0 ≤ el xs 1 ∧ el xs 1 ≤ 255) (h0 : el xs 0 = 9) (hk : (sizeK (el xs 1) == 9) = false) :
    Calls Tryz.prog 154 #[.slice (some ⟨b, off, none⟩) xs.length c] w (BegPost xs w) := by
  have HP := Lib.hid (beg_ret (w := w) (show begS xs = false by
    unfold begS
    simp at hk
    rw [if_neg (by omega), if_neg (by omega), if_neg (by omega), if_pos (by omega)]) (Below.refl _ w))
  rw [h0] at hc
  generalize el xs 1 = K at *
  generalize hsk : sizeK K = S at *
  go_enter Tryz.func154, Tryz.ntmps154
  go_wp2_with (go_at_call 196; refine (size_any _ _).mono ?_; rintro e w' ⟨rfl, rfl⟩; rw [hsk])
  go_ret
  exact HP.out
set_option maxRecDepth 100000 in
set_option maxHeartbeats 4000000 in
theorem beg_body_9 (hi b off c : Nat) (xs : List Int) (w : World) (hN : Nums .u8 w hi (some ⟨b, off, none⟩) c xs) (hx : IsB xs) (hl : 2 ≤ xs.length) (hbh : b < w.heap.size) (hcell : ∀ i, i < xs.length → w.cell? ⟨b, off + i, none⟩ = some (.int .u8 (el xs i))) (h0 : el xs 0 = 9) (hk : sizeK (el xs 1) = 9) :
    Calls Tryz.prog 154 #[.slice (some ⟨b, off, none⟩) xs.length c] w (BegPost xs w) := by
  obtain ⟨i0, hi0, hz0, hz1, hz2⟩ := info_parts infoU8
  have hcap := hN.cap
  have hbig := hN.big
  have HB3 := Lib.hid (begS_body (n := 9) hl (by omega) (by omega) hk)
  have hc0 := hcell 0 (by omega)
  have hc1 := hcell 1 (by omega)
  rw [Nat.add_zero, h0] at hc0
  have hb1 := el_bd hx 1
  have HCELL := Lib.hid hcell
  have HX := Lib.hid hx
  have HK := Lib.hid hk
  have HKK : Hid (sizeK (el xs 1) = 9) := HK
  have HPL := Lib.hid (padB_len 9 xs)
  have HPB : Hid (IsB (padB 9 xs)) := Lib.hid (fun x hx2 => by
    unfold padB at hx2
    rcases List.mem_append.1 hx2 with h | h
    · exact (hx.drop 1).take 9 x h
    · have := List.eq_of_mem_replicate h; omega)
  obtain ⟨m, hm9, hml, hmo⟩ : ∃ m : Nat, m ≤ 9 ∧ m + 1 ≤ xs.length ∧ (m = 9 ∨ m + 1 = xs.length) := ⟨min (xs.length - 1) 9, by omega, by omega, by omega⟩
  clear hcell hx hk hN
  go_enter Tryz.func154, Tryz.ntmps154
  go_wp2_with (first
    | (go_at_call 196; refine (size_any _ _).mono ?_; rintro e w' ⟨rfl, rfl⟩; rw [HKK.out])
    | fail)
  go_loopw [4, 5] (fun v i wr => ∃ (k : Nat) (a' : Option Addr) (c' : Nat), k ≤ m ∧ i = .int .i64 ((k : Int) + 1) ∧ v = .slice a' k c' ∧ wr.ownsRow w.heap.size 5 1 (.slice a' k c') k (((padB 9 xs).take k).map (Value.int .u8)) ∧ Below w.heap.size w wr)
    (fun _ i _ => 9 + 1 - (intOf i).toNat)
  case atStart => exact ⟨0, _, _, Nat.zero_le _, rfl, rfl, World.ownsRow_made w #[] 0 (Nat.le_refl _) (by unfold maxLen; omega) (by simp), (Below.refl _ _).alloc (Nat.le_refl _) _⟩
  case round =>
    obtain ⟨k, a', c', hkm, rfl, rfl, hown, hb⟩ := hrel
    have hsz := hb.size
    by_cases hlt : k < m
    · have hck := (hb.cell (p := ⟨b, off + (k + 1), none⟩) (show b < w.heap.size by omega)).trans (HCELL.out (k + 1) (by omega))
      have HE : Hid (el (padB 9 xs) k = el xs (k + 1)) := Lib.hid (by rw [padB_el 9 xs k (by omega), Nat.add_comm])
      have HT := Lib.hid (el_take (padB 9 xs) k (by rw [HPL.out]; omega))
      rw [HE.out] at HT
      generalize el xs (k + 1) = x at HT hck HE
      have HB := Lib.hid hb
      clear hb
      go_wp2_with (at_builtin; refine wpList_append_own _ rfl _ _ 60 rfl w.heap.size 5 i0 (.int .u8 0) 1 1 Tryz.underlying60 hi0 hz0 hz1 hz2 rfl (by decide) _ _ _ rfl (hown.alloc _) ⟨wr.heap.size, 0, none⟩ 1 1 [.int .u8 x] rfl rfl (cell_one_new _ _ _) (one_u8 _) ?c3 ?c4 ?c5 ?_)
      case c3 => unfold maxLen; omega
      case c4 => omega
      case c5 => simp; omega
      intro v' w1 hown' hg _
      obtain ⟨a2, c2, rfl⟩ := owns_shape hown'
      have hb2 := (HB.out.alloc hsz _).trans (below_own (hown.alloc _) hg (by simp; omega))
      have hown2 : w1.ownsRow w.heap.size 5 1 (.slice a2 (k + 1) c2) (k + 1) (((padB 9 xs).take (k + 1)).map (Value.int .u8)) := by rw [HT.out]; simpa using hown'
      have HO := Lib.hid hown2
      clear hown2
      have HB2 := Lib.hid hb2
      clear hown' hb2 hg hown
      go_wp2
      go_roundw
      case rel => exact ⟨k + 1, _, _, by omega, by go_num, by rfl, HO.out, HB2.out⟩
      case measure => simp [intOf]; omega
    · have hkm2 : k = m := by omega
      subst hkm2
      clear hkm hlt
      have HO := Lib.hid hown
      have HB := Lib.hid hb
      clear hown hb
      have HW : Hid (∀ wh : Bool, ((k : Int) == 9) = wh → wh = decide (9 < xs.length)) := Lib.hid (fun wh h => by
        rw [← h, Bool.eq_iff_iff, beq_iff_eq, decide_eq_true_iff]; omega)
      cases hwh : ((k : Int) == 9)
      · have HWH := Lib.hid (HW.out _ hwh)
        have hkn : ¬ (k : Int) = 9 := by simpa using hwh
        go_wp2
        all_goals try (exfalso; omega)
        all_goals
         go_loopw [4] (fun v wr2 => ∃ (j : Nat) (a2 : Option Addr) (c2 : Nat), k ≤ j ∧ j ≤ 9 ∧ v = .slice a2 j c2 ∧ wr2.ownsRow w.heap.size 5 1 (.slice a2 j c2) j (((padB 9 xs).take j).map (Value.int .u8)) ∧ Below w.heap.size w wr2)
           (fun v _ => 9 - sliceLen v)
         case atStart => exact ⟨k, _, _, Nat.le_refl _, hm9, rfl, HO.out, HB.out⟩
         case round =>
           obtain ⟨j, a2, c2, hkj, hj9, rfl, hown, hb⟩ := hrel
           have hsz2 := hb.size
           by_cases hlt : j < 9
           · have HE : Hid (el (padB 9 xs) j = 0) := Lib.hid (by rw [padB_el 9 xs j (by omega), el_far xs (1 + j) (by omega)])
             have HT := Lib.hid (el_take (padB 9 xs) j (by rw [HPL.out]; omega))
             rw [HE.out] at HT
             have HB4 := Lib.hid hb
             clear hb
             go_wp2_with (at_builtin; refine wpList_append_own _ rfl _ _ 60 rfl w.heap.size 5 i0 (.int .u8 0) 1 1 Tryz.underlying60 hi0 hz0 hz1 hz2 rfl (by decide) _ _ _ rfl (hown.alloc _) ⟨_, 0, none⟩ 1 1 [.int .u8 0] rfl rfl (cell_one_new _ _ _) (one_u8 _) ?c3 ?c4 ?c5 ?_)
             case c3 => unfold maxLen; omega
             case c4 => omega
             case c5 => simp; omega
             intro v' w1 hown' hg _
             obtain ⟨a3, c3, rfl⟩ := owns_shape hown'
             have hb2 := (HB4.out.alloc hsz2 _).trans (below_own (hown.alloc _) hg (by simp; omega))
             have hown2 : w1.ownsRow w.heap.size 5 1 (.slice a3 (j + 1) c3) (j + 1) (((padB 9 xs).take (j + 1)).map (Value.int .u8)) := by rw [HT.out]; simpa using hown'
             have HO2 := Lib.hid hown2
             clear hown2
             have HB5 := Lib.hid hb2
             clear hown' hb2 hg hown
             go_wp2
             go_roundw
             case rel => exact ⟨j + 1, _, _, by omega, by omega, by rfl, HO2.out, HB5.out⟩
             case measure => simp [sliceLen]; omega
           · have hj2 : j = 9 := by omega
             subst hj2
             have HN5 := Lib.hid (Nums.of_own (by rw [List.take_of_length_le (by rw [HPL.out]; omega)] at hown; exact hown) : _ ∧ Nums .u8 _ _ a2 c2 (padB 9 xs)).2
             have HB4 := Lib.hid hb
             clear hb hown
             go_wp2_with fail
             have hbd := body_any _ a2 c2 (padB 9 xs) _ HN5.out (Nat.le_refl _) HPB.out (by rw [HPL.out]; omega)
             rw [HPL.out] at hbd
             refine hbd.mono ?_
             clear hbd
             rintro e w3 ⟨rfl, hb3⟩
             have HB6 := Lib.hid (HB4.out.trans (hb3.mono hsz2))
             have hsz3 := HB6.out.size
             clear hb3
             cases hok : frOkS (padB 9 xs)
             · have HE := Lib.hid (HB3.out.1 hok)
               rw [if_neg (by simp)]
               clear hok
               go_wp2
               go_ret
               exact beg_ret HE.out (HB6.out.alloc hsz3 _)
             · rw [if_pos rfl]
               have HOK := Lib.hid hok
               clear hok
               have hnw : xs.length ≤ 9 := Nat.le_of_not_lt (of_decide_eq_false HWH.out.symm)
               have HE := Lib.hid (HB3.out.2.1 HOK.out hnw)
               go_wp2
               exact bodyPost_ret (v := .bool true) (by simp [results, Tryz.results154, go_sem]) rfl (beg_ret HE.out (HB6.out.alloc hsz3 _))
      · have HWH := Lib.hid (HW.out _ hwh)
        have hkn : (k : Int) = 9 := by simpa using hwh
        go_wp2
        all_goals try (exfalso; omega)
        all_goals
         go_loopw [4] (fun v wr2 => ∃ (j : Nat) (a2 : Option Addr) (c2 : Nat), k ≤ j ∧ j ≤ 9 ∧ v = .slice a2 j c2 ∧ wr2.ownsRow w.heap.size 5 1 (.slice a2 j c2) j (((padB 9 xs).take j).map (Value.int .u8)) ∧ Below w.heap.size w wr2)
           (fun v _ => 9 - sliceLen v)
         case atStart => exact ⟨k, _, _, Nat.le_refl _, hm9, rfl, HO.out, HB.out⟩
         case round =>
           obtain ⟨j, a2, c2, hkj, hj9, rfl, hown, hb⟩ := hrel
           have hsz2 := hb.size
           by_cases hlt : j < 9
           · exfalso
             have h := of_decide_eq_true HWH.out.symm
             omega
           · have hj2 : j = 9 := by omega
             subst hj2
             have HN5 := Lib.hid (Nums.of_own (by rw [List.take_of_length_le (by rw [HPL.out]; omega)] at hown; exact hown) : _ ∧ Nums .u8 _ _ a2 c2 (padB 9 xs)).2
             have HB4 := Lib.hid hb
             clear hb hown
             go_wp2_with fail
             have hbd := body_any _ a2 c2 (padB 9 xs) _ HN5.out (Nat.le_refl _) HPB.out (by rw [HPL.out]; omega)
             rw [HPL.out] at hbd
             refine hbd.mono ?_
             clear hbd
             rintro e w3 ⟨rfl, hb3⟩
             have HB6 := Lib.hid (HB4.out.trans (hb3.mono hsz2))
             have hsz3 := HB6.out.size
             clear hb3
             cases hok : frOkS (padB 9 xs)
             · have HE := Lib.hid (HB3.out.1 hok)
               rw [if_neg (by simp)]
               clear hok
               go_wp2
               go_ret
               exact beg_ret HE.out (HB6.out.alloc hsz3 _)
             · rw [if_pos rfl]
               have HOK := Lib.hid hok
               clear hok
               have hnw : ¬ xs.length ≤ 9 := Nat.not_le_of_lt (of_decide_eq_true HWH.out.symm)
               have HE := Lib.hid (HB3.out.2.2 HOK.out hnw)
               go_wp2_with fail
               have HB7 := Lib.hid (HB6.out.alloc hsz3 (.cells #[.int .i64 (el (padB 9 xs) 0), .int .i64 (sY (padB 9 xs)), .int .i64 (sT (padB 9 xs)), .int .i64 (sV (padB 9 xs))] 97))
               refine (specPut_any (el (padB 9 xs) 0) (sY (padB 9 xs)) (sT (padB 9 xs)) (sV (padB 9 xs)) _).mono ?_
               rintro e w4 ⟨a4, c4, rfl, ho4, hb4⟩
               have HN4 := Lib.hid (Nums.of_own ho4).2
               have HB8 := Lib.hid (HB7.out.trans (hb4.mono (by simp; omega)))
               have HC4 : Hid (∀ i, i < xs.length → w4.cell? ⟨b, off + i, none⟩ = some (.int .u8 (el xs i))) := Lib.hid (fun i hi => (HB8.out.cell (p := ⟨b, off + i, none⟩) hbh).trans (HCELL.out i hi))
               have HPI := Lib.hid (putL_isB (el (padB 9 xs) 0) (sY (padB 9 xs)) (sT (padB 9 xs)) (sV (padB 9 xs)))
               generalize putL (el (padB 9 xs) 0) (sY (padB 9 xs)) (sT (padB 9 xs)) (sV (padB 9 xs)) = P at *
               clear ho4 hb4
               have HAT : Hid ((∀ i, i < min xs.length P.length → el xs i = el P i) → begS xs = true) := Lib.hid (fun h => by rw [HE.out]; exact decide_eq_true h)
               have HAF : Hid (∀ i, i < xs.length → i < P.length → (el xs i == el P i) = false → begS xs = false) := Lib.hid (fun i h1 h2 h3 => by
                 rw [HE.out]
                 refine decide_eq_false (fun h => ?_)
                 have := h i (by omega)
                 simp at h3
                 exact h3 this)
               clear HE
               go_wp2
               go_loopw [10] (fun i wr3 => ∃ q : Nat, q ≤ xs.length ∧ q ≤ P.length ∧ i = .int .i64 q ∧ (∀ t, t < q → el xs t = el P t) ∧ Below w4.heap.size w4 wr3) (fun i _ => xs.length - (intOf i).toNat)
               case atStart => exact ⟨0, by omega, by omega, rfl, fun t ht => absurd ht (by omega), Below.refl _ _⟩
               case round =>
                 obtain ⟨q, hq1, hq2, rfl, hag, hb9⟩ := hrel
                 have HB9 := Lib.hid hb9
                 have HBX := Lib.hid (HB8.out.trans (hb9.mono HB8.out.size))
                 clear hb9
                 have HAG := Lib.hid hag
                 clear hag
                 by_cases hlt1 : q < xs.length
                 · by_cases hlt2 : q < P.length
                   · obtain ⟨b4, off4, rfl, hbb4, hc4⟩ := HN4.out.lies.resolve_left (by intro h; subst h; simp at hlt2)
                     have hcx := (HB9.out.cell (p := ⟨b, off + q, none⟩) (Nat.lt_of_lt_of_le hbh HB8.out.size)).trans (HC4.out q hlt1)
                     have hcp := (HB9.out.cell (p := ⟨b4, off4 + q, none⟩) hbb4).trans (hc4 q hlt2)
                     clear hc4
                     have HAF2 := Lib.hid (HAF.out q hlt1 hlt2)
                     have HEQ : Hid ((el xs q == el P q) = true → ∀ t, t < q + 1 → el xs t = el P t) := Lib.hid (fun h t ht => by
                       by_cases htq : t = q
                       · subst htq; simpa using h
                       · exact HAG.out t (by omega))
                     generalize el xs q = X at hcx HAF2 HEQ
                     generalize el P q = Y at hcp HAF2 HEQ
                     cases hxy : (X == Y)
                     · have HF := Lib.hid (HAF2.out hxy)
                       have hne : (X != Y) = true := by rw [bne, hxy]; rfl
                       go_wp2
                       go_quiet (fail)
                       go_wp2
                       exact bodyPost_ret (v := .bool false) (by simp [results, Tryz.results154, go_sem]) rfl (beg_ret HF.out (below_drewN HBX.out _))
                     · have HF := Lib.hid (HEQ.out hxy)
                       have hne : (X != Y) = false := by rw [bne, hxy]; rfl
                       go_wp2
                       go_quiet (fail)
                       go_wp2
                       go_roundw
                       case rel => exact ⟨q + 1, by omega, by omega, by go_num, HF.out, below_drewN HB9.out _⟩
                       case measure => simp [intOf]; omega
                   · have HF := Lib.hid (HAT.out (fun i hi => HAG.out i (by omega)))
                     go_wp2
                     exact bodyPost_ret (v := .bool true) (by simp [results, Tryz.results154, go_sem]) rfl (beg_ret HF.out HBX.out)
                 · have HF := Lib.hid (HAT.out (fun i hi => HAG.out i (by omega)))
                   go_wp2
                   exact bodyPost_ret (v := .bool true) (by simp [results, Tryz.results154, go_sem]) rfl (beg_ret HF.out HBX.out)
set_option maxRecDepth 100000 in
set_option maxHeartbeats 1000000 in
theorem beg_one_4 (b off c : Nat) (xs : List Int) (w : World) (hl : xs.length = 1) (hc : w.cell? ⟨b, off, none⟩ = some (.int .u8 (el xs 0))) (h0 : el xs 0 = 4) :
    Calls Tryz.prog 154 #[.slice (some ⟨b, off, none⟩) 1 c] w (BegPost xs w) := by
  have HP := Lib.hid (beg_ret (w := w) (show begS xs = true by
    unfold begS
    rw [if_neg (by omega), if_neg (by omega), if_pos hl]) (Below.refl _ w))
  rw [h0] at hc
  go_enter Tryz.func154, Tryz.ntmps154
  go_wp2
  go_ret
  exact HP.out
set_option maxRecDepth 100000 in
set_option maxHeartbeats 1000000 in
theorem beg_size_4 (b off c : Nat) (xs : List Int) (w : World) (hl : 2 ≤ xs.length) (hc : w.cell? ⟨b, off, none⟩ = some (.int .u8 (el xs 0))) (hc1 : w.cell? ⟨b, off + 1, none⟩ = some (.int .u8 (el xs 1))) (hx : 0 ≤ el xs 1 ∧ el xs 1 ≤ 255) (h0 : el xs 0 = 4) (hk : (sizeK (el xs 1) == 4) = false) :
    Calls Tryz.prog 154 #[.slice (some ⟨b, off, none⟩) xs.length c] w (BegPost xs w) := by
  have HP := Lib.hid (beg_ret (w := w) (show begS xs = false by
    unfold begS
    simp at hk
    rw [if_neg (by omega), if_neg (by omega), if_neg (by omega), if_pos (by omega)]) (Below.refl _ w))
  rw [h0] at hc
  generalize el xs 1 = K at *
  generalize hsk : sizeK K = S at *
  go_enter Tryz.func154, Tryz.ntmps154
  go_wp2_with (go_at_call 196; refine (size_any _ _).mono ?_; rintro e w' ⟨rfl, rfl⟩; rw [hsk])
  go_ret
  exact HP.out
set_option maxRecDepth 100000 in
set_option maxHeartbeats 4000000 in
theorem beg_body_4 (hi b off c : Nat) (xs : List Int) (w : World) (hN : Nums .u8 w hi (some ⟨b, off, none⟩) c xs) (hx : IsB xs) (hl : 2 ≤ xs.length) (hbh : b < w.heap.size) (hcell : ∀ i, i < xs.length → w.cell? ⟨b, off + i, none⟩ = some (.int .u8 (el xs i))) (h0 : el xs 0 = 4) (hk : sizeK (el xs 1) = 4) :
    Calls Tryz.prog 154 #[.slice (some ⟨b, off, none⟩) xs.length c] w (BegPost xs w) := by
  obtain ⟨i0, hi0, hz0, hz1, hz2⟩ := info_parts infoU8
  have hcap := hN.cap
  have hbig := hN.big
  have HB3 := Lib.hid (begS_body (n := 4) hl (by omega) (by omega) hk)
  have hc0 := hcell 0 (by omega)
  have hc1 := hcell 1 (by omega)
  rw [Nat.add_zero, h0] at hc0
  have hb1 := el_bd hx 1
  have HCELL := Lib.hid hcell
  have HX := Lib.hid hx
  have HK := Lib.hid hk
  have HKK : Hid (sizeK (el xs 1) = 4) := HK
  have HPL := Lib.hid (padB_len 4 xs)
  have HPB : Hid (IsB (padB 4 xs)) := Lib.hid (fun x hx2 => by
    unfold padB at hx2
    rcases List.mem_append.1 hx2 with h | h
    · exact (hx.drop 1).take 4 x h
    · have := List.eq_of_mem_replicate h; omega)
  obtain ⟨m, hm9, hml, hmo⟩ : ∃ m : Nat, m ≤ 4 ∧ m + 1 ≤ xs.length ∧ (m = 4 ∨ m + 1 = xs.length) := ⟨min (xs.length - 1) 4, by omega, by omega, by omega⟩
  clear hcell hx hk hN
  go_enter Tryz.func154, Tryz.ntmps154
  go_wp2_with (first
    | (go_at_call 196; refine (size_any _ _).mono ?_; rintro e w' ⟨rfl, rfl⟩; rw [HKK.out])
    | fail)
  go_loopw [4, 5] (fun v i wr => ∃ (k : Nat) (a' : Option Addr) (c' : Nat), k ≤ m ∧ i = .int .i64 ((k : Int) + 1) ∧ v = .slice a' k c' ∧ wr.ownsRow w.heap.size 5 1 (.slice a' k c') k (((padB 4 xs).take k).map (Value.int .u8)) ∧ Below w.heap.size w wr)
    (fun _ i _ => 4 + 1 - (intOf i).toNat)
  case atStart => exact ⟨0, _, _, Nat.zero_le _, rfl, rfl, World.ownsRow_made w #[] 0 (Nat.le_refl _) (by unfold maxLen; omega) (by simp), (Below.refl _ _).alloc (Nat.le_refl _) _⟩
  case round =>
    obtain ⟨k, a', c', hkm, rfl, rfl, hown, hb⟩ := hrel
    have hsz := hb.size
    by_cases hlt : k < m
    · have hck := (hb.cell (p := ⟨b, off + (k + 1), none⟩) (show b < w.heap.size by omega)).trans (HCELL.out (k + 1) (by omega))
      have HE : Hid (el (padB 4 xs) k = el xs (k + 1)) := Lib.hid (by rw [padB_el 4 xs k (by omega), Nat.add_comm])
      have HT := Lib.hid (el_take (padB 4 xs) k (by rw [HPL.out]; omega))
      rw [HE.out] at HT
      generalize el xs (k + 1) = x at HT hck HE
      have HB := Lib.hid hb
      clear hb
      go_wp2_with (at_builtin; refine wpList_append_own _ rfl _ _ 60 rfl w.heap.size 5 i0 (.int .u8 0) 1 1 Tryz.underlying60 hi0 hz0 hz1 hz2 rfl (by decide) _ _ _ rfl (hown.alloc _) ⟨wr.heap.size, 0, none⟩ 1 1 [.int .u8 x] rfl rfl (cell_one_new _ _ _) (one_u8 _) ?c3 ?c4 ?c5 ?_)
      case c3 => unfold maxLen; omega
      case c4 => omega
      case c5 => simp; omega
      intro v' w1 hown' hg _
      obtain ⟨a2, c2, rfl⟩ := owns_shape hown'
      have hb2 := (HB.out.alloc hsz _).trans (below_own (hown.alloc _) hg (by simp; omega))
      have hown2 : w1.ownsRow w.heap.size 5 1 (.slice a2 (k + 1) c2) (k + 1) (((padB 4 xs).take (k + 1)).map (Value.int .u8)) := by rw [HT.out]; simpa using hown'
      have HO := Lib.hid hown2
      clear hown2
      have HB2 := Lib.hid hb2
      clear hown' hb2 hg hown
      go_wp2
      go_roundw
      case rel => exact ⟨k + 1, _, _, by omega, by go_num, by rfl, HO.out, HB2.out⟩
      case measure => simp [intOf]; omega
    · have hkm2 : k = m := by omega
      subst hkm2
      clear hkm hlt
      have HO := Lib.hid hown
      have HB := Lib.hid hb
      clear hown hb
      have HW : Hid (∀ wh : Bool, ((k : Int) == 4) = wh → wh = decide (4 < xs.length)) := Lib.hid (fun wh h => by
        rw [← h, Bool.eq_iff_iff, beq_iff_eq, decide_eq_true_iff]; omega)
      cases hwh : ((k : Int) == 4)
      · have HWH := Lib.hid (HW.out _ hwh)
        have hkn : ¬ (k : Int) = 4 := by simpa using hwh
        go_wp2
        all_goals try (exfalso; omega)
        all_goals
         go_loopw [4] (fun v wr2 => ∃ (j : Nat) (a2 : Option Addr) (c2 : Nat), k ≤ j ∧ j ≤ 4 ∧ v = .slice a2 j c2 ∧ wr2.ownsRow w.heap.size 5 1 (.slice a2 j c2) j (((padB 4 xs).take j).map (Value.int .u8)) ∧ Below w.heap.size w wr2)
           (fun v _ => 4 - sliceLen v)
         case atStart => exact ⟨k, _, _, Nat.le_refl _, hm9, rfl, HO.out, HB.out⟩
         case round =>
           obtain ⟨j, a2, c2, hkj, hj9, rfl, hown, hb⟩ := hrel
           have hsz2 := hb.size
           by_cases hlt : j < 4
           · have HE : Hid (el (padB 4 xs) j = 0) := Lib.hid (by rw [padB_el 4 xs j (by omega), el_far xs (1 + j) (by omega)])
             have HT := Lib.hid (el_take (padB 4 xs) j (by rw [HPL.out]; omega))
             rw [HE.out] at HT
             have HB4 := Lib.hid hb
             clear hb
             go_wp2_with (at_builtin; refine wpList_append_own _ rfl _ _ 60 rfl w.heap.size 5 i0 (.int .u8 0) 1 1 Tryz.underlying60 hi0 hz0 hz1 hz2 rfl (by decide) _ _ _ rfl (hown.alloc _) ⟨_, 0, none⟩ 1 1 [.int .u8 0] rfl rfl (cell_one_new _ _ _) (one_u8 _) ?c3 ?c4 ?c5 ?_)
             case c3 => unfold maxLen; omega
             case c4 => omega
             case c5 => simp; omega
             intro v' w1 hown' hg _
             obtain ⟨a3, c3, rfl⟩ := owns_shape hown'
             have hb2 := (HB4.out.alloc hsz2 _).trans (below_own (hown.alloc _) hg (by simp; omega))
             have hown2 : w1.ownsRow w.heap.size 5 1 (.slice a3 (j + 1) c3) (j + 1) (((padB 4 xs).take (j + 1)).map (Value.int .u8)) := by rw [HT.out]; simpa using hown'
             have HO2 := Lib.hid hown2
             clear hown2
             have HB5 := Lib.hid hb2
             clear hown' hb2 hg hown
             go_wp2
             go_roundw
             case rel => exact ⟨j + 1, _, _, by omega, by omega, by rfl, HO2.out, HB5.out⟩
             case measure => simp [sliceLen]; omega
           · have hj2 : j = 4 := by omega
             subst hj2
             have HN5 := Lib.hid (Nums.of_own (by rw [List.take_of_length_le (by rw [HPL.out]; omega)] at hown; exact hown) : _ ∧ Nums .u8 _ _ a2 c2 (padB 4 xs)).2
             have HB4 := Lib.hid hb
             clear hb hown
             go_wp2_with fail
             have hbd := body_any _ a2 c2 (padB 4 xs) _ HN5.out (Nat.le_refl _) HPB.out (by rw [HPL.out]; omega)
             rw [HPL.out] at hbd
             refine hbd.mono ?_
             clear hbd
             rintro e w3 ⟨rfl, hb3⟩
             have HB6 := Lib.hid (HB4.out.trans (hb3.mono hsz2))
             have hsz3 := HB6.out.size
             clear hb3
             cases hok : frOkS (padB 4 xs)
             · have HE := Lib.hid (HB3.out.1 hok)
               rw [if_neg (by simp)]
               clear hok
               go_wp2
               go_ret
               exact beg_ret HE.out (HB6.out.alloc hsz3 _)
             · rw [if_pos rfl]
               have HOK := Lib.hid hok
               clear hok
               have hnw : xs.length ≤ 4 := Nat.le_of_not_lt (of_decide_eq_false HWH.out.symm)
               have HE := Lib.hid (HB3.out.2.1 HOK.out hnw)
               go_wp2
               exact bodyPost_ret (v := .bool true) (by simp [results, Tryz.results154, go_sem]) rfl (beg_ret HE.out (HB6.out.alloc hsz3 _))
      · have HWH := Lib.hid (HW.out _ hwh)
        have hkn : (k : Int) = 4 := by simpa using hwh
        go_wp2
        all_goals try (exfalso; omega)
        all_goals
         go_loopw [4] (fun v wr2 => ∃ (j : Nat) (a2 : Option Addr) (c2 : Nat), k ≤ j ∧ j ≤ 4 ∧ v = .slice a2 j c2 ∧ wr2.ownsRow w.heap.size 5 1 (.slice a2 j c2) j (((padB 4 xs).take j).map (Value.int .u8)) ∧ Below w.heap.size w wr2)
           (fun v _ => 4 - sliceLen v)
         case atStart => exact ⟨k, _, _, Nat.le_refl _, hm9, rfl, HO.out, HB.out⟩
         case round =>
           obtain ⟨j, a2, c2, hkj, hj9, rfl, hown, hb⟩ := hrel
           have hsz2 := hb.size
           by_cases hlt : j < 4
           · exfalso
             have h := of_decide_eq_true HWH.out.symm
             omega
           · have hj2 : j = 4 := by omega
             subst hj2
             have HN5 := Lib.hid (Nums.of_own (by rw [List.take_of_length_le (by rw [HPL.out]; omega)] at hown; exact hown) : _ ∧ Nums .u8 _ _ a2 c2 (padB 4 xs)).2
             have HB4 := Lib.hid hb
             clear hb hown
             go_wp2_with fail
             have hbd := body_any _ a2 c2 (padB 4 xs) _ HN5.out (Nat.le_refl _) HPB.out (by rw [HPL.out]; omega)
             rw [HPL.out] at hbd
             refine hbd.mono ?_
             clear hbd
             rintro e w3 ⟨rfl, hb3⟩
             have HB6 := Lib.hid (HB4.out.trans (hb3.mono hsz2))
             have hsz3 := HB6.out.size
             clear hb3
             cases hok : frOkS (padB 4 xs)
             · have HE := Lib.hid (HB3.out.1 hok)
               rw [if_neg (by simp)]
               clear hok
               go_wp2
               go_ret
               exact beg_ret HE.out (HB6.out.alloc hsz3 _)
             · rw [if_pos rfl]
               have HOK := Lib.hid hok
               clear hok
               have hnw : ¬ xs.length ≤ 4 := Nat.not_le_of_lt (of_decide_eq_true HWH.out.symm)
               have HE := Lib.hid (HB3.out.2.2 HOK.out hnw)
               go_wp2_with fail
               have HB7 := Lib.hid (HB6.out.alloc hsz3 (.cells #[.int .i64 (el (padB 4 xs) 0), .int .i64 (sY (padB 4 xs)), .int .i64 (sT (padB 4 xs)), .int .i64 (sV (padB 4 xs))] 97))
               refine (specPut_any (el (padB 4 xs) 0) (sY (padB 4 xs)) (sT (padB 4 xs)) (sV (padB 4 xs)) _).mono ?_
               rintro e w4 ⟨a4, c4, rfl, ho4, hb4⟩
               have HN4 := Lib.hid (Nums.of_own ho4).2
               have HB8 := Lib.hid (HB7.out.trans (hb4.mono (by simp; omega)))
               have HC4 : Hid (∀ i, i < xs.length → w4.cell? ⟨b, off + i, none⟩ = some (.int .u8 (el xs i))) := Lib.hid (fun i hi => (HB8.out.cell (p := ⟨b, off + i, none⟩) hbh).trans (HCELL.out i hi))
               have HPI := Lib.hid (putL_isB (el (padB 4 xs) 0) (sY (padB 4 xs)) (sT (padB 4 xs)) (sV (padB 4 xs)))
               generalize putL (el (padB 4 xs) 0) (sY (padB 4 xs)) (sT (padB 4 xs)) (sV (padB 4 xs)) = P at *
               clear ho4 hb4
               have HAT : Hid ((∀ i, i < min xs.length P.length → el xs i = el P i) → begS xs = true) := Lib.hid (fun h => by rw [HE.out]; exact decide_eq_true h)
               have HAF : Hid (∀ i, i < xs.length → i < P.length → (el xs i == el P i) = false → begS xs = false) := Lib.hid (fun i h1 h2 h3 => by
                 rw [HE.out]
                 refine decide_eq_false (fun h => ?_)
                 have := h i (by omega)
                 simp at h3
                 exact h3 this)
               clear HE
               go_wp2
               go_loopw [10] (fun i wr3 => ∃ q : Nat, q ≤ xs.length ∧ q ≤ P.length ∧ i = .int .i64 q ∧ (∀ t, t < q → el xs t = el P t) ∧ Below w4.heap.size w4 wr3) (fun i _ => xs.length - (intOf i).toNat)
               case atStart => exact ⟨0, by omega, by omega, rfl, fun t ht => absurd ht (by omega), Below.refl _ _⟩
               case round =>
                 obtain ⟨q, hq1, hq2, rfl, hag, hb9⟩ := hrel
                 have HB9 := Lib.hid hb9
                 have HBX := Lib.hid (HB8.out.trans (hb9.mono HB8.out.size))
                 clear hb9
                 have HAG := Lib.hid hag
                 clear hag
                 by_cases hlt1 : q < xs.length
                 · by_cases hlt2 : q < P.length
                   · obtain ⟨b4, off4, rfl, hbb4, hc4⟩ := HN4.out.lies.resolve_left (by intro h; subst h; simp at hlt2)
                     have hcx := (HB9.out.cell (p := ⟨b, off + q, none⟩) (Nat.lt_of_lt_of_le hbh HB8.out.size)).trans (HC4.out q hlt1)
                     have hcp := (HB9.out.cell (p := ⟨b4, off4 + q, none⟩) hbb4).trans (hc4 q hlt2)
                     clear hc4
                     have HAF2 := Lib.hid (HAF.out q hlt1 hlt2)
                     have HEQ : Hid ((el xs q == el P q) = true → ∀ t, t < q + 1 → el xs t = el P t) := Lib.hid (fun h t ht => by
                       by_cases htq : t = q
                       · subst htq; simpa using h
                       · exact HAG.out t (by omega))
                     generalize el xs q = X at hcx HAF2 HEQ
                     generalize el P q = Y at hcp HAF2 HEQ
                     cases hxy : (X == Y)
                     · have HF := Lib.hid (HAF2.out hxy)
                       have hne : (X != Y) = true := by rw [bne, hxy]; rfl
                       go_wp2
                       go_quiet (fail)
                       go_wp2
                       exact bodyPost_ret (v := .bool false) (by simp [results, Tryz.results154, go_sem]) rfl (beg_ret HF.out (below_drewN HBX.out _))
                     · have HF := Lib.hid (HEQ.out hxy)
                       have hne : (X != Y) = false := by rw [bne, hxy]; rfl
                       go_wp2
                       go_quiet (fail)
                       go_wp2
                       go_roundw
                       case rel => exact ⟨q + 1, by omega, by omega, by go_num, HF.out, below_drewN HB9.out _⟩
                       case measure => simp [intOf]; omega
                   · have HF := Lib.hid (HAT.out (fun i hi => HAG.out i (by omega)))
                     go_wp2
                     exact bodyPost_ret (v := .bool true) (by simp [results, Tryz.results154, go_sem]) rfl (beg_ret HF.out HBX.out)
                 · have HF := Lib.hid (HAT.out (fun i hi => HAG.out i (by omega)))
                   go_wp2
                   exact bodyPost_ret (v := .bool true) (by simp [results, Tryz.results154, go_sem]) rfl (beg_ret HF.out HBX.out)
set_option maxRecDepth 100000 in
set_option maxHeartbeats 1000000 in
theorem beg_one_1 (b off c : Nat) (xs : List Int) (w : World) (hl : xs.length = 1) (hc : w.cell? ⟨b, off, none⟩ = some (.int .u8 (el xs 0))) (h0 : el xs 0 = 1) :
    Calls Tryz.prog 154 #[.slice (some ⟨b, off, none⟩) 1 c] w (BegPost xs w) := by
  have HP := Lib.hid (beg_ret (w := w) (show begS xs = true by
    unfold begS
    rw [if_neg (by omega), if_neg (by omega), if_pos hl]) (Below.refl _ w))
  rw [h0] at hc
  go_enter Tryz.func154, Tryz.ntmps154
  go_wp2
  go_ret
  exact HP.out
set_option maxRecDepth 100000 in
set_option maxHeartbeats 1000000 in
theorem beg_size_1 (b off c : Nat) (xs : List Int) (w : World) (hl : 2 ≤ xs.length) (hc : w.cell? ⟨b, off, none⟩ = some (.int .u8 (el xs 0))) (hc1 : w.cell? ⟨b, off + 1, none⟩ = some (.int .u8 (el xs 1))) (hx : 0 ≤ el xs 1 ∧ el xs 1 ≤ 255) (h0 : el xs 0 = 1) (hk : (sizeK (el xs 1) == 1) = false) :
    Calls Tryz.prog 154 #[.slice (some ⟨b, off, none⟩) xs.length c] w (BegPost xs w) := by
  have HP := Lib.hid (beg_ret (w := w) (show begS xs = false by
    unfold begS
    simp at hk
    rw [if_neg (by omega), if_neg (by omega), if_neg (by omega), if_pos (by omega)]) (Below.refl _ w))
  rw [h0] at hc
  generalize el xs 1 = K at *
  generalize hsk : sizeK K = S at *
  go_enter Tryz.func154, Tryz.ntmps154
  go_wp2_with (go_at_call 196; refine (size_any _ _).mono ?_; rintro e w' ⟨rfl, rfl⟩; rw [hsk])
  go_ret
  exact HP.out
set_option maxRecDepth 100000 in
set_option maxHeartbeats 4000000 in
theorem beg_body_1 (hi b off c : Nat) (xs : List Int) (w : World) (hN : Nums .u8 w hi (some ⟨b, off, none⟩) c xs) (hx : IsB xs) (hl : 2 ≤ xs.length) (hbh : b < w.heap.size) (hcell : ∀ i, i < xs.length → w.cell? ⟨b, off + i, none⟩ = some (.int .u8 (el xs i))) (h0 : el xs 0 = 1) (hk : sizeK (el xs 1) = 1) :
    Calls Tryz.prog 154 #[.slice (some ⟨b, off, none⟩) xs.length c] w (BegPost xs w) := by
  obtain ⟨i0, hi0, hz0, hz1, hz2⟩ := info_parts infoU8
  have hcap := hN.cap
  have hbig := hN.big
  have HB3 := Lib.hid (begS_body (n := 1) hl (by omega) (by omega) hk)
  have hc0 := hcell 0 (by omega)
  have hc1 := hcell 1 (by omega)
  rw [Nat.add_zero, h0] at hc0
  have hb1 := el_bd hx 1
  have HCELL := Lib.hid hcell
  have HX := Lib.hid hx
  have HK := Lib.hid hk
  have HKK : Hid (sizeK (el xs 1) = 1) := HK
  have HPL := Lib.hid (padB_len 1 xs)
  have HPB : Hid (IsB (padB 1 xs)) := Lib.hid (fun x hx2 => by
    unfold padB at hx2
    rcases List.mem_append.1 hx2 with h | h
    · exact (hx.drop 1).take 1 x h
    · have := List.eq_of_mem_replicate h; omega)
  obtain ⟨m, hm9, hml, hmo⟩ : ∃ m : Nat, m ≤ 1 ∧ m + 1 ≤ xs.length ∧ (m = 1 ∨ m + 1 = xs.length) := ⟨min (xs.length - 1) 1, by omega, by omega, by omega⟩
  clear hcell hx hk hN
  go_enter Tryz.func154, Tryz.ntmps154
  go_wp2_with (first
    | (go_at_call 196; refine (size_any _ _).mono ?_; rintro e w' ⟨rfl, rfl⟩; rw [HKK.out])
    | fail)
  go_loopw [4, 5] (fun v i wr => ∃ (k : Nat) (a' : Option Addr) (c' : Nat), k ≤ m ∧ i = .int .i64 ((k : Int) + 1) ∧ v = .slice a' k c' ∧ wr.ownsRow w.heap.size 5 1 (.slice a' k c') k (((padB 1 xs).take k).map (Value.int .u8)) ∧ Below w.heap.size w wr)
    (fun _ i _ => 1 + 1 - (intOf i).toNat)
  case atStart => exact ⟨0, _, _, Nat.zero_le _, rfl, rfl, World.ownsRow_made w #[] 0 (Nat.le_refl _) (by unfold maxLen; omega) (by simp), (Below.refl _ _).alloc (Nat.le_refl _) _⟩
  case round =>
    obtain ⟨k, a', c', hkm, rfl, rfl, hown, hb⟩ := hrel
    have hsz := hb.size
    by_cases hlt : k < m
    · have hck := (hb.cell (p := ⟨b, off + (k + 1), none⟩) (show b < w.heap.size by omega)).trans (HCELL.out (k + 1) (by omega))
      have HE : Hid (el (padB 1 xs) k = el xs (k + 1)) := Lib.hid (by rw [padB_el 1 xs k (by omega), Nat.add_comm])
      have HT := Lib.hid (el_take (padB 1 xs) k (by rw [HPL.out]; omega))
      rw [HE.out] at HT
      generalize el xs (k + 1) = x at HT hck HE
      have HB := Lib.hid hb
      clear hb
      go_wp2_with (at_builtin; refine wpList_append_own _ rfl _ _ 60 rfl w.heap.size 5 i0 (.int .u8 0) 1 1 Tryz.underlying60 hi0 hz0 hz1 hz2 rfl (by decide) _ _ _ rfl (hown.alloc _) ⟨wr.heap.size, 0, none⟩ 1 1 [.int .u8 x] rfl rfl (cell_one_new _ _ _) (one_u8 _) ?c3 ?c4 ?c5 ?_)
      case c3 => unfold maxLen; omega
      case c4 => omega
      case c5 => simp; omega
      intro v' w1 hown' hg _
      obtain ⟨a2, c2, rfl⟩ := owns_shape hown'
      have hb2 := (HB.out.alloc hsz _).trans (below_own (hown.alloc _) hg (by simp; omega))
      have hown2 : w1.ownsRow w.heap.size 5 1 (.slice a2 (k + 1) c2) (k + 1) (((padB 1 xs).take (k + 1)).map (Value.int .u8)) := by rw [HT.out]; simpa using hown'
      have HO := Lib.hid hown2
      clear hown2
      have HB2 := Lib.hid hb2
      clear hown' hb2 hg hown
      go_wp2
      go_roundw
      case rel => exact ⟨k + 1, _, _, by omega, by go_num, by rfl, HO.out, HB2.out⟩
      case measure => simp [intOf]; omega
    · have hkm2 : k = m := by omega
      subst hkm2
      clear hkm hlt
      have HO := Lib.hid hown
      have HB := Lib.hid hb
      clear hown hb
      have HW : Hid (∀ wh : Bool, ((k : Int) == 1) = wh → wh = decide (1 < xs.length)) := Lib.hid (fun wh h => by
        rw [← h, Bool.eq_iff_iff, beq_iff_eq, decide_eq_true_iff]; omega)
      cases hwh : ((k : Int) == 1)
      · have HWH := Lib.hid (HW.out _ hwh)
        have hkn : ¬ (k : Int) = 1 := by simpa using hwh
        go_wp2
        all_goals try (exfalso; omega)
        all_goals
         go_loopw [4] (fun v wr2 => ∃ (j : Nat) (a2 : Option Addr) (c2 : Nat), k ≤ j ∧ j ≤ 1 ∧ v = .slice a2 j c2 ∧ wr2.ownsRow w.heap.size 5 1 (.slice a2 j c2) j (((padB 1 xs).take j).map (Value.int .u8)) ∧ Below w.heap.size w wr2)
           (fun v _ => 1 - sliceLen v)
         case atStart => exact ⟨k, _, _, Nat.le_refl _, hm9, rfl, HO.out, HB.out⟩
         case round =>
           obtain ⟨j, a2, c2, hkj, hj9, rfl, hown, hb⟩ := hrel
           have hsz2 := hb.size
           by_cases hlt : j < 1
           · have HE : Hid (el (padB 1 xs) j = 0) := Lib.hid (by rw [padB_el 1 xs j (by omega), el_far xs (1 + j) (by omega)])
             have HT := Lib.hid (el_take (padB 1 xs) j (by rw [HPL.out]; omega))
             rw [HE.out] at HT
             have HB4 := Lib.hid hb
             clear hb
             go_wp2_with (at_builtin; refine wpList_append_own _ rfl _ _ 60 rfl w.heap.size 5 i0 (.int .u8 0) 1 1 Tryz.underlying60 hi0 hz0 hz1 hz2 rfl (by decide) _ _ _ rfl (hown.alloc _) ⟨_, 0, none⟩ 1 1 [.int .u8 0] rfl rfl (cell_one_new _ _ _) (one_u8 _) ?c3 ?c4 ?c5 ?_)
             case c3 => unfold maxLen; omega
             case c4 => omega
             case c5 => simp; omega
             intro v' w1 hown' hg _
             obtain ⟨a3, c3, rfl⟩ := owns_shape hown'
             have hb2 := (HB4.out.alloc hsz2 _).trans (below_own (hown.alloc _) hg (by simp; omega))
             have hown2 : w1.ownsRow w.heap.size 5 1 (.slice a3 (j + 1) c3) (j + 1) (((padB 1 xs).take (j + 1)).map (Value.int .u8)) := by rw [HT.out]; simpa using hown'
             have HO2 := Lib.hid hown2
             clear hown2
             have HB5 := Lib.hid hb2
             clear hown' hb2 hg hown
             go_wp2
             go_roundw
             case rel => exact ⟨j + 1, _, _, by omega, by omega, by rfl, HO2.out, HB5.out⟩
             case measure => simp [sliceLen]; omega
           · have hj2 : j = 1 := by omega
             subst hj2
             have HN5 := Lib.hid (Nums.of_own (by rw [List.take_of_length_le (by rw [HPL.out]; omega)] at hown; exact hown) : _ ∧ Nums .u8 _ _ a2 c2 (padB 1 xs)).2
             have HB4 := Lib.hid hb
             clear hb hown
             go_wp2_with fail
             have hbd := body_any _ a2 c2 (padB 1 xs) _ HN5.out (Nat.le_refl _) HPB.out (by rw [HPL.out]; omega)
             rw [HPL.out] at hbd
             refine hbd.mono ?_
             clear hbd
             rintro e w3 ⟨rfl, hb3⟩
             have HB6 := Lib.hid (HB4.out.trans (hb3.mono hsz2))
             have hsz3 := HB6.out.size
             clear hb3
             cases hok : frOkS (padB 1 xs)
             · have HE := Lib.hid (HB3.out.1 hok)
               rw [if_neg (by simp)]
               clear hok
               go_wp2
               go_ret
               exact beg_ret HE.out (HB6.out.alloc hsz3 _)
             · rw [if_pos rfl]
               have HOK := Lib.hid hok
               clear hok
               have hnw : xs.length ≤ 1 := Nat.le_of_not_lt (of_decide_eq_false HWH.out.symm)
               have HE := Lib.hid (HB3.out.2.1 HOK.out hnw)
               go_wp2
               exact bodyPost_ret (v := .bool true) (by simp [results, Tryz.results154, go_sem]) rfl (beg_ret HE.out (HB6.out.alloc hsz3 _))
      · have HWH := Lib.hid (HW.out _ hwh)
        have hkn : (k : Int) = 1 := by simpa using hwh
        go_wp2
        all_goals try (exfalso; omega)
        all_goals
         go_loopw [4] (fun v wr2 => ∃ (j : Nat) (a2 : Option Addr) (c2 : Nat), k ≤ j ∧ j ≤ 1 ∧ v = .slice a2 j c2 ∧ wr2.ownsRow w.heap.size 5 1 (.slice a2 j c2) j (((padB 1 xs).take j).map (Value.int .u8)) ∧ Below w.heap.size w wr2)
           (fun v _ => 1 - sliceLen v)
         case atStart => exact ⟨k, _, _, Nat.le_refl _, hm9, rfl, HO.out, HB.out⟩
         case round =>
           obtain ⟨j, a2, c2, hkj, hj9, rfl, hown, hb⟩ := hrel
           have hsz2 := hb.size
           by_cases hlt : j < 1
           · exfalso
             have h := of_decide_eq_true HWH.out.symm
             omega
           · have hj2 : j = 1 := by omega
             subst hj2
             have HN5 := Lib.hid (Nums.of_own (by rw [List.take_of_length_le (by rw [HPL.out]; omega)] at hown; exact hown) : _ ∧ Nums .u8 _ _ a2 c2 (padB 1 xs)).2
             have HB4 := Lib.hid hb
             clear hb hown
             go_wp2_with fail
             have hbd := body_any _ a2 c2 (padB 1 xs) _ HN5.out (Nat.le_refl _) HPB.out (by rw [HPL.out]; omega)
             rw [HPL.out] at hbd
             refine hbd.mono ?_
             clear hbd
             rintro e w3 ⟨rfl, hb3⟩
             have HB6 := Lib.hid (HB4.out.trans (hb3.mono hsz2))
             have hsz3 := HB6.out.size
             clear hb3
             cases hok : frOkS (padB 1 xs)
             · have HE := Lib.hid (HB3.out.1 hok)
               rw [if_neg (by simp)]
               clear hok
               go_wp2
               go_ret
               exact beg_ret HE.out (HB6.out.alloc hsz3 _)
             · rw [if_pos rfl]
               have HOK := Lib.hid hok
               clear hok
               have hnw : ¬ xs.length ≤ 1 := Nat.not_le_of_lt (of_decide_eq_true HWH.out.symm)
               have HE := Lib.hid (HB3.out.2.2 HOK.out hnw)
               go_wp2_with fail
               have HB7 := Lib.hid (HB6.out.alloc hsz3 (.cells #[.int .i64 (el (padB 1 xs) 0), .int .i64 (sY (padB 1 xs)), .int .i64 (sT (padB 1 xs)), .int .i64 (sV (padB 1 xs))] 97))
               refine (specPut_any (el (padB 1 xs) 0) (sY (padB 1 xs)) (sT (padB 1 xs)) (sV (padB 1 xs)) _).mono ?_
               rintro e w4 ⟨a4, c4, rfl, ho4, hb4⟩
               have HN4 := Lib.hid (Nums.of_own ho4).2
               have HB8 := Lib.hid (HB7.out.trans (hb4.mono (by simp; omega)))
               have HC4 : Hid (∀ i, i < xs.length → w4.cell? ⟨b, off + i, none⟩ = some (.int .u8 (el xs i))) := Lib.hid (fun i hi => (HB8.out.cell (p := ⟨b, off + i, none⟩) hbh).trans (HCELL.out i hi))
               have HPI := Lib.hid (putL_isB (el (padB 1 xs) 0) (sY (padB 1 xs)) (sT (padB 1 xs)) (sV (padB 1 xs)))
               generalize putL (el (padB 1 xs) 0) (sY (padB 1 xs)) (sT (padB 1 xs)) (sV (padB 1 xs)) = P at *
               clear ho4 hb4
               have HAT : Hid ((∀ i, i < min xs.length P.length → el xs i = el P i) → begS xs = true) := Lib.hid (fun h => by rw [HE.out]; exact decide_eq_true h)
               have HAF : Hid (∀ i, i < xs.length → i < P.length → (el xs i == el P i) = false → begS xs = false) := Lib.hid (fun i h1 h2 h3 => by
                 rw [HE.out]
                 refine decide_eq_false (fun h => ?_)
                 have := h i (by omega)
                 simp at h3
                 exact h3 this)
               clear HE
               go_wp2
               go_loopw [10] (fun i wr3 => ∃ q : Nat, q ≤ xs.length ∧ q ≤ P.length ∧ i = .int .i64 q ∧ (∀ t, t < q → el xs t = el P t) ∧ Below w4.heap.size w4 wr3) (fun i _ => xs.length - (intOf i).toNat)
               case atStart => exact ⟨0, by omega, by omega, rfl, fun t ht => absurd ht (by omega), Below.refl _ _⟩
               case round =>
                 obtain ⟨q, hq1, hq2, rfl, hag, hb9⟩ := hrel
                 have HB9 := Lib.hid hb9
                 have HBX := Lib.hid (HB8.out.trans (hb9.mono HB8.out.size))
                 clear hb9
                 have HAG := Lib.hid hag
                 clear hag
                 by_cases hlt1 : q < xs.length
                 · by_cases hlt2 : q < P.length
                   · obtain ⟨b4, off4, rfl, hbb4, hc4⟩ := HN4.out.lies.resolve_left (by intro h; subst h; simp at hlt2)
                     have hcx := (HB9.out.cell (p := ⟨b, off + q, none⟩) (Nat.lt_of_lt_of_le hbh HB8.out.size)).trans (HC4.out q hlt1)
                     have hcp := (HB9.out.cell (p := ⟨b4, off4 + q, none⟩) hbb4).trans (hc4 q hlt2)
                     clear hc4
                     have HAF2 := Lib.hid (HAF.out q hlt1 hlt2)
                     have HEQ : Hid ((el xs q == el P q) = true → ∀ t, t < q + 1 → el xs t = el P t) := Lib.hid (fun h t ht => by
                       by_cases htq : t = q
                       · subst htq; simpa using h
                       · exact HAG.out t (by omega))
                     generalize el xs q = X at hcx HAF2 HEQ
                     generalize el P q = Y at hcp HAF2 HEQ
                     cases hxy : (X == Y)
                     · have HF := Lib.hid (HAF2.out hxy)
                       have hne : (X != Y) = true := by rw [bne, hxy]; rfl
                       go_wp2
                       go_quiet (fail)
                       go_wp2
                       exact bodyPost_ret (v := .bool false) (by simp [results, Tryz.results154, go_sem]) rfl (beg_ret HF.out (below_drewN HBX.out _))
                     · have HF := Lib.hid (HEQ.out hxy)
                       have hne : (X != Y) = false := by rw [bne, hxy]; rfl
                       go_wp2
                       go_quiet (fail)
                       go_wp2
                       go_roundw
                       case rel => exact ⟨q + 1, by omega, by omega, by go_num, HF.out, below_drewN HB9.out _⟩
                       case measure => simp [intOf]; omega
                   · have HF := Lib.hid (HAT.out (fun i hi => HAG.out i (by omega)))
                     go_wp2
                     exact bodyPost_ret (v := .bool true) (by simp [results, Tryz.results154, go_sem]) rfl (beg_ret HF.out HBX.out)
                 · have HF := Lib.hid (HAT.out (fun i hi => HAG.out i (by omega)))
                   go_wp2
                   exact bodyPost_ret (v := .bool true) (by simp [results, Tryz.results154, go_sem]) rfl (beg_ret HF.out HBX.out)
theorem begins_any (hi : Nat) (a : Option Addr) (c : Nat) (xs : List Int) (w : World) (hN : Nums .u8 w hi a c xs) (hh : hi ≤ w.heap.size) (hx : IsB xs) :
    Calls Tryz.prog 154 #[.slice a xs.length c] w (BegPost xs w) := by
  by_cases hl : xs.length = 0
  · rw [hl]; exact beg_zero a c xs w hl
  obtain ⟨b, off, rfl, hb, hc⟩ := hN.lies.resolve_left (by intro h; subst h; simp at hl)
  have hc0 := hc 0 (by omega)
  rw [Nat.add_zero] at hc0
  have hb0 := el_bd hx 0
  have hb1 := el_bd hx 1
  by_cases h9 : el xs 0 = 9
  · by_cases h1 : xs.length = 1
    · rw [h1]; exact beg_one_9 b off c xs w h1 hc0 h9
    by_cases hk : sizeK (el xs 1) = 9
    · exact beg_body_9 hi b off c xs w hN hx (by omega) (by omega) hc h9 hk
    · exact beg_size_9 b off c xs w (by omega) hc0 (hc 1 (by omega)) hb1 h9 (by simpa using hk)
  by_cases h4 : el xs 0 = 4
  · by_cases h1 : xs.length = 1
    · rw [h1]; exact beg_one_4 b off c xs w h1 hc0 h4
    by_cases hk : sizeK (el xs 1) = 4
    · exact beg_body_4 hi b off c xs w hN hx (by omega) (by omega) hc h4 hk
    · exact beg_size_4 b off c xs w (by omega) hc0 (hc 1 (by omega)) hb1 h4 (by simpa using hk)
  by_cases h1' : el xs 0 = 1
  · by_cases h1 : xs.length = 1
    · rw [h1]; exact beg_one_1 b off c xs w h1 hc0 h1'
    by_cases hk : sizeK (el xs 1) = 1
    · exact beg_body_1 hi b off c xs w hN hx (by omega) (by omega) hc h1' hk
    · exact beg_size_1 b off c xs w (by omega) hc0 (hc 1 (by omega)) hb1 h1' (by simpa using hk)
  · exact beg_kind b off c xs w (by omega) hc0 hb0 (by simpa using h9) (by simpa using h4) (by simpa using h1')

end Go.Proofs.YtnfhlfbkdhpacaaGreatDoor
