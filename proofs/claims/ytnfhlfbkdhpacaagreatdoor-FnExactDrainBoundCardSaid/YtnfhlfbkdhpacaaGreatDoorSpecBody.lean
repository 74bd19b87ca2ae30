/- Contract of spec.l02Body. -/
import Derived.Test.YtnfhlfbkdhpacaaGreatDoorSpecRead
import Derived.Test.YtnfhlfbkdhpacaaGreatDoorJoint1
namespace Go.Proofs.YtnfhlfbkdhpacaaGreatDoor
open Go.RowKit

theorem Nums.sub {k : IntKind} {w : World} {hi c : Nat} {a : Option Addr} {xs : List Int} (h : Nums k w hi a c xs) (lo m : Nat) (hm : lo + m ≤ xs.length) (hm0 : 0 < m) : Nums k w hi (Option.map (fun x => x.add lo) a) (c - lo) ((xs.drop lo).take m) := by
  have hcap := h.cap
  have h1 := h.drop lo (by omega)
  rw [if_neg (by omega)] at h1
  simp only [Nat.mul_one] at h1
  exact h1.take m (c - lo) (by rw [List.length_drop]; omega) (by omega) (Nat.le_refl _)
theorem read2 (xs : List Int) (h : 2 ≤ xs.length) : readL (xs.take 2) = el xs 0 * 256 + el xs 1 := by
  have := num2_el xs
  unfold numL at this
  rw [show min 2 xs.length = 2 by omega] at this
  simpa using this
theorem read3 (xs : List Int) (h : 3 ≤ xs.length) : readL (xs.take 3) = (el xs 0 * 256 + el xs 1) * 256 + el xs 2 := by
  have := num3_el xs
  unfold numL at this
  rw [show min 3 xs.length = 3 by omega] at this
  simpa using this
def BodyPost (xs : List Int) (w : World) (e : Ending) (w' : World) : Prop :=
  e = .returned (.tuple #[if frOkS xs = true then (.agg #[.int .i64 (el xs 0), .int .i64 (sY xs), .int .i64 (sT xs), .int .i64 (sV xs)]) else (.agg #[.int .i64 0, .int .i64 0, .int .i64 0, .int .i64 0]), .bool (frOkS xs)]) ∧ Below w.heap.size w w'

set_option maxRecDepth 100000 in
set_option maxHeartbeats 4000000 in
theorem body_not (hi : Nat) (a : Option Addr) (c : Nat) (xs : List Int) (w : World) (hN : Nums .u8 w hi a c xs) (hh : hi ≤ w.heap.size) (hx : IsB xs) (hpos : 1 ≤ xs.length) (hs : ¬ (xs.length : Int) = sizeK (el xs 0)) :
    Calls Tryz.prog 155 #[.slice a xs.length c] w (BodyPost xs w) := by
  have HP := Lib.hid (show ∀ w', Below w.heap.size w w' → BodyPost xs w (.returned (.tuple #[(.agg #[.int .i64 0, .int .i64 0, .int .i64 0, .int .i64 0]), .bool false])) w' from fun w' hb => by
    have e : frOkS xs = false := by unfold frOkS; rw [decide_eq_false hs, Bool.false_and]
    refine ⟨?_, hb⟩
    rw [e]; rfl)
  have hcap := hN.cap
  have hbig := hN.big
  have hK := el_bd hx 0
  obtain ⟨b, off, rfl, hb, hc⟩ : ∃ b off, a = some ⟨b, off, none⟩ ∧ b < hi ∧ ∀ i, i < xs.length → w.cell? ⟨b, off + i, none⟩ = some (.int .u8 (el xs i)) := by
    rcases hN.lies with h | h
    · subst h; simp at hpos
    · exact h
  have h0 := hc 0 (by omega)
  rw [Nat.add_zero] at h0
  have hbs : b < w.heap.size := by omega
  have HS := Lib.hid hs
  have hsz : (((xs.length : Int) == sizeK (el xs 0)) = false) := by simpa using hs
  clear hN hx hc hs
  generalize el xs 0 = K at *
  generalize hsk : sizeK K = S at *
  go_enter Tryz.func155, Tryz.ntmps155
  go_wp2_with (go_at_call 196; refine (size_any _ _).mono ?_; rintro e w' ⟨rfl, rfl⟩; rw [hsk])
  exact bodyPost_ret (v := .tuple #[(.agg #[.int .i64 0, .int .i64 0, .int .i64 0, .int .i64 0]), .bool false]) (by simp [results, Tryz.results155, go_sem]) rfl (HP.out _ (((Below.refl _ w).alloc (Nat.le_refl _) _).alloc (by simp) _))
set_option maxRecDepth 100000 in
set_option maxHeartbeats 4000000 in
theorem body_event (hi : Nat) (a : Option Addr) (c : Nat) (xs : List Int) (w : World) (hN : Nums .u8 w hi a c xs) (hh : hi ≤ w.heap.size) (hx : IsB xs) (hlen : xs.length = 9) (hk : el xs 0 = 1) :
    Calls Tryz.prog 155 #[.slice a 9 c] w (BodyPost xs w) := by
  have HS : Hid (frOkS xs = fOk 1 (sY xs) (sT xs) (sV xs)) := Lib.hid (by unfold frOkS; rw [hk, hlen]; simp [sizeK])
  have HY : Hid (sY xs = el xs 1 * 256 + el xs 2) := Lib.hid (by unfold sY; rw [if_pos hk])
  have HT : Hid (sT xs = (el xs 3 * 256 + el xs 4) * 256 + el xs 5) := Lib.hid (by unfold sT; rw [if_pos hk])
  have HV : Hid (sV xs = (el xs 6 * 256 + el xs 7) * 256 + el xs 8 - 1000000) := Lib.hid (by unfold sV; rw [if_pos hk])
  have HP := Lib.hid (show ∀ ok w', fOk 1 (sY xs) (sT xs) (sV xs) = ok → Below w.heap.size w w' → BodyPost xs w (.returned (.tuple #[if ok = true then (.agg #[.int .i64 1, .int .i64 (sY xs), .int .i64 (sT xs), .int .i64 (sV xs)]) else (.agg #[.int .i64 0, .int .i64 0, .int .i64 0, .int .i64 0]), .bool ok])) w' from fun ok w' ho hb => by
    refine ⟨?_, hb⟩
    rw [HS.out, ho, hk])
  have R1 : Hid (readL ((xs.drop 1).take 2) = sY xs) := Lib.hid (by rw [HY.out, read2 _ (by rw [List.length_drop]; omega), el_drop, el_drop])
  have R2 : Hid (readL ((xs.drop 3).take 3) = sT xs) := Lib.hid (by rw [HT.out, read3 _ (by rw [List.length_drop]; omega), el_drop, el_drop, el_drop])
  have R3 : Hid (readL ((xs.drop 6).take 3) = sV xs + 1000000) := Lib.hid (by rw [HV.out, read3 _ (by rw [List.length_drop]; omega), el_drop, el_drop, el_drop]; simp only [Nat.add_zero, Nat.reduceAdd]; omega)
  have hcap := hN.cap
  have hbig := hN.big
  rw [hlen] at hcap
  have hB := fun i => el_bd hx i
  have yb : 0 ≤ sY xs ∧ sY xs ≤ 65535 := by rw [HY.out]; have := hB 1; have := hB 2; omega
  have tb : 0 ≤ sT xs ∧ sT xs ≤ 16777215 := by rw [HT.out]; have := hB 3; have := hB 4; have := hB 5; omega
  have vb : 0 ≤ sV xs + 1000000 ∧ sV xs + 1000000 ≤ 16777215 := by rw [HV.out]; have := hB 6; have := hB 7; have := hB 8; omega
  obtain ⟨b, off, rfl, hb, hc⟩ : ∃ b off, a = some ⟨b, off, none⟩ ∧ b < hi ∧ ∀ i, i < xs.length → w.cell? ⟨b, off + i, none⟩ = some (.int .u8 (el xs i)) := by
    rcases hN.lies with h | h
    · subst h; simp at hlen
    · exact h
  have h0 := hc 0 (by omega)
  rw [Nat.add_zero, hk] at h0
  have hbs : b < w.heap.size := by omega
  have HN := Lib.hid hN
  have I1 := Lib.hid ((hx.drop 1).take 2)
  have I2 := Lib.hid ((hx.drop 3).take 3)
  have I3 := Lib.hid ((hx.drop 6).take 3)
  have L1 : Hid (2 = ((xs.drop 1).take 2).length) := Lib.hid (by rw [List.length_take, List.length_drop]; omega)
  have L2 : Hid (3 = ((xs.drop 3).take 3).length) := Lib.hid (by rw [List.length_take, List.length_drop]; omega)
  have L3 : Hid (3 = ((xs.drop 6).take 3).length) := Lib.hid (by rw [List.length_take, List.length_drop]; omega)
  have N1 := Lib.hid (hN.sub 1 2 (by omega) (by omega))
  have N2 := Lib.hid (hN.sub 3 3 (by omega) (by omega))
  have N3 := Lib.hid (hN.sub 6 3 (by omega) (by omega))
  have b0 := Lib.hid (fun cs : Array Value => ((Below.refl hi w).alloc hh (.cells #[.int .i64 0, .int .i64 0, .int .i64 0, .int .i64 0] 97)).alloc (by simp; omega) (.cells cs 97))
  clear hN hx hc hB hlen hk
  go_enter Tryz.func155, Tryz.ntmps155
  go_wp2_with (first
    | (go_at_call 196; refine (size_any _ _).mono ?_; rintro e w' ⟨rfl, rfl⟩; rw [show sizeK 1 = 9 from rfl])
    | fail)
  refine (read_any _ 2 (c - 1) _ hi _ (N1.out.below (b0.out _)) L1.out I1.out (by rw [← L1.out]; omega)).mono ?_
  rintro e w' ⟨rfl, rfl⟩
  rw [R1.out]
  go_wp2_with fail
  refine (read_any _ 3 (c - 3) _ hi _ (N2.out.below (b0.out _)) L2.out I2.out (by rw [← L2.out]; omega)).mono ?_
  rintro e w' ⟨rfl, rfl⟩
  rw [R2.out]
  go_wp2_with fail
  refine (read_any _ 3 (c - 6) _ hi _ (N3.out.below (b0.out _)) L3.out I3.out (by rw [← L3.out]; omega)).mono ?_
  rintro e w' ⟨rfl, rfl⟩
  rw [R3.out]
  go_wp2_with fail
  have W0 := Lib.hid (((Below.refl w.heap.size w).alloc (Nat.le_refl _) (.cells #[.int .i64 0, .int .i64 0, .int .i64 0, .int .i64 0] 97)).alloc (by simp) (.cells #[.int .i64 1, .int .i64 (sY xs), .int .i64 (sT xs), .int .i64 (sV xs)] 97))
  have KA := Lib.hid ((Blk.new w 97 #[.int .i64 0, .int .i64 0, .int .i64 0, .int .i64 0]).alloc (.cells #[.int .i64 1, .int .i64 (sY xs), .int .i64 (sT xs), .int .i64 (sV xs)] 97))
  have KB := Lib.hid (show Blk ((w.alloc (.cells #[.int .i64 0, .int .i64 0, .int .i64 0, .int .i64 0] 97)).alloc (.cells #[.int .i64 1, .int .i64 (sY xs), .int .i64 (sT xs), .int .i64 (sV xs)] 97)) (w.heap.size + 1) 97 #[.int .i64 1, .int .i64 (sY xs), .int .i64 (sT xs), .int .i64 (sV xs)] by simpa using Blk.new (w.alloc (.cells #[.int .i64 0, .int .i64 0, .int .i64 0, .int .i64 0] 97)) 97 #[.int .i64 1, .int .i64 (sY xs), .int .i64 (sT xs), .int .i64 (sV xs)])
  refine (specFrameOk_any 1 (sY xs) (sT xs) (sV xs) _).mono ?_
  rintro e w3 ⟨rfl, hb3⟩
  have qA := (KA.out.below hb3).cell
  have fA := (KA.out.below hb3).frozen
  have qB := (KB.out.below hb3).cell
  have W3 := Lib.hid (W0.out.trans (hb3.mono (by simp; omega)))
  clear hb3 W0 KA KB
  cases hok : fOk 1 (sY xs) (sT xs) (sV xs) with
  | false =>
    have HO := Lib.hid hok
    clear hok
    go_wp2
    exact bodyPost_ret (v := .tuple #[(.agg #[.int .i64 0, .int .i64 0, .int .i64 0, .int .i64 0]), .bool false]) (by simp [results, Tryz.results155, go_sem, qA]) rfl (HP.out false _ HO.out (four_below W3.out (Nat.le_refl _)))
  | true =>
    have HO := Lib.hid hok
    clear hok
    go_wp2
    exact bodyPost_ret (v := .tuple #[(.agg #[.int .i64 1, .int .i64 (sY xs), .int .i64 (sT xs), .int .i64 (sV xs)]), .bool true]) (by simp [results, Tryz.results155, go_sem, qA]) rfl (HP.out true _ HO.out (four_below W3.out (Nat.le_refl _)))
set_option maxRecDepth 100000 in
set_option maxHeartbeats 4000000 in
theorem body_mark (hi : Nat) (a : Option Addr) (c : Nat) (xs : List Int) (w : World) (hN : Nums .u8 w hi a c xs) (hh : hi ≤ w.heap.size) (hx : IsB xs) (hlen : xs.length = 4) (hk : el xs 0 = 2) :
    Calls Tryz.prog 155 #[.slice a 4 c] w (BodyPost xs w) := by
  have HS : Hid (frOkS xs = fOk 2 (sY xs) (sT xs) (sV xs)) := Lib.hid (by unfold frOkS; rw [hk, hlen]; simp [sizeK])
  have HY : Hid (sY xs = 0) := Lib.hid (by unfold sY; rw [hk]; rfl)
  have HT : Hid (sT xs = (el xs 1 * 256 + el xs 2) * 256 + el xs 3) := Lib.hid (by unfold sT; rw [hk]; rfl)
  have HV : Hid (sV xs = 0) := Lib.hid (by unfold sV; rw [hk]; rfl)
  have HP := Lib.hid (show ∀ ok w', fOk 2 (sY xs) (sT xs) (sV xs) = ok → Below w.heap.size w w' → BodyPost xs w (.returned (.tuple #[if ok = true then (.agg #[.int .i64 2, .int .i64 (sY xs), .int .i64 (sT xs), .int .i64 (sV xs)]) else (.agg #[.int .i64 0, .int .i64 0, .int .i64 0, .int .i64 0]), .bool ok])) w' from fun ok w' ho hb => by
    refine ⟨?_, hb⟩
    rw [HS.out, ho, hk])
  have R2 : Hid (readL ((xs.drop 1).take 3) = sT xs) := Lib.hid (by rw [HT.out, read3 _ (by rw [List.length_drop]; omega), el_drop, el_drop, el_drop])
  have hcap := hN.cap
  have hbig := hN.big
  rw [hlen] at hcap
  have hB := fun i => el_bd hx i
  have tb : 0 ≤ sT xs ∧ sT xs ≤ 16777215 := by rw [HT.out]; have := hB 1; have := hB 2; have := hB 3; omega
  obtain ⟨b, off, rfl, hb, hc⟩ : ∃ b off, a = some ⟨b, off, none⟩ ∧ b < hi ∧ ∀ i, i < xs.length → w.cell? ⟨b, off + i, none⟩ = some (.int .u8 (el xs i)) := by
    rcases hN.lies with h | h
    · subst h; simp at hlen
    · exact h
  have h0 := hc 0 (by omega)
  rw [Nat.add_zero, hk] at h0
  have hbs : b < w.heap.size := by omega
  have HN := Lib.hid hN
  have I2 := Lib.hid ((hx.drop 1).take 3)
  have L2 : Hid (3 = ((xs.drop 1).take 3).length) := Lib.hid (by rw [List.length_take, List.length_drop]; omega)
  have N2 := Lib.hid (hN.sub 1 3 (by omega) (by omega))
  have b0 := Lib.hid (fun cs : Array Value => ((Below.refl hi w).alloc hh (.cells #[.int .i64 0, .int .i64 0, .int .i64 0, .int .i64 0] 97)).alloc (by simp; omega) (.cells cs 97))
  clear hN hx hc hB hlen hk
  go_enter Tryz.func155, Tryz.ntmps155
  go_wp2_with (first
    | (go_at_call 196; refine (size_any _ _).mono ?_; rintro e w' ⟨rfl, rfl⟩; rw [show sizeK 2 = 4 from rfl])
    | fail)
  refine (read_any _ 3 (c - 1) _ hi _ (N2.out.below (b0.out _)) L2.out I2.out (by rw [← L2.out]; omega)).mono ?_
  rintro e w' ⟨rfl, rfl⟩
  rw [R2.out]
  go_wp2_with fail
  have HP2 : Hid (∀ ok w', fOk 2 0 (sT xs) 0 = ok → Below w.heap.size w w' → BodyPost xs w (.returned (.tuple #[if ok = true then (.agg #[.int .i64 2, .int .i64 0, .int .i64 (sT xs), .int .i64 0]) else (.agg #[.int .i64 0, .int .i64 0, .int .i64 0, .int .i64 0]), .bool ok])) w') := by
    have h := HP.out
    rw [HY.out, HV.out] at h
    exact Lib.hid h
  have W0 := Lib.hid (((Below.refl w.heap.size w).alloc (Nat.le_refl _) (.cells #[.int .i64 0, .int .i64 0, .int .i64 0, .int .i64 0] 97)).alloc (by simp) (.cells #[.int .i64 2, .int .i64 0, .int .i64 (sT xs), .int .i64 0] 97))
  have KA := Lib.hid ((Blk.new w 97 #[.int .i64 0, .int .i64 0, .int .i64 0, .int .i64 0]).alloc (.cells #[.int .i64 2, .int .i64 0, .int .i64 (sT xs), .int .i64 0] 97))
  have KB := Lib.hid (show Blk ((w.alloc (.cells #[.int .i64 0, .int .i64 0, .int .i64 0, .int .i64 0] 97)).alloc (.cells #[.int .i64 2, .int .i64 0, .int .i64 (sT xs), .int .i64 0] 97)) (w.heap.size + 1) 97 #[.int .i64 2, .int .i64 0, .int .i64 (sT xs), .int .i64 0] by simpa using Blk.new (w.alloc (.cells #[.int .i64 0, .int .i64 0, .int .i64 0, .int .i64 0] 97)) 97 #[.int .i64 2, .int .i64 0, .int .i64 (sT xs), .int .i64 0])
  refine (specFrameOk_any 2 0 (sT xs) 0 _).mono ?_
  rintro e w3 ⟨rfl, hb3⟩
  have qA := (KA.out.below hb3).cell
  have fA := (KA.out.below hb3).frozen
  have qB := (KB.out.below hb3).cell
  have W3 := Lib.hid (W0.out.trans (hb3.mono (by simp; omega)))
  clear hb3 W0 KA KB
  cases hok : fOk 2 0 (sT xs) 0 with
  | false =>
    have HO := Lib.hid hok
    clear hok
    go_wp2
    exact bodyPost_ret (v := .tuple #[(.agg #[.int .i64 0, .int .i64 0, .int .i64 0, .int .i64 0]), .bool false]) (by simp [results, Tryz.results155, go_sem, qA]) rfl (HP2.out false _ HO.out (four_below W3.out (Nat.le_refl _)))
  | true =>
    have HO := Lib.hid hok
    clear hok
    go_wp2
    exact bodyPost_ret (v := .tuple #[(.agg #[.int .i64 2, .int .i64 0, .int .i64 (sT xs), .int .i64 0]), .bool true]) (by simp [results, Tryz.results155, go_sem, qA]) rfl (HP2.out true _ HO.out (four_below W3.out (Nat.le_refl _)))
set_option maxRecDepth 100000 in
set_option maxHeartbeats 4000000 in
theorem body_bye (hi : Nat) (a : Option Addr) (c : Nat) (xs : List Int) (w : World) (hN : Nums .u8 w hi a c xs) (hh : hi ≤ w.heap.size) (hx : IsB xs) (hlen : xs.length = 1) (hk : el xs 0 = 3) :
    Calls Tryz.prog 155 #[.slice a 1 c] w (BodyPost xs w) := by
  have HS : Hid (frOkS xs = fOk 3 (sY xs) (sT xs) (sV xs)) := Lib.hid (by unfold frOkS; rw [hk, hlen]; simp [sizeK])
  have HY : Hid (sY xs = 0) := Lib.hid (by unfold sY; rw [hk]; rfl)
  have HT : Hid (sT xs = 0) := Lib.hid (by unfold sT; rw [hk]; rfl)
  have HV : Hid (sV xs = 0) := Lib.hid (by unfold sV; rw [hk]; rfl)
  have HP := Lib.hid (show ∀ ok w', fOk 3 (sY xs) (sT xs) (sV xs) = ok → Below w.heap.size w w' → BodyPost xs w (.returned (.tuple #[if ok = true then (.agg #[.int .i64 3, .int .i64 (sY xs), .int .i64 (sT xs), .int .i64 (sV xs)]) else (.agg #[.int .i64 0, .int .i64 0, .int .i64 0, .int .i64 0]), .bool ok])) w' from fun ok w' ho hb => by
    refine ⟨?_, hb⟩
    rw [HS.out, ho, hk])
  have hcap := hN.cap
  have hbig := hN.big
  rw [hlen] at hcap
  obtain ⟨b, off, rfl, hb, hc⟩ : ∃ b off, a = some ⟨b, off, none⟩ ∧ b < hi ∧ ∀ i, i < xs.length → w.cell? ⟨b, off + i, none⟩ = some (.int .u8 (el xs i)) := by
    rcases hN.lies with h | h
    · subst h; simp at hlen
    · exact h
  have h0 := hc 0 (by omega)
  rw [Nat.add_zero, hk] at h0
  have hbs : b < w.heap.size := by omega
  clear hN hx hc hlen hk
  go_enter Tryz.func155, Tryz.ntmps155
  go_wp2_with (first
    | (go_at_call 196; refine (size_any _ _).mono ?_; rintro e w' ⟨rfl, rfl⟩; rw [show sizeK 3 = 1 from rfl])
    | fail)
  have HP2 : Hid (∀ ok w', fOk 3 0 0 0 = ok → Below w.heap.size w w' → BodyPost xs w (.returned (.tuple #[if ok = true then (.agg #[.int .i64 3, .int .i64 0, .int .i64 0, .int .i64 0]) else (.agg #[.int .i64 0, .int .i64 0, .int .i64 0, .int .i64 0]), .bool ok])) w') := by
    have h := HP.out
    rw [HY.out, HT.out, HV.out] at h
    exact Lib.hid h
  have W0 := Lib.hid (((Below.refl w.heap.size w).alloc (Nat.le_refl _) (.cells #[.int .i64 0, .int .i64 0, .int .i64 0, .int .i64 0] 97)).alloc (by simp) (.cells #[.int .i64 3, .int .i64 0, .int .i64 0, .int .i64 0] 97))
  have KA := Lib.hid ((Blk.new w 97 #[.int .i64 0, .int .i64 0, .int .i64 0, .int .i64 0]).alloc (.cells #[.int .i64 3, .int .i64 0, .int .i64 0, .int .i64 0] 97))
  have KB := Lib.hid (show Blk ((w.alloc (.cells #[.int .i64 0, .int .i64 0, .int .i64 0, .int .i64 0] 97)).alloc (.cells #[.int .i64 3, .int .i64 0, .int .i64 0, .int .i64 0] 97)) (w.heap.size + 1) 97 #[.int .i64 3, .int .i64 0, .int .i64 0, .int .i64 0] by simpa using Blk.new (w.alloc (.cells #[.int .i64 0, .int .i64 0, .int .i64 0, .int .i64 0] 97)) 97 #[.int .i64 3, .int .i64 0, .int .i64 0, .int .i64 0])
  refine (specFrameOk_any 3 0 0 0 _).mono ?_
  rintro e w3 ⟨rfl, hb3⟩
  have qA := (KA.out.below hb3).cell
  have fA := (KA.out.below hb3).frozen
  have qB := (KB.out.below hb3).cell
  have W3 := Lib.hid (W0.out.trans (hb3.mono (by simp; omega)))
  clear hb3 W0 KA KB
  cases hok : fOk 3 0 0 0 with
  | false =>
    have HO := Lib.hid hok
    clear hok
    go_wp2
    exact bodyPost_ret (v := .tuple #[(.agg #[.int .i64 0, .int .i64 0, .int .i64 0, .int .i64 0]), .bool false]) (by simp [results, Tryz.results155, go_sem, qA]) rfl (HP2.out false _ HO.out (four_below W3.out (Nat.le_refl _)))
  | true =>
    have HO := Lib.hid hok
    clear hok
    go_wp2
    exact bodyPost_ret (v := .tuple #[(.agg #[.int .i64 3, .int .i64 0, .int .i64 0, .int .i64 0]), .bool true]) (by simp [results, Tryz.results155, go_sem, qA]) rfl (HP2.out true _ HO.out (four_below W3.out (Nat.le_refl _)))
theorem body_any (hi : Nat) (a : Option Addr) (c : Nat) (xs : List Int) (w : World) (hN : Nums .u8 w hi a c xs) (hh : hi ≤ w.heap.size) (hx : IsB xs) (hpos : 1 ≤ xs.length) :
    Calls Tryz.prog 155 #[.slice a xs.length c] w (BodyPost xs w) := by
  by_cases hs : (xs.length : Int) = sizeK (el xs 0)
  · by_cases h1 : el xs 0 = 1
    · have hl : xs.length = 9 := by rw [h1] at hs; simp [sizeK] at hs; omega
      rw [hl]; exact body_event hi a c xs w hN hh hx hl h1
    by_cases h2 : el xs 0 = 2
    · have hl : xs.length = 4 := by rw [h2] at hs; simp [sizeK] at hs; omega
      rw [hl]; exact body_mark hi a c xs w hN hh hx hl h2
    by_cases h3 : el xs 0 = 3
    · have hl : xs.length = 1 := by rw [h3] at hs; simp [sizeK] at hs; omega
      rw [hl]; exact body_bye hi a c xs w hN hh hx hl h3
    · unfold sizeK at hs
      rw [if_neg h1, if_neg h2, if_neg h3] at hs
      omega
  · exact body_not hi a c xs w hN hh hx hpos hs

end Go.Proofs.YtnfhlfbkdhpacaaGreatDoor
