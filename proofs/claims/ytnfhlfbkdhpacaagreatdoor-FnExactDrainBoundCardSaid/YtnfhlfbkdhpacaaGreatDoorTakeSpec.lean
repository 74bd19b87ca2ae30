/- Contract of spec.TakeFrame. -/
import Derived.Test.YtnfhlfbkdhpacaaGreatDoorSpecBegins
import Derived.Test.YtnfhlfbkdhpacaaGreatDoorTakeImpl
namespace Go.Proofs.YtnfhlfbkdhpacaaGreatDoor
open Go.RowKit

set_option maxRecDepth 100000 in
set_option maxHeartbeats 1000000 in
theorem specTake_bad (hi : Nat) (a : Option Addr) (c : Nat) (xs : List Int) (w : World) (hN : Nums .u8 w hi a c xs) (hh : hi ≤ w.heap.size) (hx : IsB xs) (hb : begS xs = false) :
    Calls Tryz.prog 103 #[.slice a xs.length c] w (TakePost xs w) := by
  have HT := Lib.hid ((begS_tk xs hx).1 hb)
  have A0 := (Below.refl w.heap.size w).alloc (Nat.le_refl _) (.cells #[.int .i64 0, .int .i64 0, .int .i64 0, .int .i64 0] 97)
  have K0 := Lib.hid (Blk.new w 97 #[.int .i64 0, .int .i64 0, .int .i64 0, .int .i64 0])
  have hbeg := begins_any hi a c xs (w.alloc (.cells #[.int .i64 0, .int .i64 0, .int .i64 0, .int .i64 0] 97)) (hN.below (A0.mono hh)) (by simp; omega) hx
  have HA := Lib.hid A0
  have HBEG := Lib.hid hbeg
  clear hbeg A0 hN hx
  go_enter Tryz.func103, Tryz.ntmps103
  go_wp2_with fail
  refine HBEG.out.mono ?_
  rintro e w1 ⟨rfl, hb1⟩
  rw [hb]
  have B1 := Lib.hid (HA.out.trans (hb1.mono (by simp)))
  have q := (K0.out.below hb1).cell
  have f := (K0.out.below hb1).frozen
  clear hb1
  go_wp2
  exact bodyPost_ret (v := .tuple #[(.agg #[.int .i64 0, .int .i64 0, .int .i64 0, .int .i64 0]), .int .i64 (-1)]) (by simp [results, Tryz.results103, go_sem, q]) rfl (take_bad HT.out.1 HT.out.2 (four_below B1.out (Nat.le_refl _)))
set_option maxRecDepth 100000 in
set_option maxHeartbeats 1000000 in
theorem specTake_zero (hi : Nat) (a : Option Addr) (c : Nat) (xs : List Int) (w : World) (hN : Nums .u8 w hi a c xs) (hh : hi ≤ w.heap.size) (hx : IsB xs) (hl : xs.length = 0) :
    Calls Tryz.prog 103 #[.slice a 0 c] w (TakePost xs w) := by
  have hb : begS xs = true := by unfold begS; rw [if_pos hl]
  have HT := Lib.hid ((begS_tk xs hx).2.1 hb (.inl hl))
  have A0 := (Below.refl w.heap.size w).alloc (Nat.le_refl _) (.cells #[.int .i64 0, .int .i64 0, .int .i64 0, .int .i64 0] 97)
  have K0 := Lib.hid (Blk.new w 97 #[.int .i64 0, .int .i64 0, .int .i64 0, .int .i64 0])
  have hbeg := begins_any hi a c xs (w.alloc (.cells #[.int .i64 0, .int .i64 0, .int .i64 0, .int .i64 0] 97)) (hN.below (A0.mono hh)) (by simp; omega) hx
  rw [hl] at hbeg
  have HA := Lib.hid A0
  have HBEG := Lib.hid hbeg
  clear hbeg A0 hN hx
  go_enter Tryz.func103, Tryz.ntmps103
  go_wp2_with fail
  refine HBEG.out.mono ?_
  rintro e w1 ⟨rfl, hb1⟩
  rw [hb]
  have B1 := Lib.hid (HA.out.trans (hb1.mono (by simp)))
  have q := (K0.out.below hb1).cell
  have f := (K0.out.below hb1).frozen
  clear hb1
  go_wp2
  exact bodyPost_ret (v := .tuple #[(.agg #[.int .i64 0, .int .i64 0, .int .i64 0, .int .i64 0]), .int .i64 0]) (by simp [results, Tryz.results103, go_sem, q]) rfl (take_more HT.out.1 HT.out.2 (four_below B1.out (Nat.le_refl _)))
set_option maxRecDepth 100000 in
set_option maxHeartbeats 1000000 in
theorem specTake_short (hi : Nat) (a : Option Addr) (c : Nat) (xs : List Int) (w : World) (hN : Nums .u8 w hi a c xs) (hh : hi ≤ w.heap.size) (hx : IsB xs) (hl : ¬ xs.length = 0) (hs : (xs.length : Int) < el xs 0 + 5) (hb : begS xs = true) :
    Calls Tryz.prog 103 #[.slice a xs.length c] w (TakePost xs w) := by
  have HT := Lib.hid ((begS_tk xs hx).2.1 hb (.inr hs))
  have hcap := hN.cap
  have hbig := hN.big
  have A0 := (Below.refl w.heap.size w).alloc (Nat.le_refl _) (.cells #[.int .i64 0, .int .i64 0, .int .i64 0, .int .i64 0] 97)
  have K0 := Lib.hid (Blk.new w 97 #[.int .i64 0, .int .i64 0, .int .i64 0, .int .i64 0])
  have hbeg := begins_any hi a c xs (w.alloc (.cells #[.int .i64 0, .int .i64 0, .int .i64 0, .int .i64 0] 97)) (hN.below (A0.mono hh)) (by simp; omega) hx
  have HA := Lib.hid A0
  have HBEG := Lib.hid hbeg
  obtain ⟨b, off, rfl, hbh, hc⟩ := hN.lies.resolve_left (by intro h; subst h; simp at hl)
  have hc0 := hc 0 (by omega)
  rw [Nat.add_zero] at hc0
  have hx0 := el_bd hx 0
  clear hbeg A0 hN hx hc
  generalize el xs 0 = K at *
  go_enter Tryz.func103, Tryz.ntmps103
  go_wp2_with fail
  refine HBEG.out.mono ?_
  rintro e w1 ⟨rfl, hb1⟩
  rw [hb]
  have B1 := Lib.hid (HA.out.trans (hb1.mono (by simp)))
  have q := (K0.out.below hb1).cell
  have f := (K0.out.below hb1).frozen
  have hc1 := (B1.out.cell (p := ⟨b, off, none⟩) (show b < w.heap.size by omega)).trans hc0
  clear hb1
  go_wp2
  all_goals exact bodyPost_ret (v := .tuple #[(.agg #[.int .i64 0, .int .i64 0, .int .i64 0, .int .i64 0]), .int .i64 0]) (by simp [results, Tryz.results103, go_sem, q]) rfl (take_more HT.out.1 HT.out.2 (four_below B1.out (Nat.le_refl _)))
set_option maxRecDepth 100000 in
set_option maxHeartbeats 2000000 in
theorem specTake_full_9 (hi : Nat) (a : Option Addr) (c : Nat) (xs : List Int) (w : World) (hN : Nums .u8 w hi a c xs) (hh : hi ≤ w.heap.size) (hx : IsB xs) (h0 : el xs 0 = 9) (hs : 9 + 5 ≤ xs.length) (hb : begS xs = true) :
    Calls Tryz.prog 103 #[.slice a xs.length c] w (TakePost xs w) := by
  have hT := (begS_tk xs hx).2.2 hb (by omega) (by omega)
  have hk : sizeK (el xs 1) = 9 := by rw [hT.2.2.2, h0]
  have hlen : (put0 xs).length = 9 + 5 := by have := hT.2.1; omega
  have hok : frOkS (padB 9 xs) = true := by
    cases h : frOkS (padB 9 xs) with
    | true => rfl
    | false => rw [(begS_body (n := 9) (by omega) (by omega) (by omega) hk).1 h] at hb; simp at hb
  have hpf := pad_fields xs 9 (by omega) (by omega) hk
  have hpad : (xs.drop 1).take 9 = padB 9 xs := by
    unfold padB
    rw [show 9 - ((xs.drop 1).take 9).length = 0 by rw [List.length_take, List.length_drop]; omega]
    simp
  have HP := Lib.hid (show ∀ w', Below w.heap.size w w' → TakePost xs w (.returned (.tuple #[(.agg #[.int .i64 (f0K xs), .int .i64 (f0Y xs), .int .i64 (f0T xs), .int .i64 (f0V xs)]), .int .i64 (9 + 5)])) w' from fun w' h => by
    have := take_here hT.1 h
    rw [hlen] at this
    exact this)
  have HV : Hid ((if frOkS (padB 9 xs) = true then ((.agg #[.int .i64 (el (padB 9 xs) 0), .int .i64 (sY (padB 9 xs)), .int .i64 (sT (padB 9 xs)), .int .i64 (sV (padB 9 xs))]) : Value) else (.agg #[.int .i64 0, .int .i64 0, .int .i64 0, .int .i64 0])) = (.agg #[.int .i64 (f0K xs), .int .i64 (f0Y xs), .int .i64 (f0T xs), .int .i64 (f0V xs)])) := Lib.hid (by rw [if_pos hok, hpf.1, hpf.2.1, hpf.2.2.1, hpf.2.2.2])
  have hcap := hN.cap
  have hbig := hN.big
  have A0 := (Below.refl w.heap.size w).alloc (Nat.le_refl _) (.cells #[.int .i64 0, .int .i64 0, .int .i64 0, .int .i64 0] 97)
  have K0 := Lib.hid (Blk.new w 97 #[.int .i64 0, .int .i64 0, .int .i64 0, .int .i64 0])
  have hbeg := begins_any hi a c xs (w.alloc (.cells #[.int .i64 0, .int .i64 0, .int .i64 0, .int .i64 0] 97)) (hN.below (A0.mono hh)) (by simp; omega) hx
  have HA := Lib.hid A0
  have HBEG := Lib.hid hbeg
  have HS := Lib.hid (hN.sub 1 9 (by omega) (by omega))
  have HI := Lib.hid ((hx.drop 1).take 9)
  rw [hpad] at HS HI
  have HPL := Lib.hid (padB_len 9 xs)
  obtain ⟨b, off, rfl, hbh, hc⟩ := hN.lies.resolve_left (by intro h; subst h; simp at hs)
  have hc0 := hc 0 (by omega)
  rw [Nat.add_zero, h0] at hc0
  have hl0 : (((xs.length : Int) == 0) = false) := by simp; intro h; subst h; simp at hs
  have hl1 : ¬ (xs.length : Int) < 9 + 5 := by omega
  clear hbeg A0 hN hx hc hT hpf hpad hk hlen hok
  go_enter Tryz.func103, Tryz.ntmps103
  go_wp2_with fail
  refine HBEG.out.mono ?_
  rintro e w1 ⟨rfl, hb1⟩
  rw [hb]
  have B1 := Lib.hid (HA.out.trans (hb1.mono (by simp)))
  have K1 := Lib.hid (K0.out.below hb1)
  have hc1 := (B1.out.cell (p := ⟨b, off, none⟩) (show b < w.heap.size by omega)).trans hc0
  have hsz1 := B1.out.size
  clear hb1
  go_wp2_with fail
  have hbd := body_any hi _ _ (padB 9 xs) w1 (HS.out.below (B1.out.mono hh)) (by omega) HI.out (by rw [HPL.out]; omega)
  rw [HPL.out] at hbd
  refine hbd.mono ?_
  clear hbd
  rintro e w2 ⟨rfl, hb2⟩
  rw [HV.out]
  have B2 := Lib.hid (B1.out.trans (hb2.mono hsz1))
  have q := (K1.out.below hb2).cell
  have f := (K1.out.below hb2).frozen
  have K3 := Lib.hid ((K1.out.below hb2).alloc (.cells #[.int .i64 (f0K xs), .int .i64 (f0Y xs), .int .i64 (f0T xs), .int .i64 (f0V xs)] 97))
  have q3 := K3.out.cell
  have f3 := K3.out.frozen
  have hsz2 := B2.out.size
  clear hb2
  go_wp2
  exact bodyPost_ret (v := .tuple #[(.agg #[.int .i64 (f0K xs), .int .i64 (f0Y xs), .int .i64 (f0T xs), .int .i64 (f0V xs)]), .int .i64 (9 + 5)]) (by simp [results, Tryz.results103, go_sem, q3]) rfl (HP.out _ (four_below (B2.out.alloc hsz2 _) (Nat.le_refl _)))
set_option maxRecDepth 100000 in
set_option maxHeartbeats 2000000 in
theorem specTake_full_4 (hi : Nat) (a : Option Addr) (c : Nat) (xs : List Int) (w : World) (hN : Nums .u8 w hi a c xs) (hh : hi ≤ w.heap.size) (hx : IsB xs) (h0 : el xs 0 = 4) (hs : 4 + 5 ≤ xs.length) (hb : begS xs = true) :
    Calls Tryz.prog 103 #[.slice a xs.length c] w (TakePost xs w) := by
  have hT := (begS_tk xs hx).2.2 hb (by omega) (by omega)
  have hk : sizeK (el xs 1) = 4 := by rw [hT.2.2.2, h0]
  have hlen : (put0 xs).length = 4 + 5 := by have := hT.2.1; omega
  have hok : frOkS (padB 4 xs) = true := by
    cases h : frOkS (padB 4 xs) with
    | true => rfl
    | false => rw [(begS_body (n := 4) (by omega) (by omega) (by omega) hk).1 h] at hb; simp at hb
  have hpf := pad_fields xs 4 (by omega) (by omega) hk
  have hpad : (xs.drop 1).take 4 = padB 4 xs := by
    unfold padB
    rw [show 4 - ((xs.drop 1).take 4).length = 0 by rw [List.length_take, List.length_drop]; omega]
    simp
  have HP := Lib.hid (show ∀ w', Below w.heap.size w w' → TakePost xs w (.returned (.tuple #[(.agg #[.int .i64 (f0K xs), .int .i64 (f0Y xs), .int .i64 (f0T xs), .int .i64 (f0V xs)]), .int .i64 (4 + 5)])) w' from fun w' h => by
    have := take_here hT.1 h
    rw [hlen] at this
    exact this)
  have HV : Hid ((if frOkS (padB 4 xs) = true then ((.agg #[.int .i64 (el (padB 4 xs) 0), .int .i64 (sY (padB 4 xs)), .int .i64 (sT (padB 4 xs)), .int .i64 (sV (padB 4 xs))]) : Value) else (.agg #[.int .i64 0, .int .i64 0, .int .i64 0, .int .i64 0])) = (.agg #[.int .i64 (f0K xs), .int .i64 (f0Y xs), .int .i64 (f0T xs), .int .i64 (f0V xs)])) := Lib.hid (by rw [if_pos hok, hpf.1, hpf.2.1, hpf.2.2.1, hpf.2.2.2])
  have hcap := hN.cap
  have hbig := hN.big
  have A0 := (Below.refl w.heap.size w).alloc (Nat.le_refl _) (.cells #[.int .i64 0, .int .i64 0, .int .i64 0, .int .i64 0] 97)
  have K0 := Lib.hid (Blk.new w 97 #[.int .i64 0, .int .i64 0, .int .i64 0, .int .i64 0])
  have hbeg := begins_any hi a c xs (w.alloc (.cells #[.int .i64 0, .int .i64 0, .int .i64 0, .int .i64 0] 97)) (hN.below (A0.mono hh)) (by simp; omega) hx
  have HA := Lib.hid A0
  have HBEG := Lib.hid hbeg
  have HS := Lib.hid (hN.sub 1 4 (by omega) (by omega))
  have HI := Lib.hid ((hx.drop 1).take 4)
  rw [hpad] at HS HI
  have HPL := Lib.hid (padB_len 4 xs)
  obtain ⟨b, off, rfl, hbh, hc⟩ := hN.lies.resolve_left (by intro h; subst h; simp at hs)
  have hc0 := hc 0 (by omega)
  rw [Nat.add_zero, h0] at hc0
  have hl0 : (((xs.length : Int) == 0) = false) := by simp; intro h; subst h; simp at hs
  have hl1 : ¬ (xs.length : Int) < 4 + 5 := by omega
  clear hbeg A0 hN hx hc hT hpf hpad hk hlen hok
  go_enter Tryz.func103, Tryz.ntmps103
  go_wp2_with fail
  refine HBEG.out.mono ?_
  rintro e w1 ⟨rfl, hb1⟩
  rw [hb]
  have B1 := Lib.hid (HA.out.trans (hb1.mono (by simp)))
  have K1 := Lib.hid (K0.out.below hb1)
  have hc1 := (B1.out.cell (p := ⟨b, off, none⟩) (show b < w.heap.size by omega)).trans hc0
  have hsz1 := B1.out.size
  clear hb1
  go_wp2_with fail
  have hbd := body_any hi _ _ (padB 4 xs) w1 (HS.out.below (B1.out.mono hh)) (by omega) HI.out (by rw [HPL.out]; omega)
  rw [HPL.out] at hbd
  refine hbd.mono ?_
  clear hbd
  rintro e w2 ⟨rfl, hb2⟩
  rw [HV.out]
  have B2 := Lib.hid (B1.out.trans (hb2.mono hsz1))
  have q := (K1.out.below hb2).cell
  have f := (K1.out.below hb2).frozen
  have K3 := Lib.hid ((K1.out.below hb2).alloc (.cells #[.int .i64 (f0K xs), .int .i64 (f0Y xs), .int .i64 (f0T xs), .int .i64 (f0V xs)] 97))
  have q3 := K3.out.cell
  have f3 := K3.out.frozen
  have hsz2 := B2.out.size
  clear hb2
  go_wp2
  exact bodyPost_ret (v := .tuple #[(.agg #[.int .i64 (f0K xs), .int .i64 (f0Y xs), .int .i64 (f0T xs), .int .i64 (f0V xs)]), .int .i64 (4 + 5)]) (by simp [results, Tryz.results103, go_sem, q3]) rfl (HP.out _ (four_below (B2.out.alloc hsz2 _) (Nat.le_refl _)))
set_option maxRecDepth 100000 in
set_option maxHeartbeats 2000000 in
theorem specTake_full_1 (hi : Nat) (a : Option Addr) (c : Nat) (xs : List Int) (w : World) (hN : Nums .u8 w hi a c xs) (hh : hi ≤ w.heap.size) (hx : IsB xs) (h0 : el xs 0 = 1) (hs : 1 + 5 ≤ xs.length) (hb : begS xs = true) :
    Calls Tryz.prog 103 #[.slice a xs.length c] w (TakePost xs w) := by
  have hT := (begS_tk xs hx).2.2 hb (by omega) (by omega)
  have hk : sizeK (el xs 1) = 1 := by rw [hT.2.2.2, h0]
  have hlen : (put0 xs).length = 1 + 5 := by have := hT.2.1; omega
  have hok : frOkS (padB 1 xs) = true := by
    cases h : frOkS (padB 1 xs) with
    | true => rfl
    | false => rw [(begS_body (n := 1) (by omega) (by omega) (by omega) hk).1 h] at hb; simp at hb
  have hpf := pad_fields xs 1 (by omega) (by omega) hk
  have hpad : (xs.drop 1).take 1 = padB 1 xs := by
    unfold padB
    rw [show 1 - ((xs.drop 1).take 1).length = 0 by rw [List.length_take, List.length_drop]; omega]
    simp
  have HP := Lib.hid (show ∀ w', Below w.heap.size w w' → TakePost xs w (.returned (.tuple #[(.agg #[.int .i64 (f0K xs), .int .i64 (f0Y xs), .int .i64 (f0T xs), .int .i64 (f0V xs)]), .int .i64 (1 + 5)])) w' from fun w' h => by
    have := take_here hT.1 h
    rw [hlen] at this
    exact this)
  have HV : Hid ((if frOkS (padB 1 xs) = true then ((.agg #[.int .i64 (el (padB 1 xs) 0), .int .i64 (sY (padB 1 xs)), .int .i64 (sT (padB 1 xs)), .int .i64 (sV (padB 1 xs))]) : Value) else (.agg #[.int .i64 0, .int .i64 0, .int .i64 0, .int .i64 0])) = (.agg #[.int .i64 (f0K xs), .int .i64 (f0Y xs), .int .i64 (f0T xs), .int .i64 (f0V xs)])) := Lib.hid (by rw [if_pos hok, hpf.1, hpf.2.1, hpf.2.2.1, hpf.2.2.2])
  have hcap := hN.cap
  have hbig := hN.big
  have A0 := (Below.refl w.heap.size w).alloc (Nat.le_refl _) (.cells #[.int .i64 0, .int .i64 0, .int .i64 0, .int .i64 0] 97)
  have K0 := Lib.hid (Blk.new w 97 #[.int .i64 0, .int .i64 0, .int .i64 0, .int .i64 0])
  have hbeg := begins_any hi a c xs (w.alloc (.cells #[.int .i64 0, .int .i64 0, .int .i64 0, .int .i64 0] 97)) (hN.below (A0.mono hh)) (by simp; omega) hx
  have HA := Lib.hid A0
  have HBEG := Lib.hid hbeg
  have HS := Lib.hid (hN.sub 1 1 (by omega) (by omega))
  have HI := Lib.hid ((hx.drop 1).take 1)
  rw [hpad] at HS HI
  have HPL := Lib.hid (padB_len 1 xs)
  obtain ⟨b, off, rfl, hbh, hc⟩ := hN.lies.resolve_left (by intro h; subst h; simp at hs)
  have hc0 := hc 0 (by omega)
  rw [Nat.add_zero, h0] at hc0
  have hl0 : (((xs.length : Int) == 0) = false) := by simp; intro h; subst h; simp at hs
  have hl1 : ¬ (xs.length : Int) < 1 + 5 := by omega
  clear hbeg A0 hN hx hc hT hpf hpad hk hlen hok
  go_enter Tryz.func103, Tryz.ntmps103
  go_wp2_with fail
  refine HBEG.out.mono ?_
  rintro e w1 ⟨rfl, hb1⟩
  rw [hb]
  have B1 := Lib.hid (HA.out.trans (hb1.mono (by simp)))
  have K1 := Lib.hid (K0.out.below hb1)
  have hc1 := (B1.out.cell (p := ⟨b, off, none⟩) (show b < w.heap.size by omega)).trans hc0
  have hsz1 := B1.out.size
  clear hb1
  go_wp2_with fail
  have hbd := body_any hi _ _ (padB 1 xs) w1 (HS.out.below (B1.out.mono hh)) (by omega) HI.out (by rw [HPL.out]; omega)
  rw [HPL.out] at hbd
  refine hbd.mono ?_
  clear hbd
  rintro e w2 ⟨rfl, hb2⟩
  rw [HV.out]
  have B2 := Lib.hid (B1.out.trans (hb2.mono hsz1))
  have q := (K1.out.below hb2).cell
  have f := (K1.out.below hb2).frozen
  have K3 := Lib.hid ((K1.out.below hb2).alloc (.cells #[.int .i64 (f0K xs), .int .i64 (f0Y xs), .int .i64 (f0T xs), .int .i64 (f0V xs)] 97))
  have q3 := K3.out.cell
  have f3 := K3.out.frozen
  have hsz2 := B2.out.size
  clear hb2
  go_wp2
  exact bodyPost_ret (v := .tuple #[(.agg #[.int .i64 (f0K xs), .int .i64 (f0Y xs), .int .i64 (f0T xs), .int .i64 (f0V xs)]), .int .i64 (1 + 5)]) (by simp [results, Tryz.results103, go_sem, q3]) rfl (HP.out _ (four_below (B2.out.alloc hsz2 _) (Nat.le_refl _)))
theorem specTake_any (hi : Nat) (a : Option Addr) (c : Nat) (xs : List Int) (w : World) (hN : Nums .u8 w hi a c xs) (hh : hi ≤ w.heap.size) (hx : IsB xs) :
    Calls Tryz.prog 103 #[.slice a xs.length c] w (TakePost xs w) := by
  cases hb : begS xs with
  | false => exact specTake_bad hi a c xs w hN hh hx hb
  | true =>
    by_cases hl : xs.length = 0
    · rw [hl]; exact specTake_zero hi a c xs w hN hh hx hl
    by_cases hs : (xs.length : Int) < el xs 0 + 5
    · exact specTake_short hi a c xs w hN hh hx hl hs hb
    · have hT := (begS_tk xs hx).2.2 hb hl hs
      rcases hT.2.2.1 with h | h | h
      · exact specTake_full_9 hi a c xs w hN hh hx h (by omega) hb
      · exact specTake_full_4 hi a c xs w hN hh hx h (by omega) hb
      · exact specTake_full_1 hi a c xs w hN hh hx h (by omega) hb

end Go.Proofs.YtnfhlfbkdhpacaaGreatDoor
