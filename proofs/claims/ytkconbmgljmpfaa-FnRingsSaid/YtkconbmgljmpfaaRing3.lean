/- Contracts of impl.RingOk, of NewRing and of LinkOk, on impl's and on spec's side. -/
import Derived.Test.YtkconbmgljmpfaaRing2
import Derived.Test.YtkconbmgljmpfaaCred
namespace Go.Proofs.Ytkconbmgljmpfaa
open Go.RowKit

set_option maxHeartbeats 1000000 in
theorem implRingOk_any (a : Option Addr) (n c : Nat) (hd ct : Int) (xs : List Int) (hi : Nat) (w : World) (hr : Nums .i64 w hi a c xs) (hn : n = xs.length) (hB : hi ≤ w.heap.size) (hlen : xs.length ≤ 1048576) :
    Calls Try.prog 22 #[.agg #[.slice a n c, .int .i64 hd, .int .i64 ct]] w fun e w' => e = .returned (.bool (rOk xs hd ct)) ∧ Below w.heap.size w w' := by
  have b1 := (Below.refl w.heap.size w).alloc (Nat.le_refl _) (.cells #[.slice a n c, .int .i64 hd, .int .i64 ct] 28)
  have HN := Lib.hid (hr.below (b1.mono hB))
  have B1 := Lib.hid b1
  have HL := Lib.hid hn
  clear hr b1 hn
  go_enter Try.func22, Try.ntmps22
  go_wp2_with fail
  refine (ringOf_any a n c hd ct xs hi _ HN.out HL.out (by simp; omega) hlen).mono ?_
  rintro e w1 ⟨a1, c1, rfl, ho, hb⟩
  have B2 := Lib.hid (B1.out.trans (hb.mono (by simp)))
  have HO := Lib.hid (Nums.of_own ho).2
  clear ho hb
  go_wp2_with fail
  refine (ringOk_any a1 _ c1 hd ct xs _ _ HO.out rfl (Nat.le_refl _) hlen).mono ?_
  rintro e w2 ⟨rfl, hb⟩
  have B3 := Lib.hid (B2.out.trans (hb.mono B2.out.size))
  clear hb
  go_wp2
  go_ret
  exact ⟨rfl, B3.out⟩

/-- A ring and whether: of the call's own memory. -/
def FreshRingOk (T : TypeId) (xs : List Int) (hd ct : Int) (ok : Bool) (w : World) (e : Ending) (w' : World) : Prop :=
  ∃ a c, e = .returned (.tuple #[.agg #[.slice a xs.length c, .int .i64 hd, .int .i64 ct], .bool ok]) ∧ w'.ownsRow w.heap.size T 1 (.slice a xs.length c) xs.length (xs.map (Value.int .i64)) ∧ Below w.heap.size w w'
def newL (n : Int) : List Int := if inB n 1 20 = true then List.replicate n.toNat 0 else []
theorem newL_no {n : Int} (h : inB n 1 20 = false) : newL n = [] := by simp [newL, h]
theorem newL_yes {n : Nat} (h : inB (n : Int) 1 20 = true) : newL (n : Int) = List.replicate n 0 := by simp [newL, h]
theorem madeRep (m : Nat) : madeCells #[Value.int .i64 0] m = fullK .i64 (List.replicate m 0) := by
  have h := partK_zero .i64 (List.replicate m 0)
  rw [List.length_replicate] at h
  rw [h]
  simp [partK, fullK]
/-- A new row of noughts. -/
theorem own_rep (w : World) (T : TypeId) (m lo : Nat) (hlo : lo ≤ w.heap.size) (hm : m ≤ 1048576) : (w.alloc (.cells (fullK .i64 (List.replicate m 0)) T)).ownsRow lo T 1 (.slice (some ⟨w.heap.size, 0, none⟩) (List.replicate m (0 : Int)).length m) (List.replicate m (0 : Int)).length ((List.replicate m (0 : Int)).map (Value.int .i64)) := by
  have := World.ownsRow_lit (e := T) (size := 1) (base := lo) w (fullK .i64 (List.replicate m 0)) m hlo (by unfold maxLen; omega) (by simp [fullK])
  simpa [fullK] using this

set_option maxHeartbeats 1000000 in
theorem implNew_any (n : Int) (w : World) : Calls Try.prog 25 #[.int .i64 n] w (FreshRingOk 3 (newL n) 0 0 (inB n 1 20) w) := by
  have B1 := Lib.hid ((Below.refl w.heap.size w).alloc (Nat.le_refl _) (.cells #[.slice none 0 0, .int .i64 0, .int .i64 0] 28))
  cases hk : inB n 1 20 with
  | false =>
    rw [newL_no hk]
    have HP : Hid (FreshRingOk 3 [] 0 0 false w (.returned (.tuple #[.agg #[.slice none 0 0, .int .i64 0, .int .i64 0], .bool false])) (w.alloc (.cells #[.slice none 0 0, .int .i64 0, .int .i64 0] 28))) :=
      ⟨none, 0, rfl, World.ownsRow_nil _ _ _ _, B1.out⟩
    go_enter Try.func25, Try.ntmps25
    go_wp2_with fail
    refine (isCap_any n _).mono ?_
    rintro e w' ⟨rfl, rfl⟩
    go_wp2
    exact bodyPost_ret (v := .tuple #[.agg #[.slice none 0 0, .int .i64 0, .int .i64 0], .bool false]) (by simp [results, Try.results25, go_sem]) rfl HP.out
  | true =>
    obtain ⟨m, rfl⟩ : ∃ m : Nat, n = m := ⟨n.toNat, by have := inB_iff.1 hk; omega⟩
    have hm := inB_iff.1 hk
    rw [newL_yes hk]
    have hmk := fun W => run_make_row' (P := Try.prog) 24 3 (.int .i64 0) 8 Try.underlying24 infoI64 rfl .i64 .i64 m (by omega) (by omega) W
    rw [madeRep] at hmk
    have HO := Lib.hid (own_rep (w.alloc (.cells #[.slice none 0 0, .int .i64 0, .int .i64 0] 28)) 3 m (w.heap.size + 1) (by simp) (by omega))
    have HP : Hid (FreshRingOk 3 (List.replicate m 0) 0 0 true w (.returned (.tuple #[.agg #[.slice (some ⟨w.heap.size + 1, 0, none⟩) m m, .int .i64 0, .int .i64 0], .bool true])) ((w.alloc (.cells #[.slice (some ⟨w.heap.size + 1, 0, none⟩) m m, .int .i64 0, .int .i64 0] 28)).alloc (.cells (fullK .i64 (List.replicate m 0)) 3))) := by
      have h := own_rep (w.alloc (.cells #[.slice (some ⟨w.heap.size + 1, 0, none⟩) m m, .int .i64 0, .int .i64 0] 28)) 3 m w.heap.size (by simp) (by omega)
      simp only [World.size_alloc] at h
      exact ⟨_, _, by simp, h, ((Below.refl w.heap.size w).alloc (Nat.le_refl _) _).alloc (by simp) _⟩
    clear hk
    have HK := Lib.hid (inB_yes hm.1 hm.2)
    go_enter Try.func25, Try.ntmps25
    go_wp2_with fail
    refine (isCap_any m _).mono ?_
    rintro e w' ⟨rfl, rfl⟩
    rw [HK.out]
    go_wp2
    exact bodyPost_ret (v := .tuple #[.agg #[.slice (some ⟨w.heap.size + 1, 0, none⟩) m m, .int .i64 0, .int .i64 0], .bool true]) (by simp [results, Try.results25, go_sem]) rfl HP.out

set_option maxHeartbeats 1000000 in
theorem specNew_any (n : Int) (w : World) : Calls Try.prog 24 #[.int .i64 n] w (FreshRingOk 3 (newL n) 0 0 (inB n 1 20) w) := by
  have B1 := Lib.hid ((Below.refl w.heap.size w).alloc (Nat.le_refl _) (.cells #[.slice none 0 0, .int .i64 0, .int .i64 0] 28))
  cases hk : inB n 1 20 with
  | false =>
    rw [newL_no hk]
    have HP : Hid (FreshRingOk 3 [] 0 0 false w (.returned (.tuple #[.agg #[.slice none 0 0, .int .i64 0, .int .i64 0], .bool false])) (w.alloc (.cells #[.slice none 0 0, .int .i64 0, .int .i64 0] 28))) :=
      ⟨none, 0, rfl, World.ownsRow_nil _ _ _ _, B1.out⟩
    go_enter Try.func24, Try.ntmps24
    go_wp2_with fail
    refine (specIn_any n 1 20 _).mono ?_
    rintro e w' ⟨rfl, rfl⟩
    go_wp2
    exact bodyPost_ret (v := .tuple #[.agg #[.slice none 0 0, .int .i64 0, .int .i64 0], .bool false]) (by simp [results, Try.results24, go_sem]) rfl HP.out
  | true =>
    obtain ⟨m, rfl⟩ : ∃ m : Nat, n = m := ⟨n.toNat, by have := inB_iff.1 hk; omega⟩
    have hm := inB_iff.1 hk
    rw [newL_yes hk]
    have hmk := fun W => run_make_row' (P := Try.prog) 24 3 (.int .i64 0) 8 Try.underlying24 infoI64 rfl .i64 .i64 m (by omega) (by omega) W
    rw [madeRep] at hmk
    have HO := Lib.hid (own_rep (w.alloc (.cells #[.slice none 0 0, .int .i64 0, .int .i64 0] 28)) 3 m (w.heap.size + 1) (by simp) (by omega))
    have HP : Hid (FreshRingOk 3 (List.replicate m 0) 0 0 true w (.returned (.tuple #[.agg #[.slice (some ⟨w.heap.size + 1, 0, none⟩) m m, .int .i64 0, .int .i64 0], .bool true])) ((w.alloc (.cells #[.slice (some ⟨w.heap.size + 1, 0, none⟩) m m, .int .i64 0, .int .i64 0] 28)).alloc (.cells (fullK .i64 (List.replicate m 0)) 3))) := by
      have h := own_rep (w.alloc (.cells #[.slice (some ⟨w.heap.size + 1, 0, none⟩) m m, .int .i64 0, .int .i64 0] 28)) 3 m w.heap.size (by simp) (by omega)
      simp only [World.size_alloc] at h
      exact ⟨_, _, by simp, h, ((Below.refl w.heap.size w).alloc (Nat.le_refl _) _).alloc (by simp) _⟩
    clear hk
    have HK := Lib.hid (inB_yes hm.1 hm.2)
    go_enter Try.func24, Try.ntmps24
    go_wp2_with fail
    refine (specIn_any m 1 20 _).mono ?_
    rintro e w' ⟨rfl, rfl⟩
    rw [HK.out]
    go_wp2
    exact bodyPost_ret (v := .tuple #[.agg #[.slice (some ⟨w.heap.size + 1, 0, none⟩) m m, .int .i64 0, .int .i64 0], .bool true]) (by simp [results, Try.results24, go_sem]) rfl HP.out

set_option maxHeartbeats 2000000 in
theorem implLink_any (a : Option Addr) (n c : Nat) (hd ct h o : Int) (xs : List Int) (hi : Nat) (w : World) (hr : Nums .i64 w hi a c xs) (hn : n = xs.length) (hB : hi ≤ w.heap.size) (hlen : xs.length ≤ 1048576) :
    Calls Try.prog 17 #[.agg #[.slice a n c, .int .i64 hd, .int .i64 ct], (.agg #[.int .i64 h, .int .i64 o])] w fun e w' => e = .returned (.bool (lOk xs hd ct h o)) ∧ Below w.heap.size w w' := by
  subst hn
  have hcap := hr.cap
  have hbig := hr.big
  have b1 := (Below.refl w.heap.size w).alloc (Nat.le_refl _) (.cells #[.slice a xs.length c, .int .i64 hd, .int .i64 ct] 28)
  have b2 := b1.alloc (by simp) (.cells #[.int .i64 h, .int .i64 o] 30)
  have K0 := Lib.hid ((Blk.new w 28 #[.slice a xs.length c, .int .i64 hd, .int .i64 ct]).alloc (.cells #[.int .i64 h, .int .i64 o] 30))
  have k1 := Blk.new (w.alloc (.cells #[.slice a xs.length c, .int .i64 hd, .int .i64 ct] 28)) 30 #[.int .i64 h, .int .i64 o]
  simp only [World.size_alloc] at k1
  have K1 := Lib.hid k1
  have HN := Lib.hid (hr.below (b2.mono hB))
  have B2 := Lib.hid b2
  clear hr b1 b2 k1
  have HR : Hid (∀ (W : World), Nums .i64 W hi a c xs → hi ≤ W.heap.size → Calls Try.prog 22 #[.agg #[.slice a xs.length c, .int .i64 hd, .int .i64 ct]] W fun e w' => e = .returned (.bool (rOk xs hd ct)) ∧ Below W.heap.size W w') := fun W h1 h2 => implRingOk_any a _ c hd ct xs hi W h1 rfl h2 hlen
  have HC := Lib.hid (credOk_any h o)
  unfold lOk
  cases hk : rOk xs hd ct with
  | false =>
    rw [hk] at HR
    rw [Bool.false_and, Bool.false_and, Bool.false_and]
    go_enter Try.func17, Try.ntmps17
    go_wp2_with fail
    refine (HR.out _ HN.out (by simp; omega)).mono ?_
    rintro e w1 ⟨rfl, hb⟩
    have B3 := Lib.hid (B2.out.trans (hb.mono (by simp; omega)))
    clear hb
    go_wp2
    go_ret
    exact ⟨rfl, B3.out⟩
  | true =>
    rw [hk] at HR
    cases hc : cOk h o with
    | false =>
      rw [hc] at HC
      rw [Bool.and_false, Bool.false_and, Bool.false_and]
      go_enter Try.func17, Try.ntmps17
      go_wp2_with fail
      refine (HR.out _ HN.out (by simp; omega)).mono ?_
      rintro e w1 ⟨rfl, hb⟩
      have B3 := Lib.hid (B2.out.trans (hb.mono (by simp; omega)))
      have q1 := (K1.out.below hb).cell
      clear hb
      go_wp2_with fail
      refine (HC.out _).mono ?_
      rintro e w2 ⟨rfl, hb⟩
      have B4 := Lib.hid (B3.out.trans (hb.mono B3.out.size))
      clear hb q1
      go_wp2
      go_ret
      exact ⟨rfl, B4.out⟩
    | true =>
      rw [hc] at HC
      obtain ⟨h0, h1, o0, o1⟩ := cOk_iff.1 hc
      obtain ⟨p, k, rfl, rfl, n1, n2, hp, hq⟩ := rOk_bd hk
      rw [Bool.and_self, Bool.true_and]
      by_cases e1 : o = (k : Int)
      · subst e1
        by_cases e2 : h + (k : Int) = xs.length
        · rw [decide_eq_true rfl, decide_eq_true e2]
          go_enter Try.func17, Try.ntmps17
          go_wp2_with fail
          refine (HR.out _ HN.out (by simp; omega)).mono ?_
          rintro e w1 ⟨rfl, hb⟩
          have B3 := Lib.hid (B2.out.trans (hb.mono (by simp; omega)))
          have KK0 := Lib.hid (K0.out.below hb)
          have KK1 := Lib.hid (K1.out.below hb)
          have q1 := KK1.out.cell
          clear hb
          go_wp2_with fail
          refine (HC.out _).mono ?_
          rintro e w2 ⟨rfl, hb⟩
          have B4 := Lib.hid (B3.out.trans (hb.mono B3.out.size))
          clear q1
          have q0 := (KK0.out.below hb).cell
          have q1 := (KK1.out.below hb).cell
          clear hb
          go_wp2
          go_ret
          exact ⟨rfl, B4.out⟩
        · rw [decide_eq_true rfl, decide_eq_false e2, Bool.and_false]
          go_enter Try.func17, Try.ntmps17
          go_wp2_with fail
          refine (HR.out _ HN.out (by simp; omega)).mono ?_
          rintro e w1 ⟨rfl, hb⟩
          have B3 := Lib.hid (B2.out.trans (hb.mono (by simp; omega)))
          have KK0 := Lib.hid (K0.out.below hb)
          have KK1 := Lib.hid (K1.out.below hb)
          have q1 := KK1.out.cell
          clear hb
          go_wp2_with fail
          refine (HC.out _).mono ?_
          rintro e w2 ⟨rfl, hb⟩
          have B4 := Lib.hid (B3.out.trans (hb.mono B3.out.size))
          clear q1
          have q0 := (KK0.out.below hb).cell
          have q1 := (KK1.out.below hb).cell
          clear hb
          have e2' : (h + (k : Int) == (xs.length : Int)) = false := by rw [beq_eq_false_iff_ne]; exact e2
          go_wp2
          go_ret
          exact ⟨rfl, B4.out⟩
      · rw [decide_eq_false e1, Bool.false_and]
        go_enter Try.func17, Try.ntmps17
        go_wp2_with fail
        refine (HR.out _ HN.out (by simp; omega)).mono ?_
        rintro e w1 ⟨rfl, hb⟩
        have B3 := Lib.hid (B2.out.trans (hb.mono (by simp; omega)))
        have KK0 := Lib.hid (K0.out.below hb)
        have KK1 := Lib.hid (K1.out.below hb)
        have q1 := KK1.out.cell
        clear hb
        go_wp2_with fail
        refine (HC.out _).mono ?_
        rintro e w2 ⟨rfl, hb⟩
        have B4 := Lib.hid (B3.out.trans (hb.mono B3.out.size))
        clear q1
        have q0 := (KK0.out.below hb).cell
        have q1 := (KK1.out.below hb).cell
        clear hb
        have e1' : (o == (k : Int)) = false := by rw [beq_eq_false_iff_ne]; exact e1
        go_wp2
        go_ret
        exact ⟨rfl, B4.out⟩
set_option maxHeartbeats 2000000 in
theorem specLink_any (a : Option Addr) (n c : Nat) (hd ct h o : Int) (xs : List Int) (hi : Nat) (w : World) (hr : Nums .i64 w hi a c xs) (hn : n = xs.length) (hB : hi ≤ w.heap.size) (hlen : xs.length ≤ 1048576) :
    Calls Try.prog 18 #[.agg #[.slice a n c, .int .i64 hd, .int .i64 ct], (.agg #[.int .i64 h, .int .i64 o])] w fun e w' => e = .returned (.bool (lOk xs hd ct h o)) ∧ Below w.heap.size w w' := by
  subst hn
  have hcap := hr.cap
  have hbig := hr.big
  have b1 := (Below.refl w.heap.size w).alloc (Nat.le_refl _) (.cells #[.slice a xs.length c, .int .i64 hd, .int .i64 ct] 28)
  have b2 := b1.alloc (by simp) (.cells #[.int .i64 h, .int .i64 o] 30)
  have K0 := Lib.hid ((Blk.new w 28 #[.slice a xs.length c, .int .i64 hd, .int .i64 ct]).alloc (.cells #[.int .i64 h, .int .i64 o] 30))
  have k1 := Blk.new (w.alloc (.cells #[.slice a xs.length c, .int .i64 hd, .int .i64 ct] 28)) 30 #[.int .i64 h, .int .i64 o]
  simp only [World.size_alloc] at k1
  have K1 := Lib.hid k1
  have HN := Lib.hid (hr.below (b2.mono hB))
  have B2 := Lib.hid b2
  clear hr b1 b2 k1
  have HR : Hid (∀ (W : World), Nums .i64 W hi a c xs → hi ≤ W.heap.size → Calls Try.prog 20 #[.agg #[.slice a xs.length c, .int .i64 hd, .int .i64 ct]] W fun e w' => e = .returned (.bool (rOk xs hd ct)) ∧ Below W.heap.size W w') := fun W h1 h2 => specRingOk_any a _ c hd ct xs hi W h1 rfl h2 hlen
  have HC := Lib.hid (specCred_any h o)
  unfold lOk
  cases hk : rOk xs hd ct with
  | false =>
    rw [hk] at HR
    rw [Bool.false_and, Bool.false_and, Bool.false_and]
    go_enter Try.func18, Try.ntmps18
    go_wp2_with fail
    refine (HR.out _ HN.out (by simp; omega)).mono ?_
    rintro e w1 ⟨rfl, hb⟩
    have B3 := Lib.hid (B2.out.trans (hb.mono (by simp; omega)))
    clear hb
    go_wp2
    go_ret
    exact ⟨rfl, B3.out⟩
  | true =>
    rw [hk] at HR
    cases hc : cOk h o with
    | false =>
      rw [hc] at HC
      rw [Bool.and_false, Bool.false_and, Bool.false_and]
      go_enter Try.func18, Try.ntmps18
      go_wp2_with fail
      refine (HR.out _ HN.out (by simp; omega)).mono ?_
      rintro e w1 ⟨rfl, hb⟩
      have B3 := Lib.hid (B2.out.trans (hb.mono (by simp; omega)))
      have q1 := (K1.out.below hb).cell
      clear hb
      go_wp2_with fail
      refine (HC.out _).mono ?_
      rintro e w2 ⟨rfl, hb⟩
      have B4 := Lib.hid (B3.out.trans (hb.mono B3.out.size))
      clear hb q1
      go_wp2
      go_ret
      exact ⟨rfl, B4.out⟩
    | true =>
      rw [hc] at HC
      obtain ⟨h0, h1, o0, o1⟩ := cOk_iff.1 hc
      obtain ⟨p, k, rfl, rfl, n1, n2, hp, hq⟩ := rOk_bd hk
      rw [Bool.and_self, Bool.true_and]
      by_cases e1 : o = (k : Int)
      · subst e1
        by_cases e2 : h + (k : Int) = xs.length
        · rw [decide_eq_true rfl, decide_eq_true e2]
          go_enter Try.func18, Try.ntmps18
          go_wp2_with fail
          refine (HR.out _ HN.out (by simp; omega)).mono ?_
          rintro e w1 ⟨rfl, hb⟩
          have B3 := Lib.hid (B2.out.trans (hb.mono (by simp; omega)))
          have KK0 := Lib.hid (K0.out.below hb)
          have KK1 := Lib.hid (K1.out.below hb)
          have q1 := KK1.out.cell
          clear hb
          go_wp2_with fail
          refine (HC.out _).mono ?_
          rintro e w2 ⟨rfl, hb⟩
          have B4 := Lib.hid (B3.out.trans (hb.mono B3.out.size))
          clear q1
          have q0 := (KK0.out.below hb).cell
          have q1 := (KK1.out.below hb).cell
          clear hb
          go_wp2
          go_ret
          exact ⟨rfl, B4.out⟩
        · rw [decide_eq_true rfl, decide_eq_false e2, Bool.and_false]
          go_enter Try.func18, Try.ntmps18
          go_wp2_with fail
          refine (HR.out _ HN.out (by simp; omega)).mono ?_
          rintro e w1 ⟨rfl, hb⟩
          have B3 := Lib.hid (B2.out.trans (hb.mono (by simp; omega)))
          have KK0 := Lib.hid (K0.out.below hb)
          have KK1 := Lib.hid (K1.out.below hb)
          have q1 := KK1.out.cell
          clear hb
          go_wp2_with fail
          refine (HC.out _).mono ?_
          rintro e w2 ⟨rfl, hb⟩
          have B4 := Lib.hid (B3.out.trans (hb.mono B3.out.size))
          clear q1
          have q0 := (KK0.out.below hb).cell
          have q1 := (KK1.out.below hb).cell
          clear hb
          have e2' : (h + (k : Int) == (xs.length : Int)) = false := by rw [beq_eq_false_iff_ne]; exact e2
          go_wp2
          go_ret
          exact ⟨rfl, B4.out⟩
      · rw [decide_eq_false e1, Bool.false_and]
        go_enter Try.func18, Try.ntmps18
        go_wp2_with fail
        refine (HR.out _ HN.out (by simp; omega)).mono ?_
        rintro e w1 ⟨rfl, hb⟩
        have B3 := Lib.hid (B2.out.trans (hb.mono (by simp; omega)))
        have KK0 := Lib.hid (K0.out.below hb)
        have KK1 := Lib.hid (K1.out.below hb)
        have q1 := KK1.out.cell
        clear hb
        go_wp2_with fail
        refine (HC.out _).mono ?_
        rintro e w2 ⟨rfl, hb⟩
        have B4 := Lib.hid (B3.out.trans (hb.mono B3.out.size))
        clear q1
        have q0 := (KK0.out.below hb).cell
        have q1 := (KK1.out.below hb).cell
        clear hb
        have e1' : (o == (k : Int)) = false := by rw [beq_eq_false_iff_ne]; exact e1
        go_wp2
        go_ret
        exact ⟨rfl, B4.out⟩
end Go.Proofs.Ytkconbmgljmpfaa
