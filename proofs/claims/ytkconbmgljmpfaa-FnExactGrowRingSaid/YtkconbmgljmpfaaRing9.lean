/- Contract of spec.GrowRing. -/
import Derived.Test.YtkconbmgljmpfaaRing9a
import Derived.Test.YtkconbmgljmpfaaRing5
import Derived.Test.YtkconbmgljmpfaaRing8
import Derived.Deep.RegionWith
import Derived.Test.YtkconbmgljmpfaaHeld
namespace Go.Proofs.Ytkconbmgljmpfaa
open Go.RowKit

theorem grown_all {w w' : World} (h : Below w.heap.size w w') (row : Option Nat) : w.grownBy w' row := ⟨h.os, h.tape, h.output, h.size, fun k hk _ => h.block k hk⟩
theorem FreshRingOk.len {T : TypeId} {ys : List Int} {hd ct : Int} {ok : Bool} {w w' : World} {e : Ending} {n : Nat} (h : FreshRingOk T ys hd ct ok w e w') (hn : ys.length = n) :
    ∃ a c, e = .returned (.tuple #[.agg #[.slice a n c, .int .i64 hd, .int .i64 ct], .bool ok]) ∧ w'.ownsRow w.heap.size T 1 (.slice a n c) n (ys.map (Value.int .i64)) ∧ Below w.heap.size w w' := by
  subst hn; exact h
/-- A row and a block of another element type lie apart. -/
theorem own_blk_ne {w : World} {base g n sz : Nat} {e t : TypeId} {v : Value} {xs : List Value} {cs : Array Value} (h : w.ownsRow base e sz v n xs) (hg : Blk w g t cs) (hne : e ≠ t) : some g ≠ v.ownBlock := by
  rcases h.2 with ⟨rfl, _⟩ | ⟨g', cap, cur, rfl, _, hh, _⟩
  · simp [Value.ownBlock]
  · intro he
    have : g = g' := by simpa [Value.ownBlock] using he
    subst this
    unfold Blk at hg
    rw [hh] at hg
    injection hg with hg
    injection hg with _ ht
    exact hne ht
set_option maxHeartbeats 4000000 in
set_option maxRecDepth 100000 in
theorem specGrow_any (a : Option Addr) (n c : Nat) (hd ct m : Int) (xs : List Int) (hi : Nat) (w : World) (hr : Nums .i64 w hi a c xs) (hn : n = xs.length) (hB : hi ≤ w.heap.size) (hlen : xs.length ≤ 1048576) :
    Calls Try.prog 36 #[.agg #[.slice a n c, .int .i64 hd, .int .i64 ct], .int .i64 m] w (FreshRingOk 3 (growL xs hd ct m) (growH xs hd ct m) ct (growOk xs hd ct m) w) := by
  subst hn
  have b1 := (Below.refl w.heap.size w).alloc (Nat.le_refl _) (.cells #[.slice a xs.length c, .int .i64 hd, .int .i64 ct] 28)
  have b2 := b1.alloc (by simp) (.cells #[.slice none 0 0, .int .i64 0, .int .i64 0] 28)
  have HN := Lib.hid (hr.below (b2.mono hB))
  have K0 := Lib.hid ((Blk.new w 28 #[.slice a xs.length c, .int .i64 hd, .int .i64 ct]).alloc (.cells #[.slice none 0 0, .int .i64 0, .int .i64 0] 28))
  have k1 := Blk.new (w.alloc (.cells #[.slice a xs.length c, .int .i64 hd, .int .i64 ct] 28)) 28 #[.slice none 0 0, .int .i64 0, .int .i64 0]
  simp only [World.size_alloc] at k1
  have K1 := Lib.hid k1
  have B2 := Lib.hid b2
  clear hr b1 b2 k1
  have HR : Hid (∀ (W : World), Nums .i64 W hi a c xs → hi ≤ W.heap.size → Calls Try.prog 20 #[.agg #[.slice a xs.length c, .int .i64 hd, .int .i64 ct]] W fun e w' => e = .returned (.bool (rOk xs hd ct)) ∧ Below W.heap.size W w') := fun W h1 h2 => specRingOk_any a _ c hd ct xs hi W h1 rfl h2 hlen
  have HC : Hid (∀ (W : World), Calls Try.prog 56 #[.int .i64 m, .int .i64 1, .int .i64 20] W fun e w' => e = .returned (.bool (inB m 1 20)) ∧ W = w') := fun W => specIn_any m 1 20 W
  cases hk : rOk xs hd ct with
  | false =>
    rw [(grow_no (grow_no1 hk)).1, (grow_no (grow_no1 hk)).2, grow_no1 hk]
    rw [hk] at HR
    go_enter Try.func36, Try.ntmps36
    go_wp2_with fail
    refine (HR.out _ HN.out (by simp; omega)).mono ?_
    rintro e w1 ⟨rfl, hb⟩
    have hb' := hb.mono (show hi ≤ _ by simp; omega)
    have s0 := hb.size
    simp only [World.size_alloc] at s0
    have N1 := Lib.hid (HN.out.below hb')
    have KK0 := Lib.hid (K0.out.below hb)
    have KK1 := Lib.hid (K1.out.below hb)
    have B3 := Lib.hid (B2.out.trans (hb.mono (by simp; omega)))
    have q0 := KK0.out.cell
    clear hb hb'
    go_wp2_with fail
    refine (l03Copy_any _ _ c hd ct xs hi _ N1.out rfl (by omega) hlen).mono ?_
    rintro e w3 ⟨a1, c1, rfl, ho, hb⟩
    have k3 := KK1.out.below hb
    have q3 := k3.cell
    have f3 := k3.frozen
    have s2 := B3.out.size
    have HP : Hid (FreshRingOk 3 xs hd ct false w (.returned (.tuple #[.agg #[.slice a1 xs.length c1, .int .i64 hd, .int .i64 ct], .bool false])) (((w3.setCell ⟨w.heap.size + 1, 0, none⟩ (.slice a1 xs.length c1)).setCell ⟨w.heap.size + 1, 1, none⟩ (.int .i64 hd)).setCell ⟨w.heap.size + 1, 2, none⟩ (.int .i64 ct))) :=
      ringok_stored rfl ho (B3.out.trans (hb.mono s2)) (by omega)
    clear hb k3 q0 ho
    go_wp2
    exact bodyPost_ret (v := .tuple #[.agg #[.slice a1 xs.length c1, .int .i64 hd, .int .i64 ct], .bool false]) (by simp [results, Try.results36, go_sem, q3]) rfl HP.out
  | true =>
    obtain ⟨p, k, rfl, rfl, n1, n2, hp, hq⟩ := rOk_bd hk
    rw [hk] at HR
    cases hc : inB m 1 20 with
    | false =>
      rw [(grow_no (grow_no2 hc)).1, (grow_no (grow_no2 hc)).2, grow_no2 hc]
      rw [hc] at HC
      clear hk hc
      go_enter Try.func36, Try.ntmps36
      go_wp2_with fail
      refine (HR.out _ HN.out (by simp; omega)).mono ?_
      rintro e w1 ⟨rfl, hb⟩
      have hb' := hb.mono (show hi ≤ _ by simp; omega)
      have s0 := hb.size
      simp only [World.size_alloc] at s0
      have N1 := Lib.hid (HN.out.below hb')
      have KK0 := Lib.hid (K0.out.below hb)
      have KK1 := Lib.hid (K1.out.below hb)
      have B3 := Lib.hid (B2.out.trans (hb.mono (by simp; omega)))
      have q0 := KK0.out.cell
      clear hb hb'
      go_wp2_with fail
      refine (HC.out _).mono ?_
      rintro e w' ⟨rfl, rfl⟩
      go_wp2_with fail
      refine (l03Copy_any _ _ c (p : Int) (k : Int) xs hi _ N1.out rfl (by omega) hlen).mono ?_
      rintro e w3 ⟨a1, c1, rfl, ho, hb⟩
      have k3 := KK1.out.below hb
      have q3 := k3.cell
      have f3 := k3.frozen
      have s2 := B3.out.size
      have HP : Hid (FreshRingOk 3 xs (p : Int) (k : Int) false w (.returned (.tuple #[.agg #[.slice a1 xs.length c1, .int .i64 (p : Int), .int .i64 (k : Int)], .bool false])) (((w3.setCell ⟨w.heap.size + 1, 0, none⟩ (.slice a1 xs.length c1)).setCell ⟨w.heap.size + 1, 1, none⟩ (.int .i64 (p : Int))).setCell ⟨w.heap.size + 1, 2, none⟩ (.int .i64 (k : Int)))) :=
        ringok_stored rfl ho (B3.out.trans (hb.mono s2)) (by omega)
      clear hb k3 q0 ho
      go_wp2
      exact bodyPost_ret (v := .tuple #[.agg #[.slice a1 xs.length c1, .int .i64 (p : Int), .int .i64 (k : Int)], .bool false]) (by simp [results, Try.results36, go_sem, q3]) rfl HP.out
    | true =>
      have hmb := inB_iff.1 hc
      obtain ⟨m, rfl⟩ : ∃ m' : Nat, m = m' := ⟨m.toNat, by omega⟩
      rw [hc] at HC
      by_cases hle : k ≤ m
      · have hg : growOk xs p k (m : Int) = true := by unfold growOk; rw [hk, hc]; simp; omega
        rw [(grow_at hg).1, (grow_at hg).2, hg]
        have HNW : Hid (∀ W, Calls Try.prog 24 #[.int .i64 (m : Int)] W (FreshRingOk 3 (List.replicate m 0) 0 0 true W)) := fun W => by
          have h := specNew_any (m : Int) W
          rw [newL_yes hc, hc] at h
          exact h
        have HLS : Hid (∀ W, Nums .i64 W hi a c xs → hi ≤ W.heap.size → Calls Try.prog 32 #[.agg #[.slice a xs.length c, .int .i64 (p : Int), .int .i64 (k : Int)]] W (FreshNums 3 .i64 (rList xs p k) W)) := fun W h1 h2 => by
          have h := specList_any a _ c p k xs hi W h1 rfl h2 hlen
          rw [list_at hk] at h
          exact h
        have hlk := rList_len xs p k
        have HF : Hid (gRow (rList xs p k) m k = rList xs p k ++ List.replicate (m - k) 0) := by
          have e := gRow_full (rList xs p k) m
          rw [hlk] at e
          exact e
        generalize rList xs p k = ys at HLS hlk HF ⊢
        have hgt : ¬ (m < k) := by omega
        have HM := Lib.hid hmb
        clear hk hc hg hmb
        go_enter Try.func36, Try.ntmps36
        go_wp2_with fail
        refine (HR.out _ HN.out (by simp; omega)).mono ?_
        rintro e w1 ⟨rfl, hb⟩
        have hb' := hb.mono (show hi ≤ _ by simp; omega)
        have s0 := hb.size
        simp only [World.size_alloc] at s0
        have N1 := Lib.hid (HN.out.below hb')
        have KK0 := Lib.hid (K0.out.below hb)
        have KK1 := Lib.hid (K1.out.below hb)
        have B3 := Lib.hid (B2.out.trans (hb.mono (by simp; omega)))
        have q0 := KK0.out.cell
        clear hb hb'
        go_wp2_with fail
        refine (HC.out _).mono ?_
        rintro e w' ⟨rfl, rfl⟩
        have s1 := B3.out.size
        go_wp2_with fail
        refine (HNW.out _).mono ?_
        rintro e w3 hh
        obtain ⟨a3, c3, rfl, ho, hb⟩ := hh.len (List.length_replicate ..)
        have s3 := hb.size
        have ba := (Below.refl w3.heap.size w3).alloc (Nat.le_refl _) (.cells #[.slice a3 m c3, .int .i64 0, .int .i64 0] 28)
        have N2 := Lib.hid ((N1.out.below (hb.mono (by omega))).below (ba.mono (by omega)))
        have L0 := Lib.hid ((KK0.out.below hb).alloc (.cells #[.slice a3 m c3, .int .i64 0, .int .i64 0] 28))
        have L1 := Lib.hid ((KK1.out.below hb).alloc (.cells #[.slice a3 m c3, .int .i64 0, .int .i64 0] 28))
        have G0 := Lib.hid (Blk.new w3 28 #[.slice a3 m c3, .int .i64 0, .int .i64 0])
        have O0 := Lib.hid (owns_below ho ba)
        have B4 := Lib.hid ((B3.out.trans (hb.mono (by omega))).trans (ba.mono (by omega)))
        clear ho hb ba q0
        have l0 := L0.out.cell
        go_wp2_with fail
        refine (HLS.out _ N2.out (by simp; omega)).mono ?_
        rintro e w5 ⟨a5, c5, rfl, ho, hb⟩
        have s5 := hb.size
        simp only [World.size_alloc] at s5
        have M1 := Lib.hid (L1.out.below hb)
        have G1 := Lib.hid (G0.out.below hb)
        have O1 := Lib.hid (owns_less (owns_below O0.out hb) (show w.heap.size + 2 ≤ w1.heap.size by omega))
        simp only [World.size_alloc] at ho
        have OL := Lib.hid ho
        have B5 := Lib.hid (B4.out.trans (hb.mono (by simp; omega)))
        clear ho hb l0
        have hG : w.heap.size + 1 < w3.heap.size := by omega
        have HPU : Hid (∀ (W : World) (a' : Option Addr) (c' j : Nat), Nums .i64 W W.heap.size a' c' (gRow ys m j) → j < k → Calls Try.prog 28 #[.agg #[.slice a' m c', .int .i64 0, .int .i64 (j : Int)], .int .i64 (el ys j)] W (FreshRingOk 3 (gRow ys m (j + 1)) 0 ((j : Int) + 1) true W)) := fun W a' c' j h1 h2 => by
          have hm2 := HM.out
          have h3 : ((j + 1 : Nat) : Int) = (j : Int) + 1 := by omega
          have hl := gRow_len (L := ys) (n := m) (i := j) (by omega) (by omega)
          have h := specPush_any a' m c' 0 j (el ys j) (gRow ys m j) _ W h1 hl.symm (Nat.le_refl _) (by rw [hl]; omega)
          rw [(gRow_push (by omega) (by omega) (by omega)).1, (gRow_push (by omega) (by omega) (by omega)).2.1, (gRow_push (by omega) (by omega) (by omega)).2.2, h3] at h
          exact h
        have HLEN : Hid (∀ j, j ≤ k → (gRow ys m j).length = m) := fun j h => gRow_len (by omega) (by omega)
        have HZ := Lib.hid (gRow_zero ys m)
        go_wp2
        go_loopw [9] (fun i wr => ∃ (j : Nat) (a' : Option Addr) (c' : Nat), j ≤ k ∧ i = .int .i64 j ∧ Blk wr w3.heap.size 28 #[.slice a' m c', .int .i64 0, .int .i64 (j : Int)] ∧ wr.ownsRow (w.heap.size + 2) 3 1 (.slice a' m c') m ((gRow ys m j).map (Value.int .i64)) ∧ w5.grownBy wr (some w3.heap.size))
          (fun i _ => k - (intOf i).toNat)
        case atStart => exact ⟨0, a3, c3, Nat.zero_le _, rfl, G1.out, by rw [HZ.out]; exact O1.out, ⟨rfl, rfl, rfl, Nat.le_refl _, fun _ _ _ => rfl⟩⟩
        case round =>
          obtain ⟨j, a', c', hj, rfl, hbg, hown, hgr⟩ := hrel
          have hsz := hgr.size
          have qg := hbg.cell
          have fg := hbg.frozen
          by_cases hlt : j < k
          · obtain ⟨gl, rfl, hgl, _⟩ := own_block OL.out (by omega)
            have hne : gl ≠ w3.heap.size := by omega
            have hle0 : (OL.out.kept hgr (.inr (fun e => hne (by injection e)))).cellAt j (by omega) = (OL.out.kept hgr (.inr (fun e => hne (by injection e)))).cellAt j (by omega) := rfl
            have hcl := ((OL.out.kept hgr (.inr (fun e => hne (by injection e)))).cellAt j (by omega)).trans (el_cell .i64 ys j (by omega))
            have HB := Lib.hid hbg
            have HN2 := Lib.hid (Nums.of_own hown).2
            have HGR := Lib.hid hgr
            clear hle0 hbg hown hgr
            go_wp2_with fail
            go_region_with (go_at_call 28; refine (HPU.out wr.drew _ _ j (HN2.out.below (Below.refl _ wr).drew) hlt).mono ?_; rintro e w6 hh; obtain ⟨a6, c6, rfl, ho, hb⟩ := hh.len (HLEN.out (j + 1) (by omega)); have b6 := HB.out.drew.below hb; have k6 := b6.cell; have f6 := b6.frozen; have hn6 := (own_blk_ne ho b6 (by decide)).symm; have g6 := grown_trans HGR.out (grown_all ((Below.refl wr.heap.size wr).drew.trans hb) _); have REL : Hid (Blk (((w6.setCell ⟨w3.heap.size, 0, none⟩ (.slice a6 m c6)).setCell ⟨w3.heap.size, 1, none⟩ (.int .i64 0)).setCell ⟨w3.heap.size, 2, none⟩ (.int .i64 ((j : Int) + 1))) w3.heap.size 28 #[.slice a6 m c6, .int .i64 0, .int .i64 ((j + 1 : Nat) : Int)] ∧ (((w6.setCell ⟨w3.heap.size, 0, none⟩ (.slice a6 m c6)).setCell ⟨w3.heap.size, 1, none⟩ (.int .i64 0)).setCell ⟨w3.heap.size, 2, none⟩ (.int .i64 ((j : Int) + 1))).ownsRow (w.heap.size + 2) 3 1 (.slice a6 m c6) m ((gRow ys m (j + 1)).map (Value.int .i64)) ∧ w5.grownBy (((w6.setCell ⟨w3.heap.size, 0, none⟩ (.slice a6 m c6)).setCell ⟨w3.heap.size, 1, none⟩ (.int .i64 0)).setCell ⟨w3.heap.size, 2, none⟩ (.int .i64 ((j : Int) + 1))) (some w3.heap.size)) := ⟨by rw [show ((j + 1 : Nat) : Int) = (j : Int) + 1 by omega]; exact ((b6.set_ 0 _).set_ 1 _).set_ 2 _, owns_less (((ho.kept (grown_setCell _ _ _ _) (.inr hn6)).kept (grown_setCell _ _ _ _) (.inr hn6)).kept (grown_setCell _ _ _ _) (.inr hn6)) (show w.heap.size + 2 ≤ wr.drew.heap.size by rw [size_drew_]; omega), grown_trans (grown_trans (grown_trans g6 (grown_setCell _ _ _ _)) (grown_setCell _ _ _ _)) (grown_setCell _ _ _ _)⟩; clear ho hb b6 hn6 g6)
            all_goals
              clear qg fg hcl k6 f6
              go_wp2
              go_roundw
              case rel => exact ⟨j + 1, a6, c6, by omega, by go_num, REL.out.1, REL.out.2.1, REL.out.2.2⟩
              case measure => simp [intOf]; omega
          · obtain rfl : j = k := by omega
            have m1 := M1.out.grown hgr (by simp; omega)
            have r1 := m1.cell
            have rf := m1.frozen
            rw [HF.out] at hown
            have HP : Hid (FreshRingOk 3 (ys ++ List.replicate (m - j) 0) 0 (j : Int) true w (.returned (.tuple #[.agg #[.slice a' m c', .int .i64 0, .int .i64 (j : Int)], .bool true])) (((wr.setCell ⟨w.heap.size + 1, 0, none⟩ (.slice a' m c')).setCell ⟨w.heap.size + 1, 1, none⟩ (.int .i64 0)).setCell ⟨w.heap.size + 1, 2, none⟩ (.int .i64 (j : Int)))) :=
              ringok_stored (by simp; omega) hown (B5.out.trans (below_grown_own hgr (by omega) (by omega))) (by omega)
            clear hown hbg hgr m1
            go_wp2
            exact bodyPost_ret (v := .tuple #[.agg #[.slice a' m c', .int .i64 0, .int .i64 (j : Int)], .bool true]) (by simp [results, Try.results36, go_sem, r1]) rfl HP.out
      · have hg : growOk xs p k (m : Int) = false := by unfold growOk; rw [hk, hc]; simp; omega
        rw [(grow_no hg).1, (grow_no hg).2, hg]
        clear hk hc hg
        have hgt : m < k := by omega
        go_enter Try.func36, Try.ntmps36
        go_wp2_with fail
        refine (HR.out _ HN.out (by simp; omega)).mono ?_
        rintro e w1 ⟨rfl, hb⟩
        have hb' := hb.mono (show hi ≤ _ by simp; omega)
        have s0 := hb.size
        simp only [World.size_alloc] at s0
        have N1 := Lib.hid (HN.out.below hb')
        have KK0 := Lib.hid (K0.out.below hb)
        have KK1 := Lib.hid (K1.out.below hb)
        have B3 := Lib.hid (B2.out.trans (hb.mono (by simp; omega)))
        have q0 := KK0.out.cell
        clear hb hb'
        go_wp2_with fail
        refine (HC.out _).mono ?_
        rintro e w' ⟨rfl, rfl⟩
        go_wp2_with fail
        refine (l03Copy_any _ _ c (p : Int) (k : Int) xs hi _ N1.out rfl (by omega) hlen).mono ?_
        rintro e w3 ⟨a1, c1, rfl, ho, hb⟩
        have k3 := KK1.out.below hb
        have q3 := k3.cell
        have f3 := k3.frozen
        have s2 := B3.out.size
        have HP : Hid (FreshRingOk 3 xs (p : Int) (k : Int) false w (.returned (.tuple #[.agg #[.slice a1 xs.length c1, .int .i64 (p : Int), .int .i64 (k : Int)], .bool false])) (((w3.setCell ⟨w.heap.size + 1, 0, none⟩ (.slice a1 xs.length c1)).setCell ⟨w.heap.size + 1, 1, none⟩ (.int .i64 (p : Int))).setCell ⟨w.heap.size + 1, 2, none⟩ (.int .i64 (k : Int)))) :=
          ringok_stored rfl ho (B3.out.trans (hb.mono s2)) (by omega)
        clear hb k3 q0 ho
        go_wp2
        exact bodyPost_ret (v := .tuple #[.agg #[.slice a1 xs.length c1, .int .i64 (p : Int), .int .i64 (k : Int)], .bool false]) (by simp [results, Try.results36, go_sem, q3]) rfl HP.out
end Go.Proofs.Ytkconbmgljmpfaa
