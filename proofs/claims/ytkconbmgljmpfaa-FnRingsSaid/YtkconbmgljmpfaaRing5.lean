/- Contracts of spec.PushRing and spec.PopRing. -/
import Derived.Test.YtkconbmgljmpfaaRing4
namespace Go.Proofs.Ytkconbmgljmpfaa
open Go.RowKit

theorem ringok_drew {T : TypeId} {ys : List Int} {hd ct : Int} {ok : Bool} {w w' : World} {e : Ending} (h : FreshRingOk T ys hd ct ok w e w') : FreshRingOk T ys hd ct ok w e w'.drew := by
  obtain ⟨a, c, he, ho, hb⟩ := h
  exact ⟨a, c, he, ho, hb.drew⟩

set_option maxHeartbeats 4000000 in
set_option maxRecDepth 100000 in
theorem specPush_any (a : Option Addr) (n c : Nat) (hd ct x : Int) (xs : List Int) (hi : Nat) (w : World) (hr : Nums .i64 w hi a c xs) (hn : n = xs.length) (hB : hi ≤ w.heap.size) (hlen : xs.length ≤ 1048576) :
    Calls Try.prog 28 #[.agg #[.slice a n c, .int .i64 hd, .int .i64 ct], .int .i64 x] w (FreshRingOk 3 (pushL xs hd ct x) hd (pushC xs hd ct) (pushOk xs hd ct) w) := by
  subst hn
  have hcap := hr.cap
  have hbig := hr.big
  have b1 := (Below.refl w.heap.size w).alloc (Nat.le_refl _) (.cells #[.slice a xs.length c, .int .i64 hd, .int .i64 ct] 28)
  have b2 := b1.alloc (by simp) (.cells #[.slice none 0 0, .int .i64 0, .int .i64 0] 28)
  have HN := Lib.hid (hr.below (b2.mono hB))
  have K0 := Lib.hid ((Blk.new w 28 #[.slice a xs.length c, .int .i64 hd, .int .i64 ct]).alloc (.cells #[.slice none 0 0, .int .i64 0, .int .i64 0] 28))
  have k1 := Blk.new (w.alloc (.cells #[.slice a xs.length c, .int .i64 hd, .int .i64 ct] 28)) 28 #[.slice none 0 0, .int .i64 0, .int .i64 0]
  simp only [World.size_alloc] at k1
  have K1 := Lib.hid k1
  have B2 := Lib.hid b2
  clear hr b1 b2 k1
  have HR : Hid (∀ (W : World), Nums .i64 W hi a c xs → hi ≤ W.heap.size → Calls Try.prog 20 #[.agg #[.slice a xs.length c, .int .i64 hd, .int .i64 ct]] W fun e w' => e = .returned (.bool (rOk xs hd ct)) ∧ Below W.heap.size W w') := fun W h1 h2 => specRingOk_any a _ c hd ct xs hi W h1 rfl h2 hlen
  cases hk : rOk xs hd ct with
  | false =>
    rw [(push_no x hk).1, (push_no x hk).2.1, (push_no x hk).2.2]
    rw [hk] at HR
    go_enter Try.func28, Try.ntmps28
    go_wp2_with fail
    refine (l03Copy_any _ _ c hd ct xs hi _ HN.out rfl (by simp; omega) hlen).mono ?_
    rintro e w1 ⟨a1, c1, rfl, ho, hb⟩
    have s0 := hb.size
    simp only [World.size_alloc] at s0
    have hb' := hb.mono (show hi ≤ _ by simp; omega)
    have B3 := Lib.hid (B2.out.trans (hb.mono (by simp; omega)))
    have N1 := Lib.hid ((HN.out.below hb').below ((Below.refl hi w1).alloc (by omega) (.cells #[.slice a1 xs.length c1, .int .i64 hd, .int .i64 ct] 28)))
    have KK0 := Lib.hid ((K0.out.below hb).alloc (.cells #[.slice a1 xs.length c1, .int .i64 hd, .int .i64 ct] 28))
    have KK1 := Lib.hid ((K1.out.below hb).alloc (.cells #[.slice a1 xs.length c1, .int .i64 hd, .int .i64 ct] 28))
    simp only [World.size_alloc] at ho
    have s1 := B3.out.size
    have Q1 := Lib.hid (Blk.new w1 28 #[.slice a1 xs.length c1, .int .i64 hd, .int .i64 ct])
    have O2 := Lib.hid ((Rw.new ho).below ((Below.refl _ w1).alloc (Nat.le_refl _) (.cells #[.slice a1 xs.length c1, .int .i64 hd, .int .i64 ct] 28)) (Nat.le_refl _))
    have B4 := Lib.hid (B3.out.alloc s1 (.cells #[.slice a1 xs.length c1, .int .i64 hd, .int .i64 ct] 28))
    have q0 := KK0.out.cell
    clear ho hb hb'
    go_wp2_with fail
    refine (HR.out _ N1.out (by simp; omega)).mono ?_
    rintro e w2 ⟨rfl, hb⟩
    have s2 := hb.size
    simp only [World.size_alloc] at s2
    have R0 := Lib.hid (KK0.out.below hb)
    have R1 := Lib.hid (KK1.out.below hb)
    have Q2 := Lib.hid (Q1.out.below hb)
    have O3 := Lib.hid (O2.out.below hb (by simp))
    have N2 := Lib.hid (N1.out.below (hb.mono (show hi ≤ _ by simp; omega)))
    have B5 := Lib.hid (B4.out.trans (hb.mono (by simp; omega)))
    have f1 := R1.out.frozen
    have g1 := R1.out.cell
    clear hb q0
    have q0 := R0.out.cell
    have q2 := Q2.out.cell
    have HP := Lib.hid (ringok_stored (T := 3) (g := w.heap.size + 1) (hd := hd) (ct := ct) (ok := false) rfl O3.out.own B5.out (by omega))
    go_wp2
    exact bodyPost_ret (v := .tuple #[.agg #[.slice a1 xs.length c1, .int .i64 hd, .int .i64 ct], .bool false]) (by simp [results, Try.results28, go_sem, g1]) rfl HP.out
  | true =>
    obtain ⟨p, k, rfl, rfl, n1, n2, hp, hq⟩ := rOk_bd hk
    rw [(push_at x hk).1, (push_at x hk).2.1, (push_at x hk).2.2]
    rw [hk] at HR
    by_cases hf : k < xs.length
    · rw [if_pos hf, if_pos hf, decide_eq_true hf]
      have hml : (p + k) % xs.length < xs.length := Nat.mod_lt _ (by omega)
      have htm : ((p : Int) + (k : Int)).tmod (xs.length : Int) = (((p + k) % xs.length : Nat) : Int) := by rw [Int.tmod_eq_emod_of_nonneg (by omega)]; simp
      have hmod : ((p : Int) + (k : Int)) % (xs.length : Int) = (((p + k) % xs.length : Nat) : Int) := by simp
      generalize (p + k) % xs.length = M at hml htm hmod
      have hwr : IntKind.i64.wrap ((p : Int) + (k : Int)) = (p : Int) + (k : Int) := IntWalk.i64_in _ (by omega)
      have hw2 : IntKind.i64.wrap (M : Int) = (M : Int) := IntWalk.i64_in _ (by omega)
      have hxs : xs ≠ [] := by rintro rfl; simp at n1
      have hkn : ((k : Int) == (xs.length : Int)) = false := by rw [beq_eq_false_iff_ne]; omega
      go_enter Try.func28, Try.ntmps28
      go_wp2_with fail
      refine (l03Copy_any _ _ c p k xs hi _ HN.out rfl (by simp; omega) hlen).mono ?_
      rintro e w1 ⟨a1, c1, rfl, ho, hb⟩
      have s0 := hb.size
      simp only [World.size_alloc] at s0
      have hb' := hb.mono (show hi ≤ _ by simp; omega)
      have B3 := Lib.hid (B2.out.trans (hb.mono (by simp; omega)))
      have N1 := Lib.hid ((HN.out.below hb').below ((Below.refl hi w1).alloc (by omega) (.cells #[.slice a1 xs.length c1, .int .i64 p, .int .i64 k] 28)))
      have KK0 := Lib.hid ((K0.out.below hb).alloc (.cells #[.slice a1 xs.length c1, .int .i64 p, .int .i64 k] 28))
      have KK1 := Lib.hid ((K1.out.below hb).alloc (.cells #[.slice a1 xs.length c1, .int .i64 p, .int .i64 k] 28))
      simp only [World.size_alloc] at ho
      have s1 := B3.out.size
      have Q1 := Lib.hid (Blk.new w1 28 #[.slice a1 xs.length c1, .int .i64 p, .int .i64 k])
      have O2 := Lib.hid ((Rw.new ho).below ((Below.refl _ w1).alloc (Nat.le_refl _) (.cells #[.slice a1 xs.length c1, .int .i64 p, .int .i64 k] 28)) (Nat.le_refl _))
      have B4 := Lib.hid (B3.out.alloc s1 (.cells #[.slice a1 xs.length c1, .int .i64 p, .int .i64 k] 28))
      have q0 := KK0.out.cell
      clear ho hb hb'
      go_wp2_with fail
      refine (HR.out _ N1.out (by simp; omega)).mono ?_
      rintro e w2 ⟨rfl, hb⟩
      have s2 := hb.size
      simp only [World.size_alloc] at s2
      have R0 := Lib.hid (KK0.out.below hb)
      have R1 := Lib.hid (KK1.out.below hb)
      have Q2 := Lib.hid (Q1.out.below hb)
      have O3 := Lib.hid (O2.out.below hb (by simp))
      have N2 := Lib.hid (N1.out.below (hb.mono (show hi ≤ _ by simp; omega)))
      have B5 := Lib.hid (B4.out.trans (hb.mono (by simp; omega)))
      have f1 := R1.out.frozen
      have g1 := R1.out.cell
      clear hb q0
      obtain ⟨g, rfl, hg1, hg2⟩ := own_block O3.out.own n1
      have hgq := O3.out.up g rfl
      have hgne : g ≠ w1.heap.size := by omega
      have z1 := O3.out.own.cellAt M (by omega)
      have z2 := O3.out.own.frozenAt M
      have z3 := z1.trans (el_cell .i64 xs M (by omega))
      have q0 := R0.out.cell
      have q2 := Q2.out.cell
      have s1' := O3.out.own.stored M (.int .i64 x)
      rw [← List.map_set] at s1'
      have S3 := Lib.hid s1'.1
      have B6 := Lib.hid (B5.out.trans ((below_own O3.out.own s1'.2 (show w.heap.size + 1 + 1 ≤ w2.heap.size by omega)).mono (by omega)))
      have U0 := Lib.hid (R0.out.far_ (p := ⟨g, M, none⟩) (show w.heap.size ≠ g by omega) (.int .i64 x))
      have U1 := Lib.hid (R1.out.far_ (p := ⟨g, M, none⟩) (show w.heap.size + 1 ≠ g by omega) (.int .i64 x))
      have U2 := Lib.hid (Q2.out.far_ (p := ⟨g, M, none⟩) (show w1.heap.size ≠ g by omega) (.int .i64 x))
      have V1 := Lib.hid (U1.out.far_ (p := ⟨w1.heap.size, 2, none⟩) (show w.heap.size + 1 ≠ w1.heap.size by omega) (.int .i64 ((k : Int) + 1)))
      have V2 := Lib.hid (U2.out.set_ 2 (.int .i64 ((k : Int) + 1)))
      have S4 := Lib.hid (S3.out.kept (grown_setCell _ w1.heap.size 2 (.int .i64 ((k : Int) + 1))) (.inr (fun e => hgne (by injection e))))
      have B7 := Lib.hid (B6.out.setCell (p := ⟨w1.heap.size, 2, none⟩) s1 (.int .i64 ((k : Int) + 1)))
      have HP := Lib.hid (ringok_drew (ringok_stored (T := 3) (g := w.heap.size + 1) (hd := p) (ct := (k : Int) + 1) (ok := true) (by simp) S4.out B7.out (by omega)))
      have u0 := U0.out.cell
      have u2 := U2.out.frozen 2
      have u3 := U2.out.cell 2
      have v2 := V2.out.cell
      have v1 := V1.out.cell
      have vf := V1.out.frozen
      clear s1' f1 g1
      go_wp2_with fail
      go_region_with (fail)
      all_goals
        go_wp2
        exact bodyPost_ret (v := .tuple #[.agg #[.slice (some ⟨g, 0, none⟩) xs.length c1, .int .i64 (p : Int), .int .i64 ((k : Int) + 1)], .bool true]) (by simp [results, Try.results28, go_sem, v1]) rfl HP.out
    · rw [if_neg hf, if_neg hf, decide_eq_false hf]
      obtain rfl : k = xs.length := by omega
      go_enter Try.func28, Try.ntmps28
      go_wp2_with fail
      refine (l03Copy_any _ _ c p (xs.length : Int) xs hi _ HN.out rfl (by simp; omega) hlen).mono ?_
      rintro e w1 ⟨a1, c1, rfl, ho, hb⟩
      have s0 := hb.size
      simp only [World.size_alloc] at s0
      have hb' := hb.mono (show hi ≤ _ by simp; omega)
      have B3 := Lib.hid (B2.out.trans (hb.mono (by simp; omega)))
      have N1 := Lib.hid ((HN.out.below hb').below ((Below.refl hi w1).alloc (by omega) (.cells #[.slice a1 xs.length c1, .int .i64 p, .int .i64 (xs.length : Int)] 28)))
      have KK0 := Lib.hid ((K0.out.below hb).alloc (.cells #[.slice a1 xs.length c1, .int .i64 p, .int .i64 (xs.length : Int)] 28))
      have KK1 := Lib.hid ((K1.out.below hb).alloc (.cells #[.slice a1 xs.length c1, .int .i64 p, .int .i64 (xs.length : Int)] 28))
      simp only [World.size_alloc] at ho
      have s1 := B3.out.size
      have Q1 := Lib.hid (Blk.new w1 28 #[.slice a1 xs.length c1, .int .i64 p, .int .i64 (xs.length : Int)])
      have O2 := Lib.hid ((Rw.new ho).below ((Below.refl _ w1).alloc (Nat.le_refl _) (.cells #[.slice a1 xs.length c1, .int .i64 p, .int .i64 (xs.length : Int)] 28)) (Nat.le_refl _))
      have B4 := Lib.hid (B3.out.alloc s1 (.cells #[.slice a1 xs.length c1, .int .i64 p, .int .i64 (xs.length : Int)] 28))
      have q0 := KK0.out.cell
      clear ho hb hb'
      go_wp2_with fail
      refine (HR.out _ N1.out (by simp; omega)).mono ?_
      rintro e w2 ⟨rfl, hb⟩
      have s2 := hb.size
      simp only [World.size_alloc] at s2
      have R0 := Lib.hid (KK0.out.below hb)
      have R1 := Lib.hid (KK1.out.below hb)
      have Q2 := Lib.hid (Q1.out.below hb)
      have O3 := Lib.hid (O2.out.below hb (by simp))
      have N2 := Lib.hid (N1.out.below (hb.mono (show hi ≤ _ by simp; omega)))
      have B5 := Lib.hid (B4.out.trans (hb.mono (by simp; omega)))
      have f1 := R1.out.frozen
      have g1 := R1.out.cell
      clear hb q0
      have q0 := R0.out.cell
      have q2 := Q2.out.cell
      have HP := Lib.hid (ringok_stored (T := 3) (g := w.heap.size + 1) (hd := p) (ct := (xs.length : Int)) (ok := false) rfl O3.out.own B5.out (by omega))
      go_wp2
      exact bodyPost_ret (v := .tuple #[.agg #[.slice a1 xs.length c1, .int .i64 (p : Int), .int .i64 (xs.length : Int)], .bool false]) (by simp [results, Try.results28, go_sem, g1]) rfl HP.out

end Go.Proofs.Ytkconbmgljmpfaa
