/- Contract of spec.PopRing. -/
import Derived.Test.YtkconbmgljmpfaaRing4
namespace Go.Proofs.Ytkconbmgljmpfaa
open Go.RowKit

set_option maxHeartbeats 4000000 in
set_option maxRecDepth 100000 in
theorem specPop_any (a : Option Addr) (n c : Nat) (hd ct : Int) (xs : List Int) (hi : Nat) (w : World) (hr : Nums .i64 w hi a c xs) (hn : n = xs.length) (hB : hi ≤ w.heap.size) (hlen : xs.length ≤ 1048576) :
    Calls Try.prog 30 #[.agg #[.slice a n c, .int .i64 hd, .int .i64 ct]] w (FreshRingX 3 (popL xs hd ct) (popH xs hd ct) (popC xs hd ct) (popX xs hd ct) (popOk xs hd ct) w) := by
  subst hn
  have hcap := hr.cap
  have hbig := hr.big
  have b1 := (Below.refl w.heap.size w).alloc (Nat.le_refl _) (.cells #[.slice a xs.length c, .int .i64 hd, .int .i64 ct] 28)
  have b2 := b1.alloc (by simp) (.cells #[.slice none 0 0, .int .i64 0, .int .i64 0] 28)
  have HN := Lib.hid (hr.below (b2.mono hB))
  have K0 := Lib.hid ((Blk.new w 28 #[.slice a xs.length c, .int .i64 hd, .int .i64 ct]).alloc (.cells #[.slice none 0 0, .int .i64 0, .int .i64 0] 28))
  have k1 := Blk.new (w.alloc (.cells #[.slice a xs.length c, .int .i64 hd, .int .i64 ct] 28)) 28 #[.slice none 0 0, .int .i64 0, .int .i64 0]
  simp only [World.size_alloc] at k1
  have K1 := Lib.hid k1
  have B2 := Lib.hid b2
  clear hr b1 b2 k1
  have HR : Hid (∀ (W : World), Nums .i64 W hi a c xs → hi ≤ W.heap.size → Calls Try.prog 20 #[.agg #[.slice a xs.length c, .int .i64 hd, .int .i64 ct]] W fun e w' => e = .returned (.bool (rOk xs hd ct)) ∧ Below W.heap.size W w') := fun W h1 h2 => specRingOk_any a _ c hd ct xs hi W h1 rfl h2 hlen
  cases hk : rOk xs hd ct with
  | false =>
    rw [(pop_no hk).1, (pop_no hk).2.1, (pop_no hk).2.2.1, (pop_no hk).2.2.2.1, (pop_no hk).2.2.2.2]
    rw [hk] at HR
    go_enter Try.func30, Try.ntmps30
    go_wp2_with fail
    refine (l03Copy_any _ _ c hd ct xs hi _ HN.out rfl (by simp; omega) hlen).mono ?_
    rintro e w1 ⟨a1, c1, rfl, ho, hb⟩
    have s0 := hb.size
    simp only [World.size_alloc] at s0
    have hb' := hb.mono (show hi ≤ _ by simp; omega)
    have B3 := Lib.hid (B2.out.trans (hb.mono (by simp; omega)))
    have N1 := Lib.hid ((HN.out.below hb').below ((Below.refl hi w1).alloc (by omega) (.cells #[.slice a1 xs.length c1, .int .i64 hd, .int .i64 ct] 28)))
    have KK0 := Lib.hid ((K0.out.below hb).alloc (.cells #[.slice a1 xs.length c1, .int .i64 hd, .int .i64 ct] 28))
    have KK1 := Lib.hid ((K1.out.below hb).alloc (.cells #[.slice a1 xs.length c1, .int .i64 hd, .int .i64 ct] 28))
    simp only [World.size_alloc] at ho
    have s1 := B3.out.size
    have Q1 := Lib.hid (Blk.new w1 28 #[.slice a1 xs.length c1, .int .i64 hd, .int .i64 ct])
    have O2 := Lib.hid ((Rw.new ho).below ((Below.refl _ w1).alloc (Nat.le_refl _) (.cells #[.slice a1 xs.length c1, .int .i64 hd, .int .i64 ct] 28)) (Nat.le_refl _))
    have B4 := Lib.hid (B3.out.alloc s1 (.cells #[.slice a1 xs.length c1, .int .i64 hd, .int .i64 ct] 28))
    have q0 := KK0.out.cell
    clear ho hb hb'
    go_wp2_with fail
    refine (HR.out _ N1.out (by simp; omega)).mono ?_
    rintro e w2 ⟨rfl, hb⟩
    have s2 := hb.size
    simp only [World.size_alloc] at s2
    have R0 := Lib.hid (KK0.out.below hb)
    have R1 := Lib.hid (KK1.out.below hb)
    have Q2 := Lib.hid (Q1.out.below hb)
    have O3 := Lib.hid (O2.out.below hb (by simp))
    have N2 := Lib.hid (N1.out.below (hb.mono (show hi ≤ _ by simp; omega)))
    have B5 := Lib.hid (B4.out.trans (hb.mono (by simp; omega)))
    have f1 := R1.out.frozen
    have g1 := R1.out.cell
    clear hb q0
    have q0 := R0.out.cell
    have q2 := Q2.out.cell
    have HP := Lib.hid (ringx_stored (T := 3) (g := w.heap.size + 1) (hd := hd) (ct := ct) (x := 0) (ok := false) rfl O3.out.own B5.out (by omega))
    go_wp2
    exact bodyPost_ret (v := .tuple #[.agg #[.slice a1 xs.length c1, .int .i64 hd, .int .i64 ct], .int .i64 0, .bool false]) (by simp [results, Try.results30, go_sem, g1]) rfl HP.out
  | true =>
    obtain ⟨p, k, rfl, rfl, n1, n2, hp, hq⟩ := rOk_bd hk
    rw [(pop_at hk).1, (pop_at hk).2.1, (pop_at hk).2.2.1, (pop_at hk).2.2.2.1, (pop_at hk).2.2.2.2]
    rw [hk] at HR
    by_cases hf : 0 < k
    · rw [if_pos hf, if_pos hf, if_pos hf, if_pos hf, decide_eq_true hf]
      have hml : (p + 1) % xs.length < xs.length := Nat.mod_lt _ (by omega)
      have htm : ((p : Int) + 1).tmod (xs.length : Int) = (((p + 1) % xs.length : Nat) : Int) := by rw [Int.tmod_eq_emod_of_nonneg (by omega)]; simp
      have hmod : ((p : Int) + 1) % (xs.length : Int) = (((p + 1) % xs.length : Nat) : Int) := by simp
      generalize (p + 1) % xs.length = M at hml htm hmod
      have hw2 : IntKind.i64.wrap (M : Int) = (M : Int) := IntWalk.i64_in _ (by omega)
      have hxs : xs ≠ [] := by rintro rfl; simp at n1
      have hkn : ((k : Int) == 0) = false := by rw [beq_eq_false_iff_ne]; omega
      obtain ⟨b0, off0, rfl, hb0, hc0⟩ := HN.out.lies.resolve_left (by intro h; subst h; simp at n1)
      clear hc0 hb0
      go_enter Try.func30, Try.ntmps30
      go_wp2_with fail
      refine (l03Copy_any _ _ c p k xs hi _ HN.out rfl (by simp; omega) hlen).mono ?_
      rintro e w1 ⟨a1, c1, rfl, ho, hb⟩
      have s0 := hb.size
      simp only [World.size_alloc] at s0
      have hb' := hb.mono (show hi ≤ _ by simp; omega)
      have B3 := Lib.hid (B2.out.trans (hb.mono (by simp; omega)))
      have N1 := Lib.hid ((HN.out.below hb').below ((Below.refl hi w1).alloc (by omega) (.cells #[.slice a1 xs.length c1, .int .i64 p, .int .i64 k] 28)))
      have KK0 := Lib.hid ((K0.out.below hb).alloc (.cells #[.slice a1 xs.length c1, .int .i64 p, .int .i64 k] 28))
      have KK1 := Lib.hid ((K1.out.below hb).alloc (.cells #[.slice a1 xs.length c1, .int .i64 p, .int .i64 k] 28))
      simp only [World.size_alloc] at ho
      have s1 := B3.out.size
      have Q1 := Lib.hid (Blk.new w1 28 #[.slice a1 xs.length c1, .int .i64 p, .int .i64 k])
      have O2 := Lib.hid ((Rw.new ho).below ((Below.refl _ w1).alloc (Nat.le_refl _) (.cells #[.slice a1 xs.length c1, .int .i64 p, .int .i64 k] 28)) (Nat.le_refl _))
      have B4 := Lib.hid (B3.out.alloc s1 (.cells #[.slice a1 xs.length c1, .int .i64 p, .int .i64 k] 28))
      have q0 := KK0.out.cell
      clear ho hb hb'
      go_wp2_with fail
      refine (HR.out _ N1.out (by simp; omega)).mono ?_
      rintro e w2 ⟨rfl, hb⟩
      have s2 := hb.size
      simp only [World.size_alloc] at s2
      have R0 := Lib.hid (KK0.out.below hb)
      have R1 := Lib.hid (KK1.out.below hb)
      have Q2 := Lib.hid (Q1.out.below hb)
      have O3 := Lib.hid (O2.out.below hb (by simp))
      have N2 := Lib.hid (N1.out.below (hb.mono (show hi ≤ _ by simp; omega)))
      have B5 := Lib.hid (B4.out.trans (hb.mono (by simp; omega)))
      have f1 := R1.out.frozen
      have g1 := R1.out.cell
      clear hb q0
      obtain ⟨g, rfl, hg1, hg2⟩ := own_block O3.out.own n1
      have hgq := O3.out.up g rfl
      have hgne : g ≠ w1.heap.size := by omega
      have z1 := (O3.out.own.cellAt p (by omega)).trans (el_cell .i64 xs p (by omega))
      have z2 := O3.out.own.frozenAt p
      obtain ⟨b1, off1, hbe, hb1, hc1⟩ := N2.out.lies.resolve_left (by intro h; subst h; simp at n1)
      injection hbe with hbe
      injection hbe with e1 e2 e3
      subst e1 e2
      have z3 := hc1 p hp
      have hb2 : b0 < w2.heap.size := by omega
      have q0 := R0.out.cell
      have q2 := Q2.out.cell
      have s1' := O3.out.own.stored p (.int .i64 0)
      rw [← List.map_set] at s1'
      have S3 := Lib.hid s1'.1
      have B6 := Lib.hid (B5.out.trans ((below_own O3.out.own s1'.2 (show w.heap.size + 1 + 1 ≤ w2.heap.size by omega)).mono (by omega)))
      have U0 := Lib.hid (R0.out.far_ (p := ⟨g, p, none⟩) (show w.heap.size ≠ g by omega) (.int .i64 0))
      have U1 := Lib.hid (R1.out.far_ (p := ⟨g, p, none⟩) (show w.heap.size + 1 ≠ g by omega) (.int .i64 0))
      have U2 := Lib.hid (Q2.out.far_ (p := ⟨g, p, none⟩) (show w1.heap.size ≠ g by omega) (.int .i64 0))
      have V0 := Lib.hid (U0.out.far_ (p := ⟨w1.heap.size, 1, none⟩) (show w.heap.size ≠ w1.heap.size by omega) (.int .i64 (M : Int)))
      have V1 := Lib.hid (U1.out.far_ (p := ⟨w1.heap.size, 1, none⟩) (show w.heap.size + 1 ≠ w1.heap.size by omega) (.int .i64 (M : Int)))
      have V2 := Lib.hid (U2.out.set_ 1 (.int .i64 (M : Int)))
      have X1 := Lib.hid (V1.out.far_ (p := ⟨w1.heap.size, 2, none⟩) (show w.heap.size + 1 ≠ w1.heap.size by omega) (.int .i64 ((k : Int) - 1)))
      have X2 := Lib.hid (V2.out.set_ 2 (.int .i64 ((k : Int) - 1)))
      have S4 := Lib.hid ((S3.out.kept (grown_setCell _ w1.heap.size 1 (.int .i64 (M : Int))) (.inr (fun e => hgne (by injection e)))).kept (grown_setCell _ w1.heap.size 2 (.int .i64 ((k : Int) - 1))) (.inr (fun e => hgne (by injection e))))
      have B7 := Lib.hid ((B6.out.setCell (p := ⟨w1.heap.size, 1, none⟩) s1 (.int .i64 (M : Int))).setCell (p := ⟨w1.heap.size, 2, none⟩) s1 (.int .i64 ((k : Int) - 1)))
      have HP := Lib.hid (ringx_stored (T := 3) (g := w.heap.size + 1) (hd := (M : Int)) (ct := (k : Int) - 1) (x := el xs p) (ok := true) (by simp) S4.out B7.out (by omega))
      have u0 := U0.out.cell
      have uf := U2.out.frozen
      have u3 := U2.out.cell
      have v0 := V0.out.cell
      have v2 := V2.out.cell
      have vf := V2.out.frozen
      have x1 := X1.out.cell
      have x2 := X2.out.cell
      have xf := X1.out.frozen
      clear s1' f1 g1
      go_wp2
      exact bodyPost_ret (v := .tuple #[.agg #[.slice (some ⟨g, 0, none⟩) xs.length c1, .int .i64 (M : Int), .int .i64 ((k : Int) - 1)], .int .i64 (el xs p), .bool true]) (by simp [results, Try.results30, go_sem, x1]) rfl HP.out
    · rw [if_neg hf, if_neg hf, if_neg hf, if_neg hf, decide_eq_false hf]
      obtain rfl : k = 0 := by omega
      simp only [Int.natCast_zero] at HR HN K0 K1 B2 hk ⊢
      go_enter Try.func30, Try.ntmps30
      go_wp2_with fail
      refine (l03Copy_any _ _ c p 0 xs hi _ HN.out rfl (by simp; omega) hlen).mono ?_
      rintro e w1 ⟨a1, c1, rfl, ho, hb⟩
      have s0 := hb.size
      simp only [World.size_alloc] at s0
      have hb' := hb.mono (show hi ≤ _ by simp; omega)
      have B3 := Lib.hid (B2.out.trans (hb.mono (by simp; omega)))
      have N1 := Lib.hid ((HN.out.below hb').below ((Below.refl hi w1).alloc (by omega) (.cells #[.slice a1 xs.length c1, .int .i64 p, .int .i64 0] 28)))
      have KK0 := Lib.hid ((K0.out.below hb).alloc (.cells #[.slice a1 xs.length c1, .int .i64 p, .int .i64 0] 28))
      have KK1 := Lib.hid ((K1.out.below hb).alloc (.cells #[.slice a1 xs.length c1, .int .i64 p, .int .i64 0] 28))
      simp only [World.size_alloc] at ho
      have s1 := B3.out.size
      have Q1 := Lib.hid (Blk.new w1 28 #[.slice a1 xs.length c1, .int .i64 p, .int .i64 0])
      have O2 := Lib.hid ((Rw.new ho).below ((Below.refl _ w1).alloc (Nat.le_refl _) (.cells #[.slice a1 xs.length c1, .int .i64 p, .int .i64 0] 28)) (Nat.le_refl _))
      have B4 := Lib.hid (B3.out.alloc s1 (.cells #[.slice a1 xs.length c1, .int .i64 p, .int .i64 0] 28))
      have q0 := KK0.out.cell
      clear ho hb hb'
      go_wp2_with fail
      refine (HR.out _ N1.out (by simp; omega)).mono ?_
      rintro e w2 ⟨rfl, hb⟩
      have s2 := hb.size
      simp only [World.size_alloc] at s2
      have R0 := Lib.hid (KK0.out.below hb)
      have R1 := Lib.hid (KK1.out.below hb)
      have Q2 := Lib.hid (Q1.out.below hb)
      have O3 := Lib.hid (O2.out.below hb (by simp))
      have N2 := Lib.hid (N1.out.below (hb.mono (show hi ≤ _ by simp; omega)))
      have B5 := Lib.hid (B4.out.trans (hb.mono (by simp; omega)))
      have f1 := R1.out.frozen
      have g1 := R1.out.cell
      clear hb q0
      have q0 := R0.out.cell
      have q2 := Q2.out.cell
      have HP := Lib.hid (ringx_stored (T := 3) (g := w.heap.size + 1) (hd := p) (ct := 0) (x := 0) (ok := false) rfl O3.out.own B5.out (by omega))
      go_wp2
      exact bodyPost_ret (v := .tuple #[.agg #[.slice a1 xs.length c1, .int .i64 (p : Int), .int .i64 0], .int .i64 0, .bool false]) (by simp [results, Try.results30, go_sem, g1]) rfl HP.out

end Go.Proofs.Ytkconbmgljmpfaa
