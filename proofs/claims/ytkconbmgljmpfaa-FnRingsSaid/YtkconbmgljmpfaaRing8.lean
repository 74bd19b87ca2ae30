/- Contracts of a ring's list, of impl.ListRing and impl.GrowRing. -/
import Derived.Test.YtkconbmgljmpfaaRing7
namespace Go.Proofs.Ytkconbmgljmpfaa
open Go.RowKit

set_option maxHeartbeats 1000000 in
set_option maxRecDepth 100000 in
theorem list_any (a : Option Addr) (c p k : Nat) (xs : List Int) (hi : Nat) (w : World) (hr : Nums .i64 w hi a c xs) (hB : hi ≤ w.heap.size) (n1 : 1 ≤ xs.length) (n2 : xs.length ≤ 20) (hp : p < xs.length) (hk : k ≤ xs.length) :
    Calls Try.prog 52 #[.agg #[.slice a xs.length c, .int .i64 (p : Int), .int .i64 (k : Int)]] w (FreshNums 3 .i64 (rList xs p k) w) := by
  have b1 := (Below.refl w.heap.size w).alloc (Nat.le_refl _) (.cells #[.slice a xs.length c, .int .i64 (p : Int), .int .i64 (k : Int)] 64)
  have HN := Lib.hid (hr.below (b1.mono hB))
  have B1 := Lib.hid b1
  clear hr b1
  have HG : Hid (∀ (W : World), Nums .i64 W hi a c xs → hi ≤ W.heap.size → Calls Try.prog 51 #[.agg #[.slice a xs.length c, .int .i64 (p : Int), .int .i64 (k : Int)], .int .i64 (k : Int)] W (FreshRing 3 (rList xs p k) 0 k W)) := fun W h1 h2 => by
    have hg := grown_any a c p k k _ xs hi W h1 h2 n1 n2 hp hk (Nat.le_refl _) (by omega) rfl
    rw [Nat.sub_self, List.replicate_zero, List.append_nil] at hg
    exact hg
  generalize rList xs p k = ys at HG
  have hfd : ∀ (W : World) (a1 : Option Addr) (n1 c1 : Nat) (x y : Int), (Instr.field 64 (.agg #[.slice a1 n1 c1, .int .i64 x, .int .i64 y]) 0).run Try.prog W = .ok (.slice a1 n1 c1) W := fun _ _ _ _ _ _ => by kernel_rfl
  go_enter Try.func52, Try.ntmps52
  go_wp2_with fail
  refine (HG.out _ HN.out (by simp; omega)).mono ?_
  rintro e w1 ⟨a1, c1, rfl, ho, hb⟩
  have HP : Hid (FreshNums 3 .i64 ys w (.returned (.slice a1 ys.length c1)) w1) := ⟨a1, c1, rfl, owns_less ho (by simp), B1.out.trans (hb.mono (by simp))⟩
  clear ho hb
  go_wp2
  go_ret
  exact HP.out

set_option maxHeartbeats 2000000 in
theorem implList_any (a : Option Addr) (n c : Nat) (hd ct : Int) (xs : List Int) (hi : Nat) (w : World) (hr : Nums .i64 w hi a c xs) (hn : n = xs.length) (hB : hi ≤ w.heap.size) (hlen : xs.length ≤ 1048576) :
    Calls Try.prog 16 #[.agg #[.slice a n c, .int .i64 hd, .int .i64 ct]] w (FreshNums 3 .i64 (listL xs hd ct) w) := by
  subst hn
  have b1 := (Below.refl w.heap.size w).alloc (Nat.le_refl _) (.cells #[.slice a xs.length c, .int .i64 hd, .int .i64 ct] 28)
  have HN := Lib.hid (hr.below (b1.mono hB))
  have B2 := Lib.hid b1
  clear hr b1
  have HR : Hid (∀ (W : World) (a1 : Option Addr) (c1 : Nat), Nums .i64 W W.heap.size a1 c1 xs → Calls Try.prog 50 #[.agg #[.slice a1 xs.length c1, .int .i64 hd, .int .i64 ct]] W fun e w' => e = .returned (.bool (rOk xs hd ct)) ∧ Below W.heap.size W w') := fun W a1 c1 h1 => ringOk_any a1 _ c1 hd ct xs _ W h1 rfl (Nat.le_refl _) hlen
  cases hk : rOk xs hd ct with
  | false =>
    rw [list_no hk]
    rw [hk] at HR
    go_enter Try.func16, Try.ntmps16
    go_wp2_with fail
    refine (ringOf_any a _ c hd ct xs hi _ HN.out rfl (by simp; omega) hlen).mono ?_
    rintro e w1 ⟨a1, c1, rfl, ho, hb⟩
    have B3 := Lib.hid (B2.out.trans (hb.mono (by simp)))
    simp only [World.size_alloc] at ho
    have O1 := Lib.hid (Rw.new ho)
    have s1 := B3.out.size
    have O2 := Lib.hid (O1.out.below ((Below.refl _ w1).alloc (Nat.le_refl _) (.cells #[.slice a1 xs.length c1, .int .i64 hd, .int .i64 ct] 64)) (Nat.le_refl _))
    have B4 := Lib.hid (B3.out.alloc s1 (.cells #[.slice a1 xs.length c1, .int .i64 hd, .int .i64 ct] 64))
    clear ho hb
    go_wp2_with fail
    refine (HR.out _ _ _ O2.out.nums).mono ?_
    rintro e w2 ⟨rfl, hb⟩
    have HP : Hid (FreshNums 3 .i64 [] w (.returned (.slice none 0 0)) w2) := ⟨none, 0, rfl, World.ownsRow_nil _ _ _ _, B4.out.trans (hb.mono (by simp; omega))⟩
    clear hb
    go_wp2
    go_ret
    exact HP.out
  | true =>
    obtain ⟨p, k, rfl, rfl, n1, n2, hp, hq⟩ := rOk_bd hk
    rw [list_at hk]
    rw [hk] at HR
    clear hk
    go_enter Try.func16, Try.ntmps16
    go_wp2_with fail
    refine (ringOf_any a _ c p k xs hi _ HN.out rfl (by simp; omega) hlen).mono ?_
    rintro e w1 ⟨a1, c1, rfl, ho, hb⟩
    have B3 := Lib.hid (B2.out.trans (hb.mono (by simp)))
    simp only [World.size_alloc] at ho
    have O1 := Lib.hid (Rw.new ho)
    have s1 := B3.out.size
    have Q1 := Lib.hid (Blk.new w1 64 #[.slice a1 xs.length c1, .int .i64 (p : Int), .int .i64 (k : Int)])
    have O2 := Lib.hid (O1.out.below ((Below.refl _ w1).alloc (Nat.le_refl _) (.cells #[.slice a1 xs.length c1, .int .i64 (p : Int), .int .i64 (k : Int)] 64)) (Nat.le_refl _))
    have B4 := Lib.hid (B3.out.alloc s1 (.cells #[.slice a1 xs.length c1, .int .i64 (p : Int), .int .i64 (k : Int)] 64))
    clear ho hb
    go_wp2_with fail
    refine (HR.out _ _ _ O2.out.nums).mono ?_
    rintro e w2 ⟨rfl, hb⟩
    have Q2 := Q1.out.below hb
    have q2 := Q2.cell
    have O3 := Lib.hid (O2.out.below hb (by simp))
    have B5 := Lib.hid (B4.out.trans (hb.mono (by simp; omega)))
    clear hb
    go_wp2_with fail
    refine (list_any a1 c1 p k xs _ _ O3.out.nums (Nat.le_refl _) n1 n2 hp hq).mono ?_
    rintro e w3 ⟨a3, c3, rfl, ho, hb⟩
    have HP : Hid (FreshNums 3 .i64 (rList xs p k) w (.returned (.slice a3 (rList xs p k).length c3)) w3) := ⟨a3, c3, rfl, owns_less ho B5.out.size, B5.out.trans (hb.mono B5.out.size)⟩
    clear ho hb q2 Q2
    go_wp2
    go_ret
    exact HP.out

theorem grow_no1 {xs : List Int} {hd ct n : Int} (h : rOk xs hd ct = false) : growOk xs hd ct n = false := by simp [growOk, h]
theorem grow_no2 {xs : List Int} {hd ct n : Int} (h : inB n 1 20 = false) : growOk xs hd ct n = false := by simp [growOk, h]
set_option maxHeartbeats 4000000 in
set_option maxRecDepth 100000 in
theorem implGrow_any (a : Option Addr) (n c : Nat) (hd ct m : Int) (xs : List Int) (hi : Nat) (w : World) (hr : Nums .i64 w hi a c xs) (hn : n = xs.length) (hB : hi ≤ w.heap.size) (hlen : xs.length ≤ 1048576) :
    Calls Try.prog 15 #[.agg #[.slice a n c, .int .i64 hd, .int .i64 ct], .int .i64 m] w (FreshRingOk 3 (growL xs hd ct m) (growH xs hd ct m) ct (growOk xs hd ct m) w) := by
  subst hn
  have b1 := (Below.refl w.heap.size w).alloc (Nat.le_refl _) (.cells #[.slice a xs.length c, .int .i64 hd, .int .i64 ct] 28)
  have b2 := b1.alloc (by simp) (.cells #[.slice none 0 0, .int .i64 0, .int .i64 0] 28)
  have HN := Lib.hid (hr.below (b2.mono hB))
  have k1 := Blk.new (w.alloc (.cells #[.slice a xs.length c, .int .i64 hd, .int .i64 ct] 28)) 28 #[.slice none 0 0, .int .i64 0, .int .i64 0]
  simp only [World.size_alloc] at k1
  have K1 := Lib.hid k1
  have B2 := Lib.hid b2
  clear hr b1 b2 k1
  have HR : Hid (∀ (W : World) (a1 : Option Addr) (c1 : Nat), Nums .i64 W W.heap.size a1 c1 xs → Calls Try.prog 50 #[.agg #[.slice a1 xs.length c1, .int .i64 hd, .int .i64 ct]] W fun e w' => e = .returned (.bool (rOk xs hd ct)) ∧ Below W.heap.size W w') := fun W a1 c1 h1 => ringOk_any a1 _ c1 hd ct xs _ W h1 rfl (Nat.le_refl _) hlen
  have HC : Hid (∀ (W : World), Calls Try.prog 44 #[.int .i64 m] W fun e w' => e = .returned (.bool (inB m 1 20)) ∧ W = w') := fun W => isCap_any m W
  cases hk : rOk xs hd ct with
  | false =>
    rw [(grow_no (grow_no1 hk)).1, (grow_no (grow_no1 hk)).2, grow_no1 hk]
    rw [hk] at HR
    go_enter Try.func15, Try.ntmps15
    go_wp2_with fail
    refine (ringOf_any a _ c hd ct xs hi _ HN.out rfl (by simp; omega) hlen).mono ?_
    rintro e w1 ⟨a1, c1, rfl, ho, hb⟩
    have B3 := Lib.hid (B2.out.trans (hb.mono (by simp; omega)))
    have KK1 := Lib.hid ((K1.out.below hb).alloc (.cells #[.slice a1 xs.length c1, .int .i64 hd, .int .i64 ct] 64))
    simp only [World.size_alloc] at ho
    have O1 := Lib.hid (Rw.new ho)
    have s0 := hb.size
    simp only [World.size_alloc] at s0
    have s1 := B3.out.size
    have Q1 := Lib.hid (Blk.new w1 64 #[.slice a1 xs.length c1, .int .i64 hd, .int .i64 ct])
    have O2 := Lib.hid (O1.out.below ((Below.refl _ w1).alloc (Nat.le_refl _) (.cells #[.slice a1 xs.length c1, .int .i64 hd, .int .i64 ct] 64)) (Nat.le_refl _))
    have B4 := Lib.hid (B3.out.alloc s1 (.cells #[.slice a1 xs.length c1, .int .i64 hd, .int .i64 ct] 64))
    clear ho hb
    go_wp2_with fail
    refine (HR.out _ _ _ O2.out.nums).mono ?_
    rintro e w2 ⟨rfl, hb⟩
    have KK2 := Lib.hid (KK1.out.below hb)
    have Q2 := Lib.hid (Q1.out.below hb)
    have O3 := Lib.hid (O2.out.below hb (by simp))
    have B5 := Lib.hid (B4.out.trans (hb.mono (by simp; omega)))
    have q2 := Q2.out.cell
    have s3 := hb.size
    simp only [World.size_alloc] at s3
    clear hb
    go_wp2_with fail
    refine (ringFace_any a1 _ c1 hd ct _).mono ?_
    rintro e w3 ⟨rfl, hb⟩
    have k3 := KK2.out.below hb
    have q3 := k3.cell
    have f3 := k3.frozen
    have s2 := B5.out.size
    have HP : Hid (FreshRingOk 3 xs hd ct false w (.returned (.tuple #[.agg #[.slice a1 xs.length c1, .int .i64 hd, .int .i64 ct], .bool false])) (((w3.setCell ⟨w.heap.size + 1, 0, none⟩ (.slice a1 xs.length c1)).setCell ⟨w.heap.size + 1, 1, none⟩ (.int .i64 hd)).setCell ⟨w.heap.size + 1, 2, none⟩ (.int .i64 ct))) :=
      ringok_stored rfl (O3.out.below hb (by omega)).own (B5.out.trans (hb.mono s2)) (by omega)
    clear hb k3 q2
    go_wp2
    exact bodyPost_ret (v := .tuple #[.agg #[.slice a1 xs.length c1, .int .i64 hd, .int .i64 ct], .bool false]) (by simp [results, Try.results15, go_sem, q3]) rfl HP.out
  | true =>
    obtain ⟨p, k, rfl, rfl, n1, n2, hp, hq⟩ := rOk_bd hk
    rw [hk] at HR
    cases hc : inB m 1 20 with
    | false =>
      rw [(grow_no (grow_no2 hc)).1, (grow_no (grow_no2 hc)).2, grow_no2 hc]
      rw [hc] at HC
      clear hk hc
      go_enter Try.func15, Try.ntmps15
      go_wp2_with fail
      refine (ringOf_any a _ c (p : Int) (k : Int) xs hi _ HN.out rfl (by simp; omega) hlen).mono ?_
      rintro e w1 ⟨a1, c1, rfl, ho, hb⟩
      have B3 := Lib.hid (B2.out.trans (hb.mono (by simp; omega)))
      have KK1 := Lib.hid ((K1.out.below hb).alloc (.cells #[.slice a1 xs.length c1, .int .i64 (p : Int), .int .i64 (k : Int)] 64))
      simp only [World.size_alloc] at ho
      have O1 := Lib.hid (Rw.new ho)
      have s0 := hb.size
      simp only [World.size_alloc] at s0
      have s1 := B3.out.size
      have Q1 := Lib.hid (Blk.new w1 64 #[.slice a1 xs.length c1, .int .i64 (p : Int), .int .i64 (k : Int)])
      have O2 := Lib.hid (O1.out.below ((Below.refl _ w1).alloc (Nat.le_refl _) (.cells #[.slice a1 xs.length c1, .int .i64 (p : Int), .int .i64 (k : Int)] 64)) (Nat.le_refl _))
      have B4 := Lib.hid (B3.out.alloc s1 (.cells #[.slice a1 xs.length c1, .int .i64 (p : Int), .int .i64 (k : Int)] 64))
      clear ho hb
      go_wp2_with fail
      refine (HR.out _ _ _ O2.out.nums).mono ?_
      rintro e w2 ⟨rfl, hb⟩
      have KK2 := Lib.hid (KK1.out.below hb)
      have Q2 := Lib.hid (Q1.out.below hb)
      have O3 := Lib.hid (O2.out.below hb (by simp))
      have B5 := Lib.hid (B4.out.trans (hb.mono (by simp; omega)))
      have q2 := Q2.out.cell
      have s3 := hb.size
      simp only [World.size_alloc] at s3
      clear hb
      go_wp2_with fail
      refine (HC.out _).mono ?_
      rintro e w' ⟨rfl, rfl⟩
      go_wp2_with fail
      refine (ringFace_any a1 _ c1 (p : Int) (k : Int) _).mono ?_
      rintro e w3 ⟨rfl, hb⟩
      have k3 := KK2.out.below hb
      have q3 := k3.cell
      have f3 := k3.frozen
      have s2 := B5.out.size
      have HP : Hid (FreshRingOk 3 xs (p : Int) (k : Int) false w (.returned (.tuple #[.agg #[.slice a1 xs.length c1, .int .i64 (p : Int), .int .i64 (k : Int)], .bool false])) (((w3.setCell ⟨w.heap.size + 1, 0, none⟩ (.slice a1 xs.length c1)).setCell ⟨w.heap.size + 1, 1, none⟩ (.int .i64 (p : Int))).setCell ⟨w.heap.size + 1, 2, none⟩ (.int .i64 (k : Int)))) :=
        ringok_stored rfl (O3.out.below hb (by omega)).own (B5.out.trans (hb.mono s2)) (by omega)
      clear hb k3 q2
      go_wp2
      exact bodyPost_ret (v := .tuple #[.agg #[.slice a1 xs.length c1, .int .i64 (p : Int), .int .i64 (k : Int)], .bool false]) (by simp [results, Try.results15, go_sem, q3]) rfl HP.out
    | true =>
      have hmb := inB_iff.1 hc
      obtain ⟨m, rfl⟩ : ∃ m' : Nat, m = m' := ⟨m.toNat, by omega⟩
      rw [hc] at HC
      by_cases hle : k ≤ m
      · have hg : growOk xs p k (m : Int) = true := by unfold growOk; rw [hk, hc]; simp; omega
        rw [(grow_at hg).1, (grow_at hg).2, hg]
        clear hk hc hg
        have hgt : ¬ (m < k) := by omega
        have HG := Lib.hid (fun (W : World) a1 c1 h1 => grown_any a1 c1 p k m _ xs _ W h1 (Nat.le_refl _) n1 n2 hp hq hle (by omega) rfl)
        generalize rList xs p k ++ List.replicate (m - k) 0 = ys at HG
        go_enter Try.func15, Try.ntmps15
        go_wp2_with fail
        refine (ringOf_any a _ c (p : Int) (k : Int) xs hi _ HN.out rfl (by simp; omega) hlen).mono ?_
        rintro e w1 ⟨a1, c1, rfl, ho, hb⟩
        have B3 := Lib.hid (B2.out.trans (hb.mono (by simp; omega)))
        have KK1 := Lib.hid ((K1.out.below hb).alloc (.cells #[.slice a1 xs.length c1, .int .i64 (p : Int), .int .i64 (k : Int)] 64))
        simp only [World.size_alloc] at ho
        have O1 := Lib.hid (Rw.new ho)
        have s0 := hb.size
        simp only [World.size_alloc] at s0
        have s1 := B3.out.size
        have Q1 := Lib.hid (Blk.new w1 64 #[.slice a1 xs.length c1, .int .i64 (p : Int), .int .i64 (k : Int)])
        have O2 := Lib.hid (O1.out.below ((Below.refl _ w1).alloc (Nat.le_refl _) (.cells #[.slice a1 xs.length c1, .int .i64 (p : Int), .int .i64 (k : Int)] 64)) (Nat.le_refl _))
        have B4 := Lib.hid (B3.out.alloc s1 (.cells #[.slice a1 xs.length c1, .int .i64 (p : Int), .int .i64 (k : Int)] 64))
        clear ho hb
        go_wp2_with fail
        refine (HR.out _ _ _ O2.out.nums).mono ?_
        rintro e w2 ⟨rfl, hb⟩
        have KK2 := Lib.hid (KK1.out.below hb)
        have Q2 := Lib.hid (Q1.out.below hb)
        have O3 := Lib.hid (O2.out.below hb (by simp))
        have B5 := Lib.hid (B4.out.trans (hb.mono (by simp; omega)))
        have q2 := Q2.out.cell
        have s3 := hb.size
        simp only [World.size_alloc] at s3
        clear hb
        go_wp2_with fail
        refine (HC.out _).mono ?_
        rintro e w' ⟨rfl, rfl⟩
        go_wp2_with fail
        refine (HG.out _ _ _ O3.out.nums).mono ?_
        rintro e w3 ⟨a3, c3, rfl, ho, hb⟩
        have KK3 := Lib.hid (KK2.out.below hb)
        have B6 := Lib.hid (B5.out.trans (hb.mono B5.out.size))
        have O4 := Lib.hid (Rw.new ho)
        have s4 := hb.size
        clear ho hb q2
        go_wp2_with fail
        refine (ringFace_any a3 _ c3 0 k _).mono ?_
        rintro e w4 ⟨rfl, hb⟩
        have k3 := KK3.out.below hb
        have q3 := k3.cell
        have f3 := k3.frozen
        have s5 := B6.out.size
        have HP : Hid (FreshRingOk 3 ys 0 (k : Int) true w (.returned (.tuple #[.agg #[.slice a3 ys.length c3, .int .i64 0, .int .i64 (k : Int)], .bool true])) (((w4.setCell ⟨w.heap.size + 1, 0, none⟩ (.slice a3 ys.length c3)).setCell ⟨w.heap.size + 1, 1, none⟩ (.int .i64 0)).setCell ⟨w.heap.size + 1, 2, none⟩ (.int .i64 (k : Int)))) :=
          ringok_stored rfl (O4.out.below hb (by omega)).own (B6.out.trans (hb.mono s5)) (by omega)
        clear hb k3
        go_wp2
        exact bodyPost_ret (v := .tuple #[.agg #[.slice a3 ys.length c3, .int .i64 0, .int .i64 (k : Int)], .bool true]) (by simp [results, Try.results15, go_sem, q3]) rfl HP.out
      · have hg : growOk xs p k (m : Int) = false := by unfold growOk; rw [hk, hc]; simp; omega
        rw [(grow_no hg).1, (grow_no hg).2, hg]
        clear hk hc hg
        have hgt : m < k := by omega
        go_enter Try.func15, Try.ntmps15
        go_wp2_with fail
        refine (ringOf_any a _ c (p : Int) (k : Int) xs hi _ HN.out rfl (by simp; omega) hlen).mono ?_
        rintro e w1 ⟨a1, c1, rfl, ho, hb⟩
        have B3 := Lib.hid (B2.out.trans (hb.mono (by simp; omega)))
        have KK1 := Lib.hid ((K1.out.below hb).alloc (.cells #[.slice a1 xs.length c1, .int .i64 (p : Int), .int .i64 (k : Int)] 64))
        simp only [World.size_alloc] at ho
        have O1 := Lib.hid (Rw.new ho)
        have s0 := hb.size
        simp only [World.size_alloc] at s0
        have s1 := B3.out.size
        have Q1 := Lib.hid (Blk.new w1 64 #[.slice a1 xs.length c1, .int .i64 (p : Int), .int .i64 (k : Int)])
        have O2 := Lib.hid (O1.out.below ((Below.refl _ w1).alloc (Nat.le_refl _) (.cells #[.slice a1 xs.length c1, .int .i64 (p : Int), .int .i64 (k : Int)] 64)) (Nat.le_refl _))
        have B4 := Lib.hid (B3.out.alloc s1 (.cells #[.slice a1 xs.length c1, .int .i64 (p : Int), .int .i64 (k : Int)] 64))
        clear ho hb
        go_wp2_with fail
        refine (HR.out _ _ _ O2.out.nums).mono ?_
        rintro e w2 ⟨rfl, hb⟩
        have KK2 := Lib.hid (KK1.out.below hb)
        have Q2 := Lib.hid (Q1.out.below hb)
        have O3 := Lib.hid (O2.out.below hb (by simp))
        have B5 := Lib.hid (B4.out.trans (hb.mono (by simp; omega)))
        have q2 := Q2.out.cell
        have s3 := hb.size
        simp only [World.size_alloc] at s3
        clear hb
        go_wp2_with fail
        refine (HC.out _).mono ?_
        rintro e w' ⟨rfl, rfl⟩
        go_wp2_with fail
        refine (ringFace_any a1 _ c1 (p : Int) (k : Int) _).mono ?_
        rintro e w3 ⟨rfl, hb⟩
        have k3 := KK2.out.below hb
        have q3 := k3.cell
        have f3 := k3.frozen
        have s2 := B5.out.size
        have HP : Hid (FreshRingOk 3 xs (p : Int) (k : Int) false w (.returned (.tuple #[.agg #[.slice a1 xs.length c1, .int .i64 (p : Int), .int .i64 (k : Int)], .bool false])) (((w3.setCell ⟨w.heap.size + 1, 0, none⟩ (.slice a1 xs.length c1)).setCell ⟨w.heap.size + 1, 1, none⟩ (.int .i64 (p : Int))).setCell ⟨w.heap.size + 1, 2, none⟩ (.int .i64 (k : Int)))) :=
          ringok_stored rfl (O3.out.below hb (by omega)).own (B5.out.trans (hb.mono s2)) (by omega)
        clear hb k3 q2
        go_wp2
        exact bodyPost_ret (v := .tuple #[.agg #[.slice a1 xs.length c1, .int .i64 (p : Int), .int .i64 (k : Int)], .bool false]) (by simp [results, Try.results15, go_sem, q3]) rfl HP.out
end Go.Proofs.Ytkconbmgljmpfaa
