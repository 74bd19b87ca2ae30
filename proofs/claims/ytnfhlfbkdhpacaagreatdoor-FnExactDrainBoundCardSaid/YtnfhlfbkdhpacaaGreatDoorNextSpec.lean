/- Contract of spec.TakeNext. -/
import Derived.Test.YtnfhlfbkdhpacaaGreatDoorNextImpl
import Derived.Test.YtnfhlfbkdhpacaaGreatDoorTakeSpec
import Derived.Test.YtnfhlfbkdhpacaaGreatDoorJoint1
namespace Go.Proofs.YtnfhlfbkdhpacaaGreatDoor
open Go.RowKit

theorem prefix_len {a b : List Int} (h : a.isPrefixOf b = true) : a.length ≤ b.length := by
  have := List.isPrefixOf_iff_prefix.1 h
  exact this.length_le

set_option maxRecDepth 100000 in
set_option maxHeartbeats 4000000 in
theorem specNext_any (hi : Nat) (a : Option Addr) (n c : Nat) (b : Bool) (xs : List Int) (w : World) (hN : Nums .u8 w hi a c xs) (hn : n = xs.length) (hh : hi ≤ w.heap.size) (hx : IsB xs) (hlen : xs.length ≤ 1048576) :
    Calls Tryz.prog 61 #[.agg #[.slice a n c, .bool b]] w (NextRes (nx xs b) w) := by
  subst hn
  have HX := Lib.hid hx
  have hcap := hN.cap
  have hbig := hN.big
  have b1 := (Below.refl w.heap.size w).alloc (Nat.le_refl _) (.cells #[.slice a xs.length c, .bool b] 91)
  have b2 := b1.alloc (by simp) (.cells #[.slice none 0 0, .bool false] 91)
  have b3 := b2.alloc (by simp; omega) (.cells #[.int .i64 0, .int .i64 0, .int .i64 0, .int .i64 0] 97)
  have HN := Lib.hid ((hN.more hh).below b3)
  have K0 := Lib.hid (((Blk.new w 91 #[.slice a xs.length c, .bool b]).alloc (.cells #[.slice none 0 0, .bool false] 91)).alloc (.cells #[.int .i64 0, .int .i64 0, .int .i64 0, .int .i64 0] 97))
  have k1 := (Blk.new (w.alloc (.cells #[.slice a xs.length c, .bool b] 91)) 91 #[.slice none 0 0, .bool false]).alloc (.cells #[.int .i64 0, .int .i64 0, .int .i64 0, .int .i64 0] 97)
  have k2 := Blk.new ((w.alloc (.cells #[.slice a xs.length c, .bool b] 91)).alloc (.cells #[.slice none 0 0, .bool false] 91)) 97 #[.int .i64 0, .int .i64 0, .int .i64 0, .int .i64 0]
  simp only [World.size_alloc] at k1 k2
  have K1 := Lib.hid k1
  have K2 := Lib.hid k2
  have B3 := Lib.hid b3
  clear hx hN b1 b2 b3 k1 k2
  have HD := Lib.hid (fun W => specDecOk_any a xs.length c b W (by omega))
  have hgd : nxGood xs b = (dOk xs.length b && !b) := rfl
  cases hk : dOk xs.length b with
  | false =>
    rw [nx_bad (by rw [hgd, hk]; rfl)]
    rw [hk] at HD
    clear hk hgd
    go_enter Tryz.func61, Tryz.ntmps61
    go_wp2_with fail
    refine (HD.out _).mono ?_
    rintro e w1 ⟨rfl, hb⟩
    have k0 := K0.out.below hb
    have q0 := k0.cell
    have KK1 := Lib.hid (K1.out.below hb)
    have KK2 := Lib.hid (K2.out.below hb)
    have N1 := Lib.hid (HN.out.below (hb.mono (by simp; omega)))
    have B4 := Lib.hid (B3.out.trans (hb.mono (by simp; omega)))
    have s1 := hb.size
    simp only [World.size_alloc] at s1
    clear hb k0
    go_wp2_with fail
    refine (l02Copy_any a _ c b xs _ _ N1.out rfl (by omega) (by omega)).mono ?_
    rintro e w2 ⟨a2, c2, rfl, ho, hb⟩
    have k1 := KK1.out.below hb
    have k2 := KK2.out.below hb
    have q1 := k1.cell
    have f1 := k1.frozen
    have q2 := k2.cell
    have f2 := k2.frozen
    have HP := Lib.hid (nx_stored (b := b) (k := 0) (y := 0) (t := 0) (v := 0) (C := 2) rfl ho (B4.out.trans (hb.mono (by omega))) (show w.heap.size ≤ w.heap.size + 1 by omega) (by omega) (show w.heap.size ≤ w.heap.size + 1 + 1 by omega) (by omega))
    clear ho hb k1 k2 q0
    go_wp2
    exact bodyPost_ret (v := .tuple #[.agg #[.slice a2 xs.length c2, .bool b], (.agg #[.int .i64 0, .int .i64 0, .int .i64 0, .int .i64 0]), .int .i64 2]) (by simp [results, Tryz.results61, go_sem, q1, q2]) rfl HP.out
  | true =>
    rw [hk] at HD
    cases b with
    | true =>
      rw [nx_bad (by rw [hgd, hk]; rfl)]
      clear hk hgd
      go_enter Tryz.func61, Tryz.ntmps61
      go_wp2_with fail
      refine (HD.out _).mono ?_
      rintro e w1 ⟨rfl, hb⟩
      have k0 := K0.out.below hb
      have q0 := k0.cell
      have KK1 := Lib.hid (K1.out.below hb)
      have KK2 := Lib.hid (K2.out.below hb)
      have N1 := Lib.hid (HN.out.below (hb.mono (by simp; omega)))
      have B4 := Lib.hid (B3.out.trans (hb.mono (by simp; omega)))
      have s1 := hb.size
      simp only [World.size_alloc] at s1
      clear hb k0
      go_wp2_with fail
      refine (l02Copy_any a _ c true xs _ _ N1.out rfl (by omega) (by omega)).mono ?_
      rintro e w2 ⟨a2, c2, rfl, ho, hb⟩
      have k1 := KK1.out.below hb
      have k2 := KK2.out.below hb
      have q1 := k1.cell
      have f1 := k1.frozen
      have q2 := k2.cell
      have f2 := k2.frozen
      have HP := Lib.hid (nx_stored (b := true) (k := 0) (y := 0) (t := 0) (v := 0) (C := 2) rfl ho (B4.out.trans (hb.mono (by omega))) (show w.heap.size ≤ w.heap.size + 1 by omega) (by omega) (show w.heap.size ≤ w.heap.size + 1 + 1 by omega) (by omega))
      clear ho hb k1 k2 q0
      go_wp2
      exact bodyPost_ret (v := .tuple #[.agg #[.slice a2 xs.length c2, .bool true], (.agg #[.int .i64 0, .int .i64 0, .int .i64 0, .int .i64 0]), .int .i64 2]) (by simp [results, Tryz.results61, go_sem, q1, q2]) rfl HP.out
    | false =>
      have hg : nxGood xs false = true := by rw [hgd, hk]; rfl
      clear hk hgd
      cases hh1 : tkHere xs with
      | true =>
        rw [nx_here hg hh1]
        have hp := hh1
        unfold tkHere at hp
        rw [Bool.and_eq_true, decide_eq_true_eq] at hp
        have hpl := prefix_len hp.2
        have hp0 := hp.1
        have HT : Hid (∀ (W : World), Nums .u8 W w.heap.size a c xs → w.heap.size ≤ W.heap.size → Calls Tryz.prog 103 #[.slice a xs.length c] W fun e w' => e = .returned (.tuple #[(.agg #[.int .i64 (f0K xs), .int .i64 (f0Y xs), .int .i64 (f0T xs), .int .i64 (f0V xs)]), .int .i64 ((put0 xs).length : Int)]) ∧ Below W.heap.size W w') := Lib.hid (fun W h1 h2 => by
          have h := specTake_any w.heap.size a c xs W h1 h2 HX.out
          unfold TakePost at h
          rw [show tkF xs = (.agg #[.int .i64 (f0K xs), .int .i64 (f0Y xs), .int .i64 (f0T xs), .int .i64 (f0V xs)]) by simp [tkF, hh1], show tkN xs = ((put0 xs).length : Int) by simp [tkN, hh1]] at h
          exact h)
        have hys : (xs.drop (put0 xs).length).length = xs.length - (put0 xs).length := List.length_drop
        have hdr := fun (W : World) (h : Nums .u8 W w.heap.size a c xs) => h.drop (put0 xs).length hpl
        generalize f0K xs = K at HT ⊢
        generalize f0Y xs = Y at HT ⊢
        generalize f0T xs = T at HT ⊢
        generalize f0V xs = V at HT ⊢
        generalize xs.drop (put0 xs).length = ys at hys hdr ⊢
        generalize (put0 xs).length = P at HT hys hpl hp0 hdr
        have HYS := Lib.hid hys
        clear hh1 hg hp hys
        obtain ⟨bb, off, rfl, hbh, hcl⟩ := HN.out.lies.resolve_left (by intro h; subst h; simp at hpl; omega)
        clear hcl
        by_cases hcP : c = P
        · obtain rfl : c = P := hcP
          have HDR : Hid (∀ (W : World), Nums .u8 W w.heap.size (some ⟨bb, off, none⟩) c xs → Nums .u8 W w.heap.size (some ⟨bb, off, none⟩) 0 ys) := Lib.hid (fun W h => by
            have h2 := hdr W h
            rw [if_pos rfl, Nat.sub_self] at h2
            exact h2)
          clear hdr
          have hP : ¬ ((c : Int) < 0) := by omega
          have hP2 : ((c : Int) == 0) = false := by rw [beq_eq_false_iff_ne]; omega
          have hPc : c ≤ c := by omega
          go_enter Tryz.func61, Tryz.ntmps61
          go_wp2_with fail
          refine (HD.out _).mono ?_
          rintro e w1 ⟨rfl, hb⟩
          have k0 := K0.out.below hb
          have q0 := k0.cell
          have s1 := hb.size
          simp only [World.size_alloc] at s1
          have KK0 := Lib.hid k0
          have KK1 := Lib.hid (K1.out.below hb)
          have KK2 := Lib.hid (K2.out.below hb)
          have N1 := Lib.hid (HN.out.below (hb.mono (by simp; omega)))
          have B4 := Lib.hid (B3.out.trans (hb.mono (by simp; omega)))
          clear hb k0
          go_wp2_with fail
          refine (HT.out _ N1.out (by omega)).mono ?_
          rintro e w2 ⟨rfl, hb⟩
          have s2 := hb.size
          have bf := (Below.refl w2.heap.size w2).alloc (Nat.le_refl _) (.cells #[.int .i64 K, .int .i64 Y, .int .i64 T, .int .i64 V] 97)
          have L0 := Lib.hid ((KK0.out.below hb).alloc (.cells #[.int .i64 K, .int .i64 Y, .int .i64 T, .int .i64 V] 97))
          have L1 := Lib.hid ((KK1.out.below hb).alloc (.cells #[.int .i64 K, .int .i64 Y, .int .i64 T, .int .i64 V] 97))
          have L2 := Lib.hid ((KK2.out.below hb).alloc (.cells #[.int .i64 K, .int .i64 Y, .int .i64 T, .int .i64 V] 97))
          have LF := Lib.hid (Blk.new w2 97 #[.int .i64 K, .int .i64 Y, .int .i64 T, .int .i64 V])
          have N2 := Lib.hid ((N1.out.below (hb.mono (by omega))).below (bf.mono (by omega)))
          have B5 := Lib.hid ((B4.out.trans (hb.mono (by omega))).trans (bf.mono (by omega)))
          have ND := Lib.hid (HDR.out _ (N2.out.below (Below.refl w.heap.size (w2.alloc (.cells #[.int .i64 K, .int .i64 Y, .int .i64 T, .int .i64 V] 97))).drew))
          have l0 := L0.out.cell
          have lf := LF.out.cell
          have hsz : w.heap.size ≤ (w2.alloc (.cells #[.int .i64 K, .int .i64 Y, .int .i64 T, .int .i64 V] 97)).drew.heap.size := by rw [size_drew_, World.size_alloc]; omega
          clear hb bf q0
          go_wp2_with fail
          go_region_with (go_at_call 104; refine (specBytes2_any _ _ _ ys w.heap.size _ ND.out (by have h9 := HYS.out; omega) hsz (by have h9 := HYS.out; omega)).mono ?_; rintro e w3 ⟨a3, c3, rfl, ho, hb⟩; have m1 := L1.out.drew.below hb; have m2 := L2.out.drew.below hb; have mf := LF.out.drew.below hb; have mq1 := m1.cell; have mf1 := m1.frozen; have mq2 := m2.cell; have mf2 := m2.frozen; have mqf := mf.cell; have HP := Lib.hid (nx_stored (b := false) (k := K) (y := Y) (t := T) (v := V) (C := 0) rfl ho (B5.out.drew.trans (hb.mono hsz)) (show w.heap.size ≤ w.heap.size + 1 by omega) (by rw [size_drew_, World.size_alloc]; omega) (show w.heap.size ≤ w.heap.size + 1 + 1 by omega) (by rw [size_drew_, World.size_alloc]; omega)); clear ho hb m1 m2 mf)
          all_goals
            go_wp2
            exact bodyPost_ret (v := .tuple #[.agg #[.slice a3 ys.length c3, .bool false], .agg #[.int .i64 K, .int .i64 Y, .int .i64 T, .int .i64 V], .int .i64 0]) (by simp [results, Tryz.results61, go_sem, mq1, mq2]) rfl HP.out
        · have HDR : Hid (∀ (W : World), Nums .u8 W w.heap.size (some ⟨bb, off, none⟩) c xs → Nums .u8 W w.heap.size (some ⟨bb, off + P, none⟩) (c - P) ys) := Lib.hid (fun W h => by
            have h2 := hdr W h
            rw [if_neg hcP] at h2
            have e : (some (⟨bb, off, none⟩ : Addr)).map (·.add (P * 1)) = some ⟨bb, off + P, none⟩ := by
              simp [Addr.add]; omega
            rw [e] at h2
            exact h2)
          clear hdr
          have hP : ¬ ((P : Int) < 0) := by omega
          have hP2 : ((P : Int) == 0) = false := by rw [beq_eq_false_iff_ne]; omega
          have hPc : P ≤ c := by omega
          go_enter Tryz.func61, Tryz.ntmps61
          go_wp2_with fail
          refine (HD.out _).mono ?_
          rintro e w1 ⟨rfl, hb⟩
          have k0 := K0.out.below hb
          have q0 := k0.cell
          have s1 := hb.size
          simp only [World.size_alloc] at s1
          have KK0 := Lib.hid k0
          have KK1 := Lib.hid (K1.out.below hb)
          have KK2 := Lib.hid (K2.out.below hb)
          have N1 := Lib.hid (HN.out.below (hb.mono (by simp; omega)))
          have B4 := Lib.hid (B3.out.trans (hb.mono (by simp; omega)))
          clear hb k0
          go_wp2_with fail
          refine (HT.out _ N1.out (by omega)).mono ?_
          rintro e w2 ⟨rfl, hb⟩
          have s2 := hb.size
          have bf := (Below.refl w2.heap.size w2).alloc (Nat.le_refl _) (.cells #[.int .i64 K, .int .i64 Y, .int .i64 T, .int .i64 V] 97)
          have L0 := Lib.hid ((KK0.out.below hb).alloc (.cells #[.int .i64 K, .int .i64 Y, .int .i64 T, .int .i64 V] 97))
          have L1 := Lib.hid ((KK1.out.below hb).alloc (.cells #[.int .i64 K, .int .i64 Y, .int .i64 T, .int .i64 V] 97))
          have L2 := Lib.hid ((KK2.out.below hb).alloc (.cells #[.int .i64 K, .int .i64 Y, .int .i64 T, .int .i64 V] 97))
          have LF := Lib.hid (Blk.new w2 97 #[.int .i64 K, .int .i64 Y, .int .i64 T, .int .i64 V])
          have N2 := Lib.hid ((N1.out.below (hb.mono (by omega))).below (bf.mono (by omega)))
          have B5 := Lib.hid ((B4.out.trans (hb.mono (by omega))).trans (bf.mono (by omega)))
          have ND := Lib.hid (HDR.out _ (N2.out.below (Below.refl w.heap.size (w2.alloc (.cells #[.int .i64 K, .int .i64 Y, .int .i64 T, .int .i64 V] 97))).drew))
          have l0 := L0.out.cell
          have lf := LF.out.cell
          have hsz : w.heap.size ≤ (w2.alloc (.cells #[.int .i64 K, .int .i64 Y, .int .i64 T, .int .i64 V] 97)).drew.heap.size := by rw [size_drew_, World.size_alloc]; omega
          clear hb bf q0
          go_wp2_with fail
          go_region_with (go_at_call 104; refine (specBytes2_any _ _ _ ys w.heap.size _ ND.out (by have h9 := HYS.out; omega) hsz (by have h9 := HYS.out; omega)).mono ?_; rintro e w3 ⟨a3, c3, rfl, ho, hb⟩; have m1 := L1.out.drew.below hb; have m2 := L2.out.drew.below hb; have mf := LF.out.drew.below hb; have mq1 := m1.cell; have mf1 := m1.frozen; have mq2 := m2.cell; have mf2 := m2.frozen; have mqf := mf.cell; have HP := Lib.hid (nx_stored (b := false) (k := K) (y := Y) (t := T) (v := V) (C := 0) rfl ho (B5.out.drew.trans (hb.mono hsz)) (show w.heap.size ≤ w.heap.size + 1 by omega) (by rw [size_drew_, World.size_alloc]; omega) (show w.heap.size ≤ w.heap.size + 1 + 1 by omega) (by rw [size_drew_, World.size_alloc]; omega)); clear ho hb m1 m2 mf)
          all_goals
            go_wp2
            exact bodyPost_ret (v := .tuple #[.agg #[.slice a3 ys.length c3, .bool false], .agg #[.int .i64 K, .int .i64 Y, .int .i64 T, .int .i64 V], .int .i64 0]) (by simp [results, Tryz.results61, go_sem, mq1, mq2]) rfl HP.out
      | false =>
        cases hm1 : tkMore xs with
        | true =>
          rw [nx_more hg hh1 hm1]
          have HT : Hid (∀ (W : World), Nums .u8 W w.heap.size a c xs → w.heap.size ≤ W.heap.size → Calls Tryz.prog 103 #[.slice a xs.length c] W fun e w' => e = .returned (.tuple #[(.agg #[.int .i64 0, .int .i64 0, .int .i64 0, .int .i64 0]), .int .i64 0]) ∧ Below W.heap.size W w') := Lib.hid (fun W h1 h2 => by
            have h := specTake_any w.heap.size a c xs W h1 h2 HX.out
            unfold TakePost at h
            rw [show tkF xs = (.agg #[.int .i64 0, .int .i64 0, .int .i64 0, .int .i64 0]) by simp [tkF, hh1], show tkN xs = 0 by simp [tkN, hh1, hm1]] at h
            exact h)
          clear hh1 hg hm1
          go_enter Tryz.func61, Tryz.ntmps61
          go_wp2_with fail
          refine (HD.out _).mono ?_
          rintro e w1 ⟨rfl, hb⟩
          have k0 := K0.out.below hb
          have q0 := k0.cell
          have s1 := hb.size
          simp only [World.size_alloc] at s1
          have KK0 := Lib.hid k0
          have KK1 := Lib.hid (K1.out.below hb)
          have KK2 := Lib.hid (K2.out.below hb)
          have N1 := Lib.hid (HN.out.below (hb.mono (by simp; omega)))
          have B4 := Lib.hid (B3.out.trans (hb.mono (by simp; omega)))
          clear hb k0
          go_wp2_with fail
          refine (HT.out _ N1.out (by omega)).mono ?_
          rintro e w2 ⟨rfl, hb⟩
          have s2 := hb.size
          clear q0
          have k0 := KK0.out.below hb
          have q0 := (k0.alloc (.cells #[.int .i64 0, .int .i64 0, .int .i64 0, .int .i64 0] 97)).cell
          have L1 := Lib.hid ((KK1.out.below hb).alloc (.cells #[.int .i64 0, .int .i64 0, .int .i64 0, .int .i64 0] 97))
          have L2 := Lib.hid ((KK2.out.below hb).alloc (.cells #[.int .i64 0, .int .i64 0, .int .i64 0, .int .i64 0] 97))
          have bf := (Below.refl w2.heap.size w2).alloc (Nat.le_refl _) (.cells #[.int .i64 0, .int .i64 0, .int .i64 0, .int .i64 0] 97)
          have N2 := Lib.hid ((N1.out.below (hb.mono (by omega))).below (bf.mono (by omega)))
          have B5 := Lib.hid ((B4.out.trans (hb.mono (by omega))).trans (bf.mono (by omega)))
          clear hb k0 bf
          go_wp2_with fail
          refine (l02Copy_any a _ c false xs _ _ N2.out rfl (by simp; omega) (by omega)).mono ?_
          rintro e w3 ⟨a3, c3, rfl, ho, hb⟩
          have m1 := L1.out.below hb
          have m2 := L2.out.below hb
          have mq1 := m1.cell
          have mf1 := m1.frozen
          have mq2 := m2.cell
          have mf2 := m2.frozen
          simp only [World.size_alloc] at ho
          have HP := Lib.hid (nx_stored (b := false) (k := 0) (y := 0) (t := 0) (v := 0) (C := 1) rfl ho (B5.out.trans (hb.mono (by simp; omega))) (show w.heap.size ≤ w.heap.size + 1 by omega) (by omega) (show w.heap.size ≤ w.heap.size + 1 + 1 by omega) (by omega))
          clear ho hb m1 m2 q0
          go_wp2
          exact bodyPost_ret (v := .tuple #[.agg #[.slice a3 xs.length c3, .bool false], (.agg #[.int .i64 0, .int .i64 0, .int .i64 0, .int .i64 0]), .int .i64 1]) (by simp [results, Tryz.results61, go_sem, mq1, mq2]) rfl HP.out
        | false =>
          rw [nx_bent hg hh1 hm1]
          have HT : Hid (∀ (W : World), Nums .u8 W w.heap.size a c xs → w.heap.size ≤ W.heap.size → Calls Tryz.prog 103 #[.slice a xs.length c] W fun e w' => e = .returned (.tuple #[(.agg #[.int .i64 0, .int .i64 0, .int .i64 0, .int .i64 0]), .int .i64 (-1)]) ∧ Below W.heap.size W w') := Lib.hid (fun W h1 h2 => by
            have h := specTake_any w.heap.size a c xs W h1 h2 HX.out
            unfold TakePost at h
            rw [show tkF xs = (.agg #[.int .i64 0, .int .i64 0, .int .i64 0, .int .i64 0]) by simp [tkF, hh1], show tkN xs = -1 by simp [tkN, hh1, hm1]] at h
            exact h)
          clear hh1 hg hm1
          go_enter Tryz.func61, Tryz.ntmps61
          go_wp2_with fail
          refine (HD.out _).mono ?_
          rintro e w1 ⟨rfl, hb⟩
          have k0 := K0.out.below hb
          have q0 := k0.cell
          have s1 := hb.size
          simp only [World.size_alloc] at s1
          have KK0 := Lib.hid k0
          have KK1 := Lib.hid (K1.out.below hb)
          have KK2 := Lib.hid (K2.out.below hb)
          have N1 := Lib.hid (HN.out.below (hb.mono (by simp; omega)))
          have B4 := Lib.hid (B3.out.trans (hb.mono (by simp; omega)))
          clear hb k0
          go_wp2_with fail
          refine (HT.out _ N1.out (by omega)).mono ?_
          rintro e w2 ⟨rfl, hb⟩
          have s2 := hb.size
          clear q0
          have m1 := (KK1.out.below hb).alloc (.cells #[.int .i64 0, .int .i64 0, .int .i64 0, .int .i64 0] 97)
          have m2 := (KK2.out.below hb).alloc (.cells #[.int .i64 0, .int .i64 0, .int .i64 0, .int .i64 0] 97)
          have mq1 := m1.cell
          have mf1 := m1.frozen
          have mq2 := m2.cell
          have mf2 := m2.frozen
          have HP := Lib.hid (nx_stored0 (b := true) (k := 0) (y := 0) (t := 0) (v := 0) (C := 2) ((B4.out.trans (hb.mono (by omega))).alloc (by omega) (.cells #[.int .i64 0, .int .i64 0, .int .i64 0, .int .i64 0] 97)) (show w.heap.size ≤ w.heap.size + 1 by omega) (show w.heap.size ≤ w.heap.size + 1 + 1 by omega))
          clear hb m1 m2
          go_wp2
          exact bodyPost_ret (v := .tuple #[.agg #[.slice none 0 0, .bool true], (.agg #[.int .i64 0, .int .i64 0, .int .i64 0, .int .i64 0]), .int .i64 2]) (by simp [results, Tryz.results61, go_sem, mq1, mq2]) rfl HP.out

end Go.Proofs.YtnfhlfbkdhpacaaGreatDoor
