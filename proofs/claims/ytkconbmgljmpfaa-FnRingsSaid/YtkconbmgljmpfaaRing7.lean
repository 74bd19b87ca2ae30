/- Contracts of a ring's grown and list, of impl.ListRing and impl.GrowRing. -/
import Derived.Test.YtkconbmgljmpfaaRing4
import Derived.Test.YtkconbmgljmpfaaPlainRing2
import Derived.Laws.CopyOwn
import Derived.Deep.RegionLaw
namespace Go.Proofs.Ytkconbmgljmpfaa
open Go.RowKit

theorem nums_oneI (xs : List Int) : ∀ u ∈ xs.map (Value.int .i64), u.oneCell' = true := by
  intro u hu
  simp only [List.mem_map] at hu
  obtain ⟨x, _, rfl⟩ := hu
  rfl
/-- A row whose cells are known whole is the call's own. -/
theorem own_of_heap {w : World} {g lo n c : Nat} {T : TypeId} {L : List Value} {xs : List Int} (h : w.heap[g]? = some (.cells L.toArray T (0, 0))) (hL : L = xs.map (Value.int .i64)) (hn : n = xs.length) (hc : c = n) (hlo : lo ≤ g) (hm : n ≤ 1048576) : w.ownsRow lo T 1 (.slice (some ⟨g, 0, none⟩) n c) n (xs.map (Value.int .i64)) := by
  subst hL
  subst hn
  subst hc
  exact ⟨by simp, .inr ⟨g, xs.length, _, rfl, hlo, h, Nat.le_refl _, by unfold maxLen; omega, by simp, List.take_of_length_le (by simp)⟩⟩
/-- A piece of a row that can be read. -/
theorem Nums.piece {w : World} {hi b off c : Nat} {xs : List Int} (h : Nums .i64 w hi (some ⟨b, off, none⟩) c xs) (p m : Nat) (hm : p + m ≤ xs.length) : ∀ j v, (((xs.drop p).take m).map (Value.int .i64))[j]? = some v → w.cell? ((⟨b, off + p, none⟩ : Addr).add j) = some v := by
  intro j v hj
  have hl : j < m := by
    have := (List.getElem?_eq_some_iff.1 hj).1
    simp at this; omega
  rcases h.lies with h0 | ⟨b', off', ha, hlt, hc⟩
  · subst h0; simp at hm; omega
  · injection ha with ha
    injection ha with e1 e2
    subst e1 e2
    have e : (⟨b, off + p, none⟩ : Addr).add j = ⟨b, off + (p + j), none⟩ := by
      by_cases h0 : j = 0
      · subst h0; rfl
      · simp [Addr.add, h0, Nat.add_assoc]
    rw [e, hc (p + j) (by omega), ← hj]
    have hp : p + j < xs.length := by omega
    simp [el, List.getD, hl, hp]

theorem nat_min (x y : Nat) : Nat.min x y = min x y := rfl
theorem ring_grown {T : TypeId} {ys : List Int} {a : Option Addr} {n c lo g : Nat} {hd ct : Int} {w w1 : World} (hn : n = ys.length) (ho : w1.ownsRow lo T 1 (.slice a n c) n (ys.map (Value.int .i64))) (hb : Below w.heap.size w w1) (hlo : w.heap.size ≤ g ∧ g < lo) :
    FreshRing T ys hd ct w (.returned (.agg #[.slice a n c, .int .i64 hd, .int .i64 ct])) (((w1.setCell ⟨g, 0, none⟩ (.slice a n c)).setCell ⟨g, 1, none⟩ (.int .i64 hd)).setCell ⟨g, 2, none⟩ (.int .i64 ct)) := by
  subst hn
  exact ring_stored ho hb hlo
set_option maxHeartbeats 2000000 in
set_option maxRecDepth 100000 in
theorem grown_any (a : Option Addr) (c p k n m : Nat) (xs : List Int) (hi : Nat) (w : World) (hr : Nums .i64 w hi a c xs) (hB : hi ≤ w.heap.size) (n1 : 1 ≤ xs.length) (n2 : xs.length ≤ 20) (hp : p < xs.length) (hk : k ≤ xs.length) (hkn : k ≤ n) (hn : n ≤ 20) (hm : m = min k (xs.length - p)) :
    Calls Try.prog 51 #[.agg #[.slice a xs.length c, .int .i64 (p : Int), .int .i64 (k : Int)], .int .i64 (n : Int)] w (FreshRing 3 (rList xs p k ++ List.replicate (n - k) 0) 0 k w) := by
  have hcap := hr.cap
  have hbig := hr.big
  obtain ⟨b, off, rfl, hbh, hcl⟩ := hr.lies.resolve_left (by intro h; subst h; simp at n1)
  have b1 := (Below.refl w.heap.size w).alloc (Nat.le_refl _) (.cells #[.slice (some ⟨b, off, none⟩) xs.length c, .int .i64 (p : Int), .int .i64 (k : Int)] 64)
  have b2 := b1.alloc (by simp) (.cells #[.slice none 0 0, .int .i64 0, .int .i64 0] 64)
  have b3 := b2.alloc (by simp; omega) (.cells (fullK .i64 (List.replicate n 0)) 3)
  have K0 := Lib.hid (((Blk.new w 64 #[.slice (some ⟨b, off, none⟩) xs.length c, .int .i64 (p : Int), .int .i64 (k : Int)]).alloc (.cells #[.slice none 0 0, .int .i64 0, .int .i64 0] 64)).alloc (.cells (fullK .i64 (List.replicate n 0)) 3))
  have k1 := (Blk.new (w.alloc (.cells #[.slice (some ⟨b, off, none⟩) xs.length c, .int .i64 (p : Int), .int .i64 (k : Int)] 64)) 64 #[.slice none 0 0, .int .i64 0, .int .i64 0]).alloc (.cells (fullK .i64 (List.replicate n 0)) 3)
  have k2 := Blk.new ((w.alloc (.cells #[.slice (some ⟨b, off, none⟩) xs.length c, .int .i64 (p : Int), .int .i64 (k : Int)] 64)).alloc (.cells #[.slice none 0 0, .int .i64 0, .int .i64 0] 64)) 3 (fullK .i64 (List.replicate n 0))
  simp only [World.size_alloc] at k1 k2
  have K1 := Lib.hid k1
  have HN := Lib.hid (hr.below (b3.mono hB))
  have B3 := Lib.hid b3
  clear hr b1 b2 b3 k1 hcl
  have hmk := fun W => run_make_row' (P := Try.prog) 24 3 (.int .i64 0) 8 Try.underlying24 infoI64 rfl .i64 .i64 n (by omega) (by omega) W
  rw [madeRep] at hmk
  have hsz : (Try.prog.info? 3).map (·.size) = some 1 := by kernel_rfl
  obtain ⟨X1, hX1⟩ : ∃ X1, X1 = ((xs.drop p).take m).map (Value.int .i64) := ⟨_, rfl⟩
  obtain ⟨X2, hX2⟩ : ∃ X2, X2 = ((xs.drop 0).take (k - m)).map (Value.int .i64) := ⟨_, rfl⟩
  obtain ⟨Z, hZ⟩ : ∃ Z, Z = (List.replicate n (0 : Int)).map (Value.int .i64) := ⟨_, rfl⟩
  have HG : Hid ((((w.alloc (.cells #[.slice (some ⟨b, off, none⟩) xs.length c, .int .i64 (p : Int), .int .i64 (k : Int)] 64)).alloc (.cells #[.slice none 0 0, .int .i64 0, .int .i64 0] 64)).alloc (.cells (fullK .i64 (List.replicate n 0)) 3)).heap[w.heap.size + 1 + 1]? = some (.cells Z.toArray 3 (0, 0))) := by rw [hZ]; exact k2
  clear k2
  have l1 : X1.length = m := by rw [hX1]; simp; omega
  have l2 : X2.length = k - m := by rw [hX2]; simp; omega
  have lZ : Z.length = n := by rw [hZ]; simp
  have o1 : ∀ u ∈ X1, u.oneCell' = true := by rw [hX1]; exact nums_oneI _
  have o2 : ∀ u ∈ X2, u.oneCell' = true := by rw [hX2]; exact nums_oneI _
  have HX1 := Lib.hid hX1
  have HX2 := Lib.hid hX2
  have HE : Hid (splice (splice Z 0 X1) m X2 = (rList xs p k ++ List.replicate (n - k) 0).map (Value.int .i64)) := by
    have e := splice_grow (Value.int .i64 0) n m X1 X2 l1 (by omega)
    have hZ' : Z = List.replicate n (Value.int .i64 0) := by rw [hZ]; simp
    refine Lib.hid ?_
    rw [hZ', e, l2, show m + (k - m) = k by omega, hX1, hX2, rList_split xs p k hp hk, ← hm]
    simp
  clear hX1 hX2 hZ
  have lS : (splice Z 0 X1).length = n := by rw [length_splice _ _ _ (by omega), lZ]
  have HL : Hid (n = (rList xs p k ++ List.replicate (n - k) 0).length) := Lib.hid (by simp [rList_len]; omega)
  have HB0 := Lib.hid (show hi ≤ w.heap.size + 1 + 1 by omega)
  have hmk2 : m ≤ k ∧ p + m ≤ xs.length ∧ (m < k → xs.length ≤ p + m) ∧ (¬ m < k → m = k) := by omega
  clear hB hm
  obtain ⟨m1, m2, m3, m4⟩ := hmk2
  have q0 := K0.out.cell
  go_enter Try.func51, Try.ntmps51
  by_cases hq3 : m < k
  · have m5 := m3 hq3
    clear m3 m4
    have M0 : ((xs.length : Int) - (p : Int)) = (m : Int) := by omega
    have hmn3 : m ≤ n := by omega
    have hmn4 : ¬ n = m := by omega
    have hkw : IntKind.i64.wrap ((k - m : Nat) : Int) = ((k - m : Nat) : Int) := IntWalk.i64_in _ (by omega)
    have hkc : k - m ≤ c := by omega
    have hkm : ((k : Int) - (m : Int)) = ((k - m : Nat) : Int) := by omega

    go_wp2_with (refine wpList_copy_splice rfl _ _ 24 24 rfl 3 Try.underlying24 hsz _ _ _ _ _ _ rfl rfl (w.heap.size + 1 + 1) 0 Z 3 HG.out X1 (by rw [l1, nat_min]; omega) (fun _ => ⟨rfl, _, rfl, by rw [HX1.out]; exact HN.out.piece p m m2⟩) (by omega) o1 (w.heap.size + 1 + 1) (((w.alloc (.cells #[.slice (some ⟨b, off, none⟩) xs.length c, .int .i64 (p : Int), .int .i64 (k : Int)] 64)).alloc (.cells #[.slice none 0 0, .int .i64 0, .int .i64 0] 64)).alloc (.cells (fullK .i64 (List.replicate n 0)) 3)) (Below.refl _ _) (Nat.le_refl _) ?_)
    intro w2 HG2 hb2
    have HB2 := Lib.hid hb2
    have N2 := Lib.hid (HN.out.below (hb2.mono HB0.out))
    have k0 := K0.out.belowB hb2 (by omega)
    have q2 := k0.cell
    have KK1 := Lib.hid (K1.out.belowB hb2 (by omega))
    have B4 := Lib.hid (B3.out.trans (hb2.mono (by omega)))
    clear hb2 k0 q0
    go_wp2_with fail
    go_region_law (refine step_copy_splice rfl _ _ 24 24 rfl 3 Try.underlying24 hsz _ _ _ _ _ _ rfl rfl (w.heap.size + 1 + 1) m (splice Z 0 X1) 3 HG2.out X2 (by rw [l2, nat_min]; omega) (fun h0 => ⟨rfl, _, rfl, by rw [HX2.out]; exact N2.out.piece 0 (k - m) (by omega)⟩) (by omega) o2 (w.heap.size + 1 + 1) w2 (Below.refl _ w2).drew (Nat.le_refl _) ?_; intro w4 HG4 hb4)
    all_goals
      have kk0 := (K0.out.belowB HB2.out (by omega)).belowB hb4 (by omega)
      have kk1 := KK1.out.belowB hb4 (by omega)
      have r0 := kk0.cell
      have r1 := kk1.cell
      have rf := kk1.frozen
      have HP : Hid (FreshRing 3 (rList xs p k ++ List.replicate (n - k) 0) 0 k w (.returned (.agg #[.slice (some ⟨w.heap.size + 1 + 1, 0, none⟩) n n, .int .i64 0, .int .i64 (k : Int)])) (((w4.setCell ⟨w.heap.size + 1, 0, none⟩ (.slice (some ⟨w.heap.size + 1 + 1, 0, none⟩) n n)).setCell ⟨w.heap.size + 1, 1, none⟩ (.int .i64 0)).setCell ⟨w.heap.size + 1, 2, none⟩ (.int .i64 (k : Int)))) :=
        ring_grown HL.out (own_of_heap HG4.out HE.out HL.out rfl (Nat.le_refl _) (by omega)) (B4.out.trans (hb4.mono (by omega))) (by omega)
      clear hb4 q2 kk0 kk1
      go_wp2
      exact bodyPost_ret (v := .agg #[.slice (some ⟨w.heap.size + 1 + 1, 0, none⟩) n n, .int .i64 0, .int .i64 (k : Int)]) (by simp [results, Try.results51, go_sem, r1]) rfl HP.out
  · have hq4 : ¬ ((xs.length : Int) - (p : Int) < (k : Int)) := by have := m4 hq3; omega
    obtain rfl : m = k := m4 hq3
    clear m3 m4 hq3 m1
    by_cases hmn4 : n = m
    · obtain rfl : m = n := hmn4.symm
      have hkw : IntKind.i64.wrap 0 = 0 := IntWalk.i64_in _ (by omega)

      go_wp2_with (refine wpList_copy_splice rfl _ _ 24 24 rfl 3 Try.underlying24 hsz _ _ _ _ _ _ rfl rfl (w.heap.size + 1 + 1) 0 Z 3 HG.out X1 (by rw [l1, nat_min]; omega) (fun _ => ⟨rfl, _, rfl, by rw [HX1.out]; exact HN.out.piece p m m2⟩) (by omega) o1 (w.heap.size + 1 + 1) (((w.alloc (.cells #[.slice (some ⟨b, off, none⟩) xs.length c, .int .i64 (p : Int), .int .i64 (m : Int)] 64)).alloc (.cells #[.slice none 0 0, .int .i64 0, .int .i64 0] 64)).alloc (.cells (fullK .i64 (List.replicate m 0)) 3)) (Below.refl _ _) (Nat.le_refl _) ?_)
      intro w2 HG2 hb2
      have HB2 := Lib.hid hb2
      have N2 := Lib.hid (HN.out.below (hb2.mono HB0.out))
      have k0 := K0.out.belowB hb2 (by omega)
      have q2 := k0.cell
      have KK1 := Lib.hid (K1.out.belowB hb2 (by omega))
      have B4 := Lib.hid (B3.out.trans (hb2.mono (by omega)))
      clear hb2 k0 q0
      go_wp2_with fail
      go_region_law (refine step_copy_splice rfl _ _ 24 24 rfl 3 Try.underlying24 hsz _ _ _ _ _ _ rfl rfl (w.heap.size + 1 + 1) m (splice Z 0 X1) 3 HG2.out X2 (by rw [l2, nat_min]; omega) (fun h0 => by exfalso; omega) (by omega) o2 (w.heap.size + 1 + 1) w2 (Below.refl _ w2).drew (Nat.le_refl _) ?_; intro w4 HG4 hb4)
      all_goals
        have kk0 := (K0.out.belowB HB2.out (by omega)).belowB hb4 (by omega)
        have kk1 := KK1.out.belowB hb4 (by omega)
        have r0 := kk0.cell
        have r1 := kk1.cell
        have rf := kk1.frozen
        have HP : Hid (FreshRing 3 (rList xs p m ++ List.replicate (m - m) 0) 0 m w (.returned (.agg #[.slice (some ⟨w.heap.size + 1 + 1, 0, none⟩) m m, .int .i64 0, .int .i64 (m : Int)])) (((w4.setCell ⟨w.heap.size + 1, 0, none⟩ (.slice (some ⟨w.heap.size + 1 + 1, 0, none⟩) m m)).setCell ⟨w.heap.size + 1, 1, none⟩ (.int .i64 0)).setCell ⟨w.heap.size + 1, 2, none⟩ (.int .i64 (m : Int)))) :=
          ring_grown HL.out (own_of_heap HG4.out HE.out HL.out rfl (Nat.le_refl _) (by omega)) (B4.out.trans (hb4.mono (by omega))) (by omega)
        clear hb4 q2 kk0 kk1
        go_wp2
        exact bodyPost_ret (v := .agg #[.slice (some ⟨w.heap.size + 1 + 1, 0, none⟩) m m, .int .i64 0, .int .i64 (m : Int)]) (by simp [results, Try.results51, go_sem, r1]) rfl HP.out
    · have hmn5 : m ≤ n := hkn
      have hkw : IntKind.i64.wrap 0 = 0 := IntWalk.i64_in _ (by omega)

      go_wp2_with (refine wpList_copy_splice rfl _ _ 24 24 rfl 3 Try.underlying24 hsz _ _ _ _ _ _ rfl rfl (w.heap.size + 1 + 1) 0 Z 3 HG.out X1 (by rw [l1, nat_min]; omega) (fun _ => ⟨rfl, _, rfl, by rw [HX1.out]; exact HN.out.piece p m m2⟩) (by omega) o1 (w.heap.size + 1 + 1) (((w.alloc (.cells #[.slice (some ⟨b, off, none⟩) xs.length c, .int .i64 (p : Int), .int .i64 (m : Int)] 64)).alloc (.cells #[.slice none 0 0, .int .i64 0, .int .i64 0] 64)).alloc (.cells (fullK .i64 (List.replicate n 0)) 3)) (Below.refl _ _) (Nat.le_refl _) ?_)
      intro w2 HG2 hb2
      have HB2 := Lib.hid hb2
      have N2 := Lib.hid (HN.out.below (hb2.mono HB0.out))
      have k0 := K0.out.belowB hb2 (by omega)
      have q2 := k0.cell
      have KK1 := Lib.hid (K1.out.belowB hb2 (by omega))
      have B4 := Lib.hid (B3.out.trans (hb2.mono (by omega)))
      clear hb2 k0 q0
      go_wp2_with fail
      go_region_law (refine step_copy_splice rfl _ _ 24 24 rfl 3 Try.underlying24 hsz _ _ _ _ _ _ rfl rfl (w.heap.size + 1 + 1) m (splice Z 0 X1) 3 HG2.out X2 (by rw [l2, nat_min]; omega) (fun h0 => by exfalso; omega) (by omega) o2 (w.heap.size + 1 + 1) w2 (Below.refl _ w2).drew (Nat.le_refl _) ?_; intro w4 HG4 hb4)
      all_goals
        have kk0 := (K0.out.belowB HB2.out (by omega)).belowB hb4 (by omega)
        have kk1 := KK1.out.belowB hb4 (by omega)
        have r0 := kk0.cell
        have r1 := kk1.cell
        have rf := kk1.frozen
        have HP : Hid (FreshRing 3 (rList xs p m ++ List.replicate (n - m) 0) 0 m w (.returned (.agg #[.slice (some ⟨w.heap.size + 1 + 1, 0, none⟩) n n, .int .i64 0, .int .i64 (m : Int)])) (((w4.setCell ⟨w.heap.size + 1, 0, none⟩ (.slice (some ⟨w.heap.size + 1 + 1, 0, none⟩) n n)).setCell ⟨w.heap.size + 1, 1, none⟩ (.int .i64 0)).setCell ⟨w.heap.size + 1, 2, none⟩ (.int .i64 (m : Int)))) :=
          ring_grown HL.out (own_of_heap HG4.out HE.out HL.out rfl (Nat.le_refl _) (by omega)) (B4.out.trans (hb4.mono (by omega))) (by omega)
        clear hb4 q2 kk0 kk1
        go_wp2
        exact bodyPost_ret (v := .agg #[.slice (some ⟨w.heap.size + 1 + 1, 0, none⟩) n n, .int .i64 0, .int .i64 (m : Int)]) (by simp [results, Try.results51, go_sem, r1]) rfl HP.out
end Go.Proofs.Ytkconbmgljmpfaa
