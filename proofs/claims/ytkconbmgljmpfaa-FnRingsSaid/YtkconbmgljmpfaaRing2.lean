/- Contracts of spec.RingOk and of the ring's own ok. -/
import Derived.Test.YtkconbmgljmpfaaRing1
namespace Go.Proofs.Ytkconbmgljmpfaa
open Go.RowKit

theorem rem_lt (p j n : Nat) (h : 1 ≤ n) : 0 ≤ ((p : Int) + (j : Int)) % (n : Int) ∧ ((p : Int) + (j : Int)) % (n : Int) < n := ⟨Int.emod_nonneg _ (by omega), Int.emod_lt_of_pos _ (by omega)⟩
theorem rem_nat (p j n : Nat) : (((p : Int) + (j : Int)) % (n : Int)).toNat = (p + j) % n := by
  have : (((p : Int) + (j : Int)) % (n : Int)) = (((p + j) % n : Nat) : Int) := by simp
  rw [this]; rfl
theorem in_parts {n : Nat} {hd ct : Int} (h1 : inB n 1 20 = true) (h2 : inB hd 0 ((n : Int) - 1) = true) (h3 : inB ct 0 n = true) : ∃ p k : Nat, hd = p ∧ ct = k ∧ 1 ≤ n ∧ n ≤ 20 ∧ p < n ∧ k ≤ n := by
  rw [inB_iff] at h1 h2 h3
  exact ⟨hd.toNat, ct.toNat, by omega, by omega, by omega, by omega, by omega, by omega⟩

set_option maxHeartbeats 2000000 in
theorem specRingOk_any (a : Option Addr) (n c : Nat) (hd ct : Int) (xs : List Int) (hi : Nat) (w : World) (hr : Nums .i64 w hi a c xs) (hn : n = xs.length) (hB : hi ≤ w.heap.size) (hlen : xs.length ≤ 1048576) :
    Calls Try.prog 20 #[.agg #[.slice a n c, .int .i64 hd, .int .i64 ct]] w fun e w' => e = .returned (.bool (rOk xs hd ct)) ∧ Below w.heap.size w w' := by
  subst hn
  have hcap := hr.cap
  have hbig := hr.big
  have b1 := (Below.refl w.heap.size w).alloc (Nat.le_refl _) (.cells #[.slice a xs.length c, .int .i64 hd, .int .i64 ct] 28)
  have HN := Lib.hid (hr.below (b1.mono hB))
  have B1 := Lib.hid b1
  clear hr b1
  cases h1 : inB xs.length 1 20 with
  | false =>
    rw [rOk_out (by simp [rIn, h1])]
    go_enter Try.func20, Try.ntmps20
    go_wp2_with (go_at_call 56; refine (specIn_any _ _ _ _).mono ?_; rintro e w' ⟨rfl, rfl⟩)
    go_ret
    exact ⟨rfl, B1.out⟩
  | true =>
    cases h2 : inB hd 0 ((xs.length : Int) - 1) with
    | false =>
      rw [rOk_out (by simp [rIn, h2])]
      go_enter Try.func20, Try.ntmps20
      go_wp2_with (go_at_call 56; refine (specIn_any _ _ _ _).mono ?_; rintro e w' ⟨rfl, rfl⟩)
      go_ret
      exact ⟨rfl, B1.out⟩
    | true =>
      cases h3 : inB ct 0 xs.length with
      | false =>
        rw [rOk_out (by simp [rIn, h3])]
        go_enter Try.func20, Try.ntmps20
        go_wp2_with (go_at_call 56; refine (specIn_any _ _ _ _).mono ?_; rintro e w' ⟨rfl, rfl⟩)
        go_ret
        exact ⟨rfl, B1.out⟩
      | true =>
        obtain ⟨p, k, rfl, rfl, hn1, hn2, hp, hk⟩ := in_parts h1 h2 h3
        obtain ⟨b, off, rfl, hbh, hcl⟩ := HN.out.lies.resolve_left (by intro h; subst h; simp at hn1)
        have hR : rOk xs p k = freeN xs p k (xs.length - k) := rOk_in (by simp [rIn, h1, h2, h3])
        have HR := Lib.hid hR
        have HC := Lib.hid hcl
        have K0 := Lib.hid (Blk.new w 28 #[.slice (some ⟨b, off, none⟩) xs.length c, .int .i64 (p : Int), .int .i64 (k : Int)])
        have HB := Lib.hid (show b < w.heap.size by omega)
        clear hR hcl
        go_enter Try.func20, Try.ntmps20
        go_wp2_with (go_at_call 56; refine (specIn_any _ _ _ _).mono ?_; rintro e w' ⟨rfl, rfl⟩)
        go_loopw [4] (fun i wr => ∃ j : Nat, k ≤ j ∧ j ≤ xs.length ∧ i = .int .i64 j ∧ freeN xs p k (xs.length - k) = freeN xs p j (xs.length - j) ∧ Below (w.heap.size + 1) (w.alloc (.cells #[.slice (some ⟨b, off, none⟩) xs.length c, .int .i64 (p : Int), .int .i64 (k : Int)] 28)) wr) (fun i _ => xs.length - (intOf i).toNat)
        case atStart => exact ⟨k, Nat.le_refl _, hk, rfl, rfl, Below.refl _ _⟩
        case round =>
          obtain ⟨j, hj0, hj, rfl, hf, hb⟩ := hrel
          have BW := Lib.hid (B1.out.trans (hb.mono (Nat.le_succ _)))
          have HF := Lib.hid hf
          by_cases hlt : j < xs.length
          · have kk := K0.out.belowB hb (Nat.lt_succ_self _)
            have q0 := kk.cell
            obtain ⟨r0, r1⟩ := rem_lt p j xs.length hn1
            have hwr : IntKind.i64.wrap ((p : Int) + (j : Int)) = (p : Int) + (j : Int) := IntWalk.i64_in _ (by omega)
            have htm : ((p : Int) + (j : Int)).tmod (xs.length : Int) = ((p : Int) + (j : Int)) % (xs.length : Int) := Int.tmod_eq_emod_of_nonneg (by omega)
            have hw2 : IntKind.i64.wrap (((p : Int) + (j : Int)) % (xs.length : Int)) = ((p : Int) + (j : Int)) % (xs.length : Int) := IntWalk.i64_in _ (by omega)
            have hxs : xs ≠ [] := by rintro rfl; simp at hn1
            have rn := rem_nat p j xs.length
            have hck : wr.cell? ⟨b, off + (((p : Int) + (j : Int)) % (xs.length : Int)).toNat, none⟩ = some (.int .i64 (el xs ((p + j) % xs.length))) := by
              rw [rn]
              exact (hb.cell (p := ⟨b, off + (p + j) % xs.length, none⟩) (Nat.lt_succ_of_lt HB.out)).trans (HC.out _ (Nat.mod_lt _ (by omega)))
            have BH := Lib.hid hb
            clear hb rn kk
            by_cases hz : el xs ((p + j) % xs.length) = 0
            · have HE := Lib.hid (HF.out.trans (freeN_go (by omega) (by simpa using hz)))
              rw [hz] at hck
              go_wp2
              go_quiet (fail)
              all_goals
                go_wp2
                go_roundw
                case rel => exact ⟨j + 1, by omega, by omega, by go_num, HE.out, below_drewN BH.out _⟩
                case measure => simp [intOf]; omega
            · have HE : Hid (rOk xs p k = false) := Lib.hid (by rw [HR.out, HF.out]; exact freeN_no (by omega) (by simpa using hz))
              generalize el xs ((p + j) % xs.length) = x at hck hz
              go_wp2
              go_quiet (fail)
              all_goals
                go_wp2
                go_ret
                exact ⟨by rw [HE.out]; rfl, below_drewN BW.out _⟩
          · obtain rfl : j = xs.length := by omega
            have HE : Hid (rOk xs p k = true) := Lib.hid (by rw [HR.out, HF.out, Nat.sub_self]; rfl)
            go_wp2
            go_ret
            exact ⟨by rw [HE.out]; rfl, BW.out⟩

set_option maxHeartbeats 2000000 in
theorem ringOk_any (a : Option Addr) (n c : Nat) (hd ct : Int) (xs : List Int) (hi : Nat) (w : World) (hr : Nums .i64 w hi a c xs) (hn : n = xs.length) (hB : hi ≤ w.heap.size) (hlen : xs.length ≤ 1048576) :
    Calls Try.prog 50 #[.agg #[.slice a n c, .int .i64 hd, .int .i64 ct]] w fun e w' => e = .returned (.bool (rOk xs hd ct)) ∧ Below w.heap.size w w' := by
  subst hn
  have hcap := hr.cap
  have hbig := hr.big
  have b1 := (Below.refl w.heap.size w).alloc (Nat.le_refl _) (.cells #[.slice a xs.length c, .int .i64 hd, .int .i64 ct] 64)
  have HN := Lib.hid (hr.below (b1.mono hB))
  have B1 := Lib.hid b1
  clear hr b1
  cases h1 : inB xs.length 1 20 with
  | false =>
    rw [rOk_out (by simp [rIn, h1])]
    go_enter Try.func50, Try.ntmps50
    go_wp2_with (first | (go_at_call 62; refine (within_any _ _ _ _).mono ?_; rintro e w' ⟨rfl, rfl⟩) | (go_at_call 44; refine (isCap_any _ _).mono ?_; rintro e w' ⟨rfl, rfl⟩))
    go_ret
    exact ⟨rfl, B1.out⟩
  | true =>
    cases h2 : inB hd 0 ((xs.length : Int) - 1) with
    | false =>
      rw [rOk_out (by simp [rIn, h2])]
      go_enter Try.func50, Try.ntmps50
      go_wp2_with (first | (go_at_call 62; refine (within_any _ _ _ _).mono ?_; rintro e w' ⟨rfl, rfl⟩) | (go_at_call 44; refine (isCap_any _ _).mono ?_; rintro e w' ⟨rfl, rfl⟩))
      go_ret
      exact ⟨rfl, B1.out⟩
    | true =>
      cases h3 : inB ct 0 xs.length with
      | false =>
        rw [rOk_out (by simp [rIn, h3])]
        go_enter Try.func50, Try.ntmps50
        go_wp2_with (first | (go_at_call 62; refine (within_any _ _ _ _).mono ?_; rintro e w' ⟨rfl, rfl⟩) | (go_at_call 44; refine (isCap_any _ _).mono ?_; rintro e w' ⟨rfl, rfl⟩))
        go_ret
        exact ⟨rfl, B1.out⟩
      | true =>
        obtain ⟨p, k, rfl, rfl, hn1, hn2, hp, hk⟩ := in_parts h1 h2 h3
        obtain ⟨b, off, rfl, hbh, hcl⟩ := HN.out.lies.resolve_left (by intro h; subst h; simp at hn1)
        have hR : rOk xs p k = freeN xs p k (xs.length - k) := rOk_in (by simp [rIn, h1, h2, h3])
        have HR := Lib.hid hR
        have HC := Lib.hid hcl
        have K0 := Lib.hid (Blk.new w 64 #[.slice (some ⟨b, off, none⟩) xs.length c, .int .i64 (p : Int), .int .i64 (k : Int)])
        have HB := Lib.hid (show b < w.heap.size by omega)
        clear hR hcl
        go_enter Try.func50, Try.ntmps50
        go_wp2_with (first | (go_at_call 62; refine (within_any _ _ _ _).mono ?_; rintro e w' ⟨rfl, rfl⟩) | (go_at_call 44; refine (isCap_any _ _).mono ?_; rintro e w' ⟨rfl, rfl⟩))
        go_loopw [5] (fun i wr => ∃ j : Nat, k ≤ j ∧ j ≤ xs.length ∧ i = .int .i64 j ∧ freeN xs p k (xs.length - k) = freeN xs p j (xs.length - j) ∧ Below (w.heap.size + 1) (w.alloc (.cells #[.slice (some ⟨b, off, none⟩) xs.length c, .int .i64 (p : Int), .int .i64 (k : Int)] 64)) wr) (fun i _ => xs.length - (intOf i).toNat)
        case atStart => exact ⟨k, Nat.le_refl _, hk, rfl, rfl, Below.refl _ _⟩
        case round =>
          obtain ⟨j, hj0, hj, rfl, hf, hb⟩ := hrel
          have BW := Lib.hid (B1.out.trans (hb.mono (Nat.le_succ _)))
          have HF := Lib.hid hf
          by_cases hlt : j < xs.length
          · have kk := K0.out.belowB hb (Nat.lt_succ_self _)
            have q0 := kk.cell
            have KK := Lib.hid kk
            have s0 := hb.size
            simp only [World.size_alloc] at s0
            have hck : wr.cell? ⟨b, off + (p + j) % xs.length, none⟩ = some (.int .i64 (el xs ((p + j) % xs.length))) := 
              (hb.cell (p := ⟨b, off + (p + j) % xs.length, none⟩) (Nat.lt_succ_of_lt HB.out)).trans (HC.out _ (Nat.mod_lt _ (by omega)))
            have HCK := Lib.hid hck
            have hbw : b < wr.heap.size := by have := HB.out; omega
            have hml : (p + j) % xs.length < xs.length := Nat.mod_lt _ (by omega)
            have BH := Lib.hid hb
            clear hb kk
            by_cases hz : el xs ((p + j) % xs.length) = 0
            · have HE := Lib.hid (HF.out.trans (freeN_go (by omega) (by simpa using hz)))
              rw [hz] at hck
              go_wp2
              go_region_with (go_at_call 68; refine (place_any _ _ _ _ p j _ hn1 hn2 hp (by omega)).mono ?_; rintro e w1 ⟨rfl, hb⟩; have q1 := (KK.out.drew.below hb).cell; have hck1 := (hb.cell (p := ⟨b, off + (p + j) % xs.length, none⟩) hbw).trans hck; have BX := Lib.hid (below_drewN BH.out 1); have BY := Lib.hid (BX.out.trans (hb.mono s0)); clear hb; generalize (p + j) % xs.length = M at hck1 hml ⊢)
              all_goals
                go_wp2
                go_roundw
                case rel => exact ⟨j + 1, by omega, by omega, by go_num, HE.out, BY.out⟩
                case measure => simp [intOf]; omega
            · have HE : Hid (rOk xs p k = false) := Lib.hid (by rw [HR.out, HF.out]; exact freeN_no (by omega) (by simpa using hz))
              generalize el xs ((p + j) % xs.length) = x at hck hz
              go_wp2
              go_region_with (go_at_call 68; refine (place_any _ _ _ _ p j _ hn1 hn2 hp (by omega)).mono ?_; rintro e w1 ⟨rfl, hb⟩; have q1 := (KK.out.drew.below hb).cell; have hck1 := (hb.cell (p := ⟨b, off + (p + j) % xs.length, none⟩) hbw).trans hck; have BY := Lib.hid ((below_drewN BW.out 1).trans (hb.mono (Nat.le_of_succ_le s0))); clear hb; generalize (p + j) % xs.length = M at hck1 hml ⊢)
              all_goals
                go_wp2
                go_ret
                exact ⟨by rw [HE.out]; rfl, BY.out⟩
          · obtain rfl : j = xs.length := by omega
            have HE : Hid (rOk xs p k = true) := Lib.hid (by rw [HR.out, HF.out, Nat.sub_self]; rfl)
            go_wp2
            go_ret
            exact ⟨by rw [HE.out]; rfl, BW.out⟩

end Go.Proofs.Ytkconbmgljmpfaa
