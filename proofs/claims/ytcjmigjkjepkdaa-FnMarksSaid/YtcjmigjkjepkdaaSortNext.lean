/- The library's sort over lags: xorshift's Next, nextPowerOfTwo, breakPatternsOrdered. -/
import Derived.Test.YtcjmigjkjepkdaaSortGrow
import Derived.Test.YtcjmigjkjepkdaaShelf
import Derived.Sort.LotD5
import Derived.Laws.Bits64
import Derived.Laws.Bits64b
namespace Go.Proofs.Ytcjmigjkjepkdaa
open Go.RowKit

theorem cell_aside (w : World) {p g : Nat} (o o' : Nat) (v : Value) (h : p ≠ g) : (w.setCell ⟨g, o', none⟩ v).cell? ⟨p, o, none⟩ = w.cell? ⟨p, o, none⟩ := by
  rw [Sort.setCell_eq]
  simp only [World.cell?, Sort.mapBlock, Array.getElem?_modify]
  rw [if_neg (Ne.symm h)]
theorem cell_drew (w : World) (a : Addr) : w.drew.cell? a = w.cell? a := rfl
theorem frozen_drew (w : World) (a : Addr) : w.drew.frozen? a = w.frozen? a := rfl
theorem frozen_any (w : World) (g o' : Nat) (v : Value) (a : Addr) : (w.setCell ⟨g, o', none⟩ v).frozen? a = w.frozen? a := by rw [Sort.setCell_eq, Sort.frozen?_mapBlock]

theorem cell_put (w : World) {p : Nat} {u : Value} (v : Value) (h : w.cell? ⟨p, 0, none⟩ = some u) : (w.setCell ⟨p, 0, none⟩ v).cell? ⟨p, 0, none⟩ = some v := by
  obtain ⟨c, e, fr, hb, hk⟩ := Sort.cells_of_cell? h
  rw [Sort.setCell_eq, Sort.cell?_mapBlock _ _ _ _ hb]
  have : 0 < c.size := by
    rcases Nat.eq_zero_or_pos c.size with h0 | h0
    · rw [Array.getElem?_eq_none (by omega)] at hk; cases hk
    · exact h0
  simp [this]

set_option maxHeartbeats 2000000 in
set_option maxRecDepth 100000 in
theorem next_any (p x : Nat) (hx : x < 18446744073709551616) (w : World) (hc : w.cell? ⟨p, 0, none⟩ = some (.int .u64 x)) (hf : w.frozen? ⟨p, 0, none⟩ = false) :
    Calls Try.prog 84 #[.pointer (some ⟨p, 0, none⟩)] w fun e w' => e = .returned (.int .u64 (Sort.xorNextN x : Nat)) ∧ w' = (w.setCell ⟨p, 0, none⟩ (.int .u64 (Sort.xorNextN x : Nat))).drewN 3 := by
  obtain ⟨y, hy⟩ : ∃ y : Nat, y = x ^^^ (x * 8192 % 18446744073709551616) := ⟨_, rfl⟩
  obtain ⟨z, hz⟩ : ∃ z : Nat, z = y ^^^ (y / 128) := ⟨_, rfl⟩
  obtain ⟨u, hu⟩ : ∃ u : Nat, u = z ^^^ (z * 131072 % 18446744073709551616) := ⟨_, rfl⟩
  have ly : y < 18446744073709551616 := by rw [hy]; exact Nat.xor_lt_two_pow (n := 64) hx (Nat.mod_lt _ (by decide))
  have lz : z < 18446744073709551616 := by rw [hz]; exact Nat.xor_lt_two_pow (n := 64) ly (by omega)
  have e1 : bits .xor .u64 (x : Int) (IntKind.u64.wrap ((x : Int) * 8192)) = (y : Int) := by
    have k : IntKind.u64.wrap ((x : Int) * 8192) = ((x * 8192 % 18446744073709551616 : Nat) : Int) := by rw [IntKind.wrap_u64]; omega
    rw [k, bits_xor_u64_nat _ _ hx (by omega), hy]
  have e2 : bits .xor .u64 (y : Int) ((y : Int) / 128) = (z : Int) := by
    have k : ((y : Int) / 128) = ((y / 128 : Nat) : Int) := by omega
    rw [k, bits_xor_u64_nat _ _ ly (by omega), hz]
  have e3 : bits .xor .u64 (z : Int) (IntKind.u64.wrap ((z : Int) * 131072)) = (u : Int) := by
    have k : IntKind.u64.wrap ((z : Int) * 131072) = ((z * 131072 % 18446744073709551616 : Nat) : Int) := by rw [IntKind.wrap_u64]; omega
    rw [k, bits_xor_u64_nat _ _ lz (by omega), hu]
  have HV := Lib.hid (show Sort.xorNextN x = u by unfold Sort.xorNextN; simp only []; rw [← hy, ← hz, ← hu])
  have tw : ∀ v v', (w.setCell ⟨p, 0, none⟩ v).setCell ⟨p, 0, none⟩ v' = w.setCell ⟨p, 0, none⟩ v' := fun v v' => setCell_twice w p 0 v v'
  rw [HV.out]
  clear hy hz hu HV
  go_enter Try.func84, Try.ntmps84
  go_wp2
  go_region
  all_goals go_wp2
  all_goals go_region
  all_goals go_wp2
  all_goals go_region
  all_goals go_wp2
  go_ret
  exact ⟨rfl, rfl⟩
theorem bitLen_log (x : Nat) (h : x < 2 ^ 64) : Lib.bitLen x = Sort.bitsLen x := by
  rcases Nat.eq_zero_or_pos x with rfl | hp
  · rfl
  · have k := Lib.bitLen_half x (by omega) h
    rw [bitLen_log (x / 2) (by omega)] at k
    have e : Sort.bitsLen x = Nat.log2 x + 1 := by unfold Sort.bitsLen; exact if_neg (by omega)
    rw [k, e]
    rcases Nat.lt_or_ge x 2 with h2 | h2
    · have : x = 1 := by omega
      subst this
      decide
    · rw [Nat.log2_def x, if_pos h2]
      unfold Sort.bitsLen
      rw [if_neg (by omega)]
      omega
termination_by x
/-- The power of two above n. -/
def pow2 (n : Nat) : Nat := 1 <<< Sort.bitsLen n
theorem pow2_in (n : Nat) (h0 : 0 < n) (h : n ≤ 1048576) : n < pow2 n ∧ pow2 n ≤ 2 * n := by
  have e : Sort.bitsLen n = Nat.log2 n + 1 := by unfold Sort.bitsLen; exact if_neg (by omega)
  have h1 : 2 ^ n.log2 ≤ n := Nat.log2_self_le (by omega)
  have h2 : n < 2 ^ (n.log2 + 1) := Nat.lt_log2_self
  unfold pow2
  rw [e, Nat.one_shiftLeft]
  refine ⟨h2, ?_⟩
  rw [Nat.pow_succ]
  omega
set_option maxHeartbeats 2000000 in
set_option maxRecDepth 100000 in
theorem power_any (n : Nat) (h0 : 0 < n) (hn : n ≤ 1048576) (w : World) :
    Calls Try.prog 83 #[.int .i64 n] w fun e w' => e = .returned (.int .u64 (pow2 n)) ∧ w' = w := by
  have H := Lib.hid (Try.bits_Len (n : Int) w (by omega) (by omega))
  have hb : Lib.bitLen n = Sort.bitsLen n := bitLen_log n (by omega)
  have hk : Sort.bitsLen n ≤ 21 := (Sort.bitsLen_le_iff n 21).2 (by omega)
  have hp := pow2_in n h0 hn
  have hw : Hid (IntKind.u64.wrap (2 ^ min (Lib.bitLen n) 64) = (pow2 n : Int)) := Lib.hid (by
    have e : ((2 : Int) ^ Sort.bitsLen n) = ((pow2 n : Nat) : Int) := by
      unfold pow2
      rw [Nat.one_shiftLeft]
      push_cast
      rfl
    rw [hb, show min (Sort.bitsLen n) 64 = Sort.bitsLen n by omega, e, IntKind.wrap_u64]
    omega)
  clear hb hk hp
  go_enter Try.func83, Try.ntmps83
  go_wp2_with fail
  refine H.out.mono ?_
  rintro e w1 ⟨rfl, rfl⟩
  go_wp2
  refine bodyPost_ret (v := .int .u64 (IntKind.u64.wrap (2 ^ min (Lib.bitLen n) 64))) (by simp [results, Try.results83, go_sem]) rfl ?_
  rw [hw.out]
  exact ⟨rfl, rfl⟩

/-- breakPatterns' rounds, so many of them. -/
def breakRun (a l m : Nat) : Nat → UInt64 × Array Nat → Nat → UInt64 × Array Nat
  | 0, st, _ => st
  | n + 1, st, i => breakRun a l m n (Sort.breakStep a l m st i) (i + 1)
theorem break_is (d : Array Nat) (a b : Nat) (h : 8 ≤ b - a) : Sort.breakPatterns d a b = (breakRun a (b - a) (pow2 (b - a)) 3 (UInt64.ofNat (b - a), d) (a + (b - a) / 4 * 2 - 1)).2 := by
  have e1 : a + (b - a) / 4 * 2 - 1 + 1 = a + (b - a) / 4 * 2 - 1 + 1 := rfl
  unfold Sort.breakPatterns
  simp only [ge_iff_le, h, if_true]
  rfl
set_option maxHeartbeats 4000000 in
set_option maxRecDepth 100000 in
theorem break_any {L : Nat → Nat} (g off cap a b : Nat) (d : Array Nat) (w : World) (hH : Sort.Holds (fV L) w g off d) (hg : g < w.heap.size) (hab : a ≤ b) (hb : b ≤ d.size) (hsz : d.size ≤ 1048576) :
    Calls Try.prog 71 #[.slice (some ⟨g, off, none⟩) d.size cap, .int .i64 a, .int .i64 b] w fun e w' =>
      e = .returned (.tuple #[]) ∧ SG L w g off d (Sort.breakPatterns d a b) w' := by
  have e1 : ((b : Int) - (a : Int)) = ((b - a : Nat) : Int) := by omega
  obtain ⟨l, hl⟩ : ∃ l, l = b - a := ⟨_, rfl⟩
  rw [← hl] at e1
  have HL := Lib.hid hl
  have S0 := Lib.hid (SG.start hH hg)
  have hla : a + l ≤ d.size := by omega
  by_cases h8 : 8 ≤ l
  · have h8i : (8 : Int) ≤ (l : Int) := by omega
    have hq : ((l : Int)).tdiv 4 = ((l / 4 : Nat) : Int) := by rw [Int.tdiv_eq_ediv_of_nonneg (by omega)]; omega
    have hfin := break_is d a b (by omega)
    rw [← hl] at hfin
    obtain ⟨i0, hi⟩ : ∃ i0, i0 = a + l / 4 * 2 - 1 := ⟨_, rfl⟩
    have hi2 : a + l / 4 * 2 = i0 + 1 := by omega
    have j1 : (a : Int) + ((l / 4 : Nat) : Int) * 2 = (i0 : Int) + 1 := by omega
    rw [← hi] at hfin
    have hir : i0 + 3 ≤ d.size := by omega
    generalize l / 4 = q at hq j1
    obtain ⟨m, hm⟩ : ∃ m, m = pow2 l := ⟨_, rfl⟩
    have hm2 := pow2_in l (by omega) (by omega)
    rw [← hm] at hm2 hfin
    have HP := Lib.hid (fun W => power_any l (by omega) (by omega) W)
    rw [← hm] at HP
    rw [hfin]
    clear hl hi hi2 hm hfin hH
    go_enter Try.func71, Try.ntmps71
    go_wp2_with fail
    refine (HP.out _).mono ?_
    rintro e w1 ⟨rfl, rfl⟩
    have C1 : Hid ((w.alloc (.cells #[.int .u64 l] 105)).cell? ⟨w.heap.size, 0, none⟩ = some (.int .u64 l)) := Lib.hid (by
      have hh : (w.alloc (.cells #[.int .u64 l] 105)).heap[w.heap.size]? = some (.cells #[.int .u64 l] 105) := Array.getElem?_push_size
      unfold World.cell?
      rw [hh]
      rfl)
    have F1 : Hid ((w.alloc (.cells #[.int .u64 l] 105)).frozen? ⟨w.heap.size, 0, none⟩ = false) := Lib.hid (by
      have hh : (w.alloc (.cells #[.int .u64 l] 105)).heap[w.heap.size]? = some (.cells #[.int .u64 l] 105) := Array.getElem?_push_size
      unfold World.frozen?
      rw [hh]
      rfl)
    have hpg : w.heap.size ≠ g := by omega
    have ho64 : (UInt64.ofNat l).toNat = l := by simp; omega
    have H64 := Lib.hid ho64
    clear ho64
    go_wp2
    go_loopw [9, 10] (fun vi _ wr => ∃ (x : Nat) (X : UInt64) (dk : Array Nat), vi = .int .i64 x ∧ i0 ≤ x ∧ x ≤ i0 + 3 ∧ SG L w g off d dk wr ∧ wr.cell? ⟨w.heap.size, 0, none⟩ = some (.int .u64 (X.toNat : Nat)) ∧ wr.frozen? ⟨w.heap.size, 0, none⟩ = false ∧ breakRun a l m (i0 + 3 - x) (X, dk) x = breakRun a l m 3 (UInt64.ofNat l, d) i0) (fun vi _ _ => i0 + 3 - (intOf vi).toNat)
    case atStart => exact ⟨i0, UInt64.ofNat l, d, by go_num, Nat.le_refl _, by omega, S0.out.alloc _, by rw [H64.out]; exact C1.out, F1.out, by rw [show i0 + 3 - i0 = 3 by omega]⟩
    case round =>
      obtain ⟨x, X, dk, rfl, hx0, hx3, hsa, hcp, hfp, hO⟩ := hrel
      have HO := Lib.hid hO
      have HS := Lib.hid hsa
      clear hO hsa
      by_cases hxl : x < i0 + 3
      · have hx2 : i0 + 3 - x = (i0 + 3 - (x + 1)) + 1 := by omega
        have HX2 := Lib.hid hx2
        have hxi : (x : Int) ≤ (i0 : Int) + 1 + 1 := by omega
        obtain ⟨Y, hY⟩ : ∃ Y, Y = Sort.xorNext X := ⟨_, rfl⟩
        obtain ⟨n1, hn1⟩ : ∃ n1, n1 = Y.toNat := ⟨_, rfl⟩
        have hx1 : Sort.xorNextN X.toNat = n1 := by rw [hn1, hY, Sort.xorNext_toNat]
        have hn64 : n1 < 18446744073709551616 := by rw [hn1]; exact Y.toNat_lt
        obtain ⟨o, ho⟩ : ∃ o, o = n1 &&& (m - 1) := ⟨_, rfl⟩
        have hom : o ≤ m - 1 := by rw [ho]; exact Nat.and_le_right
        have hand : bits .and .u64 (n1 : Int) ((m : Int) - 1) = (o : Int) := by
          have e9 : ((m : Int) - 1) = ((m - 1 : Nat) : Int) := by omega
          rw [e9, bits_and_u64_nat _ _ hn64 (by omega), ho]
        have HN := next_any w.heap.size X.toNat X.toNat_lt wr hcp hfp
        rw [hx1] at HN
        have HNX := Lib.hid HN
        have HY := Lib.hid hY
        have HN1 := Lib.hid hn1
        have HOO := Lib.hid ho
        have HCP := Lib.hid hcp
        have HFP := Lib.hid hfp
        clear HN hY hn1 ho hx1 hx2 hcp hfp
        go_wp2_with fail
        refine HNX.out.mono ?_
        rintro e w2 ⟨rfl, rfl⟩
        have HC := Lib.hid (show ((wr.setCell ⟨w.heap.size, 0, none⟩ (.int .u64 n1)).drewN 3).cell? ⟨w.heap.size, 0, none⟩ = some (.int .u64 n1) from cell_put wr _ HCP.out)
        have HFZ := Lib.hid (show ((wr.setCell ⟨w.heap.size, 0, none⟩ (.int .u64 n1)).drewN 3).frozen? ⟨w.heap.size, 0, none⟩ = false from (frozen_any wr _ _ _ _).trans HFP.out)
        have hs1 := (HS.out.write w.heap.size 0 (.int .u64 n1) (Nat.le_refl _)).drewN 3
        have HS1 := Lib.hid hs1
        obtain ⟨G, hG⟩ : ∃ G : Nat → Nat, ∀ t, G t = dk[t]! := ⟨fun t => dk[t]!, fun _ => rfl⟩
        have hcw : ∀ t, t < d.size → ((wr.setCell ⟨w.heap.size, 0, none⟩ (.int .u64 n1)).drewN 3).cell? ⟨g, off + t, none⟩ = some (.float .f64 (L (G t))) := fun t ht => by rw [hG]; exact hs1.cell t ht
        have hfw : ∀ t, t < d.size → ((wr.setCell ⟨w.heap.size, 0, none⟩ (.int .u64 n1)).drewN 3).frozen? ⟨g, off + t, none⟩ = false := fun t ht => hs1.frozen t ht
        have HG := Lib.hid hG
        clear hG hs1 HCP HFP HNX HS
        generalize (wr.setCell ⟨w.heap.size, 0, none⟩ (.int .u64 n1)).drewN 3 = wr1 at hcw hfw HS1 HC HFZ ⊢
        have hxd : x < d.size := by omega
        have c1 : IntKind.i64.wrap (o : Int) = (o : Int) := IntWalk.i64_in _ (by omega)
        by_cases hol : l ≤ o
        · have holi : (l : Int) ≤ (o : Int) := by omega
          obtain ⟨o2, ho2⟩ : ∃ o2, o2 = o - l := ⟨_, rfl⟩
          have o2i : (o : Int) - (l : Int) = (o2 : Int) := by omega
          have hx9 : a + o2 < d.size := by omega
          have HO2 := Lib.hid ho2
          clear ho2
          have HD := Lib.hid (show breakRun a l m (i0 + 3 - (x + 1)) (Y, Sort.swp dk x (a + o2)) (x + 1) = breakRun a l m 3 (UInt64.ofNat l, d) i0 by
            rw [← HO.out, HX2.out]
            show _ = breakRun a l m (i0 + 3 - (x + 1)) (Sort.breakStep a l m (X, dk) x) (x + 1)
            have e9 : Sort.breakStep a l m (X, dk) x = (Y, Sort.swp dk x (a + o2)) := by
              unfold Sort.breakStep
              simp only []
              rw [← HY.out, ← HN1.out, ← HOO.out]
              rw [if_pos (show o ≥ l from hol), ← HO2.out]
            rw [e9])
          have b2 : a + o2 < d.size := by omega
          have w5 : (a : Int) + (o2 : Int) < (d.size : Int) := by omega
          have w6 : (0 : Int) ≤ (a : Int) + (o2 : Int) := by omega
          have w1 : IntKind.i64.wrap ((a : Int) + (o2 : Int)) = (a : Int) + (o2 : Int) := IntWalk.i64_in _ (by omega)
          have f1 := hfw x hxd
          have f2 := hfw (a + o2) b2
          by_cases hxo : x = a + o2
          · subst hxo
            go_wp2
            go_region
            all_goals
              have HW := Lib.hid ((HS1.out.drewN 1).swap (a + o2) (a + o2) b2 b2)
              rw [← HG.out] at HW
              go_wp2
              go_roundw
              case rel => exact ⟨a + o2 + 1, Y, _, by go_num, by omega, by omega, HW.out, by rw [← HN1.out, cell_drew, cell_aside _ _ _ _ hpg, cell_aside _ _ _ _ hpg]; exact HC.out, by rw [frozen_drew, frozen_any, frozen_any]; exact HFZ.out, HD.out⟩
              case measure => simp [intOf] <;> omega
          · have x2 : ¬ (x = a + o2) := hxo
            have x3 : ¬ (a + o2 = x) := fun h => hxo h.symm
            go_wp2
            go_region
            all_goals
              have HW := Lib.hid ((HS1.out.drewN 1).swap (x) (a + o2) hxd b2)
              rw [← HG.out, ← HG.out] at HW
              go_wp2
              go_roundw
              case rel => exact ⟨x + 1, Y, _, by go_num, by omega, by omega, HW.out, by rw [← HN1.out, cell_drew, cell_aside _ _ _ _ hpg, cell_aside _ _ _ _ hpg]; exact HC.out, by rw [frozen_drew, frozen_any, frozen_any]; exact HFZ.out, HD.out⟩
              case measure => simp [intOf] <;> omega
        · have holi : ¬ (l : Int) ≤ (o : Int) := by omega
          have HD := Lib.hid (show breakRun a l m (i0 + 3 - (x + 1)) (Y, Sort.swp dk x (a + o)) (x + 1) = breakRun a l m 3 (UInt64.ofNat l, d) i0 by
            rw [← HO.out, HX2.out]
            show _ = breakRun a l m (i0 + 3 - (x + 1)) (Sort.breakStep a l m (X, dk) x) (x + 1)
            have e9 : Sort.breakStep a l m (X, dk) x = (Y, Sort.swp dk x (a + o)) := by
              unfold Sort.breakStep
              simp only []
              rw [← HY.out, ← HN1.out, ← HOO.out]
              rw [if_neg (show ¬ o ≥ l from hol)]
            rw [e9])
          have b2 : a + o < d.size := by omega
          have w5 : (a : Int) + (o : Int) < (d.size : Int) := by omega
          have w6 : (0 : Int) ≤ (a : Int) + (o : Int) := by omega
          have w1 : IntKind.i64.wrap ((a : Int) + (o : Int)) = (a : Int) + (o : Int) := IntWalk.i64_in _ (by omega)
          have f1 := hfw x hxd
          have f2 := hfw (a + o) b2
          by_cases hxo : x = a + o
          · subst hxo
            go_wp2
            go_region
            all_goals
              have HW := Lib.hid ((HS1.out.drewN 1).swap (a + o) (a + o) b2 b2)
              rw [← HG.out] at HW
              go_wp2
              go_roundw
              case rel => exact ⟨a + o + 1, Y, _, by go_num, by omega, by omega, HW.out, by rw [← HN1.out, cell_drew, cell_aside _ _ _ _ hpg, cell_aside _ _ _ _ hpg]; exact HC.out, by rw [frozen_drew, frozen_any, frozen_any]; exact HFZ.out, HD.out⟩
              case measure => simp [intOf] <;> omega
          · have x2 : ¬ (x = a + o) := hxo
            have x3 : ¬ (a + o = x) := fun h => hxo h.symm
            go_wp2
            go_region
            all_goals
              have HW := Lib.hid ((HS1.out.drewN 1).swap (x) (a + o) hxd b2)
              rw [← HG.out, ← HG.out] at HW
              go_wp2
              go_roundw
              case rel => exact ⟨x + 1, Y, _, by go_num, by omega, by omega, HW.out, by rw [← HN1.out, cell_drew, cell_aside _ _ _ _ hpg, cell_aside _ _ _ _ hpg]; exact HC.out, by rw [frozen_drew, frozen_any, frozen_any]; exact HFZ.out, HD.out⟩
              case measure => simp [intOf] <;> omega
      · have hxi : ¬ (x : Int) ≤ (i0 : Int) + 1 + 1 := by omega
        have hx9 : i0 + 3 - x = 0 := by omega
        go_wp2
        exact bodyPost_end (v := .tuple #[]) (by simp [results, Try.results71, go_sem]) rfl ⟨rfl, by rw [← HO.out, hx9]; exact HS.out⟩
  · have h8i : ¬ (8 : Int) ≤ (l : Int) := by omega
    have hfin : Sort.breakPatterns d a b = d := by
      unfold Sort.breakPatterns
      rw [← hl]
      exact if_neg h8
    rw [hfin]
    clear hl hfin hH
    go_enter Try.func71, Try.ntmps71
    go_wp2
    exact bodyPost_end (v := .tuple #[]) (by simp [results, Try.results71, go_sem]) rfl ⟨rfl, S0.out⟩
end Go.Proofs.Ytcjmigjkjepkdaa
