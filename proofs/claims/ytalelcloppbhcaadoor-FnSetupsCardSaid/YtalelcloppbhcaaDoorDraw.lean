/- The draws: a cursor over the bytes of a draw. What is drawn is told up to its bounds alone; of what was there nothing turns. -/
import Derived.Test.YtalelcloppbhcaaDoorProg
import Derived.Test.YtalelcloppbhcaaDoorPlain
import Derived.Test.YtalelcloppbhcaaDoorMem
import Derived.WalkKit
import Derived.WalkSpells
import Derived.ProofKit
import Derived.Below
import Derived.Outline
import Derived.Deep.QuietTactic
import Derived.BigQuiet
import Derived.Laws.AppendOwn
import Derived.Lib.Hide
import Derived.IntWalk
namespace Go.Proofs.YtalelcloppbhcaaDoor
open Go.RowKit

/-- A slice of bytes that can be read, all of it in blocks below B. -/
structure Bytes (w : World) (B : Nat) (a : Option Addr) (len : Nat) : Prop where
  small : len ≤ 1048576
  lies : len = 0 ∨ ∃ b off, a = some ⟨b, off, none⟩ ∧ b < B ∧ ∀ i, i < len → ∃ x : Int, 0 ≤ x ∧ x ≤ 255 ∧ w.cell? ⟨b, off + i, none⟩ = some (.int .u8 x)

/-- The cursor at block p. -/
structure Cur (w : World) (p : Nat) (a : Option Addr) (len cap : Nat) : Prop where
  lt : p < w.heap.size
  bytes : Bytes w p a len
  c0 : w.cell? ⟨p, 0, none⟩ = some (.slice a len cap)
  c1 : ∃ i : Int, 0 ≤ i ∧ i ≤ len ∧ w.cell? ⟨p, 1, none⟩ = some (.int .i64 i)
  c2 : ∃ h : Int, -9223372036854775808 ≤ h ∧ h ≤ 9223372036854775807 ∧ w.cell? ⟨p, 2, none⟩ = some (.int .i64 h)
  f1 : w.frozen? ⟨p, 1, none⟩ = false
  f2 : w.frozen? ⟨p, 2, none⟩ = false

theorem Bytes.grown {w w' : World} {p : Nat} {a : Option Addr} {len : Nat} (h : Bytes w p a len) (hp : p ≤ w.heap.size) (hg : w.grownBy w' (some p)) : Bytes w' p a len :=
  ⟨h.small, h.lies.imp id fun ⟨b, off, ha, hb, hc⟩ => ⟨b, off, ha, hb, fun i hi => by
    obtain ⟨x, h0, h1, hx⟩ := hc i hi
    exact ⟨x, h0, h1, (World.cell?_of_block (hg.block b (by omega) (fun e => by injection e with e; omega))).trans hx⟩⟩⟩
theorem Cur.quiet {w w' : World} {p : Nat} {a : Option Addr} {len cap : Nat} (h : Cur w p a len cap) (hg : w.grownBy w' none) : Cur w' p a len cap := by
  have hb : w'.heap[p]? = w.heap[p]? := hg.block p h.lt (by simp)
  obtain ⟨hlt, hby, h0, ⟨i, hi0, hi1, h1⟩, ⟨x, hx0, hx1, h2⟩, f1, f2⟩ := h
  exact ⟨Nat.lt_of_lt_of_le hlt hg.size, hby.grown (Nat.le_of_lt hlt) ⟨hg.os, hg.tape, hg.output, hg.size, fun k hk _ => hg.block k hk (by simp)⟩, (World.cell?_of_block hb).trans h0, ⟨i, hi0, hi1, (World.cell?_of_block hb).trans h1⟩, ⟨x, hx0, hx1, (World.cell?_of_block hb).trans h2⟩,
    (World.frozen?_of_block hb).trans f1, (World.frozen?_of_block hb).trans f2⟩
theorem Cur.setH {w : World} {p : Nat} {a : Option Addr} {len cap : Nat} (h : Cur w p a len cap) (H : Int) (hH0 : -9223372036854775808 ≤ H) (hH1 : H ≤ 9223372036854775807) : Cur (w.setCell ⟨p, 2, none⟩ (.int .i64 H)) p a len cap := by
  obtain ⟨hlt, hby, h0, ⟨i, hi0, hi1, h1⟩, ⟨x, hx0, hx1, h2⟩, f1, f2⟩ := h
  exact ⟨by simpa using hlt, hby.grown (Nat.le_of_lt hlt) (grown_setCell _ _ _ _), by rw [World.cell?_setCell_other _ _ _ _ (by simp)]; exact h0, ⟨i, hi0, hi1, by rw [World.cell?_setCell_other _ _ _ _ (by simp)]; exact h1⟩,
    ⟨H, hH0, hH1, World.cell?_setCell_same _ _ _ h2⟩, by simpa using f1, by simpa using f2⟩
theorem Cur.setI {w : World} {p : Nat} {a : Option Addr} {len cap : Nat} (h : Cur w p a len cap) (I : Int) (hI0 : 0 ≤ I) (hI1 : I ≤ len) : Cur (w.setCell ⟨p, 1, none⟩ (.int .i64 I)) p a len cap := by
  obtain ⟨hlt, hby, h0, ⟨i, hi0, hi1, h1⟩, ⟨x, hx0, hx1, h2⟩, f1, f2⟩ := h
  exact ⟨by simpa using hlt, hby.grown (Nat.le_of_lt hlt) (grown_setCell _ _ _ _), by rw [World.cell?_setCell_other _ _ _ _ (by simp)]; exact h0, ⟨I, hI0, hI1, World.cell?_setCell_same _ _ _ h1⟩,
    ⟨x, hx0, hx1, by rw [World.cell?_setCell_other _ _ _ _ (by simp)]; exact h2⟩, by simpa using f1, by simpa using f2⟩
theorem wrap64_bd (n : Int) : -9223372036854775808 ≤ wrap64 n ∧ wrap64 n ≤ 9223372036854775807 := by unfold wrap64; omega
theorem and255 (x : Int) : 0 ≤ bits .and .i64 x 255 ∧ bits .and .i64 x 255 ≤ 255 := by
  show 0 ≤ IntKind.i64.wrap ((BitVec.ofInt 64 x &&& BitVec.ofInt 64 255).toNat : Int) ∧ IntKind.i64.wrap ((BitVec.ofInt 64 x &&& BitVec.ofInt 64 255).toNat : Int) ≤ 255
  have h : (BitVec.ofInt 64 x &&& BitVec.ofInt 64 255).toNat ≤ 255 := by
    rw [BitVec.toNat_and]
    have e : (BitVec.ofInt 64 255).toNat = 255 := by decide
    rw [e]
    exact Nat.and_le_right
  rw [IntKind.wrap_i64]
  omega

def DrawPost (lo hi : Int) (p : Nat) (a : Option Addr) (len cap : Nat) (w : World) (e : Ending) (w' : World) : Prop :=
  ∃ x : Int, e = .returned (.int .i64 x) ∧ lo ≤ x ∧ x ≤ hi ∧ Cur w' p a len cap ∧ w.grownBy w' (some p)

set_option maxRecDepth 100000 in
set_option maxHeartbeats 1000000 in
theorem byte_any (p : Nat) (a : Option Addr) (len cap : Nat) (w : World) (hc : Cur w p a len cap) :
    Calls Tryd.prog 105 #[.pointer (some ⟨p, 0, none⟩)] w (DrawPost 0 255 p a len cap w) := by
  obtain ⟨hlt, hby, h0, ⟨i, hi0, hi1, h1⟩, ⟨h, hh0, hh1, h2⟩, f1, f2⟩ := id hc
  obtain ⟨j, rfl⟩ := Int.eq_ofNat_of_zero_le hi0
  obtain ⟨H, hH⟩ : ∃ H, H = wrap64 (wrap64 (h * 6364136223846793005) + 1442695040888963407) := ⟨_, rfl⟩
  have hHb := wrap64_bd (wrap64 (h * 6364136223846793005) + 1442695040888963407)
  rw [← hH] at hHb
  obtain ⟨X, hX⟩ : ∃ X, X = bits .and .i64 (bits .xor .i64 (H / 8589934592) (H / 35184372088832)) 255 := ⟨_, rfl⟩
  have hXb := and255 (bits .xor .i64 (H / 8589934592) (H / 35184372088832))
  rw [← hX] at hXb
  obtain ⟨hX0, hX1⟩ := hXb
  have HH := Lib.hid hH
  have HX := Lib.hid hX
  clear hH hX
  have hg1 := grown_setCell w p 2 (.int .i64 H)
  have hcur := hc.setH H hHb.1 hHb.2
  have k0 : (w.setCell ⟨p, 2, none⟩ (.int .i64 H)).cell? ⟨p, 0, none⟩ = some (.slice a len cap) := by rw [World.cell?_setCell_other _ _ _ _ (by simp)]; exact h0
  have k1 : (w.setCell ⟨p, 2, none⟩ (.int .i64 H)).cell? ⟨p, 1, none⟩ = some (.int .i64 (j : Int)) := by rw [World.cell?_setCell_other _ _ _ _ (by simp)]; exact h1
  have k2 : (w.setCell ⟨p, 2, none⟩ (.int .i64 H)).cell? ⟨p, 2, none⟩ = some (.int .i64 H) := World.cell?_setCell_same _ _ _ h2
  have kf : (w.setCell ⟨p, 2, none⟩ (.int .i64 H)).frozen? ⟨p, 1, none⟩ = false := by simpa using f1
  have hc2 := hcur.bytes
  have HC := Lib.hid hcur
  clear hcur hc
  by_cases hlen : j < len
  · obtain ⟨b, off, rfl, hbp, hcell⟩ := hc2.lies.resolve_left (by omega)
    obtain ⟨x, hx0, hx1, hx⟩ := hcell j hlen
    have hsm := hc2.small
    clear hcell hc2 hby
    have hd : decide ((j : Int) < (len : Int)) = true := by simp; omega
    obtain ⟨Y, hY⟩ : ∃ Y, Y = bits .and .i64 (X + x) 255 := ⟨_, rfl⟩
    have hYb := and255 (X + x)
    rw [← hY] at hYb
    have HY := Lib.hid hY
    clear hY
    have hwr : IntKind.i64.wrap (X + x) = X + x := IntWalk.i64_in _ (by omega)
    go_enter Tryd.func105, Tryd.ntmps105
    go_wp2
    rw [← HH.out]
    generalize w.setCell ⟨p, 2, none⟩ (.int .i64 H) = w1 at *
    go_quiet (fail)
    rw [← HX.out]
    go_wp2
    go_quiet (fail)
    go_wp2
    go_quiet (fail)
    rw [← HY.out]
    go_wp2
    go_ret
    exact ⟨Y, rfl, hYb.1, hYb.2, (HC.out.quiet (grown_drewN _ _ _)).setI _ (by omega) (by omega), grown_trans (grown_trans hg1 (grown_drewN _ _ _)) (grown_setCell _ _ _ _)⟩
  · have hd : decide ((j : Int) < (len : Int)) = false := by simp; omega
    clear hc2 hby
    go_enter Tryd.func105, Tryd.ntmps105
    go_wp2
    rw [← HH.out]
    generalize w.setCell ⟨p, 2, none⟩ (.int .i64 H) = w1 at *
    go_quiet (fail)
    rw [← HX.out]
    go_wp2
    go_quiet (fail)
    go_wp2
    go_ret
    exact ⟨X, rfl, hX0, hX1, (HC.out.quiet (grown_drewN _ _ _)).quiet (grown_drewN _ _ _), grown_trans (grown_trans hg1 (grown_drewN _ _ _)) (grown_drewN _ _ _)⟩

set_option maxRecDepth 100000 in
set_option maxHeartbeats 1000000 in
theorem below_any (p : Nat) (a : Option Addr) (len cap : Nat) (n : Int) (hn : 0 < n) (hn2 : n ≤ 9223372036854775807) (w : World) (hc : Cur w p a len cap) :
    Calls Tryd.prog 78 #[.pointer (some ⟨p, 0, none⟩), .int .i64 n] w (DrawPost 0 (n - 1) p a len cap w) := by
  by_cases h256 : n ≤ 256
  · go_enter Tryd.func78, Tryd.ntmps78
    go_wp2_with fail
    refine (byte_any p a len cap _ hc).mono ?_
    rintro e w1 ⟨x, rfl, hx0, hx1, hc1, hg1⟩
    have hm0 : 0 ≤ x % n := Int.emod_nonneg _ (by omega)
    have hm1 : x % n ≤ n - 1 := by have := Int.emod_lt_of_pos x hn; omega
    have hne : (n == 0) = false := by simp; omega
    have HM := Lib.hid (And.intro hm0 hm1)
    clear hm0 hm1
    go_wp2
    go_ret
    exact ⟨x % n, rfl, HM.out.1, HM.out.2, hc1, hg1⟩
  · go_enter Tryd.func78, Tryd.ntmps78
    go_wp2_with fail
    refine (byte_any p a len cap _ hc).mono ?_
    rintro e w1 ⟨x, rfl, hx0, hx1, hc1, hg1⟩
    go_wp2_with fail
    refine (byte_any p a len cap _ hc1).mono ?_
    rintro e w2 ⟨y, rfl, hy0, hy1, hc2, hg2⟩
    go_wp2_with fail
    refine (byte_any p a len cap _ hc2).mono ?_
    rintro e w3 ⟨z, rfl, hz0, hz1, hc3, hg3⟩
    have hm0 : 0 ≤ (x * 65536 + y * 256 + z) % n := Int.emod_nonneg _ (by omega)
    have hm1 : (x * 65536 + y * 256 + z) % n ≤ n - 1 := by have := Int.emod_lt_of_pos (x * 65536 + y * 256 + z) hn; omega
    have hne : (n == 0) = false := by simp; omega
    have HM := Lib.hid (And.intro hm0 hm1)
    clear hm0 hm1
    go_wp2
    go_ret
    exact ⟨_, rfl, HM.out.1, HM.out.2, hc3, grown_trans (grown_trans hg1 hg2) hg3⟩

theorem below_zero (p : Nat) (n : Int) (hn : n ≤ 0) (w : World) :
    Calls Tryd.prog 78 #[.pointer (some ⟨p, 0, none⟩), .int .i64 n] w fun e w' => e = .returned (.int .i64 0) ∧ w = w' := by
  go_enter Tryd.func78, Tryd.ntmps78
  go_wp2
  go_ret
  exact ⟨rfl, rfl⟩

def OncePost (p : Nat) (a : Option Addr) (len cap : Nat) (w : World) (e : Ending) (w' : World) : Prop :=
  ∃ b : Bool, e = .returned (.bool b) ∧ Cur w' p a len cap ∧ w.grownBy w' (some p)
theorem once_any (p : Nat) (a : Option Addr) (len cap : Nat) (n : Int) (hn : 0 < n) (hn2 : n ≤ 9223372036854775807) (w : World) (hc : Cur w p a len cap) :
    Calls Tryd.prog 75 #[.pointer (some ⟨p, 0, none⟩), .int .i64 n] w (OncePost p a len cap w) := by
  go_enter Tryd.func75, Tryd.ntmps75
  go_wp2_with fail
  refine (below_any p a len cap n hn hn2 _ hc).mono ?_
  rintro e w1 ⟨x, rfl, hx0, hx1, hc1, hg1⟩
  go_wp2
  go_ret
  exact ⟨_, rfl, hc1, hg1⟩

/-- What is picked: one of the list's numbers. -/
def PickPost (xs : List Int) (p : Nat) (a : Option Addr) (len cap : Nat) (w : World) (e : Ending) (w' : World) : Prop :=
  ∃ k, k < xs.length ∧ e = .returned (.int .i64 (el xs k)) ∧ Cur w' p a len cap ∧ w.grownBy w' (some p)
set_option maxRecDepth 100000 in
set_option maxHeartbeats 1000000 in
theorem pick_any (p : Nat) (a : Option Addr) (len cap : Nat) (q c : Nat) (xs : List Int) (hpos : 0 < xs.length) (hmax : xs.length ≤ 1048576) (w : World) (hc : Cur w p a len cap) (hq : q < w.heap.size) (hpq : q ≠ p)
    (hrow : ∀ i, i < xs.length → w.cell? ⟨q, i, none⟩ = some (.int .i64 (el xs i))) :
    Calls Tryd.prog 77 #[.pointer (some ⟨p, 0, none⟩), .slice (some ⟨q, 0, none⟩) xs.length c] w (PickPost xs p a len cap w) := by
  have HR := Lib.hid hrow
  clear hrow
  go_enter Tryd.func77, Tryd.ntmps77
  go_wp2_with fail
  refine (below_any p a len cap _ (by omega) (by omega) _ hc).mono ?_
  rintro e w1 ⟨x, rfl, hx0, hx1, hc1, hg1⟩
  obtain ⟨k, rfl⟩ := Int.eq_ofNat_of_zero_le hx0
  have hk : k < xs.length := by omega
  have hcell : w1.cell? ⟨q, k, none⟩ = some (.int .i64 (el xs k)) := (World.cell?_of_block (hg1.block q hq (fun e => by injection e with e; exact hpq e))).trans (HR.out k hk)
  go_wp2
  go_ret
  exact ⟨k, hk, rfl, hc1, hg1⟩

/-- .. out of a list that was just built. -/
theorem pick_lit (p : Nat) (a : Option Addr) (len cap : Nat) (xs : List Int) (n : Nat) (cs : Array Value) (t : TypeId) (hpos : 0 < xs.length) (hmax : xs.length ≤ 1048576) (hn : xs.length = n) (hcs : cs = full xs) (w : World) (hc : Cur w p a len cap) :
    Calls Tryd.prog 77 #[.pointer (some ⟨p, 0, none⟩), .slice (some ⟨w.heap.size, 0, none⟩) n n] (w.alloc (.cells cs t)) (PickPost xs p a len cap w) := by
  subst hcs
  subst hn
  refine (pick_any p a len cap w.heap.size _ xs hpos hmax _ (hc.quiet (grown_alloc _ _ _)) (by simp) (by have := hc.lt; omega) (fun i hi => by rw [World.cell?_alloc_at _ _ _ _ rfl]; exact full_at xs i hi)).mono ?_
  rintro e w' ⟨k, hk, he, hc', hg⟩
  exact ⟨k, hk, he, hc', grown_trans (grown_alloc _ _ _) hg⟩
theorem and_mask (x : Int) : 0 ≤ bits .and .i64 x 1073741823 ∧ bits .and .i64 x 1073741823 ≤ 1073741823 := by
  show 0 ≤ IntKind.i64.wrap ((BitVec.ofInt 64 x &&& BitVec.ofInt 64 1073741823).toNat : Int) ∧ IntKind.i64.wrap ((BitVec.ofInt 64 x &&& BitVec.ofInt 64 1073741823).toNat : Int) ≤ 1073741823
  have h : (BitVec.ofInt 64 x &&& BitVec.ofInt 64 1073741823).toNat ≤ 1073741823 := by
    rw [BitVec.toNat_and]
    have e : (BitVec.ofInt 64 1073741823).toNat = 1073741823 := by decide
    rw [e]
    exact Nat.and_le_right
  rw [IntKind.wrap_i64]
  omega

/-- A new cursor: one new block. -/
def NewPost (a : Option Addr) (len cap : Nat) (w : World) (e : Ending) (w' : World) : Prop :=
  ∃ p, w.heap.size ≤ p ∧ e = .returned (.pointer (some ⟨p, 0, none⟩)) ∧ Cur w' p a len cap ∧ w.grownBy w' none
theorem cur_new (w : World) (a : Option Addr) (len cap : Nat) (hb : Bytes w w.heap.size a len) (h : Int) (h0 : 0 ≤ h) (h1 : h ≤ 1073741823) (t : TypeId) : Cur (w.alloc (.cells #[.slice a len cap, .int .i64 0, .int .i64 h] t)) w.heap.size a len cap :=
  ⟨by simp, hb.grown (Nat.le_refl _) (grown_alloc _ _ _), by rw [World.cell?_alloc_at _ _ _ _ rfl]; rfl, ⟨0, by omega, by omega, by rw [World.cell?_alloc_at _ _ _ _ rfl]; rfl⟩, ⟨h, by omega, by omega, by rw [World.cell?_alloc_at _ _ _ _ rfl]; rfl⟩, World.frozen?_alloc_at _ _ _ _ rfl, World.frozen?_alloc_at _ _ _ _ rfl⟩

set_option maxRecDepth 100000 in
set_option maxHeartbeats 1000000 in
theorem new_any (a : Option Addr) (len cap : Nat) (w : World) (hb : Bytes w w.heap.size a len) :
    Calls Tryd.prog 73 #[.slice a len cap] w (NewPost a len cap w) := by
  have hs := hb.small
  have HB := Lib.hid hb
  have HP : Hid (∀ h : Int, 0 ≤ h → h ≤ 1073741823 → NewPost a len cap w (.returned (.pointer (some ⟨w.heap.size, 0, none⟩))) (w.alloc (.cells #[.slice a len cap, .int .i64 0, .int .i64 h] 170))) :=
    fun h h0 h1 => ⟨w.heap.size, Nat.le_refl _, rfl, cur_new w a len cap hb h h0 h1 _, grown_alloc _ _ _⟩
  rcases hb.lies with h0 | ⟨b, off, rfl, hbl, hc⟩
  · subst h0
    clear hb
    go_enter Tryd.func73, Tryd.ntmps73
    go_wp2
    go_loop [3, 4] (fun h i => i = .int .i64 0 ∧ h = .int .i64 728728) (fun _ _ => 0)
    case atStart => exact ⟨rfl, rfl⟩
    case round =>
      obtain ⟨rfl, rfl⟩ := hrel
      go_wp2
      go_ret
      exact HP.out _ (by omega) (by omega)
  · have HC := Lib.hid hc
    clear hc hb
    go_enter Tryd.func73, Tryd.ntmps73
    go_wp2
    go_loop [3, 4] (fun h i => ∃ (k : Nat) (x : Int), k ≤ len ∧ i = .int .i64 k ∧ h = .int .i64 x ∧ 0 ≤ x ∧ x ≤ 1073741823) (fun _ i => len - (intOf i).toNat)
    case atStart => exact ⟨0, _, Nat.zero_le _, rfl, rfl, by omega, by omega⟩
    case round =>
      obtain ⟨k, x, hk, rfl, rfl, hx0, hx1⟩ := hrel
      by_cases hlt : k < len
      · by_cases h4 : k < 4000
        · obtain ⟨y, hy0, hy1, hcell⟩ := HC.out k hlt
          have hm := and_mask (x * 149 + y + 11)
          have HM := Lib.hid hm
          clear hm
          go_wp2
          go_round
          case rel => exact ⟨k + 1, _, by omega, by go_num, rfl, HM.out.1, HM.out.2⟩
          case measure => simp [intOf]; omega
        · go_wp2
          go_ret
          exact HP.out _ hx0 hx1
      · obtain rfl : k = len := by omega
        go_wp2
        go_ret
        exact HP.out _ hx0 hx1

end Go.Proofs.YtalelcloppbhcaaDoor
