/- Several texts of this proof in one: Draw, BytesArg, DrawFrameB, DrawFs, CodeArg, PlainSl3, Leave, Held. -/
import Derived.Test.YtchbmnpajnlijaaProg
import Derived.Test.YtchbmnpajnlijaaPlain
import Derived.Test.YtchbmnpajnlijaaMem
import Derived.WalkKit
import Derived.WalkSpells
import Derived.ProofKit
import Derived.Below
import Derived.Outline
import Derived.Deep.QuietTactic
import Derived.BigQuiet
import Derived.Laws.AppendOwn
import Derived.Lib.Hide
import Derived.IntWalk
import Derived.Laws.Rows
import Derived.OpenShut
import Derived.OwnWalk
import Derived.Deep.RegionWith
import Derived.Test.YtchbmnpajnlijaaFmRow
import Derived.Test.YtchbmnpajnlijaaFoldAll
import Derived.Deep.LoopGhost
import Derived.Deep.CutRange
import Derived.Test.YtchbmnpajnlijaaIntS
import Derived.Test.YtchbmnpajnlijaaPlainFs
import Derived.Test.YtchbmnpajnlijaaTot
import Derived.Conc.Holds
import Derived.Handed
import Derived.Deep.RegionHeld3
/- The draws: a cursor over the bytes of a draw. What is drawn is told up to its bounds alone; of what was there nothing turns. -/
namespace Go.Proofs.Ytchbmnpajnlijaa
open Go.RowKit

/-- A slice of bytes that can be read, all of it in blocks below B. -/
structure Bytes (w : World) (B : Nat) (a : Option Addr) (len : Nat) : Prop where
  small : len ≤ 1048576
  lies : len = 0 ∨ ∃ b off, a = some ⟨b, off, none⟩ ∧ b < B ∧ ∀ i, i < len → ∃ x : Int, 0 ≤ x ∧ x ≤ 255 ∧ w.cell? ⟨b, off + i, none⟩ = some (.int .u8 x)

/-- The cursor at block p. -/
structure Cur (w : World) (p : Nat) (a : Option Addr) (len cap : Nat) : Prop where
  lt : p < w.heap.size
  bytes : Bytes w p a len
  c0 : w.cell? ⟨p, 0, none⟩ = some (.slice a len cap)
  c1 : ∃ i : Int, 0 ≤ i ∧ i ≤ len ∧ w.cell? ⟨p, 1, none⟩ = some (.int .i64 i)
  c2 : ∃ h : Int, -9223372036854775808 ≤ h ∧ h ≤ 9223372036854775807 ∧ w.cell? ⟨p, 2, none⟩ = some (.int .i64 h)
  f1 : w.frozen? ⟨p, 1, none⟩ = false
  f2 : w.frozen? ⟨p, 2, none⟩ = false

theorem Bytes.grown {w w' : World} {p : Nat} {a : Option Addr} {len : Nat} (h : Bytes w p a len) (hp : p ≤ w.heap.size) (hg : w.grownBy w' (some p)) : Bytes w' p a len :=
  ⟨h.small, h.lies.imp id fun ⟨b, off, ha, hb, hc⟩ => ⟨b, off, ha, hb, fun i hi => by
    obtain ⟨x, h0, h1, hx⟩ := hc i hi
    exact ⟨x, h0, h1, (World.cell?_of_block (hg.block b (by omega) (fun e => by injection e with e; omega))).trans hx⟩⟩⟩
theorem Cur.quiet {w w' : World} {p : Nat} {a : Option Addr} {len cap : Nat} (h : Cur w p a len cap) (hg : w.grownBy w' none) : Cur w' p a len cap := by
  have hb : w'.heap[p]? = w.heap[p]? := hg.block p h.lt (by simp)
  obtain ⟨hlt, hby, h0, ⟨i, hi0, hi1, h1⟩, ⟨x, hx0, hx1, h2⟩, f1, f2⟩ := h
  exact ⟨Nat.lt_of_lt_of_le hlt hg.size, hby.grown (Nat.le_of_lt hlt) ⟨hg.os, hg.tape, hg.output, hg.size, fun k hk _ => hg.block k hk (by simp)⟩, (World.cell?_of_block hb).trans h0, ⟨i, hi0, hi1, (World.cell?_of_block hb).trans h1⟩, ⟨x, hx0, hx1, (World.cell?_of_block hb).trans h2⟩,
    (World.frozen?_of_block hb).trans f1, (World.frozen?_of_block hb).trans f2⟩
theorem Cur.setH {w : World} {p : Nat} {a : Option Addr} {len cap : Nat} (h : Cur w p a len cap) (H : Int) (hH0 : -9223372036854775808 ≤ H) (hH1 : H ≤ 9223372036854775807) : Cur (w.setCell ⟨p, 2, none⟩ (.int .i64 H)) p a len cap := by
  obtain ⟨hlt, hby, h0, ⟨i, hi0, hi1, h1⟩, ⟨x, hx0, hx1, h2⟩, f1, f2⟩ := h
  exact ⟨by simpa using hlt, hby.grown (Nat.le_of_lt hlt) (grown_setCell _ _ _ _), by rw [World.cell?_setCell_other _ _ _ _ (by simp)]; exact h0, ⟨i, hi0, hi1, by rw [World.cell?_setCell_other _ _ _ _ (by simp)]; exact h1⟩,
    ⟨H, hH0, hH1, World.cell?_setCell_same _ _ _ h2⟩, by simpa using f1, by simpa using f2⟩
theorem Cur.setI {w : World} {p : Nat} {a : Option Addr} {len cap : Nat} (h : Cur w p a len cap) (I : Int) (hI0 : 0 ≤ I) (hI1 : I ≤ len) : Cur (w.setCell ⟨p, 1, none⟩ (.int .i64 I)) p a len cap := by
  obtain ⟨hlt, hby, h0, ⟨i, hi0, hi1, h1⟩, ⟨x, hx0, hx1, h2⟩, f1, f2⟩ := h
  exact ⟨by simpa using hlt, hby.grown (Nat.le_of_lt hlt) (grown_setCell _ _ _ _), by rw [World.cell?_setCell_other _ _ _ _ (by simp)]; exact h0, ⟨I, hI0, hI1, World.cell?_setCell_same _ _ _ h1⟩,
    ⟨x, hx0, hx1, by rw [World.cell?_setCell_other _ _ _ _ (by simp)]; exact h2⟩, by simpa using f1, by simpa using f2⟩
theorem wrap64_bd (n : Int) : -9223372036854775808 ≤ wrap64 n ∧ wrap64 n ≤ 9223372036854775807 := by unfold wrap64; omega
theorem and255 (x : Int) : 0 ≤ bits .and .i64 x 255 ∧ bits .and .i64 x 255 ≤ 255 := by
  show 0 ≤ IntKind.i64.wrap ((BitVec.ofInt 64 x &&& BitVec.ofInt 64 255).toNat : Int) ∧ IntKind.i64.wrap ((BitVec.ofInt 64 x &&& BitVec.ofInt 64 255).toNat : Int) ≤ 255
  have h : (BitVec.ofInt 64 x &&& BitVec.ofInt 64 255).toNat ≤ 255 := by
    rw [BitVec.toNat_and]
    have e : (BitVec.ofInt 64 255).toNat = 255 := by decide
    rw [e]
    exact Nat.and_le_right
  rw [IntKind.wrap_i64]
  omega

def DrawPost (lo hi : Int) (p : Nat) (a : Option Addr) (len cap : Nat) (w : World) (e : Ending) (w' : World) : Prop :=
  ∃ x : Int, e = .returned (.int .i64 x) ∧ lo ≤ x ∧ x ≤ hi ∧ Cur w' p a len cap ∧ w.grownBy w' (some p)

set_option maxRecDepth 100000 in
set_option maxHeartbeats 1000000 in
theorem byte_any (p : Nat) (a : Option Addr) (len cap : Nat) (w : World) (hc : Cur w p a len cap) :
    Calls Try.prog 149 #[.pointer (some ⟨p, 0, none⟩)] w (DrawPost 0 255 p a len cap w) := by
  obtain ⟨hlt, hby, h0, ⟨i, hi0, hi1, h1⟩, ⟨h, hh0, hh1, h2⟩, f1, f2⟩ := id hc
  obtain ⟨j, rfl⟩ := Int.eq_ofNat_of_zero_le hi0
  obtain ⟨H, hH⟩ : ∃ H, H = wrap64 (wrap64 (h * 6364136223846793005) + 1442695040888963407) := ⟨_, rfl⟩
  have hHb := wrap64_bd (wrap64 (h * 6364136223846793005) + 1442695040888963407)
  rw [← hH] at hHb
  obtain ⟨X, hX⟩ : ∃ X, X = bits .and .i64 (bits .xor .i64 (H / 8589934592) (H / 35184372088832)) 255 := ⟨_, rfl⟩
  have hXb := and255 (bits .xor .i64 (H / 8589934592) (H / 35184372088832))
  rw [← hX] at hXb
  obtain ⟨hX0, hX1⟩ := hXb
  have HH := Lib.hid hH
  have HX := Lib.hid hX
  clear hH hX
  have hg1 := grown_setCell w p 2 (.int .i64 H)
  have hcur := hc.setH H hHb.1 hHb.2
  have k0 : (w.setCell ⟨p, 2, none⟩ (.int .i64 H)).cell? ⟨p, 0, none⟩ = some (.slice a len cap) := by rw [World.cell?_setCell_other _ _ _ _ (by simp)]; exact h0
  have k1 : (w.setCell ⟨p, 2, none⟩ (.int .i64 H)).cell? ⟨p, 1, none⟩ = some (.int .i64 (j : Int)) := by rw [World.cell?_setCell_other _ _ _ _ (by simp)]; exact h1
  have k2 : (w.setCell ⟨p, 2, none⟩ (.int .i64 H)).cell? ⟨p, 2, none⟩ = some (.int .i64 H) := World.cell?_setCell_same _ _ _ h2
  have kf : (w.setCell ⟨p, 2, none⟩ (.int .i64 H)).frozen? ⟨p, 1, none⟩ = false := by simpa using f1
  have hc2 := hcur.bytes
  have HC := Lib.hid hcur
  clear hcur hc
  by_cases hlen : j < len
  · obtain ⟨b, off, rfl, hbp, hcell⟩ := hc2.lies.resolve_left (by omega)
    obtain ⟨x, hx0, hx1, hx⟩ := hcell j hlen
    have hsm := hc2.small
    clear hcell hc2 hby
    have hd : decide ((j : Int) < (len : Int)) = true := by simp; omega
    obtain ⟨Y, hY⟩ : ∃ Y, Y = bits .and .i64 (X + x) 255 := ⟨_, rfl⟩
    have hYb := and255 (X + x)
    rw [← hY] at hYb
    have HY := Lib.hid hY
    clear hY
    have hwr : IntKind.i64.wrap (X + x) = X + x := IntWalk.i64_in _ (by omega)
    go_enter Try.func149, Try.ntmps149
    go_wp2
    rw [← HH.out]
    generalize w.setCell ⟨p, 2, none⟩ (.int .i64 H) = w1 at *
    go_quiet (fail)
    rw [← HX.out]
    go_wp2
    go_quiet (fail)
    go_wp2
    go_quiet (fail)
    rw [← HY.out]
    go_wp2
    go_ret
    exact ⟨Y, rfl, hYb.1, hYb.2, (HC.out.quiet (grown_drewN _ _ _)).setI _ (by omega) (by omega), grown_trans (grown_trans hg1 (grown_drewN _ _ _)) (grown_setCell _ _ _ _)⟩
  · have hd : decide ((j : Int) < (len : Int)) = false := by simp; omega
    clear hc2 hby
    go_enter Try.func149, Try.ntmps149
    go_wp2
    rw [← HH.out]
    generalize w.setCell ⟨p, 2, none⟩ (.int .i64 H) = w1 at *
    go_quiet (fail)
    rw [← HX.out]
    go_wp2
    go_quiet (fail)
    go_wp2
    go_ret
    exact ⟨X, rfl, hX0, hX1, (HC.out.quiet (grown_drewN _ _ _)).quiet (grown_drewN _ _ _), grown_trans (grown_trans hg1 (grown_drewN _ _ _)) (grown_drewN _ _ _)⟩

set_option maxRecDepth 100000 in
set_option maxHeartbeats 1000000 in
theorem below_any (p : Nat) (a : Option Addr) (len cap : Nat) (n : Int) (hn : 0 < n) (hn2 : n ≤ 9223372036854775807) (w : World) (hc : Cur w p a len cap) :
    Calls Try.prog 126 #[.pointer (some ⟨p, 0, none⟩), .int .i64 n] w (DrawPost 0 (n - 1) p a len cap w) := by
  by_cases h256 : n ≤ 256
  · go_enter Try.func126, Try.ntmps126
    go_wp2_with fail
    refine (byte_any p a len cap _ hc).mono ?_
    rintro e w1 ⟨x, rfl, hx0, hx1, hc1, hg1⟩
    have hm0 : 0 ≤ x % n := Int.emod_nonneg _ (by omega)
    have hm1 : x % n ≤ n - 1 := by have := Int.emod_lt_of_pos x hn; omega
    have hne : (n == 0) = false := by simp; omega
    have HM := Lib.hid (And.intro hm0 hm1)
    clear hm0 hm1
    go_wp2
    go_ret
    exact ⟨x % n, rfl, HM.out.1, HM.out.2, hc1, hg1⟩
  · go_enter Try.func126, Try.ntmps126
    go_wp2_with fail
    refine (byte_any p a len cap _ hc).mono ?_
    rintro e w1 ⟨x, rfl, hx0, hx1, hc1, hg1⟩
    go_wp2_with fail
    refine (byte_any p a len cap _ hc1).mono ?_
    rintro e w2 ⟨y, rfl, hy0, hy1, hc2, hg2⟩
    go_wp2_with fail
    refine (byte_any p a len cap _ hc2).mono ?_
    rintro e w3 ⟨z, rfl, hz0, hz1, hc3, hg3⟩
    have hm0 : 0 ≤ (x * 65536 + y * 256 + z) % n := Int.emod_nonneg _ (by omega)
    have hm1 : (x * 65536 + y * 256 + z) % n ≤ n - 1 := by have := Int.emod_lt_of_pos (x * 65536 + y * 256 + z) hn; omega
    have hne : (n == 0) = false := by simp; omega
    have HM := Lib.hid (And.intro hm0 hm1)
    clear hm0 hm1
    go_wp2
    go_ret
    exact ⟨_, rfl, HM.out.1, HM.out.2, hc3, grown_trans (grown_trans hg1 hg2) hg3⟩

theorem below_zero (p : Nat) (n : Int) (hn : n ≤ 0) (w : World) :
    Calls Try.prog 126 #[.pointer (some ⟨p, 0, none⟩), .int .i64 n] w fun e w' => e = .returned (.int .i64 0) ∧ w = w' := by
  go_enter Try.func126, Try.ntmps126
  go_wp2
  go_ret
  exact ⟨rfl, rfl⟩

def OncePost (p : Nat) (a : Option Addr) (len cap : Nat) (w : World) (e : Ending) (w' : World) : Prop :=
  ∃ b : Bool, e = .returned (.bool b) ∧ Cur w' p a len cap ∧ w.grownBy w' (some p)
theorem once_any (p : Nat) (a : Option Addr) (len cap : Nat) (n : Int) (hn : 0 < n) (hn2 : n ≤ 9223372036854775807) (w : World) (hc : Cur w p a len cap) :
    Calls Try.prog 128 #[.pointer (some ⟨p, 0, none⟩), .int .i64 n] w (OncePost p a len cap w) := by
  go_enter Try.func128, Try.ntmps128
  go_wp2_with fail
  refine (below_any p a len cap n hn hn2 _ hc).mono ?_
  rintro e w1 ⟨x, rfl, hx0, hx1, hc1, hg1⟩
  go_wp2
  go_ret
  exact ⟨_, rfl, hc1, hg1⟩

/-- What is picked: one of the list's numbers. -/
def PickPost (xs : List Int) (p : Nat) (a : Option Addr) (len cap : Nat) (w : World) (e : Ending) (w' : World) : Prop :=
  ∃ k, k < xs.length ∧ e = .returned (.int .i64 (el xs k)) ∧ Cur w' p a len cap ∧ w.grownBy w' (some p)
set_option maxRecDepth 100000 in
set_option maxHeartbeats 1000000 in
theorem pick_any (p : Nat) (a : Option Addr) (len cap : Nat) (q c : Nat) (xs : List Int) (hpos : 0 < xs.length) (hmax : xs.length ≤ 1048576) (w : World) (hc : Cur w p a len cap) (hq : q < w.heap.size) (hpq : q ≠ p)
    (hrow : ∀ i, i < xs.length → w.cell? ⟨q, i, none⟩ = some (.int .i64 (el xs i))) :
    Calls Try.prog 100 #[.pointer (some ⟨p, 0, none⟩), .slice (some ⟨q, 0, none⟩) xs.length c] w (PickPost xs p a len cap w) := by
  have HR := Lib.hid hrow
  clear hrow
  go_enter Try.func100, Try.ntmps100
  go_wp2_with fail
  refine (below_any p a len cap _ (by omega) (by omega) _ hc).mono ?_
  rintro e w1 ⟨x, rfl, hx0, hx1, hc1, hg1⟩
  obtain ⟨k, rfl⟩ := Int.eq_ofNat_of_zero_le hx0
  have hk : k < xs.length := by omega
  have hcell : w1.cell? ⟨q, k, none⟩ = some (.int .i64 (el xs k)) := (World.cell?_of_block (hg1.block q hq (fun e => by injection e with e; exact hpq e))).trans (HR.out k hk)
  go_wp2
  go_ret
  exact ⟨k, hk, rfl, hc1, hg1⟩

/-- .. out of a list that was just built. -/
theorem pick_lit (p : Nat) (a : Option Addr) (len cap : Nat) (xs : List Int) (n : Nat) (cs : Array Value) (t : TypeId) (hpos : 0 < xs.length) (hmax : xs.length ≤ 1048576) (hn : xs.length = n) (hcs : cs = full xs) (w : World) (hc : Cur w p a len cap) :
    Calls Try.prog 100 #[.pointer (some ⟨p, 0, none⟩), .slice (some ⟨w.heap.size, 0, none⟩) n n] (w.alloc (.cells cs t)) (PickPost xs p a len cap w) := by
  subst hcs
  subst hn
  refine (pick_any p a len cap w.heap.size _ xs hpos hmax _ (hc.quiet (grown_alloc _ _ _)) (by simp) (by have := hc.lt; omega) (fun i hi => by rw [World.cell?_alloc_at _ _ _ _ rfl]; exact full_at xs i hi)).mono ?_
  rintro e w' ⟨k, hk, he, hc', hg⟩
  exact ⟨k, hk, he, hc', grown_trans (grown_alloc _ _ _) hg⟩
theorem and_mask (x : Int) : 0 ≤ bits .and .i64 x 1073741823 ∧ bits .and .i64 x 1073741823 ≤ 1073741823 := by
  show 0 ≤ IntKind.i64.wrap ((BitVec.ofInt 64 x &&& BitVec.ofInt 64 1073741823).toNat : Int) ∧ IntKind.i64.wrap ((BitVec.ofInt 64 x &&& BitVec.ofInt 64 1073741823).toNat : Int) ≤ 1073741823
  have h : (BitVec.ofInt 64 x &&& BitVec.ofInt 64 1073741823).toNat ≤ 1073741823 := by
    rw [BitVec.toNat_and]
    have e : (BitVec.ofInt 64 1073741823).toNat = 1073741823 := by decide
    rw [e]
    exact Nat.and_le_right
  rw [IntKind.wrap_i64]
  omega

/-- A new cursor: one new block. -/
def NewPost (a : Option Addr) (len cap : Nat) (w : World) (e : Ending) (w' : World) : Prop :=
  ∃ p, w.heap.size ≤ p ∧ e = .returned (.pointer (some ⟨p, 0, none⟩)) ∧ Cur w' p a len cap ∧ w.grownBy w' none
theorem cur_new (w : World) (a : Option Addr) (len cap : Nat) (hb : Bytes w w.heap.size a len) (h : Int) (h0 : 0 ≤ h) (h1 : h ≤ 1073741823) (t : TypeId) : Cur (w.alloc (.cells #[.slice a len cap, .int .i64 0, .int .i64 h] t)) w.heap.size a len cap :=
  ⟨by simp, hb.grown (Nat.le_refl _) (grown_alloc _ _ _), by rw [World.cell?_alloc_at _ _ _ _ rfl]; rfl, ⟨0, by omega, by omega, by rw [World.cell?_alloc_at _ _ _ _ rfl]; rfl⟩, ⟨h, by omega, by omega, by rw [World.cell?_alloc_at _ _ _ _ rfl]; rfl⟩, World.frozen?_alloc_at _ _ _ _ rfl, World.frozen?_alloc_at _ _ _ _ rfl⟩

set_option maxRecDepth 100000 in
set_option maxHeartbeats 1000000 in
theorem new_any (a : Option Addr) (len cap : Nat) (w : World) (hb : Bytes w w.heap.size a len) :
    Calls Try.prog 98 #[.slice a len cap] w (NewPost a len cap w) := by
  have hs := hb.small
  have HB := Lib.hid hb
  have HP : Hid (∀ h : Int, 0 ≤ h → h ≤ 1073741823 → NewPost a len cap w (.returned (.pointer (some ⟨w.heap.size, 0, none⟩))) (w.alloc (.cells #[.slice a len cap, .int .i64 0, .int .i64 h] 139))) :=
    fun h h0 h1 => ⟨w.heap.size, Nat.le_refl _, rfl, cur_new w a len cap hb h h0 h1 _, grown_alloc _ _ _⟩
  rcases hb.lies with h0 | ⟨b, off, rfl, hbl, hc⟩
  · subst h0
    clear hb
    go_enter Try.func98, Try.ntmps98
    go_wp2
    go_loop [3, 4] (fun h i => i = .int .i64 0 ∧ h = .int .i64 728728) (fun _ _ => 0)
    case atStart => exact ⟨rfl, rfl⟩
    case round =>
      obtain ⟨rfl, rfl⟩ := hrel
      go_wp2
      go_ret
      exact HP.out _ (by omega) (by omega)
  · have HC := Lib.hid hc
    clear hc hb
    go_enter Try.func98, Try.ntmps98
    go_wp2
    go_loop [3, 4] (fun h i => ∃ (k : Nat) (x : Int), k ≤ len ∧ i = .int .i64 k ∧ h = .int .i64 x ∧ 0 ≤ x ∧ x ≤ 1073741823) (fun _ i => len - (intOf i).toNat)
    case atStart => exact ⟨0, _, Nat.zero_le _, rfl, rfl, by omega, by omega⟩
    case round =>
      obtain ⟨k, x, hk, rfl, rfl, hx0, hx1⟩ := hrel
      by_cases hlt : k < len
      · by_cases h4 : k < 4000
        · obtain ⟨y, hy0, hy1, hcell⟩ := HC.out k hlt
          have hm := and_mask (x * 149 + y + 11)
          have HM := Lib.hid hm
          clear hm
          go_wp2
          go_round
          case rel => exact ⟨k + 1, _, by omega, by go_num, rfl, HM.out.1, HM.out.2⟩
          case measure => simp [intOf]; omega
        · go_wp2
          go_ret
          exact HP.out _ hx0 hx1
      · obtain rfl : k = len := by omega
        go_wp2
        go_ret
        exact HP.out _ hx0 hx1

end Go.Proofs.Ytchbmnpajnlijaa

/- A slice of bytes that came in: what its reading gives the draws. -/
namespace Go.Proofs.Ytchbmnpajnlijaa
open Go.ChangeShapes Go.WideShapes Go.ChangeAt Go.RowKit

theorem u8_bd {n : Int} (h : (Lit.int .u8 n).wf = true) : 0 ≤ n ∧ n ≤ 255 := by simpa [Lit.wf, IntKind.min, IntKind.max, IntKind.signed, IntKind.bits] using h
/-- Its length and, up to a million bytes, that it can be read. -/
theorem bytes_of {H : Type} {enc : TypeId × Value → H} {W : World} {sp : Nat → Bool} {held : Bool} {d : DataW H} {p : List MemPlace} {a : Option Addr} {len cap : Nat}
    (h : ∃ fuel, DataW.trod enc Try.prog W 0 sp held fuel 69 (Value.slice a len cap).cells.toList = some (d, p)) : len ≤ 1048576 → Bytes W W.heap.size a len := by
  intro hl
  obtain ⟨fuel, hf⟩ := h
  rcases open_ints Try.underlying69 Try.underlying5 (by kernel_rfl) hf with ⟨hcs, _⟩ | ⟨x, l, c, zs, hcs, _, hlc, hm, hz, _, hcell, hwz⟩
  · simp [Value.cells] at hcs
    obtain ⟨rfl, rfl, rfl⟩ := hcs
    exact ⟨hl, .inl rfl⟩
  · simp [Value.cells] at hcs
    obtain ⟨rfl, rfl, rfl⟩ := hcs
    refine ⟨hl, ?_⟩
    by_cases h0 : len = 0
    · exact .inl h0
    · obtain ⟨b, off, spot⟩ := x
      have hz' : len ≤ zs.length := by rw [hz]; split <;> omega
      have h00 := hcell 0 (by omega)
      have hspot : spot = none := by simpa [Addr.add] using World.cell?_spot h00
      subst hspot
      have hlt := block_lt_of_cell h00
      refine .inr ⟨b, off, rfl, by simpa [Addr.add] using hlt, fun i hi => ?_⟩
      have hi' := hcell i (by omega)
      have e : (⟨b, off, none⟩ : Addr).add i = ⟨b, off + i, none⟩ := by
        by_cases h0 : i = 0
        · subst h0; rfl
        · simp [Addr.add, h0]
      rw [e] at hi'
      have hm : zs.getD i 0 ∈ zs := by
        have hil : i < zs.length := by omega
        simp [List.getD, hil]
      have := u8_bd (hwz _ hm)
      exact ⟨_, this.1, this.2, hi'⟩

end Go.Proofs.Ytchbmnpajnlijaa

/- (out of XDrawFrame, without the decoder) The draws of a frame, of whatever numbers. -/
namespace Go.Proofs.Ytchbmnpajnlijaa
open Go.RowKit
theorem only_setF {a w : World} {g : Nat} (h : a.grownBy w (some g)) {p : Addr} (hp : p.block = g ∨ a.heap.size ≤ p.block) (u : Value) : a.grownBy (w.setCell p u) (some g) :=
  ⟨h.os, h.tape, h.output, by simpa [World.setCell] using h.size, fun i hi hne => (Below.heap_setCell w p u i (by
    rintro rfl
    rcases hp with hp | hp
    · exact hne (by rw [hp])
    · omega)).trans (h.block i hi hne)⟩

theorem row_cells {w : World} {b : Nat} {T : TypeId} {xs : List Int} {cs : Array Value} (hb : Blk w b T cs) (hcs : cs = (xs.map (Value.int .i64)).toArray) : ∀ i, i < xs.length → w.cell? ⟨b, i, none⟩ = some (.int .i64 (el xs i)) := by
  intro i hi
  subst hcs
  rw [hb.cell i]
  have := el_cell .i64 xs i hi
  simpa using this
theorem Cur.alloc_ {w : World} {p : Nat} {a : Option Addr} {len cap : Nat} (h : Cur w p a len cap) (o : Obj) : Cur (w.alloc o) p a len cap := h.quiet (World.grownBy_alloc w o none)
theorem Cur.set_ {w : World} {p : Nat} {a : Option Addr} {len cap : Nat} (h : Cur w p a len cap) {q i : Nat} (hq : p < q) (v : Value) : Cur (w.setCell ⟨q, i, none⟩ v) p a len cap := by
  have hb : (w.setCell ⟨q, i, none⟩ v).heap[p]? = w.heap[p]? := Below.heap_setCell w ⟨q, i, none⟩ v p (by simp; omega)
  obtain ⟨hlt, hby, h0, ⟨j, hi0, hi1, h1⟩, ⟨x, hx0, hx1, h2⟩, f1, f2⟩ := h
  refine ⟨by simpa using hlt, ⟨hby.small, hby.lies.imp id fun ⟨b, off, ha, hbp, hc⟩ => ⟨b, off, ha, hbp, fun k hk => ?_⟩⟩, (World.cell?_of_block hb).trans h0, ⟨j, hi0, hi1, (World.cell?_of_block hb).trans h1⟩, ⟨x, hx0, hx1, (World.cell?_of_block hb).trans h2⟩,
    (World.frozen?_of_block hb).trans f1, (World.frozen?_of_block hb).trans f2⟩
  obtain ⟨y, y0, y1, hy⟩ := hc k hk
  exact ⟨y, y0, y1, (World.cell?_of_block (Below.heap_setCell w ⟨q, i, none⟩ v b (by simp; omega))).trans hy⟩
/-- A frame that is drawn, as far as it has come. -/
structure DS (p : Nat) (a : Option Addr) (len cap q : Nat) (k y t v : Int) (w W : World) : Prop where
  cur : Cur W p a len cap
  gr : w.grownBy W (some p)
  res : Blk W w.heap.size 66 #[.int .i64 0, .int .i64 0, .int .i64 0, .int .i64 0]
  frm : Blk W q 66 #[.int .i64 k, .int .i64 y, .int .i64 t, .int .i64 v]
  lt : p < w.heap.size
  lq : w.heap.size < q
section
variable {p len cap q : Nat} {a : Option Addr} {k y t v : Int} {w W W' : World}
theorem DS.draw (h : DS p a len cap q k y t v w W) (hc : Cur W' p a len cap) (hg : W.grownBy W' (some p)) : DS p a len cap q k y t v w W' :=
  ⟨hc, grown_trans h.gr hg, h.res.grown hg (fun e => by injection e with e; have := h.lt; omega), h.frm.grown hg (fun e => by injection e with e; have := h.lt; have := h.lq; omega), h.lt, h.lq⟩
theorem DS.alloc_ (h : DS p a len cap q k y t v w W) (o : Obj) : DS p a len cap q k y t v w (W.alloc o) :=
  ⟨h.cur.alloc_ o, grown_trans h.gr (World.grownBy_alloc W o _), h.res.alloc o, h.frm.alloc o, h.lt, h.lq⟩
theorem DS.set (h : DS p a len cap q k y t v w W) {i : Nat} {u : Value} {k' y' t' v' : Int} (hs : (#[Value.int .i64 k, .int .i64 y, .int .i64 t, .int .i64 v] : Array Value).setIfInBounds i u = #[.int .i64 k', .int .i64 y', .int .i64 t', .int .i64 v']) : DS p a len cap q k' y' t' v' w (W.setCell ⟨q, i, none⟩ u) := by
  have h1 := h.lt
  have h2 := h.lq
  have hb : Blk (W.setCell ⟨q, i, none⟩ u) q 66 #[.int .i64 k', .int .i64 y', .int .i64 t', .int .i64 v'] := by
    rw [← hs]
    have hh := h.frm
    unfold Blk at hh ⊢
    simp [World.setCell, Array.getElem?_modify, hh]
  exact ⟨h.cur.set_ (by omega) u, only_setF h.gr (.inr (by simp; omega)) u, (Below.heap_setCell W ⟨q, i, none⟩ u w.heap.size (by simp; omega)).trans h.res, hb, h1, h2⟩
end
/-- A frame that was drawn. -/
def FrPost (p : Nat) (a : Option Addr) (len cap : Nat) (w : World) (e : Ending) (w' : World) : Prop :=
  ∃ k y t v : Int, e = .returned (.agg #[.int .i64 k, .int .i64 y, .int .i64 t, .int .i64 v]) ∧ Cur w' p a len cap ∧ w.grownBy w' (some p)
theorem DS.stored {p len cap q : Nat} {a : Option Addr} {k y t v : Int} {w W : World} (h : DS p a len cap q k y t v w W) :
    FrPost p a len cap w (.returned (.agg #[.int .i64 k, .int .i64 y, .int .i64 t, .int .i64 v])) ((((W.setCell ⟨w.heap.size, 0, none⟩ (.int .i64 k)).setCell ⟨w.heap.size, 1, none⟩ (.int .i64 y)).setCell ⟨w.heap.size, 2, none⟩ (.int .i64 t)).setCell ⟨w.heap.size, 3, none⟩ (.int .i64 v)) := by
  have h1 := h.lt
  refine ⟨k, y, t, v, rfl, (((h.cur.set_ h1 _).set_ h1 _).set_ h1 _).set_ h1 _, ?_⟩
  exact only_setF (only_setF (only_setF (only_setF h.gr (.inr (Nat.le_refl _)) _) (.inr (Nat.le_refl _)) _) (.inr (Nat.le_refl _)) _) (.inr (Nat.le_refl _)) _

set_option maxRecDepth 100000 in
set_option maxHeartbeats 4000000 in
theorem drawFrame_any (p : Nat) (a : Option Addr) (len cap : Nat) (w : World) (hc : Cur w p a len cap) : Calls Try.prog 150 #[.pointer (some ⟨p, 0, none⟩)] w (FrPost p a len cap w) := by
  have HC0 := Lib.hid hc
  have hp := hc.lt
  clear hc
  have C1 := Lib.hid ((HC0.out.alloc_ (.cells #[.int .i64 0, .int .i64 0, .int .i64 0, .int .i64 0] 66)).alloc_ (.cells #[.int .i64 1, .int .i64 1, .int .i64 1, .int .i64 1, .int .i64 2, .int .i64 3] 3))
  have r1 := row_cells (xs := [1, 1, 1, 1, 2, 3]) (Blk.new (w.alloc (.cells #[.int .i64 0, .int .i64 0, .int .i64 0, .int .i64 0] 66)) 3 #[.int .i64 1, .int .i64 1, .int .i64 1, .int .i64 1, .int .i64 2, .int .i64 3]) (by simp)
  simp only [World.size_alloc] at r1
  have R1 := Lib.hid r1
  clear r1
  go_enter Try.func150, Try.ntmps150
  go_wp2_with fail
  refine (pick_any p a len cap (w.heap.size + 1) 6 [1, 1, 1, 1, 2, 3] (by simp) (by simp) _ C1.out (by simp) (by omega) R1.out).mono ?_
  rintro e w1 ⟨j, hj, rfl, hc, hg⟩
  have hk : el [1, 1, 1, 1, 2, 3] j = 1 ∨ el [1, 1, 1, 1, 2, 3] j = 2 ∨ el [1, 1, 1, 1, 2, 3] j = 3 := by
    have : j = 0 ∨ j = 1 ∨ j = 2 ∨ j = 3 ∨ j = 4 ∨ j = 5 := by simp at hj; omega
    rcases this with rfl | rfl | rfl | rfl | rfl | rfl <;> decide
  have hsz := hg.size
  simp only [World.size_alloc] at hsz
  have DK : Hid (∀ k : Int, DS p a len cap w1.heap.size k 0 0 0 w (w1.alloc (.cells #[.int .i64 k, .int .i64 0, .int .i64 0, .int .i64 0] 66))) := Lib.hid (fun k =>
    ⟨hc.alloc_ _, grown_trans (grown_trans (grown_trans (World.grownBy_alloc w _ _) (World.grownBy_alloc _ _ _)) hg) (World.grownBy_alloc _ _ _),
      ((((Blk.new w 66 #[.int .i64 0, .int .i64 0, .int .i64 0, .int .i64 0]).alloc _).grown hg (fun e => by injection e with e; omega)).alloc _), Blk.new _ _ _, hp, by omega⟩)
  clear hc hg
  generalize el [1, 1, 1, 1, 2, 3] j = K at hk ⊢
  rcases hk with rfl | rfl | rfl
  · have D0 := Lib.hid (DK.out 1)
    go_wp2_with fail
    refine (below_any p a len cap 5 (by omega) (by omega) _ D0.out.cur).mono ?_
    rintro e u1 ⟨x1, rfl, hx10, hx11, hc, hg⟩
    have D1 := Lib.hid (D0.out.draw hc hg)
    have f1 := D1.out.frm.cell
    clear hc hg
    go_wp2_with fail
    refine (below_any p a len cap 5 (by omega) (by omega) _ D1.out.cur).mono ?_
    rintro e u2 ⟨x2, rfl, hx20, hx21, hc, hg⟩
    have D2 := Lib.hid (D1.out.draw hc hg)
    have f2 := D2.out.frm.cell
    clear hc hg
    go_wp2_with fail
    refine (below_any p a len cap 65536 (by omega) (by omega) _ D2.out.cur).mono ?_
    rintro e u3 ⟨x3, rfl, hx30, hx31, hc, hg⟩
    have D3 := Lib.hid (D2.out.draw hc hg)
    have f3 := D3.out.frm.cell
    clear hc hg
    have A4 := Lib.hid (D3.out.alloc_ (.cells #[.int .i64 (x1), .int .i64 (x2), .int .i64 (x3), .int .i64 (65535)] 3))
    have R4 := Lib.hid (row_cells (xs := [x1, x2, x3, 65535]) (Blk.new u3 3 #[.int .i64 (x1), .int .i64 (x2), .int .i64 (x3), .int .i64 (65535)]) (by simp))
    have hq4 := D3.out.cur.lt
    go_wp2_with fail
    refine (pick_any p a len cap u3.heap.size 4 [x1, x2, x3, 65535] (by simp) (by simp) _ A4.out.cur (by simp) (by omega) R4.out).mono ?_
    rintro e v4 ⟨j, hj, rfl, hc, hg⟩
    have E4 := Lib.hid (A4.out.draw hc hg)
    clear hc hg
    generalize el [x1, x2, x3, 65535] j = Y
    have g5 := E4.out.frm.cell
    have z5 := E4.out.frm.frozen
    have D5 := Lib.hid (E4.out.set (i := 1) (u := .int .i64 Y) rfl)
    go_wp2_with fail
    refine (below_any p a len cap 20 (by omega) (by omega) _ D5.out.cur).mono ?_
    rintro e u6 ⟨y1, rfl, hy10, hy11, hc, hg⟩
    have D6 := Lib.hid (D5.out.draw hc hg)
    have f6 := D6.out.frm.cell
    clear hc hg
    go_wp2_with fail
    refine (below_any p a len cap 20 (by omega) (by omega) _ D6.out.cur).mono ?_
    rintro e u7 ⟨y2, rfl, hy20, hy21, hc, hg⟩
    have D7 := Lib.hid (D6.out.draw hc hg)
    have f7 := D7.out.frm.cell
    clear hc hg
    have A8 := Lib.hid (D7.out.alloc_ (.cells #[.int .i64 (y1 - 5), .int .i64 (y2 - 5), .int .i64 (1000000), .int .i64 (-1000000)] 3))
    have R8 := Lib.hid (row_cells (xs := [y1 - 5, y2 - 5, 1000000, -1000000]) (Blk.new u7 3 #[.int .i64 (y1 - 5), .int .i64 (y2 - 5), .int .i64 (1000000), .int .i64 (-1000000)]) (by simp))
    have hq8 := D7.out.cur.lt
    go_wp2_with fail
    refine (pick_any p a len cap u7.heap.size 4 [y1 - 5, y2 - 5, 1000000, -1000000] (by simp) (by simp) _ A8.out.cur (by simp) (by omega) R8.out).mono ?_
    rintro e v8 ⟨j, hj, rfl, hc, hg⟩
    have E8 := Lib.hid (A8.out.draw hc hg)
    clear hc hg
    generalize el [y1 - 5, y2 - 5, 1000000, -1000000] j = V
    have g9 := E8.out.frm.cell
    have z9 := E8.out.frm.frozen
    have D9 := Lib.hid (E8.out.set (i := 3) (u := .int .i64 V) rfl)
    go_wp2_with fail
    refine (below_any p a len cap 60 (by omega) (by omega) _ D9.out.cur).mono ?_
    rintro e u10 ⟨t1, rfl, ht10, ht11, hc, hg⟩
    have D10 := Lib.hid (D9.out.draw hc hg)
    have f10 := D10.out.frm.cell
    clear hc hg
    go_wp2_with fail
    refine (below_any p a len cap 60 (by omega) (by omega) _ D10.out.cur).mono ?_
    rintro e u11 ⟨t2, rfl, ht20, ht21, hc, hg⟩
    have D11 := Lib.hid (D10.out.draw hc hg)
    have f11 := D11.out.frm.cell
    clear hc hg
    have A12 := Lib.hid (D11.out.alloc_ (.cells #[.int .i64 (t1), .int .i64 (t2), .int .i64 (0), .int .i64 (1000000)] 3))
    have R12 := Lib.hid (row_cells (xs := [t1, t2, 0, 1000000]) (Blk.new u11 3 #[.int .i64 (t1), .int .i64 (t2), .int .i64 (0), .int .i64 (1000000)]) (by simp))
    have hq12 := D11.out.cur.lt
    go_wp2_with fail
    refine (pick_any p a len cap u11.heap.size 4 [t1, t2, 0, 1000000] (by simp) (by simp) _ A12.out.cur (by simp) (by omega) R12.out).mono ?_
    rintro e v12 ⟨j, hj, rfl, hc, hg⟩
    have E12 := Lib.hid (A12.out.draw hc hg)
    clear hc hg
    generalize el [t1, t2, 0, 1000000] j = T
    have g13 := E12.out.frm.cell
    have z13 := E12.out.frm.frozen
    have D13 := Lib.hid (E12.out.set (i := 2) (u := .int .i64 T) rfl)
    have HP := Lib.hid D13.out.stored
    have r9 := D13.out.res.cell
    have z9 := D13.out.res.frozen
    have q9 := D13.out.frm.cell
    go_wp2
    exact bodyPost_ret (v := .agg #[.int .i64 (1), .int .i64 (Y), .int .i64 (T), .int .i64 (V)]) (by simp [results, Try.results150, go_sem, r9]) rfl HP.out
  · have D0 := Lib.hid (DK.out 2)
    have f0 := D0.out.frm.cell
    go_wp2_with fail
    refine (below_any p a len cap 60 (by omega) (by omega) _ D0.out.cur).mono ?_
    rintro e u14 ⟨t1, rfl, ht10, ht11, hc, hg⟩
    have D14 := Lib.hid (D0.out.draw hc hg)
    have f14 := D14.out.frm.cell
    clear hc hg
    go_wp2_with fail
    refine (below_any p a len cap 60 (by omega) (by omega) _ D14.out.cur).mono ?_
    rintro e u15 ⟨t2, rfl, ht20, ht21, hc, hg⟩
    have D15 := Lib.hid (D14.out.draw hc hg)
    have f15 := D15.out.frm.cell
    clear hc hg
    have A16 := Lib.hid (D15.out.alloc_ (.cells #[.int .i64 (t1), .int .i64 (t2), .int .i64 (0), .int .i64 (1000000)] 3))
    have R16 := Lib.hid (row_cells (xs := [t1, t2, 0, 1000000]) (Blk.new u15 3 #[.int .i64 (t1), .int .i64 (t2), .int .i64 (0), .int .i64 (1000000)]) (by simp))
    have hq16 := D15.out.cur.lt
    go_wp2_with fail
    refine (pick_any p a len cap u15.heap.size 4 [t1, t2, 0, 1000000] (by simp) (by simp) _ A16.out.cur (by simp) (by omega) R16.out).mono ?_
    rintro e v16 ⟨j, hj, rfl, hc, hg⟩
    have E16 := Lib.hid (A16.out.draw hc hg)
    clear hc hg
    generalize el [t1, t2, 0, 1000000] j = T
    have g17 := E16.out.frm.cell
    have z17 := E16.out.frm.frozen
    have D17 := Lib.hid (E16.out.set (i := 2) (u := .int .i64 T) rfl)
    have HP := Lib.hid D17.out.stored
    have r9 := D17.out.res.cell
    have z9 := D17.out.res.frozen
    have q9 := D17.out.frm.cell
    go_wp2
    exact bodyPost_ret (v := .agg #[.int .i64 (2), .int .i64 (0), .int .i64 (T), .int .i64 (0)]) (by simp [results, Try.results150, go_sem, r9]) rfl HP.out
  · have D0 := Lib.hid (DK.out 3)
    have f0 := D0.out.frm.cell
    have HP := Lib.hid D0.out.stored
    have r9 := D0.out.res.cell
    have z9 := D0.out.res.frozen
    have q9 := D0.out.frm.cell
    go_wp2
    exact bodyPost_ret (v := .agg #[.int .i64 (3), .int .i64 (0), .int .i64 (0), .int .i64 (0)]) (by simp [results, Try.results150, go_sem, r9]) rfl HP.out
set_option maxRecDepth 100000 in
set_option maxHeartbeats 4000000 in
theorem drawLoose_any (p : Nat) (a : Option Addr) (len cap : Nat) (w : World) (hc : Cur w p a len cap) : Calls Try.prog 130 #[.pointer (some ⟨p, 0, none⟩)] w (FrPost p a len cap w) := by
  have HC0 := Lib.hid hc
  have hp := hc.lt
  clear hc
  have C1 := Lib.hid (HC0.out.alloc_ (.cells #[.int .i64 0, .int .i64 0, .int .i64 0, .int .i64 0] 66))
  go_enter Try.func130, Try.ntmps130
  go_wp2_with fail
  refine (drawFrame_any p a len cap _ C1.out).mono ?_
  rintro e w1 ⟨k, y, t, v, rfl, hc, hg⟩
  have hsz := hg.size
  simp only [World.size_alloc] at hsz
  have D0 : Hid (DS p a len cap w1.heap.size k y t v w (w1.alloc (.cells #[.int .i64 k, .int .i64 y, .int .i64 t, .int .i64 v] 66))) := Lib.hid
    ⟨hc.alloc_ _, grown_trans (grown_trans (World.grownBy_alloc w _ _) hg) (World.grownBy_alloc _ _ _),
      (((Blk.new w 66 #[.int .i64 0, .int .i64 0, .int .i64 0, .int .i64 0]).grown hg (fun e => by injection e with e; omega)).alloc _), Blk.new _ _ _, hp, by omega⟩
  clear hc hg
  go_wp2_with fail
  refine (once_any p a len cap 8 (by omega) (by omega) _ D0.out.cur).mono ?_
  rintro e w3 ⟨b, rfl, hc, hg⟩
  have DB := Lib.hid (D0.out.draw hc hg)
  clear hc hg
  cases b with
  | false =>
    have HP := Lib.hid DB.out.stored
    have r9 := DB.out.res.cell
    have z9 := DB.out.res.frozen
    have q9 := DB.out.frm.cell
    go_wp2
    exact bodyPost_ret (v := .agg #[.int .i64 (k), .int .i64 (y), .int .i64 (t), .int .i64 (v)]) (by simp [results, Try.results130, go_sem, r9]) rfl HP.out
  | true =>
    go_wp2_with fail
    refine (below_any p a len cap 4 (by omega) (by omega) _ DB.out.cur).mono ?_
    rintro e w4 ⟨x, rfl, hx0, hx1, hc, hg⟩
    have D1 := Lib.hid (DB.out.draw hc hg)
    clear hc hg
    have hx : x = 0 ∨ x = 1 ∨ x = 2 ∨ x = 3 := by omega
    clear hx0 hx1
    rcases hx with rfl | rfl | rfl | rfl
    · have A18 := Lib.hid (D1.out.alloc_ (.cells #[.int .i64 (0), .int .i64 (1), .int .i64 (2), .int .i64 (3), .int .i64 (4)] 3))
      have R18 := Lib.hid (row_cells (xs := [0, 1, 2, 3, 4]) (Blk.new w4 3 #[.int .i64 (0), .int .i64 (1), .int .i64 (2), .int .i64 (3), .int .i64 (4)]) (by simp))
      have hq18 := D1.out.cur.lt
      go_wp2_with fail
      refine (pick_any p a len cap w4.heap.size 5 [0, 1, 2, 3, 4] (by simp) (by simp) _ A18.out.cur (by simp) (by omega) R18.out).mono ?_
      rintro e v18 ⟨j, hj, rfl, hc, hg⟩
      have E18 := Lib.hid (A18.out.draw hc hg)
      clear hc hg
      generalize el [0, 1, 2, 3, 4] j = X
      have g19 := E18.out.frm.cell
      have z19 := E18.out.frm.frozen
      have D19 := Lib.hid (E18.out.set (i := 0) (u := .int .i64 X) rfl)
      have HP := Lib.hid D19.out.stored
      have r9 := D19.out.res.cell
      have z9 := D19.out.res.frozen
      have q9 := D19.out.frm.cell
      go_wp2
      exact bodyPost_ret (v := .agg #[.int .i64 (X), .int .i64 (y), .int .i64 (t), .int .i64 (v)]) (by simp [results, Try.results130, go_sem, r9]) rfl HP.out
    · have A20 := Lib.hid (D1.out.alloc_ (.cells #[.int .i64 (-1), .int .i64 (0), .int .i64 (65535), .int .i64 (65536)] 3))
      have R20 := Lib.hid (row_cells (xs := [-1, 0, 65535, 65536]) (Blk.new w4 3 #[.int .i64 (-1), .int .i64 (0), .int .i64 (65535), .int .i64 (65536)]) (by simp))
      have hq20 := D1.out.cur.lt
      go_wp2_with fail
      refine (pick_any p a len cap w4.heap.size 4 [-1, 0, 65535, 65536] (by simp) (by simp) _ A20.out.cur (by simp) (by omega) R20.out).mono ?_
      rintro e v20 ⟨j, hj, rfl, hc, hg⟩
      have E20 := Lib.hid (A20.out.draw hc hg)
      clear hc hg
      generalize el [-1, 0, 65535, 65536] j = X
      have g21 := E20.out.frm.cell
      have z21 := E20.out.frm.frozen
      have D21 := Lib.hid (E20.out.set (i := 1) (u := .int .i64 X) rfl)
      have HP := Lib.hid D21.out.stored
      have r9 := D21.out.res.cell
      have z9 := D21.out.res.frozen
      have q9 := D21.out.frm.cell
      go_wp2
      exact bodyPost_ret (v := .agg #[.int .i64 (k), .int .i64 (X), .int .i64 (t), .int .i64 (v)]) (by simp [results, Try.results130, go_sem, r9]) rfl HP.out
    · have A22 := Lib.hid (D1.out.alloc_ (.cells #[.int .i64 (-1), .int .i64 (1), .int .i64 (1000000), .int .i64 (1000001)] 3))
      have R22 := Lib.hid (row_cells (xs := [-1, 1, 1000000, 1000001]) (Blk.new w4 3 #[.int .i64 (-1), .int .i64 (1), .int .i64 (1000000), .int .i64 (1000001)]) (by simp))
      have hq22 := D1.out.cur.lt
      go_wp2_with fail
      refine (pick_any p a len cap w4.heap.size 4 [-1, 1, 1000000, 1000001] (by simp) (by simp) _ A22.out.cur (by simp) (by omega) R22.out).mono ?_
      rintro e v22 ⟨j, hj, rfl, hc, hg⟩
      have E22 := Lib.hid (A22.out.draw hc hg)
      clear hc hg
      generalize el [-1, 1, 1000000, 1000001] j = X
      have g23 := E22.out.frm.cell
      have z23 := E22.out.frm.frozen
      have D23 := Lib.hid (E22.out.set (i := 2) (u := .int .i64 X) rfl)
      have HP := Lib.hid D23.out.stored
      have r9 := D23.out.res.cell
      have z9 := D23.out.res.frozen
      have q9 := D23.out.frm.cell
      go_wp2
      exact bodyPost_ret (v := .agg #[.int .i64 (k), .int .i64 (y), .int .i64 (X), .int .i64 (v)]) (by simp [results, Try.results130, go_sem, r9]) rfl HP.out
    · have A24 := Lib.hid (D1.out.alloc_ (.cells #[.int .i64 (1), .int .i64 (-1000001), .int .i64 (1000001)] 3))
      have R24 := Lib.hid (row_cells (xs := [1, -1000001, 1000001]) (Blk.new w4 3 #[.int .i64 (1), .int .i64 (-1000001), .int .i64 (1000001)]) (by simp))
      have hq24 := D1.out.cur.lt
      go_wp2_with fail
      refine (pick_any p a len cap w4.heap.size 3 [1, -1000001, 1000001] (by simp) (by simp) _ A24.out.cur (by simp) (by omega) R24.out).mono ?_
      rintro e v24 ⟨j, hj, rfl, hc, hg⟩
      have E24 := Lib.hid (A24.out.draw hc hg)
      clear hc hg
      generalize el [1, -1000001, 1000001] j = X
      have g25 := E24.out.frm.cell
      have z25 := E24.out.frm.frozen
      have D25 := Lib.hid (E24.out.set (i := 3) (u := .int .i64 X) rfl)
      have HP := Lib.hid D25.out.stored
      have r9 := D25.out.res.cell
      have z9 := D25.out.res.frozen
      have q9 := D25.out.frm.cell
      go_wp2
      exact bodyPost_ret (v := .agg #[.int .i64 (k), .int .i64 (y), .int .i64 (t), .int .i64 (X)]) (by simp [results, Try.results130, go_sem, r9]) rfl HP.out
/-- A frame, and of what was there nothing has turned. -/
def FrNew (w : World) (e : Ending) (w' : World) : Prop := ∃ k y t v : Int, e = .returned (.agg #[.int .i64 k, .int .i64 y, .int .i64 t, .int .i64 v]) ∧ Below w.heap.size w w'
theorem set4_below {B g : Nat} {w w1 : World} {v0 v1 v2 v3 : Value} (hb : Below B w w1) (hg : B ≤ g) : Below B w ((((w1.setCell ⟨g, 0, none⟩ v0).setCell ⟨g, 1, none⟩ v1).setCell ⟨g, 2, none⟩ v2).setCell ⟨g, 3, none⟩ v3) :=
  (((hb.setCell (p := ⟨g, 0, none⟩) hg _).setCell (p := ⟨g, 1, none⟩) hg _).setCell (p := ⟨g, 2, none⟩) hg _).setCell (p := ⟨g, 3, none⟩) hg _
end Go.Proofs.Ytchbmnpajnlijaa

/- The draws of lists of frames, of whatever numbers. (made by tools/mkdrawfs.py) -/
namespace Go.Proofs.Ytchbmnpajnlijaa
open Go.RowKit
theorem grown_own {w W W' : World} {p g : Nat} (h : w.grownBy W (some p)) (k : W.grownBy W' (some g)) (hg : w.heap.size ≤ g) : w.grownBy W' (some p) :=
  ⟨k.os.trans h.os, k.tape.trans h.tape, k.output.trans h.output, Nat.le_trans h.size k.size, fun j hj hne => (k.block j (Nat.lt_of_lt_of_le hj h.size) (fun e => by injection e with e; omega)).trans (h.block j hj hne)⟩
theorem grown_own' {w W W' : World} {p : Nat} {r : Option Nat} (h : w.grownBy W (some p)) (k : W.grownBy W' r) (hg : ∀ g, r = some g → w.heap.size ≤ g) : w.grownBy W' (some p) := by
  cases r with
  | none => exact ⟨k.os.trans h.os, k.tape.trans h.tape, k.output.trans h.output, Nat.le_trans h.size k.size, fun j hj hne => (k.block j (Nat.lt_of_lt_of_le hj h.size) (by simp)).trans (h.block j hj hne)⟩
  | some g => exact grown_own h k (hg g rfl)
theorem Bytes.belowF_ {w w' : World} {p : Nat} {a : Option Addr} {len : Nat} (h : Bytes w p a len) (hb : Below p w w') : Bytes w' p a len :=
  ⟨h.small, h.lies.imp id fun ⟨b, off, ha, hlt, hc⟩ => ⟨b, off, ha, hlt, fun i hi => by
    obtain ⟨x, h0, h1, hx⟩ := hc i hi
    exact ⟨x, h0, h1, (hb.cell (p := ⟨b, off + i, none⟩) hlt).trans hx⟩⟩⟩
theorem Cur.belowF_ {w w' : World} {p : Nat} {a : Option Addr} {len cap : Nat} (h : Cur w p a len cap) (hb : Below (p + 1) w w') : Cur w' p a len cap := by
  have hblk : w'.heap[p]? = w.heap[p]? := hb.block p (by omega)
  obtain ⟨hlt, hby, h0, ⟨i, hi0, hi1, h1⟩, ⟨x, hx0, hx1, h2⟩, f1, f2⟩ := h
  exact ⟨Nat.lt_of_lt_of_le hlt hb.size, hby.belowF_ (hb.mono (Nat.le_succ _)), (World.cell?_of_block hblk).trans h0, ⟨i, hi0, hi1, (World.cell?_of_block hblk).trans h1⟩, ⟨x, hx0, hx1, (World.cell?_of_block hblk).trans h2⟩,
    (World.frozen?_of_block hblk).trans f1, (World.frozen?_of_block hblk).trans f2⟩
/-- An event that is drawn, as far as it has come. -/
structure DE (p : Nat) (a : Option Addr) (len cap : Nat) (w W : World) : Prop where
  cur : Cur W p a len cap
  gr : w.grownBy W (some p)
  res : Blk W w.heap.size 66 #[.int .i64 0, .int .i64 0, .int .i64 0, .int .i64 0]
  lt : p < w.heap.size
theorem DE.draw {p len cap : Nat} {a : Option Addr} {w W W' : World} (h : DE p a len cap w W) (hc : Cur W' p a len cap) (hg : W.grownBy W' (some p)) : DE p a len cap w W' :=
  ⟨hc, grown_trans h.gr hg, h.res.grown hg (fun e => by injection e with e; have := h.lt; omega), h.lt⟩
set_option maxRecDepth 100000 in
set_option maxHeartbeats 4000000 in
theorem drawEvent_any (p : Nat) (a : Option Addr) (len cap : Nat) (w : World) (hc : Cur w p a len cap) : Calls Try.prog 129 #[.pointer (some ⟨p, 0, none⟩)] w (FrPost p a len cap w) := by
  have D0 : Hid (DE p a len cap w (w.alloc (.cells #[.int .i64 0, .int .i64 0, .int .i64 0, .int .i64 0] 66))) := Lib.hid ⟨hc.alloc_ _, World.grownBy_alloc w _ _, Blk.new w 66 _, hc.lt⟩
  clear hc
  go_enter Try.func129, Try.ntmps129
  go_wp2_with fail
  refine (below_any p a len cap 3 (by omega) (by omega) _ D0.out.cur).mono ?_
  rintro e w1 ⟨x, rfl, hx0, hx1, hc1, hg1⟩
  have D1 := Lib.hid (D0.out.draw hc1 hg1)
  clear hc1 hg1
  go_wp2_with fail
  refine (below_any p a len cap 50 (by omega) (by omega) _ D1.out.cur).mono ?_
  rintro e w2 ⟨y, rfl, hy0, hy1, hc1, hg1⟩
  have D2 := Lib.hid (D1.out.draw hc1 hg1)
  clear hc1 hg1
  go_wp2_with fail
  refine (below_any p a len cap 20 (by omega) (by omega) _ D2.out.cur).mono ?_
  rintro e w3 ⟨z, rfl, hz0, hz1, hc1, hg1⟩
  have D3 := Lib.hid (D2.out.draw hc1 hg1)
  clear hc1 hg1
  have c1 := D3.out.res.cell
  have f1 := D3.out.res.frozen
  have wz : IntKind.i64.wrap (z - 6) = z - 6 := IntWalk.i64_in _ (by omega)
  have FIN : Hid (FrPost p a len cap w (.returned (.agg #[.int .i64 1, .int .i64 x, .int .i64 y, .int .i64 (z - 6)])) ((((w3.setCell ⟨w.heap.size, 0, none⟩ (.int .i64 1)).setCell ⟨w.heap.size, 1, none⟩ (.int .i64 x)).setCell ⟨w.heap.size, 2, none⟩ (.int .i64 y)).setCell ⟨w.heap.size, 3, none⟩ (.int .i64 (z - 6)))) := Lib.hid (by
    have h1 := D3.out.lt
    refine ⟨1, x, y, z - 6, rfl, (((D3.out.cur.set_ h1 _).set_ h1 _).set_ h1 _).set_ h1 _, ?_⟩
    exact only_setF (only_setF (only_setF (only_setF D3.out.gr (.inr (Nat.le_refl _)) _) (.inr (Nat.le_refl _)) _) (.inr (Nat.le_refl _)) _) (.inr (Nat.le_refl _)) _)
  clear D0 D1 D2 D3
  go_wp2
  exact bodyPost_ret (v := (.agg #[.int .i64 1, .int .i64 x, .int .i64 y, .int .i64 (z - 6)])) (by simp [results, Try.results129, go_sem, c1]) rfl FIN.out
theorem size_any (a : Option Addr) (len cap m : Nat) (w : World) (hm : 0 < m) (hlen : len ≤ 1048576) : Calls Try.prog 127 #[.slice a len cap, .int .i64 (m : Int)] w fun e w' => ∃ n : Nat, e = .returned (.int .i64 (n : Int)) ∧ 0 < n ∧ n ≤ m ∧ w = w' := by
  have hq : (len : Int).tdiv 16 = ((len / 16 : Nat) : Int) := by rw [Int.tdiv_eq_ediv_of_nonneg (by omega)]; omega
  have hw : IntKind.i64.wrap ((len / 16 : Nat) : Int) = ((len / 16 : Nat) : Int) := IntWalk.i64_in _ (by omega)
  generalize hd : len / 16 = d at hq hw
  have hdb : d ≤ 1048576 := by omega
  have hw2 : IntKind.i64.wrap (2 + (d : Int)) = ((2 + d : Nat) : Int) := by rw [show (2 : Int) + (d : Int) = ((2 + d : Nat) : Int) by omega]; exact IntWalk.i64_in _ (by omega)
  by_cases hgt : m < 2 + d
  · have hgt' : (m : Int) < ((2 + d : Nat) : Int) := by omega
    have hgt2 : (m : Int) < 2 + (d : Int) := by omega
    clear hd
    go_enter Try.func127, Try.ntmps127
    go_wp2
    go_ret
    exact ⟨m, rfl, hm, Nat.le_refl _, rfl⟩
  · have hgt' : ¬ (m : Int) < ((2 + d : Nat) : Int) := by omega
    have hgt2 : ¬ (m : Int) < 2 + (d : Int) := by omega
    clear hd
    go_enter Try.func127, Try.ntmps127
    go_wp2
    go_ret
    exact ⟨2 + d, by simp [go_sem], by omega, by omega, rfl⟩
theorem appendQ_g {w : World} {lo n c : Nat} {a1 : Option Addr} {l : List Fm} (S : Fm) (ho : w.ownsRow lo 66 4 (.slice a1 n c) n (flatQ l)) (hlo : lo ≤ w.heap.size) (hb : n ≤ 2097152) (ty : TypeId) :
    ∃ a3 c3 w', (Builtin.append_ #[47, 47] ty #[.slice a1 n c, .slice (some ⟨w.heap.size, 0, none⟩) 1 1]).run Try.prog (w.alloc (.cells #[.int .i64 S.k, .int .i64 S.y, .int .i64 S.t, .int .i64 S.v] 66)) = .ok (.slice a3 (n + 1) c3) w' ∧
      w'.ownsRow lo 66 4 (.slice a3 (n + 1) c3) (n + 1) (flatQ (l ++ [S])) ∧ Below lo w w' ∧ w.grownBy w' (Value.slice a1 n c).ownBlock := by
  obtain ⟨i0, hi0, hz0, hz1, hz2⟩ := info_partsQ infoFrame
  obtain ⟨v', w', hr, h2, h3, _⟩ := run_append_own (P := Try.prog) (w.alloc (.cells (qC S).toArray 66)) lo 47 ty 66 i0 (.agg #[.int .i64 0, .int .i64 0, .int .i64 0, .int .i64 0]) 4 32 Try.underlying47 hi0 hz0 hz1 hz2 rfl (by decide) _ n _ (ho.alloc _) ⟨w.heap.size, 0, none⟩ 1 1 (qC S) rfl (newsQ rfl) (qC_ones S) (by unfold maxLen; omega) (by omega) (by simp; omega)
  obtain ⟨a3, c3, rfl⟩ := ownsR_shape h2
  refine ⟨a3, c3, w', hr, ?_, ((Below.refl lo w).alloc hlo _).trans (below_own (ho.alloc _) h3 (by simp; omega)), grown_trans (World.grownBy_alloc w _ _) h3⟩
  rw [flatQ_append]
  simpa [flatQ, flatR] using h2
/-- A draw of frames under way: the cursor, and the frames so far. -/
structure DQ (p : Nat) (a : Option Addr) (len cap : Nat) (l : List Fm) (la : Option Addr) (lc : Nat) (w W : World) : Prop where
  cur : Cur W p a len cap
  own : W.ownsRow w.heap.size 66 4 (.slice la l.length lc) l.length (flatQ l)
  gr : w.grownBy W (some p)
  lt : p < w.heap.size
section
variable {p : Nat} {a la : Option Addr} {len cap lc : Nat} {l : List Fm} {w W W' : World}
theorem DQ.draw (h : DQ p a len cap l la lc w W) (hc : Cur W' p a len cap) (hg : W.grownBy W' (some p)) : DQ p a len cap l la lc w W' :=
  ⟨hc, h.own.kept hg (by
    cases ho : (Value.slice la l.length lc).ownBlock with
    | none => exact .inl rfl
    | some g => right; intro e; injection e with e; have := (h.own.lt g ho).1; have := h.lt; omega),
   grown_trans h.gr hg, h.lt⟩
theorem DQ.alloc (h : DQ p a len cap l la lc w W) (o : Obj) : DQ p a len cap l la lc w (W.alloc o) :=
  ⟨h.cur.quiet (grown_alloc _ _ _), h.own.alloc o, grown_trans h.gr (World.grownBy_alloc W o _), h.lt⟩
theorem DQ.set (h : DQ p a len cap l la lc w W) {q : Nat} (hq : p < q) (hw : w.heap.size ≤ q) (hne : (Value.slice la l.length lc).ownBlock ≠ some q) (i : Nat) (v : Value) : DQ p a len cap l la lc w (W.setCell ⟨q, i, none⟩ v) :=
  ⟨h.cur.set_ hq v, h.own.kept (grown_setCell W q i v) (.inr hne), only_setF h.gr (.inr hw) v, h.lt⟩
end
def FmsNew (p : Nat) (a : Option Addr) (len cap : Nat) (w : World) (e : Ending) (w' : World) : Prop :=
  ∃ (l : List Fm) (la : Option Addr) (lc : Nat), e = .returned (.slice la l.length lc) ∧ l.length ≤ 301 ∧ DQ p a len cap l la lc w w'
set_option maxHeartbeats 8000000 in
set_option maxRecDepth 100000 in
theorem drawFrames_any (p : Nat) (a a2 : Option Addr) (len cap cap2 : Nat) (w : World) (hc : Cur w p a len cap) (hlen : len ≤ 1048576) : Calls Try.prog 99 #[.pointer (some ⟨p, 0, none⟩), .slice a2 len cap2] w (FmsNew p a len cap w) := by
  have hp := hc.lt
  have kr := Blk.new w 66 #[]
  have D0 : Hid (DQ p a len cap [] (some ⟨w.heap.size, 0, none⟩) 0 w (w.alloc (.cells #[] 66))) := Lib.hid ⟨hc.alloc_ _, ⟨rfl, .inr ⟨_, 0, #[], rfl, Nat.le_refl _, kr, Nat.le_refl _, by unfold maxLen; omega, rfl, rfl⟩⟩, World.grownBy_alloc w _ _, hp⟩
  clear hc kr
  go_enter Try.func99, Try.ntmps99
  go_wp2_with fail
  refine (size_any a2 len cap2 24 _ (by omega) hlen).mono ?_
  rintro e w' ⟨n, rfl, hn0, hn1, rfl⟩
  go_wp2_with fail
  refine (below_any p a len cap (n : Int) (by omega) (by omega) _ D0.out.cur).mono ?_
  rintro e w1 ⟨x, rfl, hx0, hx1, hc1, hg1⟩
  have D1 := Lib.hid (D0.out.draw hc1 hg1)
  clear hc1 hg1 D0
  go_upto_if 15 with (go_at_call 128; refine (once_any p a len cap 40 (by omega) (by omega) _ D1.out.cur).mono ?_; rintro e w2 ⟨b, rfl, hc1, hg1⟩)
  have D2 := Lib.hid (D1.out.draw hc1 hg1)
  clear hc1 hg1 D1
  go_cut [6] from 16 to 19 (fun v wx => ∃ m : Nat, v = .int .i64 (m : Int) ∧ m ≤ 301 ∧ DQ p a len cap [] (some ⟨w.heap.size, 0, none⟩) 0 w wx)
  case first =>
    cases b with
    | false =>
      go_wp2
      go_meet
      case rel => exact ⟨x.toNat, by congr 1; omega, by omega, D2.out⟩
    | true =>
      go_wp2_with fail
      refine (below_any p a len cap 2 (by omega) (by omega) _ D2.out.cur).mono ?_
      rintro e w3 ⟨y, rfl, hy0, hy1, hc1, hg1⟩
      have D3 := Lib.hid (D2.out.draw hc1 hg1)
      have wy : IntKind.i64.wrap (300 + y) = 300 + y := IntWalk.i64_in _ (by omega)
      clear hc1 hg1
      go_wp2
      go_meet
      case rel => exact ⟨(300 + y).toNat, by congr 1; omega, by omega, D3.out⟩
  case rest =>
    obtain ⟨m, rfl, hm, hd⟩ := hcut
    have D3 := Lib.hid hd
    clear hd D2
    go_wp2
    go_loopw [5, 7] (fun ls i wr => ∃ (l : List Fm) (la : Option Addr) (lc : Nat), l.length ≤ m ∧ i = .int .i64 (l.length : Int) ∧ ls = .slice la l.length lc ∧ DQ p a len cap l la lc w wr) (fun _ i _ => m - (intOf i).toNat)
    case atStart => exact ⟨[], some ⟨w.heap.size, 0, none⟩, 0, Nat.zero_le _, rfl, rfl, D3.out⟩
    case round =>
      obtain ⟨l, la, lc, hl, rfl, rfl, hd⟩ := hrel
      have D4 := Lib.hid hd
      clear hd D3
      by_cases hlt : l.length < m
      · have hlt' : (l.length : Int) < (m : Int) := by omega
        go_wp2_with fail
        refine (drawEvent_any p a len cap _ D4.out.cur).mono ?_
        rintro e w5 ⟨k, y, t, v, rfl, hc1, hg1⟩
        have D5 := Lib.hid (D4.out.draw hc1 hg1)
        clear hc1 hg1
        have hs5 := D5.out.gr.size
        have hlp := D5.out.lt
        have NE : Hid ((Value.slice la l.length lc).ownBlock ≠ some w5.heap.size) := Lib.hid (fun e9 => by
          have := (D5.out.own.lt _ e9).2
          omega)
        have K6 := Lib.hid (Blk.new w5 66 #[.int .i64 k, .int .i64 y, .int .i64 t, .int .i64 v])
        have D6 := Lib.hid (D5.out.alloc (.cells #[.int .i64 k, .int .i64 y, .int .i64 t, .int .i64 v] 66))
        clear D5 D4
        go_wp2_with fail
        refine (below_any p a len cap 120 (by omega) (by omega) _ D6.out.cur).mono ?_
        rintro e w6 ⟨z, rfl, hz0, hz1, hc1, hg1⟩
        have D7 := Lib.hid (D6.out.draw hc1 hg1)
        have K7 := Lib.hid (K6.out.grown hg1 (fun e => by injection e with e; omega))
        have D8 := Lib.hid (D7.out.set (show p < w5.heap.size by omega) hs5 NE.out 2 (.int .i64 z))
        have K8 : Hid (Blk (w6.setCell ⟨w5.heap.size, 2, none⟩ (.int .i64 z)) w5.heap.size 66 #[.int .i64 k, .int .i64 y, .int .i64 z, .int .i64 v]) := Lib.hid (by simpa using K7.out.put_ 2 (.int .i64 z))
        have q7 := K7.out.cell 2
        have f7 := K7.out.frozen
        simp only [List.getElem?_toArray, List.getElem?_cons_zero, List.getElem?_cons_succ] at q7
        clear hc1 hg1 D6 D7 K6
        go_upto_if 30 with (go_at_call 128; refine (once_any p a len cap 12 (by omega) (by omega) _ D8.out.cur).mono ?_; rintro e w8 ⟨b, rfl, hc1, hg1⟩)
        have D9 := Lib.hid (D8.out.draw hc1 hg1)
        have K9 := Lib.hid (K8.out.grown hg1 (fun e => by injection e with e; omega))
        clear hc1 hg1 D8 K8 K7 q7 f7
        go_cut [] from 31 to 33 (fun wx => ∃ k y t v : Int, DQ p a len cap l la lc w wx ∧ Blk wx w5.heap.size 66 #[.int .i64 k, .int .i64 y, .int .i64 t, .int .i64 v])
        case first =>
          cases b with
          | false =>
            go_wp2
            go_meet
            case rel => exact ⟨k, y, z, v, D9.out, K9.out⟩
          | true =>
            go_wp2_with fail
            refine (drawLoose_any p a len cap _ D9.out.cur).mono ?_
            rintro e w9 ⟨k2, y2, t2, v2, rfl, hc1, hg1⟩
            have D10 := Lib.hid (D9.out.draw hc1 hg1)
            have K10 := Lib.hid (K9.out.grown hg1 (fun e => by injection e with e; omega))
            have c10 := K10.out.cell
            have f10 := K10.out.frozen
            clear hc1 hg1 D9 K9
            have FIN : Hid (DQ p a len cap l la lc w ((((w9.setCell ⟨w5.heap.size, 0, none⟩ (.int .i64 k2)).setCell ⟨w5.heap.size, 1, none⟩ (.int .i64 y2)).setCell ⟨w5.heap.size, 2, none⟩ (.int .i64 t2)).setCell ⟨w5.heap.size, 3, none⟩ (.int .i64 v2)) ∧ Blk ((((w9.setCell ⟨w5.heap.size, 0, none⟩ (.int .i64 k2)).setCell ⟨w5.heap.size, 1, none⟩ (.int .i64 y2)).setCell ⟨w5.heap.size, 2, none⟩ (.int .i64 t2)).setCell ⟨w5.heap.size, 3, none⟩ (.int .i64 v2)) w5.heap.size 66 #[.int .i64 k2, .int .i64 y2, .int .i64 t2, .int .i64 v2]) := Lib.hid (by
              have hq : p < w5.heap.size := by omega
              refine ⟨(((D10.out.set hq hs5 NE.out 0 _).set hq hs5 NE.out 1 _).set hq hs5 NE.out 2 _).set hq hs5 NE.out 3 _, ?_⟩
              simpa using (((K10.out.put_ 0 (.int .i64 k2)).put_ 1 (.int .i64 y2)).put_ 2 (.int .i64 t2)).put_ 3 (.int .i64 v2))
            clear D10
            go_wp2
            go_meet
            case rel => exact ⟨k2, y2, t2, v2, FIN.out.1, FIN.out.2⟩
        case rest =>
          obtain ⟨k3, y3, t3, v3, hd, hk⟩ := hcut
          have D11 := Lib.hid hd
          have c11 := hk.cell
          have q0 := c11 0
          have q1 := c11 1
          have q2 := c11 2
          have q3 := c11 3
          simp only [List.getElem?_toArray, List.getElem?_cons_zero, List.getElem?_cons_succ] at q0 q1 q2 q3
          clear hd hk c11 D9 K9
          obtain ⟨a5, c5, w12, hr3, ho3, hb3, hg3⟩ := appendQ_g (l := l) ⟨k3, y3, t3, v3⟩ D11.out.own D11.out.gr.size (by omega) 47
          have D12 : Hid (DQ p a len cap (l ++ [⟨k3, y3, t3, v3⟩]) a5 c5 w w12) := Lib.hid ⟨D11.out.cur.belowF_ (hb3.mono (by omega)), by rw [List.length_append]; exact ho3, grown_own' D11.out.gr hg3 (fun g e => (D11.out.own.lt g e).1), D11.out.lt⟩
          simp only at hr3
          have R3 := Lib.hid hr3
          clear hr3 ho3 hb3 hg3 D11
          go_wp2_with (at_builtin; refine Lib.wpList_append_run _ rfl _ _ _ _ rfl _ _ rfl rfl _ _ R3.out ?_)
          go_roundw
          case rel => exact ⟨l ++ [⟨k3, y3, t3, v3⟩], a5, c5, by simp; omega, by simp, by simp, D12.out⟩
          case measure => simp [intOf]; omega
      · have hlt' : ¬ (l.length : Int) < (m : Int) := by omega
        have FIN : Hid (FmsNew p a len cap w (.returned (.slice la l.length lc)) wr) := Lib.hid ⟨l, la, lc, rfl, by omega, D4.out⟩
        go_wp2
        first | exact FIN.out | exact bodyPost_ret (v := .slice la l.length lc) (by simp [results, Try.results99, go_sem]) rfl FIN.out
/-- What DrawFoldSlides draws. -/
def FsDraw (w : World) (e : Ending) (w' : World) : Prop :=
  ∃ (l : List Fm) (la : Option Addr) (lc : Nat) (s h : Int), e = .returned (.tuple #[.slice la l.length lc, .int .i64 s, .int .i64 h]) ∧ l.length ≤ 301 ∧ (0 ≤ s ∧ s ≤ 10) ∧ (0 ≤ h ∧ h ≤ 20) ∧ Fms w' w'.heap.size la lc l ∧ Below w.heap.size w w'
set_option maxHeartbeats 8000000 in
set_option maxRecDepth 100000 in
theorem drawFs_any (a : Option Addr) (len cap : Nat) (w : World) (hb : Bytes w w.heap.size a len) : Calls Try.prog 54 #[.slice a len cap] w (FsDraw w) := by
  have HB := Lib.hid hb
  have hsm := hb.small
  clear hb
  go_enter Try.func54, Try.ntmps54
  go_wp2_with fail
  refine (new_any a len cap _ HB.out).mono ?_
  rintro e w1 ⟨p, hp, rfl, hc1, hg1⟩
  have C1 := Lib.hid hc1
  have B1 := Lib.hid (below_grown hg1)
  have hs1 := hg1.size
  clear hc1 hg1
  go_wp2_with fail
  refine (drawFrames_any p a a len cap cap _ C1.out (by omega)).mono ?_
  rintro e w2 ⟨l, la, lc, rfl, hl, hd⟩
  have D2 := Lib.hid hd
  have B2 := Lib.hid (B1.out.trans (below_grown_own hd.gr hp B1.out.size))
  clear hd C1
  go_wp2_with fail
  refine (pick_lit p a len cap [1, 5, 10, 10, 0] 5 _ 3 (by simp) (by simp) rfl rfl _ D2.out.cur).mono ?_
  rintro e w3 ⟨x, hx, rfl, hc1, hg1⟩
  have D3 := Lib.hid (D2.out.draw hc1 hg1)
  have B3 := Lib.hid (B2.out.trans (below_grown_own hg1 hp B2.out.size))
  have hxb : 0 ≤ el [1, 5, 10, 10, 0] x ∧ el [1, 5, 10, 10, 0] x ≤ 10 := (show ∀ i, i < 5 → 0 ≤ el [1, 5, 10, 10, 0] i ∧ el [1, 5, 10, 10, 0] i ≤ 10 by decide) x (by simpa using hx)
  generalize el [1, 5, 10, 10, 0] x = sz at hxb ⊢
  clear hc1 hg1 hx D2 B2 B1
  go_wp2_with fail
  refine (pick_lit p a len cap [1, 3, 5, 10, 20, 0] 6 _ 3 (by simp) (by simp) rfl rfl _ D3.out.cur).mono ?_
  rintro e w4 ⟨y, hy, rfl, hc1, hg1⟩
  have D4 := Lib.hid (D3.out.draw hc1 hg1)
  have B4 := Lib.hid (B3.out.trans (below_grown_own hg1 hp B3.out.size))
  have hyb : 0 ≤ el [1, 3, 5, 10, 20, 0] y ∧ el [1, 3, 5, 10, 20, 0] y ≤ 20 := (show ∀ i, i < 6 → 0 ≤ el [1, 3, 5, 10, 20, 0] i ∧ el [1, 3, 5, 10, 20, 0] i ≤ 20 by decide) y (by simpa using hy)
  generalize el [1, 3, 5, 10, 20, 0] y = hp_ at hyb ⊢
  have FIN : Hid (FsDraw w (.returned (.tuple #[.slice la l.length lc, .int .i64 sz, .int .i64 hp_])) w4) := Lib.hid ⟨l, la, lc, sz, hp_, rfl, hl, hxb, hyb, Fms.of_own D4.out.own, B4.out⟩
  clear hc1 hg1 hy D3 B3 D4 B4
  go_wp2
  exact bodyPost_ret (v := .tuple #[.slice la l.length lc, .int .i64 sz, .int .i64 hp_]) (by simp [results, Try.results54, go_sem]) rfl FIN.out
end Go.Proofs.Ytchbmnpajnlijaa

/- The argument of a law that draws, and the law's own look at its length. -/
namespace Go.Proofs.Ytchbmnpajnlijaa
open Go.ChangeShapes Go.WideShapes Go.ChangeAt Go.RowKit
set_option maxRecDepth 100000 in
/-- The argument of a law that draws. -/
theorem arg_code {H : Type} {enc : TypeId × Value → H} {W : World} {base : Nat} {v : Value} {d : DataW H} {p : List MemPlace} (hv : Value.okWide Try.prog W .any base 69 v)
    (h : DataW.Trod enc Try.prog W 0 (fun _ => true) true 69 v d p) : ∃ a n c, v = .slice a n c ∧ (n ≤ 1048576 → Bytes W W.heap.size a n) := by
  obtain ⟨a, n, c, rfl⟩ := okWide_slice Try.underlying69 hv
  exact ⟨a, n, c, rfl, bytes_of h⟩
set_option maxRecDepth 100000 in
theorem big_any (a : Option Addr) (len cap : Nat) (w : World) : Calls Try.prog 53 #[.slice a len cap] w fun e w' => e = .returned (.bool (decide ((1048576 : Int) < (len : Int)))) ∧ w = w' := by
  go_enter Try.func53, Try.ntmps53
  go_wp2
  go_ret
  exact ⟨rfl, rfl⟩
set_option maxRecDepth 100000 in
theorem within_x (a : Option Addr) (c hi : Nat) (xs : List Int) (k : Int) (w : World) (hr : Nums .i64 w hi a c xs) :
    Calls Try.prog 57 #[.slice a xs.length c, .int .i64 k] w fun e w' => e = .returned (.bool (xs.contains k)) ∧ Below w.heap.size w w' := by
  have m1 := hr.cap
  have m2 := hr.big
  have HR := Lib.hid hr
  clear hr
  have HNO : Hid ((∀ i, i < xs.length → ¬ el xs i = k) → xs.contains k = false) := Lib.hid (fun h => by
    rw [Bool.eq_false_iff]
    intro e
    obtain ⟨i, hi, he⟩ := List.getElem_of_mem (List.contains_iff_mem.1 e)
    exact h i hi (by simpa [el, List.getD, hi] using he))
  have HYES : Hid (∀ i, i < xs.length → el xs i = k → xs.contains k = true) := Lib.hid (fun i hi e => by
    rw [List.contains_iff_mem, ← e, show el xs i = xs[i] by simp [el, List.getD, hi]]
    exact List.getElem_mem hi)
  generalize xs.contains k = R at HNO HYES ⊢
  go_enter Try.func57, Try.ntmps57
  go_wp2
  go_loopw [5] (fun i wr => ∃ j : Nat, j ≤ xs.length ∧ i = .int .i64 (j : Int) ∧ (∀ q, q < j → ¬ el xs q = k) ∧ w = wr) (fun i _ => xs.length - (intOf i).toNat)
  case atStart => exact ⟨0, Nat.zero_le _, rfl, fun q hq => by omega, rfl⟩
  case round =>
    obtain ⟨j, hj, rfl, hq, rfl⟩ := hrel
    have HQ := Lib.hid hq
    clear hq
    by_cases hlt : j < xs.length
    · have hlt' : (j : Int) < (xs.length : Int) := by omega
      have hnn : 0 ≤ (j : Int) := by omega
      obtain ⟨b, off, rfl, hb, hcell⟩ := HR.out.lies.resolve_left (by intro h; rw [h] at hlt; simp at hlt)
      have p0 := hcell j hlt
      clear hcell
      by_cases he : el xs j = k
      · have HX := Lib.hid (HYES.out j hlt he)
        have heb : (el xs j == k) = true := by simp [he]
        generalize el xs j = y at p0 heb
        clear he
        go_wp2
        go_ret
        exact ⟨by rw [HX.out]; rfl, Below.refl _ _⟩
      · have heb : (el xs j == k) = false := beq_eq_false_iff_ne.2 he
        have HQ2 : Hid (∀ q, q < j + 1 → ¬ el xs q = k) := Lib.hid (fun q hq => by
          rcases Nat.lt_or_ge q j with h | h
          · exact HQ.out q h
          · obtain rfl : q = j := by omega
            exact he)
        generalize el xs j = y at p0 heb
        clear he
        go_wp2
        go_roundw
        case rel => exact ⟨j + 1, by omega, by go_num, HQ2.out, by trivial⟩
        case measure => simp [intOf]; omega
    · have hlt' : ¬ (j : Int) < (xs.length : Int) := by omega
      have HX := Lib.hid (HNO.out (fun i hi => HQ.out i (by omega)))
      go_wp2
      go_ret
      exact ⟨by rw [HX.out]; rfl, Below.refl _ _⟩
end Go.Proofs.Ytchbmnpajnlijaa

/- Plain: chapter 11, windows that slide: how many have a time, where they end, what their aggs count together. No program. -/
namespace Go.Proofs.Ytchbmnpajnlijaa
open Go.RowKit Stab
section
variable {t s h : Int}
theorem div_mul_le {a b : Int} (hb : 0 < b) : a / b * b ≤ a := by have h1 := Int.emod_add_mul_ediv a b; have h2 := Int.emod_nonneg a (b := b) (by omega); rw [Int.mul_comm]; omega
theorem lt_div_mul {a b : Int} (hb : 0 < b) : a < (a / b + 1) * b := by have h1 := Int.emod_add_mul_ediv a b; have h2 := Int.emod_lt_of_pos a hb; rw [Int.add_mul, Int.mul_comm (a / b)]; omega
theorem cover_le_size (k : slFine s h = true) : coverN s h ≤ s := by
  have b := slFine_bd k
  rw [coverN_yes k]
  refine Int.ediv_le_of_le_mul (by omega) ?_
  have m0 : 0 ≤ (s - 1) * (h - 1) := Int.mul_nonneg (by omega) (by omega)
  have e : (s - 1) * (h - 1) = s * h - s - h + 1 := by rw [Int.sub_mul, Int.mul_sub, Int.mul_sub]; omega
  omega
theorem num_cover (_kt : 0 ≤ t ∧ t ≤ 1000000) (k : slFine s h = true) : slNum t s h ≤ coverN s h := by
  have b := slFine_bd k
  have h0 : 0 < h := by omega
  rw [coverN_yes k]
  unfold slNum
  have e1 := div_mul_le (a := t) h0
  refine (Int.le_ediv_iff_mul_le h0).2 ?_
  by_cases hlt : t < s
  · rw [slFirst_lo hlt]
    have : (t / h - 0 + 1) * h = t / h * h + h := by rw [Int.sub_zero, Int.add_mul]; omega
    rw [this]
    omega
  · rw [slFirst_hi hlt]
    have e2 := lt_div_mul (a := t - s) h0
    have : (t / h - ((t - s) / h + 1) + 1) * h = t / h * h - ((t - s) / h + 1) * h + h := by rw [Int.add_mul, Int.sub_mul]; omega
    rw [this]
    omega
theorem sl_good (kt : 0 ≤ t ∧ t ≤ 1000000) (k : slFine s h = true) (hs : s ≤ 300) : slGood t s h = true := by
  have := num_cover kt k
  have := cover_le_size k
  exact slGood_yes (inB_yes kt.1 kt.2) k (by omega)
theorem sl_el (kt : 0 ≤ t ∧ t ≤ 1000000) (k : slFine s h = true) (hs : s ≤ 300) {j : Nat} (hj : j < (slidesL t s h).length) : el (slidesL t s h) j = slFirst t s h + (j : Int) := by
  have hg := sl_good kt k hs
  have e := slides_yes hg
  rw [slides_len hg] at hj
  rw [e]
  simp [el, List.getD, hj]
theorem sl_in (kt : 0 ≤ t ∧ t ≤ 1000000) (k : slFine s h = true) (hs : s ≤ 300) {q : Int} : q ∈ slidesL t s h ↔ slFirst t s h ≤ q ∧ q ≤ t / h := by
  have hg := sl_good kt k hs
  have nb := slNum_bd kt k
  rw [slides_yes hg, List.mem_map]
  have e : slNum t s h = t / h - slFirst t s h + 1 := rfl
  constructor
  · rintro ⟨j, hj, rfl⟩
    have := List.mem_range.1 hj
    omega
  · rintro ⟨h1, h2⟩
    exact ⟨(q - slFirst t s h).toNat, List.mem_range.2 (by omega), by omega⟩
theorem sl_bd (kt : 0 ≤ t ∧ t ≤ 1000000) (k : slFine s h = true) (hs : s ≤ 300) {q : Int} (hq : q ∈ slidesL t s h) : (0 ≤ q ∧ q ≤ 1000000) ∧ q * h ≤ t ∧ t ≤ q * h + s - 1 := by
  have b := slFine_bd k
  have h0 : 0 < h := by omega
  have bb := sl_bds kt k
  obtain ⟨h1, h2⟩ := (sl_in kt k hs).1 hq
  refine ⟨by omega, ?_, ?_⟩
  · have e1 := div_mul_le (a := t) h0
    have : q * h ≤ t / h * h := Int.mul_le_mul_of_nonneg_right h2 (by omega)
    omega
  · by_cases hlt : t < s
    · have : 0 ≤ q * h := Int.mul_nonneg (by omega) (by omega)
      omega
    · rw [slFirst_hi hlt] at h1
      have e2 := lt_div_mul (a := t - s) h0
      have : ((t - s) / h + 1) * h ≤ q * h := Int.mul_le_mul_of_nonneg_right h1 (by omega)
      omega
theorem sl_end (kt : 0 ≤ t ∧ t ≤ 1000000) (k : slFine s h = true) (hs : s ≤ 300) {q : Int} (hq : q ∈ slidesL t s h) : t ≤ slideEnd q s h := by
  have b := sl_bd kt k hs hq
  rw [slideEnd_yes (inB_yes b.1.1 b.1.2) k]
  omega
theorem sl_last (kt : 0 ≤ t ∧ t ≤ 1000000) (k : slFine s h = true) (hs : s ≤ 300) : decide (t ≤ slideEnd (t / h) s h) = (slidesL t s h).contains (t / h) := by
  have b := slFine_bd k
  have h0 : 0 < h := by omega
  have bb := sl_bds kt k
  rw [slideEnd_yes (inB_yes bb.1 bb.2.1) k]
  rw [Bool.eq_iff_iff, List.contains_iff_mem, sl_in kt k hs, decide_eq_true_eq]
  constructor
  · intro hh
    refine ⟨?_, Int.le_refl _⟩
    by_cases hlt : t < s
    · rw [slFirst_lo hlt]; omega
    · rw [slFirst_hi hlt]
      have : (t - s) / h < t / h := (Int.ediv_lt_iff_lt_mul h0).2 (by omega)
      omega
  · rintro ⟨hh, _⟩
    by_cases hlt : t < s
    · have : 0 ≤ t / h * h := Int.mul_nonneg (by omega) (by omega)
      omega
    · rw [slFirst_hi hlt] at hh
      have := (Int.ediv_lt_iff_lt_mul h0).1 (show (t - s) / h < t / h by omega)
      omega
theorem sl_prod (kt : 0 ≤ t ∧ t ≤ 1000000) (k : slFine s h = true) (hs : s ≤ 300) {j : Nat} (hj : j < (slidesL t s h).length) : 0 ≤ el (slidesL t s h) j * h ∧ el (slidesL t s h) j * h ≤ t ∧ t ≤ slideEnd (el (slidesL t s h) j) s h ∧ slideEnd (el (slidesL t s h) j) s h ≤ 2000000 := by
  have hm : el (slidesL t s h) j ∈ slidesL t s h := by
    have : el (slidesL t s h) j = (slidesL t s h)[j] := by simp [el, List.getD, hj]
    rw [this]
    exact List.getElem_mem hj
  have b := slFine_bd k
  have bd := sl_bd kt k hs hm
  refine ⟨Int.mul_nonneg bd.1.1 (by omega), bd.2.1, sl_end kt k hs hm, ?_⟩
  rw [slideEnd_yes (inB_yes bd.1.1 bd.1.2) k]
  omega
end
def cntS : List Ag → Int
  | [] => 0
  | x :: l => x.cnt + cntS l
theorem aggOk_cnt {x : Ag} (h : aggOk x = true) : 1 ≤ x.cnt ∧ x.cnt ≤ 1000000000 := by
  unfold aggOk at h
  simp only [Bool.and_eq_true] at h
  exact inB_bd h.1.1.1.1.2
theorem cntS_nn : ∀ {l : List Ag}, (∀ x, x ∈ l → aggOk x = true) → 0 ≤ cntS l
  | [], _ => Int.le_refl _
  | x :: l, h => by
    have := aggOk_cnt (h x (by simp))
    have := cntS_nn (l := l) (fun y hy => h y (by simp [hy]))
    show 0 ≤ x.cnt + cntS l
    omega
theorem aggOk_sumA {x a : Ag} (hx : aggOk x = true) (ha : aggOk a = true) (hc : a.cnt = 1) (hb : x.cnt < 1000000000) : aggOk (sumA x a) = true ∧ (sumA x a).cnt = x.cnt + 1 := by
  have cx := aggOk_cnt hx
  have e : capS (x.cnt + a.cnt) = x.cnt + 1 := by rw [hc]; exact capS_id (by omega) (by omega)
  refine ⟨?_, e⟩
  unfold aggOk at *
  simp only [Bool.and_eq_true, decide_eq_true_eq] at *
  obtain ⟨⟨⟨⟨⟨⟨x1, x2⟩, x3⟩, x4⟩, x5⟩, x6⟩, x7⟩ := hx
  obtain ⟨⟨⟨⟨⟨⟨a1, a2⟩, a3⟩, a4⟩, a5⟩, a6⟩, a7⟩ := ha
  have x5' := inB_bd x5; have x6' := inB_bd x6; have a5' := inB_bd a5; have a6' := inB_bd a6
  have c := capS_bd (x.sum + a.sum)
  refine ⟨⟨⟨⟨⟨⟨x1, x2⟩, ?_⟩, ?_⟩, ?_⟩, ?_⟩, ?_⟩
  · show inB (capS (x.cnt + a.cnt)) 1 1000000000 = true
    rw [e]; exact inB_yes (by omega) (by omega)
  · exact inB_yes c.1 c.2
  · show inB (minI x.mn a.mn) _ _ = true
    unfold minI; split <;> exact inB_yes (by omega) (by omega)
  · show inB (maxI x.mx a.mx) _ _ = true
    unfold maxI; split <;> exact inB_yes (by omega) (by omega)
  · show minI x.mn a.mn ≤ maxI x.mx a.mx
    unfold minI maxI; split <;> split <;> omega
theorem put_cnt {a : Ag} (ha : aggOk a = true) (hc : a.cnt = 1) : ∀ {l : List Ag}, (∀ x, x ∈ l → aggOk x = true) → cntS l < 1000000000 → cntS (putA l a) = cntS l + 1 ∧ ∀ x, x ∈ putA l a → aggOk x = true
  | [], _, _ => by
    refine ⟨?_, fun x hx => ?_⟩
    · show a.cnt + 0 = 0 + 1
      omega
    · have := List.mem_singleton.1 hx
      rw [this]; exact ha
  | y :: l, hl, hs => by
    have hy := hl y (by simp)
    have hl' : ∀ x, x ∈ l → aggOk x = true := fun x hx => hl x (by simp [hx])
    have n1 := cntS_nn hl'
    have cy := aggOk_cnt hy
    have hs' : y.cnt + cntS l < 1000000000 := hs
    unfold putA
    split
    · obtain ⟨q1, q2⟩ := aggOk_sumA hy ha hc (by omega)
      refine ⟨?_, fun x hx => ?_⟩
      · show (sumA y a).cnt + cntS l = y.cnt + cntS l + 1
        omega
      · rcases List.mem_cons.1 hx with rfl | hx
        · exact q1
        · exact hl' x hx
    · split
      · refine ⟨?_, fun x hx => ?_⟩
        · show a.cnt + (y.cnt + cntS l) = y.cnt + cntS l + 1
          omega
        · rcases List.mem_cons.1 hx with rfl | hx
          · exact ha
          · exact hl x hx
      · obtain ⟨q1, q2⟩ := put_cnt ha hc hl' (by omega)
        refine ⟨?_, fun x hx => ?_⟩
        · show y.cnt + cntS (putA l a) = y.cnt + cntS l + 1
          omega
        · rcases List.mem_cons.1 hx with rfl | hx
          · exact hy
          · exact q2 x hx
theorem foldP_cnt : ∀ (m l0 : List Ag), (∀ x, x ∈ l0 → aggOk x = true) → (∀ x, x ∈ m → aggOk x = true ∧ x.cnt = 1) → cntS l0 + (m.length : Int) ≤ 1000000000 → cntS (foldP l0 m) = cntS l0 + (m.length : Int) ∧ ∀ x, x ∈ foldP l0 m → aggOk x = true
  | [], l0, h, _, _ => ⟨by show cntS l0 = cntS l0 + 0; omega, h⟩
  | a :: m, l0, h, hm, hs => by
    rw [foldP_cons]
    have ha := hm a (by simp)
    simp only [List.length_cons] at hs ⊢
    obtain ⟨q1, q2⟩ := put_cnt ha.1 ha.2 h (by omega)
    obtain ⟨r1, r2⟩ := foldP_cnt m (putA l0 a) q2 (fun x hx => hm x (by simp [hx])) (by omega)
    exact ⟨by omega, r2⟩
theorem tot_from : ∀ (l : List Ag) (n : Int), (∀ x, x ∈ l → aggOk x = true) → 0 ≤ n → n + cntS l ≤ 1000000000 → l.foldl (fun n S => if aggOk S = true then capS (n + S.cnt) else n) n = n + cntS l
  | [], n, _, _, _ => by show n = n + 0; omega
  | x :: l, n, h, h0, hs => by
    have hx := h x (by simp)
    have cx := aggOk_cnt hx
    have nn := cntS_nn (l := l) (fun y hy => h y (by simp [hy]))
    have hs' : n + (x.cnt + cntS l) ≤ 1000000000 := hs
    rw [List.foldl_cons, if_pos hx, capS_id (by omega) (by omega), tot_from l _ (fun y hy => h y (by simp [hy])) (by omega) (by omega)]
    show n + x.cnt + cntS l = n + (x.cnt + cntS l)
    omega
theorem totA_cnt {l : List Ag} (h : ∀ x, x ∈ l → aggOk x = true) (hs : cntS l ≤ 1000000000) : totA l = cntS l := by
  unfold totA
  rw [tot_from l 0 h (Int.le_refl _) (by omega)]
  omega
section
variable {s h : Int} {L : List Fm}
theorem fsIn_agg (k : slFine s h = true) (hs : s ≤ 300) (j : Nat) : ∀ x, x ∈ fsIn s h L j → aggOk x = true ∧ x.cnt = 1 := fun x hx => by
  unfold fsIn aggsW at hx
  obtain ⟨F, hF, hx⟩ := List.mem_flatMap.1 hx
  obtain ⟨q, hq, rfl⟩ := List.mem_map.1 hx
  have he := evQ_bd (List.mem_filter.1 hF).2
  have hb := sl_bd he.2.1 k hs hq
  refine ⟨?_, rfl⟩
  unfold aggOk aggW
  simp only [Bool.and_eq_true, decide_eq_true_eq]
  exact ⟨⟨⟨⟨⟨⟨inB_yes hb.1.1 hb.1.2, inB_yes he.1.1 he.1.2⟩, by decide⟩, inB_yes (by omega) (by omega)⟩, inB_yes he.2.2.1 he.2.2.2⟩, inB_yes he.2.2.1 he.2.2.2⟩, Int.le_refl _⟩
theorem few_all (k : slFine s h = true) (hs : s ≤ 300) : fewTo s h L L.length := fun i _ he hb => by
  have e := evQ_bd he
  have := num_cover e.2.1 k
  have := cover_le_size k
  omega
/-- All together they count the windows of all events. -/
theorem fs_total (k : slFine s h = true) (hs : s ≤ 300) (hl : L.length ≤ 300) : totA (fsL L s h) = ((fsIn s h L L.length).length : Int) := by
  rw [fsL_yes k hl (few_all k hs)]
  have hlen := fsIn_len (s := s) (h := h) (L := L) L.length (Nat.le_refl _)
  obtain ⟨q1, q2⟩ := foldP_cnt (fsIn s h L L.length) [] (fun x hx => by cases hx) (fsIn_agg k hs _) (by show 0 + ((fsIn s h L L.length).length : Int) ≤ _; omega)
  have z : cntS [] = 0 := rfl
  rw [totA_cnt q2 (by rw [q1, z]; omega), q1, z]
  omega
theorem fsIn_more {k : Nat} (hk : k < L.length) (he : evQ (qel L k) = true) : (fsIn s h L (k + 1)).length = (fsIn s h L k).length + (slidesL (qel L k).t s h).length := by
  rw [fsIn_yes hk he, List.length_append]
  unfold aggsW
  rw [List.length_map]
end
end Go.Proofs.Ytchbmnpajnlijaa

/- Where a call returns alone, nobody is left behind: the row that says 'leaving'. No program. -/
namespace Go.Proofs.Ytchbmnpajnlijaa
open Go
theorem leaving_at {P : Program} {last : Machine} {w : World} {t : Trace} (h : aloneAtReturn P last w t) : leavingAtReturn P last w t := by
  obtain ⟨⟨h1, h2⟩, h3, h4⟩ := h
  refine ⟨h3, ⟨fun g hg => ?_, h2⟩, h4⟩
  have : g.status = .finished := by
    unfold Machine.othersDone at h1
    have := List.all_eq_true.1 h1 g hg
    simpa using this
  exact ⟨0, this⟩
theorem leaving_of_handed {a : Assume} {C : Checked} {os : Os} {f : FuncId} {r : Reach} {Pre : World → Array Value → Prop} {Post : World → Array Value → Value → World → Prop}
    (h : ReturnsInHanded a C os f r Pre Post) : ReturnsInLeavingWide a C os f r Pre Post := fun enter =>
  ReturnsInOpen.mono (fun _ _ _ x => leaving_at x) (fun _ x => x) (h enter)
end Go.Proofs.Ytchbmnpajnlijaa

/- What the laws' walks import beside the contracts. -/
namespace Go.Proofs.Ytchbmnpajnlijaa
open Go.RowKit
theorem size_drew_ (w : World) : w.drew.heap.size = w.heap.size := rfl
end Go.Proofs.Ytchbmnpajnlijaa
