/- Contracts of chapter 3's rings: when they are one, copies, on impl's and on spec's side. -/
import Derived.Test.YtkconbmgljmpfaaRingS
import Derived.Test.YtkconbmgljmpfaaPlainRing
import Derived.Test.YtkconbmgljmpfaaHeld
import Derived.LaidEql
import Derived.WalkSpells
import Derived.Lib.LazyBuf
namespace Go.Proofs.Ytkconbmgljmpfaa
open Go.RowKit

theorem within_any (x a b : Int) (w : World) : Calls Try.prog 62 #[.int .i64 x, .int .i64 a, .int .i64 b] w fun e w' => e = .returned (.bool (inB x a b)) ∧ w = w' := by
  by_cases h1 : a ≤ x
  · by_cases h2 : x ≤ b
    · rw [inB_yes h1 h2]
      go_enter Try.func62, Try.ntmps62
      go_wp2
      go_ret
      exact ⟨rfl, rfl⟩
    · rw [inB_no (by omega)]
      go_enter Try.func62, Try.ntmps62
      go_wp2
      go_ret
      exact ⟨rfl, rfl⟩
  · rw [inB_no (by omega)]
    go_enter Try.func62, Try.ntmps62
    go_wp2
    go_ret
    exact ⟨rfl, rfl⟩
theorem isCap_any (n : Int) (w : World) : Calls Try.prog 44 #[.int .i64 n] w fun e w' => e = .returned (.bool (inB n 1 20)) ∧ w = w' := by
  go_enter Try.func44, Try.ntmps44
  go_wp2_with fail
  refine (within_any _ _ _ _).mono ?_
  rintro e w' ⟨rfl, rfl⟩
  go_wp2
  go_ret
  exact ⟨rfl, rfl⟩

theorem nums_one (k : IntKind) (xs : List Int) : ∀ u ∈ xs.map (Value.int k), u.oneCell' = true := by
  intro u hu
  simp only [List.mem_map] at hu
  obtain ⟨x, _, rfl⟩ := hu
  rfl
/-- The cells of a slice that is not nil, by an address. -/
theorem Nums.cells {k : IntKind} {w : World} {hi : Nat} {ad : Addr} {c : Nat} {xs : List Int} (h : Nums k w hi (some ad) c xs) : ∀ j u, (xs.map (Value.int k))[j]? = some u → w.cell? (ad.add j) = some u := by
  intro j u hj
  have hl : j < xs.length := by
    have := (List.getElem?_eq_some_iff.1 hj).1
    simpa using this
  rcases h.lies with h0 | ⟨b, off, ha, hlt, hc⟩
  · subst h0; simp at hl
  · injection ha with ha
    subst ha
    have e : (⟨b, off, none⟩ : Addr).add j = ⟨b, off + j, none⟩ := by
      by_cases h0 : j = 0
      · subst h0; rfl
      · simp [Addr.add, h0]
    rw [e, hc j hl, ← hj, el_cell _ _ _ hl]
theorem info_partsI (h : (Try.prog.info? 3).map (fun i => (i.zero, i.size, i.bytes)) = some (some (.int .i64 0), 1, 8)) : ∃ i0, Try.prog.info? 3 = some i0 ∧ i0.zero = some (.int .i64 0) ∧ i0.size = 1 ∧ i0.bytes = 8 := by
  cases hi : Try.prog.info? 3 with
  | none => rw [hi] at h; cases h
  | some i => rw [hi] at h; simp at h; exact ⟨i, rfl, h.1, h.2.1, h.2.2⟩

set_option maxRecDepth 100000 in
set_option maxHeartbeats 1000000 in
theorem cloneI_any (a : Option Addr) (n c : Nat) (xs : List Int) (hi : Nat) (w : World) (hr : Nums .i64 w hi a c xs) (hn : n = xs.length) (hB : hi ≤ w.heap.size) (hlen : xs.length ≤ 1048576) :
    Calls Try.prog 67 #[.slice a n c] w (FreshNums 3 .i64 xs w) := by
  subst hn
  obtain ⟨i0, hi0, hz0, hz1, hz2⟩ := info_partsI infoI64
  have q := fun (w : World) (a : Option Addr) (n c n' c' : Nat) => Lib.run_eql_slice_nil (P := Try.prog) w 24 3 a n c n' c' Try.underlying24
  cases a with
  | none =>
    have h0 : xs = [] := by
      rcases hr.lies with h | ⟨_, _, h, _⟩
      · exact h
      · cases h
    subst h0
    have HP : Hid (FreshNums 3 .i64 [] w (.returned (.slice none 0 0)) w) := ⟨none, 0, rfl, World.ownsRow_nil _ _ _ _, Below.refl _ _⟩
    clear hr
    go_enter Try.func67, Try.ntmps67
    go_wp2
    go_ret
    exact HP.out
  | some ad =>
    have HR := Lib.hid (hr.below ((Below.refl hi w).alloc hB (.cells #[] 3)))
    clear hr
    go_enter Try.func67, Try.ntmps67
    go_wp2_with (at_builtin; refine wpList_append_own _ rfl _ _ 24 rfl w.heap.size 3 i0 (.int .i64 0) 1 8 Try.underlying24 hi0 hz0 hz1 hz2 rfl (by decide) _ _ _ rfl (World.ownsRow_made w #[] 0 (Nat.le_refl _) (Nat.zero_le _) rfl) ad xs.length c (xs.map (Value.int .i64)) rfl (by simp) HR.out.cells (nums_one _ _) ?c3 ?c4 ?c5 ?_)
    case c3 => unfold maxLen; omega
    case c4 => omega
    case c5 => simp
    intro v' w1 hown' hg _
    obtain ⟨a2, c2, rfl⟩ := owns_shape hown'
    have HP : Hid (FreshNums 3 .i64 xs w (.returned (.slice a2 xs.length c2)) w1) := by
      refine ⟨a2, c2, rfl, by simpa using hown', ((Below.refl w.heap.size w).alloc (Nat.le_refl _) (.cells #[] 3)).trans (below_own (World.ownsRow_made (e := 3) (size := 1) w #[] 0 (Nat.le_refl _) (Nat.zero_le _) rfl) hg (by simp))⟩
    have e : 0 + xs.length = xs.length := by omega
    clear hown' hg
    go_wp2
    go_ret
    exact fresh_as HP.out (by simp)

theorem one_i64 (x : Int) : ∀ u ∈ [Value.int .i64 x], u.oneCell' = true := by intro u hu; simp at hu; subst hu; rfl
theorem cell_one_newI (w : World) (T : TypeId) (x : Value) : ∀ j u, [x][j]? = some u → (w.alloc (.cells #[x] T)).cell? ((⟨w.heap.size, 0, none⟩ : Addr).add j) = some u := by
  intro j u hj
  obtain rfl : j = 0 := by
    have := (List.getElem?_eq_some_iff.1 hj).1
    simp at this; exact this
  simp only [List.getElem?_cons_zero, Option.some.injEq] at hj
  subst hj
  simp [Addr.add]

set_option maxHeartbeats 1000000 in
theorem specCopyI_any (a : Option Addr) (n c : Nat) (xs : List Int) (hi : Nat) (w : World) (hr : Nums .i64 w hi a c xs) (hn : n = xs.length) (hB : hi ≤ w.heap.size) (hlen : xs.length ≤ 1048576) :
    Calls Try.prog 69 #[.slice a n c] w (FreshNums 3 .i64 xs w) := by
  subst hn
  obtain ⟨i0, hi0, hz0, hz1, hz2⟩ := info_partsI infoI64
  have hc1 := hr.cap
  have hc2 := hr.big
  have HR := Lib.hid hr
  clear hr
  go_enter Try.func69, Try.ntmps69
  go_wp2
  go_loopw [3, 4] (fun v i wr => ∃ (k : Nat) (a' : Option Addr) (c' : Nat), k ≤ xs.length ∧ i = .int .i64 k ∧ v = .slice a' k c' ∧ wr.ownsRow w.heap.size 3 1 (.slice a' k c') k ((xs.take k).map (Value.int .i64)) ∧ Below w.heap.size w wr)
    (fun _ i _ => xs.length - (intOf i).toNat)
  case atStart => exact ⟨0, _, _, Nat.zero_le _, rfl, rfl, World.ownsRow_made w #[] 0 (Nat.le_refl _) (by unfold maxLen; omega) (by simp), (Below.refl _ _).alloc (Nat.le_refl _) _⟩
  case round =>
    obtain ⟨k, a', c', hk, rfl, rfl, hown, hb⟩ := hrel
    have hsz := hb.size
    by_cases hlt : k < xs.length
    · obtain ⟨b, off, rfl, hbh, hcell⟩ := HR.out.lies.resolve_left (by intro h; subst h; simp at hlt)
      have hck := (hb.cell (p := ⟨b, off + k, none⟩) (show b < w.heap.size by omega)).trans (hcell k hlt)
      have HT := Lib.hid (el_take xs k hlt)
      clear hcell
      have HB := Lib.hid hb
      clear hb
      go_wp2_with (at_builtin; refine wpList_append_own _ rfl _ _ 24 rfl w.heap.size 3 i0 (.int .i64 0) 1 8 Try.underlying24 hi0 hz0 hz1 hz2 rfl (by decide) _ _ _ rfl (hown.alloc _) ⟨wr.heap.size, 0, none⟩ 1 1 [.int .i64 (el xs k)] rfl rfl (cell_one_newI _ _ _) (one_i64 _) ?c3 ?c4 ?c5 ?_)
      case c3 => unfold maxLen; omega
      case c4 => omega
      case c5 => simp; omega
      intro v' w1 hown' hg _
      obtain ⟨a2, c2, rfl⟩ := owns_shape hown'
      have hb2 := (HB.out.alloc hsz _).trans (below_own (hown.alloc _) hg (by simp; omega))
      have hown2 : w1.ownsRow w.heap.size 3 1 (.slice a2 (k + 1) c2) (k + 1) ((xs.take (k + 1)).map (Value.int .i64)) := by rw [HT.out]; simpa using hown'
      have HO := Lib.hid hown2
      clear hown2
      have HB2 := Lib.hid hb2
      clear hown' hb2 hg hown
      go_wp2
      go_roundw
      case rel => exact ⟨k + 1, _, _, by omega, by go_num, by rfl, HO.out, HB2.out⟩
      case measure => simp [intOf]; omega
    · obtain rfl : k = xs.length := by omega
      have HP : Hid (FreshNums 3 .i64 xs w (.returned (.slice a' xs.length c')) wr) := ⟨_, _, rfl, by rw [List.take_length] at hown; exact hown, hb⟩
      clear hown hb
      go_wp2
      go_ret
      exact HP.out

/-- A ring stored into the call's own result. -/
theorem ring_stored {T : TypeId} {xs : List Int} {a : Option Addr} {c lo g : Nat} {hd ct : Int} {w w1 : World} (ho : w1.ownsRow lo T 1 (.slice a xs.length c) xs.length (xs.map (Value.int .i64))) (hb : Below w.heap.size w w1) (hlo : w.heap.size ≤ g ∧ g < lo) :
    FreshRing T xs hd ct w (.returned (.agg #[.slice a xs.length c, .int .i64 hd, .int .i64 ct])) (((w1.setCell ⟨g, 0, none⟩ (.slice a xs.length c)).setCell ⟨g, 1, none⟩ (.int .i64 hd)).setCell ⟨g, 2, none⟩ (.int .i64 ct)) :=
  ⟨a, c, rfl, owns_less (ownsRow_setCell_below (ownsRow_setCell_below (ownsRow_setCell_below ho (show g < lo by omega) _) (show g < lo by omega) _) (show g < lo by omega) _) (by omega), ((hb.setCell (p := ⟨g, 0, none⟩) hlo.1 _).setCell (p := ⟨g, 1, none⟩) hlo.1 _).setCell (p := ⟨g, 2, none⟩) hlo.1 _⟩

set_option maxRecDepth 100000 in
set_option maxHeartbeats 1000000 in
theorem ringOf_any (a : Option Addr) (n c : Nat) (hd ct : Int) (xs : List Int) (hi : Nat) (w : World) (hr : Nums .i64 w hi a c xs) (hn : n = xs.length) (hB : hi ≤ w.heap.size) (hlen : xs.length ≤ 1048576) :
    Calls Try.prog 49 #[.agg #[.slice a n c, .int .i64 hd, .int .i64 ct]] w (FreshRing 3 xs hd ct w) := by
  subst hn
  have b1 := (Below.refl w.heap.size w).alloc (Nat.le_refl _) (.cells #[.slice a xs.length c, .int .i64 hd, .int .i64 ct] 28)
  have b2 := b1.alloc (by simp) (.cells #[.slice none 0 0, .int .i64 0, .int .i64 0] 64)
  have HN := Lib.hid (hr.below (b2.mono hB).drew)
  have K0 := Lib.hid ((Blk.new w 28 #[.slice a xs.length c, .int .i64 hd, .int .i64 ct]).alloc (.cells #[.slice none 0 0, .int .i64 0, .int .i64 0] 64))
  have K1 := Lib.hid (Blk.new (w.alloc (.cells #[.slice a xs.length c, .int .i64 hd, .int .i64 ct] 28)) 64 #[.slice none 0 0, .int .i64 0, .int .i64 0])
  have B2 := Lib.hid b2.drew
  clear hr b1 b2
  go_enter Try.func49, Try.ntmps49
  go_wp2_with fail
  go_region_with (go_at_call 67; refine (cloneI_any a _ c xs _ _ HN.out rfl (by simp; omega) hlen).mono ?_; rintro e w1 ⟨a1, c1, rfl, ho, hb⟩; have q0 := (K0.out.drew.below hb).cell; have q1 := (K1.out.drew.below hb).cell; have f1 := (K1.out.drew.below hb).frozen; simp only [World.size_alloc] at q1 f1; have HP := Lib.hid (ring_stored (g := w.heap.size + 1) (hd := hd) (ct := ct) ho (B2.out.trans (hb.mono (by simp; omega))) (by constructor <;> simp)); clear ho hb)
  all_goals
    go_wp2
    exact bodyPost_ret (v := .agg #[.slice a1 xs.length c1, .int .i64 hd, .int .i64 ct]) (by simp [results, Try.results49, go_sem, q1]) rfl HP.out
set_option maxRecDepth 100000 in
set_option maxHeartbeats 1000000 in
theorem l03Copy_any (a : Option Addr) (n c : Nat) (hd ct : Int) (xs : List Int) (hi : Nat) (w : World) (hr : Nums .i64 w hi a c xs) (hn : n = xs.length) (hB : hi ≤ w.heap.size) (hlen : xs.length ≤ 1048576) :
    Calls Try.prog 58 #[.agg #[.slice a n c, .int .i64 hd, .int .i64 ct]] w (FreshRing 3 xs hd ct w) := by
  subst hn
  have b1 := (Below.refl w.heap.size w).alloc (Nat.le_refl _) (.cells #[.slice a xs.length c, .int .i64 hd, .int .i64 ct] 28)
  have b2 := b1.alloc (by simp) (.cells #[.slice none 0 0, .int .i64 0, .int .i64 0] 28)
  have HN := Lib.hid (hr.below (b2.mono hB).drew)
  have K0 := Lib.hid ((Blk.new w 28 #[.slice a xs.length c, .int .i64 hd, .int .i64 ct]).alloc (.cells #[.slice none 0 0, .int .i64 0, .int .i64 0] 28))
  have K1 := Lib.hid (Blk.new (w.alloc (.cells #[.slice a xs.length c, .int .i64 hd, .int .i64 ct] 28)) 28 #[.slice none 0 0, .int .i64 0, .int .i64 0])
  have B2 := Lib.hid b2.drew
  clear hr b1 b2
  go_enter Try.func58, Try.ntmps58
  go_wp2_with fail
  go_region_with (go_at_call 69; refine (specCopyI_any a _ c xs _ _ HN.out rfl (by simp; omega) hlen).mono ?_; rintro e w1 ⟨a1, c1, rfl, ho, hb⟩; have q0 := (K0.out.drew.below hb).cell; have q1 := (K1.out.drew.below hb).cell; have f1 := (K1.out.drew.below hb).frozen; simp only [World.size_alloc] at q1 f1; have HP := Lib.hid (ring_stored (g := w.heap.size + 1) (hd := hd) (ct := ct) ho (B2.out.trans (hb.mono (by simp; omega))) (by constructor <;> simp)); clear ho hb)
  all_goals
    go_wp2
    exact bodyPost_ret (v := .agg #[.slice a1 xs.length c1, .int .i64 hd, .int .i64 ct]) (by simp [results, Try.results58, go_sem, q1]) rfl HP.out
theorem ringFace_any (a : Option Addr) (n c : Nat) (hd ct : Int) (w : World) :
    Calls Try.prog 47 #[.agg #[.slice a n c, .int .i64 hd, .int .i64 ct]] w fun e w' => e = .returned (.agg #[.slice a n c, .int .i64 hd, .int .i64 ct]) ∧ Below w.heap.size w w' := by
  go_enter Try.func47, Try.ntmps47
  go_wp2
  exact bodyPost_ret (v := .agg #[.slice a n c, .int .i64 hd, .int .i64 ct]) (by simp [results, Try.results47, go_sem]) rfl ⟨rfl, ((Below.refl _ _).alloc (Nat.le_refl _) _).alloc (by simp) _⟩
theorem place_any (a : Option Addr) (n c : Nat) (ct : Int) (p i : Nat) (w : World) (h1 : 1 ≤ n) (h2 : n ≤ 20) (hp : p < n) (hi : i ≤ 20) :
    Calls Try.prog 68 #[.agg #[.slice a n c, .int .i64 (p : Int), .int .i64 ct], .int .i64 (i : Int)] w fun e w' => e = .returned (.int .i64 (((p + i) % n : Nat) : Int)) ∧ Below w.heap.size w w' := by
  have hm : (((p : Int) + (i : Int)) % (n : Int)) = (((p + i) % n : Nat) : Int) := by simp
  have hm0 : 0 ≤ ((p : Int) + (i : Int)) % (n : Int) := Int.emod_nonneg _ (by omega)
  have hm1 : ((p : Int) + (i : Int)) % (n : Int) < n := Int.emod_lt_of_pos _ (by omega)
  have HM := Lib.hid hm
  clear hm
  go_enter Try.func68, Try.ntmps68
  go_wp2
  go_ret
  exact ⟨ret_int HM.out, (Below.refl _ _).alloc (Nat.le_refl _) _⟩

end Go.Proofs.Ytkconbmgljmpfaa
