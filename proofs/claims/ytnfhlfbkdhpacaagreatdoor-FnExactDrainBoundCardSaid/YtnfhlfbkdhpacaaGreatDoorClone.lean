/- Contracts of bytes.Clone, slices.Grow and slices.Concat as chapter 2 uses them; of the copies of a decoder. -/
import Derived.Test.YtnfhlfbkdhpacaaGreatDoorJoint1
import Derived.LaidEql
import Derived.WalkSpells
import Derived.Lib.LazyBuf
import Derived.Lib.AppendZeros
namespace Go.Proofs.YtnfhlfbkdhpacaaGreatDoor
open Go.RowKit

theorem nums_one (k : IntKind) (xs : List Int) : ∀ u ∈ xs.map (Value.int k), u.oneCell' = true := by
  intro u hu
  simp only [List.mem_map] at hu
  obtain ⟨x, _, rfl⟩ := hu
  rfl
/-- The cells of a slice that is not nil, by an address. -/
theorem Nums.cells {k : IntKind} {w : World} {hi : Nat} {ad : Addr} {c : Nat} {xs : List Int} (h : Nums k w hi (some ad) c xs) : ∀ j u, (xs.map (Value.int k))[j]? = some u → w.cell? (ad.add j) = some u := by
  intro j u hj
  have hl : j < xs.length := by
    have := (List.getElem?_eq_some_iff.1 hj).1
    simpa using this
  rcases h.lies with h0 | ⟨b, off, ha, hlt, hc⟩
  · subst h0; simp at hl
  · injection ha with ha
    subst ha
    have e : (⟨b, off, none⟩ : Addr).add j = ⟨b, off + j, none⟩ := by
      by_cases h0 : j = 0
      · subst h0; rfl
      · simp [Addr.add, h0]
    rw [e, hc j hl, ← hj, el_cell _ _ _ hl]

set_option maxRecDepth 100000 in
set_option maxHeartbeats 1000000 in
theorem clone_any (a : Option Addr) (n c : Nat) (xs : List Int) (hi : Nat) (w : World) (hr : Nums .u8 w hi a c xs) (hn : n = xs.length) (hB : hi ≤ w.heap.size) (hlen : xs.length ≤ 4194304) :
    Calls Tryz.prog 109 #[.slice a n c] w (FreshNums 5 .u8 xs w) := by
  subst hn
  obtain ⟨i0, hi0, hz0, hz1, hz2⟩ := info_parts infoU8
  have q := fun (w : World) (a : Option Addr) (n c n' c' : Nat) => Lib.run_eql_slice_nil (P := Tryz.prog) w 60 5 a n c n' c' Tryz.underlying60
  cases a with
  | none =>
    have h0 : xs = [] := by
      rcases hr.lies with h | ⟨_, _, h, _⟩
      · exact h
      · cases h
    subst h0
    have HP : Hid (FreshNums 5 .u8 [] w (.returned (.slice none 0 0)) w) := ⟨none, 0, rfl, World.ownsRow_nil _ _ _ _, Below.refl _ _⟩
    clear hr
    go_enter Tryz.func109, Tryz.ntmps109
    go_wp2
    go_ret
    exact HP.out
  | some ad =>
    have HR := Lib.hid (hr.below ((Below.refl hi w).alloc hB (.cells #[] 5)))
    clear hr
    go_enter Tryz.func109, Tryz.ntmps109
    go_wp2_with (at_builtin; refine wpList_append_own _ rfl _ _ 60 rfl w.heap.size 5 i0 (.int .u8 0) 1 1 Tryz.underlying60 hi0 hz0 hz1 hz2 rfl (by decide) _ _ _ rfl (World.ownsRow_made w #[] 0 (Nat.le_refl _) (Nat.zero_le _) rfl) ad xs.length c (xs.map (Value.int .u8)) rfl (by simp) HR.out.cells (nums_one _ _) ?c3 ?c4 ?c5 ?_)
    case c3 => unfold maxLen; omega
    case c4 => omega
    case c5 => simp
    intro v' w1 hown' hg _
    obtain ⟨a2, c2, rfl⟩ := owns_shape hown'
    have HP : Hid (FreshNums 5 .u8 xs w (.returned (.slice a2 xs.length c2)) w1) := by
      refine ⟨a2, c2, rfl, by simpa using hown', ((Below.refl w.heap.size w).alloc (Nat.le_refl _) (.cells #[] 5)).trans (below_own (World.ownsRow_made (e := 5) (size := 1) w #[] 0 (Nat.le_refl _) (Nat.zero_le _) rfl) hg (by simp))⟩
    have e : 0 + xs.length = xs.length := by omega
    clear hown' hg
    go_wp2
    go_ret
    exact fresh_as HP.out (by simp)

/-- Grow of nil: nil where nothing is asked, else an empty row of the call's own. -/
def GrowPost (w : World) (e : Ending) (w' : World) : Prop :=
  ∃ a c, e = .returned (.slice a 0 c) ∧ w'.ownsRow w.heap.size 5 1 (.slice a 0 c) 0 [] ∧ Below w.heap.size w w'
set_option maxRecDepth 100000 in
set_option maxHeartbeats 1000000 in
theorem grow_nil (n : Nat) (hn : n ≤ 4194304) (w : World) :
    Calls Tryz.prog 296 #[.slice none 0 0, .int .i64 (n : Int)] w (GrowPost w) := by
  by_cases h0 : n = 0
  · subst h0
    have HP : Hid (GrowPost w (.returned (.slice none 0 0)) w) := ⟨none, 0, rfl, World.ownsRow_nil _ _ _ _, Below.refl _ _⟩
    go_enter Tryz.func296, Tryz.ntmps296
    go_wp2
    go_ret
    exact HP.out
  · obtain ⟨i0, hi0, hz0, hz1, hz2⟩ := info_parts infoU8
    have hpos : 0 < n := by omega
    have hrz := fun ty => Lib.run_append_nil_zeros (P := Tryz.prog) w 60 3 ty 5 i0 (.int .u8 0) .i64 .i64 Tryz.underlying60 Tryz.underlying3 hi0 hz0 n hpos (by omega) (by omega) (by rw [hz2]; omega)
    have hge := grownCap_ge w n 0 5
    have hle := grownCap_le_maxLen w n 0 5 (by unfold maxLen; omega)
    generalize grownCap w n 0 5 = G at hrz hge hle
    unfold maxLen at hle
    generalize hZ : Builtin.zeroCells (Value.int IntKind.u8 0).cells n ++ Builtin.zeroCells (Value.int IntKind.u8 0).cells (G - n) = Z at hrz
    have hZs : Z.size = G * 1 := by rw [← hZ]; simp [size_zeroCells, Value.cells]; omega
    have HP : Hid (GrowPost w (.returned (.slice (some ⟨w.heap.size, 0, none⟩) 0 G)) (w.drew.alloc (.cells Z 5))) :=
      ⟨_, _, rfl, World.ownsRow_made w.drew Z G (Nat.le_refl _) (by unfold maxLen; omega) hZs, (Below.refl w.heap.size w).drew.alloc (Nat.le_refl _) _⟩
    clear hZ hZs hz0 hz1 hz2 hi0
    go_enter Tryz.func296, Tryz.ntmps296
    go_wp2_with (at_builtin; refine Lib.wpList_append_run _ rfl _ _ _ _ rfl _ _ rfl rfl _ _ (hrz _) ?_)
    go_ret
    exact HP.out

theorem grow_call (n : Nat) (hn : n ≤ 4194304) (w : World) {M : Int} (hM : M = (n : Int)) : Calls Tryz.prog 296 #[.slice none 0 0, .int .i64 M] w (GrowPost w) := by subst hM; exact grow_nil n hn w
theorem append_src {w : World} {lo hi : Nat} {a1 a2 : Option Addr} {n c m d : Nat} {xs ys : List Int} (i0 : TypeInfo) (hi0 : Tryz.prog.info? 5 = some i0) (hz0 : i0.zero = some (.int .u8 0)) (hz1 : i0.size = 1) (hz2 : i0.bytes = 1)
    (ho : w.ownsRow lo 5 1 (.slice a1 n c) n (xs.map (Value.int .u8))) (hs : Nums .u8 w hi a2 d ys) (hm : m = ys.length) (hlo : lo ≤ w.heap.size) (hb : n + m ≤ 8388608) (ty : TypeId) :
    ∃ a3 c3 w', (Builtin.append_ #[60, 60] ty #[.slice a1 n c, .slice a2 m d]).run Tryz.prog w = .ok (.slice a3 (n + m) c3) w' ∧ w'.ownsRow lo 5 1 (.slice a3 (n + m) c3) (n + m) ((xs ++ ys).map (Value.int .u8)) ∧ Below lo w w' := by
  subst hm
  cases a2 with
  | none =>
    have h0 : ys = [] := by
      rcases hs.lies with h | ⟨_, _, h, _⟩
      · exact h
      · cases h
    subst h0
    refine ⟨a1, c, w, ?_, by simpa using ho, Below.refl _ _⟩
    rcases ho.2 with ⟨hv, h0⟩ | ⟨g, cap, cur, hv, _, _, hnc, _⟩
    · simp only [Value.slice.injEq] at hv
      obtain ⟨rfl, _, rfl⟩ := hv
      subst h0
      simp [Builtin.append_, run_underlying Tryz.underlying60, sizeOf, typeInfo, hi0, Builtin.lenOf, Builtin.firstCells]
    · simp only [Value.slice.injEq, true_and] at hv
      obtain ⟨rfl, rfl⟩ := hv
      simp [Builtin.append_, run_underlying Tryz.underlying60, sizeOf, typeInfo, hi0, Builtin.lenOf, Builtin.firstCells, hnc, storeCells]
  | some ad =>
    obtain ⟨v', w', hr, h2, h3, _⟩ := run_append_own (P := Tryz.prog) w lo 60 ty 5 i0 (.int .u8 0) 1 1 Tryz.underlying60 hi0 hz0 hz1 hz2 rfl (by decide) _ n _ ho ad ys.length d (ys.map (Value.int .u8)) (by simp) hs.cells (nums_one _ _) (by unfold maxLen; omega) (by omega) hlo
    obtain ⟨a3, c3, rfl⟩ := owns_shape h2
    exact ⟨a3, c3, w', hr, by rw [List.map_append]; exact h2, below_own ho h3 hlo⟩

set_option maxRecDepth 100000 in
set_option maxHeartbeats 2000000 in
theorem concat_any (g : Nat) (a1 a2 : Option Addr) (n m c d : Nat) (xs ys : List Int) (h1 h2 : Nat) (w : World) (hk : Blk w g 60 #[.slice a1 n c, .slice a2 m d]) (hr : Nums .u8 w h1 a1 c xs) (hs : Nums .u8 w h2 a2 d ys) (hn : n = xs.length) (hm : m = ys.length) (hB : h1 ≤ w.heap.size) (hC : h2 ≤ w.heap.size) (hlx : n ≤ 1048576) (hly : m ≤ 1048576) :
    Calls Tryz.prog 282 #[.slice (some ⟨g, 0, none⟩) 2 2] w (FreshNums 5 .u8 (xs ++ ys) w) := by
  obtain ⟨i0, hi0, hz0, hz1, hz2⟩ := info_parts infoU8
  have q0 := hk.cell
  have HK := Lib.hid hk
  have HR := Lib.hid hr
  have HS := Lib.hid hs
  have HN := Lib.hid hn
  have HM := Lib.hid hm
  clear hk hr hs hn hm
  have p0 : 0 ≤ (n : Int) := by omega
  have p1 : 0 ≤ (n : Int) + (m : Int) := by omega
  go_enter Tryz.func282, Tryz.ntmps282
  go_wp2
  refine wp_loop_rounds 3 ?_
  rw [rounds_succ]
  go_wp2
  rw [rounds_succ]
  go_wp2
  rw [rounds_succ]
  go_wp2_with fail
  refine (grow_call (n + m) (by omega) _ ?hq).mono ?_
  case hq => simp
  rintro e w1 ⟨a3, c3, rfl, ho, hb⟩
  have q1 := (HK.out.below hb).cell
  have K1 := Lib.hid (HK.out.below hb)
  have R1 := Lib.hid (HR.out.below (hb.mono hB))
  have S1 := Lib.hid (HS.out.below (hb.mono hC))
  obtain ⟨a4, c4, w2, hr4, ho4, hb4⟩ := append_src (xs := []) i0 hi0 hz0 hz1 hz2 ho R1.out HN.out hb.size (by omega) 60
  rw [Nat.zero_add] at hr4 ho4
  have K2 := Lib.hid (K1.out.belowB hb4 HK.out.lt)
  have q2 := K2.out.cell
  have S2 := Lib.hid (S1.out.below (hb4.mono hC))
  have B2 := Lib.hid (hb.trans hb4)
  obtain ⟨a5, c5, w3, hr5, ho5, hb5⟩ := append_src i0 hi0 hz0 hz1 hz2 ho4 S2.out HM.out B2.out.size (by omega) 60
  have K3 := Lib.hid (K2.out.belowB hb5 HK.out.lt)
  have q3 := K3.out.cell
  have HP : Hid (FreshNums 5 .u8 (xs ++ ys) w (.returned (.slice a5 (n + m) c5)) w3) := by
    have e : n + m = (xs ++ ys).length := by rw [List.length_append, ← HN.out, ← HM.out]
    rw [e] at ho5 ⊢
    exact ⟨a5, c5, rfl, by simpa using ho5, B2.out.trans hb5⟩
  have H4 := Lib.hid hr4
  have H5 := Lib.hid hr5
  clear ho hb hr4 ho4 hb4 hr5 ho5 hb5 q0 q2 q3
  go_wp2
  refine wp_loop_rounds 3 ?_
  rw [rounds_succ]
  go_wp2_with (at_builtin; refine Lib.wpList_append_run _ rfl _ _ _ _ rfl _ _ rfl rfl _ _ H4.out ?_)
  clear q1
  have q2 := K2.out.cell
  rw [rounds_succ]
  go_wp2_with (at_builtin; refine Lib.wpList_append_run _ rfl _ _ _ _ rfl _ _ rfl rfl _ _ H5.out ?_)
  clear q2
  have q3 := K3.out.cell
  rw [rounds_succ]
  go_wp2
  go_ret
  exact HP.out

end Go.Proofs.YtnfhlfbkdhpacaaGreatDoor
