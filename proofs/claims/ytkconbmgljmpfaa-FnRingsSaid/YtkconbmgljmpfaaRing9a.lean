/- Contract of spec.ListRing. -/
import Derived.Test.YtkconbmgljmpfaaRing7
import Derived.Maps.AppendAt
import Derived.Lib.AppendZeros
import Derived.RegionTactic
import Derived.Deep.RegionLaw
namespace Go.Proofs.Ytkconbmgljmpfaa
open Go.RowKit

theorem step_append_run {P : Program} {w : World} {ops : Array Oper} {o : Oper} {a : Act} {K : Act → World → Prop} {Q : Exit → Act → World → Prop} {E : Prop} (hgd : o.guard = none) (s x : Operand) (t tn : TypeId)
    (ho : o.op = .call { callee := .builtin .append, args := #[s, x], argTypes := #[t, tn] }) (vs vx : Value) (hs : a.eval s = vs) (hx : a.eval x = vx)
    (v' : Value) (w' : World) (hr : (Builtin.append_ #[t, tn] o.type #[vs, vx]).run P w = .ok v' w') (h : K (a.put o.dst v') w') :
    if Region.wanted o (yielded ops a.tmps) = true then Oper.wp P o a w K Q else E := by
  have hw : Region.wanted o (yielded ops a.tmps) = true := by simp [Region.wanted, hgd]
  rw [if_pos hw]
  exact Lib.wp_append_run w s x t tn ho vs vx hs hx v' w' hr h
/-- One number more behind a row of the call's own: all that is known. -/
theorem append_oneI {w : World} {lo n c : Nat} {a1 : Option Addr} {xs : List Int} (y : Int) (i0 : TypeInfo) (hi0 : Try.prog.info? 3 = some i0) (hz0 : i0.zero = some (.int .i64 0)) (hz1 : i0.size = 1) (hz2 : i0.bytes = 8)
    (ho : w.ownsRow lo 3 1 (.slice a1 n c) n (xs.map (Value.int .i64))) (hlo : lo ≤ w.heap.size) (hb : n ≤ 1048576) (ty : TypeId) :
    ∃ a3 c3 w', (Builtin.append_ #[24, 24] ty #[.slice a1 n c, .slice (some ⟨w.heap.size, 0, none⟩) 1 1]).run Try.prog (w.alloc (.cells #[.int .i64 y] 3)) = .ok (.slice a3 (n + 1) c3) w' ∧
      w'.ownsRow lo 3 1 (.slice a3 (n + 1) c3) (n + 1) ((xs ++ [y]).map (Value.int .i64)) ∧ Below lo w w' ∧ w.grownBy w' (Value.slice a1 n c).ownBlock := by
  obtain ⟨v', w', hr, h2, h3, _⟩ := run_append_own (P := Try.prog) (w.alloc (.cells #[.int .i64 y] 3)) lo 24 ty 3 i0 (.int .i64 0) 1 8 Try.underlying24 hi0 hz0 hz1 hz2 rfl (by decide) _ n _ (ho.alloc _) ⟨w.heap.size, 0, none⟩ 1 1 [.int .i64 y] rfl (cell_one_newI _ _ _) (one_i64 _) (by unfold maxLen; omega) (by omega) (by simp; omega)
  obtain ⟨a3, c3, rfl⟩ := owns_shape h2
  exact ⟨a3, c3, w', hr, by rw [List.map_append]; exact h2, ((Below.refl lo w).alloc hlo _).trans (below_own (ho.alloc _) h3 (by simp; omega)), grown_trans (World.grownBy_alloc w _ _) h3⟩

set_option maxHeartbeats 4000000 in
set_option maxRecDepth 100000 in
theorem specList_any (a : Option Addr) (n c : Nat) (hd ct : Int) (xs : List Int) (hi : Nat) (w : World) (hr : Nums .i64 w hi a c xs) (hn : n = xs.length) (hB : hi ≤ w.heap.size) (hlen : xs.length ≤ 1048576) :
    Calls Try.prog 32 #[.agg #[.slice a n c, .int .i64 hd, .int .i64 ct]] w (FreshNums 3 .i64 (listL xs hd ct) w) := by
  subst hn
  obtain ⟨i0, hi0, hz0, hz1, hz2⟩ := info_parts infoI64
  have hcap := hr.cap
  have hbig := hr.big
  have b1 := (Below.refl w.heap.size w).alloc (Nat.le_refl _) (.cells #[.slice a xs.length c, .int .i64 hd, .int .i64 ct] 28)
  have b2 := b1.alloc (by simp) (.cells #[] 3)
  have HN := Lib.hid (hr.below (b2.mono hB))
  have K0 := Lib.hid ((Blk.new w 28 #[.slice a xs.length c, .int .i64 hd, .int .i64 ct]).alloc (.cells #[] 3))
  have B2 := Lib.hid b2
  have o1 := World.ownsRow_made (e := 3) (size := 1) (w.alloc (.cells #[.slice a xs.length c, .int .i64 hd, .int .i64 ct] 28)) #[] 0 (Nat.le_refl _) (by unfold maxLen; omega) (by simp)
  simp only [World.size_alloc] at o1
  have O1 := Lib.hid o1
  clear hr b1 b2 o1
  have HR : Hid (∀ (W : World), Nums .i64 W hi a c xs → hi ≤ W.heap.size → Calls Try.prog 20 #[.agg #[.slice a xs.length c, .int .i64 hd, .int .i64 ct]] W fun e w' => e = .returned (.bool (rOk xs hd ct)) ∧ Below W.heap.size W w') := fun W h1 h2 => specRingOk_any a _ c hd ct xs hi W h1 rfl h2 hlen
  cases hk : rOk xs hd ct with
  | false =>
    rw [list_no hk]
    rw [hk] at HR
    go_enter Try.func32, Try.ntmps32
    go_wp2_with fail
    refine (HR.out _ HN.out (by simp; omega)).mono ?_
    rintro e w1 ⟨rfl, hb⟩
    have HP : Hid (FreshNums 3 .i64 [] w (.returned (.slice none 0 0)) w1) := ⟨none, 0, rfl, World.ownsRow_nil _ _ _ _, B2.out.trans (hb.mono (by simp; omega))⟩
    clear hb
    go_wp2
    go_ret
    exact HP.out
  | true =>
    obtain ⟨p, k, rfl, rfl, n1, n2, hp, hq⟩ := rOk_bd hk
    rw [list_at hk]
    rw [hk] at HR
    clear hk
    obtain ⟨b, off, rfl, hbh, hcl⟩ := HN.out.lies.resolve_left (by intro h; subst h; simp at n1)
    have HC := Lib.hid hcl
    have hbw : b < w.heap.size := by omega
    clear hcl
    go_enter Try.func32, Try.ntmps32
    go_wp2_with fail
    refine (HR.out _ HN.out (by simp; omega)).mono ?_
    rintro e w1 ⟨rfl, hb⟩
    have K1 := Lib.hid (K0.out.below hb)
    have B3 := Lib.hid (B2.out.trans (hb.mono (by simp; omega)))
    have O2 := Lib.hid (owns_below O1.out hb)
    have hs1 := hb.size
    simp only [World.size_alloc] at hs1
    have hcl : ∀ i, i < xs.length → w1.cell? ⟨b, off + i, none⟩ = some (.int .i64 (el xs i)) := fun i hi' => (hb.cell (p := ⟨b, off + i, none⟩) (by simp; omega)).trans (HC.out i hi')
    have HC1 := Lib.hid hcl
    clear hb hcl
    go_wp2
    go_loopw [3, 4] (fun v i wr => ∃ (j : Nat) (a' : Option Addr) (c' : Nat), j ≤ k ∧ i = .int .i64 j ∧ v = .slice a' j c' ∧ wr.ownsRow (w.heap.size + 1) 3 1 (.slice a' j c') j ((rList xs p j).map (Value.int .i64)) ∧ Below (w.heap.size + 1) w1 wr)
      (fun _ i _ => k - (intOf i).toNat)
    case atStart => exact ⟨0, _, _, Nat.zero_le _, rfl, rfl, by simpa [rList_zero] using O2.out, Below.refl _ _⟩
    case round =>
      obtain ⟨j, a', c', hj, rfl, rfl, hown, hb⟩ := hrel
      have hsz := hb.size
      have kk := K1.out.belowB hb (by omega)
      have q0 := kk.cell
      by_cases hlt : j < k
      · have hml : (p + j) % xs.length < xs.length := Nat.mod_lt _ (by omega)
        have htm : ((p : Int) + (j : Int)).tmod (xs.length : Int) = (((p + j) % xs.length : Nat) : Int) := by rw [Int.tmod_eq_emod_of_nonneg (by omega)]; simp
        have hmod : ((p : Int) + (j : Int)) % (xs.length : Int) = (((p + j) % xs.length : Nat) : Int) := by simp
        have HT := Lib.hid (rList_succ xs p j)
        generalize (p + j) % xs.length = M at hml htm hmod HT
        have hwr : IntKind.i64.wrap ((p : Int) + (j : Int)) = (p : Int) + (j : Int) := IntWalk.i64_in _ (by omega)
        have hw2 : IntKind.i64.wrap (M : Int) = (M : Int) := IntWalk.i64_in _ (by omega)
        have hxs : xs ≠ [] := by rintro rfl; simp at n1
        have hck := (hb.cell (p := ⟨b, off + M, none⟩) (show b < w.heap.size + 1 by omega)).trans (HC1.out M hml)
        have hjk : (j : Int) < (k : Int) := by omega
        obtain ⟨a3, c3, w3, hr3, ho3, hb3, hg3⟩ := append_oneI (w := wr.drew) (el xs M) i0 hi0 hz0 hz1 hz2 hown.drew (show w.heap.size + 1 ≤ wr.drew.heap.size from (by show _ ≤ wr.heap.size; omega)) (by omega) 24
        have R3 := Lib.hid hr3
        rw [← HT.out] at ho3
        have HO := Lib.hid ho3
        have HB := Lib.hid (hb.drew.trans hb3)
        clear hown hb hr3 ho3 hb3 hg3 kk
        go_wp2
        go_region_law (first | (refine step_append_run rfl _ _ _ _ rfl _ _ rfl rfl _ _ R3.out ?_))
        all_goals
          clear q0 hck
          go_wp2
          go_roundw
          case rel => exact ⟨j + 1, a3, c3, by omega, by go_num, rfl, HO.out, HB.out⟩
          case measure => simp [intOf]; omega
      · obtain rfl : j = k := by omega
        have HL := rList_len xs p j
        have HP : Hid (FreshNums 3 .i64 (rList xs p j) w (.returned (.slice a' j c')) wr) := fresh_as (n := (rList xs p j).length) ⟨a', c', rfl, by rw [HL]; exact owns_less hown (Nat.le_succ _), B3.out.trans (hb.mono (Nat.le_succ _))⟩ HL
        clear hown hb kk HL
        go_wp2
        go_ret
        exact HP.out
end Go.Proofs.Ytkconbmgljmpfaa
