/- Contracts of chapter 5: slices.Clone over aggs, and the copies of a shard on both sides. -/
import Derived.Test.YtnfhlfbkdhpacaaShardS
import Derived.LaidEql
import Derived.Lib.LazyBuf
import Derived.Lib.AppendZeros
import Derived.Deep.RegionLaw
import Derived.Test.YtnfhlfbkdhpacaaWin3
namespace Go.Proofs.Ytnfhlfbkdhpacaa
open Go.RowKit

theorem info_parts6 {t : TypeId} {z : Value} {a b : Nat} (h : (Try.prog.info? t).map (fun i => (i.zero, i.size, i.bytes)) = some (some z, a, b)) : ∃ i, Try.prog.info? t = some i ∧ i.zero = some z ∧ i.size = a ∧ i.bytes = b := by
  obtain ⟨i, hi, hzz⟩ := Option.map_eq_some_iff.1 h
  simp only [Prod.mk.injEq] at hzz
  exact ⟨i, hi, hzz.1, hzz.2.1, hzz.2.2⟩
theorem flatA_ones (l : List Ag) : ∀ u ∈ flatA l, u.oneCell' = true := by
  intro u hu
  simp only [flatA, flatR, List.mem_flatMap] at hu
  obtain ⟨x, _, hx⟩ := hu
  simp only [aC, List.mem_cons, List.not_mem_nil, or_false] at hx
  rcases hx with rfl | rfl | rfl | rfl | rfl | rfl <;> rfl
/-- The cells of a slice that is not nil, by an address. -/
theorem Ags.cellsAt {w : World} {hi : Nat} {ad : Addr} {c : Nat} {l : List Ag} (h : Ags w hi (some ad) c l) : ∀ j u, (flatA l)[j]? = some u → w.cell? (ad.add j) = some u := by
  intro j u hj
  have hl : j < l.length * 6 := by
    have := (List.getElem?_eq_some_iff.1 hj).1
    rwa [flatA_len] at this
  obtain ⟨b, off, ha, hlt, hc⟩ := h.cells (by omega)
  injection ha with ha
  subst ha
  have e : (⟨b, off, none⟩ : Addr).add j = ⟨b, off + j, none⟩ := by
    by_cases h0 : j = 0
    · subst h0; rfl
    · simp [Addr.add, h0]
  have h1 := hc (j / 6) (by omega) (j % 6) (by omega)
  have e1 : off + j / 6 * 6 + j % 6 = off + j := by omega
  rw [e1] at h1
  have h2 := flatR_at aC 6 aD aC_len l (j / 6) (j % 6) (by omega) (by omega)
  have e2 : j / 6 * 6 + j % 6 = j := by omega
  rw [e2] at h2
  rw [e, h1, ← h2]
  exact hj
/-- A row appended to: its shape. -/
theorem ownsR_shape {w : World} {lo n sz : Nat} {T : TypeId} {v : Value} {xs : List Value} (h : w.ownsRow lo T sz v n xs) : ∃ a c, v = .slice a n c := by
  rcases h.2 with ⟨rfl, rfl⟩ | ⟨g, cap, cur, rfl, _⟩
  · exact ⟨_, _, rfl⟩
  · exact ⟨_, _, rfl⟩

set_option maxRecDepth 100000 in
set_option maxHeartbeats 1000000 in
theorem cloneA_any (a : Option Addr) (n c : Nat) (l : List Ag) (hi : Nat) (w : World) (hr : Ags w hi a c l) (hn : n = l.length) (hB : hi ≤ w.heap.size) (hlen : l.length ≤ 1048576) :
    Calls Try.prog 42 #[.slice a n c] w (FreshR aC 37 6 l w) := by
  subst hn
  obtain ⟨i0, hi0, hz0, hz1, hz2⟩ := info_parts6 infoAgg
  have q := fun (w : World) (a : Option Addr) (n c n' c' : Nat) => Lib.run_eql_slice_nil (P := Try.prog) w 26 37 a n c n' c' Try.underlying26
  cases a with
  | none =>
    have h0 : l = [] := by
      rcases hr.lies with h | ⟨_, _, h, _⟩
      · exact h
      · cases h
    subst h0
    have HP : Hid (FreshR aC 37 6 [] w (.returned (.slice none 0 0)) w) := ⟨none, 0, rfl, World.ownsRow_nil _ _ _ _, Below.refl _ _⟩
    clear hr
    go_enter Try.func42, Try.ntmps42
    go_wp2
    go_ret
    exact HP.out
  | some ad =>
    have HR := Lib.hid (hr.below ((Below.refl hi w).alloc hB (.cells #[] 37)))
    have HF := Lib.hid (flatA_len l)
    clear hr
    go_enter Try.func42, Try.ntmps42
    go_wp2_with (at_builtin; refine wpList_append_own _ rfl _ _ 26 rfl w.heap.size 37 i0 (.agg #[.int .i64 0, .int .i64 0, .int .i64 0, .int .i64 0, .int .i64 0, .int .i64 0]) 6 48 Try.underlying26 hi0 hz0 hz1 hz2 rfl (by decide) _ _ _ rfl (World.ownsRow_made w #[] 0 (Nat.le_refl _) (Nat.zero_le _) rfl) ad l.length c (flatA l) rfl HF.out (Ags.cellsAt HR.out) (flatA_ones _) ?c3 ?c4 ?c5 ?_)
    case c3 => unfold maxLen; omega
    case c4 => omega
    case c5 => simp
    intro v' w1 hown' hg _
    have hown2 : w1.ownsRow w.heap.size 37 6 v' l.length (flatA l) := by simpa using hown'
    clear hown'
    obtain ⟨a2, c2, rfl⟩ := ownsR_shape hown2
    have HP : Hid (FreshR aC 37 6 l w (.returned (.slice a2 l.length c2)) w1) := by
      refine ⟨a2, c2, rfl, hown2, ((Below.refl w.heap.size w).alloc (Nat.le_refl _) (.cells #[] 37)).trans (below_own (World.ownsRow_made (e := 37) (size := 6) w #[] 0 (Nat.le_refl _) (Nat.zero_le _) rfl) hg (by simp))⟩
    clear hown2 hg
    go_wp2
    go_ret
    exact HP.out
set_option maxHeartbeats 1000000 in
set_option maxRecDepth 100000 in
theorem copied_any (a : Option Addr) (n c : Nat) (mk lt ov : Int) (l : List Ag) (hi : Nat) (w : World) (hr : Ags w hi a c l) (hn : n = l.length) (hB : hi ≤ w.heap.size) (hlen : l.length ≤ 1048576) :
    Calls Try.prog 27 #[.agg #[.slice a n c, .int .i64 mk, .int .i64 lt, .int .i64 ov]] w (FreshShard l mk lt ov w) := by
  subst hn
  have b1 := (Below.refl w.heap.size w).alloc (Nat.le_refl _) (.cells #[.slice a l.length c, .int .i64 mk, .int .i64 lt, .int .i64 ov] 29)
  have b2 := b1.alloc (by simp) (.cells #[.slice none 0 0, .int .i64 0, .int .i64 0, .int .i64 0] 29)
  have HN := Lib.hid (hr.below (b2.mono hB))
  have K0 := Lib.hid ((Blk.new w 29 #[.slice a l.length c, .int .i64 mk, .int .i64 lt, .int .i64 ov]).alloc (.cells #[.slice none 0 0, .int .i64 0, .int .i64 0, .int .i64 0] 29))
  have K1 := Lib.hid (Blk.new (w.alloc (.cells #[.slice a l.length c, .int .i64 mk, .int .i64 lt, .int .i64 ov] 29)) 29 #[.slice none 0 0, .int .i64 0, .int .i64 0, .int .i64 0])
  have B2 := Lib.hid b2
  clear hr b1 b2
  go_enter Try.func27, Try.ntmps27
  go_wp2_with fail
  refine (cloneA_any a _ c l _ _ HN.out rfl (by simp; omega) hlen).mono ?_
  rintro e w1 ⟨a1, c1, rfl, ho, hb⟩
  have q0 := (K0.out.below hb).cell
  have q1 := (K1.out.below hb).cell
  have f0 := (K0.out.below hb).frozen
  have f1 := (K1.out.below hb).frozen
  simp only [World.size_alloc] at q0 q1 f0 f1
  have B1 := Lib.hid (B2.out.trans (hb.mono (by simp; omega)))
  have HP : Hid (FreshShard l mk lt ov w (.returned (.agg #[.slice a1 l.length c1, .int .i64 mk, .int .i64 lt, .int .i64 ov])) (((((w1.setCell ⟨w.heap.size, 0, none⟩ (.slice a1 l.length c1)).setCell ⟨w.heap.size + 1, 0, none⟩ (.slice a1 l.length c1)).setCell ⟨w.heap.size + 1, 1, none⟩ (.int .i64 mk)).setCell ⟨w.heap.size + 1, 2, none⟩ (.int .i64 lt)).setCell ⟨w.heap.size + 1, 3, none⟩ (.int .i64 ov))) := by
    simp only [World.size_alloc] at ho
    refine ⟨a1, c1, rfl, owns_less (ownsR_setCell_below (ownsR_setCell_below (ownsR_setCell_below (ownsR_setCell_below (ownsR_setCell_below ho ?_ _) ?_ _) ?_ _) ?_ _) ?_ _) (by omega), (((((B1.out.setCell ?_ _).setCell ?_ _).setCell ?_ _).setCell ?_ _).setCell ?_ _)⟩ <;> simp <;> omega
  clear ho hb
  go_wp2
  exact bodyPost_ret (v := .agg #[.slice a1 l.length c1, .int .i64 mk, .int .i64 lt, .int .i64 ov]) (by simp [results, Try.results27, go_sem, q1]) rfl HP.out
theorem newsA {W : World} {S : Ag} {T : TypeId} {B : Nat} (hB : W.heap.size = B) : ∀ (j : Nat) (u : Value), (aC S)[j]? = some u → (W.alloc (.cells (aC S).toArray T)).cell? ((⟨B, 0, none⟩ : Addr).add j) = some u := by
  subst hB
  intro j u hj
  have hadd : (⟨W.heap.size, 0, none⟩ : Addr).add j = ⟨W.heap.size, j, none⟩ := by unfold Addr.add; split <;> simp_all
  rw [hadd, (Blk.new W T (aC S).toArray).cell j]
  simpa using hj
theorem aC_ones (S : Ag) : ∀ u ∈ aC S, u.oneCell' = true := by
  intro u hu
  simp only [aC, List.mem_cons, List.not_mem_nil, or_false] at hu
  rcases hu with rfl | rfl | rfl | rfl | rfl | rfl <;> rfl
theorem step_append_run {P : Program} {w : World} {ops : Array Oper} {o : Oper} {a : Act} {K : Act → World → Prop} {Q : Exit → Act → World → Prop} {E : Prop} (hgd : o.guard = none) (s x : Operand) (t tn : TypeId)
    (ho : o.op = .call { callee := .builtin .append, args := #[s, x], argTypes := #[t, tn] }) (vs vx : Value) (hs : a.eval s = vs) (hx : a.eval x = vx)
    (v' : Value) (w' : World) (hr : (Builtin.append_ #[t, tn] o.type #[vs, vx]).run P w = .ok v' w') (h : K (a.put o.dst v') w') :
    if Region.wanted o (yielded ops a.tmps) = true then Oper.wp P o a w K Q else E := by
  have hw : Region.wanted o (yielded ops a.tmps) = true := by simp [Region.wanted, hgd]
  rw [if_pos hw]
  exact Lib.wp_append_run w s x t tn ho vs vx hs hx v' w' hr h
/-- A row and a block of another element type lie apart. -/
theorem own_blk_ne {w : World} {base g n sz : Nat} {e t : TypeId} {v : Value} {xs : List Value} {cs : Array Value} (h : w.ownsRow base e sz v n xs) (hg : Blk w g t cs) (hne : e ≠ t) : some g ≠ v.ownBlock := by
  rcases h.2 with ⟨rfl, _⟩ | ⟨g', cap, cur, rfl, _, hh, _⟩
  · simp [Value.ownBlock]
  · intro he
    have : g = g' := by simpa [Value.ownBlock] using he
    subst this
    unfold Blk at hg
    rw [hh] at hg
    injection hg with hg
    injection hg with _ ht
    exact hne ht
/-- One agg more behind a row of the call's own: all that is known. -/
theorem appendA {w : World} {lo n c : Nat} {a1 : Option Addr} {l : List Ag} (S : Ag) (hn : n = l.length) (ho : w.ownsRow lo 37 6 (.slice a1 n c) n (flatA l)) (hlo : lo ≤ w.heap.size) (hb : n ≤ 2097152) (ty : TypeId) :
    ∃ a3 c3 w', (Builtin.append_ #[26, 26] ty #[.slice a1 n c, .slice (some ⟨w.heap.size, 0, none⟩) 1 1]).run Try.prog (w.alloc (.cells #[.int .i64 S.win, .int .i64 S.key, .int .i64 S.cnt, .int .i64 S.sum, .int .i64 S.mn, .int .i64 S.mx] 37)) = .ok (.slice a3 (n + 1) c3) w' ∧
      w'.ownsRow lo 37 6 (.slice a3 (n + 1) c3) (n + 1) (flatA (l ++ [S])) ∧ Below lo w w' ∧ w.grownBy w' (Value.slice a1 n c).ownBlock := by
  obtain ⟨i0, hi0, hz0, hz1, hz2⟩ := info_parts6 infoAgg
  obtain ⟨v', w', hr, h2, h3, _⟩ := run_append_own (P := Try.prog) (w.alloc (.cells (aC S).toArray 37)) lo 26 ty 37 i0 (.agg #[.int .i64 0, .int .i64 0, .int .i64 0, .int .i64 0, .int .i64 0, .int .i64 0]) 6 48 Try.underlying26 hi0 hz0 hz1 hz2 rfl (by decide) _ n _ (ho.alloc _) ⟨w.heap.size, 0, none⟩ 1 1 (aC S) rfl (newsA rfl) (aC_ones S) (by unfold maxLen; omega) (by omega) (by simp; omega)
  obtain ⟨a3, c3, rfl⟩ := ownsR_shape h2
  refine ⟨a3, c3, w', hr, ?_, ((Below.refl lo w).alloc hlo _).trans (below_own (ho.alloc _) h3 (by simp; omega)), grown_trans (World.grownBy_alloc w _ _) h3⟩
  rw [flatA_append]
  simpa [flatA, flatR] using h2
set_option maxHeartbeats 2000000 in
set_option maxRecDepth 100000 in
theorem specCopy_any (a : Option Addr) (n c : Nat) (mk lt ov : Int) (l : List Ag) (hi : Nat) (w : World) (hr : Ags w hi a c l) (hn : n = l.length) (hB : hi ≤ w.heap.size) (hlen : l.length ≤ 1048576) :
    Calls Try.prog 26 #[.agg #[.slice a n c, .int .i64 mk, .int .i64 lt, .int .i64 ov]] w (FreshShard l mk lt ov w) := by
  subst hn
  have hc1 := hr.cap
  have hc2 := hr.big
  have b1 := (Below.refl w.heap.size w).alloc (Nat.le_refl _) (.cells #[.slice a l.length c, .int .i64 mk, .int .i64 lt, .int .i64 ov] 29)
  have b2 := b1.alloc (by simp) (.cells #[.slice none 0 0, .int .i64 0, .int .i64 0, .int .i64 0] 29)
  have b3 := b2.alloc (by simp; omega) (.cells #[.slice none 0 0, .int .i64 mk, .int .i64 lt, .int .i64 ov] 29)
  have K0 := Lib.hid (((Blk.new w 29 #[.slice a l.length c, .int .i64 mk, .int .i64 lt, .int .i64 ov]).alloc (.cells #[.slice none 0 0, .int .i64 0, .int .i64 0, .int .i64 0] 29)).alloc (.cells #[.slice none 0 0, .int .i64 mk, .int .i64 lt, .int .i64 ov] 29))
  have k1 := (Blk.new (w.alloc (.cells #[.slice a l.length c, .int .i64 mk, .int .i64 lt, .int .i64 ov] 29)) 29 #[.slice none 0 0, .int .i64 0, .int .i64 0, .int .i64 0]).alloc (.cells #[.slice none 0 0, .int .i64 mk, .int .i64 lt, .int .i64 ov] 29)
  have k2 := Blk.new ((w.alloc (.cells #[.slice a l.length c, .int .i64 mk, .int .i64 lt, .int .i64 ov] 29)).alloc (.cells #[.slice none 0 0, .int .i64 0, .int .i64 0, .int .i64 0] 29)) 29 #[.slice none 0 0, .int .i64 mk, .int .i64 lt, .int .i64 ov]
  simp only [World.size_alloc] at k1 k2
  have K1 := Lib.hid k1
  have K2 := Lib.hid k2
  have B3 := Lib.hid b3
  have HR0 := Lib.hid hr
  clear hr b1 b2 b3 k1 k2
  go_enter Try.func26, Try.ntmps26
  go_wp2
  go_loopw [4] (fun i wr => ∃ (k : Nat) (a2 : Option Addr) (c2 : Nat), k ≤ l.length ∧ i = .int .i64 k ∧ Blk wr w.heap.size 29 #[.slice a l.length c, .int .i64 mk, .int .i64 lt, .int .i64 ov] ∧ Blk wr (w.heap.size + 1 + 1) 29 #[.slice a2 k c2, .int .i64 mk, .int .i64 lt, .int .i64 ov] ∧ wr.ownsRow w.heap.size 37 6 (.slice a2 k c2) k (flatA (l.take k)) ∧ Blk wr (w.heap.size + 1) 29 #[.slice none 0 0, .int .i64 0, .int .i64 0, .int .i64 0] ∧ Below w.heap.size w wr)
    (fun i _ => l.length - (intOf i).toNat)
  case atStart => exact ⟨0, none, 0, Nat.zero_le _, rfl, K0.out, K2.out, by simpa [flatA, flatR] using World.ownsRow_nil _ _ _ _, K1.out, B3.out⟩
  case round =>
    obtain ⟨k, a2, c2, hk, rfl, hb0, hbg, hown, hb1, hbw⟩ := hrel
    have hsz := hbw.size
    by_cases hlt : k < l.length
    · obtain ⟨b1, off, rfl, hbh, hcell⟩ := Ags.six HR0.out (by omega)
      have hbq : b1 < w.heap.size := by omega
      have hlt' : (k : Int) < (l.length : Int) := by omega
      have hnn : 0 ≤ (k : Int) := by omega
      have HT := Lib.hid (ael_take hlt)
      have CK := Lib.hid (hcell k hlt)
      have qg := hbg.cell
      have q0 := hb0.cell
      have fg := hbg.frozen
      have hkl : k = (l.take k).length := by simp; omega
      obtain ⟨a3, c3, w3, hr3, ho3, hb3, hg3⟩ := appendA (w := wr.drew) (ael l k) hkl hown.drew hsz (by omega) 26
      rw [← HT.out] at ho3
      generalize ael l k = S at CK hr3
      obtain ⟨u0, u1, u2, u3, u4, u5⟩ := S
      simp only at CK hr3
      have cell6 : ∀ W : World, Below w.heap.size w W → W.cell? ⟨b1, off + k * 6, none⟩ = some (.int .i64 u0) ∧ W.cell? ⟨b1, off + k * 6 + 1, none⟩ = some (.int .i64 u1) ∧ W.cell? ⟨b1, off + k * 6 + 2, none⟩ = some (.int .i64 u2) ∧ W.cell? ⟨b1, off + k * 6 + 3, none⟩ = some (.int .i64 u3) ∧ W.cell? ⟨b1, off + k * 6 + 4, none⟩ = some (.int .i64 u4) ∧ W.cell? ⟨b1, off + k * 6 + 5, none⟩ = some (.int .i64 u5) := fun W hW => by
        obtain ⟨h0, h1, h2, h3, h4, h5⟩ := CK.out
        exact ⟨(hW.cell (p := ⟨b1, off + k * 6, none⟩) hbq).trans h0, (hW.cell (p := ⟨b1, off + k * 6 + 1, none⟩) hbq).trans h1, (hW.cell (p := ⟨b1, off + k * 6 + 2, none⟩) hbq).trans h2, (hW.cell (p := ⟨b1, off + k * 6 + 3, none⟩) hbq).trans h3, (hW.cell (p := ⟨b1, off + k * 6 + 4, none⟩) hbq).trans h4, (hW.cell (p := ⟨b1, off + k * 6 + 5, none⟩) hbq).trans h5⟩
      have kg3 := hbg.drew.grown hg3 (own_blk_ne hown.drew hbg.drew (by decide))
      have k03 := hb0.drew.grown hg3 (own_blk_ne hown.drew hb0.drew (by decide))
      have qg3 := kg3.cell
      have q03 := k03.cell
      have fg3 := kg3.frozen
      obtain ⟨p0, p1, p2, p3, p4, p5⟩ := cell6 wr hbw
      obtain ⟨r0, r1, r2, r3, r4, r5⟩ := cell6 w3 (hbw.drew.trans hb3)
      obtain ⟨s0, s1, s2, s3, s4, s5⟩ := cell6 ((wr.alloc (.cells #[.int .i64 u0, .int .i64 u1, .int .i64 u2, .int .i64 u3, .int .i64 u4, .int .i64 u5] 37)).drew) ((hbw.alloc hsz _).drew)
      have qga := (hbg.alloc (.cells #[.int .i64 u0, .int .i64 u1, .int .i64 u2, .int .i64 u3, .int .i64 u4, .int .i64 u5] 37)).drew.cell
      have q0a := (hb0.alloc (.cells #[.int .i64 u0, .int .i64 u1, .int .i64 u2, .int .i64 u3, .int .i64 u4, .int .i64 u5] 37)).drew.cell
      have R3 := Lib.hid hr3
      have HREL : Hid (Blk (w3.setCell ⟨w.heap.size + 1 + 1, 0, none⟩ (.slice a3 (k + 1) c3)) w.heap.size 29 #[.slice (some ⟨b1, off, none⟩) l.length c, .int .i64 mk, .int .i64 lt, .int .i64 ov] ∧ Blk (w3.setCell ⟨w.heap.size + 1 + 1, 0, none⟩ (.slice a3 (k + 1) c3)) (w.heap.size + 1 + 1) 29 #[.slice a3 (k + 1) c3, .int .i64 mk, .int .i64 lt, .int .i64 ov] ∧ (w3.setCell ⟨w.heap.size + 1 + 1, 0, none⟩ (.slice a3 (k + 1) c3)).ownsRow w.heap.size 37 6 (.slice a3 (k + 1) c3) (k + 1) (flatA (l.take (k + 1))) ∧ Blk (w3.setCell ⟨w.heap.size + 1 + 1, 0, none⟩ (.slice a3 (k + 1) c3)) (w.heap.size + 1) 29 #[.slice none 0 0, .int .i64 0, .int .i64 0, .int .i64 0] ∧ Below w.heap.size w (w3.setCell ⟨w.heap.size + 1 + 1, 0, none⟩ (.slice a3 (k + 1) c3))) := by
        refine ⟨k03.far_ (show w.heap.size ≠ w.heap.size + 1 + 1 by omega) _, kg3.put_ 0 _, ?_, ((hb1.drew.grown hg3 (own_blk_ne hown.drew hb1.drew (by decide))).far_ (by simp) _), (hbw.drew.trans hb3).setCell (by simp; omega) _⟩
        exact ho3.kept (grown_setCell _ _ _ _) (.inr (own_blk_ne ho3 kg3 (by decide)).symm)
      clear hcell hbg hown hb1 hb0 hbw hr3 ho3 hb3 hg3 kg3 k03 cell6 hkl
      go_wp2
      go_region_law (first | (refine step_append_run rfl _ _ _ _ rfl _ _ rfl rfl _ _ R3.out ?_))
      all_goals
        clear qg q0 fg qga q0a qg3 q03 fg3 p0 p1 p2 p3 p4 p5 r0 r1 r2 r3 r4 r5 s0 s1 s2 s3 s4 s5
        go_wp2
        go_roundw
        case rel => exact ⟨k + 1, a3, c3, by omega, by go_num, HREL.out.1, HREL.out.2.1, HREL.out.2.2.1, HREL.out.2.2.2.1, HREL.out.2.2.2.2⟩
        case measure => simp [intOf]; omega
    · obtain rfl : k = l.length := by omega
      rw [List.take_length] at hown
      have q1 := hb1.cell
      have q0 := hb0.cell
      have f1 := hb1.frozen
      have qg := hbg.cell
      have HP := Lib.hid (show FreshShard l mk lt ov w (.returned (.agg #[.slice a2 l.length c2, .int .i64 mk, .int .i64 lt, .int .i64 ov])) ((((wr.setCell ⟨w.heap.size + 1, 0, none⟩ (.slice a2 l.length c2)).setCell ⟨w.heap.size + 1, 1, none⟩ (.int .i64 mk)).setCell ⟨w.heap.size + 1, 2, none⟩ (.int .i64 lt)).setCell ⟨w.heap.size + 1, 3, none⟩ (.int .i64 ov)) from by
        have ne : ∀ (W : World), W.ownsRow w.heap.size 37 6 (.slice a2 l.length c2) l.length (flatA l) → ∀ cs, Blk W (w.heap.size + 1) 29 cs → ∀ i u, (W.setCell ⟨w.heap.size + 1, i, none⟩ u).ownsRow w.heap.size 37 6 (.slice a2 l.length c2) l.length (flatA l) ∧ Blk (W.setCell ⟨w.heap.size + 1, i, none⟩ u) (w.heap.size + 1) 29 (cs.setIfInBounds i u) := fun W h cs hb i u => ⟨h.kept (grown_setCell _ _ _ _) (.inr (own_blk_ne h hb (by decide)).symm), hb.put_ i u⟩
        have e0 := ne wr hown _ hb1 0 (.slice a2 l.length c2)
        have e1 := ne _ e0.1 _ e0.2 1 (.int .i64 mk)
        have e2 := ne _ e1.1 _ e1.2 2 (.int .i64 lt)
        have e3 := ne _ e2.1 _ e2.2 3 (.int .i64 ov)
        exact ⟨a2, c2, rfl, e3.1, (((hbw.setCell (p := ⟨w.heap.size + 1, 0, none⟩) (Nat.le_succ _) _).setCell (p := ⟨w.heap.size + 1, 1, none⟩) (Nat.le_succ _) _).setCell (p := ⟨w.heap.size + 1, 2, none⟩) (Nat.le_succ _) _).setCell (p := ⟨w.heap.size + 1, 3, none⟩) (Nat.le_succ _) _⟩)
      clear hown hbg hb1 hb0 hbw
      go_wp2
      exact bodyPost_ret (v := .agg #[.slice a2 l.length c2, .int .i64 mk, .int .i64 lt, .int .i64 ov]) (by simp [results, Try.results26, go_sem, q1]) rfl HP.out
end Go.Proofs.Ytnfhlfbkdhpacaa
