/- Contract of spec.FeedBytes. -/
import Derived.Test.YtmiapmgeacleoaaFeed
import Derived.Maps.AppendAt
import Derived.RegionTactic
import Derived.Deep.RegionLaw
namespace Go.Proofs.Ytmiapmgeacleoaa
open Go.RowKit

theorem step_append_run {P : Program} {w : World} {ops : Array Oper} {o : Oper} {a : Act} {K : Act → World → Prop} {Q : Exit → Act → World → Prop} {E : Prop} (hgd : o.guard = none) (s x : Operand) (t tn : TypeId)
    (ho : o.op = .call { callee := .builtin .append, args := #[s, x], argTypes := #[t, tn] }) (vs vx : Value) (hs : a.eval s = vs) (hx : a.eval x = vx)
    (v' : Value) (w' : World) (hr : (Builtin.append_ #[t, tn] o.type #[vs, vx]).run P w = .ok v' w') (h : K (a.put o.dst v') w') :
    if Region.wanted o (yielded ops a.tmps) = true then Oper.wp P o a w K Q else E := by
  have hw : Region.wanted o (yielded ops a.tmps) = true := by simp [Region.wanted, hgd]
  rw [if_pos hw]
  exact Lib.wp_append_run w s x t tn ho vs vx hs hx v' w' hr h

/-- A row and a block of another element type lie apart. -/
theorem own_blk_ne {w : World} {base g n sz : Nat} {e t : TypeId} {v : Value} {xs : List Value} {cs : Array Value} (h : w.ownsRow base e sz v n xs) (hg : Blk w g t cs) (hne : e ≠ t) : some g ≠ v.ownBlock := by
  rcases h.2 with ⟨rfl, _⟩ | ⟨g', cap, cur, rfl, _, hh, _⟩
  · simp [Value.ownBlock]
  · intro he
    have : g = g' := by simpa [Value.ownBlock] using he
    subst this
    unfold Blk at hg
    rw [hh] at hg
    injection hg with hg
    injection hg with _ ht
    exact hne ht
theorem Blk.set_ {w : World} {g : Nat} {t : TypeId} {cs : Array Value} (h : Blk w g t cs) (i : Nat) (u : Value) : Blk (w.setCell ⟨g, i, none⟩ u) g t (cs.setIfInBounds i u) := by
  unfold Blk at h ⊢
  simp [World.setCell, Array.getElem?_modify, h]
theorem Blk.far_ {w : World} {g : Nat} {t : TypeId} {cs : Array Value} (h : Blk w g t cs) {p : Addr} (hp : g ≠ p.block) (u : Value) : Blk (w.setCell p u) g t cs := (Below.heap_setCell w p u g hp).trans h
/-- One byte more behind a row of the call's own: all that is known. -/
theorem append_one {w : World} {lo n c : Nat} {a1 : Option Addr} {xs : List Int} (y : Int) (i0 : TypeInfo) (hi0 : Try.prog.info? 5 = some i0) (hz0 : i0.zero = some (.int .u8 0)) (hz1 : i0.size = 1) (hz2 : i0.bytes = 1)
    (ho : w.ownsRow lo 5 1 (.slice a1 n c) n (xs.map (Value.int .u8))) (hlo : lo ≤ w.heap.size) (hb : n ≤ 8388608) (ty : TypeId) :
    ∃ a3 c3 w', (Builtin.append_ #[28, 28] ty #[.slice a1 n c, .slice (some ⟨w.heap.size, 0, none⟩) 1 1]).run Try.prog (w.alloc (.cells #[.int .u8 y] 5)) = .ok (.slice a3 (n + 1) c3) w' ∧
      w'.ownsRow lo 5 1 (.slice a3 (n + 1) c3) (n + 1) ((xs ++ [y]).map (Value.int .u8)) ∧ Below lo w w' ∧ w.grownBy w' (Value.slice a1 n c).ownBlock := by
  obtain ⟨v', w', hr, h2, h3, _⟩ := run_append_own (P := Try.prog) (w.alloc (.cells #[.int .u8 y] 5)) lo 28 ty 5 i0 (.int .u8 0) 1 1 Try.underlying28 hi0 hz0 hz1 hz2 rfl (by decide) _ n _ (ho.alloc _) ⟨w.heap.size, 0, none⟩ 1 1 [.int .u8 y] rfl (cell_one_new _ _ _) (one_u8 _) (by unfold maxLen; omega) (by omega) (by simp; omega)
  obtain ⟨a3, c3, rfl⟩ := owns_shape h2
  exact ⟨a3, c3, w', hr, by rw [List.map_append]; exact h2, ((Below.refl lo w).alloc hlo _).trans (below_own (ho.alloc _) h3 (by simp; omega)), grown_trans (World.grownBy_alloc w _ _) h3⟩

set_option maxHeartbeats 2000000 in
theorem specFeed_yes (a a' : Option Addr) (c d : Nat) (xs ys : List Int) (hi hj : Nat) (w : World) (hr : Nums .u8 w hi a c xs) (hs : Nums .u8 w hj a' d ys) (hB : hi ≤ w.heap.size) (hC : hj ≤ w.heap.size) (h4 : xs.length + ys.length ≤ 400) :
    Calls Try.prog 24 #[.agg #[.slice a xs.length c, .bool false], .slice a' ys.length d] w (FreshDecOk 5 (xs ++ ys) false true w) := by
  obtain ⟨i0, hi0, hz0, hz1, hz2⟩ := info_parts infoU8
  have hc1 := hr.cap
  have hc2 := hr.big
  have hd1 := hs.cap
  have hd2 := hs.big
  have b1 := (Below.refl w.heap.size w).alloc (Nat.le_refl _) (.cells #[.slice a xs.length c, .bool false] 39)
  have b2 := b1.alloc (by simp) (.cells #[.slice none 0 0, .bool false] 39)
  have HR := Lib.hid (hr.below (b2.mono hB))
  have HS := Lib.hid (hs.below (b2.mono hC))
  have HS0 := Lib.hid hs
  have K0 := Lib.hid ((Blk.new w 39 #[.slice a xs.length c, .bool false]).alloc (.cells #[.slice none 0 0, .bool false] 39))
  have k1 := Blk.new (w.alloc (.cells #[.slice a xs.length c, .bool false] 39)) 39 #[.slice none 0 0, .bool false]
  rw [World.size_alloc] at k1
  have K1 := Lib.hid k1
  have B2 := Lib.hid b2
  have HD := Lib.hid (fun W => specDecOk_any a xs.length c false W (by omega))
  rw [dOk_good (by omega)] at HD
  clear hr hs b1 b2 k1
  go_enter Try.func24, Try.ntmps24
  go_wp2_with fail
  refine (l02Copy_any a _ c false xs _ _ HR.out rfl (by simp; omega) (by omega)).mono ?_
  rintro e w1 ⟨a1, c1, rfl, ho, hb⟩
  have hs1 := hb.size
  simp only [World.size_alloc] at hs1
  have kk0 := (K0.out.below hb).alloc (.cells #[.slice a1 xs.length c1, .bool false] 39)
  have kk1 := (K1.out.below hb).alloc (.cells #[.slice a1 xs.length c1, .bool false] 39)
  have q0 := kk0.cell
  have KK0 := Lib.hid kk0
  have KK1 := Lib.hid kk1
  have KG := Lib.hid (Blk.new w1 39 #[.slice a1 xs.length c1, .bool false])
  have HS1 := Lib.hid ((HS.out.below (hb.mono (by simp; omega))).below ((Below.refl hj w1).alloc (by omega) (.cells #[.slice a1 xs.length c1, .bool false] 39)))
  have B1 := Lib.hid ((B2.out.trans (hb.mono (by simp; omega))).alloc (by omega) (.cells #[.slice a1 xs.length c1, .bool false] 39))
  have O1 := Lib.hid (ho.alloc (.cells #[.slice a1 xs.length c1, .bool false] 39))
  clear ho hb kk0 kk1
  go_wp2_with fail
  refine (HD.out _).mono ?_
  rintro e w2 ⟨rfl, hb⟩
  clear q0
  have kk0 := KK0.out.below hb
  have kk1 := KK1.out.below hb
  have kg := KG.out.below hb
  have q0 := kk0.cell
  have LK1 := Lib.hid kk1
  have LKG := Lib.hid kg
  have HS2 := Lib.hid (HS1.out.below (hb.mono (by simp; omega)))
  have B2' := Lib.hid (B1.out.trans (hb.mono (by simp; omega)))
  have O2 := Lib.hid (owns_below O1.out hb)
  have hs2 := hb.size
  simp only [World.size_alloc] at hs2
  clear hb kk0 kk1 kg
  have hgs : w.heap.size + 1 < w1.heap.size := by omega
  go_wp2
  go_loopw [7] (fun i wr => ∃ (k : Nat) (a2 : Option Addr) (c2 : Nat), k ≤ ys.length ∧ i = .int .i64 k ∧ Blk wr w1.heap.size 39 #[.slice a2 (xs.length + k) c2, .bool false] ∧ wr.ownsRow w.heap.size 5 1 (.slice a2 (xs.length + k) c2) (xs.length + k) ((xs ++ ys.take k).map (Value.int .u8)) ∧ Blk wr (w.heap.size + 1) 39 #[.slice none 0 0, .bool false] ∧ Below w.heap.size w wr)
    (fun i _ => ys.length - (intOf i).toNat)
  case atStart => exact ⟨0, a1, c1, Nat.zero_le _, rfl, LKG.out, by simpa using owns_less O2.out (by simp; omega), LK1.out, B2'.out⟩
  case round =>
    obtain ⟨k, a2, c2, hk, rfl, hbg, hown, hb1, hbw⟩ := hrel
    have hsz := hbw.size
    by_cases hlt : k < ys.length
    · obtain ⟨b1, off, rfl, hbh, hcell⟩ := HS0.out.lies.resolve_left (by intro h; subst h; simp at hlt)
      have hck := (hbw.cell (p := ⟨b1, off + k, none⟩) (show b1 < w.heap.size by omega)).trans (hcell k hlt)
      have HT := Lib.hid (el_take ys k hlt)
      have hlt' : (k : Int) < (ys.length : Int) := by omega
      have hnn : 0 ≤ (k : Int) := by omega
      have qg := hbg.cell
      have fg := hbg.frozen
      obtain ⟨a3, c3, w3, hr3, ho3, hb3, hg3⟩ := append_one (w := wr.drew) (el ys k) i0 hi0 hz0 hz1 hz2 hown.drew hsz (by omega) 28
      have kg3 := hbg.drew.grown hg3 (own_blk_ne hown.drew hbg.drew (by decide))
      have qg3 := kg3.cell
      have fg3 := kg3.frozen
      have hck3 := (hb3.cell (p := ⟨b1, off + k, none⟩) (show b1 < w.heap.size by omega)).trans hck
      have qga := (hbg.alloc (.cells #[.int .u8 (el ys k)] 5)).drew.cell
      have hcka : ((wr.alloc (.cells #[.int .u8 (el ys k)] 5)).drew).cell? ⟨b1, off + k, none⟩ = some (.int .u8 (el ys k)) := (((Below.refl w.heap.size wr).alloc hsz (.cells #[.int .u8 (el ys k)] 5)).drew.cell (p := ⟨b1, off + k, none⟩) (show b1 < w.heap.size by omega)).trans hck
      have R3 := Lib.hid hr3
      have HREL : Hid (Blk (w3.setCell ⟨w1.heap.size, 0, none⟩ (.slice a3 (xs.length + k + 1) c3)) w1.heap.size 39 #[.slice a3 (xs.length + (k + 1)) c3, .bool false] ∧ (w3.setCell ⟨w1.heap.size, 0, none⟩ (.slice a3 (xs.length + k + 1) c3)).ownsRow w.heap.size 5 1 (.slice a3 (xs.length + (k + 1)) c3) (xs.length + (k + 1)) ((xs ++ ys.take (k + 1)).map (Value.int .u8)) ∧ Blk (w3.setCell ⟨w1.heap.size, 0, none⟩ (.slice a3 (xs.length + k + 1) c3)) (w.heap.size + 1) 39 #[.slice none 0 0, .bool false] ∧ Below w.heap.size w (w3.setCell ⟨w1.heap.size, 0, none⟩ (.slice a3 (xs.length + k + 1) c3))) := by
        refine ⟨kg3.set_ 0 _, ?_, ((hb1.drew.grown hg3 (own_blk_ne hown.drew hb1.drew (by decide))).far_ (by simp; omega) _), (hbw.drew.trans hb3).setCell (by simp; omega) _⟩
        rw [HT.out, ← List.append_assoc]
        exact ho3.kept (grown_setCell _ _ _ _) (.inr (own_blk_ne ho3 kg3 (by decide)).symm)
      clear hcell hbg hown hb1 hbw hr3 ho3 hb3 hg3 kg3
      go_wp2
      go_region_law (first | (refine step_append_run rfl _ _ _ _ rfl _ _ rfl rfl _ _ R3.out ?_))
      all_goals
        clear qg fg qga hcka hck hck3 qg3 fg3
        go_wp2
        go_roundw
        case rel => exact ⟨k + 1, a3, c3, by omega, by go_num, HREL.out.1, HREL.out.2.1, HREL.out.2.2.1, HREL.out.2.2.2⟩
        case measure => simp [intOf]; omega
    · obtain rfl : k = ys.length := by omega
      rw [List.take_length] at hown
      have q1 := hb1.cell
      have f1 := hb1.frozen
      have qg := hbg.cell
      have HP := Lib.hid (show FreshDecOk 5 (xs ++ ys) false true w (.returned (.tuple #[.agg #[.slice a2 (xs ++ ys).length c2, .bool false], .bool true])) ((wr.setCell ⟨w.heap.size + 1, 0, none⟩ (.slice a2 (xs ++ ys).length c2)).setCell ⟨w.heap.size + 1, 1, none⟩ (.bool false)) from by
        rw [← List.length_append] at hown
        refine ⟨a2, c2, rfl, ?_, (hbw.setCell (p := ⟨w.heap.size + 1, 0, none⟩) (Nat.le_succ _) _).setCell (p := ⟨w.heap.size + 1, 1, none⟩) (Nat.le_succ _) _⟩
        have e := hown.kept (grown_setCell wr (w.heap.size + 1) 0 (.slice a2 (xs ++ ys).length c2)) (.inr (own_blk_ne hown hb1 (by decide)).symm)
        exact e.kept (grown_setCell _ _ _ _) (.inr (own_blk_ne e (hb1.set_ 0 _) (by decide)).symm))
      rw [List.length_append] at HP
      clear hown hbg hb1 hbw
      go_wp2
      exact bodyPost_ret (v := .tuple #[.agg #[.slice a2 (xs.length + ys.length) c2, .bool false], .bool true]) (by simp [results, Try.results24, go_sem, q1]) rfl HP.out
set_option maxHeartbeats 2000000 in
theorem specFeed_no1 (a a' : Option Addr) (c d : Nat) (b : Bool) (xs ys : List Int) (hi hj : Nat) (w : World) (hr : Nums .u8 w hi a c xs) (hs : Nums .u8 w hj a' d ys) (hB : hi ≤ w.heap.size) (hC : hj ≤ w.heap.size) (hlx : xs.length ≤ 1048576) (hk : dOk xs.length b = false) :
    Calls Try.prog 24 #[.agg #[.slice a xs.length c, .bool b], .slice a' ys.length d] w (FreshDecOk 5 xs b false w) := by
  have hc1 := hr.cap
  have hc2 := hr.big
  have hd1 := hs.cap
  have hd2 := hs.big
  have b1 := (Below.refl w.heap.size w).alloc (Nat.le_refl _) (.cells #[.slice a xs.length c, .bool b] 39)
  have b2 := b1.alloc (by simp) (.cells #[.slice none 0 0, .bool false] 39)
  have HR := Lib.hid (hr.below (b2.mono hB))
  have HS := Lib.hid (hs.below (b2.mono hC))
  have K0 := Lib.hid ((Blk.new w 39 #[.slice a xs.length c, .bool b]).alloc (.cells #[.slice none 0 0, .bool false] 39))
  have k1 := Blk.new (w.alloc (.cells #[.slice a xs.length c, .bool b] 39)) 39 #[.slice none 0 0, .bool false]
  rw [World.size_alloc] at k1
  have K1 := Lib.hid k1
  have B2 := Lib.hid b2
  have HD := Lib.hid (fun W => specDecOk_any a xs.length c b W (by omega))
  rw [hk] at HD
  clear hk
  clear hr hs b1 b2 k1
  go_enter Try.func24, Try.ntmps24
  go_wp2_with fail
  refine (l02Copy_any a _ c b xs _ _ HR.out rfl (by simp; omega) (by omega)).mono ?_
  rintro e w1 ⟨a1, c1, rfl, ho, hb⟩
  have hs1 := hb.size
  simp only [World.size_alloc] at hs1
  have kk0 := (K0.out.below hb).alloc (.cells #[.slice a1 xs.length c1, .bool b] 39)
  have kk1 := (K1.out.below hb).alloc (.cells #[.slice a1 xs.length c1, .bool b] 39)
  have q0 := kk0.cell
  have KK0 := Lib.hid kk0
  have KK1 := Lib.hid kk1
  have KG := Lib.hid (Blk.new w1 39 #[.slice a1 xs.length c1, .bool b])
  have HS1 := Lib.hid ((HS.out.below (hb.mono (by simp; omega))).below ((Below.refl hj w1).alloc (by omega) (.cells #[.slice a1 xs.length c1, .bool b] 39)))
  have B1 := Lib.hid ((B2.out.trans (hb.mono (by simp; omega))).alloc (by omega) (.cells #[.slice a1 xs.length c1, .bool b] 39))
  have O1 := Lib.hid (ho.alloc (.cells #[.slice a1 xs.length c1, .bool b] 39))
  clear ho hb kk0 kk1
  go_wp2_with fail
  refine (HD.out _).mono ?_
  rintro e w2 ⟨rfl, hb⟩
  clear q0
  have kk0 := KK0.out.below hb
  have kk1 := KK1.out.below hb
  have kg := KG.out.below hb
  have q0 := kk0.cell
  have LK1 := Lib.hid kk1
  have LKG := Lib.hid kg
  have HS2 := Lib.hid (HS1.out.below (hb.mono (by simp; omega)))
  have B2' := Lib.hid (B1.out.trans (hb.mono (by simp; omega)))
  have O2 := Lib.hid (owns_below O1.out hb)
  have hs2 := hb.size
  simp only [World.size_alloc] at hs2
  clear hb kk0 kk1 kg
  have qg := LKG.out.cell
  have q1 := LK1.out.cell
  have f1 := LK1.out.frozen
  have O2s := O2.out
  simp only [World.size_alloc] at O2s
  have HP := Lib.hid (decok_stored (g := w.heap.size + 1) b false O2s B2'.out (by omega))
  clear O2s
  go_wp2
  exact bodyPost_ret (v := .tuple #[.agg #[.slice a1 xs.length c1, .bool b], .bool false]) (by simp [results, Try.results24, go_sem, q1]) rfl HP.out
set_option maxHeartbeats 2000000 in
theorem specFeed_no2 (a a' : Option Addr) (c d : Nat) (xs ys : List Int) (hi hj : Nat) (w : World) (hr : Nums .u8 w hi a c xs) (hs : Nums .u8 w hj a' d ys) (hB : hi ≤ w.heap.size) (hC : hj ≤ w.heap.size) (hlx : xs.length ≤ 1048576) (hk : dOk xs.length true = true) :
    Calls Try.prog 24 #[.agg #[.slice a xs.length c, .bool true], .slice a' ys.length d] w (FreshDecOk 5 xs true false w) := by
  have hc1 := hr.cap
  have hc2 := hr.big
  have hd1 := hs.cap
  have hd2 := hs.big
  have b1 := (Below.refl w.heap.size w).alloc (Nat.le_refl _) (.cells #[.slice a xs.length c, .bool true] 39)
  have b2 := b1.alloc (by simp) (.cells #[.slice none 0 0, .bool false] 39)
  have HR := Lib.hid (hr.below (b2.mono hB))
  have HS := Lib.hid (hs.below (b2.mono hC))
  have K0 := Lib.hid ((Blk.new w 39 #[.slice a xs.length c, .bool true]).alloc (.cells #[.slice none 0 0, .bool false] 39))
  have k1 := Blk.new (w.alloc (.cells #[.slice a xs.length c, .bool true] 39)) 39 #[.slice none 0 0, .bool false]
  rw [World.size_alloc] at k1
  have K1 := Lib.hid k1
  have B2 := Lib.hid b2
  have HD := Lib.hid (fun W => specDecOk_any a xs.length c true W (by omega))
  rw [hk] at HD
  clear hk
  clear hr hs b1 b2 k1
  go_enter Try.func24, Try.ntmps24
  go_wp2_with fail
  refine (l02Copy_any a _ c true xs _ _ HR.out rfl (by simp; omega) (by omega)).mono ?_
  rintro e w1 ⟨a1, c1, rfl, ho, hb⟩
  have hs1 := hb.size
  simp only [World.size_alloc] at hs1
  have kk0 := (K0.out.below hb).alloc (.cells #[.slice a1 xs.length c1, .bool true] 39)
  have kk1 := (K1.out.below hb).alloc (.cells #[.slice a1 xs.length c1, .bool true] 39)
  have q0 := kk0.cell
  have KK0 := Lib.hid kk0
  have KK1 := Lib.hid kk1
  have KG := Lib.hid (Blk.new w1 39 #[.slice a1 xs.length c1, .bool true])
  have HS1 := Lib.hid ((HS.out.below (hb.mono (by simp; omega))).below ((Below.refl hj w1).alloc (by omega) (.cells #[.slice a1 xs.length c1, .bool true] 39)))
  have B1 := Lib.hid ((B2.out.trans (hb.mono (by simp; omega))).alloc (by omega) (.cells #[.slice a1 xs.length c1, .bool true] 39))
  have O1 := Lib.hid (ho.alloc (.cells #[.slice a1 xs.length c1, .bool true] 39))
  clear ho hb kk0 kk1
  go_wp2_with fail
  refine (HD.out _).mono ?_
  rintro e w2 ⟨rfl, hb⟩
  clear q0
  have kk0 := KK0.out.below hb
  have kk1 := KK1.out.below hb
  have kg := KG.out.below hb
  have q0 := kk0.cell
  have LK1 := Lib.hid kk1
  have LKG := Lib.hid kg
  have HS2 := Lib.hid (HS1.out.below (hb.mono (by simp; omega)))
  have B2' := Lib.hid (B1.out.trans (hb.mono (by simp; omega)))
  have O2 := Lib.hid (owns_below O1.out hb)
  have hs2 := hb.size
  simp only [World.size_alloc] at hs2
  clear hb kk0 kk1 kg
  have qg := LKG.out.cell
  have q1 := LK1.out.cell
  have f1 := LK1.out.frozen
  have O2s := O2.out
  simp only [World.size_alloc] at O2s
  have HP := Lib.hid (decok_stored (g := w.heap.size + 1) true false O2s B2'.out (by omega))
  clear O2s
  go_wp2
  exact bodyPost_ret (v := .tuple #[.agg #[.slice a1 xs.length c1, .bool true], .bool false]) (by simp [results, Try.results24, go_sem, q1]) rfl HP.out
set_option maxHeartbeats 2000000 in
theorem specFeed_no3 (a a' : Option Addr) (c d : Nat) (xs ys : List Int) (hi hj : Nat) (w : World) (hr : Nums .u8 w hi a c xs) (hs : Nums .u8 w hj a' d ys) (hB : hi ≤ w.heap.size) (hC : hj ≤ w.heap.size) (hlx : xs.length ≤ 1048576) (hk : dOk xs.length false = true) (h4 : ¬ xs.length + ys.length ≤ 400) :
    Calls Try.prog 24 #[.agg #[.slice a xs.length c, .bool false], .slice a' ys.length d] w (FreshDecOk 5 xs false false w) := by
  have hc1 := hr.cap
  have hc2 := hr.big
  have hd1 := hs.cap
  have hd2 := hs.big
  have b1 := (Below.refl w.heap.size w).alloc (Nat.le_refl _) (.cells #[.slice a xs.length c, .bool false] 39)
  have b2 := b1.alloc (by simp) (.cells #[.slice none 0 0, .bool false] 39)
  have HR := Lib.hid (hr.below (b2.mono hB))
  have HS := Lib.hid (hs.below (b2.mono hC))
  have K0 := Lib.hid ((Blk.new w 39 #[.slice a xs.length c, .bool false]).alloc (.cells #[.slice none 0 0, .bool false] 39))
  have k1 := Blk.new (w.alloc (.cells #[.slice a xs.length c, .bool false] 39)) 39 #[.slice none 0 0, .bool false]
  rw [World.size_alloc] at k1
  have K1 := Lib.hid k1
  have B2 := Lib.hid b2
  have HD := Lib.hid (fun W => specDecOk_any a xs.length c false W (by omega))
  rw [hk] at HD
  have hx4 : xs.length ≤ 400 := by by_cases h : xs.length ≤ 400 <;> simp_all [dOk]
  clear hk
  clear hr hs b1 b2 k1
  go_enter Try.func24, Try.ntmps24
  go_wp2_with fail
  refine (l02Copy_any a _ c false xs _ _ HR.out rfl (by simp; omega) (by omega)).mono ?_
  rintro e w1 ⟨a1, c1, rfl, ho, hb⟩
  have hs1 := hb.size
  simp only [World.size_alloc] at hs1
  have kk0 := (K0.out.below hb).alloc (.cells #[.slice a1 xs.length c1, .bool false] 39)
  have kk1 := (K1.out.below hb).alloc (.cells #[.slice a1 xs.length c1, .bool false] 39)
  have q0 := kk0.cell
  have KK0 := Lib.hid kk0
  have KK1 := Lib.hid kk1
  have KG := Lib.hid (Blk.new w1 39 #[.slice a1 xs.length c1, .bool false])
  have HS1 := Lib.hid ((HS.out.below (hb.mono (by simp; omega))).below ((Below.refl hj w1).alloc (by omega) (.cells #[.slice a1 xs.length c1, .bool false] 39)))
  have B1 := Lib.hid ((B2.out.trans (hb.mono (by simp; omega))).alloc (by omega) (.cells #[.slice a1 xs.length c1, .bool false] 39))
  have O1 := Lib.hid (ho.alloc (.cells #[.slice a1 xs.length c1, .bool false] 39))
  clear ho hb kk0 kk1
  go_wp2_with fail
  refine (HD.out _).mono ?_
  rintro e w2 ⟨rfl, hb⟩
  clear q0
  have kk0 := KK0.out.below hb
  have kk1 := KK1.out.below hb
  have kg := KG.out.below hb
  have q0 := kk0.cell
  have LK1 := Lib.hid kk1
  have LKG := Lib.hid kg
  have HS2 := Lib.hid (HS1.out.below (hb.mono (by simp; omega)))
  have B2' := Lib.hid (B1.out.trans (hb.mono (by simp; omega)))
  have O2 := Lib.hid (owns_below O1.out hb)
  have hs2 := hb.size
  simp only [World.size_alloc] at hs2
  clear hb kk0 kk1 kg
  have qg := LKG.out.cell
  have q1 := LK1.out.cell
  have f1 := LK1.out.frozen
  have O2s := O2.out
  simp only [World.size_alloc] at O2s
  have HP := Lib.hid (decok_stored (g := w.heap.size + 1) false false O2s B2'.out (by omega))
  clear O2s
  go_wp2
  exact bodyPost_ret (v := .tuple #[.agg #[.slice a1 xs.length c1, .bool false], .bool false]) (by simp [results, Try.results24, go_sem, q1]) rfl HP.out
theorem specFeed_any (a a' : Option Addr) (n c m d : Nat) (b : Bool) (xs ys : List Int) (hi hj : Nat) (w : World) (hr : Nums .u8 w hi a c xs) (hs : Nums .u8 w hj a' d ys) (hn : n = xs.length) (hm : m = ys.length) (hB : hi ≤ w.heap.size) (hC : hj ≤ w.heap.size) (hlx : xs.length ≤ 1048576) :
    Calls Try.prog 24 #[.agg #[.slice a n c, .bool b], .slice a' m d] w (FreshDecOk 5 (feedL xs b ys) b (feedOk xs b ys) w) := by
  subst hn
  subst hm
  cases hk : dOk xs.length b with
  | false =>
    rw [feedL_no (feed_no1 hk), feed_no1 hk]
    exact specFeed_no1 a a' c d b xs ys hi hj w hr hs hB hC hlx hk
  | true =>
    cases b with
    | true =>
      rw [feedL_no feed_no2, feed_no2]
      exact specFeed_no2 a a' c d xs ys hi hj w hr hs hB hC hlx hk
    | false =>
      by_cases h4 : xs.length + ys.length ≤ 400
      · rw [feedL_yes (feed_yes h4), feed_yes h4]
        exact specFeed_yes a a' c d xs ys hi hj w hr hs hB hC h4
      · rw [feedL_no (feed_no3 h4), feed_no3 h4]
        exact specFeed_no3 a a' c d xs ys hi hj w hr hs hB hC hlx hk h4

end Go.Proofs.Ytmiapmgeacleoaa
