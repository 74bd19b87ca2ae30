/- Contract of impl.PutFrame: a frame as bytes (putL). -/
import Derived.Test.YtnfhlfbkdhpacaaGreatDoorPut
import Derived.Test.YtnfhlfbkdhpacaaGreatDoorJoint1
namespace Go.Proofs.YtnfhlfbkdhpacaaGreatDoor
open Go.RowKit

theorem nums_one (k : IntKind) (xs : List Int) : ∀ u ∈ xs.map (Value.int k), u.oneCell' = true := by
  intro u hu
  simp only [List.mem_map] at hu
  obtain ⟨x, _, rfl⟩ := hu
  rfl
theorem owns_head {w : World} {lo : Nat} {T : TypeId} {a : Option Addr} {n c : Nat} {xs : List Value} (h : w.ownsRow lo T 1 (.slice a n c) n xs) (h0 : 1 ≤ n) : ∃ g, a = some ⟨g, 0, none⟩ := by
  rcases h.2 with ⟨hv, h1⟩ | ⟨g, cap, cur, hv, _⟩
  · omega
  · simp only [Value.slice.injEq] at hv
    exact ⟨g, hv.1⟩
theorem owns_lt {w : World} {lo : Nat} {T : TypeId} {sz n : Nat} {v : Value} {xs : List Value} (h : w.ownsRow lo T sz v n xs) : ∀ k, v.ownBlock = some k → k < w.heap.size := fun k hk => (h.lt k hk).2
theorem owns_belowB {w w' : World} {lo B : Nat} {T : TypeId} {sz n : Nat} {v : Value} {xs : List Value} (h : w.ownsRow lo T sz v n xs) (hb : Below B w w') (hl : ∀ k, v.ownBlock = some k → k < B) : w'.ownsRow lo T sz v n xs := by
  refine ⟨h.1, ?_⟩
  rcases h.2 with h2 | ⟨g, cap, cur, hv, hg, hh, r⟩
  · exact .inl h2
  · refine .inr ⟨g, cap, cur, hv, hg, ?_, r⟩
    subst hv
    rw [hb.block g (hl g rfl)]
    exact hh


set_option maxHeartbeats 2000000 in
theorem implPut_event (y t v : Int) (hf : fOk 1 y t v = true) (hb : 0 ≤ y ∧ y ≤ 65535 ∧ 0 ≤ t ∧ t ≤ 1000000 ∧ -1000000 ≤ v ∧ v ≤ 1000000) (w : World) :
    Calls Tryz.prog 158 #[(.agg #[.int .i64 1, .int .i64 y, .int .i64 t, .int .i64 v])] w (FreshNums 5 .u8 (putL 1 y t v) w) := by
  have hm := meth_eput
  obtain ⟨i0, hi0, hz0, hz1, hz2⟩ := info_parts infoU8
  have HE := Lib.hid (putL_yes hf)
  have hlen := bodyL_len 1 y t v
  have HBB := Lib.hid (bodyL_isB 1 y t v)
  have hcr := crc_bd (bodyL_isB 1 y t v)
  have HF := Lib.hid (implFrameOk_any 1 y t v)
  rw [hf] at HF
  clear hf
  have k0 := Blk.new w 97 #[.int .i64 1, .int .i64 y, .int .i64 t, .int .i64 v]
  have b0 := Lib.hid ((Below.refl w.heap.size w).alloc (Nat.le_refl _) (.cells #[.int .i64 1, .int .i64 y, .int .i64 t, .int .i64 v] 97))
  have K0 := Lib.hid k0
  clear k0
  have HPUT : Hid (∀ W : World, Calls Tryz.prog 367 #[(.agg #[.int .i64 y, .int .i64 t, .int .i64 v])] W (FreshNums 5 .u8 (bodyL 1 y t v) W)) := fun W => eventPut_any y t v hb.1 hb.2.1 hb.2.2.1 hb.2.2.2.1 hb.2.2.2.2.1 hb.2.2.2.2.2 W
  generalize hL : bodyL 1 y t v = L at *
  clear hL
  go_enter Tryz.func158, Tryz.ntmps158
  go_wp2_with fail
  refine (HF.out _).mono ?_
  rintro e w1 ⟨rfl, hb1⟩
  have k1 := K0.out.below hb1
  have q1 := k1.cell
  have K1 := Lib.hid k1
  have B1 := Lib.hid (b0.out.trans (hb1.mono (by simp)))
  clear hb1 k1
  go_wp2_with fail
  refine (bodyOf_event y t v _).mono ?_
  rintro e w2 ⟨rfl, hb2⟩
  have B2 := Lib.hid (below_next B1.out hb2)
  clear hb2
  go_wp2_with fail
  refine (HPUT.out _).mono ?_
  rintro e w3 ⟨a3, c3, rfl, ho3, hb3⟩
  have B3 := Lib.hid (below_next B2.out hb3)
  have O3 := Lib.hid ho3
  have S3 := hb3.size
  have n3 := (Nums.of_own ho3).2.cap
  have n4 := (Nums.of_own ho3).2.big
  clear hb3 ho3
  go_wp2_with fail
  refine (putNumber_any none 0 0 [] _ 1 w3.heap.size (by omega) (by omega) (by omega) _ (World.ownsRow_nil _ _ _ _) rfl (by simp) (Nat.le_refl _)).mono ?_
  rintro e w4 ⟨a4, c4, rfl, ho4, hb4⟩
  have O4 := Lib.hid ho4
  have O3' := Lib.hid (owns_below O3.out hb4)
  have B4 := Lib.hid (below_next B3.out hb4)
  have S4 := hb4.size
  clear ho4 hb4
  obtain ⟨g, hg⟩ := owns_head O3'.out (by omega)
  subst hg
  go_wp2_with (at_builtin; refine wpList_append_own _ rfl _ _ 60 rfl w3.heap.size 5 i0 (.int .u8 0) 1 1 Tryz.underlying60 hi0 hz0 hz1 hz2 rfl (by decide) _ _ _ rfl O4.out ⟨g, 0, none⟩ L.length c3 (L.map (Value.int .u8)) rfl (by simp) (O3'.out.cells rfl) (nums_one _ _) ?c3 ?c4 ?c5 ?_)
  case c3 => unfold maxLen; simp [wide_len]; omega
  case c4 => simp [wide_len]; omega
  case c5 => omega
  intro v' w5 hown' hg5 _
  obtain ⟨a5, c5, rfl⟩ := owns_shape hown'
  have hb5 := below_own O4.out hg5 S4
  have S5 := hb5.size
  have O3s := Lib.hid (owns_belowB O3'.out hb5 (owns_lt O3.out))
  have B5 := Lib.hid (B4.out.trans (hb5.mono (by have := B3.out.size; omega)))
  have hown2 : w5.ownsRow w3.heap.size 5 1 (.slice a5 (([] ++ wide 1 (L.length : Int)).length + L.length) c5) (([] ++ wide 1 (L.length : Int)).length + L.length) ((([] ++ wide 1 (L.length : Int)) ++ L).map (Value.int .u8)) := by rw [List.map_append]; exact hown'
  have O5 := Lib.hid hown2
  clear hown' hg5 hb5 hown2
  go_wp2_with fail
  refine (implCheck_any _ _ _ L _ _ (Nums.of_own O3s.out).2 rfl HBB.out).mono ?_
  rintro e w' ⟨rfl, rfl⟩
  go_wp2_with fail
  refine (putNumber_any _ _ _ (([] ++ wide 1 (L.length : Int)) ++ L) (crc L) 4 w3.heap.size hcr.1 hcr.2 (by omega) _ O5.out ?hm6 ?hl6 (by omega)).mono ?_
  case hm6 => simp
  case hl6 => simp [wide_len]; omega
  rintro e w6 ⟨a6, c6, rfl, ho6, hb6⟩
  have hS := B3.out.size
  have HP : Hid (FreshNums 5 .u8 (putL 1 y t v) w (.returned (.slice a6 ((([] ++ wide 1 (L.length : Int)) ++ L) ++ wide 4 (crc L)).length c6)) w6) := by
    unfold FreshNums
    rw [HE.out, ← wide_one (x := (L.length : Int)) (by omega) (by omega)]
    exact ⟨a6, c6, rfl, owns_less ho6 hS, B5.out.trans (hb6.mono hS)⟩
  clear ho6 hb6
  go_wp2
  go_ret
  exact fresh_as HP.out (by simp)
set_option maxHeartbeats 2000000 in
theorem implPut_mark (y t v : Int) (hf : fOk 2 y t v = true) (hb : 0 ≤ t ∧ t ≤ 1000000) (w : World) :
    Calls Tryz.prog 158 #[(.agg #[.int .i64 2, .int .i64 y, .int .i64 t, .int .i64 v])] w (FreshNums 5 .u8 (putL 2 y t v) w) := by
  have hm := meth_mput
  obtain ⟨i0, hi0, hz0, hz1, hz2⟩ := info_parts infoU8
  have HE := Lib.hid (putL_yes hf)
  have hlen := bodyL_len 2 y t v
  have HBB := Lib.hid (bodyL_isB 2 y t v)
  have hcr := crc_bd (bodyL_isB 2 y t v)
  have HF := Lib.hid (implFrameOk_any 2 y t v)
  rw [hf] at HF
  clear hf
  have k0 := Blk.new w 97 #[.int .i64 2, .int .i64 y, .int .i64 t, .int .i64 v]
  have b0 := Lib.hid ((Below.refl w.heap.size w).alloc (Nat.le_refl _) (.cells #[.int .i64 2, .int .i64 y, .int .i64 t, .int .i64 v] 97))
  have K0 := Lib.hid k0
  clear k0
  have HPUT : Hid (∀ W : World, Calls Tryz.prog 369 #[(.agg #[.int .i64 t])] W (FreshNums 5 .u8 (bodyL 2 y t v) W)) := fun W => markPut_any y t v hb.1 hb.2 W
  generalize hL : bodyL 2 y t v = L at *
  clear hL
  go_enter Tryz.func158, Tryz.ntmps158
  go_wp2_with fail
  refine (HF.out _).mono ?_
  rintro e w1 ⟨rfl, hb1⟩
  have k1 := K0.out.below hb1
  have q1 := k1.cell
  have K1 := Lib.hid k1
  have B1 := Lib.hid (b0.out.trans (hb1.mono (by simp)))
  clear hb1 k1
  go_wp2_with fail
  refine (bodyOf_mark y t v _).mono ?_
  rintro e w2 ⟨rfl, hb2⟩
  have B2 := Lib.hid (below_next B1.out hb2)
  clear hb2
  go_wp2_with fail
  refine (HPUT.out _).mono ?_
  rintro e w3 ⟨a3, c3, rfl, ho3, hb3⟩
  have B3 := Lib.hid (below_next B2.out hb3)
  have O3 := Lib.hid ho3
  have S3 := hb3.size
  have n3 := (Nums.of_own ho3).2.cap
  have n4 := (Nums.of_own ho3).2.big
  clear hb3 ho3
  go_wp2_with fail
  refine (putNumber_any none 0 0 [] _ 1 w3.heap.size (by omega) (by omega) (by omega) _ (World.ownsRow_nil _ _ _ _) rfl (by simp) (Nat.le_refl _)).mono ?_
  rintro e w4 ⟨a4, c4, rfl, ho4, hb4⟩
  have O4 := Lib.hid ho4
  have O3' := Lib.hid (owns_below O3.out hb4)
  have B4 := Lib.hid (below_next B3.out hb4)
  have S4 := hb4.size
  clear ho4 hb4
  obtain ⟨g, hg⟩ := owns_head O3'.out (by omega)
  subst hg
  go_wp2_with (at_builtin; refine wpList_append_own _ rfl _ _ 60 rfl w3.heap.size 5 i0 (.int .u8 0) 1 1 Tryz.underlying60 hi0 hz0 hz1 hz2 rfl (by decide) _ _ _ rfl O4.out ⟨g, 0, none⟩ L.length c3 (L.map (Value.int .u8)) rfl (by simp) (O3'.out.cells rfl) (nums_one _ _) ?c3 ?c4 ?c5 ?_)
  case c3 => unfold maxLen; simp [wide_len]; omega
  case c4 => simp [wide_len]; omega
  case c5 => omega
  intro v' w5 hown' hg5 _
  obtain ⟨a5, c5, rfl⟩ := owns_shape hown'
  have hb5 := below_own O4.out hg5 S4
  have S5 := hb5.size
  have O3s := Lib.hid (owns_belowB O3'.out hb5 (owns_lt O3.out))
  have B5 := Lib.hid (B4.out.trans (hb5.mono (by have := B3.out.size; omega)))
  have hown2 : w5.ownsRow w3.heap.size 5 1 (.slice a5 (([] ++ wide 1 (L.length : Int)).length + L.length) c5) (([] ++ wide 1 (L.length : Int)).length + L.length) ((([] ++ wide 1 (L.length : Int)) ++ L).map (Value.int .u8)) := by rw [List.map_append]; exact hown'
  have O5 := Lib.hid hown2
  clear hown' hg5 hb5 hown2
  go_wp2_with fail
  refine (implCheck_any _ _ _ L _ _ (Nums.of_own O3s.out).2 rfl HBB.out).mono ?_
  rintro e w' ⟨rfl, rfl⟩
  go_wp2_with fail
  refine (putNumber_any _ _ _ (([] ++ wide 1 (L.length : Int)) ++ L) (crc L) 4 w3.heap.size hcr.1 hcr.2 (by omega) _ O5.out ?hm6 ?hl6 (by omega)).mono ?_
  case hm6 => simp
  case hl6 => simp [wide_len]; omega
  rintro e w6 ⟨a6, c6, rfl, ho6, hb6⟩
  have hS := B3.out.size
  have HP : Hid (FreshNums 5 .u8 (putL 2 y t v) w (.returned (.slice a6 ((([] ++ wide 1 (L.length : Int)) ++ L) ++ wide 4 (crc L)).length c6)) w6) := by
    unfold FreshNums
    rw [HE.out, ← wide_one (x := (L.length : Int)) (by omega) (by omega)]
    exact ⟨a6, c6, rfl, owns_less ho6 hS, B5.out.trans (hb6.mono hS)⟩
  clear ho6 hb6
  go_wp2
  go_ret
  exact fresh_as HP.out (by simp)
set_option maxHeartbeats 2000000 in
theorem implPut_bye (y t v : Int) (hf : fOk 3 y t v = true) (w : World) :
    Calls Tryz.prog 158 #[(.agg #[.int .i64 3, .int .i64 y, .int .i64 t, .int .i64 v])] w (FreshNums 5 .u8 (putL 3 y t v) w) := by
  have hm := meth_bput
  obtain ⟨i0, hi0, hz0, hz1, hz2⟩ := info_parts infoU8
  have HE := Lib.hid (putL_yes hf)
  have hlen := bodyL_len 3 y t v
  have HBB := Lib.hid (bodyL_isB 3 y t v)
  have hcr := crc_bd (bodyL_isB 3 y t v)
  have HF := Lib.hid (implFrameOk_any 3 y t v)
  rw [hf] at HF
  clear hf
  have k0 := Blk.new w 97 #[.int .i64 3, .int .i64 y, .int .i64 t, .int .i64 v]
  have b0 := Lib.hid ((Below.refl w.heap.size w).alloc (Nat.le_refl _) (.cells #[.int .i64 3, .int .i64 y, .int .i64 t, .int .i64 v] 97))
  have K0 := Lib.hid k0
  clear k0
  have HPUT : Hid (∀ W : World, Calls Tryz.prog 371 #[.agg #[]] W (FreshNums 5 .u8 (bodyL 3 y t v) W)) := fun W => byePut_any y t v W
  generalize hL : bodyL 3 y t v = L at *
  clear hL
  go_enter Tryz.func158, Tryz.ntmps158
  go_wp2_with fail
  refine (HF.out _).mono ?_
  rintro e w1 ⟨rfl, hb1⟩
  have k1 := K0.out.below hb1
  have q1 := k1.cell
  have K1 := Lib.hid k1
  have B1 := Lib.hid (b0.out.trans (hb1.mono (by simp)))
  clear hb1 k1
  go_wp2_with fail
  refine (bodyOf_bye y t v _).mono ?_
  rintro e w2 ⟨rfl, hb2⟩
  have B2 := Lib.hid (below_next B1.out hb2)
  clear hb2
  go_wp2_with fail
  refine (HPUT.out _).mono ?_
  rintro e w3 ⟨a3, c3, rfl, ho3, hb3⟩
  have B3 := Lib.hid (below_next B2.out hb3)
  have O3 := Lib.hid ho3
  have S3 := hb3.size
  have n3 := (Nums.of_own ho3).2.cap
  have n4 := (Nums.of_own ho3).2.big
  clear hb3 ho3
  go_wp2_with fail
  refine (putNumber_any none 0 0 [] _ 1 w3.heap.size (by omega) (by omega) (by omega) _ (World.ownsRow_nil _ _ _ _) rfl (by simp) (Nat.le_refl _)).mono ?_
  rintro e w4 ⟨a4, c4, rfl, ho4, hb4⟩
  have O4 := Lib.hid ho4
  have O3' := Lib.hid (owns_below O3.out hb4)
  have B4 := Lib.hid (below_next B3.out hb4)
  have S4 := hb4.size
  clear ho4 hb4
  obtain ⟨g, hg⟩ := owns_head O3'.out (by omega)
  subst hg
  go_wp2_with (at_builtin; refine wpList_append_own _ rfl _ _ 60 rfl w3.heap.size 5 i0 (.int .u8 0) 1 1 Tryz.underlying60 hi0 hz0 hz1 hz2 rfl (by decide) _ _ _ rfl O4.out ⟨g, 0, none⟩ L.length c3 (L.map (Value.int .u8)) rfl (by simp) (O3'.out.cells rfl) (nums_one _ _) ?c3 ?c4 ?c5 ?_)
  case c3 => unfold maxLen; simp [wide_len]; omega
  case c4 => simp [wide_len]; omega
  case c5 => omega
  intro v' w5 hown' hg5 _
  obtain ⟨a5, c5, rfl⟩ := owns_shape hown'
  have hb5 := below_own O4.out hg5 S4
  have S5 := hb5.size
  have O3s := Lib.hid (owns_belowB O3'.out hb5 (owns_lt O3.out))
  have B5 := Lib.hid (B4.out.trans (hb5.mono (by have := B3.out.size; omega)))
  have hown2 : w5.ownsRow w3.heap.size 5 1 (.slice a5 (([] ++ wide 1 (L.length : Int)).length + L.length) c5) (([] ++ wide 1 (L.length : Int)).length + L.length) ((([] ++ wide 1 (L.length : Int)) ++ L).map (Value.int .u8)) := by rw [List.map_append]; exact hown'
  have O5 := Lib.hid hown2
  clear hown' hg5 hb5 hown2
  go_wp2_with fail
  refine (implCheck_any _ _ _ L _ _ (Nums.of_own O3s.out).2 rfl HBB.out).mono ?_
  rintro e w' ⟨rfl, rfl⟩
  go_wp2_with fail
  refine (putNumber_any _ _ _ (([] ++ wide 1 (L.length : Int)) ++ L) (crc L) 4 w3.heap.size hcr.1 hcr.2 (by omega) _ O5.out ?hm6 ?hl6 (by omega)).mono ?_
  case hm6 => simp
  case hl6 => simp [wide_len]; omega
  rintro e w6 ⟨a6, c6, rfl, ho6, hb6⟩
  have hS := B3.out.size
  have HP : Hid (FreshNums 5 .u8 (putL 3 y t v) w (.returned (.slice a6 ((([] ++ wide 1 (L.length : Int)) ++ L) ++ wide 4 (crc L)).length c6)) w6) := by
    unfold FreshNums
    rw [HE.out, ← wide_one (x := (L.length : Int)) (by omega) (by omega)]
    exact ⟨a6, c6, rfl, owns_less ho6 hS, B5.out.trans (hb6.mono hS)⟩
  clear ho6 hb6
  go_wp2
  go_ret
  exact fresh_as HP.out (by simp)
theorem implPut_no (k y t v : Int) (hf : fOk k y t v = false) (w : World) :
    Calls Tryz.prog 158 #[(.agg #[.int .i64 k, .int .i64 y, .int .i64 t, .int .i64 v])] w (FreshNums 5 .u8 (putL k y t v) w) := by
  rw [putL_no hf]
  have HF := Lib.hid (implFrameOk_any k y t v)
  rw [hf] at HF
  clear hf
  have b0 := Lib.hid ((Below.refl w.heap.size w).alloc (Nat.le_refl _) (.cells #[.int .i64 k, .int .i64 y, .int .i64 t, .int .i64 v] 97))
  go_enter Tryz.func158, Tryz.ntmps158
  go_wp2_with fail
  refine (HF.out _).mono ?_
  rintro e w1 ⟨rfl, hb1⟩
  have HP : Hid (FreshNums 5 .u8 [] w (.returned (.slice none 0 0)) w1) := ⟨none, 0, rfl, World.ownsRow_nil _ _ _ _, b0.out.trans (hb1.mono (by simp))⟩
  clear hb1
  go_wp2
  go_ret
  exact HP.out
theorem implPut_any (k y t v : Int) (w : World) :
    Calls Tryz.prog 158 #[(.agg #[.int .i64 k, .int .i64 y, .int .i64 t, .int .i64 v])] w (FreshNums 5 .u8 (putL k y t v) w) := by
  cases hf : fOk k y t v with
  | false => exact implPut_no k y t v hf w
  | true =>
    rcases fOk_bd hf with ⟨rfl, h⟩ | ⟨rfl, _, h, h2, _⟩ | ⟨rfl, _⟩
    · exact implPut_event y t v hf h w
    · exact implPut_mark y t v hf ⟨h, h2⟩ w
    · exact implPut_bye y t v hf w

end Go.Proofs.YtnfhlfbkdhpacaaGreatDoor
