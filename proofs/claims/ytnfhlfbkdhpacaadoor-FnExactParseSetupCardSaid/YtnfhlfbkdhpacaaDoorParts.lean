/- The contract of spec.l01Parts: a text parted at each byte of one kind. -/
import Derived.Test.YtnfhlfbkdhpacaaDoorPlainRead
import Derived.Test.YtnfhlfbkdhpacaaDoorProg
import Derived.WalkKit
import Derived.WalkSpells
import Derived.ProofKit
import Derived.Below
import Derived.Outline
import Derived.Lib.Hide
import Derived.OwnWalk
import Derived.Laws.OwnMore
import Derived.Maps.AppendAt
namespace Go.Proofs.YtnfhlfbkdhpacaaDoor
open Go.RowKit

theorem infoS : (Tryd.prog.info? 9).map (fun i => (i.zero, i.size, i.bytes)) = some (some (.string ⟨#[]⟩), 1, 16) := by kernel_rfl

set_option maxRecDepth 100000 in
set_option maxHeartbeats 1000000 in
theorem parts_any (l : List UInt8) (y : UInt8) (hl : l.length ≤ 1048576) (w : World) :
    Calls Tryd.prog 43 #[.string (str l), .int .u8 (y.toNat : Int)] w fun e w' => ∃ v, e = .returned v ∧ w'.ownsRow w.heap.size 9 1 v (cutAll y l).length (strs (cutAll y l)) ∧ Below w.heap.size w w' := by
  obtain ⟨i0, hi, hz0, hz1, hz2⟩ := info_parts infoS
  go_enter Tryd.func43, Tryd.ntmps43
  go_wp2
  go_loopw [5, 6, 7] (fun v a i wr => ∃ k : Nat, k ≤ l.length + 1 ∧ i = .int .i64 k ∧ a = .int .i64 ((cutSt y l k).2 : Int) ∧ wr.ownsRow w.heap.size 9 1 v (cutSt y l k).1.length (strs (cutSt y l k).1) ∧ Below w.heap.size w wr) (fun _ _ i _ => l.length + 1 - (intOf i).toNat)
  case atStart => exact ⟨0, Nat.zero_le _, rfl, rfl, World.ownsRow_lit w #[] 0 (Nat.le_refl _) (Nat.zero_le _) rfl, (Below.refl _ _).alloc (Nat.le_refl _) _⟩
  case round =>
    obtain ⟨k, hk, rfl, rfl, hown, hbel⟩ := hrel
    by_cases hlt : k < l.length
    · have hne : ((k : Int) == (l.length : Int)) = false := by simp; omega
      have hm1 := cutSt_le y l k (by omega)
      have hm2 := cutSt_len y l k (by omega)
      have hkb : k < (str l).size := by rw [str_size]; exact hlt
      cases hb : ((((str l)[k]'hkb).toNat : Int) == (y.toNat : Int)) with
      | false =>
        have H := Lib.hid (cutSt_miss y l k hlt (byte_miss hlt hkb hb))
        go_wp2
        go_roundw
        case rel => exact ⟨k + 1, by omega, by go_num, by rw [H.out], by rw [H.out]; exact hown, hbel⟩
        case measure => simp [intOf]; omega
      | true =>
        have H := Lib.hid (cutSt_hit y l k hlt (byte_hit hlt hkb hb))
        generalize cutSt y l k = st at *
        obtain ⟨o, m⟩ := st
        simp only at hm1 hm2
        go_wp2_with (at_builtin; refine wpList_append_own _ rfl _ _ 77 rfl w.heap.size 9 i0 (.string ⟨#[]⟩) 1 16 Tryd.underlying77 hi hz0 hz1 hz2 rfl (by decide) _ _ _ rfl (hown.alloc _) ⟨wr.heap.size, 0, none⟩ 1 1 [.string ((str l).extract m k)] rfl rfl ?c1 ?c2 ?c3 ?c4 ?c5 ?_)
        case c2 => rfl
        case c3 => unfold maxLen; omega
        case c4 => omega
        case c5 => have := hbel.size; omega
        intro v' w1 hown' hgrow _
        have hb1 := (hbel.alloc hbel.size (.cells #[.string ((str l).extract m k)] 9)).grown hgrow (by have := hbel.size; simp; omega) (fun k hk => (hown.lt k hk).1)
        rw [extract_str, strs_snoc] at hown'
        have hown2 : w1.ownsRow w.heap.size 9 1 v' (cutSt y l (k + 1)).1.length (strs (cutSt y l (k + 1)).1) := by rw [H.out]; simpa using hown'
        have HA : Hid ((cutSt y l (k + 1)).2 = k + 1) := by rw [H.out]; rfl
        clear hown' hgrow hown
        go_wp2
        go_roundw
        case rel => exact ⟨k + 1, by omega, by go_num, by rw [HA.out]; go_num, hown2, hb1⟩
        case measure => simp [intOf]; omega
    · by_cases hle : k = l.length
      · subst hle
        have hne : ((l.length : Int) == (l.length : Int)) = true := by simp
        have hm1 := cutSt_le y l l.length (by omega)
        have hm2 := cutSt_len y l l.length (by omega)
        have H := Lib.hid (cutSt_last y l)
        clear hlt
        generalize cutSt y l l.length = st at *
        obtain ⟨o, m⟩ := st
        simp only at hm1 hm2
        go_wp2_with (at_builtin; refine wpList_append_own _ rfl _ _ 77 rfl w.heap.size 9 i0 (.string ⟨#[]⟩) 1 16 Tryd.underlying77 hi hz0 hz1 hz2 rfl (by decide) _ _ _ rfl (hown.alloc _) ⟨wr.heap.size, 0, none⟩ 1 1 [.string ((str l).extract m l.length)] rfl rfl ?d1 ?d2 ?d3 ?d4 ?d5 ?_)
        case d2 => rfl
        case d3 => unfold maxLen; omega
        case d4 => omega
        case d5 => have := hbel.size; omega
        intro v' w1 hown' hgrow _
        have hb1 := (hbel.alloc hbel.size (.cells #[.string ((str l).extract m l.length)] 9)).grown hgrow (by have := hbel.size; simp; omega) (fun k hk => (hown.lt k hk).1)
        rw [extract_str, strs_snoc] at hown'
        have hown2 : w1.ownsRow w.heap.size 9 1 v' (cutSt y l (l.length + 1)).1.length (strs (cutSt y l (l.length + 1)).1) := by rw [H.out]; simpa using hown'
        have HA : Hid ((cutSt y l (l.length + 1)).2 = l.length + 1) := by rw [H.out]; rfl
        clear hown' hgrow hown
        go_wp2
        go_roundw
        case rel => exact ⟨l.length + 1, by omega, by go_num, by rw [HA.out]; go_num, hown2, hb1⟩
        case measure => simp [intOf]
      · obtain rfl : k = l.length + 1 := by omega
        have H := Lib.hid (cutSt_end y l)
        go_wp2
        go_ret
        exact ⟨_, rfl, by rw [← H.out]; exact hown, hbel⟩

end Go.Proofs.YtnfhlfbkdhpacaaDoor
