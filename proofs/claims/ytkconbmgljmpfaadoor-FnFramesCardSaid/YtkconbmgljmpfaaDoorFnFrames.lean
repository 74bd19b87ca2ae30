/- TakeFrame of PutFrame is the frame; cut shorter it is asked for more; with a byte turned it is not read as it was: the law FnFrames returns true for every slice of bytes that the draws are made of, and the slice reads as before. Conditions: the two faults of the program are as its text lays them (tied). -/
import Derived.Test.YtkconbmgljmpfaaDoorRows
import Derived.Test.YtkconbmgljmpfaaDoorCards
import Derived.Test.YtkconbmgljmpfaaDoorTie
import Derived.Test.YtkconbmgljmpfaaDoorOpen
import Derived.Test.YtkconbmgljmpfaaDoorFlt
import Derived.Test.YtkconbmgljmpfaaDoorTakeImpl
import Derived.Test.YtkconbmgljmpfaaDoorClone
import Derived.Test.YtkconbmgljmpfaaDoorImplPut
import Derived.Test.YtkconbmgljmpfaaDoorSpecPut
import Derived.Test.YtkconbmgljmpfaaDoorFrHelp
import Derived.Test.YtkconbmgljmpfaaDoorHeld
import Derived.Test.YtkconbmgljmpfaaDoorLawS
import Derived.WalkSmall
import Derived.WalkKit
import Derived.ProofKit
import Derived.OpenShut
import Derived.OpenVars
import Derived.Lay
import Derived.Deep.DeepHandedRow
import Derived.ShutString
import Derived.ChangeOld
import Derived.Below
import Derived.Deep.AppendLies
import Derived.Deep.RegionWith
namespace Go.Proofs.YtkconbmgljmpfaaDoor.fnFrames
open Go.ChangeShapes Go.WideShapes Go.ChangeAt Go.RowKit
set_option linter.unusedVariables false

theorem own : ownKnob Tryd.prog.godebug = none := by kernel_rfl
theorem laidOut : laidOutB Tryd.prog = true := by kernel_rfl


theorem u8_in {x : Int} (h0 : 0 ≤ x) (h1 : x ≤ 255) : IntKind.u8.wrap x = x := by
  have e3 : IntKind.u8.wrap x = x % 256 := by simp [IntKind.wrap, IntKind.signed, IntKind.bits]
  rw [e3]; omega
set_option maxHeartbeats 8000000 in
set_option maxRecDepth 100000 in
theorem walk (w : World) (a : Option Addr) (len cap : Nat) (hbytes : len ≤ 1048576 → Bytes w w.heap.size a len) (aB aS : Addr) (hf : Flt w w.heap.size aB aS) :
    Calls Tryd.prog 4 #[.slice a len cap] w fun e w' => e = .returned (.bool true) ∧ Below w.heap.size w w' := by
  have HBG := Lib.hid (fun W => big_any a len cap W)
  by_cases hbig : 1048576 < len
  · have hd : decide ((1048576 : Int) < (len : Int)) = true := by simp; omega
    rw [hd] at HBG
    clear hbytes hf
    go_enter Tryd.func4, Tryd.ntmps4
    go_wp2_with fail
    refine (HBG.out _).mono ?_
    rintro e w' ⟨rfl, rfl⟩
    go_wp2
    go_ret
    exact ⟨rfl, Below.refl _ _⟩
  have hd : decide ((1048576 : Int) < (len : Int)) = false := by simp; omega
  rw [hd] at HBG
  have HB := Lib.hid (hbytes (by omega))
  have HF := Lib.hid hf
  have hlen9 : len ≤ 1048576 := by omega
  clear hbytes hd hf
  go_enter Tryd.func4, Tryd.ntmps4
  go_wp2_with fail
  refine (HBG.out _).mono ?_
  rintro e w' ⟨rfl, rfl⟩
  go_wp2_with fail
  refine (drawPutFrame_any a len cap _ HB.out).mono ?_
  rintro e w1 ⟨k, y, t, v, rfl, hb⟩
  have s1 := hb.size
  have ba := (Below.refl w1.heap.size w1).alloc (Nat.le_refl _) (.cells #[.int .i64 k, .int .i64 y, .int .i64 t, .int .i64 v] 36)
  have K1 := Lib.hid (Blk.new w1 36 #[.int .i64 k, .int .i64 y, .int .i64 t, .int .i64 v])
  have B1 := Lib.hid (hb.trans (ba.mono s1))
  clear hb ba
  have IP := Lib.hid (fun W => implPut_any k y t v W)
  have SP := Lib.hid (fun W => specPut_any k y t v W)
  have FO := Lib.hid (fun W => specFrameOk_any k y t v W)
  have hlp := putL_len k y t v
  go_wp2_with fail
  refine (IP.out _).mono ?_
  rintro e w2 ⟨a2, c2, rfl, ho, hb⟩
  have s2 := hb.size
  simp only [World.size_alloc] at s2
  have N2 := Lib.hid (Nums.of_own ho).2
  have K2 := Lib.hid (K1.out.below hb)
  have B2 := Lib.hid (B1.out.trans (hb.mono (by simp; omega)))
  have q2 := K2.out.cell
  clear ho hb
  go_wp2_with fail
  refine (SP.out _).mono ?_
  rintro e w3 ⟨a3, c3, rfl, ho, hb⟩
  have s3 := hb.size
  have N3 := Lib.hid (N2.out.below hb)
  have M3 := Lib.hid (Nums.of_own ho).2
  have K3 := Lib.hid (K2.out.below hb)
  have B3 := Lib.hid (B2.out.trans (hb.mono (by omega)))
  clear ho hb q2
  go_wp2_with fail
  refine (sameBytes_b a2 a3 _ _ c2 c3 (putL k y t v) _ _ _ N3.out M3.out rfl rfl).mono ?_
  rintro e w4 ⟨rfl, hb⟩
  have s4 := hb.size
  have N4 := Lib.hid (N3.out.below (hb.mono (by omega)))
  have K4 := Lib.hid (K3.out.below hb)
  have B4 := Lib.hid (B3.out.trans (hb.mono (by omega)))
  have q4 := K4.out.cell
  clear hb
  go_wp2_with fail
  refine (FO.out _).mono ?_
  rintro e w5 ⟨rfl, hb⟩
  have s5 := hb.size
  have N5 := Lib.hid ((N4.out.below (hb.mono (by omega))).more (show w2.heap.size ≤ w5.heap.size by omega))
  have K5 := Lib.hid (K4.out.below hb)
  have B5 := Lib.hid (B4.out.trans (hb.mono (by omega)))
  clear hb q4
  cases hok : fOk k y t v with
  | false =>
    rw [putL_no hok]
    go_wp2
    go_ret
    exact ⟨rfl, B5.out⟩
  | true =>
    have hwh := whole_here hok
    have hxb := putL_isB k y t v
    have hcm := fun m hm => cut_more hok m hm
    have hbo := fun ys h1 h2 h3 => bent_other (ys := ys) hok h1 h2 h3
    have hl0 : 1 ≤ (putL k y t v).length := by rw [putL_yes hok]; simp
    generalize putL k y t v = xs at *
    obtain ⟨bb, off, rfl, hbh, hcl⟩ := N5.out.lies.resolve_left (by intro h; subst h; simp at hl0)
    have hcp := N5.out.cap
    have hcb := N5.out.big
    have HFL : Hid (∀ (W : World), Below w.heap.size w W → Flt W W.heap.size aB aS) := Lib.hid (fun W h => (HF.out.below h).more h.size)
    have HBY : Hid (∀ (W : World), Below w.heap.size w W → Bytes W w.heap.size a len) := Lib.hid (fun W h => HB.out.below_ h)
    obtain ⟨hw1, hw2, hw3, hw4, hw5, hw6⟩ := hwh
    have HT1 : Hid (∀ (W : World), Nums .u8 W w5.heap.size (some ⟨bb, off, none⟩) c2 xs → w5.heap.size ≤ W.heap.size → Flt W W.heap.size aB aS → Calls Tryd.prog 22 #[.slice (some ⟨bb, off, none⟩) xs.length c2] W fun e w' => e = .returned (.tuple #[.agg #[.int .i64 k, .int .i64 y, .int .i64 t, .int .i64 v], .int .i64 (xs.length : Int)]) ∧ Below W.heap.size W w') := Lib.hid (fun W h1 h2 h3 => by
      have h := implTake_any w5.heap.size (some ⟨bb, off, none⟩) c2 xs aB aS W h1 h2 hxb h3
      unfold TakePost at h
      rw [show tkF xs = .agg #[.int .i64 k, .int .i64 y, .int .i64 t, .int .i64 v] by simp [tkF, hw1, hw2, hw3, hw4, hw5], show tkN xs = (xs.length : Int) by simp [tkN, hw1, hw6]] at h
      exact h)
    have HT2 : Hid (∀ (m : Nat) (W : World), m < xs.length → Nums .u8 W w5.heap.size (some ⟨bb, off, none⟩) c2 xs → w5.heap.size ≤ W.heap.size → Flt W W.heap.size aB aS → Calls Tryd.prog 22 #[.slice (some ⟨bb, off, none⟩) m c2] W fun e w' => e = .returned (.tuple #[.agg #[.int .i64 0, .int .i64 0, .int .i64 0, .int .i64 0], .int .i64 0]) ∧ Below W.heap.size W w') := Lib.hid (fun m W hm h1 h2 h3 => by
      have h := implTake_any w5.heap.size (some ⟨bb, off, none⟩) c2 (xs.take m) aB aS W (h1.take m c2 (by omega) (by omega) (Nat.le_refl _)) h2 (hxb.take m) h3
      have hc := hcm m hm
      unfold TakePost at h
      rw [show tkF (xs.take m) = .agg #[.int .i64 0, .int .i64 0, .int .i64 0, .int .i64 0] by simp [tkF, hc.1], show tkN (xs.take m) = 0 by simp [tkN, hc.1, hc.2], show (xs.take m).length = m by rw [List.length_take]; omega] at h
      exact h)
    have HXB := Lib.hid hxb
    have HBO := Lib.hid hbo
    have hxs : xs ≠ [] := by rintro rfl; simp at hl0
    have hxne : ((xs.length : Int) == 0) = false := by rw [beq_eq_false_iff_ne]; omega
    clear hw1 hw2 hw3 hw4 hw5 hw6 hxb hbo hcm hcl IP SP FO
    go_wp2_with fail
    refine (HT1.out _ N5.out (Nat.le_refl _) (HFL.out _ B5.out)).mono ?_
    rintro e w6 ⟨rfl, hb⟩
    have s6 := hb.size
    have ba := (Below.refl w6.heap.size w6).alloc (Nat.le_refl _) (.cells #[.int .i64 k, .int .i64 y, .int .i64 t, .int .i64 v] 36)
    have N6 := Lib.hid ((N5.out.below hb).below (ba.mono (by omega)))
    have K6 := Lib.hid ((K5.out.below hb).alloc (.cells #[.int .i64 k, .int .i64 y, .int .i64 t, .int .i64 v] 36))
    have T6 := Lib.hid (Blk.new w6 36 #[.int .i64 k, .int .i64 y, .int .i64 t, .int .i64 v])
    have B6 := Lib.hid ((B5.out.trans (hb.mono (by omega))).trans (ba.mono (by omega)))
    clear hb ba
    go_wp2_with fail
    refine (at_any 0 a len cap w.heap.size _ (by omega) (HBY.out _ B6.out)).mono ?_
    rintro e w' ⟨⟨x0, rfl, hx0, hx1⟩, rfl⟩
    obtain ⟨m, hm⟩ : ∃ m : Nat, x0 % (xs.length : Int) = (m : Int) := ⟨(x0 % (xs.length : Int)).toNat, by have := Int.emod_nonneg x0 (show (xs.length : Int) ≠ 0 by omega); omega⟩
    have hmlt : m < xs.length := by have := Int.emod_lt_of_pos x0 (show 0 < (xs.length : Int) by omega); omega
    have htm : x0.tmod (xs.length : Int) = (m : Int) := by rw [Int.tmod_eq_emod_of_nonneg hx0]; exact hm
    have hwm : IntKind.i64.wrap (m : Int) = (m : Int) := IntWalk.i64_in _ (by omega)
    have hmc : m ≤ c2 := by omega
    go_wp2_with fail
    refine (HT2.out m _ hmlt N6.out (by simp; omega) (HFL.out _ B6.out)).mono ?_
    rintro e w7 ⟨rfl, hb⟩
    have s7 := hb.size
    simp only [World.size_alloc] at s7
    have ba := (Below.refl w7.heap.size w7).alloc (Nat.le_refl _) (.cells #[.int .i64 0, .int .i64 0, .int .i64 0, .int .i64 0] 36)
    have N7 := Lib.hid ((N6.out.below (hb.mono (by simp; omega))).below (ba.mono (by omega)))
    have K7 := Lib.hid ((K6.out.below hb).alloc (.cells #[.int .i64 0, .int .i64 0, .int .i64 0, .int .i64 0] 36))
    have T7 := Lib.hid ((T6.out.below hb).alloc (.cells #[.int .i64 0, .int .i64 0, .int .i64 0, .int .i64 0] 36))
    have B7 := Lib.hid ((B6.out.trans (hb.mono (by simp; omega))).trans (ba.mono (by omega)))
    have qk := K7.out.cell
    have qt := T7.out.cell
    clear hb ba hm htm hwm
    have b8 := (Below.refl w7.heap.size (w7.alloc (.cells #[.int .i64 0, .int .i64 0, .int .i64 0, .int .i64 0] 36))).alloc (by simp) (.cells #[] 5)
    have N8 := Lib.hid (N7.out.below (b8.mono (by omega)))
    have K8 := Lib.hid (K7.out.alloc (.cells #[] 5))
    have B8 := Lib.hid (B7.out.trans (b8.mono (by omega)))
    have o8 := World.ownsRow_made (e := 5) (size := 1) (base := w7.heap.size + 1) (w7.alloc (.cells #[.int .i64 0, .int .i64 0, .int .i64 0, .int .i64 0] 36)) #[] 0 (by simp) (by unfold maxLen; omega) (by simp)
    simp only [World.size_alloc] at o8
    have O8 := Lib.hid o8
    obtain ⟨i0, hi0, hz0, hz1, hz2⟩ := info_parts infoU8
    clear b8 o8
    go_wp2_with (at_builtin; refine wpList_append_own _ rfl _ _ 22 rfl (w7.heap.size + 1) 5 i0 (.int .u8 0) 1 1 Tryd.underlying22 hi0 hz0 hz1 hz2 rfl (by decide) _ _ _ rfl O8.out ⟨bb, off, none⟩ xs.length c2 (xs.map (Value.int .u8)) rfl (by simp) N8.out.cells (nums_one _ _) ?c3 ?c4 ?c5 ?_)
    case c3 => unfold maxLen; omega
    case c4 => omega
    case c5 => simp
    intro v' w9 hown hg _
    obtain ⟨g, c9, rfl, hg0, hg1⟩ := hown.form (by omega)
    have b9 := below_own O8.out hg (by simp)
    have K9 := Lib.hid (K8.out.belowB b9 (by omega))
    have B9 := Lib.hid (B8.out.trans (b9.mono (by omega)))
    have ho9 : w9.ownsRow (w7.heap.size + 1) 5 1 (.slice (some ⟨g, 0, none⟩) xs.length c9) xs.length (xs.map (Value.int .u8)) := hown
    have O9 := Lib.hid ho9
    have hcp9 := (Nums.of_own ho9).2.cap
    have hcb9 := (Nums.of_own ho9).2.big
    have s9 := b9.size
    simp only [World.size_alloc] at s9
    clear hown hg b9 ho9 qk qt
    go_wp2_with fail
    refine (at_any 1 a len cap w.heap.size _ (by omega) (HBY.out _ B9.out)).mono ?_
    rintro e w' ⟨⟨x1, rfl, hy0, hy1⟩, rfl⟩
    obtain ⟨kk, hm⟩ : ∃ kk : Nat, x1 % (xs.length : Int) = (kk : Int) := ⟨(x1 % (xs.length : Int)).toNat, by have := Int.emod_nonneg x1 (show (xs.length : Int) ≠ 0 by omega); omega⟩
    have hklt : kk < xs.length := by have := Int.emod_lt_of_pos x1 (show 0 < (xs.length : Int) by omega); omega
    have htm : x1.tmod (xs.length : Int) = (kk : Int) := by rw [Int.tmod_eq_emod_of_nonneg hy0]; exact hm
    have hwm : IntKind.i64.wrap (kk : Int) = (kk : Int) := IntWalk.i64_in _ (by omega)
    have z1 := (O9.out.cellAt kk (by omega)).trans (el_cell .u8 xs kk hklt)
    have z2 := O9.out.frozenAt kk
    have hel := el_bd HXB.out kk
    have hki : (kk : Int) < (xs.length : Int) := by omega
    have HEL : Hid (el xs kk = el xs kk) := rfl
    go_wp2_with fail
    go_region_with (go_at_call 13; refine (at_any 2 a len cap w.heap.size _ (by omega) (HBY.out _ B9.out.drew)).mono ?_; rintro e w' ⟨⟨x2, rfl, hu0, hu1⟩, rfl⟩; have hu2 : 0 ≤ x2 % 255 ∧ x2 % 255 ≤ 254 := (by omega); have htm2 : x2.tmod 255 = x2 % 255 := Int.tmod_eq_emod_of_nonneg hu0; have hwu : IntKind.i64.wrap (x2 % 255) = x2 % 255 := IntWalk.i64_in _ (by omega); have hwv : IntKind.i64.wrap (1 + x2 % 255) = 1 + x2 % 255 := IntWalk.i64_in _ (by omega); have hwb : IntKind.u8.wrap (1 + x2 % 255) = 1 + x2 % 255 := u8_in (by omega) (by omega))
    all_goals
      have hxr := xor_u8 hel.1 hel.2 (b := 1 + x2 % 255) (by omega) (by omega)
      have htu := xor_turned hel.1 hel.2 (b := 1 + x2 % 255) (by omega) (by omega)
      rw [← hxr] at htu
      clear hxr
      generalize bits BinOp.xor IntKind.u8 (el xs kk) (1 + x2 % 255) = Y at htu ⊢
      have st := O9.out.stored kk (.int .u8 Y)
      rw [← List.map_set] at st
      have b10 := ((Below.refl (w7.heap.size + 1) w9).setCell (p := ⟨g, kk, none⟩) hg0 (.int .u8 Y)).drew
      have K10 := Lib.hid (K9.out.belowB b10 (by omega))
      have B10 := Lib.hid (B9.out.trans (b10.mono (by omega)))
      have s10 := b10.size
      have N10 := Lib.hid ((Nums.of_own st.1).2.below (Below.refl _ (w9.setCell ⟨g, kk, none⟩ (.int .u8 Y))).drew)
      have hib := set_isB HXB.out kk htu.1 htu.2.1
      have hsl : (xs.set kk Y).length = xs.length := List.length_set
      have hot := HBO.out (xs.set kk Y) hsl (set_other hklt htu.2.2)
      have ht3 := implTake_any _ (some ⟨g, 0, none⟩) c9 (xs.set kk Y) aB aS _ N10.out (Nat.le_refl _) hib (HFL.out _ B10.out)
      rw [hsl] at ht3
      have hq := (here_iff (xs.set kk Y)).1
      unfold TakePost at ht3
      generalize xs.set kk Y = ys at ht3 hot hq
      clear st b10 hib hsl htu z1 z2 hm htm hwm hu0 hu1 hu2 htm2 hwu hwv hwb hel
      cases hh : tkHere ys with
      | true =>
        have hnn := hot hh
        have hp := (hq hh).1
        rw [show tkF ys = .agg #[.int .i64 (f0K ys), .int .i64 (f0Y ys), .int .i64 (f0T ys), .int .i64 (f0V ys)] by simp [tkF, hh], show tkN ys = ((put0 ys).length : Int) by simp [tkN, hh]] at ht3
        clear hot hq hh
        generalize f0K ys = k' at ht3 hnn
        generalize f0Y ys = y' at ht3 hnn
        generalize f0T ys = t' at ht3 hnn
        generalize f0V ys = v' at ht3 hnn
        generalize (put0 ys).length = P at ht3 hp
        have HT := Lib.hid ht3
        have hP : ¬ ((P : Int) ≤ 0) := by omega
        clear ht3
        go_wp2_with fail
        refine HT.out.mono ?_
        rintro e w11 ⟨rfl, hb⟩
        have q11 := ((K10.out.below hb).alloc (.cells #[.int .i64 k', .int .i64 y', .int .i64 t', .int .i64 v'] 36)).cell
        have B11 : Hid (∀ o, Below w.heap.size w (w11.alloc o)) := Lib.hid (fun o => (B10.out.trans (hb.mono (by have := B10.out.size; omega))).alloc (by have h1 := B10.out.size; have h2 := hb.size; omega) o)
        clear hb
        go_wp2
        all_goals first
          | (exfalso; apply hnn; refine ⟨?_, ?_, ?_, ?_⟩ <;> first | assumption | (symm; assumption) | omega)
          | (go_ret; exact ⟨rfl, B11.out _⟩)
      | false =>
        cases hm1 : tkMore ys with
        | true =>
          rw [show tkF ys = .agg #[.int .i64 0, .int .i64 0, .int .i64 0, .int .i64 0] by simp [tkF, hh], show tkN ys = 0 by simp [tkN, hh, hm1]] at ht3
          have HT := Lib.hid ht3
          clear ht3 hot hq hh hm1
          go_wp2_with fail
          refine HT.out.mono ?_
          rintro e w11 ⟨rfl, hb⟩
          have B11 := Lib.hid ((B10.out.trans (hb.mono (by have := B10.out.size; omega))).alloc (by have h1 := B10.out.size; have h2 := hb.size; omega) (.cells #[.int .i64 0, .int .i64 0, .int .i64 0, .int .i64 0] 36))
          clear hb
          go_wp2
          go_ret
          exact ⟨rfl, B11.out⟩
        | false =>
          rw [show tkF ys = .agg #[.int .i64 0, .int .i64 0, .int .i64 0, .int .i64 0] by simp [tkF, hh], show tkN ys = -1 by simp [tkN, hh, hm1]] at ht3
          have HT := Lib.hid ht3
          clear ht3 hot hq hh hm1
          go_wp2_with fail
          refine HT.out.mono ?_
          rintro e w11 ⟨rfl, hb⟩
          have B11 := Lib.hid ((B10.out.trans (hb.mono (by have := B10.out.size; omega))).alloc (by have h1 := B10.out.size; have h2 := hb.size; omega) (.cells #[.int .i64 0, .int .i64 0, .int .i64 0, .int .i64 0] 36))
          clear hb
          go_wp2
          go_ret
          exact ⟨rfl, B11.out⟩

theorem plainList : (Rows.fnFramesRow.laid.all fun x => x.2.handleName?.isNone) = true := by kernel_rfl
noncomputable def world (os : Os) : World := World.laidAll Tryd.prog os Rows.fnFramesRow.laid
theorem world_shaped (os : Os) : ((world os).forCall (fun _ _ => 0) ⟨#[], #[.slice none 0 0], []⟩).Shaped Tryd.prog := World.shaped_of_ZipB (by kernel_rfl) (by kernel_rfl)
theorem world_laid (os : Os) : laidMetH Tryd.prog Rows.fnFramesRow.laid ((world os).forCall (fun _ _ => 0) ⟨#[], #[.slice none 0 0], []⟩).memory := by
  rw [MakeChecks.laidMetH_plain _ _ _ plainList]; exact laidMet_laidAll _ (by kernel_rfl) (by kernel_rfl)

set_option maxRecDepth 100000 in
theorem lifted (os : Os) (started : os.Started) (H : Type) (enc : TypeId × Value → H) (F : Stop.Interp) :
    ReturnsInHanded {} Tryd.checked os 4 .any ((OpenSpec.ofChange Rows.fnFramesSpec).preRow enc Tryd.prog Tryd.f4 Rows.fnFramesRow.domain false Rows.fnFramesRow.laid) (((OpenSpec.ofChange Rows.fnFramesSpec).at F).post enc Tryd.prog Tryd.f4 false true false false) := by
  refine returnsInHanded_of_row (C := Tryd.checked) (s := OpenSpec.ofChange Rows.fnFramesSpec) own started (by kernel_rfl) Tryd.func4 ?_ ?_
  · obtain ⟨w, tape, i, h1, h2, h3, h4, ⟨⟨h5, h6⟩, h7⟩, h8⟩ := ChangeSpec.witness_shaped (enc := enc) (C := Tryd.checked) (os := os) (f := 4) (fn := Tryd.f4) (s := Rows.fnFramesSpec) (conds := Rows.fnFramesRow.domain) (apart := false) (X := fun w _ => laidMetH Tryd.prog Rows.fnFramesRow.laid w) false (world os) #[.slice none 0 0] 8 (World.laidAll_os _ _ _)
      (world_shaped os) (by kernel_rfl) (by kernel_rfl) (by kernel_rfl) (world_laid os)
    exact ⟨w, tape, i, h1, h2, h3, h4, ⟨⟨h5, h6⟩, h7⟩, h8⟩
  intro W base args ds gs before hval0 hW _ _ _ hL hsh _
  have hval : ∀ (j : Nat) t v, Tryd.f4.params[j]? = some t → args[j]? = some v → Value.okWide Tryd.prog W .any base t v := hval0
  have hW' := hW
  obtain ⟨p, q, hA0, hV, rfl, hfz, hnd⟩ := hW
  have hA : DataW.TrodAll enc Tryd.prog W 0 (fun _ => true) true Tryd.f4.params.toList args.toList ds p := hA0
  rw [Tryd.params4] at hA hval
  obtain ⟨v0, vs0, d0, ds0, p0, q0, hargs, rfl, rfl, h0, r0⟩ := trodAll_cons hA
  obtain ⟨rfl, rfl, rfl⟩ := trodAll_nil r0
  obtain rfl : args = #[v0] := by cases args; simp_all
  have hVb := fun W' (bel : Below W.heap.size W W') => Below.trodVars laidOut bel (by kernel_rfl) hV
  obtain ⟨g1, g2, rfl⟩ := vars_two hV
  obtain ⟨aB, aS, hflt⟩ := flt_of plainList hL
  have lt0 : ∀ x ∈ p0, x.block < W.heap.size := by obtain ⟨m, hm⟩ := h0; exact DataW.trod_lt m _ _ _ hm
  obtain ⟨a0, n0, c0, rfl, hb0⟩ := arg_code (hval 0 22 v0 rfl rfl) h0
  clear hA0 hval0
  refine (walk W a0 n0 c0 hb0 aB aS hflt).mono fun e W' ⟨he, bel⟩ => ?_
  subst he
  exact ⟨_, rfl, _, _, _, [], _, _, hW', trodAll_mk1 (shut_bool Tryd.underlying4 _), (trodAll_cons_mk (Below.trod laidOut (by kernel_rfl) (of_decide_eq_true (by kernel_rfl)) h0 bel lt0) trodAll_mk0), hVb W' bel, bel.frame _, fun h => by cases h⟩

theorem said : Rows.FnFramesSaid :=
  OpenClaim.holds_of_cond 4 Tryd.f4 rfl rfl rfl rfl rfl rfl rfl ⟨rfl, rfl, rfl, rfl, rfl⟩ rfl rfl rfl rfl rfl (by kernel_rfl) Tryd.func4 (by kernel_rfl)
    (of_decide_eq_true (by kernel_rfl)) (by unfold Func.isWrapper; first | (rw [if_pos (by decide +kernel)]; kernel_rfl) | (rw [if_neg (by decide +kernel)]; exact ⟨rfl, rfl⟩))
    (fun os started H enc _ F => by rw [OpenClaim.pre_eq_preRow]; exact lifted os started H enc F)

theorem plain (f : FuncId) (fn : Func) (hf : Tryd.pinned.checked.prog.funcNamed "loop.example/g00728/laws.FnFrames" = some f) (hfn : Tryd.pinned.checked.prog.funcs[f]? = some fn) :
    true = Tryd.pinned.checked.prog.looks [] ∧ ∀ (j : Nat) t, fn.params[j]? = some t → Tryd.pinned.checked.prog.wantsStandIn t = false := by
  obtain rfl : f = 4 := Option.some.inj ((show Tryd.prog.funcNamed "loop.example/g00728/laws.FnFrames" = some 4 by kernel_rfl).symm.trans hf) |>.symm
  obtain rfl : fn = Tryd.f4 := (Option.some.inj (Tryd.func4.symm.trans hfn)).symm
  refine ⟨by kernel_rfl, fun j t ht => ?_⟩
  rw [Tryd.params4] at ht
  obtain rfl : t = 22 := by simpa using Array.mem_of_getElem? ht
  exact (show Tryd.prog.wantsStandIn 22 = false by kernel_rfl)

theorem card : Rows.FnFramesCardSaid :=
  Claim7.holds_tied_plain_at .later [] _ _ _ _ said (fun _ h => by cases h) (by kernel_rfl) (fun _ h => by cases h) fnFrames_row_tie rfl ⟨rfl, rfl⟩ (by kernel_rfl) rfl plain (by kernel_rfl)
#print axioms card
end Go.Proofs.YtkconbmgljmpfaaDoor.fnFrames
