/- The walk of the law of DrainBound. (tools/splitdoor.py) -/
import Derived.Test.YtnfhlfbkdhpacaaGreatDoorRows
import Derived.Test.YtnfhlfbkdhpacaaGreatDoorCards
import Derived.Test.YtnfhlfbkdhpacaaGreatDoorTie
import Derived.Test.YtnfhlfbkdhpacaaGreatDoorFlt
import Derived.Test.YtnfhlfbkdhpacaaGreatDoorOpenEng
import Derived.Test.YtnfhlfbkdhpacaaGreatDoorEngTo
import Derived.Test.YtnfhlfbkdhpacaaGreatDoorEngEq
import Derived.Test.YtnfhlfbkdhpacaaGreatDoorDrain
import Derived.Test.YtnfhlfbkdhpacaaGreatDoorLawS
import Derived.Test.YtnfhlfbkdhpacaaGreatDoorJoint1
import Derived.Test.YtnfhlfbkdhpacaaGreatDoorTabs
import Derived.Deep.RegionHeld3
import Derived.WalkSmall
import Derived.WalkKit
import Derived.ProofKit
import Derived.OpenShut
import Derived.OpenVars
import Derived.Lay
import Derived.Deep.DeepHandedRow
import Derived.ShutString
import Derived.ChangeOld
import Derived.Below
import Derived.Deep.AppendLies
import Derived.Deep.RegionWith
namespace Go.Proofs.YtnfhlfbkdhpacaaGreatDoor.fnExactDrainBound
open Go.ChangeShapes Go.WideShapes Go.ChangeAt Go.RowKit
set_option linter.unusedVariables false

set_option maxHeartbeats 4000000 in
set_option maxRecDepth 100000 in
theorem walk (w : World) (E : En) (p : Pl) (hr : EnR w w.heap.size p E) (h64 : En64 E) (aB aS : Addr) (ht : Flt w w.heap.size aB aS) (htb : Tabs w w.heap.size) :
    Calls Tryz.prog 5 #[ev E p] w fun e w' => e = .returned (.bool true) ∧ Below w.heap.size w w' := by
  obtain ⟨L, hL⟩ : ∃ L : List Value, L = evL E p := ⟨_, rfl⟩
  change Calls _ _ #[.agg (evL E p).toArray] _ _
  rw [← hL]
  have hlen : L.length = 24 := by rw [hL]; rfl
  have iLW : (Tryz.prog.info? 33).map (·.size) = some L.length := by rw [hlen]; kernel_rfl
  have IL := Lib.hid iLW
  have HSZ : Hid (∀ W : World, EnR W W.heap.size p E → Calls Tryz.prog 8 #[.agg L.toArray, .int .i64 1048576] W fun e w' => ∃ z : Int, e = .returned (.int .i64 z) ∧ -1 ≤ z ∧ (0 ≤ z → EnFits E) ∧ Below W.heap.size W w') := Lib.hid (fun W h => by rw [hL]; exact szEngine_any E p W h)
  have HTO : Hid (EnFits E → ∀ W : World, EnR W W.heap.size p E → Calls Tryz.prog 10 #[.agg L.toArray] W fun e w' => ∃ (p' : Pl) (M : List Value), e = .returned (.agg M.toArray) ∧ M = evL E p' ∧ EnR w' w'.heap.size p' E ∧ Below W.heap.size W w') :=
    Lib.hid (fun hfit W h => by rw [hL]; exact (toEngine_any E p W h hfit).mono fun e w' ⟨p', he, ho, hb⟩ => ⟨p', _, he, rfl, ho.rd, hb⟩)
  have hEB : EnB E := h64.2.2.2.2.2.2.2.2.2.2.2.2.2.2.2.2.2.2
  have HSP : Hid (EnFits E → ∀ (W : World) (q : Pl) (M : List Value), M = evL E q → EnR W W.heap.size q E → Below w.heap.size w W → Calls Tryz.prog 19 #[.agg M.toArray] W fun e w' => e = .returned (.int .i64 (drE E)) ∧ Below W.heap.size W w') := Lib.hid (fun hfit W q M hM h hb => specDrain_any E q M W hM h hfit hEB)
  have HIP : Hid (EnFits E → ∀ (W : World) (q : Pl) (M : List Value), M = evL E q → EnR W W.heap.size q E → Below w.heap.size w W → Calls Tryz.prog 20 #[.agg M.toArray] W fun e w' => e = .returned (.int .i64 (drE E)) ∧ Below W.heap.size W w') := Lib.hid (fun hfit W q M hM h hb => implDrain_any E q M w.heap.size aB aS W hM h hfit hEB ((ht.below hb).more hb.size) (htb.below hb) hb.size)
  have HEQ : Hid (∀ (W : World) (p q : Pl) (M N : List Value), M = evL E p → N = evL E q → EnR W W.heap.size p E → EnR W W.heap.size q E → Calls Tryz.prog 13 #[.agg M.toArray, .agg N.toArray] W fun e w' => e = .returned (.bool true) ∧ Below W.heap.size W w') := Lib.hid (fun W p q M N hM hN h k => by rw [hM, hN]; exact eqEngine_any E p q W h k)
  have hone : ∀ (q : Pl) (M : List Value), M = evL E q → M.toArray.all (·.oneCell') = true := fun q M hM => by rw [hM]; simp [evL, Value.oneCell']
  have HONE := Lib.hid hone
  have k0 := Blk.new w 33 L.toArray
  have RG0 := Lib.hid (range_blk k0)
  have K0 := Lib.hid k0
  have HR0 := Lib.hid ((hr.below ((Below.refl w.heap.size w).alloc (Nat.le_refl _) (.cells L.toArray 33))).more (show w.heap.size ≤ (w.alloc (.cells L.toArray 33)).heap.size by simp))
  have B0 := Lib.hid ((Below.refl w.heap.size w).alloc (Nat.le_refl _) (.cells L.toArray 33))
  generalize drE E = ans at HSP HIP
  clear hr h64 hL k0 hone iLW ht htb hEB
  go_enter Tryz.func5, Tryz.ntmps5
  go_wp2_with (refine wpList_load_mid rfl 33 _ rfl w.heap.size 0 rfl L _ RG0.out Tryz.underlying33 rfl IL.out ?_)
  refine (HSZ.out _ HR0.out).mono ?_
  rintro e w1 ⟨z, rfl, hz1, hzf, hb⟩
  have k1 := K0.out.below hb
  have RG1 := Lib.hid (range_blk k1)
  have K1 := Lib.hid k1
  have B1 := Lib.hid (B0.out.trans (hb.mono B0.out.size))
  have HR1 := Lib.hid ((HR0.out.below hb).more hb.size)
  clear hb HSZ HR0 K0 B0 RG0 k1
  by_cases hneg : z < 0
  · clear hzf
    go_wp2
    go_ret
    exact ⟨rfl, B1.out⟩
  · have hfit := hzf (by omega)
    have HTO := Lib.hid (HTO.out hfit)
    have HSP := Lib.hid (HSP.out hfit)
    have HIP := Lib.hid (HIP.out hfit)
    clear hz1 hzf hfit
    go_wp2_with (refine wpList_load_mid rfl 33 _ rfl w.heap.size 0 rfl L _ RG1.out Tryz.underlying33 rfl IL.out ?_)
    refine (HTO.out _ HR1.out).mono ?_
    rintro e w2 ⟨p2, M2, rfl, hM2, x2, hb⟩
    have K2 := Lib.hid (K1.out.below hb)
    have B2 := Lib.hid (B1.out.trans (hb.mono B1.out.size))
    have HR2 := Lib.hid ((HR1.out.below hb).more hb.size)
    have X2 := Lib.hid x2
    have HM2 := Lib.hid hM2
    clear hb x2 hM2 HR1 K1 B1 RG1
    go_wp2_with fail
    refine (HSP.out _ _ _ HM2.out X2.out B2.out).mono ?_
    rintro e w3 ⟨rfl, hb⟩
    have k3 := K2.out.below hb
    have RG3 := Lib.hid (range_blk k3)
    have K3 := Lib.hid k3
    have B3 := Lib.hid (B2.out.trans (hb.mono B2.out.size))
    have HR3 := Lib.hid ((HR2.out.below hb).more hb.size)
    clear hb HR2 K2 B2 X2 HM2 k3
    go_wp2_with (refine wpList_load_mid rfl 33 _ rfl w.heap.size 0 rfl L _ RG3.out Tryz.underlying33 rfl IL.out ?_)
    refine (HTO.out _ HR3.out).mono ?_
    rintro e w4 ⟨p4, M, rfl, hM, x4, hb⟩
    have hmlen : M.length = 24 := by rw [hM]; rfl
    have IM : Hid ((Tryz.prog.info? 45).map (·.size) = some M.length) := Lib.hid (by rw [hmlen]; kernel_rfl)
    have IM2 : Hid ((Tryz.prog.info? 45).map (·.size) = some M.toArray.size) := Lib.hid (by rw [List.size_toArray, hmlen]; kernel_rfl)
    have ONE := Lib.hid (HONE.out _ _ hM)
    have b4 := B3.out.trans (hb.mono B3.out.size)
    have hb4 : w.heap.size < w4.heap.size := Nat.lt_of_lt_of_le K3.out.lt hb.size
    have TH : Hid (∀ ZZ : Array Value, ZZ.size = 24 → (w4.alloc (.cells ZZ 45)).there w4.heap.size 0 M.toArray.size) := Lib.hid (fun ZZ h => blk_there (Blk.new w4 45 ZZ) (by rw [List.size_toArray, hmlen, h]; omega))
    have k4 := K3.out.below hb
    have hr4 := HR3.out.below hb
    have bw : ∀ ZZ : Array Value, Below w4.heap.size w4 ((w4.alloc (.cells ZZ 45)).setCells w4.heap.size 0 M.toArray.toList) := fun ZZ => below_setCells _ (Nat.le_refl _) _ ((Below.refl w4.heap.size w4).alloc (Nat.le_refl _) _)
    have F5 : Hid (∀ ZZ : Array Value, ZZ.size = 24 → Blk ((w4.alloc (.cells ZZ 45)).setCells w4.heap.size 0 M.toArray.toList) w4.heap.size 45 M.toArray ∧ Blk ((w4.alloc (.cells ZZ 45)).setCells w4.heap.size 0 M.toArray.toList) w.heap.size 33 L.toArray ∧
        EnR ((w4.alloc (.cells ZZ 45)).setCells w4.heap.size 0 M.toArray.toList) ((w4.alloc (.cells ZZ 45)).setCells w4.heap.size 0 M.toArray.toList).heap.size p4 E ∧ EnR ((w4.alloc (.cells ZZ 45)).setCells w4.heap.size 0 M.toArray.toList) ((w4.alloc (.cells ZZ 45)).setCells w4.heap.size 0 M.toArray.toList).heap.size p E ∧
        Below w.heap.size w ((w4.alloc (.cells ZZ 45)).setCells w4.heap.size 0 M.toArray.toList)) := Lib.hid (fun ZZ h => by
      have b5 := bw ZZ
      refine ⟨?_, k4.below b5, (x4.below b5).more b5.size, ((hr4.more hb.size).below b5).more b5.size, b4.trans (b5.mono (by omega))⟩
      have z := blk_setL (w := w4.alloc (.cells ZZ 45)) (CS := ZZ.toList) M 0 (Blk.new w4 45 ZZ) (show 0 + M.length ≤ ZZ.toList.length by have e : ZZ.toList.length = ZZ.size := Array.length_toList; omega)
      have e1 : List.drop (0 + M.length) ZZ.toList = [] := List.drop_of_length_le (by have e : ZZ.toList.length = ZZ.size := Array.length_toList; omega)
      rw [e1] at z
      simpa using z)
    have HM := Lib.hid hM
    clear hb k4 hr4 bw x4 b4 hM HR3 K3 B3 RG3 hmlen
    go_wp2_with (first
      | (refine wpList_store_mid rfl 45 _ _ rfl w4.heap.size 0 M.toArray rfl rfl (TH.out _ rfl) IM2.out ONE.out ?_)
      | (refine wpList_load_mid rfl 45 _ rfl w4.heap.size 0 rfl M _ (range_blk (F5.out _ rfl).1) Tryz.underlying45 rfl IM.out ?_))
    refine (HIP.out _ _ _ HM.out (F5.out _ rfl).2.2.1 (F5.out _ rfl).2.2.2.2).mono ?_
    rintro e w6 ⟨rfl, hb⟩
    have kx := (F5.out _ rfl).1.below hb
    have ka := (F5.out _ rfl).2.1.below hb
    have rx := ((F5.out _ rfl).2.2.1.below hb).more hb.size
    have ra := ((F5.out _ rfl).2.2.2.1.below hb).more hb.size
    have B6 := Lib.hid ((F5.out _ rfl).2.2.2.2.trans (hb.mono (F5.out _ rfl).2.2.2.2.size))
    have hne : (ans != ans) = false := by simp
    have y0 : (w6.drew).rangeAt w4.heap.size 0 M ∧ (w6.drew).rangeAt w.heap.size 0 L := ⟨range_blk kx.drew, range_blk ka.drew⟩
    have KX := Lib.hid kx
    have KA := Lib.hid ka
    have RX := Lib.hid (rx.below (Below.refl _ w6).drew)
    have RA := Lib.hid (ra.below (Below.refl _ w6).drew)
    clear hb F5 TH kx ka rx ra
    have hundI : Tryz.prog.underlying 45 = some _ := Tryz.underlying45
    have hundL : Tryz.prog.underlying 33 = some _ := Tryz.underlying33
    go_wp2_with fail
    refine wp_region_held_drew (S := fun W => W.rangeAt w4.heap.size 0 M ∧ W.rangeAt w.heap.size 0 L) (by kernel_rfl) y0 (fun hHeld => ?_)
    refine' wpAnyH_take (i := 0) (oi := ⟨some 22, _, _, _, _, _⟩) (v := _) rfl (by kernel_rfl) (by kernel_rfl) (by kernel_rfl) (fun _ _ _ h => h) (yieldsIf_load_mid (by rfl) _ _ rfl _ _ rfl M _ (fun W h => h.1) hundI rfl IM.out) (by assumption) ?_
    simp only [Act.put, List.setIfInBounds_toArray, List.set_cons_zero, List.set_cons_succ]
    refine' wpAnyH_take (i := 1) (oi := ⟨some 23, _, _, _, _, _⟩) (v := _) rfl (by kernel_rfl) (by kernel_rfl) (by kernel_rfl) (fun _ _ _ h => h) (yieldsIf_load_mid (by rfl) _ _ rfl _ _ rfl L _ (fun W h => h.2) hundL rfl IL.out) (by assumption) ?_
    simp only [Act.put, List.setIfInBounds_toArray, List.set_cons_zero, List.set_cons_succ]
    refine wpAnyH_ready (rs := [2]) (by kernel_rfl) (by simp) ?_
    refine AllReadyH.cons (o := ⟨some 24, _, _, _, _, _⟩) rfl (fun KK hK => ?_) AllReadyH.nil
    go_simp
    refine (HTO.out w6.drew RA.out).mono ?_
    rintro e w7 ⟨p7, N, rfl, hN, x7, hb⟩
    have k7 := KX.out.drew.below hb
    have a7 := KA.out.drew.below hb
    have z0 : w7.rangeAt w4.heap.size 0 M ∧ w7.rangeAt w.heap.size 0 L := ⟨range_blk k7, range_blk a7⟩
    have B7 := Lib.hid (B6.out.trans (((Below.refl _ w6).drew.trans hb).mono B6.out.size))
    have RX7 := Lib.hid ((RX.out.below hb).more hb.size)
    have X7 := Lib.hid x7
    have HN := Lib.hid hN
    have K7 := Lib.hid k7
    have A7 := Lib.hid a7
    clear hb k7 a7 x7 hN RX RA KX KA B6
    dsimp only
    refine (Go.Shut.out hK) _ _ z0 (fun hHeld => ?_)
    clear hK KK
    refine wpAnyH_ready (rs := [3]) (by kernel_rfl) (by simp) ?_
    refine AllReadyH.cons (o := ⟨some 25, _, _, _, _, _⟩) rfl (fun KK hK => ?_) AllReadyH.nil
    go_simp
    refine (HEQ.out w7 _ _ M N HM.out HN.out RX7.out X7.out).mono ?_
    rintro e w8 ⟨rfl, hb⟩
    have z1 : w8.rangeAt w4.heap.size 0 M ∧ w8.rangeAt w.heap.size 0 L := ⟨range_blk (K7.out.below hb), range_blk (A7.out.below hb)⟩
    have B8 := Lib.hid (B7.out.trans (hb.mono B7.out.size))
    clear hb
    dsimp only
    refine (Go.Shut.out hK) _ _ z1 (fun hHeld => ?_)
    clear hK KK
    try simp only [Act.put, List.setIfInBounds_toArray, List.set_cons_zero, List.set_cons_succ]
    refine wpAnyH_ready (rs := [4]) (by kernel_rfl) (by simp) ?_
    refine AllReadyH.cons (o := ⟨some 26, _, _, _, _, _⟩) rfl (fun KK hK => ?_) AllReadyH.nil
    go_simp
    refine (Go.Shut.out hK) _ _ z1 (fun hHeld => ?_)
    clear hK KK
    try simp only [Act.put, List.setIfInBounds_toArray, List.set_cons_zero, List.set_cons_succ]
    refine wpAnyH_done (by kernel_rfl) ?_ _
    clear z0 z1 hundI hundL y0
    go_wp2
    go_ret
    exact ⟨rfl, B8.out⟩
end Go.Proofs.YtnfhlfbkdhpacaaGreatDoor.fnExactDrainBound
