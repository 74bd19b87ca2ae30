/- Chapter 11, impl's side: (*stays).add. (made by tools/mkcal3.py) -/
import Derived.Test.YtchbmnpajnlijaaCalH2
namespace Go.Proofs.Ytchbmnpajnlijaa
open Go.RowKit
theorem ah_asym {gap : Int} {a b : Ss} (hg : 0 ≤ gap) (ha : sesOk a = true) (hb : sesOk b = true) (h : ahS gap a b = true) : ahS gap b a = false := by
  have x := sesOk_bd ha
  have y := sesOk_bd hb
  rw [ahS_iff] at h
  rw [ahS_not]
  omega
theorem headV_ptr (l : List Nat) : ∃ z, Value.pointer z = headV (.pointer none) l := by
  cases l with
  | nil => exact ⟨none, rfl⟩
  | cons b l => exact ⟨_, rfl⟩
theorem grown_setCellA (w : World) (p : Addr) (v : Value) : w.grownBy (w.setCell p v) (some p.block) :=
  ⟨rfl, rfl, rfl, by simp [World.setCell], fun i _ hne => Below.heap_setCell w p v i (fun e => hne (by rw [e]))⟩
set_option maxHeartbeats 1000000 in
set_option maxRecDepth 100000 in
theorem staysAdd_x (sb : Nat) (bs : List Nat) (A M Q : List Ss) (e0 e1 e2 e3 e4 : Int) (gap : Int) (w : World) (hs : Seg 136 w (.pointer none) bs (A ++ (M ++ Q))) (hsb : Blk w sb 132 #[headV (.pointer none) bs]) (hnd : (sb :: bs).Nodup) (he : sesOk ⟨e0, e1, e2, e3, e4⟩ = true) (ho : okL (A ++ (M ++ Q))) (hg : 0 ≤ gap ∧ gap ≤ 1000000)
    (hA : ∀ a, a ∈ A → ahS gap a ⟨e0, e1, e2, e3, e4⟩ = true) (h1 : ∀ m, m ∈ M ++ Q → ahS gap m ⟨e0, e1, e2, e3, e4⟩ = false) (h2 : ∀ m, m ∈ M → ahS gap ⟨e0, e1, e2, e3, e4⟩ m = false) (h3 : ∀ q, q ∈ Q → ahS gap ⟨e0, e1, e2, e3, e4⟩ q = true) :
    Calls Try.prog 121 #[.pointer (some ⟨sb, 0, none⟩), (.agg #[.int .i64 e0, .int .i64 e1, .int .i64 e2, .int .i64 e3, .int .i64 e4]), .int .i64 gap] w fun en w' => en = .returned (.tuple #[]) ∧ ∃ wb, w.heap.size ≤ wb ∧ Blk w' sb 132 #[headV (.pointer none) (bs.take A.length ++ wb :: bs.drop (A.length + M.length))] ∧ Seg 136 w' (.pointer none) (bs.take A.length ++ wb :: bs.drop (A.length + M.length)) (A ++ M.foldl mrg ⟨e0, e1, e2, e3, e4⟩ :: Q) ∧ Only (sb :: bs) w w' := by
  have HS := Lib.hid hs
  have HSB := Lib.hid hsb
  have hL : bs.length = A.length + (M.length + Q.length) := by rw [hs.len, List.length_append, List.length_append]
  have HLT := Lib.hid hs.lt
  have hsl := hsb.lt
  have KB0 := Lib.hid (Blk.new w 33 #[.int .i64 e0, .int .i64 e1, .int .i64 e2, .int .i64 e3, .int .i64 e4])
  have BB0 := Lib.hid ((Below.refl w.heap.size w).alloc (Nat.le_refl _) (.cells #[.int .i64 e0, .int .i64 e1, .int .i64 e2, .int .i64 e3, .int .i64 e4] 33))
  have HO := Lib.hid ho
  have HA := Lib.hid hA
  have H1 := Lib.hid h1
  have H2 := Lib.hid h2
  have H3 := Lib.hid h3
  have HE := Lib.hid he
  have HND := Lib.hid hnd
  have HPA := Lib.hid (show (placeA sb bs A.length).block < w.heap.size from by
    rcases List.mem_cons.1 (placeA_mem (sb := sb) (bs := bs) (i := A.length) (by omega)) with e | e
    · rw [e]; exact hsl
    · exact hs.lt _ e)
  have AH := Lib.hid (fun v0 v1 v2 v3 v4 (hv : 0 ≤ v2 ∧ v2 ≤ 1000000) W => isAhead_x v0 v1 v2 v3 v4 e0 e1 e2 e3 e4 gap W hv hg)
  clear hs hsb hnd he ho hA h1 h2 h3
  go_enter Try.func121, Try.ntmps121
  go_wp2
  go_loopg [6] A.length (fun gk p wr => ∃ i : Nat, gk + i = A.length ∧ p = .pointer (some (placeA sb bs i)) ∧ Blk wr w.heap.size 33 #[.int .i64 e0, .int .i64 e1, .int .i64 e2, .int .i64 e3, .int .i64 e4] ∧ Below w.heap.size w wr)
  case atStart => exact ⟨0, rfl, rfl, KB0.out, BB0.out⟩
  case round =>
    obtain ⟨i, hgi, rfl, hkb, hbw⟩ := hrel
    have KB := Lib.hid hkb
    have BW := Lib.hid hbw
    have HGI := Lib.hid hgi
    have hsz := hbw.size
    have hbl := hkb.lt
    have hil : i ≤ A.length := by omega
    have SG := Lib.hid (HS.out.kept (fun b hb => BW.out.block b (HLT.out b hb)))
    have SBK := Lib.hid (HSB.out.below BW.out)
    have cp : wr.cell? (placeA sb bs i) = some (headV (.pointer none) (bs.drop i)) := SG.out.place SBK.out (by rw [List.length_append, List.length_append]; omega)
    have hpb : (placeA sb bs i).block < wr.heap.size := by
      rcases List.mem_cons.1 (placeA_mem (sb := sb) (bs := bs) (i := i) (by omega)) with e | e
      · rw [e]; omega
      · have := HLT.out _ e; omega
    clear hkb hbw hgi
    by_cases hi : i < A.length
    · have hib : i < bs.length := by omega
      rw [headV_drop hib] at cp
      have kn := SG.out.at_ i (by rw [List.length_append]; omega)
      rw [show zel (A ++ (M ++ Q)) i = zel A i from zel_app hi] at kn
      have KN := Lib.hid kn
      have hmem : zel A i ∈ A := by rw [show zel A i = A[i] from rel_lt zD hi]; exact List.getElem_mem hi
      have HAX := Lib.hid (HA.out _ hmem)
      have hxo := sesOk_bd (HO.out _ (show zel A i ∈ A ++ (M ++ Q) by simp [hmem]))
      have HPN := Lib.hid (show placeA sb bs (i + 1) = ⟨nel bs i, 5, none⟩ from rfl)
      clear kn hmem
      generalize headV (.pointer none) (bs.drop (i + 1)) = NX at KN
      generalize zel A i = X at *
      obtain ⟨v0, v1, v2, v3, v4⟩ := X
      simp only at hxo
      have AH1 := Lib.hid (AH.out v0 v1 v2 v3 v4 hxo.2.1)
      rw [HAX.out] at AH1
      generalize nel bs i = b at *
      generalize placeA sb bs i = pa at *
      have KD := Lib.hid KN.out.drew
      have KBD := Lib.hid KB.out.drew
      have BD := Lib.hid BW.out.drew
      have B1 := Lib.hid ((Below.refl wr.heap.size wr).drew)
      have x0 : wr.drew.cell? ⟨w.heap.size, 0, none⟩ = some (.int .i64 e0) := KBD.out.cell 0
      have x1 : wr.drew.cell? ⟨w.heap.size, 1, none⟩ = some (.int .i64 e1) := KBD.out.cell 1
      have x2 : wr.drew.cell? ⟨w.heap.size, 2, none⟩ = some (.int .i64 e2) := KBD.out.cell 2
      have x3 : wr.drew.cell? ⟨w.heap.size, 3, none⟩ = some (.int .i64 e3) := KBD.out.cell 3
      have x4 : wr.drew.cell? ⟨w.heap.size, 4, none⟩ = some (.int .i64 e4) := KBD.out.cell 4
      have z0 : wr.drew.cell? ⟨b, 0, none⟩ = some (.int .i64 v0) := KD.out.cell 0
      have z1 : wr.drew.cell? ⟨b, 1, none⟩ = some (.int .i64 v1) := KD.out.cell 1
      have z2 : wr.drew.cell? ⟨b, 2, none⟩ = some (.int .i64 v2) := KD.out.cell 2
      have z3 : wr.drew.cell? ⟨b, 3, none⟩ = some (.int .i64 v3) := KD.out.cell 3
      have z4 : wr.drew.cell? ⟨b, 4, none⟩ = some (.int .i64 v4) := KD.out.cell 4
      have q0 : wr.drew.cell? pa = some (.pointer (some ⟨b, 0, none⟩)) := cp
      have HCP := Lib.hid cp
      clear cp
      go_wp2_with fail
      go_region_held3 (fun W => W.cell? ⟨w.heap.size, 0, none⟩ = some (.int .i64 e0) ∧ W.cell? ⟨w.heap.size, 1, none⟩ = some (.int .i64 e1) ∧ W.cell? ⟨w.heap.size, 2, none⟩ = some (.int .i64 e2) ∧ W.cell? ⟨w.heap.size, 3, none⟩ = some (.int .i64 e3) ∧ W.cell? ⟨w.heap.size, 4, none⟩ = some (.int .i64 e4) ∧ W.cell? ⟨b, 0, none⟩ = some (.int .i64 v0) ∧ W.cell? ⟨b, 1, none⟩ = some (.int .i64 v1) ∧ W.cell? ⟨b, 2, none⟩ = some (.int .i64 v2) ∧ W.cell? ⟨b, 3, none⟩ = some (.int .i64 v3) ∧ W.cell? ⟨b, 4, none⟩ = some (.int .i64 v4) ∧ W.cell? pa = some (.pointer (some ⟨b, 0, none⟩)))
        (exact ⟨x0, x1, x2, x3, x4, z0, z1, z2, z3, z4, q0⟩)
        ((go_at_call 125; refine (AH1.out _).mono ?_; rintro e w1 ⟨rfl, hb⟩; have KD := Lib.hid (KD.out.below hb); have KBD := Lib.hid (KBD.out.below hb); have BD := Lib.hid (BD.out.trans (hb.mono BD.out.size)); have B1 := Lib.hid (B1.out.trans (hb.mono B1.out.size)); clear hb x0 x1 x2 x3 x4 z0 z1 z2 z3 z4 q0; have x0 : w1.cell? ⟨w.heap.size, 0, none⟩ = some (.int .i64 e0) := KBD.out.cell 0; have x1 : w1.cell? ⟨w.heap.size, 1, none⟩ = some (.int .i64 e1) := KBD.out.cell 1; have x2 : w1.cell? ⟨w.heap.size, 2, none⟩ = some (.int .i64 e2) := KBD.out.cell 2; have x3 : w1.cell? ⟨w.heap.size, 3, none⟩ = some (.int .i64 e3) := KBD.out.cell 3; have x4 : w1.cell? ⟨w.heap.size, 4, none⟩ = some (.int .i64 e4) := KBD.out.cell 4; have z0 : w1.cell? ⟨b, 0, none⟩ = some (.int .i64 v0) := KD.out.cell 0; have z1 : w1.cell? ⟨b, 1, none⟩ = some (.int .i64 v1) := KD.out.cell 1; have z2 : w1.cell? ⟨b, 2, none⟩ = some (.int .i64 v2) := KD.out.cell 2; have z3 : w1.cell? ⟨b, 3, none⟩ = some (.int .i64 v3) := KD.out.cell 3; have z4 : w1.cell? ⟨b, 4, none⟩ = some (.int .i64 v4) := KD.out.cell 4; have q0 : w1.cell? pa = some (.pointer (some ⟨b, 0, none⟩)) := (B1.out.cell hpb).trans HCP.out))
      all_goals
        have FIN := Lib.hid (show ∃ i' : Nat, gk - 1 + i' = A.length ∧ Value.pointer (some ⟨b, 5, none⟩) = .pointer (some (placeA sb bs i')) ∧ _ ∧ _ from ⟨i + 1, by have := HGI.out; omega, by rw [HPN.out], KBD.out, BD.out⟩)
        clear x0 x1 x2 x3 x4 z0 z1 z2 z3 z4
        go_wp2
        go_roundg (gk - 1)
        case measure => (have := HGI.out; omega)
        case rel => exact FIN.out
    · obtain rfl : i = A.length := by have := HGI.out; omega
      obtain ⟨pa, hpa⟩ : ∃ z, z = placeA sb bs A.length := ⟨_, rfl⟩
      rw [← hpa] at HPA cp hpb ⊢
      have HPE := Lib.hid hpa
      clear hpa
      cases hMQ : M ++ Q with
      | nil =>
        have hd : bs.drop A.length = [] := by
          have e1 : M.length + Q.length = 0 := by have := congrArg List.length hMQ; simpa using this
          exact List.drop_eq_nil_of_le (by omega)
        rw [hd] at cp
        change wr.cell? pa = some (.pointer none) at cp
        clear hd
        go_wp2_with fail
        go_quiet (fail)
        have KBD := Lib.hid (KB.out.below (below_drewN (Below.refl wr.heap.size wr) nq))
        have BD := Lib.hid (below_drewN BW.out nq)
        clear cp
        generalize wr.drewN nq = w1 at KBD BD ⊢
        have SG := Lib.hid (HS.out.kept (fun b hb => BD.out.block b (HLT.out b hb)))
        have SBK := Lib.hid (HSB.out.below BD.out)
        have hsz := BD.out.size
        have cpa : w1.cell? pa = some (headV (.pointer none) (bs.drop A.length)) := by rw [HPE.out]; exact SG.out.place SBK.out (by rw [List.length_append, List.length_append]; omega)
        have fpa : w1.frozen? pa = false := by rw [HPE.out]; exact SG.out.placeF SBK.out (by rw [List.length_append, List.length_append]; omega)
        have HCP := Lib.hid cpa
        have HFP := Lib.hid fpa
        have hkl := KBD.out.lt
        have hpab := HPA.out
        clear cpa fpa
        have y0 : w1.cell? ⟨w.heap.size, 0, none⟩ = some (.int .i64 e0) := KBD.out.cell 0
        have y1 : w1.cell? ⟨w.heap.size, 1, none⟩ = some (.int .i64 e1) := KBD.out.cell 1
        have y2 : w1.cell? ⟨w.heap.size, 2, none⟩ = some (.int .i64 e2) := KBD.out.cell 2
        have y3 : w1.cell? ⟨w.heap.size, 3, none⟩ = some (.int .i64 e3) := KBD.out.cell 3
        have y4 : w1.cell? ⟨w.heap.size, 4, none⟩ = some (.int .i64 e4) := KBD.out.cell 4
        go_upto_region 5 with fail
        clear y0 y1 y2 y3 y4
        have WN0 := Blk.new w1 136 #[.int .i64 e0, .int .i64 e1, .int .i64 e2, .int .i64 e3, .int .i64 e4, (.pointer none)]
        have ON0 := (Below.refl w1.heap.size w1).alloc (Nat.le_refl _) (.cells #[.int .i64 e0, .int .i64 e1, .int .i64 e2, .int .i64 e3, .int .i64 e4, (.pointer none)] 136)
        have szn : (w1.alloc (.cells #[.int .i64 e0, .int .i64 e1, .int .i64 e2, .int .i64 e3, .int .i64 e4, (.pointer none)] 136)).heap.size = w1.heap.size + 1 := by simp
        generalize hWN : World.alloc _ _ = wn at WN0 ON0 szn ⊢
        clear hWN
        have WN : Hid (Blk wn w1.heap.size 136 (nodeC ⟨e0, e1, e2, e3, e4⟩ (.pointer none))) := Lib.hid WN0
        have ON := Lib.hid ON0
        clear WN0 ON0
        obtain ⟨wb, hwb⟩ : ∃ b, b = w1.heap.size := ⟨_, rfl⟩
        have HWB := Lib.hid hwb
        rw [← hwb] at WN szn ⊢
        have hwbw : w.heap.size ≤ wb := by omega
        have hkl2 : w.heap.size < wb := by omega
        have hpaw : pa.block ≠ wb := by omega
        have hbxw : w.heap.size ≠ wb := by omega
        clear hwb
        have KN := Lib.hid (KBD.out.below ON.out)
        have HNB : Hid (wb ∉ bs.drop A.length) := Lib.hid (fun e => by have := HLT.out wb (List.mem_of_mem_drop e); omega)
        have SD := Lib.hid ((SG.out.split).2.kept (W' := wn) (fun b hb => ON.out.block b (Nat.lt_of_lt_of_le (HLT.out b (List.mem_of_mem_drop hb)) (by omega))))
        have HJ := Lib.hid (fun W (h1 : Seg 136 W (.pointer none) (bs.drop A.length) (M ++ Q)) (h2' : Blk W wb 136 (nodeC ⟨e0, e1, e2, e3, e4⟩ (.pointer none))) => handJ_x wb (bs.drop A.length) M Q e0 e1 e2 e3 e4 (.pointer none) gap W h1 HNB.out h2' HE.out (fun x hx => HO.out x (by simp only [List.mem_append] at hx ⊢; exact .inr hx)) hg H2.out H3.out)
        have SDD := Lib.hid (SD.out.kept (W' := wn.drew) (fun b _ => rfl))
        have WD := Lib.hid WN.out.drew
        have KD := Lib.hid KN.out.drew
        have OD := Lib.hid ON.out.drew
        have q0 : wn.cell? pa = some (headV (.pointer none) (bs.drop A.length)) := (ON.out.cell (p := pa) (by omega)).trans HCP.out
        have y0 : wn.cell? ⟨w.heap.size, 0, none⟩ = some (.int .i64 e0) := KN.out.cell 0
        have y1 : wn.cell? ⟨w.heap.size, 1, none⟩ = some (.int .i64 e1) := KN.out.cell 1
        have y2 : wn.cell? ⟨w.heap.size, 2, none⟩ = some (.int .i64 e2) := KN.out.cell 2
        have y3 : wn.cell? ⟨w.heap.size, 3, none⟩ = some (.int .i64 e3) := KN.out.cell 3
        have y4 : wn.cell? ⟨w.heap.size, 4, none⟩ = some (.int .i64 e4) := KN.out.cell 4
        go_wp2_with fail
        clear q0 y0 y1 y2 y3 y4
        have q0 : wn.drew.cell? pa = some (headV (.pointer none) (bs.drop A.length)) := (OD.out.cell (p := pa) (by omega)).trans HCP.out
        have y0 : wn.drew.cell? ⟨w.heap.size, 0, none⟩ = some (.int .i64 e0) := KD.out.cell 0
        have y1 : wn.drew.cell? ⟨w.heap.size, 1, none⟩ = some (.int .i64 e1) := KD.out.cell 1
        have y2 : wn.drew.cell? ⟨w.heap.size, 2, none⟩ = some (.int .i64 e2) := KD.out.cell 2
        have y3 : wn.drew.cell? ⟨w.heap.size, 3, none⟩ = some (.int .i64 e3) := KD.out.cell 3
        have y4 : wn.drew.cell? ⟨w.heap.size, 4, none⟩ = some (.int .i64 e4) := KD.out.cell 4
        refine wp_region_any (by kernel_rfl) ?_
        change wpAny _ _ _ _ _ _ _ (World.drew _)
        refine wpAny_take (oi := ⟨some 34, _, _, _, _, _⟩) (i := 0) (v := .pointer (some ⟨wb, 0, none⟩)) rfl (by kernel_rfl) (by kernel_rfl) (by kernel_rfl) (fun _ _ _ h => h) (Or.inl ⟨by kernel_rfl, fun w => by go_simp⟩) ?_
        go_simp
        refine wpAny_take (oi := ⟨some 35, _, _, _, _, _⟩) (i := 1) (v := .pointer (some pa)) rfl (by kernel_rfl) (by kernel_rfl) (by kernel_rfl) (fun _ _ _ h => h) (Or.inl ⟨by kernel_rfl, fun w => by go_simp⟩) ?_
        go_simp
        refine wpAny_take (oi := ⟨some 36, _, _, _, _, _⟩) (i := 2) (v := .pointer (some pa)) rfl (by kernel_rfl) (by kernel_rfl) (by kernel_rfl) (fun _ _ _ h => h) (Or.inl ⟨by kernel_rfl, fun w => by go_simp⟩) ?_
        go_simp
        refine wpAny_take (oi := ⟨some 39, _, _, _, _, _⟩) (i := 5) (v := .int .i64 gap) rfl (by kernel_rfl) (by kernel_rfl) (by kernel_rfl) (fun _ _ _ h => h) (Or.inl ⟨by kernel_rfl, fun w => by go_simp⟩) ?_
        go_simp
        refine wpAny_take (oi := ⟨some 40, _, _, _, _, _⟩) (i := 6) (v := .pointer (some ⟨wb, 0, none⟩)) rfl (by kernel_rfl) (by kernel_rfl) (by kernel_rfl) (fun _ _ _ h => h) (Or.inl ⟨by kernel_rfl, fun w => by go_simp⟩) ?_
        go_simp
        refine wpAny_take (oi := ⟨some 41, _, _, _, _, _⟩) (i := 7) (v := .pointer (some ⟨wb, 0, none⟩)) rfl (by kernel_rfl) (by kernel_rfl) (by kernel_rfl) (fun _ _ _ h => h) (Or.inl ⟨by kernel_rfl, fun w => by go_simp⟩) ?_
        go_simp
        refine wpAny_take (oi := ⟨some 42, _, _, _, _, _⟩) (i := 8) (v := .pointer (some ⟨wb, 0, none⟩)) rfl (by kernel_rfl) (by kernel_rfl) (by kernel_rfl) (fun _ _ _ h => h) (Or.inl ⟨by kernel_rfl, fun w => by go_simp⟩) ?_
        go_simp
        refine wpAny_take (oi := ⟨some 43, _, _, _, _, _⟩) (i := 9) (v := .func (.func 143) #[.pointer (some ⟨wb, 0, none⟩)] #[]) rfl (by kernel_rfl) (by kernel_rfl) (by kernel_rfl) (fun _ _ _ h => h) (Or.inl ⟨by kernel_rfl, fun w => by go_simp⟩) ?_
        go_simp
        refine wpAny_ready (rs := [3, 4]) (by kernel_rfl) (by simp) ?_
        refine AllReady.cons rfl (fun K hK => ?_) (AllReady.cons rfl (fun K hK => ?_) AllReady.nil)
        · go_simp
          refine hK _ _ ?_
          clear hK K
          refine wpAny_ready (rs := [4]) (by kernel_rfl) (by simp) ?_
          refine AllReady.cons rfl (fun K hK => ?_) AllReady.nil
          go_simp
          refine hK _ _ ?_
          clear hK K
          refine wpAny_ready (rs := [10]) (by kernel_rfl) (by simp) ?_
          refine AllReady.cons rfl (fun K hK => ?_) AllReady.nil
          go_simp
          go_at_call 142
          refine (HJ.out _ SDD.out WD.out).mono ?_
          rintro e w5 ⟨rfl, hwn5, hon5⟩
          have hlt5 := hwn5.lt
          have c5 := hwn5.cell 5
          have f5 := hwn5.frozen 5
          simp only [nodeC, List.getElem?_toArray, List.getElem?_cons_zero, List.getElem?_cons_succ] at c5
          have OA := Lib.hid ((Only.of_below (bl := [wb]) ((Below.refl wn.heap.size wn).drew)).trans hon5)
          have W5 := Lib.hid hwn5
          clear hwn5 hon5 q0 y0 y1 y2 y3 y4
          have HTV : Hid (headV (.pointer none) (List.drop M.length (List.drop A.length bs)) = headV (.pointer none) (bs.drop (A.length + M.length))) := Lib.hid (by rw [List.drop_drop])
          obtain ⟨tv, hTV⟩ : ∃ z, Value.pointer z = headV (.pointer none) (List.drop M.length (List.drop A.length bs)) := headV_ptr _
          rw [← hTV]
          have HTV2 := Lib.hid hTV
          clear hTV
          refine hK _ _ ?_
          clear hK K
          refine wpAny_take (oi := ⟨some 45, _, _, _, _, _⟩) (i := 11) (v := .pointer (some ⟨wb, 0, none⟩)) rfl (by kernel_rfl) (by kernel_rfl) (by kernel_rfl) (fun _ _ _ h => h) (Or.inl ⟨by kernel_rfl, fun w => by go_simp⟩) ?_
          go_simp
          refine wpAny_take (oi := ⟨some 46, _, _, _, _, _⟩) (i := 12) (v := .pointer (some ⟨wb, 5, none⟩)) rfl (by kernel_rfl) (by kernel_rfl) (by kernel_rfl) (fun _ _ _ h => h) (Or.inl ⟨by kernel_rfl, fun w => by go_simp⟩) ?_
          go_simp
          refine wpAny_ready (rs := [13]) (by kernel_rfl) (by simp) ?_
          refine AllReady.cons rfl (fun K hK => ?_) AllReady.nil
          go_simp
          refine hK _ _ ?_
          clear hK K
          refine wpAny_done (by kernel_rfl) ?_ _
          have FIN : Hid (∃ wb', w.heap.size ≤ wb' ∧ Blk ((w5.setCell ⟨wb, 5, none⟩ (.pointer tv)).setCell pa (.pointer (some ⟨wb, 0, none⟩))) sb 132 #[headV (.pointer none) (bs.take A.length ++ wb' :: bs.drop (A.length + M.length))] ∧ Seg 136 ((w5.setCell ⟨wb, 5, none⟩ (.pointer tv)).setCell pa (.pointer (some ⟨wb, 0, none⟩))) (.pointer none) (bs.take A.length ++ wb' :: bs.drop (A.length + M.length)) (A ++ M.foldl mrg ⟨e0, e1, e2, e3, e4⟩ :: Q) ∧ Only (sb :: bs) w ((w5.setCell ⟨wb, 5, none⟩ (.pointer tv)).setCell pa (.pointer (some ⟨wb, 0, none⟩)))) := Lib.hid (by
            have hwb9 := HWB.out
            have O6 := OA.out.trans (Only.set w5 wb 5 (.pointer tv))
            have hbk : ∀ b, b ∈ sb :: bs → b < w1.heap.size ∧ b ∉ [wb] := fun b hb => by
              have hlw : b < w.heap.size := by
                rcases List.mem_cons.1 hb with e | e
                · rw [e]; exact hsl
                · exact HLT.out b e
              exact ⟨by omega, by simp; omega⟩
            have hwn : w1.heap.size ≤ wn.heap.size := by omega
            have S6 := SG.out.kept (W' := w5.setCell ⟨wb, 5, none⟩ (.pointer tv)) (fun b hb => by
              have k := hbk b (by simp [hb])
              exact (O6.block b (by omega) k.2).trans (ON.out.block b k.1))
            have SB6 := O6.blk (SBK.out.below ON.out) (hbk sb (by simp)).2
            have Q6 := (SD.out.split).2.kept (W' := w5.setCell ⟨wb, 5, none⟩ (.pointer tv)) (fun b hb => by
              have k := hbk b (by simp [List.mem_of_mem_drop (List.mem_of_mem_drop hb)])
              exact O6.block b (by omega) k.2)
            have B6 := put_next (v := (.pointer tv)) W5.out
            have hwm : wb ∉ sb :: bs := fun e => by have := (hbk wb e).2; simp at this
            have CF := chain_fin S6 SB6 HND.out hwm Q6 (fun b hb => List.mem_of_mem_drop hb) (by rw [← HTV2.out]; exact B6)
            rw [← HPE.out, List.drop_drop] at CF
            have hpm : pa.block ∈ sb :: bs := by rw [HPE.out]; exact placeA_mem (by omega)
            have OW : Only (sb :: bs) w w1 := Only.of_below BD.out
            have OX := (OW.trans (Only.of_below ON.out)).new O6 (fun b hb => .inr (by have := List.mem_singleton.1 hb; omega))
            obtain ⟨pb, po, pn⟩ := pa
            have OY := OX.trans ((Only.of_grown (grown_setCellA (w5.setCell ⟨wb, 5, none⟩ (.pointer tv)) ⟨pb, po, pn⟩ (.pointer (some ⟨wb, 0, none⟩)))).mono (bm := sb :: bs) (fun b hb => by have := List.mem_singleton.1 hb; rw [this]; exact hpm))
            exact ⟨wb, hwbw, CF.1, CF.2, OY⟩)
          have s0 : (w5.setCell ⟨wb, 5, none⟩ (.pointer tv)).cell? pa = some (headV (.pointer none) (bs.drop A.length)) := cset ((World.cell?_of_block (OA.out.block pa.block (by omega) (by simpa using hpaw))).trans ((ON.out.cell (p := pa) (by omega)).trans HCP.out)) hpaw
          have s1 : (w5.setCell ⟨wb, 5, none⟩ (.pointer tv)).frozen? pa = false := by rw [World.frozen?_setCell]; exact (World.frozen?_of_block (OA.out.block pa.block (by omega) (by simpa using hpaw))).trans ((ON.out.frozen (p := pa) (by omega)).trans HFP.out)
          clear c5 f5
          generalize w5.setCell ⟨wb, 5, none⟩ (.pointer tv) = w6 at FIN s0 s1 ⊢
          go_wp2
          go_end0
          exact ⟨rfl, FIN.out⟩
        · go_simp
          refine hK _ _ ?_
          clear hK K
          refine wpAny_ready (rs := [3]) (by kernel_rfl) (by simp) ?_
          refine AllReady.cons rfl (fun K hK => ?_) AllReady.nil
          go_simp
          refine hK _ _ ?_
          clear hK K
          refine wpAny_ready (rs := [10]) (by kernel_rfl) (by simp) ?_
          refine AllReady.cons rfl (fun K hK => ?_) AllReady.nil
          go_simp
          go_at_call 142
          refine (HJ.out _ SDD.out WD.out).mono ?_
          rintro e w5 ⟨rfl, hwn5, hon5⟩
          have hlt5 := hwn5.lt
          have c5 := hwn5.cell 5
          have f5 := hwn5.frozen 5
          simp only [nodeC, List.getElem?_toArray, List.getElem?_cons_zero, List.getElem?_cons_succ] at c5
          have OA := Lib.hid ((Only.of_below (bl := [wb]) ((Below.refl wn.heap.size wn).drew)).trans hon5)
          have W5 := Lib.hid hwn5
          clear hwn5 hon5 q0 y0 y1 y2 y3 y4
          have HTV : Hid (headV (.pointer none) (List.drop M.length (List.drop A.length bs)) = headV (.pointer none) (bs.drop (A.length + M.length))) := Lib.hid (by rw [List.drop_drop])
          obtain ⟨tv, hTV⟩ : ∃ z, Value.pointer z = headV (.pointer none) (List.drop M.length (List.drop A.length bs)) := headV_ptr _
          rw [← hTV]
          have HTV2 := Lib.hid hTV
          clear hTV
          refine hK _ _ ?_
          clear hK K
          refine wpAny_take (oi := ⟨some 45, _, _, _, _, _⟩) (i := 11) (v := .pointer (some ⟨wb, 0, none⟩)) rfl (by kernel_rfl) (by kernel_rfl) (by kernel_rfl) (fun _ _ _ h => h) (Or.inl ⟨by kernel_rfl, fun w => by go_simp⟩) ?_
          go_simp
          refine wpAny_take (oi := ⟨some 46, _, _, _, _, _⟩) (i := 12) (v := .pointer (some ⟨wb, 5, none⟩)) rfl (by kernel_rfl) (by kernel_rfl) (by kernel_rfl) (fun _ _ _ h => h) (Or.inl ⟨by kernel_rfl, fun w => by go_simp⟩) ?_
          go_simp
          refine wpAny_ready (rs := [13]) (by kernel_rfl) (by simp) ?_
          refine AllReady.cons rfl (fun K hK => ?_) AllReady.nil
          go_simp
          refine hK _ _ ?_
          clear hK K
          refine wpAny_done (by kernel_rfl) ?_ _
          have FIN : Hid (∃ wb', w.heap.size ≤ wb' ∧ Blk ((w5.setCell ⟨wb, 5, none⟩ (.pointer tv)).setCell pa (.pointer (some ⟨wb, 0, none⟩))) sb 132 #[headV (.pointer none) (bs.take A.length ++ wb' :: bs.drop (A.length + M.length))] ∧ Seg 136 ((w5.setCell ⟨wb, 5, none⟩ (.pointer tv)).setCell pa (.pointer (some ⟨wb, 0, none⟩))) (.pointer none) (bs.take A.length ++ wb' :: bs.drop (A.length + M.length)) (A ++ M.foldl mrg ⟨e0, e1, e2, e3, e4⟩ :: Q) ∧ Only (sb :: bs) w ((w5.setCell ⟨wb, 5, none⟩ (.pointer tv)).setCell pa (.pointer (some ⟨wb, 0, none⟩)))) := Lib.hid (by
            have hwb9 := HWB.out
            have O6 := OA.out.trans (Only.set w5 wb 5 (.pointer tv))
            have hbk : ∀ b, b ∈ sb :: bs → b < w1.heap.size ∧ b ∉ [wb] := fun b hb => by
              have hlw : b < w.heap.size := by
                rcases List.mem_cons.1 hb with e | e
                · rw [e]; exact hsl
                · exact HLT.out b e
              exact ⟨by omega, by simp; omega⟩
            have hwn : w1.heap.size ≤ wn.heap.size := by omega
            have S6 := SG.out.kept (W' := w5.setCell ⟨wb, 5, none⟩ (.pointer tv)) (fun b hb => by
              have k := hbk b (by simp [hb])
              exact (O6.block b (by omega) k.2).trans (ON.out.block b k.1))
            have SB6 := O6.blk (SBK.out.below ON.out) (hbk sb (by simp)).2
            have Q6 := (SD.out.split).2.kept (W' := w5.setCell ⟨wb, 5, none⟩ (.pointer tv)) (fun b hb => by
              have k := hbk b (by simp [List.mem_of_mem_drop (List.mem_of_mem_drop hb)])
              exact O6.block b (by omega) k.2)
            have B6 := put_next (v := (.pointer tv)) W5.out
            have hwm : wb ∉ sb :: bs := fun e => by have := (hbk wb e).2; simp at this
            have CF := chain_fin S6 SB6 HND.out hwm Q6 (fun b hb => List.mem_of_mem_drop hb) (by rw [← HTV2.out]; exact B6)
            rw [← HPE.out, List.drop_drop] at CF
            have hpm : pa.block ∈ sb :: bs := by rw [HPE.out]; exact placeA_mem (by omega)
            have OW : Only (sb :: bs) w w1 := Only.of_below BD.out
            have OX := (OW.trans (Only.of_below ON.out)).new O6 (fun b hb => .inr (by have := List.mem_singleton.1 hb; omega))
            obtain ⟨pb, po, pn⟩ := pa
            have OY := OX.trans ((Only.of_grown (grown_setCellA (w5.setCell ⟨wb, 5, none⟩ (.pointer tv)) ⟨pb, po, pn⟩ (.pointer (some ⟨wb, 0, none⟩)))).mono (bm := sb :: bs) (fun b hb => by have := List.mem_singleton.1 hb; rw [this]; exact hpm))
            exact ⟨wb, hwbw, CF.1, CF.2, OY⟩)
          have s0 : (w5.setCell ⟨wb, 5, none⟩ (.pointer tv)).cell? pa = some (headV (.pointer none) (bs.drop A.length)) := cset ((World.cell?_of_block (OA.out.block pa.block (by omega) (by simpa using hpaw))).trans ((ON.out.cell (p := pa) (by omega)).trans HCP.out)) hpaw
          have s1 : (w5.setCell ⟨wb, 5, none⟩ (.pointer tv)).frozen? pa = false := by rw [World.frozen?_setCell]; exact (World.frozen?_of_block (OA.out.block pa.block (by omega) (by simpa using hpaw))).trans ((ON.out.frozen (p := pa) (by omega)).trans HFP.out)
          clear c5 f5
          generalize w5.setCell ⟨wb, 5, none⟩ (.pointer tv) = w6 at FIN s0 s1 ⊢
          go_wp2
          go_end0
          exact ⟨rfl, FIN.out⟩
      | cons X R =>
        have hml : 0 < M.length + Q.length := by have := congrArg List.length hMQ; simp at this; omega
        have hib : A.length < bs.length := by omega
        rw [headV_drop hib] at cp
        have kn := SG.out.at_ A.length (by rw [List.length_append, List.length_append]; omega)
        rw [hMQ, zel_mid] at kn
        have HAX := Lib.hid (H1.out X (by rw [hMQ]; simp))
        have hxo := sesOk_bd (HO.out X (by rw [hMQ]; simp))
        have KN := Lib.hid kn
        clear kn hMQ
        generalize headV (.pointer none) (bs.drop (A.length + 1)) = NX at KN
        obtain ⟨v0, v1, v2, v3, v4⟩ := X
        simp only at hxo
        have AH1 := Lib.hid (AH.out v0 v1 v2 v3 v4 hxo.2.1)
        rw [HAX.out] at AH1
        generalize nel bs A.length = b at *
        have KD := Lib.hid KN.out.drew
        have KBD := Lib.hid KB.out.drew
        have BD := Lib.hid BW.out.drew
        have B1 := Lib.hid ((Below.refl wr.heap.size wr).drew)
        have x0 : wr.drew.cell? ⟨w.heap.size, 0, none⟩ = some (.int .i64 e0) := KBD.out.cell 0
        have x1 : wr.drew.cell? ⟨w.heap.size, 1, none⟩ = some (.int .i64 e1) := KBD.out.cell 1
        have x2 : wr.drew.cell? ⟨w.heap.size, 2, none⟩ = some (.int .i64 e2) := KBD.out.cell 2
        have x3 : wr.drew.cell? ⟨w.heap.size, 3, none⟩ = some (.int .i64 e3) := KBD.out.cell 3
        have x4 : wr.drew.cell? ⟨w.heap.size, 4, none⟩ = some (.int .i64 e4) := KBD.out.cell 4
        have z0 : wr.drew.cell? ⟨b, 0, none⟩ = some (.int .i64 v0) := KD.out.cell 0
        have z1 : wr.drew.cell? ⟨b, 1, none⟩ = some (.int .i64 v1) := KD.out.cell 1
        have z2 : wr.drew.cell? ⟨b, 2, none⟩ = some (.int .i64 v2) := KD.out.cell 2
        have z3 : wr.drew.cell? ⟨b, 3, none⟩ = some (.int .i64 v3) := KD.out.cell 3
        have z4 : wr.drew.cell? ⟨b, 4, none⟩ = some (.int .i64 v4) := KD.out.cell 4
        have q0 : wr.drew.cell? pa = some (.pointer (some ⟨b, 0, none⟩)) := cp
        have HCP := Lib.hid cp
        clear cp
        go_wp2_with fail
        go_region_held3 (fun W => W.cell? ⟨w.heap.size, 0, none⟩ = some (.int .i64 e0) ∧ W.cell? ⟨w.heap.size, 1, none⟩ = some (.int .i64 e1) ∧ W.cell? ⟨w.heap.size, 2, none⟩ = some (.int .i64 e2) ∧ W.cell? ⟨w.heap.size, 3, none⟩ = some (.int .i64 e3) ∧ W.cell? ⟨w.heap.size, 4, none⟩ = some (.int .i64 e4) ∧ W.cell? ⟨b, 0, none⟩ = some (.int .i64 v0) ∧ W.cell? ⟨b, 1, none⟩ = some (.int .i64 v1) ∧ W.cell? ⟨b, 2, none⟩ = some (.int .i64 v2) ∧ W.cell? ⟨b, 3, none⟩ = some (.int .i64 v3) ∧ W.cell? ⟨b, 4, none⟩ = some (.int .i64 v4) ∧ W.cell? pa = some (.pointer (some ⟨b, 0, none⟩)))
          (exact ⟨x0, x1, x2, x3, x4, z0, z1, z2, z3, z4, q0⟩)
          ((go_at_call 125; refine (AH1.out _).mono ?_; rintro e w1 ⟨rfl, hb⟩; have KD := Lib.hid (KD.out.below hb); have KBD := Lib.hid (KBD.out.below hb); have BD := Lib.hid (BD.out.trans (hb.mono BD.out.size)); have B1 := Lib.hid (B1.out.trans (hb.mono B1.out.size)); clear hb x0 x1 x2 x3 x4 z0 z1 z2 z3 z4 q0; have x0 : w1.cell? ⟨w.heap.size, 0, none⟩ = some (.int .i64 e0) := KBD.out.cell 0; have x1 : w1.cell? ⟨w.heap.size, 1, none⟩ = some (.int .i64 e1) := KBD.out.cell 1; have x2 : w1.cell? ⟨w.heap.size, 2, none⟩ = some (.int .i64 e2) := KBD.out.cell 2; have x3 : w1.cell? ⟨w.heap.size, 3, none⟩ = some (.int .i64 e3) := KBD.out.cell 3; have x4 : w1.cell? ⟨w.heap.size, 4, none⟩ = some (.int .i64 e4) := KBD.out.cell 4; have z0 : w1.cell? ⟨b, 0, none⟩ = some (.int .i64 v0) := KD.out.cell 0; have z1 : w1.cell? ⟨b, 1, none⟩ = some (.int .i64 v1) := KD.out.cell 1; have z2 : w1.cell? ⟨b, 2, none⟩ = some (.int .i64 v2) := KD.out.cell 2; have z3 : w1.cell? ⟨b, 3, none⟩ = some (.int .i64 v3) := KD.out.cell 3; have z4 : w1.cell? ⟨b, 4, none⟩ = some (.int .i64 v4) := KD.out.cell 4; have q0 : w1.cell? pa = some (.pointer (some ⟨b, 0, none⟩)) := (B1.out.cell hpb).trans HCP.out))
        all_goals
          clear x0 x1 x2 x3 x4 z0 z1 z2 z3 z4 q0
          have SG := Lib.hid (HS.out.kept (fun b hb => BD.out.block b (HLT.out b hb)))
          have SBK := Lib.hid (HSB.out.below BD.out)
          have hsz := BD.out.size
          have cpa : w1.cell? pa = some (headV (.pointer none) (bs.drop A.length)) := by rw [HPE.out]; exact SG.out.place SBK.out (by rw [List.length_append, List.length_append]; omega)
          have fpa : w1.frozen? pa = false := by rw [HPE.out]; exact SG.out.placeF SBK.out (by rw [List.length_append, List.length_append]; omega)
          have HCP := Lib.hid cpa
          have HFP := Lib.hid fpa
          have hkl := KBD.out.lt
          have hpab := HPA.out
          clear cpa fpa
          have y0 : w1.cell? ⟨w.heap.size, 0, none⟩ = some (.int .i64 e0) := KBD.out.cell 0
          have y1 : w1.cell? ⟨w.heap.size, 1, none⟩ = some (.int .i64 e1) := KBD.out.cell 1
          have y2 : w1.cell? ⟨w.heap.size, 2, none⟩ = some (.int .i64 e2) := KBD.out.cell 2
          have y3 : w1.cell? ⟨w.heap.size, 3, none⟩ = some (.int .i64 e3) := KBD.out.cell 3
          have y4 : w1.cell? ⟨w.heap.size, 4, none⟩ = some (.int .i64 e4) := KBD.out.cell 4
          go_upto_region 5 with fail
          clear y0 y1 y2 y3 y4
          have WN0 := Blk.new w1 136 #[.int .i64 e0, .int .i64 e1, .int .i64 e2, .int .i64 e3, .int .i64 e4, (.pointer none)]
          have ON0 := (Below.refl w1.heap.size w1).alloc (Nat.le_refl _) (.cells #[.int .i64 e0, .int .i64 e1, .int .i64 e2, .int .i64 e3, .int .i64 e4, (.pointer none)] 136)
          have szn : (w1.alloc (.cells #[.int .i64 e0, .int .i64 e1, .int .i64 e2, .int .i64 e3, .int .i64 e4, (.pointer none)] 136)).heap.size = w1.heap.size + 1 := by simp
          generalize hWN : World.alloc _ _ = wn at WN0 ON0 szn ⊢
          clear hWN
          have WN : Hid (Blk wn w1.heap.size 136 (nodeC ⟨e0, e1, e2, e3, e4⟩ (.pointer none))) := Lib.hid WN0
          have ON := Lib.hid ON0
          clear WN0 ON0
          obtain ⟨wb, hwb⟩ : ∃ b, b = w1.heap.size := ⟨_, rfl⟩
          have HWB := Lib.hid hwb
          rw [← hwb] at WN szn ⊢
          have hwbw : w.heap.size ≤ wb := by omega
          have hkl2 : w.heap.size < wb := by omega
          have hpaw : pa.block ≠ wb := by omega
          have hbxw : w.heap.size ≠ wb := by omega
          clear hwb
          have KN := Lib.hid (KBD.out.below ON.out)
          have HNB : Hid (wb ∉ bs.drop A.length) := Lib.hid (fun e => by have := HLT.out wb (List.mem_of_mem_drop e); omega)
          have SD := Lib.hid ((SG.out.split).2.kept (W' := wn) (fun b hb => ON.out.block b (Nat.lt_of_lt_of_le (HLT.out b (List.mem_of_mem_drop hb)) (by omega))))
          have HJ := Lib.hid (fun W (h1 : Seg 136 W (.pointer none) (bs.drop A.length) (M ++ Q)) (h2' : Blk W wb 136 (nodeC ⟨e0, e1, e2, e3, e4⟩ (.pointer none))) => handJ_x wb (bs.drop A.length) M Q e0 e1 e2 e3 e4 (.pointer none) gap W h1 HNB.out h2' HE.out (fun x hx => HO.out x (by simp only [List.mem_append] at hx ⊢; exact .inr hx)) hg H2.out H3.out)
          have SDD := Lib.hid (SD.out.kept (W' := wn.drew) (fun b _ => rfl))
          have WD := Lib.hid WN.out.drew
          have KD := Lib.hid KN.out.drew
          have OD := Lib.hid ON.out.drew
          have q0 : wn.cell? pa = some (headV (.pointer none) (bs.drop A.length)) := (ON.out.cell (p := pa) (by omega)).trans HCP.out
          have y0 : wn.cell? ⟨w.heap.size, 0, none⟩ = some (.int .i64 e0) := KN.out.cell 0
          have y1 : wn.cell? ⟨w.heap.size, 1, none⟩ = some (.int .i64 e1) := KN.out.cell 1
          have y2 : wn.cell? ⟨w.heap.size, 2, none⟩ = some (.int .i64 e2) := KN.out.cell 2
          have y3 : wn.cell? ⟨w.heap.size, 3, none⟩ = some (.int .i64 e3) := KN.out.cell 3
          have y4 : wn.cell? ⟨w.heap.size, 4, none⟩ = some (.int .i64 e4) := KN.out.cell 4
          go_wp2_with fail
          clear q0 y0 y1 y2 y3 y4
          have q0 : wn.drew.cell? pa = some (headV (.pointer none) (bs.drop A.length)) := (OD.out.cell (p := pa) (by omega)).trans HCP.out
          have y0 : wn.drew.cell? ⟨w.heap.size, 0, none⟩ = some (.int .i64 e0) := KD.out.cell 0
          have y1 : wn.drew.cell? ⟨w.heap.size, 1, none⟩ = some (.int .i64 e1) := KD.out.cell 1
          have y2 : wn.drew.cell? ⟨w.heap.size, 2, none⟩ = some (.int .i64 e2) := KD.out.cell 2
          have y3 : wn.drew.cell? ⟨w.heap.size, 3, none⟩ = some (.int .i64 e3) := KD.out.cell 3
          have y4 : wn.drew.cell? ⟨w.heap.size, 4, none⟩ = some (.int .i64 e4) := KD.out.cell 4
          refine wp_region_any (by kernel_rfl) ?_
          change wpAny _ _ _ _ _ _ _ (World.drew _)
          refine wpAny_take (oi := ⟨some 34, _, _, _, _, _⟩) (i := 0) (v := .pointer (some ⟨wb, 0, none⟩)) rfl (by kernel_rfl) (by kernel_rfl) (by kernel_rfl) (fun _ _ _ h => h) (Or.inl ⟨by kernel_rfl, fun w => by go_simp⟩) ?_
          go_simp
          refine wpAny_take (oi := ⟨some 35, _, _, _, _, _⟩) (i := 1) (v := .pointer (some pa)) rfl (by kernel_rfl) (by kernel_rfl) (by kernel_rfl) (fun _ _ _ h => h) (Or.inl ⟨by kernel_rfl, fun w => by go_simp⟩) ?_
          go_simp
          refine wpAny_take (oi := ⟨some 36, _, _, _, _, _⟩) (i := 2) (v := .pointer (some pa)) rfl (by kernel_rfl) (by kernel_rfl) (by kernel_rfl) (fun _ _ _ h => h) (Or.inl ⟨by kernel_rfl, fun w => by go_simp⟩) ?_
          go_simp
          refine wpAny_take (oi := ⟨some 39, _, _, _, _, _⟩) (i := 5) (v := .int .i64 gap) rfl (by kernel_rfl) (by kernel_rfl) (by kernel_rfl) (fun _ _ _ h => h) (Or.inl ⟨by kernel_rfl, fun w => by go_simp⟩) ?_
          go_simp
          refine wpAny_take (oi := ⟨some 40, _, _, _, _, _⟩) (i := 6) (v := .pointer (some ⟨wb, 0, none⟩)) rfl (by kernel_rfl) (by kernel_rfl) (by kernel_rfl) (fun _ _ _ h => h) (Or.inl ⟨by kernel_rfl, fun w => by go_simp⟩) ?_
          go_simp
          refine wpAny_take (oi := ⟨some 41, _, _, _, _, _⟩) (i := 7) (v := .pointer (some ⟨wb, 0, none⟩)) rfl (by kernel_rfl) (by kernel_rfl) (by kernel_rfl) (fun _ _ _ h => h) (Or.inl ⟨by kernel_rfl, fun w => by go_simp⟩) ?_
          go_simp
          refine wpAny_take (oi := ⟨some 42, _, _, _, _, _⟩) (i := 8) (v := .pointer (some ⟨wb, 0, none⟩)) rfl (by kernel_rfl) (by kernel_rfl) (by kernel_rfl) (fun _ _ _ h => h) (Or.inl ⟨by kernel_rfl, fun w => by go_simp⟩) ?_
          go_simp
          refine wpAny_take (oi := ⟨some 43, _, _, _, _, _⟩) (i := 9) (v := .func (.func 143) #[.pointer (some ⟨wb, 0, none⟩)] #[]) rfl (by kernel_rfl) (by kernel_rfl) (by kernel_rfl) (fun _ _ _ h => h) (Or.inl ⟨by kernel_rfl, fun w => by go_simp⟩) ?_
          go_simp
          refine wpAny_ready (rs := [3, 4]) (by kernel_rfl) (by simp) ?_
          refine AllReady.cons rfl (fun K hK => ?_) (AllReady.cons rfl (fun K hK => ?_) AllReady.nil)
          · go_simp
            refine hK _ _ ?_
            clear hK K
            refine wpAny_ready (rs := [4]) (by kernel_rfl) (by simp) ?_
            refine AllReady.cons rfl (fun K hK => ?_) AllReady.nil
            go_simp
            refine hK _ _ ?_
            clear hK K
            refine wpAny_ready (rs := [10]) (by kernel_rfl) (by simp) ?_
            refine AllReady.cons rfl (fun K hK => ?_) AllReady.nil
            go_simp
            go_at_call 142
            refine (HJ.out _ SDD.out WD.out).mono ?_
            rintro e w5 ⟨rfl, hwn5, hon5⟩
            have hlt5 := hwn5.lt
            have c5 := hwn5.cell 5
            have f5 := hwn5.frozen 5
            simp only [nodeC, List.getElem?_toArray, List.getElem?_cons_zero, List.getElem?_cons_succ] at c5
            have OA := Lib.hid ((Only.of_below (bl := [wb]) ((Below.refl wn.heap.size wn).drew)).trans hon5)
            have W5 := Lib.hid hwn5
            clear hwn5 hon5 q0 y0 y1 y2 y3 y4
            have HTV : Hid (headV (.pointer none) (List.drop M.length (List.drop A.length bs)) = headV (.pointer none) (bs.drop (A.length + M.length))) := Lib.hid (by rw [List.drop_drop])
            obtain ⟨tv, hTV⟩ : ∃ z, Value.pointer z = headV (.pointer none) (List.drop M.length (List.drop A.length bs)) := headV_ptr _
            rw [← hTV]
            have HTV2 := Lib.hid hTV
            clear hTV
            refine hK _ _ ?_
            clear hK K
            refine wpAny_take (oi := ⟨some 45, _, _, _, _, _⟩) (i := 11) (v := .pointer (some ⟨wb, 0, none⟩)) rfl (by kernel_rfl) (by kernel_rfl) (by kernel_rfl) (fun _ _ _ h => h) (Or.inl ⟨by kernel_rfl, fun w => by go_simp⟩) ?_
            go_simp
            refine wpAny_take (oi := ⟨some 46, _, _, _, _, _⟩) (i := 12) (v := .pointer (some ⟨wb, 5, none⟩)) rfl (by kernel_rfl) (by kernel_rfl) (by kernel_rfl) (fun _ _ _ h => h) (Or.inl ⟨by kernel_rfl, fun w => by go_simp⟩) ?_
            go_simp
            refine wpAny_ready (rs := [13]) (by kernel_rfl) (by simp) ?_
            refine AllReady.cons rfl (fun K hK => ?_) AllReady.nil
            go_simp
            refine hK _ _ ?_
            clear hK K
            refine wpAny_done (by kernel_rfl) ?_ _
            have FIN : Hid (∃ wb', w.heap.size ≤ wb' ∧ Blk ((w5.setCell ⟨wb, 5, none⟩ (.pointer tv)).setCell pa (.pointer (some ⟨wb, 0, none⟩))) sb 132 #[headV (.pointer none) (bs.take A.length ++ wb' :: bs.drop (A.length + M.length))] ∧ Seg 136 ((w5.setCell ⟨wb, 5, none⟩ (.pointer tv)).setCell pa (.pointer (some ⟨wb, 0, none⟩))) (.pointer none) (bs.take A.length ++ wb' :: bs.drop (A.length + M.length)) (A ++ M.foldl mrg ⟨e0, e1, e2, e3, e4⟩ :: Q) ∧ Only (sb :: bs) w ((w5.setCell ⟨wb, 5, none⟩ (.pointer tv)).setCell pa (.pointer (some ⟨wb, 0, none⟩)))) := Lib.hid (by
              have hwb9 := HWB.out
              have O6 := OA.out.trans (Only.set w5 wb 5 (.pointer tv))
              have hbk : ∀ b, b ∈ sb :: bs → b < w1.heap.size ∧ b ∉ [wb] := fun b hb => by
                have hlw : b < w.heap.size := by
                  rcases List.mem_cons.1 hb with e | e
                  · rw [e]; exact hsl
                  · exact HLT.out b e
                exact ⟨by omega, by simp; omega⟩
              have hwn : w1.heap.size ≤ wn.heap.size := by omega
              have S6 := SG.out.kept (W' := w5.setCell ⟨wb, 5, none⟩ (.pointer tv)) (fun b hb => by
                have k := hbk b (by simp [hb])
                exact (O6.block b (by omega) k.2).trans (ON.out.block b k.1))
              have SB6 := O6.blk (SBK.out.below ON.out) (hbk sb (by simp)).2
              have Q6 := (SD.out.split).2.kept (W' := w5.setCell ⟨wb, 5, none⟩ (.pointer tv)) (fun b hb => by
                have k := hbk b (by simp [List.mem_of_mem_drop (List.mem_of_mem_drop hb)])
                exact O6.block b (by omega) k.2)
              have B6 := put_next (v := (.pointer tv)) W5.out
              have hwm : wb ∉ sb :: bs := fun e => by have := (hbk wb e).2; simp at this
              have CF := chain_fin S6 SB6 HND.out hwm Q6 (fun b hb => List.mem_of_mem_drop hb) (by rw [← HTV2.out]; exact B6)
              rw [← HPE.out, List.drop_drop] at CF
              have hpm : pa.block ∈ sb :: bs := by rw [HPE.out]; exact placeA_mem (by omega)
              have OW : Only (sb :: bs) w w1 := Only.of_below BD.out
              have OX := (OW.trans (Only.of_below ON.out)).new O6 (fun b hb => .inr (by have := List.mem_singleton.1 hb; omega))
              obtain ⟨pb, po, pn⟩ := pa
              have OY := OX.trans ((Only.of_grown (grown_setCellA (w5.setCell ⟨wb, 5, none⟩ (.pointer tv)) ⟨pb, po, pn⟩ (.pointer (some ⟨wb, 0, none⟩)))).mono (bm := sb :: bs) (fun b hb => by have := List.mem_singleton.1 hb; rw [this]; exact hpm))
              exact ⟨wb, hwbw, CF.1, CF.2, OY⟩)
            have s0 : (w5.setCell ⟨wb, 5, none⟩ (.pointer tv)).cell? pa = some (headV (.pointer none) (bs.drop A.length)) := cset ((World.cell?_of_block (OA.out.block pa.block (by omega) (by simpa using hpaw))).trans ((ON.out.cell (p := pa) (by omega)).trans HCP.out)) hpaw
            have s1 : (w5.setCell ⟨wb, 5, none⟩ (.pointer tv)).frozen? pa = false := by rw [World.frozen?_setCell]; exact (World.frozen?_of_block (OA.out.block pa.block (by omega) (by simpa using hpaw))).trans ((ON.out.frozen (p := pa) (by omega)).trans HFP.out)
            clear c5 f5
            generalize w5.setCell ⟨wb, 5, none⟩ (.pointer tv) = w6 at FIN s0 s1 ⊢
            go_wp2
            go_end0
            exact ⟨rfl, FIN.out⟩
          · go_simp
            refine hK _ _ ?_
            clear hK K
            refine wpAny_ready (rs := [3]) (by kernel_rfl) (by simp) ?_
            refine AllReady.cons rfl (fun K hK => ?_) AllReady.nil
            go_simp
            refine hK _ _ ?_
            clear hK K
            refine wpAny_ready (rs := [10]) (by kernel_rfl) (by simp) ?_
            refine AllReady.cons rfl (fun K hK => ?_) AllReady.nil
            go_simp
            go_at_call 142
            refine (HJ.out _ SDD.out WD.out).mono ?_
            rintro e w5 ⟨rfl, hwn5, hon5⟩
            have hlt5 := hwn5.lt
            have c5 := hwn5.cell 5
            have f5 := hwn5.frozen 5
            simp only [nodeC, List.getElem?_toArray, List.getElem?_cons_zero, List.getElem?_cons_succ] at c5
            have OA := Lib.hid ((Only.of_below (bl := [wb]) ((Below.refl wn.heap.size wn).drew)).trans hon5)
            have W5 := Lib.hid hwn5
            clear hwn5 hon5 q0 y0 y1 y2 y3 y4
            have HTV : Hid (headV (.pointer none) (List.drop M.length (List.drop A.length bs)) = headV (.pointer none) (bs.drop (A.length + M.length))) := Lib.hid (by rw [List.drop_drop])
            obtain ⟨tv, hTV⟩ : ∃ z, Value.pointer z = headV (.pointer none) (List.drop M.length (List.drop A.length bs)) := headV_ptr _
            rw [← hTV]
            have HTV2 := Lib.hid hTV
            clear hTV
            refine hK _ _ ?_
            clear hK K
            refine wpAny_take (oi := ⟨some 45, _, _, _, _, _⟩) (i := 11) (v := .pointer (some ⟨wb, 0, none⟩)) rfl (by kernel_rfl) (by kernel_rfl) (by kernel_rfl) (fun _ _ _ h => h) (Or.inl ⟨by kernel_rfl, fun w => by go_simp⟩) ?_
            go_simp
            refine wpAny_take (oi := ⟨some 46, _, _, _, _, _⟩) (i := 12) (v := .pointer (some ⟨wb, 5, none⟩)) rfl (by kernel_rfl) (by kernel_rfl) (by kernel_rfl) (fun _ _ _ h => h) (Or.inl ⟨by kernel_rfl, fun w => by go_simp⟩) ?_
            go_simp
            refine wpAny_ready (rs := [13]) (by kernel_rfl) (by simp) ?_
            refine AllReady.cons rfl (fun K hK => ?_) AllReady.nil
            go_simp
            refine hK _ _ ?_
            clear hK K
            refine wpAny_done (by kernel_rfl) ?_ _
            have FIN : Hid (∃ wb', w.heap.size ≤ wb' ∧ Blk ((w5.setCell ⟨wb, 5, none⟩ (.pointer tv)).setCell pa (.pointer (some ⟨wb, 0, none⟩))) sb 132 #[headV (.pointer none) (bs.take A.length ++ wb' :: bs.drop (A.length + M.length))] ∧ Seg 136 ((w5.setCell ⟨wb, 5, none⟩ (.pointer tv)).setCell pa (.pointer (some ⟨wb, 0, none⟩))) (.pointer none) (bs.take A.length ++ wb' :: bs.drop (A.length + M.length)) (A ++ M.foldl mrg ⟨e0, e1, e2, e3, e4⟩ :: Q) ∧ Only (sb :: bs) w ((w5.setCell ⟨wb, 5, none⟩ (.pointer tv)).setCell pa (.pointer (some ⟨wb, 0, none⟩)))) := Lib.hid (by
              have hwb9 := HWB.out
              have O6 := OA.out.trans (Only.set w5 wb 5 (.pointer tv))
              have hbk : ∀ b, b ∈ sb :: bs → b < w1.heap.size ∧ b ∉ [wb] := fun b hb => by
                have hlw : b < w.heap.size := by
                  rcases List.mem_cons.1 hb with e | e
                  · rw [e]; exact hsl
                  · exact HLT.out b e
                exact ⟨by omega, by simp; omega⟩
              have hwn : w1.heap.size ≤ wn.heap.size := by omega
              have S6 := SG.out.kept (W' := w5.setCell ⟨wb, 5, none⟩ (.pointer tv)) (fun b hb => by
                have k := hbk b (by simp [hb])
                exact (O6.block b (by omega) k.2).trans (ON.out.block b k.1))
              have SB6 := O6.blk (SBK.out.below ON.out) (hbk sb (by simp)).2
              have Q6 := (SD.out.split).2.kept (W' := w5.setCell ⟨wb, 5, none⟩ (.pointer tv)) (fun b hb => by
                have k := hbk b (by simp [List.mem_of_mem_drop (List.mem_of_mem_drop hb)])
                exact O6.block b (by omega) k.2)
              have B6 := put_next (v := (.pointer tv)) W5.out
              have hwm : wb ∉ sb :: bs := fun e => by have := (hbk wb e).2; simp at this
              have CF := chain_fin S6 SB6 HND.out hwm Q6 (fun b hb => List.mem_of_mem_drop hb) (by rw [← HTV2.out]; exact B6)
              rw [← HPE.out, List.drop_drop] at CF
              have hpm : pa.block ∈ sb :: bs := by rw [HPE.out]; exact placeA_mem (by omega)
              have OW : Only (sb :: bs) w w1 := Only.of_below BD.out
              have OX := (OW.trans (Only.of_below ON.out)).new O6 (fun b hb => .inr (by have := List.mem_singleton.1 hb; omega))
              obtain ⟨pb, po, pn⟩ := pa
              have OY := OX.trans ((Only.of_grown (grown_setCellA (w5.setCell ⟨wb, 5, none⟩ (.pointer tv)) ⟨pb, po, pn⟩ (.pointer (some ⟨wb, 0, none⟩)))).mono (bm := sb :: bs) (fun b hb => by have := List.mem_singleton.1 hb; rw [this]; exact hpm))
              exact ⟨wb, hwbw, CF.1, CF.2, OY⟩)
            have s0 : (w5.setCell ⟨wb, 5, none⟩ (.pointer tv)).cell? pa = some (headV (.pointer none) (bs.drop A.length)) := cset ((World.cell?_of_block (OA.out.block pa.block (by omega) (by simpa using hpaw))).trans ((ON.out.cell (p := pa) (by omega)).trans HCP.out)) hpaw
            have s1 : (w5.setCell ⟨wb, 5, none⟩ (.pointer tv)).frozen? pa = false := by rw [World.frozen?_setCell]; exact (World.frozen?_of_block (OA.out.block pa.block (by omega) (by simpa using hpaw))).trans ((ON.out.frozen (p := pa) (by omega)).trans HFP.out)
            clear c5 f5
            generalize w5.setCell ⟨wb, 5, none⟩ (.pointer tv) = w6 at FIN s0 s1 ⊢
            go_wp2
            go_end0
            exact ⟨rfl, FIN.out⟩
end Go.Proofs.Ytchbmnpajnlijaa
