/- Chapter 11, impl's side: (*stay).handJoined. (made by tools/mkcal2.py) -/
import Derived.Test.YtchbmnpajnlijaaCalH
import Derived.Deep.QuietTactic
import Derived.BigQuiet
import Derived.Deep.LoopGhost
import Derived.Deep.CutRange
namespace Go.Proofs.Ytchbmnpajnlijaa
open Go.RowKit
theorem zel_app {M Q : List Ss} {i : Nat} (hi : i < M.length) : zel (M ++ Q) i = zel M i := by
  rw [show zel (M ++ Q) i = (M ++ Q)[i]'(by simp; omega) from rel_lt zD (by simp; omega), show zel M i = M[i] from rel_lt zD hi, List.getElem_append_left hi]
theorem zel_mid {M Q : List Ss} {q : Ss} : zel (M ++ q :: Q) M.length = q := by
  rw [show zel (M ++ q :: Q) M.length = (M ++ q :: Q)[M.length]'(by simp) from rel_lt zD (by simp)]
  simp
theorem mrg_step {M : List Ss} {e : Ss} {i : Nat} (hi : i < M.length) : (M.take (i + 1)).foldl mrg e = mrg ((M.take i).foldl mrg e) (zel M i) := by
  rw [zel_take hi, List.foldl_append]
  rfl
set_option maxHeartbeats 8000000 in
set_option maxRecDepth 100000 in
theorem handJ_x (wb : Nat) (bs : List Nat) (M Q : List Ss) (e0 e1 e2 e3 e4 : Int) (nx : Value) (gap : Int) (w : World) (hs : Seg 136 w (.pointer none) bs (M ++ Q)) (hwb : wb ∉ bs) (hb : Blk w wb 136 (nodeC ⟨e0, e1, e2, e3, e4⟩ nx)) (he : sesOk ⟨e0, e1, e2, e3, e4⟩ = true) (ho : okL (M ++ Q)) (hg : 0 ≤ gap ∧ gap ≤ 1000000) (h1 : ∀ m, m ∈ M → ahS gap ⟨e0, e1, e2, e3, e4⟩ m = false) (h2 : ∀ q, q ∈ Q → ahS gap ⟨e0, e1, e2, e3, e4⟩ q = true) :
    Calls Try.prog 142 #[headV (.pointer none) bs, (.agg #[.int .i64 e0, .int .i64 e1, .int .i64 e2, .int .i64 e3, .int .i64 e4]), .int .i64 gap, .func (.func 143) #[.pointer (some ⟨wb, 0, none⟩)] #[]] w fun en w' => en = .returned (headV (.pointer none) (bs.drop M.length)) ∧ Blk w' wb 136 (nodeC (M.foldl mrg ⟨e0, e1, e2, e3, e4⟩) nx) ∧ Only [wb] w w' := by
  have HS := Lib.hid hs
  have HL := Lib.hid (show bs.length = M.length + Q.length by rw [hs.len, List.length_append])
  have hwl := hb.lt
  have KB0 := Lib.hid (Blk.new w 33 #[.int .i64 e0, .int .i64 e1, .int .i64 e2, .int .i64 e3, .int .i64 e4])
  have WB0 := Lib.hid (hb.alloc (.cells #[.int .i64 e0, .int .i64 e1, .int .i64 e2, .int .i64 e3, .int .i64 e4] 33))
  have OB0 := Lib.hid (Only.of_below (bl := [wb]) ((Below.refl w.heap.size w).alloc (Nat.le_refl _) (.cells #[.int .i64 e0, .int .i64 e1, .int .i64 e2, .int .i64 e3, .int .i64 e4] 33)))
  have HO := Lib.hid ho
  have H1 := Lib.hid h1
  have H2 := Lib.hid h2
  have HN := Lib.hid hwb
  have hoM : okL M := fun x hx => ho x (by simp [hx])
  have FOK : Hid (∀ i, sesOk ((M.take i).foldl mrg ⟨e0, e1, e2, e3, e4⟩) = true) := Lib.hid (fun i => (fold_mrg (M.take i) ⟨e0, e1, e2, e3, e4⟩ he (fun x hx => hoM x (List.mem_of_mem_take hx))).1)
  have hub : 0 ≤ e2 ∧ e2 ≤ 1000000 := (sesOk_bd he).2.1
  have AH := Lib.hid (fun v0 v1 v2 v3 v4 W => isAhead_x e0 e1 e2 e3 e4 v0 v1 v2 v3 v4 gap W hub hg)
  clear hs hb he ho h1 h2 hwb hoM
  go_enter Try.func142, Try.ntmps142
  go_wp2
  go_loopg [0] M.length (fun gk p wr => ∃ i : Nat, gk + i = M.length ∧ p = headV (.pointer none) (bs.drop i) ∧ Blk wr wb 136 (nodeC ((M.take i).foldl mrg ⟨e0, e1, e2, e3, e4⟩) nx) ∧ Blk wr w.heap.size 33 #[.int .i64 e0, .int .i64 e1, .int .i64 e2, .int .i64 e3, .int .i64 e4] ∧ Only [wb] w wr)
  case atStart => exact ⟨0, rfl, rfl, WB0.out, KB0.out, OB0.out⟩
  case round =>
    obtain ⟨i, hgi, hp, hwbk, hkb, hon⟩ := hrel
    have WB := Lib.hid hwbk
    have KB := Lib.hid hkb
    have ON := Lib.hid hon
    have HGI := Lib.hid hgi
    have hbl := hkb.lt
    have hsz := hon.size
    clear hwbk hkb hon WB0 KB0 OB0 hgi
    by_cases hi : i < M.length
    · have hib : i < bs.length := by have := HL.out; omega
      rw [headV_drop hib] at hp
      subst hp
      have kn := HS.out.at_ i (by rw [List.length_append]; omega)
      rw [show zel (M ++ Q) i = zel M i from zel_app hi] at kn
      have hmem : zel M i ∈ M := by rw [show zel M i = M[i] from rel_lt zD hi]; exact List.getElem_mem hi
      have hbne : nel bs i ≠ wb := fun e => HN.out (by rw [← e]; exact nel_mem hib)
      have KN := Lib.hid (ON.out.blk kn (by simpa using hbne))
      have hbl2 := kn.lt
      have HA := Lib.hid (H1.out _ hmem)
      have hxo := sesOk_bd (HO.out _ (show zel M i ∈ M ++ Q by simp [hmem]))
      have HSTEP := Lib.hid (mrg_step (e := ⟨e0, e1, e2, e3, e4⟩) hi)
      have hyo := sesOk_bd (FOK.out i)
      obtain ⟨NX, hNX⟩ : ∃ z, z = headV (.pointer none) (bs.drop (i + 1)) := ⟨_, rfl⟩
      rw [← hNX] at KN
      have HNX := Lib.hid hNX
      clear kn hmem hNX
      generalize zel M i = X at *
      generalize (M.take i).foldl mrg ⟨e0, e1, e2, e3, e4⟩ = Y at *
      obtain ⟨v0, v1, v2, v3, v4⟩ := X
      obtain ⟨y0, y1, y2, y3, y4⟩ := Y
      simp only at hxo hyo
      have AH1 := Lib.hid (AH.out v0 v1 v2 v3 v4)
      rw [HA.out] at AH1
      generalize nel bs i = b at *
      have KD := Lib.hid KN.out.drew
      have KBD := Lib.hid KB.out.drew
      have WD := Lib.hid WB.out.drew
      have OD := Lib.hid (ON.out.trans (Only.of_below ((Below.refl wr.heap.size wr).drew)))
      have x0 : wr.drew.cell? ⟨w.heap.size, 0, none⟩ = some (.int .i64 e0) := KBD.out.cell 0
      have x1 : wr.drew.cell? ⟨w.heap.size, 1, none⟩ = some (.int .i64 e1) := KBD.out.cell 1
      have x2 : wr.drew.cell? ⟨w.heap.size, 2, none⟩ = some (.int .i64 e2) := KBD.out.cell 2
      have x3 : wr.drew.cell? ⟨w.heap.size, 3, none⟩ = some (.int .i64 e3) := KBD.out.cell 3
      have x4 : wr.drew.cell? ⟨w.heap.size, 4, none⟩ = some (.int .i64 e4) := KBD.out.cell 4
      have z0 : wr.drew.cell? ⟨b, 0, none⟩ = some (.int .i64 v0) := KD.out.cell 0
      have z1 : wr.drew.cell? ⟨b, 1, none⟩ = some (.int .i64 v1) := KD.out.cell 1
      have z2 : wr.drew.cell? ⟨b, 2, none⟩ = some (.int .i64 v2) := KD.out.cell 2
      have z3 : wr.drew.cell? ⟨b, 3, none⟩ = some (.int .i64 v3) := KD.out.cell 3
      have z4 : wr.drew.cell? ⟨b, 4, none⟩ = some (.int .i64 v4) := KD.out.cell 4
      go_wp2_with fail
      go_region_held3 (fun W => W.cell? ⟨w.heap.size, 0, none⟩ = some (.int .i64 e0) ∧ W.cell? ⟨w.heap.size, 1, none⟩ = some (.int .i64 e1) ∧ W.cell? ⟨w.heap.size, 2, none⟩ = some (.int .i64 e2) ∧ W.cell? ⟨w.heap.size, 3, none⟩ = some (.int .i64 e3) ∧ W.cell? ⟨w.heap.size, 4, none⟩ = some (.int .i64 e4) ∧ W.cell? ⟨b, 0, none⟩ = some (.int .i64 v0) ∧ W.cell? ⟨b, 1, none⟩ = some (.int .i64 v1) ∧ W.cell? ⟨b, 2, none⟩ = some (.int .i64 v2) ∧ W.cell? ⟨b, 3, none⟩ = some (.int .i64 v3) ∧ W.cell? ⟨b, 4, none⟩ = some (.int .i64 v4))
        (exact ⟨x0, x1, x2, x3, x4, z0, z1, z2, z3, z4⟩)
        ((go_at_call 125; refine (AH1.out _).mono ?_; rintro e w1 ⟨rfl, hb⟩; have KD := Lib.hid (KD.out.below hb); have KBD := Lib.hid (KBD.out.below hb); have WD := Lib.hid (WD.out.below hb); have OD := Lib.hid (OD.out.trans (Only.of_below hb)); clear hb x0 x1 x2 x3 x4 z0 z1 z2 z3 z4; have x0 : w1.cell? ⟨w.heap.size, 0, none⟩ = some (.int .i64 e0) := KBD.out.cell 0; have x1 : w1.cell? ⟨w.heap.size, 1, none⟩ = some (.int .i64 e1) := KBD.out.cell 1; have x2 : w1.cell? ⟨w.heap.size, 2, none⟩ = some (.int .i64 e2) := KBD.out.cell 2; have x3 : w1.cell? ⟨w.heap.size, 3, none⟩ = some (.int .i64 e3) := KBD.out.cell 3; have x4 : w1.cell? ⟨w.heap.size, 4, none⟩ = some (.int .i64 e4) := KBD.out.cell 4; have z0 : w1.cell? ⟨b, 0, none⟩ = some (.int .i64 v0) := KD.out.cell 0; have z1 : w1.cell? ⟨b, 1, none⟩ = some (.int .i64 v1) := KD.out.cell 1; have z2 : w1.cell? ⟨b, 2, none⟩ = some (.int .i64 v2) := KD.out.cell 2; have z3 : w1.cell? ⟨b, 3, none⟩ = some (.int .i64 v3) := KD.out.cell 3; have z4 : w1.cell? ⟨b, 4, none⟩ = some (.int .i64 v4) := KD.out.cell 4))
      all_goals
        clear x0 x1 x2 x3 x4
        have MG := Lib.hid (fun W (hW : Blk W wb 136 (nodeC ⟨y0, y1, y2, y3, y4⟩ nx)) => sesMerge_x wb y0 y1 y2 y3 y4 v0 v1 v2 v3 v4 nx W hW (by omega) (by omega) (by omega) (by omega))
        go_wp2_with fail
        refine (MG.out _ WD.out).mono ?_
        rintro e w2 ⟨rfl, hnew, hgr⟩
        have FIN : Hid (∃ i' : Nat, gk - 1 + i' = M.length ∧ NX = headV (.pointer none) (bs.drop i') ∧ Blk w2 wb 136 (nodeC ((M.take i').foldl mrg ⟨e0, e1, e2, e3, e4⟩) nx) ∧ Blk w2 w.heap.size 33 #[.int .i64 e0, .int .i64 e1, .int .i64 e2, .int .i64 e3, .int .i64 e4] ∧ Only [wb] w w2) := Lib.hid ⟨i + 1, by have := HGI.out; omega, HNX.out, by rw [HSTEP.out]; exact hnew, KBD.out.grown hgr (fun e => by injection e with e; omega), OD.out.trans (Only.of_grown hgr)⟩
        have c5 : w2.cell? ⟨b, 5, none⟩ = some NX := (KD.out.grown hgr (fun e => by injection e with e; exact hbne e)).cell 5
        clear hnew hgr z0 z1 z2 z3 z4
        go_wp2
        go_roundg (gk - 1)
        case measure => (have := HGI.out; omega)
        case rel => exact FIN.out
    · obtain rfl : i = M.length := by have := HGI.out; omega
      have HF := Lib.hid (show Blk wr wb 136 (nodeC (M.foldl mrg ⟨e0, e1, e2, e3, e4⟩) nx) by have := WB.out; rw [List.take_length] at this; exact this)
      cases Q with
      | nil =>
        have hd : bs.drop M.length = [] := by have := HL.out; simp at this; simp [this]
        rw [hd] at hp
        rw [show headV (.pointer none) [] = (.pointer none) from rfl] at hp
        subst hp
        have HPV := Lib.hid (show headV (.pointer none) (bs.drop M.length) = (.pointer none) by rw [hd]; rfl)
        clear hd
        go_wp2_with fail
        go_quiet (fail)
        go_wp2
        go_ret
        exact ⟨by rw [HPV.out]; rfl, HF.out.below (below_drewN (Below.refl wr.heap.size wr) nq), ON.out.trans (Only.of_below (below_drewN (Below.refl _ _) nq))⟩
      | cons q Q =>
        have hib : M.length < bs.length := by have := HL.out; simp at this; omega
        have HPV := Lib.hid (show headV (.pointer none) (bs.drop M.length) = .pointer (some ⟨nel bs M.length, 0, none⟩) from headV_drop hib)
        rw [HPV.out] at hp
        subst hp
        have kn := HS.out.at_ M.length (by simp)
        rw [show zel (M ++ q :: Q) M.length = q from zel_mid] at kn
        have hbne : nel bs M.length ≠ wb := fun e => HN.out (by rw [← e]; exact nel_mem hib)
        have KN := Lib.hid (ON.out.blk kn (by simpa using hbne))
        have HA := Lib.hid (H2.out q (by simp))
        clear kn
        generalize headV (.pointer none) (bs.drop (M.length + 1)) = NX at KN
        obtain ⟨v0, v1, v2, v3, v4⟩ := q
        have AH1 := Lib.hid (AH.out v0 v1 v2 v3 v4)
        rw [HA.out] at AH1
        generalize nel bs M.length = b at *
        have KD := Lib.hid KN.out.drew
        have KBD := Lib.hid KB.out.drew
        have OD := Lib.hid (ON.out.trans (Only.of_below ((Below.refl wr.heap.size wr).drew)))
        have WD := Lib.hid HF.out.drew
        have x0 : wr.drew.cell? ⟨w.heap.size, 0, none⟩ = some (.int .i64 e0) := KBD.out.cell 0
        have x1 : wr.drew.cell? ⟨w.heap.size, 1, none⟩ = some (.int .i64 e1) := KBD.out.cell 1
        have x2 : wr.drew.cell? ⟨w.heap.size, 2, none⟩ = some (.int .i64 e2) := KBD.out.cell 2
        have x3 : wr.drew.cell? ⟨w.heap.size, 3, none⟩ = some (.int .i64 e3) := KBD.out.cell 3
        have x4 : wr.drew.cell? ⟨w.heap.size, 4, none⟩ = some (.int .i64 e4) := KBD.out.cell 4
        have z0 : wr.drew.cell? ⟨b, 0, none⟩ = some (.int .i64 v0) := KD.out.cell 0
        have z1 : wr.drew.cell? ⟨b, 1, none⟩ = some (.int .i64 v1) := KD.out.cell 1
        have z2 : wr.drew.cell? ⟨b, 2, none⟩ = some (.int .i64 v2) := KD.out.cell 2
        have z3 : wr.drew.cell? ⟨b, 3, none⟩ = some (.int .i64 v3) := KD.out.cell 3
        have z4 : wr.drew.cell? ⟨b, 4, none⟩ = some (.int .i64 v4) := KD.out.cell 4
        go_wp2_with fail
        go_region_held3 (fun W => W.cell? ⟨w.heap.size, 0, none⟩ = some (.int .i64 e0) ∧ W.cell? ⟨w.heap.size, 1, none⟩ = some (.int .i64 e1) ∧ W.cell? ⟨w.heap.size, 2, none⟩ = some (.int .i64 e2) ∧ W.cell? ⟨w.heap.size, 3, none⟩ = some (.int .i64 e3) ∧ W.cell? ⟨w.heap.size, 4, none⟩ = some (.int .i64 e4) ∧ W.cell? ⟨b, 0, none⟩ = some (.int .i64 v0) ∧ W.cell? ⟨b, 1, none⟩ = some (.int .i64 v1) ∧ W.cell? ⟨b, 2, none⟩ = some (.int .i64 v2) ∧ W.cell? ⟨b, 3, none⟩ = some (.int .i64 v3) ∧ W.cell? ⟨b, 4, none⟩ = some (.int .i64 v4))
          (exact ⟨x0, x1, x2, x3, x4, z0, z1, z2, z3, z4⟩)
          ((go_at_call 125; refine (AH1.out _).mono ?_; rintro e w1 ⟨rfl, hb⟩; have KD := Lib.hid (KD.out.below hb); have KBD := Lib.hid (KBD.out.below hb); have WD := Lib.hid (WD.out.below hb); have OD := Lib.hid (OD.out.trans (Only.of_below hb)); clear hb x0 x1 x2 x3 x4 z0 z1 z2 z3 z4; have x0 : w1.cell? ⟨w.heap.size, 0, none⟩ = some (.int .i64 e0) := KBD.out.cell 0; have x1 : w1.cell? ⟨w.heap.size, 1, none⟩ = some (.int .i64 e1) := KBD.out.cell 1; have x2 : w1.cell? ⟨w.heap.size, 2, none⟩ = some (.int .i64 e2) := KBD.out.cell 2; have x3 : w1.cell? ⟨w.heap.size, 3, none⟩ = some (.int .i64 e3) := KBD.out.cell 3; have x4 : w1.cell? ⟨w.heap.size, 4, none⟩ = some (.int .i64 e4) := KBD.out.cell 4; have z0 : w1.cell? ⟨b, 0, none⟩ = some (.int .i64 v0) := KD.out.cell 0; have z1 : w1.cell? ⟨b, 1, none⟩ = some (.int .i64 v1) := KD.out.cell 1; have z2 : w1.cell? ⟨b, 2, none⟩ = some (.int .i64 v2) := KD.out.cell 2; have z3 : w1.cell? ⟨b, 3, none⟩ = some (.int .i64 v3) := KD.out.cell 3; have z4 : w1.cell? ⟨b, 4, none⟩ = some (.int .i64 v4) := KD.out.cell 4))
        all_goals
          clear x0 x1 x2 x3 x4 z0 z1 z2 z3 z4
          go_wp2
          go_ret
          exact ⟨by rw [HPV.out]; rfl, WD.out, OD.out⟩
end Go.Proofs.Ytchbmnpajnlijaa
