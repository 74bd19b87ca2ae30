/- Contracts of chapter 5: ShardOk, on impl's and on spec's side. (made by tools/mkshardok.py) -/
import Derived.Test.YtnfhlfbkdhpacaaGreatDoorPlainShard
import Derived.Test.YtnfhlfbkdhpacaaGreatDoorJoint1
namespace Go.Proofs.YtnfhlfbkdhpacaaGreatDoor
open Go.RowKit

set_option maxHeartbeats 4000000 in
set_option maxRecDepth 100000 in
theorem implShardOk_any (a : Option Addr) (n c : Nat) (mk lt ov : Int) (l : List Ag) (hi : Nat) (w : World) (hr : Ags w hi a c l) (hn : n = l.length) (hB : hi ≤ w.heap.size) :
    Calls Tryz.prog 134 #[.agg #[.slice a n c, .int .i64 mk, .int .i64 lt, .int .i64 ov]] w fun e w' => e = .returned (.bool (sokB l mk lt ov)) ∧ Below w.heap.size w w' := by
  subst hn
  have hc1 := hr.cap
  have hc2 := hr.big
  have B1 := Lib.hid ((Below.refl w.heap.size w).alloc (Nat.le_refl _) (.cells #[.slice a l.length c, .int .i64 mk, .int .i64 lt, .int .i64 ov] 111))
  have K0 := Lib.hid (Blk.new w 111 #[.slice a l.length c, .int .i64 mk, .int .i64 lt, .int .i64 ov])
  have HR := Lib.hid (hr.below (B1.out.mono hB))
  clear hr
  by_cases h40 : l.length ≤ 40
  · cases hm : inB mk (-1) 1000000 with
    | false =>
      rw [sok_mk hm]
      go_enter Tryz.func134, Tryz.ntmps134
      go_wp2_with (first | (go_at_call 166; refine (iMark_any _ _).mono ?_; rintro e w' ⟨rfl, rfl⟩) | (go_at_call 111; refine (iw_any _ _ _ _).mono ?_; rintro e w' ⟨rfl, rfl⟩))
      go_ret
      exact ⟨rfl, B1.out⟩
    | true =>
      cases hl : inB lt 0 1000000000 with
      | false =>
        rw [sok_lt hl]
        go_enter Tryz.func134, Tryz.ntmps134
        go_wp2_with (first | (go_at_call 166; refine (iMark_any _ _).mono ?_; rintro e w' ⟨rfl, rfl⟩) | (go_at_call 111; refine (iw_any _ _ _ _).mono ?_; rintro e w' ⟨rfl, rfl⟩))
        go_ret
        exact ⟨rfl, B1.out⟩
      | true =>
        cases ho : inB ov 0 1000000000 with
        | false =>
          rw [sok_ov ho]
          go_enter Tryz.func134, Tryz.ntmps134
          go_wp2_with (first | (go_at_call 166; refine (iMark_any _ _).mono ?_; rintro e w' ⟨rfl, rfl⟩) | (go_at_call 111; refine (iw_any _ _ _ _).mono ?_; rintro e w' ⟨rfl, rfl⟩))
          go_ret
          exact ⟨rfl, B1.out⟩
        | true =>
          have hd40 : decide ((40 : Int) < (l.length : Int)) = false := by simp; omega
          have HY := Lib.hid (fun h4 => sok_yes (l := l) h40 hm hl ho h4)
          go_enter Tryz.func134, Tryz.ntmps134
          go_wp2_with (first | (go_at_call 166; refine (iMark_any _ _).mono ?_; rintro e w' ⟨rfl, rfl⟩) | (go_at_call 111; refine (iw_any _ _ _ _).mono ?_; rintro e w' ⟨rfl, rfl⟩))
          clear hm hl ho
          go_loopw [30] (fun i wr => ∃ k : Nat, k ≤ l.length ∧ i = .int .i64 k ∧ okUp l k ∧ Below (w.alloc (.cells #[.slice a l.length c, .int .i64 mk, .int .i64 lt, .int .i64 ov] 111)).heap.size (w.alloc (.cells #[.slice a l.length c, .int .i64 mk, .int .i64 lt, .int .i64 ov] 111)) wr) (fun i _ => l.length - (intOf i).toNat)
          case atStart => exact ⟨0, Nat.zero_le _, rfl, okUp_zero, Below.refl _ _⟩
          case round =>
            obtain ⟨k, hk, rfl, hok, hb⟩ := hrel
            have hsz := hb.size
            rw [World.size_alloc] at hsz
            have HB := Lib.hid (B1.out.trans (hb.mono (by simp)))
            have HBB := Lib.hid hb
            have KS := Lib.hid (K0.out.below hb)
            have hz := KS.out.cell
            have hzf := KS.out.lt
            have HG := Lib.hid (HR.out.below (hb.mono (by simp; omega)))
            have HOK := Lib.hid hok
            clear hb
            by_cases hlt : k < l.length
            · obtain ⟨b, off, rfl, hbh, hcell⟩ := Ags.six HG.out (by omega)
              obtain ⟨q0, q1, q2, q3, q4, q5⟩ := hcell k hlt
              have HC := Lib.hid hcell
              have HA1 := Lib.hid (fun h => sok_at (mk := mk) (lt := lt) (ov := ov) hlt h)
              have HA2 := Lib.hid (fun h0 h => sok_at2 (mk := mk) (lt := lt) (ov := ov) hlt h0 h)
              have HST := Lib.hid (fun h1 h2 => okUp_step (l := l) (k := k) hok h1 h2)
              have hlt' : (k : Int) < (l.length : Int) := by omega
              clear hcell hok
              obtain ⟨S, HS'⟩ : ∃ S, ael l k = S := ⟨_, rfl⟩
              rw [HS'] at q0 q1 q2 q3 q4 q5 HA1 HA2 HST
              have HS := Lib.hid HS'
              clear HS'
              obtain ⟨u0, u1, u2, u3, u4, u5⟩ := S
              simp only at q0 q1 q2 q3 q4 q5
              have CA := Lib.hid (fun W => implAggOk_x u0 u1 u2 u3 u4 u5 W)
              go_wp2_with fail
              generalize hW : World.alloc _ _ = W
              have hbW : Below wr.heap.size wr W := by rw [← hW]; exact (Below.refl _ _).alloc (Nat.le_refl _) _
              have KT := Lib.hid (by rw [← hW]; exact Blk.new wr 136 _ : Blk W wr.heap.size 136 #[.int .i64 u0, .int .i64 u1, .int .i64 u2, .int .i64 u3, .int .i64 u4, .int .i64 u5])
              have KS2 := Lib.hid (KS.out.below hbW)
              have HG2 := Lib.hid (HG.out.below (hbW.mono (by omega)))
              have HB2 := Lib.hid (HB.out.trans (hbW.mono (by omega)))
              have HBB2 := Lib.hid (HBB.out.trans (hbW.mono (by rw [World.size_alloc]; omega)))
              have hs2 := HB2.out.size
              have hs3 := hbW.size
              have CE : Hid (∀ W', Below W.heap.size W W' → ∀ i, i < l.length → W'.cell? ⟨b, off + i * 6, none⟩ = some (.int .i64 (ael l i).win) ∧ W'.cell? ⟨b, off + i * 6 + 1, none⟩ = some (.int .i64 (ael l i).key) ∧ W'.cell? ⟨b, off + i * 6 + 2, none⟩ = some (.int .i64 (ael l i).cnt) ∧ W'.cell? ⟨b, off + i * 6 + 3, none⟩ = some (.int .i64 (ael l i).sum) ∧ W'.cell? ⟨b, off + i * 6 + 4, none⟩ = some (.int .i64 (ael l i).mn) ∧ W'.cell? ⟨b, off + i * 6 + 5, none⟩ = some (.int .i64 (ael l i).mx)) := Lib.hid (fun W' h i hi => by
                obtain ⟨b', off', he, _, hc'⟩ := Ags.six (HG2.out.below (h.mono (by omega))) (by omega)
                injection he with he
                injection he with e1 e2
                subst e1 e2
                exact hc' i hi)
              clear hW
              clear hbW q0 q1 q2 q3 q4 q5 hz
              have hs2' : w.heap.size + 1 ≤ W.heap.size := by omega
              have CK : Hid (∀ W', Below W.heap.size W W' → W'.cell? ⟨b, off + k * 6, none⟩ = some (.int .i64 u0) ∧ W'.cell? ⟨b, off + k * 6 + 1, none⟩ = some (.int .i64 u1) ∧ W'.cell? ⟨b, off + k * 6 + 2, none⟩ = some (.int .i64 u2) ∧ W'.cell? ⟨b, off + k * 6 + 3, none⟩ = some (.int .i64 u3) ∧ W'.cell? ⟨b, off + k * 6 + 4, none⟩ = some (.int .i64 u4) ∧ W'.cell? ⟨b, off + k * 6 + 5, none⟩ = some (.int .i64 u5)) := Lib.hid (fun W' h => by have := CE.out W' h k hlt; rw [HS.out] at this; exact this)
              cases hS : aggOk ⟨u0, u1, u2, u3, u4, u5⟩ with
              | false =>
                rw [hS] at CA
                have HE := Lib.hid (HA1.out hS)
                clear hS CE
                have y0 : W.drew.cell? ⟨wr.heap.size, 0, none⟩ = some (.int .i64 u0) := KT.out.drew.cell 0
                have y1 : W.drew.cell? ⟨wr.heap.size, 1, none⟩ = some (.int .i64 u1) := KT.out.drew.cell 1
                have y2 : W.drew.cell? ⟨wr.heap.size, 2, none⟩ = some (.int .i64 u2) := KT.out.drew.cell 2
                have y3 : W.drew.cell? ⟨wr.heap.size, 3, none⟩ = some (.int .i64 u3) := KT.out.drew.cell 3
                have y4 : W.drew.cell? ⟨wr.heap.size, 4, none⟩ = some (.int .i64 u4) := KT.out.drew.cell 4
                have y5 : W.drew.cell? ⟨wr.heap.size, 5, none⟩ = some (.int .i64 u5) := KT.out.drew.cell 5
                refine wp_region_any (by kernel_rfl) ?_
                change wpAny _ _ _ _ _ _ _ (World.drew _)
                refine wpAny_ready (rs := [0]) (by kernel_rfl) (by simp) ?_
                refine AllReady.cons rfl (fun K hK => ?_) AllReady.nil
                go_simp
                refine hK _ _ ?_
                clear hK K
                refine wpAny_ready (rs := [1]) (by kernel_rfl) (by simp) ?_
                refine AllReady.cons rfl (fun K hK => ?_) AllReady.nil
                go_simp
                go_wp2_with (go_at_call 185; refine (CA.out _).mono ?_; rintro e w3 ⟨rfl, hb⟩; have KS3 := Lib.hid (KS2.out.drew.below hb); have KT3 := Lib.hid (KT.out.drew.below hb); have HB3 := Lib.hid (HB2.out.drew.trans (hb.mono hs2)); have HBB3 := Lib.hid (HBB2.out.drew.trans (hb.mono (by rw [World.size_alloc]; exact hs2'))); have hb3 := Lib.hid ((Below.refl W.heap.size W).drew.trans hb); clear hb; have y0 : w3.cell? ⟨wr.heap.size, 0, none⟩ = some (.int .i64 u0) := KT3.out.cell 0; have y1 : w3.cell? ⟨wr.heap.size, 1, none⟩ = some (.int .i64 u1) := KT3.out.cell 1; have y2 : w3.cell? ⟨wr.heap.size, 2, none⟩ = some (.int .i64 u2) := KT3.out.cell 2; have y3 : w3.cell? ⟨wr.heap.size, 3, none⟩ = some (.int .i64 u3) := KT3.out.cell 3; have y4 : w3.cell? ⟨wr.heap.size, 4, none⟩ = some (.int .i64 u4) := KT3.out.cell 4; have y5 : w3.cell? ⟨wr.heap.size, 5, none⟩ = some (.int .i64 u5) := KT3.out.cell 5)
                refine wpAny_take (oi := ⟨some 37, _, _, _, _, _⟩) (i := 2) (v := .bool true) rfl (by kernel_rfl) (by kernel_rfl) (by kernel_rfl) (fun _ _ _ h => h) (Or.inl ⟨by kernel_rfl, fun w => by go_simp⟩) ?_
                go_simp
                refine wpAny_take (oi := ⟨some 38, _, _, _, _, _⟩) (i := 3) (v := .bool true) rfl (by kernel_rfl) (by kernel_rfl) (by kernel_rfl) (fun _ _ _ h => h) (Or.inl ⟨by kernel_rfl, fun w => by go_simp⟩) ?_
                go_simp
                refine wpAny_take (oi := ⟨some 39, _, _, _, _, _⟩) (i := 4) (v := undef) rfl (by kernel_rfl) (by kernel_rfl) (by kernel_rfl) (fun _ _ _ h => h) (Or.inr ⟨by kernel_rfl, rfl⟩) ?_
                go_simp
                refine wpAny_take (oi := ⟨some 40, _, _, _, _, _⟩) (i := 5) (v := undef) rfl (by kernel_rfl) (by kernel_rfl) (by kernel_rfl) (fun _ _ _ h => h) (Or.inr ⟨by kernel_rfl, rfl⟩) ?_
                go_simp
                refine wpAny_take (oi := ⟨some 41, _, _, _, _, _⟩) (i := 6) (v := undef) rfl (by kernel_rfl) (by kernel_rfl) (by kernel_rfl) (fun _ _ _ h => h) (Or.inr ⟨by kernel_rfl, rfl⟩) ?_
                go_simp
                refine wpAny_take (oi := ⟨some 42, _, _, _, _, _⟩) (i := 7) (v := undef) rfl (by kernel_rfl) (by kernel_rfl) (by kernel_rfl) (fun _ _ _ h => h) (Or.inr ⟨by kernel_rfl, rfl⟩) ?_
                go_simp
                refine wpAny_take (oi := ⟨some 43, _, _, _, _, _⟩) (i := 8) (v := undef) rfl (by kernel_rfl) (by kernel_rfl) (by kernel_rfl) (fun _ _ _ h => h) (Or.inr ⟨by kernel_rfl, rfl⟩) ?_
                go_simp
                refine wpAny_take (oi := ⟨some 44, _, _, _, _, _⟩) (i := 9) (v := undef) rfl (by kernel_rfl) (by kernel_rfl) (by kernel_rfl) (fun _ _ _ h => h) (Or.inr ⟨by kernel_rfl, rfl⟩) ?_
                go_simp
                refine wpAny_take (oi := ⟨some 45, _, _, _, _, _⟩) (i := 10) (v := undef) rfl (by kernel_rfl) (by kernel_rfl) (by kernel_rfl) (fun _ _ _ h => h) (Or.inr ⟨by kernel_rfl, rfl⟩) ?_
                go_simp
                refine wpAny_take (oi := ⟨some 46, _, _, _, _, _⟩) (i := 11) (v := undef) rfl (by kernel_rfl) (by kernel_rfl) (by kernel_rfl) (fun _ _ _ h => h) (Or.inr ⟨by kernel_rfl, rfl⟩) ?_
                go_simp
                refine wpAny_take (oi := ⟨some 47, _, _, _, _, _⟩) (i := 12) (v := undef) rfl (by kernel_rfl) (by kernel_rfl) (by kernel_rfl) (fun _ _ _ h => h) (Or.inr ⟨by kernel_rfl, rfl⟩) ?_
                go_simp
                refine wpAny_take (oi := ⟨some 48, _, _, _, _, _⟩) (i := 13) (v := undef) rfl (by kernel_rfl) (by kernel_rfl) (by kernel_rfl) (fun _ _ _ h => h) (Or.inr ⟨by kernel_rfl, rfl⟩) ?_
                go_simp
                refine wpAny_take (oi := ⟨some 49, _, _, _, _, _⟩) (i := 14) (v := undef) rfl (by kernel_rfl) (by kernel_rfl) (by kernel_rfl) (fun _ _ _ h => h) (Or.inr ⟨by kernel_rfl, rfl⟩) ?_
                go_simp
                refine wpAny_take (oi := ⟨some 50, _, _, _, _, _⟩) (i := 15) (v := undef) rfl (by kernel_rfl) (by kernel_rfl) (by kernel_rfl) (fun _ _ _ h => h) (Or.inr ⟨by kernel_rfl, rfl⟩) ?_
                go_simp
                refine wpAny_take (oi := ⟨some 51, _, _, _, _, _⟩) (i := 16) (v := undef) rfl (by kernel_rfl) (by kernel_rfl) (by kernel_rfl) (fun _ _ _ h => h) (Or.inr ⟨by kernel_rfl, rfl⟩) ?_
                go_simp
                refine wpAny_take (oi := ⟨some 52, _, _, _, _, _⟩) (i := 17) (v := .bool true) rfl (by kernel_rfl) (by kernel_rfl) (by kernel_rfl) (fun _ _ _ h => h) (Or.inl ⟨by kernel_rfl, fun w => by go_simp⟩) ?_
                go_simp
                refine wpAny_done (by kernel_rfl) ?_ _
                all_goals
                  go_wp2
                  go_ret
                  exact ⟨by rw [HE.out]; rfl, HB3.out⟩
              | true =>
                rw [hS] at CA
                by_cases h0 : k = 0
                · have h0' : ¬ (0 < k) := by omega
                  have HS2 := Lib.hid (HST.out hS (fun h => absurd h h0'))
                  subst h0
                  clear hS CE
                  have y0 : W.drew.cell? ⟨wr.heap.size, 0, none⟩ = some (.int .i64 u0) := KT.out.drew.cell 0
                  have y1 : W.drew.cell? ⟨wr.heap.size, 1, none⟩ = some (.int .i64 u1) := KT.out.drew.cell 1
                  have y2 : W.drew.cell? ⟨wr.heap.size, 2, none⟩ = some (.int .i64 u2) := KT.out.drew.cell 2
                  have y3 : W.drew.cell? ⟨wr.heap.size, 3, none⟩ = some (.int .i64 u3) := KT.out.drew.cell 3
                  have y4 : W.drew.cell? ⟨wr.heap.size, 4, none⟩ = some (.int .i64 u4) := KT.out.drew.cell 4
                  have y5 : W.drew.cell? ⟨wr.heap.size, 5, none⟩ = some (.int .i64 u5) := KT.out.drew.cell 5
                  refine wp_region_any (by kernel_rfl) ?_
                  change wpAny _ _ _ _ _ _ _ (World.drew _)
                  refine wpAny_ready (rs := [0]) (by kernel_rfl) (by simp) ?_
                  refine AllReady.cons rfl (fun K hK => ?_) AllReady.nil
                  go_simp
                  refine hK _ _ ?_
                  clear hK K
                  refine wpAny_ready (rs := [1]) (by kernel_rfl) (by simp) ?_
                  refine AllReady.cons rfl (fun K hK => ?_) AllReady.nil
                  go_simp
                  go_wp2_with (go_at_call 185; refine (CA.out _).mono ?_; rintro e w3 ⟨rfl, hb⟩; have KS3 := Lib.hid (KS2.out.drew.below hb); have KT3 := Lib.hid (KT.out.drew.below hb); have HB3 := Lib.hid (HB2.out.drew.trans (hb.mono hs2)); have HBB3 := Lib.hid (HBB2.out.drew.trans (hb.mono (by rw [World.size_alloc]; exact hs2'))); have hb3 := Lib.hid ((Below.refl W.heap.size W).drew.trans hb); clear hb; have y0 : w3.cell? ⟨wr.heap.size, 0, none⟩ = some (.int .i64 u0) := KT3.out.cell 0; have y1 : w3.cell? ⟨wr.heap.size, 1, none⟩ = some (.int .i64 u1) := KT3.out.cell 1; have y2 : w3.cell? ⟨wr.heap.size, 2, none⟩ = some (.int .i64 u2) := KT3.out.cell 2; have y3 : w3.cell? ⟨wr.heap.size, 3, none⟩ = some (.int .i64 u3) := KT3.out.cell 3; have y4 : w3.cell? ⟨wr.heap.size, 4, none⟩ = some (.int .i64 u4) := KT3.out.cell 4; have y5 : w3.cell? ⟨wr.heap.size, 5, none⟩ = some (.int .i64 u5) := KT3.out.cell 5)
                  refine wpAny_take (oi := ⟨some 37, _, _, _, _, _⟩) (i := 2) (v := .bool false) rfl (by kernel_rfl) (by kernel_rfl) (by kernel_rfl) (fun _ _ _ h => h) (Or.inl ⟨by kernel_rfl, fun w => by go_simp⟩) ?_
                  go_simp
                  refine wpAny_take (oi := ⟨some 38, _, _, _, _, _⟩) (i := 3) (v := .bool false) rfl (by kernel_rfl) (by kernel_rfl) (by kernel_rfl) (fun _ _ _ h => h) (Or.inl ⟨by kernel_rfl, fun w => by go_simp⟩) ?_
                  go_simp
                  refine wpAny_take (oi := ⟨some 39, _, _, _, _, _⟩) (i := 4) (v := .int .i64 0) rfl (by kernel_rfl) (by kernel_rfl) (by kernel_rfl) (fun _ _ _ h => h) (Or.inl ⟨by kernel_rfl, fun w => by go_simp⟩) ?_
                  go_simp
                  refine wpAny_take (oi := ⟨some 40, _, _, _, _, _⟩) (i := 5) (v := .bool false) rfl (by kernel_rfl) (by kernel_rfl) (by kernel_rfl) (fun _ _ _ h => h) (Or.inl ⟨by kernel_rfl, fun w => by go_simp⟩) ?_
                  go_simp
                  refine wpAny_take (oi := ⟨some 41, _, _, _, _, _⟩) (i := 6) (v := .bool false) rfl (by kernel_rfl) (by kernel_rfl) (by kernel_rfl) (fun _ _ _ h => h) (Or.inl ⟨by kernel_rfl, fun w => by go_simp⟩) ?_
                  go_simp
                  refine wpAny_take (oi := ⟨some 42, _, _, _, _, _⟩) (i := 7) (v := undef) rfl (by kernel_rfl) (by kernel_rfl) (by kernel_rfl) (fun _ _ _ h => h) (Or.inr ⟨by kernel_rfl, rfl⟩) ?_
                  go_simp
                  refine wpAny_take (oi := ⟨some 43, _, _, _, _, _⟩) (i := 8) (v := undef) rfl (by kernel_rfl) (by kernel_rfl) (by kernel_rfl) (fun _ _ _ h => h) (Or.inr ⟨by kernel_rfl, rfl⟩) ?_
                  go_simp
                  refine wpAny_take (oi := ⟨some 44, _, _, _, _, _⟩) (i := 9) (v := undef) rfl (by kernel_rfl) (by kernel_rfl) (by kernel_rfl) (fun _ _ _ h => h) (Or.inr ⟨by kernel_rfl, rfl⟩) ?_
                  go_simp
                  refine wpAny_take (oi := ⟨some 45, _, _, _, _, _⟩) (i := 10) (v := undef) rfl (by kernel_rfl) (by kernel_rfl) (by kernel_rfl) (fun _ _ _ h => h) (Or.inr ⟨by kernel_rfl, rfl⟩) ?_
                  go_simp
                  refine wpAny_take (oi := ⟨some 46, _, _, _, _, _⟩) (i := 11) (v := undef) rfl (by kernel_rfl) (by kernel_rfl) (by kernel_rfl) (fun _ _ _ h => h) (Or.inr ⟨by kernel_rfl, rfl⟩) ?_
                  go_simp
                  refine wpAny_take (oi := ⟨some 47, _, _, _, _, _⟩) (i := 12) (v := undef) rfl (by kernel_rfl) (by kernel_rfl) (by kernel_rfl) (fun _ _ _ h => h) (Or.inr ⟨by kernel_rfl, rfl⟩) ?_
                  go_simp
                  refine wpAny_take (oi := ⟨some 48, _, _, _, _, _⟩) (i := 13) (v := undef) rfl (by kernel_rfl) (by kernel_rfl) (by kernel_rfl) (fun _ _ _ h => h) (Or.inr ⟨by kernel_rfl, rfl⟩) ?_
                  go_simp
                  refine wpAny_take (oi := ⟨some 49, _, _, _, _, _⟩) (i := 14) (v := undef) rfl (by kernel_rfl) (by kernel_rfl) (by kernel_rfl) (fun _ _ _ h => h) (Or.inr ⟨by kernel_rfl, rfl⟩) ?_
                  go_simp
                  refine wpAny_take (oi := ⟨some 50, _, _, _, _, _⟩) (i := 15) (v := undef) rfl (by kernel_rfl) (by kernel_rfl) (by kernel_rfl) (fun _ _ _ h => h) (Or.inr ⟨by kernel_rfl, rfl⟩) ?_
                  go_simp
                  refine wpAny_take (oi := ⟨some 51, _, _, _, _, _⟩) (i := 16) (v := .bool false) rfl (by kernel_rfl) (by kernel_rfl) (by kernel_rfl) (fun _ _ _ h => h) (Or.inl ⟨by kernel_rfl, fun w => by go_simp⟩) ?_
                  go_simp
                  refine wpAny_take (oi := ⟨some 52, _, _, _, _, _⟩) (i := 17) (v := .bool false) rfl (by kernel_rfl) (by kernel_rfl) (by kernel_rfl) (fun _ _ _ h => h) (Or.inl ⟨by kernel_rfl, fun w => by go_simp⟩) ?_
                  go_simp
                  refine wpAny_done (by kernel_rfl) ?_ _
                  all_goals
                    go_wp2
                    go_roundw
                    case rel => exact ⟨1, by omega, by go_num, HS2.out, HBB3.out⟩
                    case measure => simp [intOf]; omega
                · have h0' : 0 < k := by omega
                  have h0i : (0 : Int) < (k : Int) := by omega
                  obtain ⟨T, HT'⟩ : ∃ T, ael l (k - 1) = T := ⟨_, rfl⟩
                  have HST2 := Lib.hid (fun h2 => HST.out hS (fun _ => h2))
                  have HA3 := Lib.hid (HA2.out h0')
                  rw [HT'] at HST2 HA3
                  have CP : Hid (∀ W', Below W.heap.size W W' → W'.cell? ⟨b, off + (k - 1) * 6, none⟩ = some (.int .i64 T.win) ∧ W'.cell? ⟨b, off + (k - 1) * 6 + 1, none⟩ = some (.int .i64 T.key) ∧ W'.cell? ⟨b, off + (k - 1) * 6 + 2, none⟩ = some (.int .i64 T.cnt) ∧ W'.cell? ⟨b, off + (k - 1) * 6 + 3, none⟩ = some (.int .i64 T.sum) ∧ W'.cell? ⟨b, off + (k - 1) * 6 + 4, none⟩ = some (.int .i64 T.mn) ∧ W'.cell? ⟨b, off + (k - 1) * 6 + 5, none⟩ = some (.int .i64 T.mx)) := Lib.hid (fun W' h => by have := CE.out W' h (k - 1) (by omega); rw [HT'] at this; exact this)
                  clear HT' hS CE
                  obtain ⟨v0, v1, v2, v3, v4, v5⟩ := T
                  simp only at CP
                  have CM := Lib.hid (fun W => cmpA_x v0 v1 v2 v3 v4 v5 u0 u1 u2 u3 u4 u5 W)
                  have hk3 : (k : Int) - 1 < (l.length : Int) := by omega
                  have hk4 : (0 : Int) ≤ (k : Int) - 1 := by omega
                  have hk5 : (1 : Int) ≤ (k : Int) := by omega
                  have hk1 : IntKind.i64.wrap ((k : Int) - 1) = (k : Int) - 1 := IntWalk.i64_in _ (by omega)
                  have hk2 : ((k : Int) - 1).toNat = k - 1 := by omega
                  cases hX : aheadA ⟨v0, v1, v2, v3, v4, v5⟩ ⟨u0, u1, u2, u3, u4, u5⟩ with
                  | false =>
                    have HE := Lib.hid (HA3.out hX)
                    have hX0 : ¬ cmpA ⟨v0, v1, v2, v3, v4, v5⟩ ⟨u0, u1, u2, u3, u4, u5⟩ < 0 := fun h => by rw [cmpA_neg.1 h] at hX; cases hX
                    generalize cmpA ⟨v0, v1, v2, v3, v4, v5⟩ ⟨u0, u1, u2, u3, u4, u5⟩ = X at CM hX0
                    have hX1 : 0 ≤ X := by omega
                    clear hX h0
                    have y0 : W.drew.cell? ⟨wr.heap.size, 0, none⟩ = some (.int .i64 u0) := KT.out.drew.cell 0
                    have y1 : W.drew.cell? ⟨wr.heap.size, 1, none⟩ = some (.int .i64 u1) := KT.out.drew.cell 1
                    have y2 : W.drew.cell? ⟨wr.heap.size, 2, none⟩ = some (.int .i64 u2) := KT.out.drew.cell 2
                    have y3 : W.drew.cell? ⟨wr.heap.size, 3, none⟩ = some (.int .i64 u3) := KT.out.drew.cell 3
                    have y4 : W.drew.cell? ⟨wr.heap.size, 4, none⟩ = some (.int .i64 u4) := KT.out.drew.cell 4
                    have y5 : W.drew.cell? ⟨wr.heap.size, 5, none⟩ = some (.int .i64 u5) := KT.out.drew.cell 5
                    have z0 : W.drew.cell? ⟨w.heap.size, 0, none⟩ = some (.slice (some ⟨b, off, none⟩) l.length c) := KS2.out.drew.cell 0
                    obtain ⟨p0, p1, p2, p3, p4, p5⟩ := CP.out W.drew (Below.refl _ _).drew
                    go_region_held3 (fun W => W.cell? ⟨wr.heap.size, 0, none⟩ = some (.int .i64 u0) ∧ W.cell? ⟨wr.heap.size, 1, none⟩ = some (.int .i64 u1) ∧ W.cell? ⟨wr.heap.size, 2, none⟩ = some (.int .i64 u2) ∧ W.cell? ⟨wr.heap.size, 3, none⟩ = some (.int .i64 u3) ∧ W.cell? ⟨wr.heap.size, 4, none⟩ = some (.int .i64 u4) ∧ W.cell? ⟨wr.heap.size, 5, none⟩ = some (.int .i64 u5) ∧ W.cell? ⟨w.heap.size, 0, none⟩ = some (.slice (some ⟨b, off, none⟩) l.length c) ∧ W.cell? ⟨b, off + (k - 1) * 6, none⟩ = some (.int .i64 v0) ∧ W.cell? ⟨b, off + (k - 1) * 6 + 1, none⟩ = some (.int .i64 v1) ∧ W.cell? ⟨b, off + (k - 1) * 6 + 2, none⟩ = some (.int .i64 v2) ∧ W.cell? ⟨b, off + (k - 1) * 6 + 3, none⟩ = some (.int .i64 v3) ∧ W.cell? ⟨b, off + (k - 1) * 6 + 4, none⟩ = some (.int .i64 v4) ∧ W.cell? ⟨b, off + (k - 1) * 6 + 5, none⟩ = some (.int .i64 v5))
                      (exact ⟨y0, y1, y2, y3, y4, y5, z0, p0, p1, p2, p3, p4, p5⟩)
                      (first | (go_at_call 185; refine (CA.out _).mono ?_; rintro e w3 ⟨rfl, hb⟩; have KS3 := Lib.hid (KS2.out.drew.below hb); have KT3 := Lib.hid (KT.out.drew.below hb); have HB3 := Lib.hid (HB2.out.drew.trans (hb.mono hs2)); have HBB3 := Lib.hid (HBB2.out.drew.trans (hb.mono (by rw [World.size_alloc]; exact hs2'))); have hb3 := Lib.hid ((Below.refl W.heap.size W).drew.trans hb); clear hb; have y0 : w3.cell? ⟨wr.heap.size, 0, none⟩ = some (.int .i64 u0) := KT3.out.cell 0; have y1 : w3.cell? ⟨wr.heap.size, 1, none⟩ = some (.int .i64 u1) := KT3.out.cell 1; have y2 : w3.cell? ⟨wr.heap.size, 2, none⟩ = some (.int .i64 u2) := KT3.out.cell 2; have y3 : w3.cell? ⟨wr.heap.size, 3, none⟩ = some (.int .i64 u3) := KT3.out.cell 3; have y4 : w3.cell? ⟨wr.heap.size, 4, none⟩ = some (.int .i64 u4) := KT3.out.cell 4; have y5 : w3.cell? ⟨wr.heap.size, 5, none⟩ = some (.int .i64 u5) := KT3.out.cell 5; have z0 : w3.cell? ⟨w.heap.size, 0, none⟩ = some (.slice (some ⟨b, off, none⟩) l.length c) := KS3.out.cell 0; obtain ⟨p0, p1, p2, p3, p4, p5⟩ := CP.out w3 hb3.out) | (go_at_call 186; refine (CM.out _).mono ?_; rintro e w4 ⟨rfl, hb⟩; have KS4 := Lib.hid (KS3.out.below hb); have KT4 := Lib.hid (KT3.out.below hb); have HB3 := Lib.hid (HB3.out.trans (hb.mono HB3.out.size)); have HBB3 := Lib.hid (HBB3.out.trans (hb.mono HBB3.out.size)); have hb4 := Lib.hid (hb3.out.trans (hb.mono hb3.out.size)); clear hb; have y0 : w4.cell? ⟨wr.heap.size, 0, none⟩ = some (.int .i64 u0) := KT4.out.cell 0; have y1 : w4.cell? ⟨wr.heap.size, 1, none⟩ = some (.int .i64 u1) := KT4.out.cell 1; have y2 : w4.cell? ⟨wr.heap.size, 2, none⟩ = some (.int .i64 u2) := KT4.out.cell 2; have y3 : w4.cell? ⟨wr.heap.size, 3, none⟩ = some (.int .i64 u3) := KT4.out.cell 3; have y4 : w4.cell? ⟨wr.heap.size, 4, none⟩ = some (.int .i64 u4) := KT4.out.cell 4; have y5 : w4.cell? ⟨wr.heap.size, 5, none⟩ = some (.int .i64 u5) := KT4.out.cell 5; have z0 : w4.cell? ⟨w.heap.size, 0, none⟩ = some (.slice (some ⟨b, off, none⟩) l.length c) := KS4.out.cell 0; obtain ⟨p0, p1, p2, p3, p4, p5⟩ := CP.out w4 hb4.out))
                    all_goals
                      go_wp2
                      go_ret
                      exact ⟨by rw [HE.out]; rfl, HB3.out⟩
                  | true =>
                    have HE := Lib.hid (HST2.out hX)
                    have hX0 : cmpA ⟨v0, v1, v2, v3, v4, v5⟩ ⟨u0, u1, u2, u3, u4, u5⟩ < 0 := cmpA_neg.2 hX
                    generalize cmpA ⟨v0, v1, v2, v3, v4, v5⟩ ⟨u0, u1, u2, u3, u4, u5⟩ = X at CM hX0
                    have hX1 : ¬ 0 ≤ X := by omega
                    clear hX h0
                    have y0 : W.drew.cell? ⟨wr.heap.size, 0, none⟩ = some (.int .i64 u0) := KT.out.drew.cell 0
                    have y1 : W.drew.cell? ⟨wr.heap.size, 1, none⟩ = some (.int .i64 u1) := KT.out.drew.cell 1
                    have y2 : W.drew.cell? ⟨wr.heap.size, 2, none⟩ = some (.int .i64 u2) := KT.out.drew.cell 2
                    have y3 : W.drew.cell? ⟨wr.heap.size, 3, none⟩ = some (.int .i64 u3) := KT.out.drew.cell 3
                    have y4 : W.drew.cell? ⟨wr.heap.size, 4, none⟩ = some (.int .i64 u4) := KT.out.drew.cell 4
                    have y5 : W.drew.cell? ⟨wr.heap.size, 5, none⟩ = some (.int .i64 u5) := KT.out.drew.cell 5
                    have z0 : W.drew.cell? ⟨w.heap.size, 0, none⟩ = some (.slice (some ⟨b, off, none⟩) l.length c) := KS2.out.drew.cell 0
                    obtain ⟨p0, p1, p2, p3, p4, p5⟩ := CP.out W.drew (Below.refl _ _).drew
                    go_region_held3 (fun W => W.cell? ⟨wr.heap.size, 0, none⟩ = some (.int .i64 u0) ∧ W.cell? ⟨wr.heap.size, 1, none⟩ = some (.int .i64 u1) ∧ W.cell? ⟨wr.heap.size, 2, none⟩ = some (.int .i64 u2) ∧ W.cell? ⟨wr.heap.size, 3, none⟩ = some (.int .i64 u3) ∧ W.cell? ⟨wr.heap.size, 4, none⟩ = some (.int .i64 u4) ∧ W.cell? ⟨wr.heap.size, 5, none⟩ = some (.int .i64 u5) ∧ W.cell? ⟨w.heap.size, 0, none⟩ = some (.slice (some ⟨b, off, none⟩) l.length c) ∧ W.cell? ⟨b, off + (k - 1) * 6, none⟩ = some (.int .i64 v0) ∧ W.cell? ⟨b, off + (k - 1) * 6 + 1, none⟩ = some (.int .i64 v1) ∧ W.cell? ⟨b, off + (k - 1) * 6 + 2, none⟩ = some (.int .i64 v2) ∧ W.cell? ⟨b, off + (k - 1) * 6 + 3, none⟩ = some (.int .i64 v3) ∧ W.cell? ⟨b, off + (k - 1) * 6 + 4, none⟩ = some (.int .i64 v4) ∧ W.cell? ⟨b, off + (k - 1) * 6 + 5, none⟩ = some (.int .i64 v5))
                      (exact ⟨y0, y1, y2, y3, y4, y5, z0, p0, p1, p2, p3, p4, p5⟩)
                      (first | (go_at_call 185; refine (CA.out _).mono ?_; rintro e w3 ⟨rfl, hb⟩; have KS3 := Lib.hid (KS2.out.drew.below hb); have KT3 := Lib.hid (KT.out.drew.below hb); have HB3 := Lib.hid (HB2.out.drew.trans (hb.mono hs2)); have HBB3 := Lib.hid (HBB2.out.drew.trans (hb.mono (by rw [World.size_alloc]; exact hs2'))); have hb3 := Lib.hid ((Below.refl W.heap.size W).drew.trans hb); clear hb; have y0 : w3.cell? ⟨wr.heap.size, 0, none⟩ = some (.int .i64 u0) := KT3.out.cell 0; have y1 : w3.cell? ⟨wr.heap.size, 1, none⟩ = some (.int .i64 u1) := KT3.out.cell 1; have y2 : w3.cell? ⟨wr.heap.size, 2, none⟩ = some (.int .i64 u2) := KT3.out.cell 2; have y3 : w3.cell? ⟨wr.heap.size, 3, none⟩ = some (.int .i64 u3) := KT3.out.cell 3; have y4 : w3.cell? ⟨wr.heap.size, 4, none⟩ = some (.int .i64 u4) := KT3.out.cell 4; have y5 : w3.cell? ⟨wr.heap.size, 5, none⟩ = some (.int .i64 u5) := KT3.out.cell 5; have z0 : w3.cell? ⟨w.heap.size, 0, none⟩ = some (.slice (some ⟨b, off, none⟩) l.length c) := KS3.out.cell 0; obtain ⟨p0, p1, p2, p3, p4, p5⟩ := CP.out w3 hb3.out) | (go_at_call 186; refine (CM.out _).mono ?_; rintro e w4 ⟨rfl, hb⟩; have KS4 := Lib.hid (KS3.out.below hb); have KT4 := Lib.hid (KT3.out.below hb); have HB3 := Lib.hid (HB3.out.trans (hb.mono HB3.out.size)); have HBB3 := Lib.hid (HBB3.out.trans (hb.mono HBB3.out.size)); have hb4 := Lib.hid (hb3.out.trans (hb.mono hb3.out.size)); clear hb; have y0 : w4.cell? ⟨wr.heap.size, 0, none⟩ = some (.int .i64 u0) := KT4.out.cell 0; have y1 : w4.cell? ⟨wr.heap.size, 1, none⟩ = some (.int .i64 u1) := KT4.out.cell 1; have y2 : w4.cell? ⟨wr.heap.size, 2, none⟩ = some (.int .i64 u2) := KT4.out.cell 2; have y3 : w4.cell? ⟨wr.heap.size, 3, none⟩ = some (.int .i64 u3) := KT4.out.cell 3; have y4 : w4.cell? ⟨wr.heap.size, 4, none⟩ = some (.int .i64 u4) := KT4.out.cell 4; have y5 : w4.cell? ⟨wr.heap.size, 5, none⟩ = some (.int .i64 u5) := KT4.out.cell 5; have z0 : w4.cell? ⟨w.heap.size, 0, none⟩ = some (.slice (some ⟨b, off, none⟩) l.length c) := KS4.out.cell 0; obtain ⟨p0, p1, p2, p3, p4, p5⟩ := CP.out w4 hb4.out))
                    all_goals
                      go_wp2
                      go_roundw
                      case rel => exact ⟨k + 1, by omega, by go_num, HE.out, HBB3.out⟩
                      case measure => simp [intOf]; omega
            · obtain rfl : k = l.length := by omega
              have HE := Lib.hid (HY.out hok)
              clear hok
              go_wp2
              go_ret
              exact ⟨by rw [HE.out]; rfl, HB.out⟩
  · rw [sok_len h40]
    have h40' : 40 < l.length := by omega
    go_enter Tryz.func134, Tryz.ntmps134
    go_wp2_with (first | (go_at_call 166; refine (iMark_any _ _).mono ?_; rintro e w' ⟨rfl, rfl⟩) | (go_at_call 111; refine (iw_any _ _ _ _).mono ?_; rintro e w' ⟨rfl, rfl⟩))
    go_ret
    exact ⟨rfl, B1.out⟩
set_option maxHeartbeats 4000000 in
set_option maxRecDepth 100000 in
theorem specShardOk_any (a : Option Addr) (n c : Nat) (mk lt ov : Int) (l : List Ag) (hi : Nat) (w : World) (hr : Ags w hi a c l) (hn : n = l.length) (hB : hi ≤ w.heap.size) :
    Calls Tryz.prog 83 #[.agg #[.slice a n c, .int .i64 mk, .int .i64 lt, .int .i64 ov]] w fun e w' => e = .returned (.bool (sokB l mk lt ov)) ∧ Below w.heap.size w w' := by
  subst hn
  have hc1 := hr.cap
  have hc2 := hr.big
  have B1 := Lib.hid ((Below.refl w.heap.size w).alloc (Nat.le_refl _) (.cells #[.slice a l.length c, .int .i64 mk, .int .i64 lt, .int .i64 ov] 111))
  have K0 := Lib.hid (Blk.new w 111 #[.slice a l.length c, .int .i64 mk, .int .i64 lt, .int .i64 ov])
  have HR := Lib.hid (hr.below (B1.out.mono hB))
  clear hr
  by_cases h40 : l.length ≤ 40
  · cases hm : inB mk (-1) 1000000 with
    | false =>
      rw [sok_mk hm]
      go_enter Tryz.func83, Tryz.ntmps83
      go_wp2_with (first | (go_at_call 138; refine (sMark_any _ _).mono ?_; rintro e w' ⟨rfl, rfl⟩) | (go_at_call 82; refine (specIn_any _ _ _ _).mono ?_; rintro e w' ⟨rfl, rfl⟩))
      go_ret
      exact ⟨rfl, B1.out⟩
    | true =>
      cases hl : inB lt 0 1000000000 with
      | false =>
        rw [sok_lt hl]
        go_enter Tryz.func83, Tryz.ntmps83
        go_wp2_with (first | (go_at_call 138; refine (sMark_any _ _).mono ?_; rintro e w' ⟨rfl, rfl⟩) | (go_at_call 82; refine (specIn_any _ _ _ _).mono ?_; rintro e w' ⟨rfl, rfl⟩))
        go_ret
        exact ⟨rfl, B1.out⟩
      | true =>
        cases ho : inB ov 0 1000000000 with
        | false =>
          rw [sok_ov ho]
          go_enter Tryz.func83, Tryz.ntmps83
          go_wp2_with (first | (go_at_call 138; refine (sMark_any _ _).mono ?_; rintro e w' ⟨rfl, rfl⟩) | (go_at_call 82; refine (specIn_any _ _ _ _).mono ?_; rintro e w' ⟨rfl, rfl⟩))
          go_ret
          exact ⟨rfl, B1.out⟩
        | true =>
          have hd40 : decide ((40 : Int) < (l.length : Int)) = false := by simp; omega
          have HY := Lib.hid (fun h4 => sok_yes (l := l) h40 hm hl ho h4)
          go_enter Tryz.func83, Tryz.ntmps83
          go_wp2_with (first | (go_at_call 138; refine (sMark_any _ _).mono ?_; rintro e w' ⟨rfl, rfl⟩) | (go_at_call 82; refine (specIn_any _ _ _ _).mono ?_; rintro e w' ⟨rfl, rfl⟩))
          clear hm hl ho
          go_loopw [3] (fun i wr => ∃ k : Nat, k ≤ l.length ∧ i = .int .i64 k ∧ okUp l k ∧ Below (w.alloc (.cells #[.slice a l.length c, .int .i64 mk, .int .i64 lt, .int .i64 ov] 111)).heap.size (w.alloc (.cells #[.slice a l.length c, .int .i64 mk, .int .i64 lt, .int .i64 ov] 111)) wr) (fun i _ => l.length - (intOf i).toNat)
          case atStart => exact ⟨0, Nat.zero_le _, rfl, okUp_zero, Below.refl _ _⟩
          case round =>
            obtain ⟨k, hk, rfl, hok, hb⟩ := hrel
            have hsz := hb.size
            rw [World.size_alloc] at hsz
            have HB := Lib.hid (B1.out.trans (hb.mono (by simp)))
            have HBB := Lib.hid hb
            have KS := Lib.hid (K0.out.below hb)
            have hz := KS.out.cell
            have hzf := KS.out.lt
            have HG := Lib.hid (HR.out.below (hb.mono (by simp; omega)))
            have HOK := Lib.hid hok
            clear hb
            by_cases hlt : k < l.length
            · obtain ⟨b, off, rfl, hbh, hcell⟩ := Ags.six HG.out (by omega)
              obtain ⟨q0, q1, q2, q3, q4, q5⟩ := hcell k hlt
              have HC := Lib.hid hcell
              have HA1 := Lib.hid (fun h => sok_at (mk := mk) (lt := lt) (ov := ov) hlt h)
              have HA2 := Lib.hid (fun h0 h => sok_at2 (mk := mk) (lt := lt) (ov := ov) hlt h0 h)
              have HST := Lib.hid (fun h1 h2 => okUp_step (l := l) (k := k) hok h1 h2)
              have hlt' : (k : Int) < (l.length : Int) := by omega
              clear hcell hok
              obtain ⟨S, HS'⟩ : ∃ S, ael l k = S := ⟨_, rfl⟩
              rw [HS'] at q0 q1 q2 q3 q4 q5 HA1 HA2 HST
              have HS := Lib.hid HS'
              clear HS'
              obtain ⟨u0, u1, u2, u3, u4, u5⟩ := S
              simp only at q0 q1 q2 q3 q4 q5
              have CA := Lib.hid (fun W => specAggOk_x u0 u1 u2 u3 u4 u5 W)
              go_wp2_with fail
              obtain ⟨W, hW⟩ : ∃ W, wr = W := ⟨wr, rfl⟩
              have hbW : Below wr.heap.size wr W := by rw [← hW]; exact Below.refl _ _
              have KS2 := Lib.hid (KS.out.below hbW)
              have HG2 := Lib.hid (HG.out.below (hbW.mono (by omega)))
              have HB2 := Lib.hid (HB.out.trans (hbW.mono (by omega)))
              have HBB2 := Lib.hid (HBB.out.trans (hbW.mono (by rw [World.size_alloc]; omega)))
              have hs2 := HB2.out.size
              have hs3 := hbW.size
              have CE : Hid (∀ W', Below W.heap.size W W' → ∀ i, i < l.length → W'.cell? ⟨b, off + i * 6, none⟩ = some (.int .i64 (ael l i).win) ∧ W'.cell? ⟨b, off + i * 6 + 1, none⟩ = some (.int .i64 (ael l i).key) ∧ W'.cell? ⟨b, off + i * 6 + 2, none⟩ = some (.int .i64 (ael l i).cnt) ∧ W'.cell? ⟨b, off + i * 6 + 3, none⟩ = some (.int .i64 (ael l i).sum) ∧ W'.cell? ⟨b, off + i * 6 + 4, none⟩ = some (.int .i64 (ael l i).mn) ∧ W'.cell? ⟨b, off + i * 6 + 5, none⟩ = some (.int .i64 (ael l i).mx)) := Lib.hid (fun W' h i hi => by
                obtain ⟨b', off', he, _, hc'⟩ := Ags.six (HG2.out.below (h.mono (by omega))) (by omega)
                injection he with he
                injection he with e1 e2
                subst e1 e2
                exact hc' i hi)
              subst hW
              clear hbW q0 q1 q2 q3 q4 q5 hz
              have hs2' : w.heap.size + 1 ≤ wr.heap.size := by omega
              have CK : Hid (∀ W', Below wr.heap.size wr W' → W'.cell? ⟨b, off + k * 6, none⟩ = some (.int .i64 u0) ∧ W'.cell? ⟨b, off + k * 6 + 1, none⟩ = some (.int .i64 u1) ∧ W'.cell? ⟨b, off + k * 6 + 2, none⟩ = some (.int .i64 u2) ∧ W'.cell? ⟨b, off + k * 6 + 3, none⟩ = some (.int .i64 u3) ∧ W'.cell? ⟨b, off + k * 6 + 4, none⟩ = some (.int .i64 u4) ∧ W'.cell? ⟨b, off + k * 6 + 5, none⟩ = some (.int .i64 u5)) := Lib.hid (fun W' h => by have := CE.out W' h k hlt; rw [HS.out] at this; exact this)
              cases hS : aggOk ⟨u0, u1, u2, u3, u4, u5⟩ with
              | false =>
                rw [hS] at CA
                have HE := Lib.hid (HA1.out hS)
                clear hS CE
                have z0 : wr.drew.cell? ⟨w.heap.size, 0, none⟩ = some (.slice (some ⟨b, off, none⟩) l.length c) := KS2.out.drew.cell 0
                obtain ⟨q0, q1, q2, q3, q4, q5⟩ := CK.out wr.drew (Below.refl _ _).drew
                refine wp_region_any (by kernel_rfl) ?_
                change wpAny _ _ _ _ _ _ _ (World.drew _)
                refine wpAny_take (oi := ⟨some 33, _, _, _, _, _⟩) (i := 0) (v := .pointer (some ⟨w.heap.size, 0, none⟩)) rfl (by kernel_rfl) (by kernel_rfl) (by kernel_rfl) (fun _ _ _ h => h) (Or.inl ⟨by kernel_rfl, fun w => by go_simp⟩) ?_
                go_simp
                refine wpAny_take (oi := ⟨some 35, _, _, _, _, _⟩) (i := 2) (v := .int .i64 (k : Int)) rfl (by kernel_rfl) (by kernel_rfl) (by kernel_rfl) (fun _ _ _ h => h) (Or.inl ⟨by kernel_rfl, fun w => by go_simp⟩) ?_
                go_simp
                refine wpAny_ready (rs := [1]) (by kernel_rfl) (by simp) ?_
                refine AllReady.cons rfl (fun K hK => ?_) AllReady.nil
                go_simp
                refine hK _ _ ?_
                clear hK K
                refine wpAny_ready (rs := [3]) (by kernel_rfl) (by simp) ?_
                refine AllReady.cons rfl (fun K hK => ?_) AllReady.nil
                go_simp
                refine hK _ _ ?_
                clear hK K
                refine wpAny_ready (rs := [4]) (by kernel_rfl) (by simp) ?_
                refine AllReady.cons rfl (fun K hK => ?_) AllReady.nil
                go_simp
                refine hK _ _ ?_
                clear hK K
                refine wpAny_ready (rs := [5]) (by kernel_rfl) (by simp) ?_
                refine AllReady.cons rfl (fun K hK => ?_) AllReady.nil
                go_simp
                go_wp2_with (go_at_call 139; refine (CA.out _).mono ?_; rintro e w3 ⟨rfl, hb⟩; have KS3 := Lib.hid (KS2.out.drew.below hb); have HB3 := Lib.hid (HB2.out.drew.trans (hb.mono hs2)); have HBB3 := Lib.hid (HBB2.out.drew.trans (hb.mono (by rw [World.size_alloc]; exact hs2'))); have hb3 := Lib.hid ((Below.refl wr.heap.size wr).drew.trans hb); clear hb; have z0 : w3.cell? ⟨w.heap.size, 0, none⟩ = some (.slice (some ⟨b, off, none⟩) l.length c) := KS3.out.cell 0; obtain ⟨q0, q1, q2, q3, q4, q5⟩ := CK.out w3 hb3.out)
                refine wpAny_take (oi := ⟨some 39, _, _, _, _, _⟩) (i := 6) (v := .bool true) rfl (by kernel_rfl) (by kernel_rfl) (by kernel_rfl) (fun _ _ _ h => h) (Or.inl ⟨by kernel_rfl, fun w => by go_simp⟩) ?_
                go_simp
                refine wpAny_take (oi := ⟨some 40, _, _, _, _, _⟩) (i := 7) (v := .bool true) rfl (by kernel_rfl) (by kernel_rfl) (by kernel_rfl) (fun _ _ _ h => h) (Or.inl ⟨by kernel_rfl, fun w => by go_simp⟩) ?_
                go_simp
                refine wpAny_take (oi := ⟨some 41, _, _, _, _, _⟩) (i := 8) (v := undef) rfl (by kernel_rfl) (by kernel_rfl) (by kernel_rfl) (fun _ _ _ h => h) (Or.inr ⟨by kernel_rfl, rfl⟩) ?_
                go_simp
                refine wpAny_take (oi := ⟨some 42, _, _, _, _, _⟩) (i := 9) (v := undef) rfl (by kernel_rfl) (by kernel_rfl) (by kernel_rfl) (fun _ _ _ h => h) (Or.inr ⟨by kernel_rfl, rfl⟩) ?_
                go_simp
                refine wpAny_take (oi := ⟨some 43, _, _, _, _, _⟩) (i := 10) (v := undef) rfl (by kernel_rfl) (by kernel_rfl) (by kernel_rfl) (fun _ _ _ h => h) (Or.inr ⟨by kernel_rfl, rfl⟩) ?_
                go_simp
                refine wpAny_take (oi := ⟨some 44, _, _, _, _, _⟩) (i := 11) (v := undef) rfl (by kernel_rfl) (by kernel_rfl) (by kernel_rfl) (fun _ _ _ h => h) (Or.inr ⟨by kernel_rfl, rfl⟩) ?_
                go_simp
                refine wpAny_take (oi := ⟨some 45, _, _, _, _, _⟩) (i := 12) (v := undef) rfl (by kernel_rfl) (by kernel_rfl) (by kernel_rfl) (fun _ _ _ h => h) (Or.inr ⟨by kernel_rfl, rfl⟩) ?_
                go_simp
                refine wpAny_take (oi := ⟨some 46, _, _, _, _, _⟩) (i := 13) (v := undef) rfl (by kernel_rfl) (by kernel_rfl) (by kernel_rfl) (fun _ _ _ h => h) (Or.inr ⟨by kernel_rfl, rfl⟩) ?_
                go_simp
                refine wpAny_take (oi := ⟨some 47, _, _, _, _, _⟩) (i := 14) (v := undef) rfl (by kernel_rfl) (by kernel_rfl) (by kernel_rfl) (fun _ _ _ h => h) (Or.inr ⟨by kernel_rfl, rfl⟩) ?_
                go_simp
                refine wpAny_take (oi := ⟨some 48, _, _, _, _, _⟩) (i := 15) (v := undef) rfl (by kernel_rfl) (by kernel_rfl) (by kernel_rfl) (fun _ _ _ h => h) (Or.inr ⟨by kernel_rfl, rfl⟩) ?_
                go_simp
                refine wpAny_take (oi := ⟨some 49, _, _, _, _, _⟩) (i := 16) (v := undef) rfl (by kernel_rfl) (by kernel_rfl) (by kernel_rfl) (fun _ _ _ h => h) (Or.inr ⟨by kernel_rfl, rfl⟩) ?_
                go_simp
                refine wpAny_take (oi := ⟨some 50, _, _, _, _, _⟩) (i := 17) (v := undef) rfl (by kernel_rfl) (by kernel_rfl) (by kernel_rfl) (fun _ _ _ h => h) (Or.inr ⟨by kernel_rfl, rfl⟩) ?_
                go_simp
                refine wpAny_take (oi := ⟨some 51, _, _, _, _, _⟩) (i := 18) (v := undef) rfl (by kernel_rfl) (by kernel_rfl) (by kernel_rfl) (fun _ _ _ h => h) (Or.inr ⟨by kernel_rfl, rfl⟩) ?_
                go_simp
                refine wpAny_take (oi := ⟨some 52, _, _, _, _, _⟩) (i := 19) (v := undef) rfl (by kernel_rfl) (by kernel_rfl) (by kernel_rfl) (fun _ _ _ h => h) (Or.inr ⟨by kernel_rfl, rfl⟩) ?_
                go_simp
                refine wpAny_take (oi := ⟨some 53, _, _, _, _, _⟩) (i := 20) (v := undef) rfl (by kernel_rfl) (by kernel_rfl) (by kernel_rfl) (fun _ _ _ h => h) (Or.inr ⟨by kernel_rfl, rfl⟩) ?_
                go_simp
                refine wpAny_take (oi := ⟨some 54, _, _, _, _, _⟩) (i := 21) (v := undef) rfl (by kernel_rfl) (by kernel_rfl) (by kernel_rfl) (fun _ _ _ h => h) (Or.inr ⟨by kernel_rfl, rfl⟩) ?_
                go_simp
                refine wpAny_take (oi := ⟨some 55, _, _, _, _, _⟩) (i := 22) (v := undef) rfl (by kernel_rfl) (by kernel_rfl) (by kernel_rfl) (fun _ _ _ h => h) (Or.inr ⟨by kernel_rfl, rfl⟩) ?_
                go_simp
                refine wpAny_take (oi := ⟨some 56, _, _, _, _, _⟩) (i := 23) (v := undef) rfl (by kernel_rfl) (by kernel_rfl) (by kernel_rfl) (fun _ _ _ h => h) (Or.inr ⟨by kernel_rfl, rfl⟩) ?_
                go_simp
                refine wpAny_take (oi := ⟨some 57, _, _, _, _, _⟩) (i := 24) (v := undef) rfl (by kernel_rfl) (by kernel_rfl) (by kernel_rfl) (fun _ _ _ h => h) (Or.inr ⟨by kernel_rfl, rfl⟩) ?_
                go_simp
                refine wpAny_take (oi := ⟨some 58, _, _, _, _, _⟩) (i := 25) (v := .bool true) rfl (by kernel_rfl) (by kernel_rfl) (by kernel_rfl) (fun _ _ _ h => h) (Or.inl ⟨by kernel_rfl, fun w => by go_simp⟩) ?_
                go_simp
                refine wpAny_done (by kernel_rfl) ?_ _
                all_goals
                  go_wp2
                  go_ret
                  exact ⟨by rw [HE.out]; rfl, HB3.out⟩
              | true =>
                rw [hS] at CA
                by_cases h0 : k = 0
                · have h0' : ¬ (0 < k) := by omega
                  have HS2 := Lib.hid (HST.out hS (fun h => absurd h h0'))
                  subst h0
                  clear hS CE
                  have z0 : wr.drew.cell? ⟨w.heap.size, 0, none⟩ = some (.slice (some ⟨b, off, none⟩) l.length c) := KS2.out.drew.cell 0
                  obtain ⟨q0, q1, q2, q3, q4, q5⟩ := CK.out wr.drew (Below.refl _ _).drew
                  simp only [Nat.zero_mul, Nat.add_zero] at q0 q1 q2 q3 q4 q5
                  refine wp_region_any (by kernel_rfl) ?_
                  change wpAny _ _ _ _ _ _ _ (World.drew _)
                  refine wpAny_take (oi := ⟨some 33, _, _, _, _, _⟩) (i := 0) (v := .pointer (some ⟨w.heap.size, 0, none⟩)) rfl (by kernel_rfl) (by kernel_rfl) (by kernel_rfl) (fun _ _ _ h => h) (Or.inl ⟨by kernel_rfl, fun w => by go_simp⟩) ?_
                  go_simp
                  refine wpAny_take (oi := ⟨some 35, _, _, _, _, _⟩) (i := 2) (v := .int .i64 0) rfl (by kernel_rfl) (by kernel_rfl) (by kernel_rfl) (fun _ _ _ h => h) (Or.inl ⟨by kernel_rfl, fun w => by go_simp⟩) ?_
                  go_simp
                  refine wpAny_ready (rs := [1]) (by kernel_rfl) (by simp) ?_
                  refine AllReady.cons rfl (fun K hK => ?_) AllReady.nil
                  go_simp
                  refine hK _ _ ?_
                  clear hK K
                  refine wpAny_ready (rs := [3]) (by kernel_rfl) (by simp) ?_
                  refine AllReady.cons rfl (fun K hK => ?_) AllReady.nil
                  go_simp
                  refine hK _ _ ?_
                  clear hK K
                  refine wpAny_ready (rs := [4]) (by kernel_rfl) (by simp) ?_
                  refine AllReady.cons rfl (fun K hK => ?_) AllReady.nil
                  go_simp
                  refine hK _ _ ?_
                  clear hK K
                  refine wpAny_ready (rs := [5]) (by kernel_rfl) (by simp) ?_
                  refine AllReady.cons rfl (fun K hK => ?_) AllReady.nil
                  go_simp
                  go_wp2_with (go_at_call 139; refine (CA.out _).mono ?_; rintro e w3 ⟨rfl, hb⟩; have KS3 := Lib.hid (KS2.out.drew.below hb); have HB3 := Lib.hid (HB2.out.drew.trans (hb.mono hs2)); have HBB3 := Lib.hid (HBB2.out.drew.trans (hb.mono (by rw [World.size_alloc]; exact hs2'))); have hb3 := Lib.hid ((Below.refl wr.heap.size wr).drew.trans hb); clear hb; have z0 : w3.cell? ⟨w.heap.size, 0, none⟩ = some (.slice (some ⟨b, off, none⟩) l.length c) := KS3.out.cell 0; obtain ⟨q0, q1, q2, q3, q4, q5⟩ := CK.out w3 hb3.out)
                  refine wpAny_take (oi := ⟨some 39, _, _, _, _, _⟩) (i := 6) (v := .bool false) rfl (by kernel_rfl) (by kernel_rfl) (by kernel_rfl) (fun _ _ _ h => h) (Or.inl ⟨by kernel_rfl, fun w => by go_simp⟩) ?_
                  go_simp
                  refine wpAny_take (oi := ⟨some 40, _, _, _, _, _⟩) (i := 7) (v := .bool false) rfl (by kernel_rfl) (by kernel_rfl) (by kernel_rfl) (fun _ _ _ h => h) (Or.inl ⟨by kernel_rfl, fun w => by go_simp⟩) ?_
                  go_simp
                  refine wpAny_take (oi := ⟨some 41, _, _, _, _, _⟩) (i := 8) (v := .int .i64 0) rfl (by kernel_rfl) (by kernel_rfl) (by kernel_rfl) (fun _ _ _ h => h) (Or.inl ⟨by kernel_rfl, fun w => by go_simp⟩) ?_
                  go_simp
                  refine wpAny_take (oi := ⟨some 42, _, _, _, _, _⟩) (i := 9) (v := .bool false) rfl (by kernel_rfl) (by kernel_rfl) (by kernel_rfl) (fun _ _ _ h => h) (Or.inl ⟨by kernel_rfl, fun w => by go_simp⟩) ?_
                  go_simp
                  refine wpAny_take (oi := ⟨some 43, _, _, _, _, _⟩) (i := 10) (v := .bool false) rfl (by kernel_rfl) (by kernel_rfl) (by kernel_rfl) (fun _ _ _ h => h) (Or.inl ⟨by kernel_rfl, fun w => by go_simp⟩) ?_
                  go_simp
                  refine wpAny_take (oi := ⟨some 44, _, _, _, _, _⟩) (i := 11) (v := undef) rfl (by kernel_rfl) (by kernel_rfl) (by kernel_rfl) (fun _ _ _ h => h) (Or.inr ⟨by kernel_rfl, rfl⟩) ?_
                  go_simp
                  refine wpAny_take (oi := ⟨some 45, _, _, _, _, _⟩) (i := 12) (v := undef) rfl (by kernel_rfl) (by kernel_rfl) (by kernel_rfl) (fun _ _ _ h => h) (Or.inr ⟨by kernel_rfl, rfl⟩) ?_
                  go_simp
                  refine wpAny_take (oi := ⟨some 46, _, _, _, _, _⟩) (i := 13) (v := undef) rfl (by kernel_rfl) (by kernel_rfl) (by kernel_rfl) (fun _ _ _ h => h) (Or.inr ⟨by kernel_rfl, rfl⟩) ?_
                  go_simp
                  refine wpAny_take (oi := ⟨some 47, _, _, _, _, _⟩) (i := 14) (v := undef) rfl (by kernel_rfl) (by kernel_rfl) (by kernel_rfl) (fun _ _ _ h => h) (Or.inr ⟨by kernel_rfl, rfl⟩) ?_
                  go_simp
                  refine wpAny_take (oi := ⟨some 48, _, _, _, _, _⟩) (i := 15) (v := undef) rfl (by kernel_rfl) (by kernel_rfl) (by kernel_rfl) (fun _ _ _ h => h) (Or.inr ⟨by kernel_rfl, rfl⟩) ?_
                  go_simp
                  refine wpAny_take (oi := ⟨some 49, _, _, _, _, _⟩) (i := 16) (v := undef) rfl (by kernel_rfl) (by kernel_rfl) (by kernel_rfl) (fun _ _ _ h => h) (Or.inr ⟨by kernel_rfl, rfl⟩) ?_
                  go_simp
                  refine wpAny_take (oi := ⟨some 50, _, _, _, _, _⟩) (i := 17) (v := undef) rfl (by kernel_rfl) (by kernel_rfl) (by kernel_rfl) (fun _ _ _ h => h) (Or.inr ⟨by kernel_rfl, rfl⟩) ?_
                  go_simp
                  refine wpAny_take (oi := ⟨some 51, _, _, _, _, _⟩) (i := 18) (v := undef) rfl (by kernel_rfl) (by kernel_rfl) (by kernel_rfl) (fun _ _ _ h => h) (Or.inr ⟨by kernel_rfl, rfl⟩) ?_
                  go_simp
                  refine wpAny_take (oi := ⟨some 52, _, _, _, _, _⟩) (i := 19) (v := undef) rfl (by kernel_rfl) (by kernel_rfl) (by kernel_rfl) (fun _ _ _ h => h) (Or.inr ⟨by kernel_rfl, rfl⟩) ?_
                  go_simp
                  refine wpAny_take (oi := ⟨some 53, _, _, _, _, _⟩) (i := 20) (v := undef) rfl (by kernel_rfl) (by kernel_rfl) (by kernel_rfl) (fun _ _ _ h => h) (Or.inr ⟨by kernel_rfl, rfl⟩) ?_
                  go_simp
                  refine wpAny_take (oi := ⟨some 54, _, _, _, _, _⟩) (i := 21) (v := undef) rfl (by kernel_rfl) (by kernel_rfl) (by kernel_rfl) (fun _ _ _ h => h) (Or.inr ⟨by kernel_rfl, rfl⟩) ?_
                  go_simp
                  refine wpAny_take (oi := ⟨some 55, _, _, _, _, _⟩) (i := 22) (v := undef) rfl (by kernel_rfl) (by kernel_rfl) (by kernel_rfl) (fun _ _ _ h => h) (Or.inr ⟨by kernel_rfl, rfl⟩) ?_
                  go_simp
                  refine wpAny_take (oi := ⟨some 56, _, _, _, _, _⟩) (i := 23) (v := undef) rfl (by kernel_rfl) (by kernel_rfl) (by kernel_rfl) (fun _ _ _ h => h) (Or.inr ⟨by kernel_rfl, rfl⟩) ?_
                  go_simp
                  refine wpAny_take (oi := ⟨some 57, _, _, _, _, _⟩) (i := 24) (v := .bool false) rfl (by kernel_rfl) (by kernel_rfl) (by kernel_rfl) (fun _ _ _ h => h) (Or.inl ⟨by kernel_rfl, fun w => by go_simp⟩) ?_
                  go_simp
                  refine wpAny_take (oi := ⟨some 58, _, _, _, _, _⟩) (i := 25) (v := .bool false) rfl (by kernel_rfl) (by kernel_rfl) (by kernel_rfl) (fun _ _ _ h => h) (Or.inl ⟨by kernel_rfl, fun w => by go_simp⟩) ?_
                  go_simp
                  refine wpAny_done (by kernel_rfl) ?_ _
                  all_goals
                    go_wp2
                    go_roundw
                    case rel => exact ⟨1, by omega, by go_num, HS2.out, HBB3.out⟩
                    case measure => simp [intOf]; omega
                · have h0' : 0 < k := by omega
                  have h0i : (0 : Int) < (k : Int) := by omega
                  obtain ⟨T, HT'⟩ : ∃ T, ael l (k - 1) = T := ⟨_, rfl⟩
                  have HST2 := Lib.hid (fun h2 => HST.out hS (fun _ => h2))
                  have HA3 := Lib.hid (HA2.out h0')
                  rw [HT'] at HST2 HA3
                  have CP : Hid (∀ W', Below wr.heap.size wr W' → W'.cell? ⟨b, off + (k - 1) * 6, none⟩ = some (.int .i64 T.win) ∧ W'.cell? ⟨b, off + (k - 1) * 6 + 1, none⟩ = some (.int .i64 T.key) ∧ W'.cell? ⟨b, off + (k - 1) * 6 + 2, none⟩ = some (.int .i64 T.cnt) ∧ W'.cell? ⟨b, off + (k - 1) * 6 + 3, none⟩ = some (.int .i64 T.sum) ∧ W'.cell? ⟨b, off + (k - 1) * 6 + 4, none⟩ = some (.int .i64 T.mn) ∧ W'.cell? ⟨b, off + (k - 1) * 6 + 5, none⟩ = some (.int .i64 T.mx)) := Lib.hid (fun W' h => by have := CE.out W' h (k - 1) (by omega); rw [HT'] at this; exact this)
                  clear HT' hS CE
                  obtain ⟨v0, v1, v2, v3, v4, v5⟩ := T
                  simp only at CP
                  have CM := Lib.hid (fun W => specAhead_x v0 v1 v2 v3 v4 v5 u0 u1 u2 u3 u4 u5 W)
                  have hk3 : (k : Int) - 1 < (l.length : Int) := by omega
                  have hk4 : (0 : Int) ≤ (k : Int) - 1 := by omega
                  have hk5 : (1 : Int) ≤ (k : Int) := by omega
                  have hk1 : IntKind.i64.wrap ((k : Int) - 1) = (k : Int) - 1 := IntWalk.i64_in _ (by omega)
                  have hk2 : ((k : Int) - 1).toNat = k - 1 := by omega
                  cases hX : aheadA ⟨v0, v1, v2, v3, v4, v5⟩ ⟨u0, u1, u2, u3, u4, u5⟩ with
                  | false =>
                    have HE := Lib.hid (HA3.out hX)
                    rw [hX] at CM
                    clear hX h0
                    have z0 : wr.drew.cell? ⟨w.heap.size, 0, none⟩ = some (.slice (some ⟨b, off, none⟩) l.length c) := KS2.out.drew.cell 0
                    obtain ⟨q0, q1, q2, q3, q4, q5⟩ := CK.out wr.drew (Below.refl _ _).drew
                    obtain ⟨p0, p1, p2, p3, p4, p5⟩ := CP.out wr.drew (Below.refl _ _).drew
                    go_region_held3 (fun W => W.cell? ⟨w.heap.size, 0, none⟩ = some (.slice (some ⟨b, off, none⟩) l.length c) ∧ W.cell? ⟨b, off + k * 6, none⟩ = some (.int .i64 u0) ∧ W.cell? ⟨b, off + k * 6 + 1, none⟩ = some (.int .i64 u1) ∧ W.cell? ⟨b, off + k * 6 + 2, none⟩ = some (.int .i64 u2) ∧ W.cell? ⟨b, off + k * 6 + 3, none⟩ = some (.int .i64 u3) ∧ W.cell? ⟨b, off + k * 6 + 4, none⟩ = some (.int .i64 u4) ∧ W.cell? ⟨b, off + k * 6 + 5, none⟩ = some (.int .i64 u5) ∧ W.cell? ⟨b, off + (k - 1) * 6, none⟩ = some (.int .i64 v0) ∧ W.cell? ⟨b, off + (k - 1) * 6 + 1, none⟩ = some (.int .i64 v1) ∧ W.cell? ⟨b, off + (k - 1) * 6 + 2, none⟩ = some (.int .i64 v2) ∧ W.cell? ⟨b, off + (k - 1) * 6 + 3, none⟩ = some (.int .i64 v3) ∧ W.cell? ⟨b, off + (k - 1) * 6 + 4, none⟩ = some (.int .i64 v4) ∧ W.cell? ⟨b, off + (k - 1) * 6 + 5, none⟩ = some (.int .i64 v5))
                      (exact ⟨z0, q0, q1, q2, q3, q4, q5, p0, p1, p2, p3, p4, p5⟩)
                      (first | (go_at_call 139; refine (CA.out _).mono ?_; rintro e w3 ⟨rfl, hb⟩; have KS3 := Lib.hid (KS2.out.drew.below hb); have HB3 := Lib.hid (HB2.out.drew.trans (hb.mono hs2)); have HBB3 := Lib.hid (HBB2.out.drew.trans (hb.mono (by rw [World.size_alloc]; exact hs2'))); have hb3 := Lib.hid ((Below.refl wr.heap.size wr).drew.trans hb); clear hb; have z0 : w3.cell? ⟨w.heap.size, 0, none⟩ = some (.slice (some ⟨b, off, none⟩) l.length c) := KS3.out.cell 0; obtain ⟨q0, q1, q2, q3, q4, q5⟩ := CK.out w3 hb3.out; obtain ⟨p0, p1, p2, p3, p4, p5⟩ := CP.out w3 hb3.out) | (go_at_call 140; refine (CM.out _).mono ?_; rintro e w4 ⟨rfl, hb⟩; have KS4 := Lib.hid (KS3.out.below hb); have HB3 := Lib.hid (HB3.out.trans (hb.mono HB3.out.size)); have HBB3 := Lib.hid (HBB3.out.trans (hb.mono HBB3.out.size)); have hb4 := Lib.hid (hb3.out.trans (hb.mono hb3.out.size)); clear hb; have z0 : w4.cell? ⟨w.heap.size, 0, none⟩ = some (.slice (some ⟨b, off, none⟩) l.length c) := KS4.out.cell 0; obtain ⟨q0, q1, q2, q3, q4, q5⟩ := CK.out w4 hb4.out; obtain ⟨p0, p1, p2, p3, p4, p5⟩ := CP.out w4 hb4.out))
                    all_goals
                      go_wp2
                      go_ret
                      exact ⟨by rw [HE.out]; rfl, HB3.out⟩
                  | true =>
                    have HE := Lib.hid (HST2.out hX)
                    rw [hX] at CM
                    clear hX h0
                    have z0 : wr.drew.cell? ⟨w.heap.size, 0, none⟩ = some (.slice (some ⟨b, off, none⟩) l.length c) := KS2.out.drew.cell 0
                    obtain ⟨q0, q1, q2, q3, q4, q5⟩ := CK.out wr.drew (Below.refl _ _).drew
                    obtain ⟨p0, p1, p2, p3, p4, p5⟩ := CP.out wr.drew (Below.refl _ _).drew
                    go_region_held3 (fun W => W.cell? ⟨w.heap.size, 0, none⟩ = some (.slice (some ⟨b, off, none⟩) l.length c) ∧ W.cell? ⟨b, off + k * 6, none⟩ = some (.int .i64 u0) ∧ W.cell? ⟨b, off + k * 6 + 1, none⟩ = some (.int .i64 u1) ∧ W.cell? ⟨b, off + k * 6 + 2, none⟩ = some (.int .i64 u2) ∧ W.cell? ⟨b, off + k * 6 + 3, none⟩ = some (.int .i64 u3) ∧ W.cell? ⟨b, off + k * 6 + 4, none⟩ = some (.int .i64 u4) ∧ W.cell? ⟨b, off + k * 6 + 5, none⟩ = some (.int .i64 u5) ∧ W.cell? ⟨b, off + (k - 1) * 6, none⟩ = some (.int .i64 v0) ∧ W.cell? ⟨b, off + (k - 1) * 6 + 1, none⟩ = some (.int .i64 v1) ∧ W.cell? ⟨b, off + (k - 1) * 6 + 2, none⟩ = some (.int .i64 v2) ∧ W.cell? ⟨b, off + (k - 1) * 6 + 3, none⟩ = some (.int .i64 v3) ∧ W.cell? ⟨b, off + (k - 1) * 6 + 4, none⟩ = some (.int .i64 v4) ∧ W.cell? ⟨b, off + (k - 1) * 6 + 5, none⟩ = some (.int .i64 v5))
                      (exact ⟨z0, q0, q1, q2, q3, q4, q5, p0, p1, p2, p3, p4, p5⟩)
                      (first | (go_at_call 139; refine (CA.out _).mono ?_; rintro e w3 ⟨rfl, hb⟩; have KS3 := Lib.hid (KS2.out.drew.below hb); have HB3 := Lib.hid (HB2.out.drew.trans (hb.mono hs2)); have HBB3 := Lib.hid (HBB2.out.drew.trans (hb.mono (by rw [World.size_alloc]; exact hs2'))); have hb3 := Lib.hid ((Below.refl wr.heap.size wr).drew.trans hb); clear hb; have z0 : w3.cell? ⟨w.heap.size, 0, none⟩ = some (.slice (some ⟨b, off, none⟩) l.length c) := KS3.out.cell 0; obtain ⟨q0, q1, q2, q3, q4, q5⟩ := CK.out w3 hb3.out; obtain ⟨p0, p1, p2, p3, p4, p5⟩ := CP.out w3 hb3.out) | (go_at_call 140; refine (CM.out _).mono ?_; rintro e w4 ⟨rfl, hb⟩; have KS4 := Lib.hid (KS3.out.below hb); have HB3 := Lib.hid (HB3.out.trans (hb.mono HB3.out.size)); have HBB3 := Lib.hid (HBB3.out.trans (hb.mono HBB3.out.size)); have hb4 := Lib.hid (hb3.out.trans (hb.mono hb3.out.size)); clear hb; have z0 : w4.cell? ⟨w.heap.size, 0, none⟩ = some (.slice (some ⟨b, off, none⟩) l.length c) := KS4.out.cell 0; obtain ⟨q0, q1, q2, q3, q4, q5⟩ := CK.out w4 hb4.out; obtain ⟨p0, p1, p2, p3, p4, p5⟩ := CP.out w4 hb4.out))
                    all_goals
                      go_wp2
                      go_roundw
                      case rel => exact ⟨k + 1, by omega, by go_num, HE.out, HBB3.out⟩
                      case measure => simp [intOf]; omega
            · obtain rfl : k = l.length := by omega
              have HE := Lib.hid (HY.out hok)
              clear hok
              go_wp2
              go_ret
              exact ⟨by rw [HE.out]; rfl, HB.out⟩
  · rw [sok_len h40]
    have h40' : 40 < l.length := by omega
    go_enter Tryz.func83, Tryz.ntmps83
    go_wp2_with (first | (go_at_call 138; refine (sMark_any _ _).mono ?_; rintro e w' ⟨rfl, rfl⟩) | (go_at_call 82; refine (specIn_any _ _ _ _).mono ?_; rintro e w' ⟨rfl, rfl⟩))
    go_ret
    exact ⟨rfl, B1.out⟩
end Go.Proofs.YtnfhlfbkdhpacaaGreatDoor
