/- Chapter 12, spec's side: JoinWithin. (made by tools/mkjoin2.py) -/
import Derived.Test.YtneolndbhklboaaPlainJn2
import Derived.Test.YtneolndbhklboaaJn1
import Derived.Test.YtneolndbhklboaaPairA
namespace Go.Proofs.Ytneolndbhklboaa
open Go.RowKit
theorem step_append_runG {P : Program} {w : World} {ops : Array Oper} {o : Oper} {a : Act} {K : Act → World → Prop} {Q : Exit → Act → World → Prop} {E : Prop} (hgd : o.guard = none) (s x : Operand) (t tn : TypeId)
    (ho : o.op = .call { callee := .builtin .append, args := #[s, x], argTypes := #[t, tn] }) (vs vx : Value) (hs : a.eval s = vs) (hx : a.eval x = vx)
    (v' : Value) (w' : World) (hr : (Builtin.append_ #[t, tn] o.type #[vs, vx]).run P w = .ok v' w') (h : K (a.put o.dst v') w') :
    if Region.wanted o (yielded ops a.tmps) = true then Oper.wp P o a w K Q else E := by
  have hw : Region.wanted o (yielded ops a.tmps) = true := by simp [Region.wanted, hgd]
  rw [if_pos hw]
  exact Lib.wp_append_run w s x t tn ho vs vx hs hx v' w' hr h
set_option maxHeartbeats 4000000 in
set_option maxRecDepth 100000 in
theorem sJoin_any (a1 a2 : Option Addr) (n1 n2 c1 c2 : Nat) (L R : List Fm) (by_ : Int) (hi : Nat) (w : World) (h1 : Fms w hi a1 c1 L) (h2 : Fms w hi a2 c2 R) (hn1 : n1 = L.length) (hn2 : n2 = R.length) (hB : hi ≤ w.heap.size) :
    Calls Try.prog 23 #[.slice a1 n1 c1, .slice a2 n2 c2, .int .i64 by_] w (JoinPost (joinJ L R by_) w) := by
  subst hn1
  subst hn2
  have m1 := h1.cap
  have m2 := h1.big
  have m3 := h2.cap
  have m4 := h2.big
  have HP : Hid (∀ W, Below w.heap.size w W → JoinPost ([], false) w (.returned (.tuple #[.slice none 0 0, .bool false])) W) := Lib.hid (fun W h => ⟨none, 0, rfl, World.ownsRow_nil _ _ _ _, h⟩)
  have E1 := Lib.hid (fun (W : World) (h : Below hi w W) => sEvs_any a1 L.length c1 L hi W (h1.below h) rfl (Nat.le_trans hB h.size))
  have E2 := Lib.hid (fun (W : World) (h : Below hi w W) => sEvs_any a2 R.length c2 R hi W (h2.below h) rfl (Nat.le_trans hB h.size))
  have HL := Lib.hid h1
  have HR := Lib.hid h2
  clear h1 h2
  cases b1 : evsJ L with
  | false =>
    rw [joinJ_no1 b1]
    rw [b1] at E1
    clear b1
    go_enter Try.func23, Try.ntmps23
    go_wp2_with fail
    refine (E1.out _ (Below.refl _ _)).mono ?_
    rintro e w2 ⟨rfl, hb⟩
    have B2 := Lib.hid hb
    clear hb
    go_wp2
    exact bodyPost_ret (v := .tuple #[.slice none 0 0, .bool false]) (by simp [results, Try.results23, go_sem]) rfl (HP.out _ B2.out)
  | true =>
    cases b2 : evsJ R with
    | false =>
      rw [joinJ_no2 b2]
      rw [b1] at E1
      rw [b2] at E2
      clear b1 b2
      go_enter Try.func23, Try.ntmps23
      go_wp2_with fail
      refine (E1.out _ (Below.refl _ _)).mono ?_
      rintro e w2 ⟨rfl, hb⟩
      have B2 := Lib.hid hb
      clear hb
      go_wp2_with fail
      refine (E2.out _ (B2.out.mono hB)).mono ?_
      rintro e w3 ⟨rfl, hb⟩
      have B3 := Lib.hid (B2.out.trans (hb.mono B2.out.size))
      clear hb
      go_wp2
      exact bodyPost_ret (v := .tuple #[.slice none 0 0, .bool false]) (by simp [results, Try.results23, go_sem]) rfl (HP.out _ B3.out)
    | true =>
      cases b3 : inB by_ 0 1000000 with
      | false =>
        rw [joinJ_no3 b3]
        rw [b1] at E1
        rw [b2] at E2
        clear b1 b2
        go_enter Try.func23, Try.ntmps23
        go_wp2_with fail
        refine (E1.out _ (Below.refl _ _)).mono ?_
        rintro e w2 ⟨rfl, hb⟩
        have B2 := Lib.hid hb
        clear hb
        go_wp2_with fail
        refine (E2.out _ (B2.out.mono hB)).mono ?_
        rintro e w3 ⟨rfl, hb⟩
        have B3 := Lib.hid (B2.out.trans (hb.mono B2.out.size))
        clear hb
        go_wp2_with (go_at_call 70; refine (specIn_any _ _ _ _).mono ?_; rintro e w' ⟨rfl, rfl⟩)
        exact bodyPost_ret (v := .tuple #[.slice none 0 0, .bool false]) (by simp [results, Try.results23, go_sem]) rfl (HP.out _ B3.out)
      | true =>
        have HZ := Lib.hid (joinJ_yes b1 b2 b3)
        obtain ⟨hl40, hlu⟩ := evsJ_bd b1
        obtain ⟨hr40, hru⟩ := evsJ_bd b2
        have HLU := Lib.hid hlu
        have HRU := Lib.hid hru
        have HAL := Lib.hid (fun i hi => allJ_len (L := L) (R := R) (by_ := by_) hr40 i hi)
        rw [b1] at E1
        rw [b2] at E2
        clear b1 b2 hlu hru
        go_enter Try.func23, Try.ntmps23
        go_wp2_with fail
        refine (E1.out _ (Below.refl _ _)).mono ?_
        rintro e w2 ⟨rfl, hb⟩
        have B2 := Lib.hid hb
        clear hb
        go_wp2_with fail
        refine (E2.out _ (B2.out.mono hB)).mono ?_
        rintro e w3 ⟨rfl, hb⟩
        have B3 := Lib.hid (B2.out.trans (hb.mono B2.out.size))
        clear hb
        have O0 := Lib.hid (own0G w3 w.heap.size B3.out.size)
        have B4 := Lib.hid (B3.out.alloc B3.out.size (.cells #[] 53))
        go_wp2_with (go_at_call 70; refine (specIn_any _ _ _ _).mono ?_; rintro e w' ⟨rfl, rfl⟩)
        clear b3 E1 E2
        go_loopw [8, 9] (fun os is wr => ∃ (i m : Nat) (a : Option Addr) (c : Nat), i ≤ L.length ∧ is = .int .i64 (i : Int) ∧ os = .slice a m c ∧ m = (allJ L R by_ i).length ∧ wr.ownsRow w.heap.size 53 5 (.slice a m c) m (flatG (allJ L R by_ i)) ∧ Below w.heap.size w wr) (fun _ is _ => L.length - (intOf is).toNat)
        case atStart => exact ⟨0, 0, some ⟨w3.heap.size, 0, none⟩, 0, Nat.zero_le _, rfl, rfl, rfl, O0.out, B4.out⟩
        case round =>
          obtain ⟨i, m, a, c, hil, rfl, rfl, hm, hown, hb⟩ := hrel
          have HM := Lib.hid hm
          have HO := Lib.hid hown
          have HB := Lib.hid hb
          clear hm hown hb O0 B4
          by_cases hlt : i < L.length
          · have hlt' : (i : Int) < (L.length : Int) := by omega
            have hnn : 0 ≤ (i : Int) := by omega
            obtain ⟨bl, ol, rfl, hbl, hcl⟩ := Fms.six HL.out (by omega)
            have CL := Lib.hid (hcl i hlt)
            have eb := evJ_bd (HLU.out i hlt)
            have hst := allJ_step (L := L) (R := R) (by_ := by_) hlt
            have hlen := HAL.out i (by omega)
            clear hcl
            generalize qel L i = X at CL eb hst
            obtain ⟨k0, y0, t0, v0⟩ := X
            simp only at CL eb
            have HST := Lib.hid hst
            clear hst
            generalize allJ L R by_ i = A0 at HM HO HST hlen
            have HS0 := Lib.hid (show m = (A0 ++ rowJ ⟨k0, y0, t0, v0⟩ R by_ 0).length by rw [HM.out]; simp [rowJ])
            have HO0 : Hid (wr.ownsRow w.heap.size 53 5 (.slice a m c) m (flatG (A0 ++ rowJ ⟨k0, y0, t0, v0⟩ R by_ 0))) := Lib.hid (by
              have e : A0 ++ rowJ ⟨k0, y0, t0, v0⟩ R by_ 0 = A0 := by simp [rowJ]
              rw [e]
              exact HO.out)
            clear HM HO
            go_wp2
            go_loopw [8, 10] (fun os ks wr => ∃ (k m : Nat) (a : Option Addr) (c : Nat), k ≤ R.length ∧ ks = .int .i64 (k : Int) ∧ os = .slice a m c ∧ m = (A0 ++ rowJ ⟨k0, y0, t0, v0⟩ R by_ k).length ∧ wr.ownsRow w.heap.size 53 5 (.slice a m c) m (flatG (A0 ++ rowJ ⟨k0, y0, t0, v0⟩ R by_ k)) ∧ Below w.heap.size w wr) (fun _ ks _ => R.length - (intOf ks).toNat)
            case atStart => exact ⟨0, m, a, c, Nat.zero_le _, rfl, rfl, HS0.out, HO0.out, HB.out⟩
            case round =>
              obtain ⟨k, m, a, c, hkr, rfl, rfl, hm, hown, hb⟩ := hrel
              have HM := Lib.hid hm
              have RO := Lib.hid hown
              have WB := Lib.hid hb
              clear hm hown hb HS0 HO0 HB
              by_cases hkl : k < R.length
              · have hkl' : (k : Int) < (R.length : Int) := by omega
                have hkn : 0 ≤ (k : Int) := by omega
                obtain ⟨br, or_, rfl, hbr, hcr⟩ := Fms.six HR.out (by omega)
                have CR := Lib.hid (hcr k hkl)
                have fb := evJ_bd (HRU.out k hkl)
                have RY := Lib.hid (fun h => rowJ_yes (A := ⟨k0, y0, t0, v0⟩) (by_ := by_) hkl h)
                have RN := Lib.hid (fun h => rowJ_no (A := ⟨k0, y0, t0, v0⟩) (by_ := by_) hkl h)
                have hrl := rowJ_len (A := ⟨k0, y0, t0, v0⟩) (R := R) (by_ := by_) (k := k)
                clear hcr
                generalize qel R k = Y at CR fb RY RN
                obtain ⟨k1, y1, t1, v1⟩ := Y
                simp only at CR fb
                have CC : Hid (∀ W : World, Below w.heap.size w W → (W.cell? ⟨bl, ol + i * 4, none⟩ = some (.int .i64 k0) ∧ W.cell? ⟨bl, ol + i * 4 + 1, none⟩ = some (.int .i64 y0) ∧ W.cell? ⟨bl, ol + i * 4 + 2, none⟩ = some (.int .i64 t0) ∧ W.cell? ⟨bl, ol + i * 4 + 3, none⟩ = some (.int .i64 v0)) ∧ (W.cell? ⟨br, or_ + k * 4, none⟩ = some (.int .i64 k1) ∧ W.cell? ⟨br, or_ + k * 4 + 1, none⟩ = some (.int .i64 y1) ∧ W.cell? ⟨br, or_ + k * 4 + 2, none⟩ = some (.int .i64 t1) ∧ W.cell? ⟨br, or_ + k * 4 + 3, none⟩ = some (.int .i64 v1))) := Lib.hid (fun W hW => by
                  have g1 : ∀ q, W.cell? ⟨bl, q, none⟩ = w.cell? ⟨bl, q, none⟩ := fun q => hW.cell (p := ⟨bl, q, none⟩) (show bl < w.heap.size by omega)
                  have g2 : ∀ q, W.cell? ⟨br, q, none⟩ = w.cell? ⟨br, q, none⟩ := fun q => hW.cell (p := ⟨br, q, none⟩) (show br < w.heap.size by omega)
                  simp only [g1, g2]
                  exact ⟨CL.out, CR.out⟩)
                have CM := Lib.hid (fun W => sMeet_x k0 y0 t0 v0 k1 y1 t1 v1 by_ W eb.2.1 fb.2.1)
                obtain ⟨⟨p0, p1, p2, p3⟩, q0, q1, q2, q3⟩ := CC.out wr WB.out
                have hml : m ≤ 2097152 := by have := HM.out; rw [List.length_append] at this; omega
                generalize rowJ ⟨k0, y0, t0, v0⟩ R by_ k = P0 at *
                go_wp2_with fail
                go_still_tail 9, (by kernel_rfl)
                change wpList _ _ _ _ _ wr.drew
                clear p0 p1 p2 p3 q0 q1 q2 q3
                have RO := Lib.hid (show wr.drew.ownsRow _ _ _ _ _ _ from RO.out)
                have WB := Lib.hid WB.out.drew
                generalize wr.drew = w7 at RO WB ⊢
                cases hm : meetB ⟨k0, y0, t0, v0⟩ ⟨k1, y1, t1, v1⟩ by_ with
                | false =>
                  have HX := Lib.hid (RN.out hm)
                  rw [hm] at CM
                  clear hm RY RN eb fb
                  go_wp2_with fail
                  refine (CM.out _).mono ?_
                  rintro e w8 ⟨rfl, hb⟩
                  have RO := Lib.hid (owns_below RO.out hb)
                  have WB := Lib.hid (WB.out.trans (hb.mono WB.out.size))
                  clear hb
                  go_wp2
                  go_roundw
                  case rel => exact ⟨k + 1, m, a, c, by omega, by go_num, rfl, by rw [HX.out]; exact HM.out, by rw [HX.out]; exact RO.out, WB.out⟩
                  case measure => simp [intOf]; omega
                | true =>
                  have HX := Lib.hid (RY.out hm)
                  rw [hm] at CM
                  clear hm RY RN eb fb
                  go_wp2_with fail
                  refine (CM.out _).mono ?_
                  rintro e w8 ⟨rfl, hb⟩
                  have RO := Lib.hid (owns_below RO.out hb)
                  have WB := Lib.hid (WB.out.trans (hb.mono WB.out.size))
                  clear hb
                  go_wp2_with fail
                  refine wp_region_any (by kernel_rfl) ?_
                  change wpAny _ _ _ _ _ _ _ (World.drew _)
                  have RO := Lib.hid (show w8.drew.ownsRow _ _ _ _ _ _ from RO.out)
                  have WB := Lib.hid WB.out.drew
                  generalize w8.drew = w9 at RO WB ⊢
                  obtain ⟨⟨p0, p1, p2, p3⟩, q0, q1, q2, q3⟩ := CC.out w9 WB.out
                  refine wpAny_take (oi := ⟨some 47, _, _, _, _, _⟩) (i := 0) (v := .slice a m c) rfl (by kernel_rfl) (by kernel_rfl) (by kernel_rfl) (fun _ _ _ h => h) (Or.inl ⟨by kernel_rfl, fun w => by go_simp⟩) ?_
                  go_simp
                  refine wpAny_take (oi := ⟨some 48, _, _, _, _, _⟩) (i := 1) (v := .slice (some ⟨bl, ol, none⟩) L.length c1) rfl (by kernel_rfl) (by kernel_rfl) (by kernel_rfl) (fun _ _ _ h => h) (Or.inl ⟨by kernel_rfl, fun w => by go_simp⟩) ?_
                  go_simp
                  refine wpAny_take (oi := ⟨some 49, _, _, _, _, _⟩) (i := 2) (v := .int .i64 (i : Int)) rfl (by kernel_rfl) (by kernel_rfl) (by kernel_rfl) (fun _ _ _ h => h) (Or.inl ⟨by kernel_rfl, fun w => by go_simp⟩) ?_
                  go_simp
                  refine wpAny_take (oi := ⟨some 50, _, _, _, _, _⟩) (i := 3) (v := .pointer (some ⟨bl, ol + i * 4, none⟩)) rfl (by kernel_rfl) (by kernel_rfl) (by kernel_rfl) (fun _ _ _ h => h) (Or.inl ⟨by kernel_rfl, fun w => by go_simp⟩) ?_
                  go_simp
                  refine wpAny_take (oi := ⟨some 52, _, _, _, _, _⟩) (i := 5) (v := .slice (some ⟨br, or_, none⟩) R.length c2) rfl (by kernel_rfl) (by kernel_rfl) (by kernel_rfl) (fun _ _ _ h => h) (Or.inl ⟨by kernel_rfl, fun w => by go_simp⟩) ?_
                  go_simp
                  refine wpAny_take (oi := ⟨some 53, _, _, _, _, _⟩) (i := 6) (v := .int .i64 (k : Int)) rfl (by kernel_rfl) (by kernel_rfl) (by kernel_rfl) (fun _ _ _ h => h) (Or.inl ⟨by kernel_rfl, fun w => by go_simp⟩) ?_
                  go_simp
                  refine wpAny_take (oi := ⟨some 54, _, _, _, _, _⟩) (i := 7) (v := .pointer (some ⟨br, or_ + k * 4, none⟩)) rfl (by kernel_rfl) (by kernel_rfl) (by kernel_rfl) (fun _ _ _ h => h) (Or.inl ⟨by kernel_rfl, fun w => by go_simp⟩) ?_
                  go_simp
                  refine wpAny_ready (rs := [4, 8]) (by kernel_rfl) (by simp) ?_
                  refine AllReady.cons rfl (fun K hK => ?_) (AllReady.cons rfl (fun K hK => ?_) AllReady.nil)
                  · go_simp
                    refine hK _ _ ?_
                    clear hK K
                    refine wpAny_ready (rs := [8]) (by kernel_rfl) (by simp) ?_
                    refine AllReady.cons rfl (fun K hK => ?_) AllReady.nil
                    go_simp
                    refine hK _ _ ?_
                    clear hK K
                    refine wpAny_ready (rs := [9]) (by kernel_rfl) (by simp) ?_
                    refine AllReady.cons rfl (fun K hK => ?_) AllReady.nil
                    go_simp
                    go_at_call 72
                    refine (sPair_x k0 y0 t0 v0 k1 y1 t1 v1 _).mono ?_
                    rintro e w10 ⟨rfl, hb⟩
                    have RO := Lib.hid (owns_below RO.out hb)
                    have WB := Lib.hid (WB.out.trans (hb.mono WB.out.size))
                    clear hb p0 p1 p2 p3 q0 q1 q2 q3
                    refine hK _ _ ?_
                    clear hK K
                    refine wpAny_ready (rs := [10]) (by kernel_rfl) (by simp) ?_
                    refine AllReady.cons rfl (fun K hK => ?_) AllReady.nil
                    go_simp
                    refine hK _ _ ?_
                    clear hK K
                    obtain ⟨a4, c4, w11, hr3, ho3, hb3, _⟩ := appendG (w := w10) ⟨y0, t0, t1, v0, v1⟩ HM.out RO.out WB.out.size hml 30
                    simp only at hr3
                    have R3 := Lib.hid hr3
                    have RO2 := Lib.hid ho3
                    have WB2 := Lib.hid (WB.out.trans hb3)
                    have HX2 : Hid (A0 ++ rowJ ⟨k0, y0, t0, v0⟩ R by_ (k + 1) = (A0 ++ P0) ++ [⟨y0, t0, t1, v0, v1⟩]) := Lib.hid (by rw [HX.out, List.append_assoc]; rfl)
                    clear hr3 ho3 hb3
                    refine wpAny_ready (rs := [11]) (by kernel_rfl) (by simp) ?_
                    refine AllReady.cons rfl (fun K hK => ?_) AllReady.nil
                    refine step_append_runG rfl _ _ _ _ rfl _ _ rfl rfl _ _ R3.out ?_
                    refine hK _ _ ?_
                    clear hK K
                    refine wpAny_ready (rs := [12]) (by kernel_rfl) (by simp) ?_
                    refine AllReady.cons rfl (fun K hK => ?_) AllReady.nil
                    go_simp
                    refine hK _ _ ?_
                    clear hK K
                    refine wpAny_done (by kernel_rfl) ?_ _
                    go_wp2
                    go_roundw
                    case rel => exact ⟨k + 1, m + 1, a4, c4, by omega, by go_num, rfl, by rw [HX2.out, List.length_append, ← HM.out]; rfl, by rw [HX2.out]; exact RO2.out, WB2.out⟩
                    case measure => simp [intOf]; omega
                  · go_simp
                    refine hK _ _ ?_
                    clear hK K
                    refine wpAny_ready (rs := [4]) (by kernel_rfl) (by simp) ?_
                    refine AllReady.cons rfl (fun K hK => ?_) AllReady.nil
                    go_simp
                    refine hK _ _ ?_
                    clear hK K
                    refine wpAny_ready (rs := [9]) (by kernel_rfl) (by simp) ?_
                    refine AllReady.cons rfl (fun K hK => ?_) AllReady.nil
                    go_simp
                    go_at_call 72
                    refine (sPair_x k0 y0 t0 v0 k1 y1 t1 v1 _).mono ?_
                    rintro e w10 ⟨rfl, hb⟩
                    have RO := Lib.hid (owns_below RO.out hb)
                    have WB := Lib.hid (WB.out.trans (hb.mono WB.out.size))
                    clear hb p0 p1 p2 p3 q0 q1 q2 q3
                    refine hK _ _ ?_
                    clear hK K
                    refine wpAny_ready (rs := [10]) (by kernel_rfl) (by simp) ?_
                    refine AllReady.cons rfl (fun K hK => ?_) AllReady.nil
                    go_simp
                    refine hK _ _ ?_
                    clear hK K
                    obtain ⟨a4, c4, w11, hr3, ho3, hb3, _⟩ := appendG (w := w10) ⟨y0, t0, t1, v0, v1⟩ HM.out RO.out WB.out.size hml 30
                    simp only at hr3
                    have R3 := Lib.hid hr3
                    have RO2 := Lib.hid ho3
                    have WB2 := Lib.hid (WB.out.trans hb3)
                    have HX2 : Hid (A0 ++ rowJ ⟨k0, y0, t0, v0⟩ R by_ (k + 1) = (A0 ++ P0) ++ [⟨y0, t0, t1, v0, v1⟩]) := Lib.hid (by rw [HX.out, List.append_assoc]; rfl)
                    clear hr3 ho3 hb3
                    refine wpAny_ready (rs := [11]) (by kernel_rfl) (by simp) ?_
                    refine AllReady.cons rfl (fun K hK => ?_) AllReady.nil
                    refine step_append_runG rfl _ _ _ _ rfl _ _ rfl rfl _ _ R3.out ?_
                    refine hK _ _ ?_
                    clear hK K
                    refine wpAny_ready (rs := [12]) (by kernel_rfl) (by simp) ?_
                    refine AllReady.cons rfl (fun K hK => ?_) AllReady.nil
                    go_simp
                    refine hK _ _ ?_
                    clear hK K
                    refine wpAny_done (by kernel_rfl) ?_ _
                    go_wp2
                    go_roundw
                    case rel => exact ⟨k + 1, m + 1, a4, c4, by omega, by go_num, rfl, by rw [HX2.out, List.length_append, ← HM.out]; rfl, by rw [HX2.out]; exact RO2.out, WB2.out⟩
                    case measure => simp [intOf]; omega
              · obtain rfl : k = R.length := by omega
                rw [← HST.out] at HM RO
                go_wp2
                go_roundw
                case rel => exact ⟨i + 1, m, a, c, by omega, by go_num, rfl, HM.out, RO.out, WB.out⟩
                case measure => simp [intOf]; omega
          · obtain rfl : i = L.length := by omega
            have HF : Hid (JoinPost (joinJ L R by_) w (.returned (.tuple #[.slice a m c, .bool true])) wr) := Lib.hid (by
              rw [HZ.out]
              have e := HM.out
              have o := HO.out
              subst e
              exact ⟨a, c, rfl, o, HB.out⟩)
            go_wp2
            exact bodyPost_ret (v := .tuple #[.slice a m c, .bool true]) (by simp [results, Try.results23, go_sem]) rfl HF.out
end Go.Proofs.Ytneolndbhklboaa
