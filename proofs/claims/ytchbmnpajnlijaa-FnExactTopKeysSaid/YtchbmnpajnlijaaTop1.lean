/- Chapter 11, spec's side: l01Has, TopKeys. (made by tools/mktop.py) -/
import Derived.Test.YtchbmnpajnlijaaPlainTop
import Derived.Test.YtchbmnpajnlijaaAppI
import Derived.Deep.QuietTactic
import Derived.BigQuiet
import Derived.StillTailTactics
import Derived.Lib.AppendZeros
namespace Go.Proofs.Ytchbmnpajnlijaa
open Go.RowKit Stab
set_option maxHeartbeats 1000000 in
theorem specHas_any (a : Option Addr) (n c : Nat) (xs : List Int) (x : Int) (hi : Nat) (w : World) (hr : Nums .i64 w hi a c xs) (hn : n = xs.length) : Calls Try.prog 80 #[.slice a n c, .int .i64 x] w fun e w' => e = .returned (.bool (xs.contains x)) ∧ w' = w := by
  subst hn
  have m1 := hr.cap
  have m2 := hr.big
  have HR := Lib.hid hr
  have HY : Hid (∀ i, i < xs.length → el xs i = x → xs.contains x = true) := Lib.hid (fun i hi h => by
    rw [List.contains_iff_mem, ← h]
    have e : el xs i = xs[i] := by simp [el, List.getD, hi]
    rw [e]
    exact List.getElem_mem hi)
  have HN : Hid ((∀ i, i < xs.length → el xs i ≠ x) → xs.contains x = false) := Lib.hid (fun h => by
    rw [Bool.eq_false_iff]
    intro hc
    obtain ⟨i, hi, he⟩ := List.getElem_of_mem (List.contains_iff_mem.1 hc)
    refine h i hi ?_
    have e : el xs i = xs[i] := by simp [el, List.getD, hi]
    rw [e, he])
  clear hr
  generalize xs.contains x = R at HY HN ⊢
  go_enter Try.func80, Try.ntmps80
  go_wp2
  go_loop [5] (fun i => ∃ k : Nat, k ≤ xs.length ∧ i = .int .i64 (k : Int) ∧ ∀ j, j < k → el xs j ≠ x) (fun i => xs.length - (intOf i).toNat)
  case atStart => exact ⟨0, Nat.zero_le _, rfl, fun j hj => by omega⟩
  case round =>
    obtain ⟨k, hk, rfl, hall⟩ := hrel
    have HA := Lib.hid hall
    clear hall
    by_cases hlt : k < xs.length
    · obtain ⟨b, off, rfl, hb, hc⟩ := HR.out.lies.resolve_left (by intro h; rw [h] at hlt; simp at hlt)
      have p0 := hc k hlt
      have hlt' : (k : Int) < (xs.length : Int) := by omega
      have hnn : 0 ≤ (k : Int) := by omega
      have E1 := Lib.hid (HY.out k hlt)
      have E2 : Hid (el xs k ≠ x → ∀ j, j < k + 1 → el xs j ≠ x) := Lib.hid (fun h j hj => by
        rcases Nat.lt_or_ge j k with h' | h'
        · exact HA.out j h'
        · obtain rfl : j = k := by omega
          exact h)
      clear hc HY HN
      generalize el xs k = y at p0 E1 E2
      by_cases he : y = x
      · have HX := Lib.hid (E1.out he)
        have he2 : (y == x) = true := by simp [he]
        clear he E1 E2
        go_wp2
        go_ret
        exact ⟨by rw [HX.out]; rfl, rfl⟩
      · have HX := Lib.hid (E2.out he)
        have he2 : (y == x) = false := beq_eq_false_iff_ne.2 he
        clear he E1 E2
        go_wp2
        go_round
        case rel => exact ⟨k + 1, by omega, by go_num, HX.out⟩
        case measure => simp [intOf]; omega
    · obtain rfl : k = xs.length := by omega
      have HX := Lib.hid (HN.out HA.out)
      clear HY HN
      go_wp2
      go_ret
      exact ⟨by rw [HX.out]; rfl, rfl⟩
theorem own_own_ne {w : World} {b1 b2 s1 s2 n1 n2 : Nat} {e1 e2 : TypeId} {v1 v2 : Value} {xs1 xs2 : List Value} (h1 : w.ownsRow b1 e1 s1 v1 n1 xs1) (h2 : w.ownsRow b2 e2 s2 v2 n2 xs2) (hne : e1 ≠ e2) : v1.ownBlock = none ∨ v1.ownBlock ≠ v2.ownBlock := by
  rcases h1.2 with ⟨rfl, _⟩ | ⟨g, cap, cur, rfl, _, hh, _⟩
  · exact .inl rfl
  · refine .inr fun e => ?_
    rcases h2.2 with ⟨rfl, _⟩ | ⟨g', cap', cur', rfl, _, hh', _⟩
    · simp [Value.ownBlock] at e
    · have : g = g' := by simpa [Value.ownBlock] using e
      subst this
      rw [hh] at hh'
      injection hh' with hh'
      injection hh' with _ ht
      exact hne ht
set_option maxHeartbeats 4000000 in
set_option maxRecDepth 100000 in
theorem specTop_any (a : Option Addr) (n c : Nat) (l : List Ag) (x : Int) (hi : Nat) (w : World) (hr : Ags w hi a c l) (hn : n = l.length) (hB : hi ≤ w.heap.size) (hlen : l.length ≤ 1048576) :
    Calls Try.prog 41 #[.slice a n c, .int .i64 x] w (FreshNums 3 .i64 (topZ l x) w) := by
  subst hn
  have m1 := hr.cap
  have m2 := hr.big
  have HP : Hid (∀ W, Below w.heap.size w W → FreshNums 3 .i64 [] w (.returned (.slice none 0 0)) W) := Lib.hid (fun W h => ⟨none, 0, rfl, World.ownsRow_nil _ _ _ _, h⟩)
  have B0 := Lib.hid ((Below.refl w.heap.size w).alloc (Nat.le_refl _) (.cells #[] 3))
  have O0 := Lib.hid (World.ownsRow_lit (e := 3) (size := 1) w #[] 0 (Nat.le_refl w.heap.size) (by unfold maxLen; omega) (by simp))
  have AK := Lib.hid (fun (W : World) (h : Ags W hi a c l) (h2 : hi ≤ W.heap.size) => specAllOk_any a l.length c l hi W h rfl h2)
  have KT := Lib.hid (fun (W : World) (h : Ags W hi a c l) (h2 : hi ≤ W.heap.size) => specKt_any a l.length c l hi W h rfl h2 hlen)
  have HR := Lib.hid hr
  clear hr
  by_cases hneg : x < 0
  · rw [topZ_no1 hneg]
    have hd : decide (x < 0) = true := decide_eq_true hneg
    go_enter Try.func41, Try.ntmps41
    go_wp2
    exact bodyPost_ret (v := .slice none 0 0) (by simp [results, Try.results41, go_sem]) rfl (HP.out _ B0.out)
  · have hd : decide (x < 0) = false := decide_eq_false hneg
    cases hall : l.all aggOk with
    | false =>
      rw [topZ_no2 hall]
      rw [hall] at AK
      clear hall
      go_enter Try.func41, Try.ntmps41
      go_wp2_with fail
      refine (AK.out _ (HR.out.below (B0.out.mono hB)) (by simp; omega)).mono ?_
      rintro e w2 ⟨rfl, hb⟩
      have WB := Lib.hid (B0.out.trans (hb.mono (by simp)))
      clear hb
      go_wp2
      exact bodyPost_ret (v := .slice none 0 0) (by simp [results, Try.results41, go_sem]) rfl (HP.out _ WB.out)
    | true =>
      have HZ := Lib.hid (topZ_yes hneg hall)
      have hkl := ktL_len l
      have HND := Lib.hid (kt_nodup l)
      rw [hall] at AK
      clear hall
      generalize topZ l x = ZZ at HZ ⊢
      generalize ktL l = T at HZ hkl HND KT
      go_enter Try.func41, Try.ntmps41
      go_wp2_with fail
      refine (AK.out _ (HR.out.below (B0.out.mono hB)) (by simp; omega)).mono ?_
      rintro e w2 ⟨rfl, hb⟩
      have WB2 := Lib.hid (B0.out.trans (hb.mono (by simp)))
      have RO2 := Lib.hid (owns_below O0.out hb)
      clear hb
      go_wp2_with fail
      refine (KT.out _ (HR.out.below (WB2.out.mono hB)) (by have := WB2.out.size; omega)).mono ?_
      rintro e w3 ⟨at_, ct, rfl, hot, hb⟩
      have WB3 := Lib.hid (WB2.out.trans (hb.mono WB2.out.size))
      have RO3 := Lib.hid (owns_below RO2.out hb)
      have TO := Lib.hid hot
      have tm1 := (Ags.of_own hot).cap
      have tm2 := (Ags.of_own hot).big
      clear hb hot AK KT HR
      obtain ⟨M, hM⟩ : ∃ M, M = min x.toNat T.length := ⟨_, rfl⟩
      rw [← hM] at HZ
      have hMT : M ≤ T.length := by omega
      have hMx : M ≤ x.toNat := by omega
      have HTL := Lib.hid (topTo_len T)
      have HNX : Hid (∀ j : Nat, j < M → (j : Int) < x ∧ j < T.length) := Lib.hid (fun j hj => by omega)
      have HNM : Hid (¬ ((M : Int) < x ∧ M < T.length)) := Lib.hid (by omega)
      have hT : T.length ≤ 1048576 := by omega
      clear hM hd B0 O0 RO2 WB2 hkl
      go_wp2
      go_loopw [5, 7, 8] (fun os bs is wr => ∃ (j : Nat) (a2 : Option Addr) (c2 : Nat), j ≤ M ∧ os = .slice a2 j c2 ∧ wr.ownsRow w.heap.size 3 1 (.slice a2 j c2) j ((topTo T j).map (Value.int .i64)) ∧ wr.ownsRow w2.heap.size 86 6 (.slice at_ T.length ct) T.length (flatA T) ∧ Below w.heap.size w wr) (fun os _ _ _ => M - (match os with | .slice _ n _ => n | _ => 0))
      case atStart => exact ⟨0, some ⟨w.heap.size, 0, none⟩, 0, Nat.zero_le _, rfl, RO3.out, TO.out, WB3.out⟩
      case round =>
        obtain ⟨j, a2, c2, hj, rfl, hown, hot, hb⟩ := hrel
        have RO := Lib.hid hown
        have TO := Lib.hid hot
        have WB := Lib.hid hb
        have hjl := HTL.out j
        clear hown hb hot
        by_cases hlt : j < M
        · obtain ⟨hx1, hx2⟩ := HNX.out j hlt
          have hx3 : (j : Int) < (T.length : Int) := by omega
          have HBP := Lib.hid (best_some HND.out (show (topTo T j).length < T.length by rw [hjl]; exact hx2))
          have HST : Hid (topTo T (j + 1) = topTo T j ++ [(ael T (bestTo T (topTo T j) T.length).toNat).key]) := Lib.hid rfl
          have NR := Lib.hid (Nums.of_own RO.out).2
          have hol := HTL.out j
          generalize topTo T j = out at RO HBP HST NR hol
          have HC := Lib.hid (fun (W : World) (h : Nums .i64 W W.heap.size a2 c2 out) (y : Int) => specHas_any a2 j c2 out y W.heap.size W h hol.symm)
          obtain ⟨bT, oT, rfl, hbT, hcT⟩ := (Ags.of_own TO.out).six (by omega)
          have HCT := Lib.hid hcT
          clear hcT
          rename World => wq
          go_wp2
          go_loopw [7, 8] (fun bs is wr => ∃ i : Nat, i ≤ T.length ∧ is = .int .i64 (i : Int) ∧ bs = .int .i64 (bestTo T out i) ∧ Below wq.heap.size wq wr) (fun _ is _ => T.length - (intOf is).toNat)
          case atStart => exact ⟨0, Nat.zero_le _, rfl, rfl, Below.refl _ _⟩
          case round =>
            obtain ⟨i, hi, rfl, rfl, hb⟩ := hrel
            have HB := Lib.hid hb
            clear hb
            by_cases hil : i < T.length
            · have hlt' : (i : Int) < (T.length : Int) := by omega
              have hnn : 0 ≤ (i : Int) := by omega
              have CT : Hid (∀ (q : Nat), q < T.length → wr.cell? ⟨bT, oT + q * 6 + 1, none⟩ = some (.int .i64 (ael T q).key) ∧ wr.cell? ⟨bT, oT + q * 6 + 2, none⟩ = some (.int .i64 (ael T q).cnt)) := Lib.hid (fun q hq => by
                obtain ⟨_, k1, k2, _⟩ := HCT.out q hq
                exact ⟨(HB.out.cell (p := ⟨bT, oT + q * 6 + 1, none⟩) hbT).trans k1, (HB.out.cell (p := ⟨bT, oT + q * 6 + 2, none⟩) hbT).trans k2⟩)
              obtain ⟨p1, p2⟩ := CT.out i hil
              have bd := best_bd T out i
              have HCW : Hid (∀ nn : Nat, Calls Try.prog 80 #[.slice a2 j c2, .int .i64 (ael T i).key] (wr.drewN nn) fun e w' => e = .returned (.bool (out.contains (ael T i).key)) ∧ w' = wr.drewN nn) := Lib.hid (fun nn => HC.out (wr.drewN nn) (((NR.out.below HB.out).more HB.out.size).below (below_drewN (Below.refl _ wr) nn)) (ael T i).key)
              obtain ⟨NX, hNX⟩ : ∃ z, z = bestTo T out (i + 1) := ⟨_, rfl⟩
              have HNX2 := Lib.hid hNX
              have hNX1 : NX = if out.contains (ael T i).key = false ∧ (bestTo T out i < 0 ∨ (ael T (bestTo T out i).toNat).cnt < (ael T i).cnt) then (i : Int) else bestTo T out i := hNX
              clear hNX
              cases hR : out.contains (ael T i).key with
              | true =>
                have HL : Hid (NX = bestTo T out i) := Lib.hid (by rw [hNX1, hR]; simp)
                rw [hR] at HCW
                clear hR hNX1
                generalize bestTo T out i = B at *
                generalize ael T i = X at *
                go_wp2_with fail
                go_quiet ((go_at_call 80; exact Calls.quiet_of_same (HCW.out _)))
                go_wp2
                go_roundw
                case rel => exact ⟨i + 1, by omega, by go_num, by rw [← HNX2.out, HL.out], below_drewN HB.out nq⟩
                case measure => simp [intOf]; omega
              | false =>
                rw [hR] at HCW hNX1
                by_cases hneg : bestTo T out i < 0
                · have HL : Hid (NX = (i : Int)) := Lib.hid (by rw [hNX1]; simp [hneg])
                  have hng : decide (bestTo T out i < 0) = true := decide_eq_true hneg
                  clear hR hNX1
                  generalize bestTo T out i = B at *
                  generalize ael T i = X at *
                  go_wp2_with fail
                  go_quiet ((go_at_call 80; exact Calls.quiet_of_same (HCW.out _)))
                  go_wp2
                  go_roundw
                  case rel => exact ⟨i + 1, by omega, by go_num, by rw [← HNX2.out, HL.out], below_drewN HB.out nq⟩
                  case measure => simp [intOf]; omega
                · obtain ⟨q, hq⟩ : ∃ q : Nat, bestTo T out i = (q : Int) := ⟨(bestTo T out i).toNat, by omega⟩
                  obtain ⟨r1, r2⟩ := CT.out q (by omega)
                  have hql : (q : Int) < (T.length : Int) := by omega
                  have hq0 : 0 ≤ (q : Int) := by omega
                  have hng : decide ((q : Int) < 0) = false := by simp
                  rw [hq] at hNX1 hneg ⊢
                  rw [Int.toNat_natCast] at hNX1
                  by_cases hgt : (ael T q).cnt < (ael T i).cnt
                  · have HL : Hid (NX = (i : Int)) := Lib.hid (by rw [hNX1]; simp [hgt])
                    clear hR hNX1 hq bd
                    generalize ael T q = Y at *
                    generalize ael T i = X at *
                    go_wp2_with fail
                    go_quiet ((go_at_call 80; exact Calls.quiet_of_same (HCW.out _)))
                    go_wp2
                    go_roundw
                    case rel => exact ⟨i + 1, by omega, by go_num, by rw [← HNX2.out, HL.out], below_drewN HB.out nq⟩
                    case measure => simp [intOf]; omega
                  · have HL : Hid (NX = (q : Int)) := Lib.hid (by rw [hNX1]; simp [hgt, hneg])
                    clear hR hNX1 hq bd
                    generalize ael T q = Y at *
                    generalize ael T i = X at *
                    go_wp2_with fail
                    go_quiet ((go_at_call 80; exact Calls.quiet_of_same (HCW.out _)))
                    go_wp2
                    go_roundw
                    case rel => exact ⟨i + 1, by omega, by go_num, by rw [← HNX2.out, HL.out], below_drewN HB.out nq⟩
                    case measure => simp [intOf]; omega
            · obtain rfl : i = T.length := by omega
              obtain ⟨q, hq⟩ : ∃ q : Nat, bestTo T out T.length = (q : Int) := ⟨(bestTo T out T.length).toNat, by have := HBP.out; omega⟩
              have bd := best_bd T out T.length
              have hqT : q < T.length := by omega
              have hql : (q : Int) < (T.length : Int) := by omega
              have hq0 : 0 ≤ (q : Int) := by omega
              have r1 : wr.cell? ⟨bT, oT + q * 6 + 1, none⟩ = some (.int .i64 (ael T q).key) := (HB.out.cell (p := ⟨bT, oT + q * 6 + 1, none⟩) hbT).trans (HCT.out q hqT).2.1
              have hst := HST.out
              rw [hq, Int.toNat_natCast] at hst
              have HS2 := Lib.hid hst
              have RO2 := Lib.hid (owns_below RO.out HB.out)
              have TO2 := Lib.hid (owns_below TO.out HB.out)
              have WB2 := Lib.hid (WB.out.trans (HB.out.mono WB.out.size))
              rw [hq]
              clear bd hq hst HST HBP HC RO TO WB
              generalize ael T q = X at *
              obtain ⟨a3, c3, w9, hr3, ho3, hb3, hg3⟩ := appendI (w := wr) X.key hol.symm RO2.out WB2.out.size (by omega) 22
              have R3 := Lib.hid hr3
              have RO9 := Lib.hid ho3
              have TO9 := Lib.hid (TO2.out.kept hg3 (own_own_ne TO2.out RO2.out (by decide)))
              have WB9 := Lib.hid (WB2.out.trans hb3)
              clear hr3 ho3 hb3 hg3
              go_wp2_with (at_builtin; refine Lib.wpList_append_run _ rfl _ _ _ _ rfl _ _ rfl rfl _ _ R3.out ?_)
              go_roundw
              case rel => exact ⟨j + 1, a3, c3, by omega, rfl, by rw [HS2.out]; exact RO9.out, TO9.out, WB9.out⟩
              case measure => show M - (j + 1) < M - j; omega
        · obtain rfl : j = M := by omega
          have hnm := HNM.out
          have HZZ : Hid (FreshNums 3 .i64 ZZ w (.returned (.slice a2 j c2)) wr) := Lib.hid (by
            rw [HZ.out]
            have o := RO.out
            exact ⟨a2, c2, by rw [hjl], by rw [hjl]; exact o, WB.out⟩)
          clear hjl HZ RO TO
          by_cases hmx : (j : Int) < x
          · have hmt : ¬ (j : Int) < (T.length : Int) := fun h => hnm ⟨hmx, by omega⟩
            clear hnm
            go_wp2
            exact bodyPost_ret (v := .slice a2 j c2) (by simp [results, Try.results41, go_sem]) rfl HZZ.out
          · clear hnm
            go_wp2
            exact bodyPost_ret (v := .slice a2 j c2) (by simp [results, Try.results41, go_sem]) rfl HZZ.out
end Go.Proofs.Ytchbmnpajnlijaa
