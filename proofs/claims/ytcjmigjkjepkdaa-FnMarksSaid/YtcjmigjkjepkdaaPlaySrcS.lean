/- Contract of spec.PlaySource. -/
import Derived.Test.YtcjmigjkjepkdaaPlaySrcI
import Derived.Deep.RegionWith
import Derived.Deep.CutRange
import Derived.Deep.LoopGhost
namespace Go.Proofs.Ytcjmigjkjepkdaa
open Go.RowKit

set_option maxHeartbeats 8000000 in
set_option maxRecDepth 100000 in
theorem specPlayS_any (l af : Int) (a : Option Addr) (n c : Nat) (es : List (List Int)) (hi : Nat) (w : World) (hr : Grid w hi a c es) (hn : n = es.length) (hB : hi ≤ w.heap.size) :
    Calls Try.prog 7 #[.int .i64 l, .int .i64 af, .slice a n c] w (PlayPost (psEnd l af es) (psAll l af es) w) := by
  subst hn
  obtain ⟨i0, hi0, hz0, hz1, hz2⟩ := info_i64 infoI64
  have hc1 := hr.cap
  have hc2 := hr.big
  have K0 := Lib.hid (Blk.new w 28 #[.int .i64 0, .int .i64 0, .int .i64 0, .bool false, .bool false])
  have B0 := Lib.hid ((Below.refl w.heap.size w).alloc (Nat.le_refl _) (.cells #[.int .i64 0, .int .i64 0, .int .i64 0, .bool false, .bool false] 28))
  have HNW := Lib.hid (fun W => specNew_any 0 W)
  rw [newT0, show tickB 0 = true from tickB_yes (by omega) (by omega)] at HNW
  by_cases h300 : es.length ≤ 300
  · rw [(ps_in h300).1, (ps_in h300).2]
    have hlt300 : ¬ (300 < es.length) := by omega
    have HG := Lib.hid (fun (W : World) (h : Below w.heap.size w W) => hr.below (h.mono hB))
    have HS0 : Hid (psS l af es 0 = ⟨-1, -1, 0, false, true⟩) := newT0
    have HSS : Hid (∀ k, psS l af es (k + 1) = psT l af (es.getD k []) (psS l af es k)) := fun _ => rfl
    have HTS : Hid (∀ k, psL l af es (k + 1) = psL l af es k ++ [psX l af (es.getD k []) (psS l af es k)]) := fun _ => rfl
    have HTL := Lib.hid (psL_len l af es)
    clear hr
    go_enter Try.func7, Try.ntmps7
    go_wp2_with fail
    refine (HNW.out _).mono ?_
    rintro e w1 ⟨rfl, hb⟩
    have s1 := hb.size
    simp only [World.size_alloc] at s1
    have SP0 : Hid (Sp w1.heap.size (w1.heap.size + 1) ⟨-1, -1, 0, false, true⟩ (.slice (some ⟨w1.heap.size + 1, 0, none⟩) 0 0) 0 [] w ((w1.alloc (.cells #[.int .i64 (-1), .int .i64 (-1), .int .i64 0, .bool false, .bool true] 28)).alloc (.cells #[] 3))) := by
      have t0 := World.ownsRow_made (e := 3) (size := 1) (base := w1.heap.size + 1) (w1.alloc (.cells #[.int .i64 (-1), .int .i64 (-1), .int .i64 0, .bool false, .bool true] 28)) #[] 0 (by simp) (by unfold maxLen; omega) (by simp)
      simp only [World.size_alloc] at t0
      exact ⟨(Blk.new w1 28 _).alloc _, ((K0.out.below hb).alloc _).alloc _, t0, ((B0.out.trans (hb.mono (by simp))).alloc (by omega) _).alloc (by simp; omega) _, by omega, by omega⟩
    clear hb
    go_wp2
    go_loopg [10, 11, 12, 13, 14] es.length (fun gk v i _ _ _ wr => ∃ (j : Nat) (a' : Option Addr) (c' : Nat), j ≤ es.length ∧ gk = es.length - j ∧ i = .int .i64 j ∧ v = .slice a' j c' ∧ Sp w1.heap.size (w1.heap.size + 1) (psS l af es j) (.slice a' j c') j (psL l af es j) w wr)
    case atStart => exact ⟨0, _, _, Nat.zero_le _, rfl, rfl, rfl, by rw [HS0.out]; exact SP0.out⟩
    case round =>
      obtain ⟨j, a', c', hj, hgk, rfl, rfl, hsp⟩ := hrel
      have HGK := Lib.hid hgk
      clear hgk
      have hsz := hsp.bel.size
      by_cases hlt : j < es.length
      · obtain ⟨b, off, rfl, hbh, hcell⟩ := (HG.out _ hsp.bel).lies.resolve_left (by intro h; subst h; simp at hlt)
        obtain ⟨ai, ci, hck, hN⟩ := hcell j hlt
        have HSJ := Lib.hid (HSS.out j)
        have HTJ := Lib.hid (HTS.out j)
        generalize es.getD j [] = ev at hck hN HSJ HTJ
        obtain ⟨S, hS⟩ : ∃ S, S = psS l af es j := ⟨_, rfl⟩
        rw [← hS] at hsp HSJ HTJ
        have hcap := hN.cap
        have hbig := hN.big
        clear hcell hS
        have hlt' : (j : Int) < (es.length : Int) := by omega
        have HSP := Lib.hid hsp
        have HSD := Lib.hid (hsp.keep (Below.refl _ wr).drew)
        have q1 := hsp.blk.cell
        have l1 := hsp.blk.lt
        have f1 := hsp.blk.frozen
        obtain ⟨x, m, t, i, o⟩ := S
        simp only at q1
        clear hsp
        obtain ⟨evl, hevl⟩ : ∃ evl, evl = ev.length := ⟨_, rfl⟩
        rw [← hevl] at hck hcap
        obtain ⟨TF, hTF⟩ : ∃ TF, TF = psT l af ev ⟨x, m, t, i, o⟩ := ⟨_, rfl⟩
        obtain ⟨KF, hKF⟩ : ∃ KF, KF = psK l af ev ⟨x, m, t, i, o⟩ := ⟨_, rfl⟩
        obtain ⟨x', m', t', i', o'⟩ := TF
        have HTF := Lib.hid hTF
        have HKF := Lib.hid hKF
        have HEVL := Lib.hid hevl
        clear hTF hKF hevl
        go_upto_if 36 with fail
        go_cut [13] from 24 to 91 (fun s13 wx => s13 = .bool KF ∧ Sp w1.heap.size (w1.heap.size + 1) ⟨x', m', t', i', o'⟩ (.slice a' j c') j (psL l af es j) w wx)
        case first =>
          have hevl := HEVL.out
          by_cases h3 : evl = 3
          · subst h3
            obtain ⟨b2, off2, rfl, hb2, hc⟩ := hN.lies.resolve_left (by intro h; subst h; simp at hevl)
            have c0 := hc 0 (by omega)
            have c1 := hc 1 (by omega)
            have c2 := hc 2 (by omega)
            rw [Nat.add_zero] at c0
            have P0 := Lib.hid (fun h => ps_0 (l := l) (a := af) (S := ⟨x, m, t, i, o⟩) hevl.symm h)
            have P1 := Lib.hid (fun h => ps_1 (l := l) (a := af) (S := ⟨x, m, t, i, o⟩) hevl.symm h)
            have P2 := Lib.hid (fun h => ps_2 (l := l) (a := af) (S := ⟨x, m, t, i, o⟩) hevl.symm h)
            have P3 := Lib.hid (fun h => ps_3 (l := l) (a := af) (S := ⟨x, m, t, i, o⟩) hevl.symm h)
            have P4 := Lib.hid (ps_4 (l := l) (a := af) (S := ⟨x, m, t, i, o⟩) (e := ev))
            clear hc hN hevl
            generalize el ev 0 = e0 at c0 P0 P1 P2 P3 P4
            generalize el ev 1 = e1 at c1 P0 P1 P2 P3 P4
            generalize el ev 2 = e2 at c2 P0 P1 P2 P3 P4
            by_cases z0 : e0 = 0
            · subst z0
              have e8 := P0.out rfl
              have HE : Hid (∀ W, _) := Lib.hid (fun W => (specEvent_any ⟨x, m, t, i, o⟩ l e1 e2 W).mono fun e w' hh => hh.as (HTF.out.trans e8.1) (HKF.out.trans e8.2))
              clear e8 P0 P1 P2 P3 P4
              go_wp2_with fail
              go_region_with (go_at_call 23; refine (HE.out _).mono ?_; rintro e w3 ⟨rfl, hb⟩; have SP3 := Lib.hid (HSD.out.keep hb); have q3 := SP3.out.blk.cell; have f3 := SP3.out.blk.frozen; have SP4 := Lib.hid (SP3.out.set x' m' t' i' o'); clear hb)
              all_goals
                go_wp2
                go_meet
                case rel => exact ⟨rfl, SP4.out⟩
            by_cases z1 : e0 = 1
            · subst z1
              have e8 := P1.out rfl
              have HE : Hid (∀ W, _) := Lib.hid (fun W => (specMk_any ⟨x, m, t, i, o⟩ e1 e2 W).mono fun e w' hh => hh.as (HTF.out.trans e8.1) (HKF.out.trans e8.2))
              clear e8 P0 P1 P2 P3 P4
              go_wp2_with fail
              go_region_with (go_at_call 24; refine (HE.out _).mono ?_; rintro e w3 ⟨rfl, hb⟩; have SP3 := Lib.hid (HSD.out.keep hb); have q3 := SP3.out.blk.cell; have f3 := SP3.out.blk.frozen; have SP4 := Lib.hid (SP3.out.set x' m' t' i' o'); clear hb)
              all_goals
                go_wp2
                go_meet
                case rel => exact ⟨rfl, SP4.out⟩
            by_cases z2 : e0 = 2
            · subst z2
              have e8 := P2.out rfl
              have HE : Hid (∀ W, _) := Lib.hid (fun W => (specTickS_any ⟨x, m, t, i, o⟩ af e2 W).mono fun e w' hh => hh.as (HTF.out.trans e8.1) (HKF.out.trans e8.2))
              clear e8 P0 P1 P2 P3 P4
              go_wp2_with fail
              go_region_with (go_at_call 25; refine (HE.out _).mono ?_; rintro e w3 ⟨rfl, hb⟩; have SP3 := Lib.hid (HSD.out.keep hb); have q3 := SP3.out.blk.cell; have f3 := SP3.out.blk.frozen; have SP4 := Lib.hid (SP3.out.set x' m' t' i' o'); clear hb)
              all_goals
                go_wp2
                go_meet
                case rel => exact ⟨rfl, SP4.out⟩
            by_cases z3 : e0 = 3
            · subst z3
              have e8 := P3.out rfl
              have HE : Hid (∀ W, _) := Lib.hid (fun W => (specClose_any ⟨x, m, t, i, o⟩ W).mono fun e w' hh => hh.as (HTF.out.trans e8.1) (HKF.out.trans e8.2))
              clear e8 P0 P1 P2 P3 P4
              go_wp2_with fail
              refine (HE.out _).mono ?_
              rintro e w3 ⟨rfl, hb⟩
              have SP3 := Lib.hid (HSP.out.keep hb)
              have q3 := SP3.out.blk.cell
              have f3 := SP3.out.blk.frozen
              have SP4 := Lib.hid (SP3.out.set x' m' t' i' o')
              clear hb
              go_wp2
              go_meet
              case rel => exact ⟨rfl, SP4.out⟩
            have e8 := P4.out z0 z1 z2 z3
            have HKE := Lib.hid (HKF.out.trans e8.2)
            have HTE := Lib.hid (HTF.out.trans e8.1)
            clear e8 P0 P1 P2 P3 P4
            go_wp2
            go_meet
            case rel => exact ⟨by rw [HKE.out], by rw [HTE.out]; exact HSP.out⟩
          · have e8 := ps_len (l := l) (a := af) (S := ⟨x, m, t, i, o⟩) (show ¬ ev.length = 3 by omega)
            have h3' : ¬ ((evl : Int) = 3) := by omega
            have HKE := Lib.hid (HKF.out.trans e8.2)
            have HTE := Lib.hid (HTF.out.trans e8.1)
            clear e8 hN hevl h3
            go_wp2
            go_meet
            case rel => exact ⟨by rw [HKE.out], by rw [HTE.out]; exact HSP.out⟩
        case rest =>
          obtain ⟨rfl, hsp5⟩ := hcut
          have SP5 := Lib.hid hsp5
          have q5 := hsp5.blk.cell
          simp only at q5
          clear hsp5 q1 hck hN f1 l1
          cases KF with
          | false =>
            rw [psX_no HKF.out.symm] at HTJ
            rw [← HTF.out] at HSJ
            go_wp2_with (at_builtin; refine wpList_append_own _ rfl _ _ 29 rfl (w1.heap.size + 1) 3 i0 (.int .i64 0) 1 8 Try.underlying29 hi0 hz0 hz1 hz2 rfl (by decide) _ _ _ rfl (SP5.out.own.alloc _) ⟨_, 0, none⟩ 1 1 [.int .i64 (-2)] rfl rfl (news_at_ rfl) (one_i64_ _) ?c3 ?c4 ?c5 ?_)
            case c3 => unfold maxLen; omega
            case c4 => omega
            case c5 => have h9 := SP5.out.blk.lt; simp; omega
            intro v' w9 hown hg _
            obtain ⟨a2, c2, rfl⟩ := owns_shape hown
            have SP9 := Lib.hid (SP5.out.more hown hg)
            clear hown hg
            go_wp2
            go_roundg (es.length - (j + 1))
            case measure => (have hg9 := HGK.out; omega)
            case rel => exact ⟨j + 1, a2, c2, by omega, rfl, by go_num, rfl, by rw [HSJ.out, HTJ.out]; exact SP9.out⟩
          | true =>
            rw [psX_yes HKF.out.symm, ← HTF.out] at HTJ
            rw [← HTF.out] at HSJ
            simp only at HTJ
            go_wp2_with (at_builtin; refine wpList_append_own _ rfl _ _ 29 rfl (w1.heap.size + 1) 3 i0 (.int .i64 0) 1 8 Try.underlying29 hi0 hz0 hz1 hz2 rfl (by decide) _ _ _ rfl (SP5.out.own.alloc _) ⟨_, 0, none⟩ 1 1 [.int .i64 m'] rfl rfl (news_at_ rfl) (one_i64_ _) ?c3 ?c4 ?c5 ?_)
            case c3 => unfold maxLen; omega
            case c4 => omega
            case c5 => have h9 := SP5.out.blk.lt; simp; omega
            intro v' w9 hown hg _
            obtain ⟨a2, c2, rfl⟩ := owns_shape hown
            have SP9 := Lib.hid (SP5.out.more hown hg)
            clear hown hg
            go_wp2
            go_roundg (es.length - (j + 1))
            case measure => (have hg9 := HGK.out; omega)
            case rel => exact ⟨j + 1, a2, c2, by omega, rfl, by go_num, rfl, by rw [HSJ.out, HTJ.out]; exact SP9.out⟩
      · obtain rfl : j = es.length := by omega
        have hl := HTL.out es.length
        obtain ⟨S, hS⟩ : ∃ S, S = psS l af es es.length := ⟨_, rfl⟩
        obtain ⟨ts, hts⟩ : ∃ ts, ts = psL l af es es.length := ⟨_, rfl⟩
        rw [← hS, ← hts] at hsp
        rw [← hts] at hl
        have HSE := Lib.hid hS
        have HTE := Lib.hid hts
        have q8 := hsp.blk.cell
        have q6 := hsp.res.cell
        have f6 := hsp.res.frozen
        have HP := Lib.hid (hsp.stored hl.symm)
        obtain ⟨x, m, t, i, o⟩ := S
        simp only at q8
        clear hsp hl hS hts
        go_wp2
        exact bodyPost_ret (v := .tuple #[(.agg #[.int .i64 x, .int .i64 m, .int .i64 t, .bool i, .bool o]), .slice a' es.length c']) (by simp [results, Try.results7, go_sem, q6]) rfl (HP.out.as HSE.out.symm HTE.out.symm)
  · rw [(ps_out h300).1, (ps_out h300).2]
    have hgt : 300 < es.length := by omega
    clear hr h300
    go_enter Try.func7, Try.ntmps7
    go_wp2_with fail
    refine (HNW.out _).mono ?_
    rintro e w1 ⟨rfl, hb⟩
    have s1 := hb.size
    simp only [World.size_alloc] at s1
    have k1 := (K0.out.below hb).alloc (.cells #[.int .i64 (-1), .int .i64 (-1), .int .i64 0, .bool false, .bool true] 28)
    have q1 := k1.cell
    have f1 := k1.frozen
    have BB := Lib.hid ((B0.out.trans (hb.mono (by simp))).alloc (by omega) (.cells #[.int .i64 (-1), .int .i64 (-1), .int .i64 0, .bool false, .bool true] 28))
    clear hb k1
    go_wp2
    exact bodyPost_ret (v := .tuple #[(.agg #[.int .i64 0, .int .i64 0, .int .i64 0, .bool false, .bool false]), .slice none 0 0]) (by simp [results, Try.results7, go_sem, q1]) rfl ⟨none, 0, rfl, World.ownsRow_nil _ _ _ _, below_set5 BB.out (Nat.le_refl _) _ _ _ _ _⟩
end Go.Proofs.Ytcjmigjkjepkdaa
