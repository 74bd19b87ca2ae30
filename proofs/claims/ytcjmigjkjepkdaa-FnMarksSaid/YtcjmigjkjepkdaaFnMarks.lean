/- Through the events that are drawn a source answers as its model and its mark never falls; the mark of all of the sources that are drawn is the model's, it is at least the last, and above the last it is above no active source's: the law FnMarks returns true for every slice of bytes that the draws are made of, and the slice reads as before. No conditions. -/
import Derived.Test.YtcjmigjkjepkdaaRows
import Derived.Test.YtcjmigjkjepkdaaMarksS
import Derived.Test.YtcjmigjkjepkdaaMarksS
import Derived.WalkSmall
import Derived.WalkKit
import Derived.ProofKit
import Derived.OpenShut
import Derived.ShutString
import Derived.ChangeOld
import Derived.Below
namespace Go.Proofs.Ytcjmigjkjepkdaa.fnMarks
open Go.ChangeShapes Go.WideShapes Go.ChangeAt Go.RowKit
set_option linter.unusedVariables false

theorem own : ownKnob Try.prog.godebug = none := by kernel_rfl
theorem laidOut : laidOutB Try.prog = true := by kernel_rfl


set_option maxHeartbeats 8000000 in
set_option maxRecDepth 100000 in
theorem walk (w : World) (a : Option Addr) (len cap : Nat) (hbytes : len ≤ 1048576 → Bytes w w.heap.size a len) :
    Calls Try.prog 3 #[.slice a len cap] w fun e w' => e = .returned (.bool true) ∧ Below w.heap.size w w' := by
  by_cases hbig : 1048576 < len
  · have hd : decide ((1048576 : Int) < (len : Int)) = true := by simp; omega
    have HBG := Lib.hid (fun W => big_any a len cap W)
    rw [hd] at HBG
    clear hbytes
    go_enter Try.func3, Try.ntmps3
    go_wp2_with fail
    refine (HBG.out _).mono ?_
    rintro e w' ⟨rfl, rfl⟩
    go_wp2
    go_ret
    exact ⟨rfl, Below.refl _ _⟩
  have hd : decide ((1048576 : Int) < (len : Int)) = false := by simp; omega
  have HBG := Lib.hid (fun W => big_any a len cap W)
  rw [hd] at HBG
  have HB := Lib.hid (hbytes (by omega))
  clear hbytes hd
  go_enter Try.func3, Try.ntmps3
  go_wp2_with fail
  refine (HBG.out _).mono ?_
  rintro e w' ⟨rfl, rfl⟩
  go_wp2_with fail
  refine (drawPlay_any a len cap _ HB.out).mono ?_
  rintro e w1 ⟨l, af, ess, ga, gc, rfl, hel, hgr, hb1⟩
  have G1 := Lib.hid hgr
  have B1 := Lib.hid hb1
  have s1 := hb1.size
  clear hgr hb1
  have SP : Hid (∀ (W : World) (hi : Nat), hi ≤ W.heap.size → Grid W hi ga gc ess → Calls Try.prog 7 #[.int .i64 l, .int .i64 af, .slice ga ess.length gc] W (PlayPost (psEnd l af ess) (psAll l af ess) W)) := Lib.hid (fun W hi hh h => specPlayS_any l af ga _ gc ess hi W h rfl hh)
  have IP : Hid (∀ (W : World) (hi : Nat), hi ≤ W.heap.size → Grid W hi ga gc ess → Calls Try.prog 8 #[.int .i64 l, .int .i64 af, .slice ga ess.length gc] W (PlayPost (psEnd l af ess) (psAll l af ess) W)) := Lib.hid (fun W hi hh h => implPlayS_any l af ga _ gc ess hi W h rfl hh)
  have hts := psAll_le l af ess
  obtain ⟨M, hM0, hM1, hM2⟩ := told_rise l af ess
  have HM1 := Lib.hid hM1
  generalize psAll l af ess = TS at SP IP hts hM2
  generalize psEnd l af ess = EN at SP IP
  have HM2 := Lib.hid hM2
  clear hM1 hM2
  obtain ⟨x, m, t, d, e⟩ := EN
  have hd : (d != d) = false := by simp
  have he : (e != e) = false := by simp
  go_wp2_with fail
  refine (SP.out w1 _ (Nat.le_refl _) G1.out).mono ?_
  rintro e' w2 ⟨a2, c2, rfl, ho2, hb2⟩
  have s2 := hb2.size
  have G2 := Lib.hid (G1.out.below (hb2.alloc (by omega) (.cells #[.int .i64 x, .int .i64 m, .int .i64 t, .bool d, .bool e] 28)))
  have B2 := Lib.hid ((B1.out.trans (hb2.mono s1)).alloc (by omega) (.cells #[.int .i64 x, .int .i64 m, .int .i64 t, .bool d, .bool e] 28))
  have K2 := Lib.hid (Blk.new w2 28 #[.int .i64 x, .int .i64 m, .int .i64 t, .bool d, .bool e])
  have N2 := Lib.hid ((Nums.of_own ho2).2.below ((Below.refl w2.heap.size w2).alloc (Nat.le_refl _) (.cells #[.int .i64 x, .int .i64 m, .int .i64 t, .bool d, .bool e] 28)))
  clear ho2 hb2 G1 B1
  go_wp2_with fail
  refine (IP.out _ w1.heap.size (by simp; omega) G2.out).mono ?_
  rintro e' w3 ⟨a3, c3, rfl, ho3, hb3⟩
  have s3 := hb3.size
  simp only [World.size_alloc] at s3
  have B3 := Lib.hid ((B2.out.trans (hb3.mono (by simp; omega))).alloc (by omega) (.cells #[.int .i64 x, .int .i64 m, .int .i64 t, .bool d, .bool e] 28))
  have K3 := Lib.hid (Blk.new w3 28 #[.int .i64 x, .int .i64 m, .int .i64 t, .bool d, .bool e])
  have K2b := Lib.hid ((K2.out.below hb3).alloc (.cells #[.int .i64 x, .int .i64 m, .int .i64 t, .bool d, .bool e] 28))
  have N2b := Lib.hid ((N2.out.below (hb3.mono (by simp))).below ((Below.refl w2.heap.size w3).alloc (by omega) (.cells #[.int .i64 x, .int .i64 m, .int .i64 t, .bool d, .bool e] 28)))
  have N3 := Lib.hid ((Nums.of_own ho3).2.below ((Below.refl w3.heap.size w3).alloc (Nat.le_refl _) (.cells #[.int .i64 x, .int .i64 m, .int .i64 t, .bool d, .bool e] 28)))
  clear ho3 hb3 B2 K2 N2 G2 SP IP
  have qa := K2b.out.cell
  have qb := K3.out.cell
  go_wp2_with fail
  refine (same_b a3 a2 _ _ c3 c2 TS _ _ _ N3.out N2b.out rfl rfl).mono ?_
  rintro e' w5 ⟨rfl, hb5⟩
  have s5 := hb5.size
  simp only [World.size_alloc] at s5
  have B5 := Lib.hid (B3.out.trans (hb5.mono (by simp; omega)))
  have N5 := Lib.hid (N3.out.below (hb5.mono (by simp)))
  have hc3 := N3.out.cap
  clear hb5 B3 K2b N2b N3 K3 qa qb
  go_wp2
  go_loop [10, 11] (fun z i => ∃ (k : Nat) (v : Int), k ≤ TS.length ∧ i = .int .i64 k ∧ z = .int .i64 v ∧ v ≤ M k) (fun _ i => TS.length - (intOf i).toNat)
  case atStart => exact ⟨0, -1, Nat.zero_le _, rfl, rfl, hM0⟩
  case round =>
    obtain ⟨k, v, hk, rfl, rfl, hv⟩ := hrel
    by_cases hlt : k < TS.length
    · have hlt' : (k : Int) < (TS.length : Int) := by omega
      obtain ⟨b, off, rfl, hbl, hcl⟩ := N5.out.lies.resolve_left (by intro h; subst h; simp at hlt)
      have hcx := hcl k hlt
      have h12 := HM2.out k hlt
      have hmk := HM1.out k
      generalize el TS k = y at hcx h12
      clear hcl
      by_cases hy : y = -2
      · subst hy
        clear h12
        go_wp2
        go_round
        case rel => exact ⟨k + 1, v, by omega, by go_num, rfl, by omega⟩
        case measure => simp [intOf]; omega
      · have hy2 : y = M (k + 1) := by omega
        have hyv : ¬ y < v := by omega
        have HY := Lib.hid hy2
        clear h12 hy2
        go_wp2
        go_round
        case rel => exact ⟨k + 1, y, by omega, by go_num, rfl, by rw [HY.out]; exact Int.le_refl _⟩
        case measure => simp [intOf]; omega
    · have hlt' : ¬ ((k : Int) < (TS.length : Int)) := by omega
      clear hv hM0 hts
      have hby : Bytes w5 w5.heap.size a len := by
        have h := HB.out.below_ B5.out
        exact ⟨h.small, h.lies.imp id fun ⟨b, off, e1, hl1, hc1⟩ => ⟨b, off, e1, by omega, hc1⟩⟩
      have HBY := Lib.hid hby
      clear hby
      go_wp2_with fail
      refine (alt_any a len cap w5 HBY.out).mono ?_
      rintro e' w6 ⟨a6, n6, c6, rfl, hb6y, hb6⟩
      have B6 := Lib.hid (B5.out.trans (hb6.mono (by omega)))
      have Y6 := Lib.hid hb6y
      have s6 := hb6.size
      clear hb6 hb6y
      go_wp2_with fail
      refine (drawAllM_any a6 n6 c6 w6 Y6.out).mono ?_
      rintro e' w7 ⟨ls, la, lc, lm, rfl, hll, hs7, hb7⟩
      have B7 := Lib.hid (B6.out.trans (hb7.mono (by omega)))
      have S7 := Lib.hid hs7
      have s7 := hb7.size
      have hlc := hs7.cap
      have hlb := hs7.big
      clear hb7 hs7
      obtain ⟨R, hR⟩ : ∃ R, R = allM ls lm := ⟨_, rfl⟩
      have HI := Lib.hid (fun W hh h => implAllM_any la ls.length lc ls lm w7.heap.size W h rfl hh)
      have HS := Lib.hid (fun W hh h => specAllM_any la ls.length lc ls lm w7.heap.size W h rfl hh)
      have HF := Lib.hid (fun h => allM_fits (l := ls) (m := lm) h)
      rw [← hR] at HI HS HF
      clear hR
      go_wp2_with fail
      refine (HI.out w7 (Nat.le_refl _) S7.out).mono ?_
      rintro e' w8 ⟨rfl, hb8⟩
      have B8 := Lib.hid (B7.out.trans (hb8.mono (by omega)))
      have S8 := Lib.hid (S7.out.below hb8)
      have s8 := hb8.size
      clear hb8
      go_wp2_with fail
      refine (HS.out w8 s8 S8.out).mono ?_
      rintro e' w9 ⟨rfl, hb9⟩
      have B9 := Lib.hid (B8.out.trans (hb9.mono (by omega)))
      have S9 := Lib.hid (S8.out.below (hb9.mono s8))
      clear hb9 S8 S7
      by_cases hR2 : R = -2
      · subst hR2
        go_wp2
        exact bodyPost_ret (v := .bool true) (by simp [results, Try.results3, go_sem]) rfl ⟨rfl, B9.out⟩
      · have hf := HF.out hR2
        have HF2 := Lib.hid hf.2
        have hf1 := hf.1
        clear hf
        go_wp2
        go_loop [15] (fun i => ∃ k : Nat, k ≤ ls.length ∧ i = .int .i64 k) (fun i => ls.length - (intOf i).toNat)
        case atStart => exact ⟨0, Nat.zero_le _, rfl⟩
        case round =>
          obtain ⟨k, hk, rfl⟩ := hrel
          by_cases hlt : k < ls.length
          · have hlt' : (k : Int) < (ls.length : Int) := by omega
            obtain ⟨b, off, rfl, hbl, hcl⟩ := S9.out.lies.resolve_left (by intro h; subst h; simp at hlt)
            obtain ⟨q0, q1, q2, q3, q4⟩ := hcl k hlt
            have HK := Lib.hid (fun h1 h2 => HF2.out k hlt h1 h2)
            clear hcl
            obtain ⟨S, hS⟩ : ∃ S, S = sl ls k := ⟨_, rfl⟩
            rw [← hS] at q0 q1 q2 q3 q4 HK
            clear hS
            obtain ⟨sx, sm, ss, si, so⟩ := S
            simp only at q0 q1 q2 q3 q4 HK
            cases so with
            | false =>
              go_wp2
              go_round
              case rel => exact ⟨k + 1, by omega, by go_num⟩
              case measure => simp [intOf]; omega
            | true =>
              cases si with
              | true =>
                go_wp2
                go_round
                case rel => exact ⟨k + 1, by omega, by go_num⟩
                case measure => simp [intOf]; omega
              | false =>
                by_cases hm2 : sm < R
                · have hRm : ¬ lm < R := by have := HK.out rfl hm2; omega
                  go_wp2
                  go_round
                  case rel => exact ⟨k + 1, by omega, by go_num⟩
                  case measure => simp [intOf]; omega
                · go_wp2
                  go_round
                  case rel => exact ⟨k + 1, by omega, by go_num⟩
                  case measure => simp [intOf]; omega
          · have hlt' : ¬ ((k : Int) < (ls.length : Int)) := by omega
            go_wp2
            exact bodyPost_ret (v := .bool true) (by simp [results, Try.results3, go_sem] <;> omega) rfl ⟨rfl, B9.out⟩

set_option maxRecDepth 100000 in
theorem lifted (os : Os) (started : os.Started) (H : Type) (enc : TypeId × Value → H) :
    ReturnsInHanded {} Try.checked os 3 .any (Rows.fnMarksSpec.pre6 enc Try.prog Try.f3 Rows.fnMarksRow.domain false) (Rows.fnMarksSpec.post enc Try.prog Try.f3 false true false false) := by
  refine returnsInHanded_of_change (C := Try.checked) own started (by kernel_rfl) Try.func3
    (ChangeSpec.witness6 (enc := enc) (C := Try.checked) false ⟨#[], #[.slice none 0 0], []⟩ 8 (by kernel_rfl) (by kernel_rfl) (by kernel_rfl) (by kernel_rfl)) ?_
  intro W base args ds gs before hval0 hW hcnd _
  have hval : ∀ (j : Nat) t v, Try.f3.params[j]? = some t → args[j]? = some v → Value.okWide Try.prog W .any base t v := hval0
  have hW' := hW
  obtain ⟨p, q, hA0, hV, rfl, hfz, hnd⟩ := hW
  have hA : DataW.TrodAll enc Try.prog W 0 (fun _ => true) true Try.f3.params.toList args.toList ds p := hA0
  rw [Try.params3] at hA hval
  obtain ⟨v0, vs0, d0, ds0, p0, q0, hargs, rfl, rfl, h0, r0⟩ := trodAll_cons hA
  obtain ⟨rfl, rfl, rfl⟩ := trodAll_nil r0
  obtain rfl : args = #[v0] := by cases args; simp_all
  obtain ⟨rfl, rfl⟩ := trodVars_none hV
  have lt0 : ∀ x ∈ p0, x.block < W.heap.size := by obtain ⟨m, hm⟩ := h0; exact DataW.trod_lt m _ _ _ hm
  obtain ⟨a0, n0, c0, rfl, hb0⟩ := arg_code (hval 0 22 v0 rfl rfl) h0
  clear hA0 hval0
  refine (walk W a0 n0 c0 hb0).mono fun e W' ⟨he, bel⟩ => ?_
  subst he
  exact ⟨_, rfl, _, _, _, [], _, [], hW', trodAll_mk1 (shut_bool Try.underlying4 _), (trodAll_cons_mk (Below.trod laidOut (by kernel_rfl) (of_decide_eq_true (by kernel_rfl)) h0 bel lt0) trodAll_mk0), rfl, bel.frame _, fun h => by cases h⟩

theorem over : Rows.fnMarksRow.holds Try.pinned (OpenSpec.ofChange Rows.fnMarksSpec) :=
  OpenClaim.holds_of_wide 3 Try.f3 rfl rfl rfl rfl rfl rfl rfl ⟨rfl, rfl, rfl, rfl, rfl⟩ rfl rfl rfl rfl rfl (by kernel_rfl) Try.func3 (by kernel_rfl)
    (of_decide_eq_true (by kernel_rfl)) (by unfold Func.isWrapper; first | (rw [if_pos (by decide +kernel)]; kernel_rfl) | (rw [if_neg (by decide +kernel)]; exact ⟨rfl, rfl⟩))
    (fun os started H enc _ => lifted os started H enc)

theorem proved : Rows.FnMarksSaid := over
#print axioms proved
end Go.Proofs.Ytcjmigjkjepkdaa.fnMarks
