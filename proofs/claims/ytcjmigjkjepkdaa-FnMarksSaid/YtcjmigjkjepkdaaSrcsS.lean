/- Slices of sources: how they read, and spec.AllMarks over them. -/
import Derived.Test.YtcjmigjkjepkdaaSrcS
import Derived.Test.YtcjmigjkjepkdaaPlainAllM
import Derived.Deep.QuietTactic
import Derived.BigQuiet
namespace Go.Proofs.Ytcjmigjkjepkdaa
open Go.RowKit

/-- A slice of sources, all below block hi, reads as l. -/
structure Srcs (w : World) (hi : Nat) (a : Option Addr) (c : Nat) (l : List Src) : Prop where
  cap : l.length ≤ c
  big : c ≤ 9223372036854775807
  lies : l = [] ∨ ∃ b off, a = some ⟨b, off, none⟩ ∧ b < hi ∧ ∀ i, i < l.length → w.cell? ⟨b, off + i * 5, none⟩ = some (.int .i64 (sl l i).x) ∧ w.cell? ⟨b, off + i * 5 + 1, none⟩ = some (.int .i64 (sl l i).m) ∧
    w.cell? ⟨b, off + i * 5 + 2, none⟩ = some (.int .i64 (sl l i).s) ∧ w.cell? ⟨b, off + i * 5 + 3, none⟩ = some (.bool (sl l i).i) ∧ w.cell? ⟨b, off + i * 5 + 4, none⟩ = some (.bool (sl l i).o)
theorem Srcs.below {w w' : World} {hi c : Nat} {a : Option Addr} {l : List Src} (h : Srcs w hi a c l) (hb : Below hi w w') : Srcs w' hi a c l :=
  ⟨h.cap, h.big, h.lies.imp id fun ⟨b, off, ha, hlt, hc⟩ => ⟨b, off, ha, hlt, fun i hi' => by
    obtain ⟨h0, h1, h2, h3, h4⟩ := hc i hi'
    exact ⟨(hb.cell (p := ⟨b, off + i * 5, none⟩) hlt).trans h0, (hb.cell (p := ⟨b, off + i * 5 + 1, none⟩) hlt).trans h1, (hb.cell (p := ⟨b, off + i * 5 + 2, none⟩) hlt).trans h2, (hb.cell (p := ⟨b, off + i * 5 + 3, none⟩) hlt).trans h3, (hb.cell (p := ⟨b, off + i * 5 + 4, none⟩) hlt).trans h4⟩⟩⟩
theorem Srcs.none_ (w : World) (hi : Nat) : Srcs w hi none 0 [] := ⟨Nat.le_refl _, by omega, .inl rfl⟩

set_option maxHeartbeats 2000000 in
set_option maxRecDepth 100000 in
theorem specAllM_any (a : Option Addr) (n c : Nat) (l : List Src) (last : Int) (hi : Nat) (w : World) (hr : Srcs w hi a c l) (hn : n = l.length) (hB : hi ≤ w.heap.size) :
    Calls Try.prog 13 #[.slice a n c, .int .i64 last] w fun e w' => e = .returned (.int .i64 (allM l last)) ∧ Below w.heap.size w w' := by
  subst hn
  have hc1 := hr.cap
  have hc2 := hr.big
  have HR := Lib.hid hr
  have HM := Lib.hid (specMark_any last)
  clear hr
  cases hm : isMk last with
  | false =>
    rw [allM_no1 hm]
    rw [hm] at HM
    clear hm
    go_enter Try.func13, Try.ntmps13
    go_wp2_with fail
    refine (HM.out _).mono ?_
    rintro e w' ⟨rfl, rfl⟩
    go_wp2
    go_ret
    exact ⟨rfl, Below.refl _ _⟩
  | true =>
    rw [hm] at HM
    by_cases h300 : l.length ≤ 300
    · have hlt300 : ¬ (300 < l.length) := by omega
      have HMK := Lib.hid hm
      clear hm
      go_enter Try.func13, Try.ntmps13
      go_wp2_with fail
      refine (HM.out _).mono ?_
      rintro e w' ⟨rfl, rfl⟩
      go_wp2
      go_loopw [5, 6] (fun v i wr => ∃ k : Nat, k ≤ l.length ∧ i = .int .i64 k ∧ v = .int .i64 (lsM l k) ∧ okTo l k ∧ Below w.heap.size w wr) (fun _ i _ => l.length - (intOf i).toNat)
      case atStart => exact ⟨0, Nat.zero_le _, rfl, rfl, fun i hi => absurd hi (by omega), Below.refl _ _⟩
      case round =>
        obtain ⟨k, hk, rfl, rfl, hok, hb⟩ := hrel
        have hsz := hb.size
        have HB := Lib.hid hb
        have HK := Lib.hid hok
        by_cases hlt : k < l.length
        · obtain ⟨b, off, rfl, hbh, hcell⟩ := (HR.out.below (hb.mono hB)).lies.resolve_left (by intro h; subst h; simp at hlt)
          obtain ⟨q0, q1, q2, q3, q4⟩ := hcell k hlt
          have HC : Hid (∀ W : World, Below w.heap.size w W → W.cell? ⟨b, off + k * 5, none⟩ = some (.int .i64 (sl l k).x) ∧ W.cell? ⟨b, off + k * 5 + 1, none⟩ = some (.int .i64 (sl l k).m) ∧
            W.cell? ⟨b, off + k * 5 + 2, none⟩ = some (.int .i64 (sl l k).s) ∧ W.cell? ⟨b, off + k * 5 + 3, none⟩ = some (.bool (sl l k).i) ∧ W.cell? ⟨b, off + k * 5 + 4, none⟩ = some (.bool (sl l k).o)) := Lib.hid (fun W hW => by
            obtain ⟨b', off', he, _, hc'⟩ := (HR.out.below (hW.mono hB)).lies.resolve_left (by intro h; subst h; simp at hlt)
            injection he with he
            injection he with e1 e2
            subst e1 e2
            exact hc' k hlt)
          have HSO := Lib.hid (specSrcOk_any (sl l k))
          have HT := Lib.hid (fun h h2 => lsM_take (l := l) (k := k) h h2)
          have HI := Lib.hid (fun h => lsM_idle (l := l) (k := k) h)
          have HO := Lib.hid (fun h2 => lsM_more (l := l) (k := k) h2)
          have HN3 := Lib.hid (fun h => allM_no3 (last := last) hlt h)
          have HST := Lib.hid (fun h => okTo_step (l := l) (k := k) hok h)
          have bd := lsM_bd hok
          have hlt' : (k : Int) < (l.length : Int) := by omega
          clear hcell hb hok
          generalize sl l k = S at q0 q1 q2 q3 q4 HSO HT HI HO HN3 HST HC
          obtain ⟨x, m, s, i, o⟩ := S
          simp only at q0 q1 q2 q3 q4 HC
          cases hs : sOk ⟨x, m, s, i, o⟩ with
          | false =>
            have e9 := HN3.out hs
            have HE := Lib.hid e9
            rw [hs] at HSO
            clear hs e9
            go_wp2_with fail
            refine (HSO.out _).mono ?_
            rintro e w1 ⟨rfl, hb⟩
            have HB1 := Lib.hid (HB.out.trans (hb.mono hsz))
            clear hb
            go_wp2
            go_ret
            exact ⟨by rw [HE.out]; rfl, HB1.out⟩
          | true =>
            have HST2 := Lib.hid (HST.out hs)
            rw [hs] at HSO
            clear hs
            cases o with
            | false =>
              have HE := Lib.hid (HI.out rfl)
              go_wp2_with fail
              refine (HSO.out _).mono ?_
              rintro e w1 ⟨rfl, hb⟩
              have HB1 := Lib.hid (HB.out.trans (hb.mono hsz))
              obtain ⟨p0, p1, p2, p3, p4⟩ := HC.out w1 HB1.out
              have l1 := hb.size
              clear hb q0 q1 q2 q3 q4
              go_wp2
              go_roundw
              case rel => exact ⟨k + 1, by omega, by go_num, by rw [HE.out], HST2.out, HB1.out⟩
              case measure => simp [intOf]; omega
            | true =>
              cases i with
              | true =>
                have HE := Lib.hid (HI.out rfl)
                go_wp2_with fail
                refine (HSO.out _).mono ?_
                rintro e w1 ⟨rfl, hb⟩
                have HB1 := Lib.hid (HB.out.trans (hb.mono hsz))
                obtain ⟨p0, p1, p2, p3, p4⟩ := HC.out w1 HB1.out
                have l1 := hb.size
                clear hb q0 q1 q2 q3 q4
                go_wp2
                go_roundw
                case rel => exact ⟨k + 1, by omega, by go_num, by rw [HE.out], HST2.out, HB1.out⟩
                case measure => simp [intOf]; omega
              | false =>
                by_cases hm2 : m < lsM l k
                · have HE := Lib.hid (HT.out rfl hm2)
                  go_wp2_with fail
                  refine (HSO.out _).mono ?_
                  rintro e w1 ⟨rfl, hb⟩
                  have HB1 := Lib.hid (HB.out.trans (hb.mono hsz))
                  obtain ⟨p0, p1, p2, p3, p4⟩ := HC.out w1 HB1.out
                  have l1 := hb.size
                  clear hb q0 q1 q2 q3 q4
                  go_wp2
                  go_roundw
                  case rel => exact ⟨k + 1, by omega, by go_num, by rw [HE.out], HST2.out, HB1.out⟩
                  case measure => simp [intOf]; omega
                · have HE := Lib.hid (HO.out hm2)
                  go_wp2_with fail
                  refine (HSO.out _).mono ?_
                  rintro e w1 ⟨rfl, hb⟩
                  have HB1 := Lib.hid (HB.out.trans (hb.mono hsz))
                  obtain ⟨p0, p1, p2, p3, p4⟩ := HC.out w1 HB1.out
                  have l1 := hb.size
                  clear hb q0 q1 q2 q3 q4
                  go_wp2
                  go_roundw
                  case rel => exact ⟨k + 1, by omega, by go_num, by rw [HE.out], HST2.out, HB1.out⟩
                  case measure => simp [intOf]; omega
        · obtain rfl : k = l.length := by omega
          have bd := lsM_bd hok
          have HL := Lib.hid (fun h4 => allM_last HMK.out h300 hok h4)
          have HS := Lib.hid (fun h4 h5 => allM_least HMK.out h300 hok h4 h5)
          clear hok hb
          by_cases h4 : 1000000 < lsM l l.length
          · have HE := Lib.hid (HL.out (.inl h4))
            go_wp2
            go_ret
            exact ⟨by rw [HE.out]; rfl, HB.out⟩
          · by_cases h5 : lsM l l.length < last
            · have HE := Lib.hid (HL.out (.inr h5))
              go_wp2
              go_ret
              exact ⟨by rw [HE.out]; rfl, HB.out⟩
            · have HE := Lib.hid (HS.out h4 h5)
              go_wp2
              go_ret
              exact ⟨by rw [HE.out]; rfl, HB.out⟩
    · have hgt : 300 < l.length := by omega
      rw [allM_no2 h300]
      clear h300 hm
      go_enter Try.func13, Try.ntmps13
      go_wp2_with fail
      refine (HM.out _).mono ?_
      rintro e w' ⟨rfl, rfl⟩
      go_wp2
      go_ret
      exact ⟨rfl, Below.refl _ _⟩
end Go.Proofs.Ytcjmigjkjepkdaa
