/- The contracts of spec.ParseTick and impl.ParseTick: both tell the same of a text. -/
import Derived.Test.YtghbdagpclhbfaaDoorPlainParse
import Derived.Test.YtghbdagpclhbfaaDoorText
import Derived.Test.YtghbdagpclhbfaaDoorParts
import Derived.Test.YtghbdagpclhbfaaDoorRead
import Derived.Deep.QuietTactic
import Derived.BigQuiet
namespace Go.Proofs.YtghbdagpclhbfaaDoor
open Go.RowKit

/-- What a read of a text ends in. -/
def ParsePost (l : List UInt8) (w : World) (e : Ending) (w' : World) : Prop := ∃ v ok, e = .returned (.tuple #[.int .i64 v, .bool ok]) ∧ ParseIs l v ok ∧ Below w.heap.size w w'

set_option maxRecDepth 100000 in
set_option maxHeartbeats 1000000 in
theorem implParse_any (l : List UInt8) (hl : l.length ≤ 1048576) (w : World) (hp : Pow w) (he : Errs w) (hm : MaxLen w) :
    Calls Tryd.prog 14 #[.string (str l)] w (ParsePost l w) := by
  have hlen : (Lib.replace l [46] [] 1).length ≤ 1048576 := Nat.le_trans (replace_len l) hl
  have HY := Lib.hid (impl_yes (l := l))
  have HN := Lib.hid (impl_no (l := l))
  have HB := Lib.hid (impl_bad (l := l))
  have HM := Lib.hid hm
  clear hm
  go_enter Tryd.func14, Tryd.ntmps14
  go_wp2_with fail
  refine (replace_any l [46] [] 1 (by omega) (by simp) rfl _ HM.out).mono ?_
  rintro e w1 ⟨rfl, hb1⟩
  generalize Lib.replace l [46] [] 1 = rl at *
  go_wp2_with fail
  refine (atoi_any rl hlen _ (he.below hb1)).mono ?_
  rintro e w2 ⟨hpost, hb2⟩
  have hp2 := (hp.below hb1).below hb2
  have hb12 := hb1.trans (hb2.mono hb1.size)
  rcases hpost with ⟨v, hv, rfl⟩ | ⟨hbad, v, t, p, rfl⟩
  · have HV := Lib.hid hv
    clear hv
    by_cases heq : tickText v = l
    · have hcmp : ((str (tickText v)).toList == (str l).toList) = true := by rw [beq_str]; simp [heq]
      have HE := Lib.hid heq
      clear heq
      go_wp2_with (go_at_call 30; refine (text_any _ _ hp2).mono ?_; rintro e w' ⟨rfl, hb3⟩)
      go_ret2
      exact ⟨v, true, rfl, HY.out v HV.out HE.out, hb12.trans (hb3.mono hb12.size)⟩
    · have hcmp : ((str (tickText v)).toList == (str l).toList) = false := by rw [beq_str]; simp [heq]
      have HE := Lib.hid heq
      clear heq
      go_wp2_with (go_at_call 30; refine (text_any _ _ hp2).mono ?_; rintro e w' ⟨rfl, hb3⟩)
      go_ret2
      exact ⟨0, false, rfl, HN.out v HV.out HE.out, hb12.trans (hb3.mono hb12.size)⟩
  · have HV := Lib.hid hbad
    clear hbad
    go_wp2
    go_ret2
    exact ⟨0, false, rfl, HB.out HV.out, hb12⟩

set_option maxRecDepth 100000 in
set_option maxHeartbeats 1000000 in
theorem specParse_any (l : List UInt8) (hl : l.length ≤ 1048576) (w : World) :
    Calls Tryd.prog 20 #[.string (str l)] w (ParsePost l w) := by
  by_cases h12 : 12 < l.length
  · have HX := Lib.hid (parse_no (no_long h12))
    go_enter Tryd.func20, Tryd.ntmps20
    go_wp2
    go_ret2
    exact ⟨0, false, rfl, HX.out, Below.refl _ _⟩
  go_enter Tryd.func20, Tryd.ntmps20
  go_wp2_with fail
  refine (parts_any l 46 hl _).mono ?_
  rintro e w1 ⟨v, rfl, hown, hb1⟩
  generalize hps : cutAll 46 l = ps at hown
  have HP := Lib.hid hps
  clear hps
  by_cases h2 : ps.length = 2
  · obtain ⟨p0, p1, hp⟩ : ∃ p0 p1, ps = [p0, p1] := by
      match ps, h2 with
      | [a, b], _ => exact ⟨a, b, rfl⟩
    rw [hp] at hown HP
    clear h2
    have hex : ∃ g cap, v = .slice (some ⟨g, 0, none⟩) 2 cap ∧ g < w1.heap.size := by
      rcases hown.2 with ⟨_, h0⟩ | ⟨g, cap, cur, hv, _, hg, _⟩
      · exact absurd h0 (by simp)
      · exact ⟨g, cap, hv, (Array.getElem?_eq_some_iff.1 hg).1⟩
    obtain ⟨g, cap, hv, hg⟩ := hex
    rw [hv] at hown ⊢
    have hc0 : w1.cell? ⟨g, 0, none⟩ = some (.string (str p0)) := hown.cellAt 0 (by simp)
    have hc1 : w1.cell? ⟨g, 1, none⟩ = some (.string (str p1)) := hown.cellAt 1 (by simp)
    clear hown hv hp
    by_cases h3 : p1.length = 3
    · have hb3 : ((p1.length : Int) == 3) = true := by simp; omega
      have h3a : p1.length ≤ 3 := by omega
      have h3b : 3 ≤ p1.length := by omega
      have H3 := Lib.hid h3
      clear h3
      have hp0 : p0.length ≤ 1048575 := by
        have e := HP.out
        have : p0.length ≤ (cutAll 46 l).flatten.length := by rw [e]; simp
        have := cutAll_flat 46 l
        omega
      go_wp2_with fail
      refine (read_any p0 hp0 _).mono ?_
      rintro e w2 ⟨hi, ok, rfl, hread, hb2⟩
      have hc1' : w2.cell? ⟨g, 1, none⟩ = some (.string (str p1)) := (hb2.cell (p := ⟨g, 1, none⟩) hg).trans hc1
      have hb12 := hb1.trans (hb2.mono hb1.size)
      have hr1 := hread.1
      have hr2 := hread.2.1
      have HR := Lib.hid hread
      clear hc0 hc1 hread
      cases ok with
      | false =>
        have HX := Lib.hid (parse_no (no_read HP.out HR.out))
        go_wp2
        go_ret2
        exact ⟨0, false, rfl, HX.out, hb12⟩
      | true =>
        go_wp2
        go_loop [7, 8] (fun x i => ∃ k : Nat, k ≤ 3 ∧ i = .int .i64 k ∧ x = .int .i64 (val 0 (p1.take k) : Int) ∧ digTo p1 k) (fun _ i => 3 - (intOf i).toNat)
        case atStart => exact ⟨0, Nat.zero_le _, rfl, rfl, digTo_zero p1⟩
        case round =>
          obtain ⟨k, hk, rfl, rfl, hdig⟩ := hrel
          have hv := val_ten p1 k (by omega) hdig
          by_cases hlt : k < 3
          · have hkb : k < (str p1).size := by rw [str_size]; omega
            have hkl : k < p1.length := by omega
            have HG := Lib.hid (str_get p1 k hkl hkb)
            by_cases h48 : ((((str p1)[k]'hkb).toNat : Int)) < 48
            · have HX := Lib.hid (parse_no (no_digit HP.out (List.getElem_mem hkl) (fun hd => by unfold isDig at hd; rw [← HG.out] at hd; omega)))
              go_wp2
              go_ret2
              exact ⟨0, false, rfl, HX.out, hb12⟩
            · by_cases h57 : (57 : Int) < (((str p1)[k]'hkb).toNat : Int)
              · have HX := Lib.hid (parse_no (no_digit HP.out (List.getElem_mem hkl) (fun hd => by unfold isDig at hd; rw [← HG.out] at hd; omega)))
                go_wp2
                go_ret2
                exact ⟨0, false, rfl, HX.out, hb12⟩
              · have HD := Lib.hid (digTo_succ p1 k hkl hdig (by unfold isDig; rw [← HG.out]; omega))
                have HV := Lib.hid (val_succ p1 k hkl)
                go_wp2
                go_round
                case rel => exact ⟨k + 1, by omega, by go_num, by rw [HV.out, ← HG.out]; go_num, HD.out⟩
                case measure => simp [intOf]; omega
          · obtain rfl : k = 3 := by omega
            rw [List.take_of_length_le (by omega)] at hv ⊢
            have HY := Lib.hid (fun h => parse_yes (l := l) (t := 1000 * hi + (val 0 p1 : Int)) (by rw [HP.out]; rfl) h)
            have HN := Lib.hid (fun h => parse_no (parse_end HP.out HR.out h))
            clear hdig
            generalize val 0 p1 = lo at *
            by_cases heq : tickText (1000 * hi + (lo : Int)) = l
            · have hcmp : ((str (tickText (1000 * hi + (lo : Int)))).toList == (str l).toList) = true := by rw [beq_str]; simp [heq]
              have HE := Lib.hid heq
              clear heq
              go_wp2_with (go_at_call 19; refine (specText_any _ _).mono ?_; rintro e w' ⟨rfl, hb3⟩)
              go_ret2
              exact ⟨_, true, rfl, HY.out HE.out, hb12.trans (hb3.mono hb12.size)⟩
            · have hcmp : ((str (tickText (1000 * hi + (lo : Int)))).toList == (str l).toList) = false := by rw [beq_str]; simp [heq]
              have HE := Lib.hid heq
              clear heq
              go_wp2_with (go_at_call 19; refine (specText_any _ _).mono ?_; rintro e w' ⟨rfl, hb3⟩)
              go_ret2
              exact ⟨0, false, rfl, HN.out HE.out, hb12.trans (hb3.mono hb12.size)⟩
    · have hb3 : ((p1.length : Int) == 3) = false := by simp; omega
      have HX := Lib.hid (parse_no (no_three HP.out h3))
      go_wp2
      go_ret2
      exact ⟨0, false, rfl, HX.out, hb1⟩
  · have hex : ∃ a cap, v = .slice a ps.length cap := by
      rcases hown.2 with ⟨hv, h0⟩ | ⟨g, cap, cur, hv, _⟩
      · exact ⟨none, 0, by rw [hv, h0]⟩
      · exact ⟨_, cap, hv⟩
    obtain ⟨a, cap, hv⟩ := hex
    rw [hv]
    have HX := Lib.hid (parse_no (no_parts (l := l) (by rw [HP.out]; exact h2)))
    have h2i : ¬ (ps.length : Int) = 2 := by omega
    clear hown hv h2
    go_wp2
    go_ret2
    exact ⟨0, false, rfl, HX.out, hb1⟩

end Go.Proofs.YtghbdagpclhbfaaDoor
