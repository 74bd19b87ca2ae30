/- The contract of spec.l01Read: what a word reads as. -/
import Derived.Test.YtnfhlfbkdhpacaaDoorPlainRead
import Derived.Test.YtnfhlfbkdhpacaaDoorNum
import Derived.Test.YtnfhlfbkdhpacaaDoorTick1
import Derived.WalkSpells
import Derived.IntWalk
namespace Go.Proofs.YtnfhlfbkdhpacaaDoor
open Go.RowKit

/-- What a read of a word ends in. -/
def ReadPost (l : List UInt8) (w : World) (e : Ending) (w' : World) : Prop := ∃ v ok, e = .returned (.tuple #[.int .i64 v, .bool ok]) ∧ ReadIs l v ok ∧ Below w.heap.size w w'

set_option maxRecDepth 100000 in
set_option maxHeartbeats 1000000 in
theorem read_nosign (c : UInt8) (r : List UInt8) (hl : (c :: r).length ≤ 1048576) (hc : c.toNat ≠ 45) (w : World) :
    Calls Tryd.prog 44 #[.string (str (c :: r))] w (ReadPost (c :: r) w) := by
  have h0b : 0 < (str (c :: r)).size := by rw [str_size]; simp
  have hc0 : ((((str (c :: r))[0]'h0b).toNat : Int) == 45) = false := by
    rw [str_get _ 0 (by simp) h0b]; simp; omega
  have hpos : 0 < (c :: r).length := by simp
  obtain ⟨l, hle⟩ : ∃ l, l = c :: r := ⟨_, rfl⟩
  have hbad := read_no_plain c r hc
  rw [← hle] at hl h0b hbad hpos
  have hc1 : ((((str l)[0]'h0b).toNat : Int) == 45) = false := by subst hle; exact hc0
  have HB := Lib.hid hbad
  rw [← hle]
  clear hc0 hle hbad
  by_cases h10 : l.length ≤ 10
  · have hin : inB (l.length : Int) 1 10 = true := inB_yes (by omega) (by omega)
    go_enter Tryd.func44, Tryd.ntmps44
    go_wp2_with (go_at_call 37; refine (specIn_any _ _ _ _).mono ?_; rintro e w' ⟨rfl, rfl⟩)
    go_loop [5, 6] (fun x i => ∃ k : Nat, k ≤ l.length ∧ i = .int .i64 k ∧ x = .int .i64 (val 0 (l.take k) : Int) ∧ digTo l k) (fun _ i => l.length - (intOf i).toNat)
    case atStart => exact ⟨0, Nat.zero_le _, rfl, rfl, digTo_zero l⟩
    case round =>
      obtain ⟨k, hk, rfl, rfl, hdig⟩ := hrel
      have hv := val_ten l k (by omega) hdig
      by_cases hlt : k < l.length
      · have hkb : k < (str l).size := by rw [str_size]; exact hlt
        have hge := str_get l k hlt hkb
        have HG := Lib.hid hge
        clear hge
        by_cases h48 : ((((str l)[k]'hkb).toNat : Int)) < 48
        · have HX := Lib.hid (HB.out (.inr ⟨l[k]'hlt, List.getElem_mem hlt, fun hd => by unfold isDig at hd; rw [← HG.out] at hd; omega⟩))
          go_wp2
          go_ret2
          exact ⟨0, false, rfl, HX.out, Below.refl _ _⟩
        · by_cases h57 : (57 : Int) < (((str l)[k]'hkb).toNat : Int)
          · have HX := Lib.hid (HB.out (.inr ⟨l[k]'hlt, List.getElem_mem hlt, fun hd => by unfold isDig at hd; rw [← HG.out] at hd; omega⟩))
            go_wp2
            go_ret2
            exact ⟨0, false, rfl, HX.out, Below.refl _ _⟩
          · have HD := Lib.hid (digTo_succ l k hlt hdig (by unfold isDig; rw [← HG.out]; omega))
            have HV := Lib.hid (val_succ l k hlt)
            go_wp2
            go_round
            case rel => exact ⟨k + 1, by omega, by go_num, by rw [HV.out, ← HG.out]; go_num, HD.out⟩
            case measure => simp [intOf]; omega
      · obtain rfl : k = l.length := by omega
        rw [List.take_length] at hv ⊢
        have HR := Lib.hid (read_plain l (by unfold digTo at hdig; rwa [List.take_length] at hdig) hv)
        clear hdig
        generalize val 0 l = v at *
        go_wp2_with (go_at_call 87; refine (num_any _ (by omega) (by omega) _).mono ?_; rintro e w' ⟨rfl, hb1⟩)
        go_ret2
        exact ⟨v, _, rfl, by rw [beq_str]; exact HR.out, hb1⟩
  · have hin : inB (l.length : Int) 1 10 = false := inB_no (by omega)
    have HX := Lib.hid (HB.out (.inl (by omega)))
    go_enter Tryd.func44, Tryd.ntmps44
    go_wp2_with (go_at_call 37; refine (specIn_any _ _ _ _).mono ?_; rintro e w' ⟨rfl, rfl⟩)
    go_ret2
    exact ⟨0, false, rfl, HX.out, Below.refl _ _⟩

set_option maxRecDepth 100000 in
set_option maxHeartbeats 1000000 in
theorem read_sign (l : List UInt8) (hl : l.length ≤ 1048575) (w : World) :
    Calls Tryd.prog 44 #[.string (str (45 :: l))] w (ReadPost (45 :: l) w) := by
  have h0b : 0 < (str (45 :: l)).size := by rw [str_size]; simp
  have hc0 : ((((str (45 :: l))[0]'h0b).toNat : Int) == 45) = true := by rw [str_get _ 0 (by simp) h0b]; rfl
  have HB := Lib.hid (read_no_minus l)
  have hex : (str (45 :: l)).extract 1 (str (45 :: l)).size = str l := by rw [extract_str, str_size]; simp [piece]
  have hex2 : (str (45 :: l)).extract 1 (l.length + 1) = str l := by rw [extract_str]; simp [piece]
  by_cases h10 : 1 ≤ l.length ∧ l.length ≤ 10
  · have hin : inB (l.length : Int) 1 10 = true := inB_yes (by omega) (by omega)
    go_enter Tryd.func44, Tryd.ntmps44
    go_wp2_with (go_at_call 37; refine (specIn_any _ _ _ _).mono ?_; rintro e w' ⟨rfl, rfl⟩)
    go_loop [5, 6] (fun x i => ∃ k : Nat, k ≤ l.length ∧ i = .int .i64 k ∧ x = .int .i64 (val 0 (l.take k) : Int) ∧ digTo l k) (fun _ i => l.length - (intOf i).toNat)
    case atStart => exact ⟨0, Nat.zero_le _, rfl, rfl, digTo_zero l⟩
    case round =>
      obtain ⟨k, hk, rfl, rfl, hdig⟩ := hrel
      have hv := val_ten l k (by omega) hdig
      by_cases hlt : k < l.length
      · have hkb : k < (str l).size := by rw [str_size]; exact hlt
        have hge := str_get l k hlt hkb
        have HG := Lib.hid hge
        clear hge
        by_cases h48 : ((((str l)[k]'hkb).toNat : Int)) < 48
        · have HX := Lib.hid (HB.out (.inr (.inr ⟨l[k]'hlt, List.getElem_mem hlt, fun hd => by unfold isDig at hd; rw [← HG.out] at hd; omega⟩)))
          go_wp2
          go_ret2
          exact ⟨0, false, rfl, HX.out, Below.refl _ _⟩
        · by_cases h57 : (57 : Int) < (((str l)[k]'hkb).toNat : Int)
          · have HX := Lib.hid (HB.out (.inr (.inr ⟨l[k]'hlt, List.getElem_mem hlt, fun hd => by unfold isDig at hd; rw [← HG.out] at hd; omega⟩)))
            go_wp2
            go_ret2
            exact ⟨0, false, rfl, HX.out, Below.refl _ _⟩
          · have HD := Lib.hid (digTo_succ l k hlt hdig (by unfold isDig; rw [← HG.out]; omega))
            have HV := Lib.hid (val_succ l k hlt)
            go_wp2
            go_round
            case rel => exact ⟨k + 1, by omega, by go_num, by rw [HV.out, ← HG.out]; go_num, HD.out⟩
            case measure => simp [intOf]; omega
      · obtain rfl : k = l.length := by omega
        rw [List.take_length] at hv ⊢
        have HR := Lib.hid (read_minus l (by unfold digTo at hdig; rwa [List.take_length] at hdig) hv)
        clear hdig
        generalize val 0 l = v at *
        go_wp2_with (go_at_call 87; refine (num_any _ (by omega) (by omega) _).mono ?_; rintro e w' ⟨rfl, hb1⟩)
        go_ret2
        exact ⟨-(v : Int), _, rfl, by rw [beq_str]; exact HR.out, hb1⟩
  · have hin : inB (l.length : Int) 1 10 = false := inB_no (by omega)
    have HX := Lib.hid (HB.out (by
      by_cases h0 : l.length = 0
      · exact .inl (List.length_eq_zero_iff.1 h0)
      · exact .inr (.inl (by omega))))
    clear h10
    go_enter Tryd.func44, Tryd.ntmps44
    go_wp2_with (go_at_call 37; refine (specIn_any _ _ _ _).mono ?_; rintro e w' ⟨rfl, rfl⟩)
    go_ret2
    exact ⟨0, false, rfl, HX.out, Below.refl _ _⟩

theorem read_any (l : List UInt8) (hl : l.length ≤ 1048575) (w : World) : Calls Tryd.prog 44 #[.string (str l)] w (ReadPost l w) := by
  cases l with
  | nil =>
    have hin : inB 0 1 10 = false := rfl
    have HX := Lib.hid read_no_nil
    go_enter Tryd.func44, Tryd.ntmps44
    go_wp2_with (go_at_call 37; refine (specIn_any _ _ _ _).mono ?_; rintro e w' ⟨rfl, rfl⟩)
    go_ret2
    exact ⟨0, false, rfl, HX.out, Below.refl _ _⟩
  | cons c r =>
    by_cases hc : c.toNat = 45
    · obtain rfl : c = 45 := UInt8.toNat_inj.1 hc
      exact read_sign r (by simp at hl; omega) w
    · exact read_nosign c r (by omega) hc w

end Go.Proofs.YtnfhlfbkdhpacaaDoor
