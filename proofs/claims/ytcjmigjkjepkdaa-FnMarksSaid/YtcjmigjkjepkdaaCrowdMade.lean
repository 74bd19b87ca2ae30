/- impl.crowdOf: a map of sources by their places. -/
import Derived.Test.YtcjmigjkjepkdaaCrowd
namespace Go.Proofs.Ytcjmigjkjepkdaa
open Go.RowKit Go.Maps

theorem keyI : Keyed Try.prog 3 := int_keyed Try.underlying3
theorem keyI_mk {i : Int} (h : -9223372036854775808 ≤ i ∧ i ≤ 9223372036854775807) : keyOf Try.prog 3 (.int .i64 i) = some (.int .i64 i) := keyOf_int_mk Try.underlying3 (WalkArith.wf_i64 h)
theorem run_makeMap_n {P : Program} {t k e : TypeId} (ht : P.underlying t = some (.map k e)) (n : Int) (w : World) : (Instr.makeMap t (some (.int .i64 n))).run P w = .ok (.map (some w.heap.size)) (w.alloc (.map #[] 0)) := by
  simp [Instr.makeMap, run_underlying, ht, asInt, asIntOf]
set_option maxHeartbeats 2000000 in
set_option maxRecDepth 100000 in
theorem crowdOf_any (a : Option Addr) (n c : Nat) (l : List Src) (hi : Nat) (w : World) (hr : Srcs w hi a c l) (hn : n = l.length) (h300 : l.length ≤ 300) (hB : hi ≤ w.heap.size) :
    Calls Try.prog 32 #[.slice a n c] w fun e w' => e = .returned (.map (some w.heap.size)) ∧ Below w.heap.size w w' ∧ ∃ D, w'.ownsMap Try.prog 3 srcR w.heap.size l.length D ∧ HasE D (placeF l l.length) := by
  subst hn
  have hc1 := hr.cap
  have hc2 := hr.big
  have HR := Lib.hid hr
  have hmm := fun W => run_makeMap_n Try.underlying59 (l.length : Int) W
  clear hr
  go_enter Try.func32, Try.ntmps32
  go_wp2
  go_loopw [11] (fun i wr => ∃ (k : Nat) (D : DataW Unit), k ≤ l.length ∧ i = .int .i64 k ∧ wr.ownsMap Try.prog 3 srcR w.heap.size k D ∧ HasE D (placeF l k) ∧ Below w.heap.size w wr) (fun i _ => l.length - (intOf i).toNat)
  case atStart => exact ⟨0, _, Nat.zero_le _, rfl, World.ownsMap_made _ _ _ _, HasE.none_.of_eq (placeF_zero l), (Below.refl _ _).alloc (Nat.le_refl _) _⟩
  case round =>
    obtain ⟨k, D, hk, rfl, hown, hE, hb⟩ := hrel
    have HE := Lib.hid hE
    have HB := Lib.hid hb
    have HO := Lib.hid hown
    have hlw := hown.lt
    clear hE hb hown
    by_cases hlt : k < l.length
    · have hlt' : (k : Int) < (l.length : Int) := by omega
      obtain ⟨b, off, rfl, hbh, hcell⟩ := (HR.out.below (HB.out.mono hB)).lies.resolve_left (by intro h; subst h; simp at hlt)
      obtain ⟨q0, q1, q2, q3, q4⟩ := hcell k hlt
      have HN := Lib.hid (fun (h : IsMap D) => HE.out.put h (k := .int .i64 k) trivial (sl l k) (placeF_new l k) (placeF_old l k))
      clear hcell
      obtain ⟨S, hS⟩ : ∃ S, S = sl l k := ⟨_, rfl⟩
      rw [← hS] at q0 q1 q2 q3 q4 HN
      clear hS
      obtain ⟨x, m, s, i, o⟩ := S
      simp only at q0 q1 q2 q3 q4
      have hS : Hid (srcV ⟨x, m, s, i, o⟩ = (.agg #[.int .i64 x, .int .i64 m, .int .i64 s, .bool i, .bool o])) := Lib.hid rfl
      go_wp2_with (first
        | (at_mapUpdate; refine wpList_mapUpdate_own _ rfl _ _ _ 59 rfl 3 28 keyI Try.underlying59 srcR w.heap.size k D rfl (HO.out.alloc _) (by unfold maxLen; omega) _ _ (.int .i64 k) rfl rfl (keyI_mk (by omega)) (srcD ⟨x, m, s, i, o⟩) [] (srcR_mk ⟨x, m, s, i, o⟩) ?_)
        | go_in)
      intro w1 hown1 hgrow1
      have hsz := HB.out.size
      have R1 := Lib.hid hown1
      have R2 := Lib.hid ((HB.out.alloc HB.out.size _).grown hgrow1 (Nat.le_trans HB.out.size (by simp)) (fun j hj => by cases hj; exact Nat.le_refl _))
      have R3 := Lib.hid (HN.out (by obtain ⟨es, h, _⟩ := HO.out.entries keyI; exact ⟨es, h⟩))
      clear hown1 hgrow1 q0 q1 q2 q3 q4
      go_wp2
      go_roundw
      case rel => exact ⟨k + 1, _, by omega, by go_num, R1.out, R3.out, R2.out⟩
      case measure => simp [intOf]; omega
    · have hlt' : ¬ ((k : Int) < (l.length : Int)) := by omega
      have hkl : k = l.length := by omega
      subst hkl
      go_wp2
      go_ret
      exact ⟨rfl, HB.out, D, HO.out, HE.out⟩
end Go.Proofs.Ytcjmigjkjepkdaa
