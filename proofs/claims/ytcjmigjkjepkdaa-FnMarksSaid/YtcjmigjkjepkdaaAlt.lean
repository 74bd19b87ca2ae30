/- laws.alt, laws.big, and what an argument that is a code is. -/
import Derived.Test.YtcjmigjkjepkdaaBytesArg
import Derived.Test.YtcjmigjkjepkdaaPlaySrcI
import Derived.Test.YtcjmigjkjepkdaaDrawOps
namespace Go.Proofs.Ytcjmigjkjepkdaa
open Go.RowKit Go.ChangeShapes Go.WideShapes Go.ChangeAt

theorem infoU8 : (Try.prog.info? 5).map (fun i => (i.zero, i.size, i.bytes)) = some (some (.int .u8 0), 1, 1) := by kernel_rfl
theorem info_u8 (h : (Try.prog.info? 5).map (fun i => (i.zero, i.size, i.bytes)) = some (some (.int .u8 0), 1, 1)) : ∃ i0, Try.prog.info? 5 = some i0 ∧ i0.zero = some (.int .u8 0) ∧ i0.size = 1 ∧ i0.bytes = 1 := by
  cases hi : Try.prog.info? 5 with
  | none => rw [hi] at h; cases h
  | some i => rw [hi] at h; simp at h; exact ⟨i, rfl, h.1, h.2.1, h.2.2⟩
theorem own_bytes {w : World} {lo n c T : Nat} {a : Option Addr} {xs : List Int} (h : w.ownsRow lo T 1 (.slice a n c) n (xs.map (Value.int .u8))) (hn : n = xs.length) (hx : ∀ x ∈ xs, 0 ≤ x ∧ x ≤ 255) (hs : n ≤ 1048576) : Bytes w w.heap.size a n := by
  refine ⟨hs, ?_⟩
  rcases h.2 with ⟨he, h0⟩ | ⟨g, cap, cur, he, _, hh, hc, hm, _⟩
  · exact .inl h0
  · injection he with ha _ _
    subst ha
    refine .inr ⟨g, 0, rfl, (Array.getElem?_eq_some_iff.1 hh).1, fun i hi => ?_⟩
    have hi' : i < xs.length := by omega
    have k := h.cellAt i (by omega)
    rw [List.getElem?_map, List.getElem?_eq_getElem hi'] at k
    exact ⟨xs[i], (hx _ (List.getElem_mem hi')).1, (hx _ (List.getElem_mem hi')).2, by rw [Nat.zero_add]; exact k⟩
def AltPost (w : World) (e : Ending) (w' : World) : Prop :=
  ∃ (a : Option Addr) (n c : Nat), e = .returned (.slice a n c) ∧ Bytes w' w'.heap.size a n ∧ Below w.heap.size w w'
set_option maxHeartbeats 2000000 in
set_option maxRecDepth 100000 in
theorem alt_any (a : Option Addr) (len cap : Nat) (w : World) (hb : Bytes w w.heap.size a len) : Calls Try.prog 11 #[.slice a len cap, .int .i64 1] w (AltPost w) := by
  obtain ⟨i0, hi0, hz0, hz1, hz2⟩ := info_u8 infoU8
  have hsm := hb.small
  have HB := Lib.hid hb
  clear hb
  go_enter Try.func11, Try.ntmps11
  go_wp2
  go_loopw [5, 6] (fun v iv wr => ∃ (i : Nat) (xs : List Int) (a' : Option Addr) (c' : Nat), i ≤ len ∧ i ≤ 3000 ∧ xs.length = i + 1 ∧ v = .slice a' (i + 1) c' ∧ iv = .int .i64 i ∧ (∀ x ∈ xs, 0 ≤ x ∧ x ≤ 255) ∧ wr.ownsRow w.heap.size 5 1 (.slice a' (i + 1) c') (i + 1) (xs.map (Value.int .u8)) ∧ Below w.heap.size w wr)
    (fun _ iv _ => 3001 - (intOf iv).toNat)
  case atStart => exact ⟨0, [1], _, 1, by omega, by omega, rfl, rfl, rfl, by intro x hx; simp at hx; omega, own_one w 5 .u8 1 _ _ rfl (Nat.le_refl _), (Below.refl _ _).alloc (Nat.le_refl _) _⟩
  case round =>
    obtain ⟨i, xs, a', c', hil, hi3, hxl, rfl, rfl, hx, hown, hbel⟩ := hrel
    have HX := Lib.hid hx
    have HO := Lib.hid hown
    have HE := Lib.hid hbel
    have HL := Lib.hid hxl
    have hsz := hbel.size
    clear hx hown hbel hxl
    by_cases hlt : i < len
    · have hlt' : (i : Int) < (len : Int) := by omega
      by_cases h3 : i < 3000
      · have h3' : (i : Int) < 3000 := by omega
        obtain ⟨b, off, rfl, hbl, hc⟩ := HB.out.lies.resolve_left (by omega)
        obtain ⟨x, x0, x1, hcx⟩ := hc i hlt
        have hcw : wr.cell? ⟨b, off + i, none⟩ = some (.int .u8 x) := (HE.out.cell (p := ⟨b, off + i, none⟩) hbl).trans hcx
        clear hc hcx
        go_wp2_with (at_builtin; refine wpList_append_own _ rfl _ _ 22 rfl w.heap.size 5 i0 (.int .u8 0) 1 1 Try.underlying22 hi0 hz0 hz1 hz2 rfl (by decide) _ _ _ rfl (HO.out.alloc _) ⟨_, 0, none⟩ 1 1 [.int .u8 x] rfl rfl (news_at_ (by simp)) (by intro u hu; simp at hu; subst hu; rfl) ?c3 ?c4 ?c5 ?_)
        case c3 => unfold maxLen; omega
        case c4 => omega
        case c5 => simp; omega
        intro v' w9 hown' hg9 _
        obtain ⟨a2, c2, rfl⟩ := owns_shape hown'
        have R9 := Lib.hid hown'
        have B9 := Lib.hid ((HE.out.alloc hsz (.cells #[.int .u8 x] 5)).trans (below_own (HO.out.alloc (.cells #[.int .u8 x] 5)) hg9 (by simp; omega)))
        clear hown' hg9
        go_wp2
        go_roundw
        case rel => exact ⟨i + 1, xs ++ [x], a2, c2, by omega, by omega, by rw [List.length_append, HL.out]; rfl, rfl, by go_num, fun y hy => by
          rcases List.mem_append.1 hy with h | h
          · exact HX.out y h
          · rw [List.mem_singleton] at h; omega, by rw [List.map_append]; exact R9.out, B9.out⟩
        case measure => simp [intOf] <;> omega
      · have h3' : ¬ ((i : Int) < 3000) := by omega
        go_wp2
        go_ret
        exact ⟨a', _, c', rfl, own_bytes HO.out HL.out.symm HX.out (by omega), HE.out⟩
    · have hlt' : ¬ ((i : Int) < (len : Int)) := by omega
      go_wp2
      go_ret
      exact ⟨a', _, c', rfl, own_bytes HO.out HL.out.symm HX.out (by omega), HE.out⟩
end Go.Proofs.Ytcjmigjkjepkdaa
