/- impl.InFlight: how many events stand in an engine's queues. -/
import Derived.Test.YtfneipdlihbbjaaInFl
import Derived.Deep.AppendLies
import Derived.Deep.AppendSrc
import Derived.Deep.Upon
import Derived.Lib.Hide
import Derived.Shelf.Abstract
namespace Go.Proofs.Ytfneipdlihbbjaa
open Go.RowKit Go.Shelf

theorem infoSM (h : (Try.prog.info? 57).map (fun i => (i.zero, i.size, i.bytes)) = some (some (.slice none 0 0), 1, 24)) : ∃ i0, Try.prog.info? 57 = some i0 ∧ i0.zero = some (.slice none 0 0) ∧ i0.size = 1 ∧ i0.bytes = 24 := by
  cases hi : Try.prog.info? 57 with
  | none => rw [hi] at h; cases h
  | some i => rw [hi] at h; simp at h; exact ⟨i, rfl, h.1, h.2.1, h.2.2⟩
theorem infoSM_ : (Try.prog.info? 57).map (fun i => (i.zero, i.size, i.bytes)) = some (some (.slice none 0 0), 1, 24) := by kernel_rfl
theorem addr_plus {b off i : Nat} : (⟨b, off, none⟩ : Addr).add i = ⟨b, off + i, none⟩ := by
  by_cases h0 : i = 0
  · subst h0; rfl
  · simp [Addr.add, h0]
/-- A queue ahead of others, as append lays them. -/
theorem append_rows {W : World} {pa qa : Option Addr} {pc qc h : Nat} {inq : List Mq} {qs : List (List Mq)} (ty : TypeId) (hM : Mqs W h pa pc inq) (hQ : HRow hdMq 1 ([] : List Mq) W h qa qc qs) (hh : h ≤ W.heap.size) (hsz : qs.length ≤ 1048576) :
    ∃ g c WB, (Builtin.append_ #[58, 58] ty #[.slice (some ⟨W.heap.size, 0, none⟩) 1 1, .slice qa qs.length qc]).run Try.prog (W.alloc (.cells #[.slice pa inq.length pc] 57)) = .ok (.slice g (1 + qs.length) c) WB ∧
      HRow hdMq 1 ([] : List Mq) WB WB.heap.size g c (inq :: qs) ∧ Below W.heap.size W WB := by
  obtain ⟨i0, hi0, hz0, hz1, hz2⟩ := infoSM infoSM_
  have hB := Blk.new W 57 #[.slice pa inq.length pc]
  have b1 := (Below.refl W.heap.size W).alloc (Nat.le_refl _) (.cells #[.slice pa inq.length pc] 57)
  have own1 : (W.alloc (.cells #[.slice pa inq.length pc] 57)).ownsRow W.heap.size 57 1 (.slice (some ⟨W.heap.size, 0, none⟩) 1 1) 1 [.slice pa inq.length pc] :=
    ⟨rfl, .inr ⟨_, 1, #[.slice pa inq.length pc], rfl, Nat.le_refl _, hB, Nat.le_refl _, by unfold maxLen; omega, rfl, rfl⟩⟩
  have hM1 := hM.below (b1.mono hh)
  cases qa with
  | none =>
    have hq0 : qs = [] := hQ.lies.resolve_right (fun ⟨b, off, he, _⟩ => by cases he)
    subst hq0
    refine ⟨_, _, _, run_append_nothing _ _ _ ty 57 i0 Try.underlying58 hi0 _ 1 1 (Nat.le_refl _) _ (Src.ofNil _ Try.underlying58 qc), ⟨by simp, by omega, .inr ⟨_, 0, rfl, hB.lt, fun i hi => ?_⟩⟩, b1⟩
    obtain rfl : i = 0 := by simpa using hi
    exact ⟨pa, pc, by rw [hB.cell]; rfl, fun q hq => absurd hq (by omega), hdMq.rd_more (x := inq) hM1 (by simp; omega)⟩
  | some ad =>
    have each : ∀ i, ∃ z : Option Addr × Nat, i < qs.length → W.cell? (ad.add i) = some (.slice z.1 (rel [] qs i).length z.2) ∧ Mqs W h z.1 z.2 (rel [] qs i) := by
      intro i
      by_cases hi : i < qs.length
      · obtain ⟨b, off, he, hb, hc⟩ := hQ.cells (by omega)
        obtain ⟨ai, ci, h1, _, h3⟩ := hc i hi
        injection he with he
        subst he
        rw [Nat.mul_one] at h1
        exact ⟨(ai, ci), fun _ => ⟨by rw [addr_plus]; exact h1, h3⟩⟩
      · exact ⟨(none, 0), fun h => absurd h hi⟩
    obtain ⟨Z, hZ⟩ := Classical.axiomOfChoice each
    have hnl : ((List.range qs.length).map fun i => Value.slice (Z i).1 (rel [] qs i).length (Z i).2).length = qs.length := by simp
    have hblk : ∀ i, i < qs.length → (ad.add i).block < W.heap.size := fun i hi => by
      obtain ⟨b, off, he, hb, hc⟩ := hQ.cells (by omega)
      injection he with he
      subst he
      rw [addr_plus]
      exact Nat.lt_of_lt_of_le hb hh
    obtain ⟨v', w', hr, h2, h3, _⟩ := run_append_own (P := Try.prog) (W.alloc (.cells #[.slice pa inq.length pc] 57)) W.heap.size 58 ty 57 i0 (.slice none 0 0) 1 24 Try.underlying58 hi0 hz0 hz1 hz2 rfl (by decide) _ 1 _ own1 ad qs.length qc
      ((List.range qs.length).map fun i => Value.slice (Z i).1 (rel [] qs i).length (Z i).2) (by simp) (fun j u hu => by
        have hj : j < qs.length := by have := (List.getElem?_eq_some_iff.1 hu).1; simpa using this
        rw [b1.cell (hblk j hj), (hZ j hj).1]
        rw [List.getElem?_map, List.getElem?_range hj] at hu
        simpa using hu) (by intro u hu; simp at hu; obtain ⟨i, _, rfl⟩ := hu; rfl) (by unfold maxLen; omega) (by omega) (by simp)
    obtain ⟨g, cap, rfl, hg, hgl⟩ := h2.form (by omega)
    have b2 : Below W.heap.size W w' := b1.trans ⟨h3.os, h3.tape, h3.output, h3.size, fun k hk => h3.block k (by simp; omega) (fun e => by simp [Value.ownBlock] at e; omega)⟩
    have hcp := ownR_cap h2
    refine ⟨_, _, _, hr, ⟨by simp; omega, hcp.2, .inr ⟨g, 0, rfl, hgl, fun i hi => ?_⟩⟩, b2⟩
    rw [Nat.mul_one, Nat.zero_add, h2.cellAt i (by simp at hi; omega)]
    cases i with
    | zero => exact ⟨pa, pc, rfl, fun q hq => absurd hq (by omega), hdMq.rd_more (x := inq) (hM.below (b2.mono hh)) (by have := b2.size; omega)⟩
    | succ i =>
      have hi' : i < qs.length := by simpa using hi
      refine ⟨(Z i).1, (Z i).2, ?_, fun q hq => absurd hq (by omega), hdMq.rd_more (x := rel [] qs i) ((hZ i hi').2.below (b2.mono hh)) (by have := b2.size; omega)⟩
      rw [rel_cons_succ]
      simp [hi', hdMq]
theorem msgIsEv_x (kd ky tm vl mr : Int) (w : World) : Calls Try.prog 48 #[.agg #[.int .i64 kd, .int .i64 ky, .int .i64 tm, .int .i64 vl, .int .i64 mr]] w fun e w' => e = .returned (.bool (kd == 1)) ∧ Below w.heap.size w w' := by
  have BB := Lib.hid ((Below.refl w.heap.size w).alloc (Nat.le_refl _) (.cells #[.int .i64 kd, .int .i64 ky, .int .i64 tm, .int .i64 vl, .int .i64 mr] 88))
  go_enter Try.func48, Try.ntmps48
  go_wp2
  go_ret
  exact ⟨rfl, BB.out⟩
end Go.Proofs.Ytfneipdlihbbjaa
