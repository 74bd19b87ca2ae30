/- (*pile).Push and container/heap.Push at a pile whose last one stays last. -/
import Derived.Test.YtnfhlfbkdhpacaaHeap6
import Derived.Test.YtnfhlfbkdhpacaaClone2
import Derived.Lib.AppendZeros
namespace Go.Proofs.Ytnfhlfbkdhpacaa
open Go.RowKit

/-- One agg more in a pile's row: all that is known. -/
theorem appendP {w : World} {lo n c : Nat} {a1 : Option Addr} {l : List Ag} (S : Ag) (hn : n = l.length) (ho : w.ownsRow lo 37 6 (.slice a1 n c) n (flatA l)) (hlo : lo ≤ w.heap.size) (hb : n ≤ 2097152) (ty : TypeId) :
    ∃ a3 c3 w', (Builtin.append_ #[69, 69] ty #[.slice a1 n c, .slice (some ⟨w.heap.size, 0, none⟩) 1 1]).run Try.prog (w.alloc (.cells #[.int .i64 S.win, .int .i64 S.key, .int .i64 S.cnt, .int .i64 S.sum, .int .i64 S.mn, .int .i64 S.mx] 37)) = .ok (.slice a3 (n + 1) c3) w' ∧
      w'.ownsRow lo 37 6 (.slice a3 (n + 1) c3) (n + 1) (flatA (l ++ [S])) ∧ Below lo w w' ∧ w.grownBy w' (Value.slice a1 n c).ownBlock := by
  obtain ⟨i0, hi0, hz0, hz1, hz2⟩ := info_parts6 infoAgg
  obtain ⟨v', w', hr, h2, h3, _⟩ := run_append_own (P := Try.prog) (w.alloc (.cells (aC S).toArray 37)) lo 69 ty 37 i0 (.agg #[.int .i64 0, .int .i64 0, .int .i64 0, .int .i64 0, .int .i64 0, .int .i64 0]) 6 48 Try.underlying69 hi0 hz0 hz1 hz2 rfl (by decide) _ n _ (ho.alloc _) ⟨w.heap.size, 0, none⟩ 1 1 (aC S) rfl (newsA rfl) (aC_ones S) (by unfold maxLen; omega) (by omega) (by simp; omega)
  obtain ⟨a3, c3, rfl⟩ := ownsR_shape h2
  refine ⟨a3, c3, w', hr, ?_, ((Below.refl lo w).alloc hlo _).trans (below_own (ho.alloc _) h3 (by simp; omega)), grown_trans (World.grownBy_alloc w _ _) h3⟩
  rw [flatA_append]
  simpa [flatA, flatR] using h2
theorem assert_agg (u0 u1 u2 u3 u4 u5 : Int) (W : World) : (Instr.typeAssert (.iface 37 (.agg #[.int .i64 u0, .int .i64 u1, .int .i64 u2, .int .i64 u3, .int .i64 u4, .int .i64 u5])) 20 37 true).run Try.prog W = .ok (.tuple #[.agg #[.int .i64 u0, .int .i64 u1, .int .i64 u2, .int .i64 u3, .int .i64 u4, .int .i64 u5], .bool true]) W := by kernel_rfl
set_option maxHeartbeats 2000000 in
set_option maxRecDepth 100000 in
theorem pilePush_x (pb lo n c : Nat) (a1 : Option Addr) (l : List Ag) (S : Ag) (w : World) (hp : Blk w pb 69 #[.slice a1 n c]) (hn : n = l.length) (ho : w.ownsRow lo 37 6 (.slice a1 n c) n (flatA l)) (hlo : lo ≤ pb) (hb : n ≤ 1048576) :
    Calls Try.prog 76 #[.pointer (some ⟨pb, 0, none⟩), .iface 37 (.agg #[.int .i64 S.win, .int .i64 S.key, .int .i64 S.cnt, .int .i64 S.sum, .int .i64 S.mn, .int .i64 S.mx])] w fun e w' => e = .returned (.tuple #[]) ∧
      ∃ a2 c2, Blk w' pb 69 #[.slice a2 (n + 1) c2] ∧ w'.ownsRow lo 37 6 (.slice a2 (n + 1) c2) (n + 1) (flatA (l ++ [S])) ∧ Below lo w w' := by
  have hpl := hp.lt
  obtain ⟨u0, u1, u2, u3, u4, u5⟩ := S
  simp only
  have b1 := (Below.refl lo w).alloc (by omega) (.cells #[.int .i64 u0, .int .i64 u1, .int .i64 u2, .int .i64 u3, .int .i64 u4, .int .i64 u5] 37)
  have kx := Blk.new w 37 #[.int .i64 u0, .int .i64 u1, .int .i64 u2, .int .i64 u3, .int .i64 u4, .int .i64 u5]
  have kp := hp.alloc (.cells #[.int .i64 u0, .int .i64 u1, .int .i64 u2, .int .i64 u3, .int .i64 u4, .int .i64 u5] 37)
  have oo := ho.alloc (.cells #[.int .i64 u0, .int .i64 u1, .int .i64 u2, .int .i64 u3, .int .i64 u4, .int .i64 u5] 37)
  obtain ⟨a3, c3, w3, hr3, ho3, hb3, hg3⟩ := appendP (w := (w.alloc (.cells #[.int .i64 u0, .int .i64 u1, .int .i64 u2, .int .i64 u3, .int .i64 u4, .int .i64 u5] 37)).drew) ⟨u0, u1, u2, u3, u4, u5⟩ hn oo.drew (by simp; omega) (by omega) 69
  have hsd : ((w.alloc (.cells #[.int .i64 u0, .int .i64 u1, .int .i64 u2, .int .i64 u3, .int .i64 u4, .int .i64 u5] 37)).drew).heap.size = w.heap.size + 1 := by show (w.alloc _).heap.size = _; simp
  rw [hsd] at hr3
  have kp3 : Blk w3 pb 69 #[.slice a1 n c] := kp.drew.grown hg3 (own_blk_ne oo.drew kp.drew (by decide))
  have hr3 : (Builtin.append_ #[69, 69] 69 #[.slice a1 n c, .slice (some ⟨w.heap.size + 1, 0, none⟩) 1 1]).run Try.prog (((w.alloc (.cells #[.int .i64 u0, .int .i64 u1, .int .i64 u2, .int .i64 u3, .int .i64 u4, .int .i64 u5] 37)).alloc (.cells #[.int .i64 u0, .int .i64 u1, .int .i64 u2, .int .i64 u3, .int .i64 u4, .int .i64 u5] 37)).drew) = .ok (.slice a3 (n + 1) c3) w3 := hr3
  have R3 := Lib.hid hr3
  have q0 : (w.alloc (.cells #[.int .i64 u0, .int .i64 u1, .int .i64 u2, .int .i64 u3, .int .i64 u4, .int .i64 u5] 37)).cell? ⟨pb, 0, none⟩ = some (.slice a1 n c) := kp.cell 0
  have q1 : (((w.alloc (.cells #[.int .i64 u0, .int .i64 u1, .int .i64 u2, .int .i64 u3, .int .i64 u4, .int .i64 u5] 37)).drew).alloc (.cells #[.int .i64 u0, .int .i64 u1, .int .i64 u2, .int .i64 u3, .int .i64 u4, .int .i64 u5] 37)).cell? ⟨pb, 0, none⟩ = some (.slice a1 n c) := (kp.drew.alloc _).cell 0
  have q2 : ((w.alloc (.cells #[.int .i64 u0, .int .i64 u1, .int .i64 u2, .int .i64 u3, .int .i64 u4, .int .i64 u5] 37)).drew).cell? ⟨pb, 0, none⟩ = some (.slice a1 n c) := kp.drew.cell 0
  have p0 := kp3.cell 0
  have f0 := kp3.frozen 0
  simp only [List.getElem?_toArray, List.getElem?_cons_zero] at p0
  have HEND : Hid (Blk (w3.setCell ⟨pb, 0, none⟩ (.slice a3 (n + 1) c3)) pb 69 #[.slice a3 (n + 1) c3] ∧ (w3.setCell ⟨pb, 0, none⟩ (.slice a3 (n + 1) c3)).ownsRow lo 37 6 (.slice a3 (n + 1) c3) (n + 1) (flatA (l ++ [⟨u0, u1, u2, u3, u4, u5⟩])) ∧ Below lo w (w3.setCell ⟨pb, 0, none⟩ (.slice a3 (n + 1) c3))) :=
    Lib.hid ⟨by simpa using Blk.put_ kp3 0 (.slice a3 (n + 1) c3), ho3.kept (grown_setCell _ _ _ _) (.inr (own_blk_ne ho3 kp3 (by decide)).symm), (b1.drew.trans hb3).setCell hlo _⟩
  have hcp := ownR_cap ho
  have hta := assert_agg u0 u1 u2 u3 u4 u5 w
  clear hp ho b1 kx kp oo hr3 ho3 hb3 hg3 kp3 hn hsd
  go_enter Try.func76, Try.ntmps76
  go_wp2_with fail
  go_region_law (first | (refine step_append_run rfl _ _ _ _ rfl _ _ rfl rfl _ _ R3.out ?_))
  all_goals
    go_wp2
    go_end0
    exact ⟨rfl, a3, c3, HEND.out⟩
end Go.Proofs.Ytnfhlfbkdhpacaa
