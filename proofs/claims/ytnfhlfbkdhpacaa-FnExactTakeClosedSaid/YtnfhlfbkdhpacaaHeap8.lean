/- container/heap.Push at a pile whose new one is not ahead of its parent. -/
import Derived.Test.YtnfhlfbkdhpacaaHeap7
import Derived.Deep.AppendLies
namespace Go.Proofs.Ytnfhlfbkdhpacaa
open Go.RowKit

set_option maxHeartbeats 2000000 in
set_option maxRecDepth 100000 in
theorem heapPush_x (pb lo c : Nat) (a1 : Option Addr) (l : List Ag) (S : Ag) (w : World) (hp : Blk w pb 69 #[.slice a1 l.length c]) (ho : w.ownsRow lo 37 6 (.slice a1 l.length c) l.length (flatA l)) (hlo : lo ≤ pb) (hb : l.length ≤ 1048575)
    (hs : aheadA (ael (l ++ [S]) l.length) (ael (l ++ [S]) ((l.length - 1) / 2)) = false) :
    Calls Try.prog 52 #[.iface 60 (.pointer (some ⟨pb, 0, none⟩)), .iface 37 (.agg #[.int .i64 S.win, .int .i64 S.key, .int .i64 S.cnt, .int .i64 S.sum, .int .i64 S.mn, .int .i64 S.mx])] w fun e w' => e = .returned (.tuple #[]) ∧
      ∃ a2 c2, Blk w' pb 69 #[.slice a2 (l ++ [S]).length c2] ∧ w'.ownsRow lo 37 6 (.slice a2 (l ++ [S]).length c2) (l ++ [S]).length (flatA (l ++ [S])) ∧ Below lo w w' := by
  have hll : (l ++ [S]).length = l.length + 1 := by simp
  have HPX := Lib.hid (pilePush_x pb lo l.length c a1 l S w hp rfl ho hlo (by omega))
  have hmp := meth_push pb w
  have hpl := hp.lt
  obtain ⟨m, hm⟩ : ∃ m, m = l ++ [S] := ⟨_, rfl⟩
  obtain ⟨n, hn⟩ : ∃ n, n = l.length := ⟨_, rfl⟩
  rw [← hm] at hs hll ⊢
  rw [← hm, ← hn] at HPX
  rw [← hn] at hs hll hb
  have HS := Lib.hid hs
  have HLL := Lib.hid hll
  have HB := Lib.hid hb
  clear hp ho hs hll hm hn hb
  go_enter Try.func52, Try.ntmps52
  go_wp2_with fail
  clear hmp
  refine HPX.out.mono ?_
  rintro e w1 ⟨rfl, a2, c2, k1, o1, b1⟩
  rw [← HLL.out] at k1 o1
  obtain ⟨g, cap, hv, hg, hgl⟩ := o1.form (by have := HLL.out; omega)
  injection hv with ha _ _
  subst ha
  have hml := meth_len pb m.length c2 (some ⟨g, 0, none⟩) w1 (k1.cell 0)
  have HUP := Lib.hid (up_stays pb g c2 n lo m w1 k1 o1 (by have := HLL.out; omega) HS.out (by have := HLL.out; have := HB.out; omega))
  have em : ((m.length : Nat) : Int) - 1 = (n : Int) := by have := HLL.out; omega
  have K1 := Lib.hid k1
  have O1 := Lib.hid o1
  have B1 := Lib.hid b1
  have hmb : m.length ≤ 1048576 := by have := HLL.out; have := HB.out; omega
  clear k1 o1 b1
  go_wp2_with fail
  refine (len_x _ _ _ _).mono ?_
  rintro e w2 ⟨rfl, rfl⟩
  go_wp2_with fail
  clear hml
  refine HUP.out.mono ?_
  rintro e w3 ⟨rfl, hb3⟩
  have K3 := Lib.hid (K1.out.below hb3)
  have O3 := Lib.hid (owns_below O1.out hb3)
  have B3 := Lib.hid (B1.out.trans (hb3.mono (by have := K1.out.lt; omega)))
  clear hb3
  go_wp2
  go_end0
  exact ⟨rfl, _, _, K3.out, O3.out, B3.out⟩
end Go.Proofs.Ytnfhlfbkdhpacaa
