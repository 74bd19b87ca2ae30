/- Contracts of a pile's methods Len and Pop. -/
import Derived.Test.YtnfhlfbkdhpacaaHeap1
namespace Go.Proofs.Ytnfhlfbkdhpacaa
open Go.RowKit
theorem len_x (a : Option Addr) (n c : Nat) (w : World) : Calls Try.prog 40 #[.slice a n c] w fun e w' => e = .returned (.int .i64 (n : Int)) ∧ w = w' := by
  go_enter Try.func40, Try.ntmps40
  go_wp2
  go_ret
  exact ⟨rfl, rfl⟩
set_option maxHeartbeats 4000000 in
set_option maxRecDepth 100000 in
theorem popLast_x (pb g c k lo : Nat) (l : List Ag) (w : World) (hp : Blk w pb 69 #[.slice (some ⟨g, 0, none⟩) l.length c]) (ho : w.ownsRow lo 37 6 (.slice (some ⟨g, 0, none⟩) l.length c) l.length (flatA l)) (hk : l.length = k + 1) :
    Calls Try.prog 75 #[.pointer (some ⟨pb, 0, none⟩)] w fun e w' => e = .returned (.iface 37 (.agg #[.int .i64 (ael l k).win, .int .i64 (ael l k).key, .int .i64 (ael l k).cnt, .int .i64 (ael l k).sum, .int .i64 (ael l k).mn, .int .i64 (ael l k).mx])) ∧
      w' = (w.alloc (.cells #[.int .i64 (ael l k).win, .int .i64 (ael l k).key, .int .i64 (ael l k).cnt, .int .i64 (ael l k).sum, .int .i64 (ael l k).mn, .int .i64 (ael l k).mx] 37)).setCell ⟨pb, 0, none⟩ (.slice (some ⟨g, 0, none⟩) k c) := by
  have hc := ownR_cap ho
  have CK := own_ag ho k (by omega)
  rw [hk] at hp hc
  generalize ael l k = X at CK ⊢
  obtain ⟨u0, u1, u2, u3, u4, u5⟩ := X
  simp only at CK ⊢
  have hkc : k ≤ c := by omega
  have e1 : ((k + 1 : Nat) : Int) - 1 = (k : Int) := by omega
  have e2 : IntKind.i64.wrap (((k + 1 : Nat) : Int) - 1) = (k : Int) := by rw [e1]; exact IntWalk.i64_in _ (by omega)
  have i0 : (0 : Int) ≤ (k : Int) := by omega
  have i1 : (k : Int) < ((k + 1 : Nat) : Int) := by omega
  have i2 : (k : Int) ≤ (c : Int) := by omega
  clear ho hk
  obtain ⟨n, hn⟩ : ∃ n, n = k + 1 := ⟨_, rfl⟩
  rw [← hn] at hp e1 e2 i1 hc
  have HN := Lib.hid hn
  clear hn e1
  have q0 : w.cell? ⟨pb, 0, none⟩ = some (.slice (some ⟨g, 0, none⟩) n c) := hp.cell 0
  have hpa := hp.alloc (.cells #[.int .i64 u0, .int .i64 u1, .int .i64 u2, .int .i64 u3, .int .i64 u4, .int .i64 u5] 37)
  have q1 := hpa.cell 0
  have f1 := hpa.frozen 0
  simp only [List.getElem?_toArray, List.getElem?_cons_zero] at q1
  have q2 := ((Blk.new w 37 #[.int .i64 u0, .int .i64 u1, .int .i64 u2, .int .i64 u3, .int .i64 u4, .int .i64 u5]).far_ (p := ⟨pb, 0, none⟩) (Nat.ne_of_gt hp.lt) (.slice (some ⟨g, 0, none⟩) k c)).cell
  clear hp hpa
  go_enter Try.func75, Try.ntmps75
  go_wp2
  go_ret
  exact ⟨rfl, rfl⟩
end Go.Proofs.Ytnfhlfbkdhpacaa
