/- container/heap.up at a pile whose last one is not ahead of its parent: nothing turns. -/
import Derived.Test.YtnfhlfbkdhpacaaHeap3
namespace Go.Proofs.Ytnfhlfbkdhpacaa
open Go.RowKit
set_option maxHeartbeats 2000000 in
set_option maxRecDepth 100000 in
theorem up_stays (pb g c k lo : Nat) (l : List Ag) (w : World) (hp : Blk w pb 69 #[.slice (some ⟨g, 0, none⟩) l.length c]) (ho : w.ownsRow lo 37 6 (.slice (some ⟨g, 0, none⟩) l.length c) l.length (flatA l)) (hk : k < l.length) (hs : aheadA (ael l k) (ael l ((k - 1) / 2)) = false) (hle : l.length ≤ 1048576) :
    Calls Try.prog 57 #[.iface 60 (.pointer (some ⟨pb, 0, none⟩)), .int .i64 (k : Int)] w fun e w' => e = .returned (.tuple #[]) ∧ Below w.heap.size w w' := by
  have HL := Lib.hid (fun (h0 : 0 < k) => less_x (some ⟨g, 0, none⟩) l.length c k ((k - 1) / 2) l w.heap.size w (Ags.of_own ho) rfl (Nat.le_refl _) hk (by omega))
  have hm := meth_less pb l.length c (some ⟨g, 0, none⟩) w (hp.cell 0)
  rw [hs] at HL
  have BR := Lib.hid (Below.refl w.heap.size w)
  clear hp ho hs
  rcases Nat.eq_zero_or_pos k with rfl | h0
  · have ht : (-1 : Int).tdiv 2 = 0 := by decide
    go_enter Try.func57, Try.ntmps57
    go_wp2
    go_loopw [1] (fun j wr => j = .int .i64 0 ∧ wr = w) (fun _ _ => 0)
    case atStart => exact ⟨rfl, rfl⟩
    case round =>
      obtain ⟨rfl, rfl⟩ := hrel
      go_wp2
      go_end0
      exact ⟨rfl, BR.out⟩
  · have HL2 := Lib.hid (HL.out h0)
    obtain ⟨p, hp⟩ : ∃ p, p = (k - 1) / 2 := ⟨_, rfl⟩
    rw [← hp] at HL2
    have ht : ((k : Int) - 1).tdiv 2 = (p : Int) := by
      rw [Int.tdiv_eq_ediv_of_nonneg (by omega)]
      omega
    have hq : ((p : Int) == (k : Int)) = false := beq_eq_false_iff_ne.2 (by omega)
    have hpb : p ≤ 1048576 := by omega
    clear HL hp
    go_enter Try.func57, Try.ntmps57
    go_wp2
    go_loopw [1] (fun j wr => j = .int .i64 k ∧ wr = w) (fun _ _ => 0)
    case atStart => exact ⟨rfl, rfl⟩
    case round =>
      obtain ⟨rfl, rfl⟩ := hrel
      go_wp2_with (go_at_call 74; refine HL2.out.mono ?_; rintro e w2 ⟨rfl, hb⟩)
      go_end0
      exact ⟨rfl, hb⟩
end Go.Proofs.Ytnfhlfbkdhpacaa
