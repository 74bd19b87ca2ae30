/- spec.ClosedOf: the aggs whose windows are closed, in their order. -/
import Derived.Test.YtnfhlfbkdhpacaaHeap9
import Derived.Test.YtnfhlfbkdhpacaaShardOk
import Derived.Test.YtnfhlfbkdhpacaaClone2
import Derived.Deep.QuietTactic
import Derived.BigQuiet
namespace Go.Proofs.Ytnfhlfbkdhpacaa
open Go.RowKit

/-- The aggs that are closed, where the shard and the size are good. -/
noncomputable def closedL (l : List Ag) (mk lt ov sz : Int) : List Ag := if sokB l mk lt ov = true ∧ inB sz 1 1000000 = true then pickL false mk sz l else []
theorem closed_no1 {l : List Ag} {mk lt ov sz : Int} (h : sokB l mk lt ov = false) : closedL l mk lt ov sz = [] := by simp [closedL, h]
theorem closed_no2 {l : List Ag} {mk lt ov sz : Int} (h : inB sz 1 1000000 = false) : closedL l mk lt ov sz = [] := by simp [closedL, h]
theorem closed_yes {l : List Ag} {mk lt ov sz : Int} (h : sokB l mk lt ov = true) (h2 : inB sz 1 1000000 = true) : closedL l mk lt ov sz = pickL false mk sz l := by simp [closedL, h, h2]

set_option maxHeartbeats 800000 in
set_option maxRecDepth 100000 in
theorem specClosed_any (a : Option Addr) (c : Nat) (mk lt ov sz : Int) (l : List Ag) (hi : Nat) (w : World) (hr : Ags w hi a c l) (hB : hi ≤ w.heap.size) :
    Calls Try.prog 6 #[.agg #[.slice a l.length c, .int .i64 mk, .int .i64 lt, .int .i64 ov], .int .i64 sz] w (FreshR aC 37 6 (closedL l mk lt ov sz) w) := by
  have m1 := hr.cap
  have m2 := hr.big
  have HR := Lib.hid hr
  have HRL0 := Lib.hid (fun j => pick_len false mk sz l j)
  have b0 := ((Below.refl w.heap.size w).alloc (Nat.le_refl _) (.cells #[.slice a l.length c, .int .i64 mk, .int .i64 lt, .int .i64 ov] 29)).alloc (by simp) (.cells #[] 37)
  have KS0 := Lib.hid ((Blk.new w 29 #[.slice a l.length c, .int .i64 mk, .int .i64 lt, .int .i64 ov]).alloc (.cells #[] 37))
  have kr := Blk.new (w.alloc (.cells #[.slice a l.length c, .int .i64 mk, .int .i64 lt, .int .i64 ov] 29)) 37 #[]
  rw [World.size_alloc] at kr
  have O0 : Hid (((w.alloc (.cells #[.slice a l.length c, .int .i64 mk, .int .i64 lt, .int .i64 ov] 29)).alloc (.cells #[] 37)).ownsRow (w.heap.size + 1) 37 6 (.slice (some ⟨w.heap.size + 1, 0, none⟩) 0 0) 0 (flatA [])) := Lib.hid ⟨rfl, .inr ⟨_, 0, #[], rfl, Nat.le_refl _, kr, Nat.le_refl _, by unfold maxLen; omega, rfl, rfl⟩⟩
  have HR1 := Lib.hid (hr.below (b0.mono hB))
  have B0 := Lib.hid b0
  have HOK := Lib.hid (fun (W : World) (h : Ags W hi a c l) (h2 : hi ≤ W.heap.size) => specShardOk_any a l.length c mk lt ov l hi W h rfl h2)
  have CI := Lib.hid (fun W => specIn_any sz 1 1000000 W)
  clear hr b0 kr
  cases hS : sokB l mk lt ov with
  | false =>
    have HC := Lib.hid (closed_no1 (sz := sz) hS)
    rw [hS] at HOK
    clear hS
    go_enter Try.func6, Try.ntmps6
    go_wp2_with fail
    refine (HOK.out _ HR1.out (by simp; omega)).mono ?_
    rintro e w2 ⟨rfl, hb⟩
    have BB := Lib.hid (B0.out.trans (hb.mono (by simp; omega)))
    clear hb
    go_wp2
    go_ret
    exact HC.out ▸ ⟨none, 0, rfl, World.ownsRow_nil _ _ _ _, BB.out⟩
  | true =>
    have hl40 := (sok_bd hS).1
    rw [hS] at HOK
    cases hZ : inB sz 1 1000000 with
    | false =>
      have HC := Lib.hid (closed_no2 (l := l) (mk := mk) (lt := lt) (ov := ov) hZ)
      rw [hZ] at CI
      clear hS hZ
      go_enter Try.func6, Try.ntmps6
      go_wp2_with fail
      refine (HOK.out _ HR1.out (by simp; omega)).mono ?_
      rintro e w2 ⟨rfl, hb⟩
      have BB := Lib.hid (B0.out.trans (hb.mono (by simp; omega)))
      clear hb
      go_wp2_with fail
      refine (CI.out _).mono ?_
      rintro e w' ⟨rfl, rfl⟩
      go_wp2
      go_ret
      exact HC.out ▸ ⟨none, 0, rfl, World.ownsRow_nil _ _ _ _, BB.out⟩
    | true =>
      have HC := Lib.hid (closed_yes hS hZ)
      rw [hZ] at CI
      clear hS hZ
      go_enter Try.func6, Try.ntmps6
      go_wp2_with fail
      refine (HOK.out _ HR1.out (by simp; omega)).mono ?_
      rintro e w2 ⟨rfl, hb⟩
      have KS2 := Lib.hid (KS0.out.below hb)
      have O2 := Lib.hid (owns_below O0.out hb)
      have BB := Lib.hid (B0.out.trans (hb.mono (by simp; omega)))
      have SZ2 : w.heap.size + 1 + 1 ≤ w2.heap.size := by have := hb.size; simpa using this
      clear hb
      go_wp2_with fail
      refine (CI.out _).mono ?_
      rintro e w' ⟨rfl, rfl⟩
      go_wp2
      go_loopw [5, 6] (fun ls i wr => ∃ (k : Nat) (a2 : Option Addr) (n2 c2 : Nat), k ≤ l.length ∧ i = .int .i64 k ∧ ls = .slice a2 n2 c2 ∧ n2 = (pickL false mk sz (l.take k)).length ∧ wr.ownsRow (w.heap.size + 1) 37 6 (.slice a2 n2 c2) n2 (flatA (pickL false mk sz (l.take k))) ∧ Below (w.heap.size + 1) w2 wr) (fun _ i _ => l.length - (intOf i).toNat)
      case atStart => exact ⟨0, _, _, _, Nat.zero_le _, rfl, rfl, rfl, O2.out, Below.refl _ _⟩
      case round =>
        obtain ⟨k, a2, n2, c2, hk, rfl, rfl, hn2, ho, hbr⟩ := hrel
        have hsz := hbr.size
        have hml := HRL0.out k
        rw [← hn2] at hml
        have KS := Lib.hid (KS2.out.belowB hbr (by omega))
        have qs := KS.out.cell
        have RB := Lib.hid hbr
        by_cases hlt : k < l.length
        · obtain ⟨b1, off, rfl, hbh, hcell⟩ := Ags.six HR.out (by omega)
          have hbq : b1 < w.heap.size := by omega
          have hlt' : (k : Int) < (l.length : Int) := by omega
          have hnn : 0 ≤ (k : Int) := by omega
          have HYES := Lib.hid (fun h => pick_yes (al := false) (mk := mk) (sz := sz) hlt h)
          have HNO := Lib.hid (fun h => pick_no (al := false) (mk := mk) (sz := sz) hlt h)
          have CK := Lib.hid (hcell k hlt)
          clear hcell
          generalize ael l k = S at CK HYES HNO
          obtain ⟨u0, u1, u2, u3, u4, u5⟩ := S
          simp only at CK
          have CC : Hid (∀ W : World, Below w.heap.size w W → W.cell? ⟨b1, off + k * 6, none⟩ = some (.int .i64 u0) ∧ W.cell? ⟨b1, off + k * 6 + 1, none⟩ = some (.int .i64 u1) ∧ W.cell? ⟨b1, off + k * 6 + 2, none⟩ = some (.int .i64 u2) ∧ W.cell? ⟨b1, off + k * 6 + 3, none⟩ = some (.int .i64 u3) ∧ W.cell? ⟨b1, off + k * 6 + 4, none⟩ = some (.int .i64 u4) ∧ W.cell? ⟨b1, off + k * 6 + 5, none⟩ = some (.int .i64 u5)) := Lib.hid (fun W hW => by
            obtain ⟨h0, h1, h2, h3, h4, h5⟩ := CK.out
            exact ⟨(hW.cell (p := ⟨b1, off + k * 6, none⟩) hbq).trans h0, (hW.cell (p := ⟨b1, off + k * 6 + 1, none⟩) hbq).trans h1, (hW.cell (p := ⟨b1, off + k * 6 + 2, none⟩) hbq).trans h2, (hW.cell (p := ⟨b1, off + k * 6 + 3, none⟩) hbq).trans h3, (hW.cell (p := ⟨b1, off + k * 6 + 4, none⟩) hbq).trans h4, (hW.cell (p := ⟨b1, off + k * 6 + 5, none⟩) hbq).trans h5⟩)
          have WB := Lib.hid (BB.out.trans (hbr.mono (by omega)))
          have CE : Hid (∀ W, Calls Try.prog 21 #[.int .i64 u0, .int .i64 sz] W fun e w' => e = .returned (.int .i64 (windowEnd u0 sz)) ∧ w' = W) := Lib.hid (fun W => (specWinEnd_any u0 sz W).mono (fun _ _ h => And.intro h.1 h.2.symm))
          have HN2 := Lib.hid hn2
          have RO := Lib.hid ho
          obtain ⟨p0, p1, p2, p3, p4, p5⟩ := CC.out wr WB.out
          by_cases hd : windowEnd u0 sz ≤ mk
          · have HY := Lib.hid (HYES.out (by simp [mayOut, hd]))
            clear hn2 ho hbr HNO
            generalize windowEnd u0 sz = X at CE hd
            go_wp2_with fail
            go_quiet ((go_at_call 21; exact Calls.quiet_of_same (CE.out _)))
            clear p0 p1 p2 p3 p4 p5 qs
            have K7 := Lib.hid (show Blk (wr.drewN nq) _ _ _ from KS.out)
            have O7 := Lib.hid (owns_drewN RO.out nq)
            have R7 := Lib.hid (below_drewN RB.out nq)
            have W7 := Lib.hid (below_drewN WB.out nq)
            have s7 : (wr.drewN nq).heap.size = wr.heap.size := rfl
            generalize wr.drewN nq = w7 at K7 O7 R7 W7 s7 ⊢
            obtain ⟨a3, c3, w9, hr3, ho3, hb3, _⟩ := appendA (w := w7) ⟨u0, u1, u2, u3, u4, u5⟩ HN2.out O7.out (by omega) (by omega) 26
            simp only at hr3
            have R3 := Lib.hid hr3
            clear hr3 s7
            obtain ⟨p0, p1, p2, p3, p4, p5⟩ := CC.out w7 W7.out
            have q0 : w7.cell? ⟨w.heap.size, 0, none⟩ = some (.slice (some ⟨b1, off, none⟩) l.length c) := K7.out.cell 0
            go_wp2_with (at_builtin; refine Lib.wpList_append_run _ rfl _ _ _ _ rfl _ _ rfl rfl _ _ R3.out ?_)
            clear p0 p1 p2 p3 p4 p5 q0
            have RO3 := Lib.hid ho3
            have RB3 := Lib.hid (R7.out.trans hb3)
            clear ho3 hb3
            go_wp2
            go_roundw
            case rel => exact ⟨k + 1, a3, n2 + 1, c3, by omega, by go_num, rfl, by rw [HY.out, List.length_append, ← HN2.out]; rfl, by rw [HY.out]; exact RO3.out, RB3.out⟩
            case measure => simp [intOf]; omega
          · have HY := Lib.hid (HNO.out (by simp [mayOut, hd]))
            clear hn2 ho hbr HYES
            generalize windowEnd u0 sz = X at CE hd
            go_wp2_with fail
            go_quiet ((go_at_call 21; exact Calls.quiet_of_same (CE.out _)))
            clear p0 p1 p2 p3 p4 p5 qs
            go_wp2
            go_roundw
            case rel => exact ⟨k + 1, a2, n2, c2, by omega, by go_num, rfl, by rw [HY.out]; exact HN2.out, by rw [HY.out]; exact owns_drewN RO.out _, below_drewN RB.out _⟩
            case measure => simp [intOf]; omega
        · obtain rfl : k = l.length := by omega
          have HP : Hid (FreshR aC 37 6 (closedL l mk lt ov sz) w (.returned (.slice a2 n2 c2)) wr) := by
            rw [HC.out]
            have hall : l.take l.length = l := List.take_length
            rw [hall] at hn2 ho
            subst hn2
            exact Lib.hid ⟨a2, c2, rfl, owns_less ho (by omega), BB.out.trans (hbr.mono (by omega))⟩
          clear hn2 ho hbr
          go_wp2
          go_ret
          exact HP.out
end Go.Proofs.Ytnfhlfbkdhpacaa
