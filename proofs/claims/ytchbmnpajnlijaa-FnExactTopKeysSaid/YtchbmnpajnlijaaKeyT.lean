/- KeyTotals: impl and spec. (made by tools/mkkt.py) -/
import Derived.Test.YtchbmnpajnlijaaFoldI2
import Derived.Test.YtchbmnpajnlijaaAllOk
namespace Go.Proofs.Ytchbmnpajnlijaa
open Go.RowKit Stab
/-- KeyTotals. -/
def ktL (l : List Ag) : List Ag := if l.all aggOk = true then foldP [] (l.map hAll) else []
theorem ktL_yes {l : List Ag} (h : l.all aggOk = true) : ktL l = foldP [] (l.map hAll) := if_pos h
theorem ktL_no {l : List Ag} (h : l.all aggOk = false) : ktL l = [] := if_neg (by simp [h])
theorem ktL_len (l : List Ag) : (ktL l).length ≤ l.length := by
  unfold ktL
  split
  · have := foldP_len (l.map hAll) []
    simpa using this
  · simp
theorem all_sum {l : List Ag} (h : l.all aggOk = true) : ∀ x, x ∈ l → SumOk x := fun x hx => aggOk_sum (List.all_eq_true.1 h x hx)
set_option maxHeartbeats 4000000 in
set_option maxRecDepth 100000 in
theorem specKt_any (a : Option Addr) (n c : Nat) (l : List Ag) (hi : Nat) (w : World) (hr : Ags w hi a c l) (hn : n = l.length) (hB : hi ≤ w.heap.size) (hlen : l.length ≤ 1048576) :
    Calls Try.prog 79 #[.slice a n c] w (FreshR aC 86 6 (ktL l) w) := by
  subst hn
  have m1 := hr.cap
  have m2 := hr.big
  have HR := Lib.hid hr
  have kr := Blk.new w 86 #[]
  have O0 : Hid ((w.alloc (.cells #[] 86)).ownsRow w.heap.size 86 6 (.slice (some ⟨w.heap.size, 0, none⟩) 0 0) 0 (flatA [])) := Lib.hid ⟨rfl, .inr ⟨_, 0, #[], rfl, Nat.le_refl _, kr, Nat.le_refl _, by unfold maxLen; omega, rfl, rfl⟩⟩
  have B0 := Lib.hid ((Below.refl w.heap.size w).alloc (Nat.le_refl _) (.cells #[] 86))
  clear kr
  have AK := Lib.hid (specAllOk_any a l.length c l hi _ (hr.below (B0.out.mono hB)) rfl (by simp; omega))
  clear hr
  cases hall : l.all aggOk with
  | false =>
    have HN := Lib.hid (ktL_no hall)
    rw [hall] at AK
    clear hall
    go_enter Try.func79, Try.ntmps79
    go_wp2_with fail
    refine AK.out.mono ?_
    rintro e w2 ⟨rfl, hb⟩
    have BB := Lib.hid (B0.out.trans (hb.mono (by simp)))
    clear hb
    go_wp2
    go_ret
    exact HN.out ▸ ⟨none, 0, rfl, World.ownsRow_nil _ _ _ _, BB.out⟩
  | true =>
    have HY := Lib.hid hall
    have HRK := Lib.hid (all_sum hall)
    rw [hall] at AK
    clear hall
    go_enter Try.func79, Try.ntmps79
    go_wp2_with fail
    refine AK.out.mono ?_
    rintro e w2 ⟨rfl, hb⟩
    have RO2 := Lib.hid (owns_below O0.out hb)
    have WB2 := Lib.hid (B0.out.trans (hb.mono (by simp)))
    clear hb
    go_wp2
    go_loopw [3, 4] (fun ls i wr => ∃ (k : Nat) (a2 : Option Addr) (n2 c2 : Nat), k ≤ l.length ∧ i = .int .i64 (k : Int) ∧ ls = .slice a2 n2 c2 ∧ n2 = (foldP ([]) ((l.take k).map hAll)).length ∧ wr.ownsRow w.heap.size 86 6 (.slice a2 n2 c2) n2 (flatA (foldP ([]) ((l.take k).map hAll))) ∧ Below w.heap.size w wr) (fun _ i _ => l.length - (intOf i).toNat)
    case atStart => exact ⟨0, _, _, _, Nat.zero_le _, rfl, rfl, by simp [foldP], by simpa [foldP] using RO2.out, WB2.out⟩
    case round =>
      obtain ⟨k, a2, n2, c2, hk, rfl, rfl, hn2, ho, hbr⟩ := hrel
      have HN2 := Lib.hid hn2
      have RO := Lib.hid ho
      have WB := Lib.hid hbr
      have hsz := hbr.size
      clear hn2 ho hbr
      by_cases hlt : k < l.length
      · obtain ⟨b1, off, rfl, hbh, hcell⟩ := Ags.six HR.out (by omega)
        have hbq : b1 < w.heap.size := by omega
        have hlt' : (k : Int) < (l.length : Int) := by omega
        have hnn : 0 ≤ (k : Int) := by omega
        have CK := Lib.hid (hcell k hlt)
        have EK : Hid (foldP ([]) ((l.take (k + 1)).map hAll) = putA (foldP ([]) ((l.take k).map hAll)) (hAll (ael l k))) := Lib.hid (by rw [ael_take hlt, List.map_append]; exact foldP_snoc _ _ _)
        have hyk := HRK.out (ael l k) (by rw [show ael l k = l[k] from rel_lt aD hlt]; exact List.getElem_mem hlt)
        have SOK : Hid (∀ x, x ∈ foldP ([]) ((l.take k).map hAll) → SumOk x) := Lib.hid (foldP_ok (fun x hx => by
          obtain ⟨y, hy, rfl⟩ := List.mem_map.1 hx
          exact HRK.out y (List.mem_of_mem_take hy)) (by simp))
        have hln : (foldP ([]) ((l.take k).map hAll)).length ≤ 1048576 := by
          have h9 := foldP_len ((l.take k).map hAll) ([])
          rw [List.length_map, List.length_take] at h9
          have h8 := (show ([] : List Ag).length = 0 from rfl)
          omega
        have wk : IntKind.i64.wrap ((k : Int) + 1) = ((k + 1 : Nat) : Int) := by rw [show (k : Int) + 1 = ((k + 1 : Nat) : Int) by omega]; exact IntWalk.i64_in _ (by omega)
        clear hcell
        generalize ael l k = X at CK EK hyk
        obtain ⟨y0, y1, y2, y3, y4, y5⟩ := X
        simp only at CK
        have CC : Hid (∀ W : World, Below w.heap.size w W → W.cell? ⟨b1, off + k * 6, none⟩ = some (.int .i64 y0) ∧ W.cell? ⟨b1, off + k * 6 + 1, none⟩ = some (.int .i64 y1) ∧ W.cell? ⟨b1, off + k * 6 + 2, none⟩ = some (.int .i64 y2) ∧ W.cell? ⟨b1, off + k * 6 + 3, none⟩ = some (.int .i64 y3) ∧ W.cell? ⟨b1, off + k * 6 + 4, none⟩ = some (.int .i64 y4) ∧ W.cell? ⟨b1, off + k * 6 + 5, none⟩ = some (.int .i64 y5)) := Lib.hid (fun W hW => by
          have g1 : ∀ q, W.cell? ⟨b1, q, none⟩ = w.cell? ⟨b1, q, none⟩ := fun q => hW.cell (p := ⟨b1, q, none⟩) (show b1 < w.heap.size by omega)
          simp only [g1]
          exact CK.out)
        clear CK
        obtain ⟨p0, p1, p2, p3, p4, p5⟩ := CC.out wr WB.out
        generalize foldP ([]) ((l.take k).map hAll) = A at HN2 RO EK SOK hln
        have RO := Lib.hid (RO.out.alloc (.cells #[.int .i64 0, .int .i64 y1, .int .i64 y2, .int .i64 y3, .int .i64 y4, .int .i64 y5] 86))
        have WB := Lib.hid (WB.out.alloc hsz (.cells #[.int .i64 0, .int .i64 y1, .int .i64 y2, .int .i64 y3, .int .i64 y4, .int .i64 y5] 86))
        go_wp2_with fail
        clear p0 p1 p2 p3 p4 p5
        refine (specPut_x a2 n2 c2 A 0 y1 y2 y3 y4 y5 (wr.alloc (.cells #[.int .i64 0, .int .i64 y1, .int .i64 y2, .int .i64 y3, .int .i64 y4, .int .i64 y5] 86)).heap.size (wr.alloc (.cells #[.int .i64 0, .int .i64 y1, .int .i64 y2, .int .i64 y3, .int .i64 y4, .int .i64 y5] 86)) (Ags.of_own RO.out) HN2.out (Nat.le_refl _) hln SOK.out hyk).mono ?_
        rintro e w9 ⟨a3, c3, rfl, ho3, hb3⟩
        have RO := Lib.hid (show w9.ownsRow _ _ _ _ _ (flatA (foldP ([]) ((l.take (k + 1)).map hAll))) by rw [EK.out]; exact owns_less ho3 WB.out.size)
        have HN3 : Hid ((putA A ⟨0, y1, y2, y3, y4, y5⟩).length = (foldP ([]) ((l.take (k + 1)).map hAll)).length) := Lib.hid (by rw [EK.out]; rfl)
        have WB := Lib.hid (WB.out.trans (hb3.mono WB.out.size))
        clear ho3 hb3
        generalize (putA A ⟨0, y1, y2, y3, y4, y5⟩).length = n3 at RO HN3 ⊢
        go_wp2
        go_roundw
        case rel => exact ⟨k + 1, a3, n3, c3, by omega, by go_num, rfl, HN3.out, RO.out, WB.out⟩
        case measure => simp [intOf]; omega
      · have hlt' : ¬ (k : Int) < (l.length : Int) := by omega
        obtain rfl : k = l.length := by omega
        rw [List.take_length] at HN2 RO
        have FIN : Hid (FreshR aC 86 6 (ktL l) w (.returned (.slice a2 n2 c2)) wr) := Lib.hid (by
          rw [ktL_yes HY.out]
          have hn2 := HN2.out
          subst hn2
          exact ⟨a2, c2, rfl, RO.out, WB.out⟩)
        clear RO HN2
        go_wp2
        go_ret
        exact FIN.out
set_option maxHeartbeats 4000000 in
set_option maxRecDepth 100000 in
theorem implKt_any (a : Option Addr) (n c : Nat) (l : List Ag) (hi : Nat) (w : World) (hr : Ags w hi a c l) (hn : n = l.length) (hB : hi ≤ w.heap.size) (hlen : l.length ≤ 1048576) :
    Calls Try.prog 82 #[.slice a n c] w (FreshR aC 86 6 (ktL l) w) := by
  subst hn
  have HR := Lib.hid hr
  have AK := Lib.hid (implAllOk_any a l.length c l hi w hr rfl hB)
  clear hr
  cases hall : l.all aggOk with
  | false =>
    have HN := Lib.hid (ktL_no hall)
    rw [hall] at AK
    clear hall
    go_enter Try.func82, Try.ntmps82
    go_wp2_with fail
    refine AK.out.mono ?_
    rintro e w2 ⟨rfl, hb⟩
    have BB := Lib.hid hb
    clear hb
    go_wp2
    go_ret
    exact HN.out ▸ ⟨none, 0, rfl, World.ownsRow_nil _ _ _ _, BB.out⟩
  | true =>
    have HK := Lib.hid (ktL_yes hall)
    have HS := Lib.hid (all_sum hall)
    rw [hall] at AK
    clear hall
    go_enter Try.func82, Try.ntmps82
    go_wp2_with fail
    refine AK.out.mono ?_
    rintro e w2 ⟨rfl, hb⟩
    have BB := Lib.hid hb
    have hs2 := hb.size
    clear hb
    go_wp2_with fail
    refine (foldAll_any a l.length c l hi w2 (HR.out.below (BB.out.mono hB)) rfl (by omega) hlen HS.out).mono ?_
    rintro e w3 ⟨a3, c3, rfl, ho, hb⟩
    have FIN : Hid (FreshR aC 86 6 (ktL l) w (.returned (.slice a3 (foldP [] (l.map hAll)).length c3)) w3) := Lib.hid (by
      rw [HK.out]
      exact ⟨a3, c3, rfl, owns_less ho hs2, BB.out.trans (hb.mono hs2)⟩)
    clear ho hb
    generalize (foldP [] (l.map hAll)).length = n3 at FIN ⊢
    go_wp2
    go_ret
    exact FIN.out
end Go.Proofs.Ytchbmnpajnlijaa
