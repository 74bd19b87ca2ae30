/- MergeLists: impl and spec. (made by tools/mkkt.py) -/
import Derived.Test.YtfkniabfojedkaaFoldI
import Derived.Test.YtfkniabfojedkaaAllOk
import Derived.Test.YtfkniabfojedkaaConcat
namespace Go.Proofs.Ytfkniabfojedkaa
open Go.RowKit Stab
theorem map_hIt (l : List Ag) : l.map hIt = l := by
  have : (hIt : Ag → Ag) = fun x => x := rfl
  rw [this, List.map_id']
theorem all_sumM {l : List Ag} (h : l.all aggOk = true) : ∀ x, x ∈ l → SumOk x := fun x hx => aggOk_sum (List.all_eq_true.1 h x hx)
/-- MergeLists. -/
def mlL (l l2 : List Ag) : List Ag := if (l ++ l2).all aggOk = true then foldP [] (l ++ l2) else []
theorem mlL_yes {l l2 : List Ag} (h : (l ++ l2).all aggOk = true) : mlL l l2 = foldP [] (l ++ l2) := if_pos h
theorem mlL_no {l l2 : List Ag} (h : (l ++ l2).all aggOk = false) : mlL l l2 = [] := if_neg (by simp [h])
theorem mlL_len (l l2 : List Ag) : (mlL l l2).length ≤ l.length + l2.length := by
  unfold mlL
  split
  · have := foldP_len (l ++ l2) []
    simpa using this
  · simp
set_option maxHeartbeats 4000000 in
set_option maxRecDepth 100000 in
theorem specMl_any (a a2 : Option Addr) (n n2 c c2 : Nat) (l l2 : List Ag) (hi hi2 : Nat) (w : World) (hr : Ags w hi a c l) (hr2 : Ags w hi2 a2 c2 l2) (hn : n = l.length) (hn2 : n2 = l2.length) (hB : hi ≤ w.heap.size) (hB2 : hi2 ≤ w.heap.size) (hlen : l.length + l2.length ≤ 1048576) :
    Calls Try.prog 18 #[.slice a n c, .slice a2 n2 c2] w (FreshR aC 48 6 (mlL l l2) w) := by
  subst hn
  subst hn2
  have m1 := hr.cap
  have m2 := hr.big
  have m3 := hr2.cap
  have m4 := hr2.big
  have HR := Lib.hid hr
  have HS := Lib.hid hr2
  have kr := Blk.new w 48 #[]
  have O0 : Hid ((w.alloc (.cells #[] 48)).ownsRow w.heap.size 48 6 (.slice (some ⟨w.heap.size, 0, none⟩) 0 0) 0 (flatA [])) := Lib.hid ⟨rfl, .inr ⟨_, 0, #[], rfl, Nat.le_refl _, kr, Nat.le_refl _, by unfold maxLen; omega, rfl, rfl⟩⟩
  have B0 := Lib.hid ((Below.refl w.heap.size w).alloc (Nat.le_refl _) (.cells #[] 48))
  clear kr
  have AK := Lib.hid (specAllOk_any a l.length c l hi _ (hr.below (B0.out.mono hB)) rfl (by simp; omega))
  have HS1 := Lib.hid (hr2.below (B0.out.mono hB2))
  clear hr hr2
  cases hall : l.all aggOk with
  | false =>
    have HN := Lib.hid (mlL_no (l := l) (l2 := l2) (by rw [List.all_append, hall]; rfl))
    rw [hall] at AK
    clear hall
    go_enter Try.func18, Try.ntmps18
    go_wp2_with fail
    refine AK.out.mono ?_
    rintro e w2 ⟨rfl, hb⟩
    have BB := Lib.hid (B0.out.trans (hb.mono (by simp)))
    clear hb
    go_wp2
    go_ret
    exact HN.out ▸ ⟨none, 0, rfl, World.ownsRow_nil _ _ _ _, BB.out⟩
  | true =>
    have HRK := Lib.hid (all_sumM hall)
    rw [hall] at AK
    cases hall2 : l2.all aggOk with
    | false =>
      have HN := Lib.hid (mlL_no (l := l) (l2 := l2) (by rw [List.all_append, hall, hall2]; rfl))
      clear hall
      go_enter Try.func18, Try.ntmps18
      go_wp2_with fail
      refine AK.out.mono ?_
      rintro e w2 ⟨rfl, hb⟩
      have BB := Lib.hid (B0.out.trans (hb.mono (by simp)))
      have AK2 := Lib.hid (specAllOk_any a2 l2.length c2 l2 hi2 _ (HS1.out.below (hb.mono (by simp; omega))) rfl (by have := hb.size; simp at this; omega))
      rw [hall2] at AK2
      clear hb hall2
      go_wp2_with fail
      refine AK2.out.mono ?_
      rintro e w3 ⟨rfl, hb⟩
      have BB := Lib.hid (BB.out.trans (hb.mono BB.out.size))
      clear hb
      go_wp2
      go_ret
      exact HN.out ▸ ⟨none, 0, rfl, World.ownsRow_nil _ _ _ _, BB.out⟩
    | true =>
      have HY := Lib.hid (mlL_yes (l := l) (l2 := l2) (by rw [List.all_append, hall, hall2]; rfl))
      have HSK := Lib.hid (all_sumM hall2)
      clear hall
      go_enter Try.func18, Try.ntmps18
      go_wp2_with fail
      refine AK.out.mono ?_
      rintro e w2 ⟨rfl, hb⟩
      have RO2 := Lib.hid (owns_below O0.out hb)
      have BB := Lib.hid (B0.out.trans (hb.mono (by simp)))
      have AK2 := Lib.hid (specAllOk_any a2 l2.length c2 l2 hi2 _ (HS1.out.below (hb.mono (by simp; omega))) rfl (by have := hb.size; simp at this; omega))
      rw [hall2] at AK2
      clear hb hall2
      go_wp2_with fail
      refine AK2.out.mono ?_
      rintro e w3 ⟨rfl, hb⟩
      have RO2 := Lib.hid (owns_below RO2.out hb)
      have WB2 := Lib.hid (BB.out.trans (hb.mono BB.out.size))
      clear hb BB AK AK2 O0 B0
      go_wp2
      go_loopw [5, 6] (fun ls i wr => ∃ (k : Nat) (a2 : Option Addr) (n2 c2 : Nat), k ≤ l.length ∧ i = .int .i64 (k : Int) ∧ ls = .slice a2 n2 c2 ∧ n2 = (foldP ([]) ((l.take k).map hIt)).length ∧ wr.ownsRow w.heap.size 48 6 (.slice a2 n2 c2) n2 (flatA (foldP ([]) ((l.take k).map hIt))) ∧ Below w.heap.size w wr) (fun _ i _ => l.length - (intOf i).toNat)
      case atStart => exact ⟨0, _, _, _, Nat.zero_le _, rfl, rfl, by simp [foldP], by simpa [foldP] using RO2.out, WB2.out⟩
      case round =>
        obtain ⟨k, a2, n2, c2, hk, rfl, rfl, hn2, ho, hbr⟩ := hrel
        have HN2 := Lib.hid hn2
        have RO := Lib.hid ho
        have WB := Lib.hid hbr
        have hsz := hbr.size
        clear hn2 ho hbr
        by_cases hlt : k < l.length
        · obtain ⟨b1, off, rfl, hbh, hcell⟩ := Ags.six HR.out (by omega)
          have hbq : b1 < w.heap.size := by omega
          have hlt' : (k : Int) < (l.length : Int) := by omega
          have hnn : 0 ≤ (k : Int) := by omega
          have CK := Lib.hid (hcell k hlt)
          have EK : Hid (foldP ([]) ((l.take (k + 1)).map hIt) = putA (foldP ([]) ((l.take k).map hIt)) (hIt (ael l k))) := Lib.hid (by rw [ael_take hlt, List.map_append]; exact foldP_snoc _ _ _)
          have hyk := HRK.out (ael l k) (by rw [show ael l k = l[k] from rel_lt aD hlt]; exact List.getElem_mem hlt)
          have SOK : Hid (∀ x, x ∈ foldP ([]) ((l.take k).map hIt) → SumOk x) := Lib.hid (foldP_ok (fun x hx => by
            obtain ⟨y, hy, rfl⟩ := List.mem_map.1 hx
            exact HRK.out y (List.mem_of_mem_take hy)) (by simp))
          have hln : (foldP ([]) ((l.take k).map hIt)).length ≤ 1048576 := by
            have h9 := foldP_len ((l.take k).map hIt) ([])
            rw [List.length_map, List.length_take] at h9
            have h8 := (show ([] : List Ag).length = 0 from rfl)
            omega
          have wk : IntKind.i64.wrap ((k : Int) + 1) = ((k + 1 : Nat) : Int) := by rw [show (k : Int) + 1 = ((k + 1 : Nat) : Int) by omega]; exact IntWalk.i64_in _ (by omega)
          clear hcell
          generalize ael l k = X at CK EK hyk
          obtain ⟨y0, y1, y2, y3, y4, y5⟩ := X
          simp only at CK
          have CC : Hid (∀ W : World, Below w.heap.size w W → W.cell? ⟨b1, off + k * 6, none⟩ = some (.int .i64 y0) ∧ W.cell? ⟨b1, off + k * 6 + 1, none⟩ = some (.int .i64 y1) ∧ W.cell? ⟨b1, off + k * 6 + 2, none⟩ = some (.int .i64 y2) ∧ W.cell? ⟨b1, off + k * 6 + 3, none⟩ = some (.int .i64 y3) ∧ W.cell? ⟨b1, off + k * 6 + 4, none⟩ = some (.int .i64 y4) ∧ W.cell? ⟨b1, off + k * 6 + 5, none⟩ = some (.int .i64 y5)) := Lib.hid (fun W hW => by
            have g1 : ∀ q, W.cell? ⟨b1, q, none⟩ = w.cell? ⟨b1, q, none⟩ := fun q => hW.cell (p := ⟨b1, q, none⟩) (show b1 < w.heap.size by omega)
            simp only [g1]
            exact CK.out)
          clear CK
          obtain ⟨p0, p1, p2, p3, p4, p5⟩ := CC.out wr WB.out
          generalize foldP ([]) ((l.take k).map hIt) = A at HN2 RO EK SOK hln
          go_wp2_with fail
          clear p0 p1 p2 p3 p4 p5
          refine (specPut_x a2 n2 c2 A y0 y1 y2 y3 y4 y5 wr.heap.size wr (Ags.of_own RO.out) HN2.out (Nat.le_refl _) hln SOK.out hyk).mono ?_
          rintro e w9 ⟨a3, c3, rfl, ho3, hb3⟩
          have RO := Lib.hid (show w9.ownsRow _ _ _ _ _ (flatA (foldP ([]) ((l.take (k + 1)).map hIt))) by rw [EK.out]; exact owns_less ho3 WB.out.size)
          have HN3 : Hid ((putA A ⟨y0, y1, y2, y3, y4, y5⟩).length = (foldP ([]) ((l.take (k + 1)).map hIt)).length) := Lib.hid (by rw [EK.out]; rfl)
          have WB := Lib.hid (WB.out.trans (hb3.mono WB.out.size))
          clear ho3 hb3
          generalize (putA A ⟨y0, y1, y2, y3, y4, y5⟩).length = n3 at RO HN3 ⊢
          go_wp2
          go_roundw
          case rel => exact ⟨k + 1, a3, n3, c3, by omega, by go_num, rfl, HN3.out, RO.out, WB.out⟩
          case measure => simp [intOf]; omega
        · have hlt' : ¬ (k : Int) < (l.length : Int) := by omega
          obtain rfl : k = l.length := by omega
          rw [List.take_length] at HN2 RO
          rw [map_hIt] at HN2 RO
          have A1OK0 : Hid (∀ x, x ∈ foldP [] l → SumOk x) := Lib.hid (foldP_ok HRK.out (by simp))
          have A1L0 : Hid ((foldP [] l).length + l2.length ≤ 1048576) := Lib.hid (by have h9 := foldP_len l []; have h8 : ([] : List Ag).length = 0 := rfl; omega)
          obtain ⟨A1, hA1⟩ : ∃ A1, A1 = foldP [] l := ⟨_, rfl⟩
          have A1OK : Hid (∀ x, x ∈ A1 → SumOk x) := Lib.hid (by rw [hA1]; exact A1OK0.out)
          have A1L : Hid (A1.length + l2.length ≤ 1048576) := Lib.hid (by rw [hA1]; exact A1L0.out)
          have RO2 := Lib.hid (show wr.ownsRow _ _ _ _ _ (flatA A1) by rw [hA1]; exact RO.out)
          have hn21 : n2 = A1.length := by rw [hA1]; exact HN2.out
          have WB2 := Lib.hid WB.out
          have HA1 := Lib.hid hA1
          clear hA1 RO HN2 A1OK0 A1L0 WB
          subst hn21
          go_wp2
          go_loopw [5, 7] (fun ls i wr => ∃ (k : Nat) (a2 : Option Addr) (n2 c2 : Nat), k ≤ l2.length ∧ i = .int .i64 (k : Int) ∧ ls = .slice a2 n2 c2 ∧ n2 = (foldP (A1) ((l2.take k).map hIt)).length ∧ wr.ownsRow w.heap.size 48 6 (.slice a2 n2 c2) n2 (flatA (foldP (A1) ((l2.take k).map hIt))) ∧ Below w.heap.size w wr) (fun _ i _ => l2.length - (intOf i).toNat)
          case atStart => exact ⟨0, _, _, _, Nat.zero_le _, rfl, rfl, by simp [foldP], by simpa [foldP] using RO2.out, WB2.out⟩
          case round =>
            obtain ⟨k, a2, n2, c2, hk, rfl, rfl, hn2, ho, hbr⟩ := hrel
            have HN2 := Lib.hid hn2
            have RO := Lib.hid ho
            have WB := Lib.hid hbr
            have hsz := hbr.size
            clear hn2 ho hbr
            by_cases hlt : k < l2.length
            · obtain ⟨b1, off, rfl, hbh, hcell⟩ := Ags.six HS.out (by omega)
              have hbq : b1 < w.heap.size := by omega
              have hlt' : (k : Int) < (l2.length : Int) := by omega
              have hnn : 0 ≤ (k : Int) := by omega
              have CK := Lib.hid (hcell k hlt)
              have EK : Hid (foldP (A1) ((l2.take (k + 1)).map hIt) = putA (foldP (A1) ((l2.take k).map hIt)) (hIt (ael l2 k))) := Lib.hid (by rw [ael_take hlt, List.map_append]; exact foldP_snoc _ _ _)
              have hyk := HSK.out (ael l2 k) (by rw [show ael l2 k = l2[k] from rel_lt aD hlt]; exact List.getElem_mem hlt)
              have SOK : Hid (∀ x, x ∈ foldP (A1) ((l2.take k).map hIt) → SumOk x) := Lib.hid (foldP_ok (fun x hx => by
                obtain ⟨y, hy, rfl⟩ := List.mem_map.1 hx
                exact HSK.out y (List.mem_of_mem_take hy)) A1OK.out)
              have hln : (foldP (A1) ((l2.take k).map hIt)).length ≤ 1048576 := by
                have h9 := foldP_len ((l2.take k).map hIt) (A1)
                rw [List.length_map, List.length_take] at h9
                have h8 := A1L.out
                omega
              have wk : IntKind.i64.wrap ((k : Int) + 1) = ((k + 1 : Nat) : Int) := by rw [show (k : Int) + 1 = ((k + 1 : Nat) : Int) by omega]; exact IntWalk.i64_in _ (by omega)
              clear hcell
              generalize ael l2 k = X at CK EK hyk
              obtain ⟨y0, y1, y2, y3, y4, y5⟩ := X
              simp only at CK
              have CC : Hid (∀ W : World, Below w.heap.size w W → W.cell? ⟨b1, off + k * 6, none⟩ = some (.int .i64 y0) ∧ W.cell? ⟨b1, off + k * 6 + 1, none⟩ = some (.int .i64 y1) ∧ W.cell? ⟨b1, off + k * 6 + 2, none⟩ = some (.int .i64 y2) ∧ W.cell? ⟨b1, off + k * 6 + 3, none⟩ = some (.int .i64 y3) ∧ W.cell? ⟨b1, off + k * 6 + 4, none⟩ = some (.int .i64 y4) ∧ W.cell? ⟨b1, off + k * 6 + 5, none⟩ = some (.int .i64 y5)) := Lib.hid (fun W hW => by
                have g1 : ∀ q, W.cell? ⟨b1, q, none⟩ = w.cell? ⟨b1, q, none⟩ := fun q => hW.cell (p := ⟨b1, q, none⟩) (show b1 < w.heap.size by omega)
                simp only [g1]
                exact CK.out)
              clear CK
              obtain ⟨p0, p1, p2, p3, p4, p5⟩ := CC.out wr WB.out
              generalize foldP (A1) ((l2.take k).map hIt) = A at HN2 RO EK SOK hln
              go_wp2_with fail
              clear p0 p1 p2 p3 p4 p5
              refine (specPut_x a2 n2 c2 A y0 y1 y2 y3 y4 y5 wr.heap.size wr (Ags.of_own RO.out) HN2.out (Nat.le_refl _) hln SOK.out hyk).mono ?_
              rintro e w9 ⟨a3, c3, rfl, ho3, hb3⟩
              have RO := Lib.hid (show w9.ownsRow _ _ _ _ _ (flatA (foldP (A1) ((l2.take (k + 1)).map hIt))) by rw [EK.out]; exact owns_less ho3 WB.out.size)
              have HN3 : Hid ((putA A ⟨y0, y1, y2, y3, y4, y5⟩).length = (foldP (A1) ((l2.take (k + 1)).map hIt)).length) := Lib.hid (by rw [EK.out]; rfl)
              have WB := Lib.hid (WB.out.trans (hb3.mono WB.out.size))
              clear ho3 hb3
              generalize (putA A ⟨y0, y1, y2, y3, y4, y5⟩).length = n3 at RO HN3 ⊢
              go_wp2
              go_roundw
              case rel => exact ⟨k + 1, a3, n3, c3, by omega, by go_num, rfl, HN3.out, RO.out, WB.out⟩
              case measure => simp [intOf]; omega
            · have hlt' : ¬ (k : Int) < (l2.length : Int) := by omega
              obtain rfl : k = l2.length := by omega
              rw [List.take_length] at HN2 RO
              have FIN : Hid (FreshR aC 48 6 (mlL l l2) w (.returned (.slice a2 n2 c2)) wr) := Lib.hid (by
                rw [HY.out, foldP_append]
                have hn2 := HN2.out
                have ro := RO.out
                rw [map_hIt, HA1.out] at hn2 ro
                subst hn2
                exact ⟨a2, c2, rfl, ro, WB.out⟩)
              clear RO HN2
              go_wp2
              go_ret
              exact FIN.out
set_option maxHeartbeats 4000000 in
set_option maxRecDepth 100000 in
theorem implMl_any (a a2 : Option Addr) (n n2 c c2 lo lo2 : Nat) (l l2 : List Ag) (w : World) (h1 : w.ownsRow lo 48 6 (.slice a n c) n (flatA l)) (h2 : w.ownsRow lo2 48 6 (.slice a2 n2 c2) n2 (flatA l2)) (hlen : l.length + l2.length ≤ 1048576) :
    Calls Try.prog 19 #[.slice a n c, .slice a2 n2 c2] w (FreshR aC 48 6 (mlL l l2) w) := by
  have e1 := ownR_len aC_len (by omega) h1
  have e2 := ownR_len aC_len (by omega) h2
  have b1 := (Below.refl w.heap.size w).alloc (Nat.le_refl _) (.cells #[.slice a n c, .slice a2 n2 c2] 25)
  have C := Lib.hid (concat_x w.heap.size a a2 n n2 c c2 lo lo2 l l2 25 _ (Blk.new w 25 #[.slice a n c, .slice a2 n2 c2]) (owns_below h1 b1) (owns_below h2 b1) (by omega))
  have B1 := Lib.hid b1
  have HL : Hid ((l ++ l2).length ≤ 1048576) := Lib.hid (by rw [List.length_append]; exact hlen)
  clear h1 h2 b1 e1 e2
  have E1 := Lib.hid (fun h => mlL_yes (l := l) (l2 := l2) h)
  have E2 := Lib.hid (fun h => mlL_no (l := l) (l2 := l2) h)
  generalize mlL l l2 = R at E1 E2 ⊢
  generalize l ++ l2 = X at C HL E1 E2
  go_enter Try.func19, Try.ntmps19
  go_wp2_with fail
  refine C.out.mono ?_
  rintro e w2 ⟨a3, c3, rfl, ho, hb⟩
  have WB := Lib.hid (B1.out.trans (hb.mono (by simp)))
  have XO := Lib.hid (Ags.of_own ho)
  have hs2 := WB.out.size
  clear ho hb
  have AK := Lib.hid (implAllOk_any a3 X.length c3 X w2.heap.size w2 XO.out rfl (Nat.le_refl _))
  cases hall : X.all aggOk with
  | false =>
    have HN := Lib.hid (E2.out hall)
    rw [hall] at AK
    clear hall
    go_wp2_with fail
    refine AK.out.mono ?_
    rintro e w3 ⟨rfl, hb⟩
    have BB := Lib.hid (WB.out.trans (hb.mono hs2))
    clear hb
    go_wp2
    go_ret
    exact HN.out ▸ ⟨none, 0, rfl, World.ownsRow_nil _ _ _ _, BB.out⟩
  | true =>
    have HY := Lib.hid (E1.out hall)
    have HK := Lib.hid (all_sumM hall)
    rw [hall] at AK
    clear hall
    go_wp2_with fail
    refine AK.out.mono ?_
    rintro e w3 ⟨rfl, hb⟩
    have BB := Lib.hid (WB.out.trans (hb.mono hs2))
    have XO3 := Lib.hid (XO.out.below hb)
    have hs3 := hb.size
    clear hb
    go_wp2_with fail
    refine (foldIt_any a3 X.length c3 X w2.heap.size w3 XO3.out rfl hs3 HL.out HK.out).mono ?_
    rintro e w4 ⟨a4, c4, rfl, ho, hb⟩
    have FIN : Hid (FreshR aC 48 6 R w (.returned (.slice a4 (foldP [] (X.map hIt)).length c4)) w4) := Lib.hid (by
      rw [HY.out]
      rw [map_hIt] at ho ⊢
      exact ⟨a4, c4, rfl, owns_less ho BB.out.size, BB.out.trans (hb.mono BB.out.size)⟩)
    clear ho hb
    generalize (foldP [] (X.map hIt)).length = n4 at FIN ⊢
    go_wp2
    go_ret
    exact FIN.out
end Go.Proofs.Ytfkniabfojedkaa
