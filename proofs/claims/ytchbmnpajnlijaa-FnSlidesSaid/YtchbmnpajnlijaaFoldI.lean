/- impl.fold over aggs: what is alike merged, in its order. (made by tools/mkfoldi.py) -/
import Derived.Test.YtchbmnpajnlijaaStab9
import Derived.Test.YtchbmnpajnlijaaMergeRow
import Derived.Test.YtchbmnpajnlijaaAppA
import Derived.Test.YtchbmnpajnlijaaPlainFold
import Derived.Test.YtchbmnpajnlijaaPut8
namespace Go.Proofs.Ytchbmnpajnlijaa
open Go.RowKit Stab
/-- As it is. -/
def hIt (S : Ag) : Ag := S
/-- In the window 0. -/
def hAll (S : Ag) : Ag := ⟨0, S.key, S.cnt, S.sum, S.mn, S.mx⟩
theorem run_make0_Ag (n : Nat) (hn : n ≤ 1048576) : ∃ CS : Array Value, CS.size = n * 6 ∧ ∀ W : World, (Instr.makeSlice 45 (.int .i64 0) (.int .i64 (n : Int))).run Try.prog W = .ok (.slice (some ⟨W.heap.size, 0, none⟩) 0 n) (W.alloc (.cells CS 86)) := by
  obtain ⟨i, hi, hzz⟩ := Option.map_eq_some_iff.1 infoAgg
  simp only [Prod.mk.injEq] at hzz
  obtain ⟨hz, hs, hb⟩ := hzz
  refine ⟨madeCells (Value.cells (.agg #[.int .i64 0, .int .i64 0, .int .i64 0, .int .i64 0, .int .i64 0, .int .i64 0])) (n * 6), size_madeCells _ _, fun W => ?_⟩
  have h := run_make (P := Try.prog) W 45 86 i _ Try.underlying45 hi hz .i64 .i64 0 n (by omega) (by omega) (by rw [hb]; omega) (by omega)
  simp only [Int.toNat_natCast, hs] at h
  exact h
theorem own_made0 (W : World) (CS : Array Value) (n lo : Nat) (hs : CS.size = n * 6) (hn : n ≤ 1048576) (hlo : lo ≤ W.heap.size) : (W.alloc (.cells CS 86)).ownsRow lo 86 6 (.slice (some ⟨W.heap.size, 0, none⟩) 0 n) 0 (flatA []) :=
  ⟨rfl, .inr ⟨_, n, CS, rfl, hlo, Blk.new _ _ _, Nat.zero_le _, by unfold maxLen; omega, hs, rfl⟩⟩
set_option maxHeartbeats 1000000 in
set_option maxRecDepth 100000 in
/-- A row of none. -/
theorem sortNone_x (a : Option Addr) (c : Nat) (w : World) : Calls Try.prog 83 #[.slice a 0 c, .func (.func 106) #[] #[]] w fun e w' => e = .returned (.tuple #[]) ∧ w = w' := by
  have I : ∀ W, Calls Try.prog 134 #[.slice a 0 c, .int .i64 0, .int .i64 0, .func (.func 106) #[] #[]] W fun e w' => e = .returned (.tuple #[]) ∧ W = w' := fun W => by
    go_enter Try.func134, Try.ntmps134
    go_wp2
    refine wp_loop_rounds 1 ?_
    rw [rounds_succ]
    go_wp2
    go_end0
    exact ⟨rfl, rfl⟩
  have S : ∀ W, Calls Try.prog 110 #[.slice a 0 c, .int .i64 0, .func (.func 106) #[] #[]] W fun e w' => e = .returned (.tuple #[]) ∧ W = w' := fun W => by
    go_enter Try.func110, Try.ntmps110
    go_wp2
    refine wp_loop_rounds 1 ?_
    rw [rounds_succ]
    go_wp2_with fail
    refine (I _).mono ?_
    rintro e w' ⟨rfl, rfl⟩
    go_wp2
    refine wp_loop_rounds 1 ?_
    rw [rounds_succ]
    go_wp2
    go_end0
    exact ⟨rfl, rfl⟩
  go_enter Try.func83, Try.ntmps83
  go_wp2_with fail
  refine (S _).mono ?_
  rintro e w' ⟨rfl, rfl⟩
  go_wp2
  go_end0
  exact ⟨rfl, rfl⟩
/-- A row of the call's own is sorted. -/
theorem sort_any (a : Option Addr) (n c lo : Nat) (X : List Ag) (w : World) (h : w.ownsRow lo 86 6 (.slice a n c) n (flatA X)) (hlo : lo ≤ w.heap.size) (hbig : n ≤ 4194304) :
    Calls Try.prog 83 #[.slice a n c, .func (.func 106) #[] #[]] w fun e w' => e = .returned (.tuple #[]) ∧ ∃ Z, StS aheadA Z X ∧ w'.ownsRow lo 86 6 (.slice a n c) n (flatA Z) ∧ Below lo w w' := by
  have hn := ownR_len aC_len (by omega) h
  rcases Nat.eq_zero_or_pos n with h0 | h0
  · subst h0
    refine (sortNone_x a c w).mono ?_
    rintro e w' ⟨rfl, rfl⟩
    have : X = [] := List.length_eq_zero_iff.1 hn.symm
    subst this
    exact ⟨rfl, [], StS.self List.Pairwise.nil, h, Below.refl _ _⟩
  · obtain ⟨g, rfl, hg, hgl⟩ := ownR_block h h0
    refine (sortStable_x g c lo n X w h hbig).mono ?_
    rintro e w' ⟨rfl, Z, hZ, hr⟩
    exact ⟨rfl, Z, hZ, hr.own, below_grown_own hr.grown hg hlo⟩
theorem asItIs_x (u0 u1 u2 u3 u4 u5 : Int) (w : World) : Calls Try.prog 75 #[(.agg #[.int .i64 u0, .int .i64 u1, .int .i64 u2, .int .i64 u3, .int .i64 u4, .int .i64 u5])] w fun e w' => e = .returned (.agg #[.int .i64 u0, .int .i64 u1, .int .i64 u2, .int .i64 u3, .int .i64 u4, .int .i64 u5]) ∧ Below w.heap.size w w' := by
  have BB := Lib.hid fun d : Array Value => (((Below.refl w.heap.size w).alloc (Nat.le_refl _) (.cells #[.int .i64 u0, .int .i64 u1, .int .i64 u2, .int .i64 u3, .int .i64 u4, .int .i64 u5] 86)).alloc (by simp) (.cells d 86))
  go_enter Try.func75, Try.ntmps75
  go_wp2
  exact bodyPost_ret (v := (.agg #[.int .i64 u0, .int .i64 u1, .int .i64 u2, .int .i64 u3, .int .i64 u4, .int .i64 u5])) (by simp [results, Try.results75, go_sem]) rfl ⟨rfl, BB.out _⟩
theorem ofAll_x (u0 u1 u2 u3 u4 u5 : Int) (w : World) : Calls Try.prog 109 #[(.agg #[.int .i64 u0, .int .i64 u1, .int .i64 u2, .int .i64 u3, .int .i64 u4, .int .i64 u5])] w fun e w' => e = .returned (.agg #[.int .i64 0, .int .i64 u1, .int .i64 u2, .int .i64 u3, .int .i64 u4, .int .i64 u5]) ∧ Below w.heap.size w w' := by
  have BB := Lib.hid fun c d : Array Value => (((Below.refl w.heap.size w).alloc (Nat.le_refl _) (.cells c 86)).alloc (by simp) (.cells d 86))
  go_enter Try.func109, Try.ntmps109
  go_wp2
  exact bodyPost_ret (v := (.agg #[.int .i64 0, .int .i64 u1, .int .i64 u2, .int .i64 u3, .int .i64 u4, .int .i64 u5])) (by simp [results, Try.results109, go_sem]) rfl ⟨rfl, BB.out _ _⟩
theorem foldP_ok {l : List Ag} (hl : ∀ x, x ∈ l → SumOk x) : ∀ {l0 : List Ag}, (∀ x, x ∈ l0 → SumOk x) → ∀ x, x ∈ foldP l0 l → SumOk x := by
  induction l with
  | nil => intro l0 h; exact h
  | cons a l ih =>
    intro l0 h
    rw [foldP_cons]
    exact ih (fun x hx => hl x (by simp [hx])) (put_ok h (hl a (by simp)))
set_option maxHeartbeats 8000000 in
set_option maxRecDepth 100000 in
theorem foldIt_any (a : Option Addr) (n c : Nat) (l : List Ag) (hi : Nat) (w : World) (hr : Ags w hi a c l) (hn : n = l.length) (hB : hi ≤ w.heap.size) (hlen : l.length ≤ 1048576) (hok : ∀ x, x ∈ l → SumOk x) :
    Calls Try.prog 74 #[.slice a n c, .func (.func 75) #[] #[]] w (FreshR aC 86 6 (foldP [] (l.map hIt)) w) := by
  subst hn
  have m1 := hr.cap
  have m2 := hr.big
  have HR := Lib.hid hr
  have HOK := Lib.hid (show ∀ x, x ∈ l.map hIt → SumOk x from fun x hx => by
    obtain ⟨y, hy, rfl⟩ := List.mem_map.1 hx
    exact hok y hy)
  obtain ⟨CS, hcs, hmk⟩ := run_make0_Ag l.length hlen
  have O0 := Lib.hid (own_made0 w CS l.length w.heap.size hcs hlen (Nat.le_refl _))
  have B0 := Lib.hid ((Below.refl w.heap.size w).alloc (Nat.le_refl _) (.cells CS 86))
  clear hr hok hcs
  go_enter Try.func74, Try.ntmps74
  go_wp2
  clear hmk
  go_loopw [5, 17] (fun ls i wr => ∃ (k : Nat) (a2 : Option Addr) (n2 c2 : Nat), k ≤ l.length ∧ i = .int .i64 (k : Int) ∧ ls = .slice a2 n2 c2 ∧ n2 = ((l.take k).map hIt).length ∧ n2 ≤ k ∧ wr.ownsRow w.heap.size 86 6 (.slice a2 n2 c2) n2 (flatA ((l.take k).map hIt)) ∧ Below w.heap.size w wr) (fun _ i _ => l.length - (intOf i).toNat)
  case atStart => exact ⟨0, _, _, _, Nat.zero_le _, rfl, rfl, rfl, Nat.le_refl _, O0.out, B0.out⟩
  case round =>
    obtain ⟨k, a2, n2, c2, hk, rfl, rfl, hn2, hnk, ho, hbr⟩ := hrel
    have HN2 := Lib.hid hn2
    have RO := Lib.hid ho
    have WB := Lib.hid hbr
    have hsz := hbr.size
    clear hn2 ho hbr
    by_cases hlt : k < l.length
    · obtain ⟨b1, off, rfl, hbh, hcell⟩ := Ags.six HR.out (by omega)
      have hbq : b1 < w.heap.size := by omega
      have hlt' : (k : Int) < (l.length : Int) := by omega
      have hnn : 0 ≤ (k : Int) := by omega
      have CK := Lib.hid (hcell k hlt)
      have EK : Hid ((l.take (k + 1)).map hIt = (l.take k).map hIt ++ [hIt (ael l k)]) := Lib.hid (by rw [ael_take hlt]; simp)
      have wk : IntKind.i64.wrap ((k : Int) + 1) = ((k + 1 : Nat) : Int) := by rw [show (k : Int) + 1 = ((k + 1 : Nat) : Int) by omega]; exact IntWalk.i64_in _ (by omega)
      clear hcell
      generalize ael l k = X at CK EK
      obtain ⟨y0, y1, y2, y3, y4, y5⟩ := X
      simp only at CK
      have CC : Hid (∀ W : World, Below w.heap.size w W → W.cell? ⟨b1, off + k * 6, none⟩ = some (.int .i64 y0) ∧ W.cell? ⟨b1, off + k * 6 + 1, none⟩ = some (.int .i64 y1) ∧ W.cell? ⟨b1, off + k * 6 + 2, none⟩ = some (.int .i64 y2) ∧ W.cell? ⟨b1, off + k * 6 + 3, none⟩ = some (.int .i64 y3) ∧ W.cell? ⟨b1, off + k * 6 + 4, none⟩ = some (.int .i64 y4) ∧ W.cell? ⟨b1, off + k * 6 + 5, none⟩ = some (.int .i64 y5)) := Lib.hid (fun W hW => by
        have g1 : ∀ q, W.cell? ⟨b1, q, none⟩ = w.cell? ⟨b1, q, none⟩ := fun q => hW.cell (p := ⟨b1, q, none⟩) (show b1 < w.heap.size by omega)
        simp only [g1]
        exact CK.out)
      clear CK
      obtain ⟨p0, p1, p2, p3, p4, p5⟩ := CC.out wr WB.out
      have RO := Lib.hid (RO.out.alloc (.cells #[.int .i64 y0, .int .i64 y1, .int .i64 y2, .int .i64 y3, .int .i64 y4, .int .i64 y5] 86))
      have WB := Lib.hid (WB.out.alloc hsz (.cells #[.int .i64 y0, .int .i64 y1, .int .i64 y2, .int .i64 y3, .int .i64 y4, .int .i64 y5] 86))
      go_wp2_with fail
      clear p0 p1 p2 p3 p4 p5
      refine (asItIs_x y0 y1 y2 y3 y4 y5 _).mono ?_
      rintro e w2 ⟨rfl, hb⟩
      have RO := Lib.hid (owns_below RO.out hb)
      have WB := Lib.hid (WB.out.trans (hb.mono WB.out.size))
      have hs2 := WB.out.size
      clear hb
      obtain ⟨a3, c3, w9, hr3, ho3, hb3, _⟩ := appendA (w := w2) ⟨y0, y1, y2, y3, y4, y5⟩ HN2.out RO.out hs2 (by omega) 45
      simp only at hr3
      have R3 := Lib.hid hr3
      clear hr3
      go_wp2_with (at_builtin; refine Lib.wpList_append_run _ rfl _ _ _ _ rfl _ _ rfl rfl _ _ R3.out ?_)
      have HN3 : Hid (n2 + 1 = ((l.take (k + 1)).map hIt).length) := Lib.hid (by rw [EK.out, List.length_append, ← HN2.out]; rfl)
      have RO := Lib.hid (show w9.ownsRow _ _ _ _ _ (flatA ((l.take (k + 1)).map hIt)) by rw [EK.out]; exact ho3)
      have WB := Lib.hid (WB.out.trans hb3)
      clear ho3 hb3 R3
      go_wp2
      go_roundw
      case rel => exact ⟨k + 1, a3, _, c3, by omega, by go_num, rfl, HN3.out, by omega, RO.out, WB.out⟩
      case measure => simp [intOf]; omega
    · have hlt' : ¬ (k : Int) < (l.length : Int) := by omega
      obtain rfl : k = l.length := by omega
      rw [List.take_length] at HN2 RO
      have hn2l : n2 = l.length := by have := HN2.out; simpa using this
      have hbig : n2 ≤ 4194304 := by omega
      clear hn2l
      obtain ⟨X, hX⟩ : ∃ X, X = l.map hIt := ⟨_, rfl⟩
      rw [← hX] at HN2 RO HOK
      have HXX := Lib.hid hX
      clear hX
      go_wp2_with fail
      refine (sort_any a2 n2 c2 w.heap.size X wr RO.out hsz hbig).mono ?_
      rintro e wS ⟨rfl, Z, hZ, hoZ, hbZ⟩
      have FZ := Lib.hid (foldP_sts hZ)
      have SZ := Lib.hid hZ.srt
      have HOZ : Hid (∀ z, z ∈ Z → SumOk z) := Lib.hid (fun z hz => HOK.out z (hZ.kin.mem swoA hz))
      have LZ := Lib.hid (ownR_len aC_len (by omega) hoZ)
      have HZ := Lib.hid (Ags.of_own hoZ)
      have WS := Lib.hid (WB.out.trans hbZ)
      have hcapZ := ownR_cap hoZ
      clear hZ hoZ hbZ WB RO O0 B0 HR HOK HN2
      go_wp2
      go_loopw [8, 32] (fun ls i wr => ∃ (k : Nat) (a3 : Option Addr) (n3 c3 : Nat), k ≤ n2 ∧ i = .int .i64 (k : Int) ∧ ls = .slice a3 n3 c3 ∧ n3 = (foldP [] (Z.take k)).length ∧ n3 ≤ k ∧ wr.ownsRow wS.heap.size 86 6 (.slice a3 n3 c3) n3 (flatA (foldP [] (Z.take k))) ∧ Below wS.heap.size wS wr) (fun _ i _ => n2 - (intOf i).toNat)
      case atStart => exact ⟨0, _, _, _, Nat.zero_le _, rfl, rfl, by simp [foldP], by omega, by simpa [foldP, flatA, flatR] using World.ownsRow_nil _ _ _ _, Below.refl _ _⟩
      case round =>
        obtain ⟨k, a3, n3, c3, hk, rfl, rfl, hn3, hnk3, ho, hbr⟩ := hrel
        have HN3 := Lib.hid hn3
        have RO := Lib.hid ho
        have WB := Lib.hid hbr
        have hsz3 := hbr.size
        clear hn3 ho hbr
        by_cases hlt : k < n2
        · have hkZ : k < Z.length := by have := LZ.out; omega
          obtain ⟨b1, off, rfl, hbh, hcell⟩ := Ags.six HZ.out (by omega)
          have hlt' : (k : Int) < (n2 : Int) := by omega
          have hnn : 0 ≤ (k : Int) := by omega
          have CK := Lib.hid (hcell k hkZ)
          have EK : Hid (foldP [] (Z.take (k + 1)) = putA (foldP [] (Z.take k)) (ael Z k)) := Lib.hid (by rw [ael_take hkZ, foldP_snoc])
          have ASC := Lib.hid (foldP_asc (Z.take k) asc_nil)
          have LEK : Hid (∀ x, x ∈ foldP [] (Z.take k) → aheadA (ael Z k) x = false) := Lib.hid (fun x hx => foldP_le SZ.out hkZ hx)
          have hyk := HOZ.out (ael Z k) (by rw [show ael Z k = Z[k] from rel_lt aD hkZ]; exact List.getElem_mem hkZ)
          have SOK : Hid (∀ x, x ∈ foldP [] (Z.take k) → SumOk x) := Lib.hid (foldP_ok (fun x hx => HOZ.out x (List.mem_of_mem_take hx)) (by simp))
          have wk : IntKind.i64.wrap ((k : Int) + 1) = ((k + 1 : Nat) : Int) := by rw [show (k : Int) + 1 = ((k + 1 : Nat) : Int) by omega]; exact IntWalk.i64_in _ (by omega)
          clear hcell
          generalize ael Z k = Y at CK EK LEK hyk
          obtain ⟨y0, y1, y2, y3, y4, y5⟩ := Y
          simp only at CK
          have CC : Hid (∀ W : World, Below wS.heap.size wS W → W.cell? ⟨b1, off + k * 6, none⟩ = some (.int .i64 y0) ∧ W.cell? ⟨b1, off + k * 6 + 1, none⟩ = some (.int .i64 y1) ∧ W.cell? ⟨b1, off + k * 6 + 2, none⟩ = some (.int .i64 y2) ∧ W.cell? ⟨b1, off + k * 6 + 3, none⟩ = some (.int .i64 y3) ∧ W.cell? ⟨b1, off + k * 6 + 4, none⟩ = some (.int .i64 y4) ∧ W.cell? ⟨b1, off + k * 6 + 5, none⟩ = some (.int .i64 y5)) := Lib.hid (fun W hW => by
            have g1 : ∀ q, W.cell? ⟨b1, q, none⟩ = wS.cell? ⟨b1, q, none⟩ := fun q => hW.cell (p := ⟨b1, q, none⟩) (show b1 < wS.heap.size by omega)
            simp only [g1]
            exact CK.out)
          clear CK
          obtain ⟨p0, p1, p2, p3, p4, p5⟩ := CC.out wr WB.out
          have KS := Lib.hid (Blk.new wr 86 #[.int .i64 y0, .int .i64 y1, .int .i64 y2, .int .i64 y3, .int .i64 y4, .int .i64 y5])
          have RO := Lib.hid (RO.out.alloc (.cells #[.int .i64 y0, .int .i64 y1, .int .i64 y2, .int .i64 y3, .int .i64 y4, .int .i64 y5] 86))
          have WB := Lib.hid (WB.out.alloc hsz3 (.cells #[.int .i64 y0, .int .i64 y1, .int .i64 y2, .int .i64 y3, .int .i64 y4, .int .i64 y5] 86))
          generalize foldP [] (Z.take k) = A at HN3 RO EK ASC LEK SOK
          rcases List.eq_nil_or_concat A with hA | ⟨A', x, hA⟩
          · subst hA
            have EK : Hid (foldP [] (Z.take (k + 1)) = [⟨y0, y1, y2, y3, y4, y5⟩]) := Lib.hid (by rw [EK.out]; rfl)
            have hn30 : n3 = 0 := by have := HN3.out; simpa using this
            subst hn30
            have wl : IntKind.i64.wrap (((0 : Nat) : Int) - 1) = -1 := by decide
            have hd : decide ((0 : Int) ≤ -1) = false := by decide
            go_wp2_with fail
            go_quiet (fail)
            clear p0 p1 p2 p3 p4 p5
            have KS := Lib.hid (show Blk ((wr.alloc (.cells #[.int .i64 y0, .int .i64 y1, .int .i64 y2, .int .i64 y3, .int .i64 y4, .int .i64 y5] 86)).drewN nq) _ _ _ from KS.out)
            have RO := Lib.hid (owns_drewN RO.out nq)
            have WB := Lib.hid (below_drewN WB.out nq)
            have hbk : wr.heap.size < ((wr.alloc (.cells #[.int .i64 y0, .int .i64 y1, .int .i64 y2, .int .i64 y3, .int .i64 y4, .int .i64 y5] 86)).drewN nq).heap.size := KS.out.lt
            generalize (wr.alloc (.cells #[.int .i64 y0, .int .i64 y1, .int .i64 y2, .int .i64 y3, .int .i64 y4, .int .i64 y5] 86)).drewN nq = w7 at KS RO WB hbk ⊢
            have q0 : w7.cell? ⟨wr.heap.size, 0, none⟩ = some (.int .i64 y0) := KS.out.cell 0; have q1 : w7.cell? ⟨wr.heap.size, 1, none⟩ = some (.int .i64 y1) := KS.out.cell 1; have q2 : w7.cell? ⟨wr.heap.size, 2, none⟩ = some (.int .i64 y2) := KS.out.cell 2; have q3 : w7.cell? ⟨wr.heap.size, 3, none⟩ = some (.int .i64 y3) := KS.out.cell 3; have q4 : w7.cell? ⟨wr.heap.size, 4, none⟩ = some (.int .i64 y4) := KS.out.cell 4; have q5 : w7.cell? ⟨wr.heap.size, 5, none⟩ = some (.int .i64 y5) := KS.out.cell 5
            obtain ⟨a4, c4, w9, hr3, ho3, hb3, _⟩ := appendA (w := w7) ⟨y0, y1, y2, y3, y4, y5⟩ (n := 0) (l := []) (by simp) RO.out (by have := WB.out.size; omega) (by omega) 45
            simp only at hr3
            have R3 := Lib.hid hr3
            clear hr3
            go_wp2_with (at_builtin; refine Lib.wpList_append_run _ rfl _ _ _ _ rfl _ _ rfl rfl _ _ R3.out ?_)
            have HN4 : Hid (0 + 1 = (foldP [] (Z.take (k + 1))).length) := Lib.hid (by rw [EK.out]; have := HN3.out; simp at this ⊢)
            have RO := Lib.hid (show w9.ownsRow _ _ _ _ _ (flatA (foldP [] (Z.take (k + 1)))) by rw [EK.out]; exact ho3)
            have WB := Lib.hid (WB.out.trans (hb3.mono (by omega)))
            clear ho3 hb3 R3 q0 q1 q2 q3 q4 q5
            go_wp2
            go_roundw
            case rel => exact ⟨k + 1, a4, _, c4, by omega, by go_num, rfl, HN4.out, by omega, RO.out, WB.out⟩
            case measure => simp [intOf]; omega
          · simp only [List.concat_eq_append] at hA
            subst hA
            obtain ⟨m, hm⟩ : ∃ m, m = A'.length := ⟨_, rfl⟩
            have hn3m : n3 = m + 1 := by have := HN3.out; simp at this; omega
            subst hn3m
            have HM := Lib.hid hm
            have wl : IntKind.i64.wrap (((m + 1 : Nat) : Int) - 1) = (m : Int) := by rw [show ((m + 1 : Nat) : Int) - 1 = (m : Int) by omega]; exact IntWalk.i64_in _ (by omega)
            have hd : decide ((0 : Int) ≤ (m : Int)) = true := by simp
            have hm0 : (0 : Int) ≤ (m : Int) := by omega
            have hm1 : (m : Int) < ((m + 1 : Nat) : Int) := by omega
            have hm2 : (m : Int) < (m : Int) + 1 := by omega
            have wl2 : IntKind.i64.wrap ((m : Int) + 1 - 1) = (m : Int) := by rw [show (m : Int) + 1 - 1 = (m : Int) by omega]; exact IntWalk.i64_in _ (by omega)
            obtain ⟨g2, rfl, hg2, hg2l⟩ := ownR_block RO.out (by omega)
            have exm : ael (A' ++ [x]) m = x := ael_app (Q := []) hm
            have hxok := SOK.out x (by simp)
            have hxle := LEK.out x (by simp)
            have CX := Lib.hid (fun (W : World) (h : W.ownsRow wS.heap.size 86 6 (.slice (some ⟨g2, 0, none⟩) (m + 1) c3) (m + 1) (flatA (A' ++ [x]))) => own_ag h m (by simp; omega))
            rw [exm] at CX
            clear hm exm
            obtain ⟨u0, u1, u2, u3, u4, u5⟩ := x
            simp only at CX
            have CM := Lib.hid (fun W => cmpA_x u0 u1 u2 u3 u4 u5 y0 y1 y2 y3 y4 y5 W)
            cases hsm : sameA ⟨u0, u1, u2, u3, u4, u5⟩ ⟨y0, y1, y2, y3, y4, y5⟩ with
            | true =>
              have hz0 : (cmpA ⟨u0, u1, u2, u3, u4, u5⟩ ⟨y0, y1, y2, y3, y4, y5⟩ == 0) = true := by rw [cmpA_zero.2 hsm]; rfl
              have EK : Hid (foldP [] (Z.take (k + 1)) = A' ++ [sumA ⟨u0, u1, u2, u3, u4, u5⟩ ⟨y0, y1, y2, y3, y4, y5⟩]) := Lib.hid (by rw [EK.out]; exact put_last ASC.out hsm)
              clear hsm
              generalize cmpA ⟨u0, u1, u2, u3, u4, u5⟩ ⟨y0, y1, y2, y3, y4, y5⟩ = z9 at CM hz0
              go_wp2_with fail
              clear p0 p1 p2 p3 p4 p5
              generalize wr.alloc (.cells #[.int .i64 y0, .int .i64 y1, .int .i64 y2, .int .i64 y3, .int .i64 y4, .int .i64 y5] 86) = w0 at KS RO WB ⊢
              obtain ⟨x0, x1, x2, x3, x4, x5⟩ := CX.out w0.drew RO.out.drew
              have q0 : w0.drew.cell? ⟨wr.heap.size, 0, none⟩ = some (.int .i64 y0) := KS.out.drew.cell 0; have q1 : w0.drew.cell? ⟨wr.heap.size, 1, none⟩ = some (.int .i64 y1) := KS.out.drew.cell 1; have q2 : w0.drew.cell? ⟨wr.heap.size, 2, none⟩ = some (.int .i64 y2) := KS.out.drew.cell 2; have q3 : w0.drew.cell? ⟨wr.heap.size, 3, none⟩ = some (.int .i64 y3) := KS.out.drew.cell 3; have q4 : w0.drew.cell? ⟨wr.heap.size, 4, none⟩ = some (.int .i64 y4) := KS.out.drew.cell 4; have q5 : w0.drew.cell? ⟨wr.heap.size, 5, none⟩ = some (.int .i64 y5) := KS.out.drew.cell 5
              go_region_held3 (fun W => W.cell? ⟨g2, m * 6, none⟩ = some (.int .i64 u0) ∧ W.cell? ⟨g2, m * 6 + 1, none⟩ = some (.int .i64 u1) ∧ W.cell? ⟨g2, m * 6 + 2, none⟩ = some (.int .i64 u2) ∧ W.cell? ⟨g2, m * 6 + 3, none⟩ = some (.int .i64 u3) ∧ W.cell? ⟨g2, m * 6 + 4, none⟩ = some (.int .i64 u4) ∧ W.cell? ⟨g2, m * 6 + 5, none⟩ = some (.int .i64 u5) ∧ W.cell? ⟨wr.heap.size, 0, none⟩ = some (.int .i64 y0) ∧ W.cell? ⟨wr.heap.size, 1, none⟩ = some (.int .i64 y1) ∧ W.cell? ⟨wr.heap.size, 2, none⟩ = some (.int .i64 y2) ∧ W.cell? ⟨wr.heap.size, 3, none⟩ = some (.int .i64 y3) ∧ W.cell? ⟨wr.heap.size, 4, none⟩ = some (.int .i64 y4) ∧ W.cell? ⟨wr.heap.size, 5, none⟩ = some (.int .i64 y5))
                (exact ⟨x0, x1, x2, x3, x4, x5, q0, q1, q2, q3, q4, q5⟩)
                (first | (go_at_call 106; refine (CM.out _).mono ?_; rintro e w8 ⟨rfl, hb⟩; have KS := Lib.hid (KS.out.drew.below hb); have RO := Lib.hid (owns_below RO.out.drew hb); have WB := Lib.hid (WB.out.drew.trans (hb.mono WB.out.drew.size)); obtain ⟨x0, x1, x2, x3, x4, x5⟩ := CX.out w8 RO.out; have q0 : w8.cell? ⟨wr.heap.size, 0, none⟩ = some (.int .i64 y0) := KS.out.cell 0; have q1 : w8.cell? ⟨wr.heap.size, 1, none⟩ = some (.int .i64 y1) := KS.out.cell 1; have q2 : w8.cell? ⟨wr.heap.size, 2, none⟩ = some (.int .i64 y2) := KS.out.cell 2; have q3 : w8.cell? ⟨wr.heap.size, 3, none⟩ = some (.int .i64 y3) := KS.out.cell 3; have q4 : w8.cell? ⟨wr.heap.size, 4, none⟩ = some (.int .i64 y4) := KS.out.cell 4; have q5 : w8.cell? ⟨wr.heap.size, 5, none⟩ = some (.int .i64 y5) := KS.out.cell 5; clear hb))
              all_goals
                clear x0 x1 x2 x3 x4 x5 q0 q1 q2 q3 q4 q5
                have HM6 : Hid (Mid w8 g2 (m * 6) u2 u3 u4 u5) := Lib.hid (by obtain ⟨_, _, z2, z3, z4, z5⟩ := CX.out w8 RO.out; exact ⟨z2, z3, z4, z5, RO.out.frozenAt⟩)
                have hg8 := (RO.out.lt g2 rfl).2
                have q0 : w8.cell? ⟨wr.heap.size, 0, none⟩ = some (.int .i64 y0) := KS.out.cell 0; have q1 : w8.cell? ⟨wr.heap.size, 1, none⟩ = some (.int .i64 y1) := KS.out.cell 1; have q2 : w8.cell? ⟨wr.heap.size, 2, none⟩ = some (.int .i64 y2) := KS.out.cell 2; have q3 : w8.cell? ⟨wr.heap.size, 3, none⟩ = some (.int .i64 y3) := KS.out.cell 3; have q4 : w8.cell? ⟨wr.heap.size, 4, none⟩ = some (.int .i64 y4) := KS.out.cell 4; have q5 : w8.cell? ⟨wr.heap.size, 5, none⟩ = some (.int .i64 y5) := KS.out.cell 5
                go_wp2_with fail
                go_still_tail 4, (by kernel_rfl)
                change wpList _ _ _ _ _ w8.drew
                go_wp2_with fail
                refine (merge_x g2 (m * 6) u2 u3 u4 u5 y0 y1 y2 y3 y4 y5 w8.drew hg8 HM6.out.drew hxok.1 hxok.2 hyk.1 hyk.2).mono ?_
                rintro e w9 ⟨rfl, hmg⟩
                have G9 := hmg.grown
                have RO := Lib.hid (hmg.own (show w8.drew.ownsRow _ _ _ _ _ _ from RO.out) (show m < (A' ++ [(⟨u0, u1, u2, u3, u4, u5⟩ : Ag)]).length by simp; have := HM.out; omega))
                have WB := Lib.hid (WB.out.drew.trans (below_grown_own G9 hg2 WB.out.drew.size))
                clear G9 hmg q0 q1 q2 q3 q4 q5
                have EL : Hid ((A' ++ [(⟨u0, u1, u2, u3, u4, u5⟩ : Ag)]).set m ⟨(ael (A' ++ [(⟨u0, u1, u2, u3, u4, u5⟩ : Ag)]) m).win, (ael (A' ++ [(⟨u0, u1, u2, u3, u4, u5⟩ : Ag)]) m).key, capS (u2 + y2), capS (u3 + y3), minI u4 y4, maxI u5 y5⟩ = foldP [] (Z.take (k + 1))) := Lib.hid (by
                  rw [EK.out, ael_app (Q := []) HM.out, List.set_append_right _ _ (by have := HM.out; omega), show m - A'.length = 0 by have := HM.out; omega]
                  rfl)
                have RO := Lib.hid (show w9.ownsRow _ _ _ _ _ (flatA (foldP [] (Z.take (k + 1)))) by rw [← EL.out]; exact RO.out)
                have HN4 : Hid (m + 1 = (foldP [] (Z.take (k + 1))).length) := Lib.hid (by rw [EK.out]; simp; exact HM.out)
                go_wp2
                go_roundw
                case rel => exact ⟨k + 1, _, m + 1, c3, by omega, by go_num, rfl, HN4.out, by omega, RO.out, WB.out⟩
                case measure => simp [intOf]; omega
            | false =>
              have hz0 : (cmpA ⟨u0, u1, u2, u3, u4, u5⟩ ⟨y0, y1, y2, y3, y4, y5⟩ == 0) = false := beq_eq_false_iff_ne.2 (fun h => by rw [cmpA_zero.1 h] at hsm; cases hsm)
              have EK : Hid (foldP [] (Z.take (k + 1)) = A' ++ [(⟨u0, u1, u2, u3, u4, u5⟩ : Ag)] ++ [⟨y0, y1, y2, y3, y4, y5⟩]) := Lib.hid (by rw [EK.out]; exact put_more ASC.out hsm hxle)
              clear hsm
              generalize cmpA ⟨u0, u1, u2, u3, u4, u5⟩ ⟨y0, y1, y2, y3, y4, y5⟩ = z9 at CM hz0
              go_wp2_with fail
              clear p0 p1 p2 p3 p4 p5
              generalize wr.alloc (.cells #[.int .i64 y0, .int .i64 y1, .int .i64 y2, .int .i64 y3, .int .i64 y4, .int .i64 y5] 86) = w0 at KS RO WB ⊢
              obtain ⟨x0, x1, x2, x3, x4, x5⟩ := CX.out w0.drew RO.out.drew
              have q0 : w0.drew.cell? ⟨wr.heap.size, 0, none⟩ = some (.int .i64 y0) := KS.out.drew.cell 0; have q1 : w0.drew.cell? ⟨wr.heap.size, 1, none⟩ = some (.int .i64 y1) := KS.out.drew.cell 1; have q2 : w0.drew.cell? ⟨wr.heap.size, 2, none⟩ = some (.int .i64 y2) := KS.out.drew.cell 2; have q3 : w0.drew.cell? ⟨wr.heap.size, 3, none⟩ = some (.int .i64 y3) := KS.out.drew.cell 3; have q4 : w0.drew.cell? ⟨wr.heap.size, 4, none⟩ = some (.int .i64 y4) := KS.out.drew.cell 4; have q5 : w0.drew.cell? ⟨wr.heap.size, 5, none⟩ = some (.int .i64 y5) := KS.out.drew.cell 5
              go_region_held3 (fun W => W.cell? ⟨g2, m * 6, none⟩ = some (.int .i64 u0) ∧ W.cell? ⟨g2, m * 6 + 1, none⟩ = some (.int .i64 u1) ∧ W.cell? ⟨g2, m * 6 + 2, none⟩ = some (.int .i64 u2) ∧ W.cell? ⟨g2, m * 6 + 3, none⟩ = some (.int .i64 u3) ∧ W.cell? ⟨g2, m * 6 + 4, none⟩ = some (.int .i64 u4) ∧ W.cell? ⟨g2, m * 6 + 5, none⟩ = some (.int .i64 u5) ∧ W.cell? ⟨wr.heap.size, 0, none⟩ = some (.int .i64 y0) ∧ W.cell? ⟨wr.heap.size, 1, none⟩ = some (.int .i64 y1) ∧ W.cell? ⟨wr.heap.size, 2, none⟩ = some (.int .i64 y2) ∧ W.cell? ⟨wr.heap.size, 3, none⟩ = some (.int .i64 y3) ∧ W.cell? ⟨wr.heap.size, 4, none⟩ = some (.int .i64 y4) ∧ W.cell? ⟨wr.heap.size, 5, none⟩ = some (.int .i64 y5))
                (exact ⟨x0, x1, x2, x3, x4, x5, q0, q1, q2, q3, q4, q5⟩)
                (first | (go_at_call 106; refine (CM.out _).mono ?_; rintro e w8 ⟨rfl, hb⟩; have KS := Lib.hid (KS.out.drew.below hb); have RO := Lib.hid (owns_below RO.out.drew hb); have WB := Lib.hid (WB.out.drew.trans (hb.mono WB.out.drew.size)); obtain ⟨x0, x1, x2, x3, x4, x5⟩ := CX.out w8 RO.out; have q0 : w8.cell? ⟨wr.heap.size, 0, none⟩ = some (.int .i64 y0) := KS.out.cell 0; have q1 : w8.cell? ⟨wr.heap.size, 1, none⟩ = some (.int .i64 y1) := KS.out.cell 1; have q2 : w8.cell? ⟨wr.heap.size, 2, none⟩ = some (.int .i64 y2) := KS.out.cell 2; have q3 : w8.cell? ⟨wr.heap.size, 3, none⟩ = some (.int .i64 y3) := KS.out.cell 3; have q4 : w8.cell? ⟨wr.heap.size, 4, none⟩ = some (.int .i64 y4) := KS.out.cell 4; have q5 : w8.cell? ⟨wr.heap.size, 5, none⟩ = some (.int .i64 y5) := KS.out.cell 5; clear hb))
              all_goals
                clear x0 x1 x2 x3 x4 x5 q0 q1 q2 q3 q4 q5
                have hbk : wr.heap.size < w8.heap.size := KS.out.lt
                have q0 : w8.cell? ⟨wr.heap.size, 0, none⟩ = some (.int .i64 y0) := KS.out.cell 0; have q1 : w8.cell? ⟨wr.heap.size, 1, none⟩ = some (.int .i64 y1) := KS.out.cell 1; have q2 : w8.cell? ⟨wr.heap.size, 2, none⟩ = some (.int .i64 y2) := KS.out.cell 2; have q3 : w8.cell? ⟨wr.heap.size, 3, none⟩ = some (.int .i64 y3) := KS.out.cell 3; have q4 : w8.cell? ⟨wr.heap.size, 4, none⟩ = some (.int .i64 y4) := KS.out.cell 4; have q5 : w8.cell? ⟨wr.heap.size, 5, none⟩ = some (.int .i64 y5) := KS.out.cell 5
                obtain ⟨a4, c4, w9, hr3, ho3, hb3, _⟩ := appendA (w := w8) ⟨y0, y1, y2, y3, y4, y5⟩ (n := m + 1) (l := A' ++ [⟨u0, u1, u2, u3, u4, u5⟩]) (by have := HN3.out; simpa using this) RO.out (by have := WB.out.size; omega) (by omega) 45
                simp only at hr3
                have R3 := Lib.hid hr3
                clear hr3
                go_wp2_with (at_builtin; refine Lib.wpList_append_run _ rfl _ _ _ _ rfl _ _ rfl rfl _ _ R3.out ?_)
                have HN4 : Hid (m + 1 + 1 = (foldP [] (Z.take (k + 1))).length) := Lib.hid (by rw [EK.out]; have := HN3.out; simp at this ⊢; omega)
                have RO := Lib.hid (show w9.ownsRow _ _ _ _ _ (flatA (foldP [] (Z.take (k + 1)))) by rw [EK.out]; exact ho3)
                have WB := Lib.hid (WB.out.trans (hb3.mono (by omega)))
                clear ho3 hb3 R3 q0 q1 q2 q3 q4 q5
                go_wp2
                go_roundw
                case rel => exact ⟨k + 1, a4, _, c4, by omega, by go_num, rfl, HN4.out, by omega, RO.out, WB.out⟩
                case measure => simp [intOf]; omega
        · have hlt' : ¬ (k : Int) < (n2 : Int) := by omega
          have ek : Z.take k = Z := List.take_of_length_le (by have := LZ.out; omega)
          rw [ek] at HN3 RO
          have FIN : Hid (FreshR aC 86 6 (foldP [] (l.map hIt)) w (.returned (.slice a3 n3 c3)) wr) := Lib.hid (by
            rw [← HXX.out, ← FZ.out]
            have hn3 := HN3.out
            subst hn3
            exact ⟨a3, c3, rfl, owns_less RO.out WS.out.size, WS.out.trans (WB.out.mono WS.out.size)⟩)
          clear RO HN3
          go_wp2
          go_ret
          exact FIN.out
end Go.Proofs.Ytchbmnpajnlijaa
