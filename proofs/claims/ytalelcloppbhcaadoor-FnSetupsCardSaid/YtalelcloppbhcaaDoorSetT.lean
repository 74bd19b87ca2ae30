/- The text of a setup, on impl's and on spec's side. (made by tools/mksett.py) -/
import Derived.Test.YtalelcloppbhcaaDoorLib
import Derived.Test.YtalelcloppbhcaaDoorNum
import Derived.Test.YtalelcloppbhcaaDoorTabs
import Derived.Test.YtalelcloppbhcaaDoorRecs
import Derived.Deep.AppendLies
import Derived.Lib.Join
import Derived.Lib.ItoaLen
import Derived.Lib.AppendZeros
import Derived.OwnWalk
import Derived.Laws.OwnMore
import Derived.Laws.AppendOwn
namespace Go.Proofs.YtalelcloppbhcaaDoor
open Go.RowKit Go.Shelf

/-- A word. -/
def wd (x : Int) : Value := .string (str (Lib.itoa x))
/-- The number at k. -/
def vat (vs : List Int) (k : Nat) : Int := vs.getD k 0
/-- The text of the first k numbers. -/
def upTo (vs : List Int) : Nat → List UInt8
  | 0 => []
  | k + 1 => (if 0 < k then upTo vs k ++ [32] else upTo vs k) ++ Lib.itoa (vat vs k)
def setT (vs : List Int) : List UInt8 := Lib.join (vs.map Lib.itoa) [32]
theorem upTo_all (f0 f1 f2 f3 f4 f5 f6 f7 f8 : Int) : upTo [f0, f1, f2, f3, f4, f5, f6, f7, f8] 9 = setT [f0, f1, f2, f3, f4, f5, f6, f7, f8] := by
  simp [upTo, setT, vat, Lib.join_cons, Lib.joinTail]
theorem upTo_first (vs : List Int) : upTo vs 1 = Lib.itoa (vat vs 0) := by simp [upTo]
theorem upTo_more (vs : List Int) {k : Nat} (h : 0 < k) : upTo vs (k + 1) = upTo vs k ++ [32] ++ Lib.itoa (vat vs k) := by simp [upTo, h]
theorem vat_take {vs : List Int} {k : Nat} (h : k < vs.length) : vs.take (k + 1) = vs.take k ++ [vat vs k] := by
  rw [List.take_succ_eq_append_getElem h]; simp [vat, List.getD, h]
theorem index_at (f0 f1 f2 f3 f4 f5 f6 f7 f8 : Int) (k : Nat) (hk : k < 9) (W : World) : (Instr.index 67 (.agg #[.int .i64 f0, .int .i64 f1, .int .i64 f2, .int .i64 f3, .int .i64 f4, .int .i64 f5, .int .i64 f6, .int .i64 f7, .int .i64 f8]) (.int .i64 (k : Int))).run Tryd.prog W = .ok (.int .i64 (vat [f0, f1, f2, f3, f4, f5, f6, f7, f8] k)) W := by
  have h : k = 0 ∨ k = 1 ∨ k = 2 ∨ k = 3 ∨ k = 4 ∨ k = 5 ∨ k = 6 ∨ k = 7 ∨ k = 8 := by omega
  rcases h with rfl | rfl | rfl | rfl | rfl | rfl | rfl | rfl | rfl
  · exact index0 f0 f1 f2 f3 f4 f5 f6 f7 f8 W
  · exact index1 f0 f1 f2 f3 f4 f5 f6 f7 f8 W
  · exact index2 f0 f1 f2 f3 f4 f5 f6 f7 f8 W
  · exact index3 f0 f1 f2 f3 f4 f5 f6 f7 f8 W
  · exact index4 f0 f1 f2 f3 f4 f5 f6 f7 f8 W
  · exact index5 f0 f1 f2 f3 f4 f5 f6 f7 f8 W
  · exact index6 f0 f1 f2 f3 f4 f5 f6 f7 f8 W
  · exact index7 f0 f1 f2 f3 f4 f5 f6 f7 f8 W
  · exact index8 f0 f1 f2 f3 f4 f5 f6 f7 f8 W
theorem infoStr (h : (Tryd.prog.info? 9).map (fun i => (i.zero, i.size, i.bytes)) = some (some (.string ⟨#[]⟩), 1, 16)) : ∃ i0, Tryd.prog.info? 9 = some i0 ∧ i0.zero = some (.string ⟨#[]⟩) ∧ i0.size = 1 ∧ i0.bytes = 16 := by
  cases hi : Tryd.prog.info? 9 with
  | none => rw [hi] at h; cases h
  | some i => rw [hi] at h; simp at h; exact ⟨i, rfl, h.1, h.2.1, h.2.2⟩
theorem infoStr_ : (Tryd.prog.info? 9).map (fun i => (i.zero, i.size, i.bytes)) = some (some (.string ⟨#[]⟩), 1, 16) := by kernel_rfl
/-- A word more in a row of words. -/
theorem appendW {w : World} {lo n c : Nat} {a1 : Option Addr} {xs : List Int} (x : Int) (hn : n = xs.length) (ho : w.ownsRow lo 9 1 (.slice a1 n c) n (xs.map wd)) (hlo : lo ≤ w.heap.size) (hb : n ≤ 2097152) (ty : TypeId) :
    ∃ a3 c3 w', (Builtin.append_ #[121, 121] ty #[.slice a1 n c, .slice (some ⟨w.heap.size, 0, none⟩) 1 1]).run Tryd.prog (w.alloc (.cells #[wd x] 9)) = .ok (.slice a3 (n + 1) c3) w' ∧
      w'.ownsRow lo 9 1 (.slice a3 (n + 1) c3) (n + 1) ((xs ++ [x]).map wd) ∧ Below lo w w' := by
  obtain ⟨i0, hi0, hz0, hz1, hz2⟩ := infoStr infoStr_
  obtain ⟨v', w', hr, h2, h3, _⟩ := run_append_own (P := Tryd.prog) (w.alloc (.cells #[wd x] 9)) lo 121 ty 9 i0 (.string ⟨#[]⟩) 1 16 Tryd.underlying121 hi0 hz0 hz1 hz2 rfl (by decide) _ n _ (ho.alloc _) ⟨w.heap.size, 0, none⟩ 1 1 [wd x] rfl
    (fun j u hu => by
      have hj : j = 0 := by have := (List.getElem?_eq_some_iff.1 hu).1; simp at this; omega
      subst hj
      have k := (Blk.new w 9 #[wd x]).cell 0
      simp at hu
      subst hu
      exact k) (by intro u hu; simp at hu; subst hu; rfl) (by unfold maxLen; omega) (by omega) (by simp; omega)
  obtain ⟨g, cap, rfl, hg, hgl⟩ := h2.form (by omega)
  refine ⟨_, _, _, hr, by rw [List.map_append]; exact h2, ?_⟩
  have b1 := (Below.refl lo w).alloc hlo (.cells #[wd x] 9)
  refine b1.trans ⟨h3.os, h3.tape, h3.output, h3.size, fun k hk => h3.block k (by simp; omega) (fun e => ?_)⟩
  have := ((ho.alloc (.cells #[wd x] 9)).lt k e.symm).1
  omega
/-- strings.Join over a row of words. -/
theorem join_any (a : Option Addr) (m c lo : Nat) (xs : List Int) (w : World) (ho : w.ownsRow lo 9 1 (.slice a m c) m (xs.map wd)) (hm : m = xs.length) (h9 : xs.length = 9) (hlen : (setT xs).length ≤ 140737488355328) :
    Calls Tryd.prog 82 #[.slice a m c, .string ⟨#[32]⟩] w fun e w' => e = .returned (.string (str (setT xs))) ∧ Below w.heap.size w w' := by
  subst hm
  have hcp := ownR_cap ho
  obtain ⟨g, cap, hv, hg, hgl⟩ := ho.form (by omega)
  injection hv with ha _ _
  subst ha
  have e1 : (xs.map fun x => str (Lib.itoa x)).length = xs.length := by simp
  have e2 : ((xs.map fun x => str (Lib.itoa x)).map (·.data.toList)) = xs.map Lib.itoa := by rw [List.map_map]; rfl
  have h := Any.strings_Join Tryd.lays156 Tryd.Builder_Extra_156 g 0 c (xs.map fun x => str (Lib.itoa x)) ⟨#[32]⟩ w (fun j x hx => by
    have hj : j < xs.length := by have := (List.getElem?_eq_some_iff.1 hx).1; simpa using this
    rw [Nat.zero_add, ho.cellAt j (by omega), List.getElem?_map]
    rw [List.getElem?_map] at hx
    cases hq : xs[j]? with
    | none => rw [hq] at hx; cases hx
    | some z => rw [hq] at hx; simp only [Option.map_some, Option.some.injEq] at hx ⊢; rw [← hx]; rfl) hgl (by rw [e1]; omega) (by rw [e1]; exact hcp.1) (by rw [e2]; exact hlen)
  rw [e1, e2] at h
  exact h
set_option maxHeartbeats 2000000 in
set_option maxRecDepth 100000 in
theorem fieldsText_x (f0 f1 f2 f3 f4 f5 f6 f7 f8 : Int) (w : World) (hp : Pow w) (hb : ∀ x ∈ [f0, f1, f2, f3, f4, f5, f6, f7, f8], 0 ≤ x ∧ x ≤ 1000) (hlen : (setT [f0, f1, f2, f3, f4, f5, f6, f7, f8]).length ≤ 140737488355328) :
    Calls Tryd.prog 33 #[.agg #[.int .i64 f0, .int .i64 f1, .int .i64 f2, .int .i64 f3, .int .i64 f4, .int .i64 f5, .int .i64 f6, .int .i64 f7, .int .i64 f8]] w fun e w' => e = .returned (.string (str (setT [f0, f1, f2, f3, f4, f5, f6, f7, f8]))) ∧ Below w.heap.size w w' := by
  obtain ⟨i0, hi0, hz0, hz1, hz2⟩ := infoStr infoStr_
  have B0 := Lib.hid ((Below.refl w.heap.size w).alloc (Nat.le_refl _) (.cells #[.int .i64 f0, .int .i64 f1, .int .i64 f2, .int .i64 f3, .int .i64 f4, .int .i64 f5, .int .i64 f6, .int .i64 f7, .int .i64 f8] 67))
  have K0 := Lib.hid (Blk.new w 67 #[.int .i64 f0, .int .i64 f1, .int .i64 f2, .int .i64 f3, .int .i64 f4, .int .i64 f5, .int .i64 f6, .int .i64 f7, .int .i64 f8])
  have HP := Lib.hid hp
  have HLEN := Lib.hid hlen
  have HIX := Lib.hid (fun k hk W => index_at f0 f1 f2 f3 f4 f5 f6 f7 f8 k hk W)
  have hl9 : ([f0, f1, f2, f3, f4, f5, f6, f7, f8] : List Int).length = 9 := rfl
  have HB : Hid (∀ k, k < 9 → 0 ≤ vat [f0, f1, f2, f3, f4, f5, f6, f7, f8] k ∧ vat [f0, f1, f2, f3, f4, f5, f6, f7, f8] k ≤ 1000) := Lib.hid (fun k hk => hb _ (by simp only [vat, List.getD]; rw [List.getElem?_eq_getElem (by rw [hl9]; exact hk)]; exact List.getElem_mem _))
  have HTK := Lib.hid (fun k (hk : k < 9) => vat_take (vs := [f0, f1, f2, f3, f4, f5, f6, f7, f8]) (k := k) (by rw [hl9]; exact hk))
  clear hp hlen hb
  go_enter Tryd.func33, Tryd.ntmps33
  go_wp2_with (at_make; refine wpList_make_own _ rfl _ _ 121 rfl w.heap.size 9 i0 (.string ⟨#[]⟩) 1 Tryd.underlying121 hi0 hz0 hz1 _ _ _ 9 rfl rfl rfl (by rw [hz2]; omega) (by unfold maxLen; omega) (by simp) ?_; intro w1 hO hG; have hO' := hO; rw [World.size_alloc] at hO'; have HO1 := Lib.hid hO'; have hk1 := (show Blk w1 w.heap.size 67 #[.int .i64 f0, .int .i64 f1, .int .i64 f2, .int .i64 f3, .int .i64 f4, .int .i64 f5, .int .i64 f6, .int .i64 f7, .int .i64 f8] from (hG.block _ (by simp) (by simp)).trans K0.out); have q1 := hk1.cell; have HB1 := Lib.hid (B0.out.trans (below_grown hG |>.mono (by simp))); clear hO hO' hG hk1)
  clear q1
  go_loopw [3, 8] (fun v i wr => ∃ (k : Nat) (a : Option Addr) (c : Nat), k ≤ 9 ∧ i = .int .i64 k ∧ v = .slice a k c ∧ wr.ownsRow w.heap.size 9 1 (.slice a k c) k (([f0, f1, f2, f3, f4, f5, f6, f7, f8].take k).map wd) ∧ Below w.heap.size w wr) (fun _ i _ => 9 - (intOf i).toNat)
  case atStart => exact ⟨0, _, _, by omega, rfl, rfl, HO1.out, HB1.out⟩
  case round =>
    obtain ⟨k, a, c, hk9, rfl, rfl, hown, hbw⟩ := hrel
    have hsz := hbw.size
    have HBW := Lib.hid hbw
    have HO := Lib.hid hown
    by_cases hlt : k < 9
    · have hix := HIX.out k hlt wr
      have hbd := HB.out k hlt
      have HT := Lib.hid (HTK.out k hlt)
      have hlt' : (k : Int) < 9 := by omega
      have HKL : Hid (k = ([f0, f1, f2, f3, f4, f5, f6, f7, f8].take k).length) := Lib.hid (by rw [List.length_take, hl9]; omega)
      generalize vat [f0, f1, f2, f3, f4, f5, f6, f7, f8] k = x at hix hbd HT
      have HI := Lib.hid (fun W h => itoa_any x (by omega) (by omega) W h)
      clear hown hbw
      go_wp2_with fail
      refine (HI.out _ (HP.out.below HBW.out)).mono ?_
      rintro e w3 ⟨rfl, hb3⟩
      have B3 := Lib.hid (HBW.out.trans (hb3.mono hsz))
      obtain ⟨a4, c4, w4, hr4, ho4, hb4⟩ := appendW (w := w3) x HKL.out (owns_below HO.out hb3) B3.out.size (by omega) 121
      have R4 := Lib.hid hr4
      have O4 := Lib.hid ho4
      have B4 := Lib.hid (B3.out.trans hb4)
      clear hb3 hr4 ho4 hb4 hix
      go_wp2_with (at_builtin; refine Lib.wpList_append_run _ rfl _ _ _ _ rfl _ _ rfl rfl _ _ R4.out ?_)
      go_roundw
      case rel => exact ⟨k + 1, a4, c4, by omega, by go_num, rfl, by rw [HT.out]; exact O4.out, B4.out⟩
      case measure => simp [intOf]; omega
    · obtain rfl : k = 9 := by omega
      have HJ := Lib.hid (join_any a 9 c w.heap.size [f0, f1, f2, f3, f4, f5, f6, f7, f8] wr hown rfl rfl HLEN.out)
      clear hown hbw
      go_wp2_with fail
      refine HJ.out.mono ?_
      rintro e w5 ⟨rfl, hb5⟩
      have B5 := Lib.hid (HBW.out.trans (hb5.mono hsz))
      clear hb5
      go_wp2
      go_ret
      exact ⟨rfl, B5.out⟩
/-- What SetupText tells. -/
def setTR (f0 f1 f2 f3 f4 f5 f6 f7 f8 : Int) : Value := if setOk f0 f1 f2 f3 f4 f5 f6 f7 f8 = true then .tuple #[.string (str (setT [f0, f1, f2, f3, f4, f5, f6, f7, f8])), .bool true] else .tuple #[.string ⟨#[]⟩, .bool false]
theorem setOk_in (f0 f1 f2 f3 f4 f5 f6 f7 f8 : Int) (h : setOk f0 f1 f2 f3 f4 f5 f6 f7 f8 = true) : ∀ x ∈ [f0, f1, f2, f3, f4, f5, f6, f7, f8], 0 ≤ x ∧ x ≤ 1000 := by
  simp only [setOk, inB, Bool.and_eq_true, decide_eq_true_eq] at h
  intro x hx
  simp only [List.mem_cons, List.not_mem_nil, or_false] at hx
  rcases hx with rfl | rfl | rfl | rfl | rfl | rfl | rfl | rfl | rfl <;> omega
theorem itoa_short {x : Int} (h : 0 ≤ x ∧ x ≤ 1000) : (Lib.itoa x).length ≤ 21 := Lib.itoa_length_le x (by omega) (by omega)
theorem setT_short (f0 f1 f2 f3 f4 f5 f6 f7 f8 : Int) (h : setOk f0 f1 f2 f3 f4 f5 f6 f7 f8 = true) : (setT [f0, f1, f2, f3, f4, f5, f6, f7, f8]).length ≤ 140737488355328 := by
  have hb := setOk_in f0 f1 f2 f3 f4 f5 f6 f7 f8 h
  have hs := fun x hx => itoa_short (hb x hx)
  rw [← upTo_all]
  have h0 := hs f0 (by simp)
  have h1 := hs f1 (by simp)
  have h2 := hs f2 (by simp)
  have h3 := hs f3 (by simp)
  have h4 := hs f4 (by simp)
  have h5 := hs f5 (by simp)
  have h6 := hs f6 (by simp)
  have h7 := hs f7 (by simp)
  have h8 := hs f8 (by simp)
  simp only [upTo, vat, List.getD, List.length_append, List.getElem?_cons_zero, List.getElem?_cons_succ, Option.getD_some]
  simp
  omega
theorem upTo_len {vs : List Int} (h : ∀ k, k < 9 → 0 ≤ vat vs k ∧ vat vs k ≤ 1000) : ∀ k, k ≤ 9 → (upTo vs k).length ≤ 22 * k
  | 0, _ => by simp [upTo]
  | k + 1, hk => by
    have ih := upTo_len h k (by omega)
    have hi := itoa_short (h k (by omega))
    unfold upTo
    split <;> simp only [List.length_append, List.length_cons, List.length_nil] <;> omega
set_option maxHeartbeats 2000000 in
set_option maxRecDepth 100000 in
theorem implSetText_x (f0 f1 f2 f3 f4 f5 f6 f7 f8 : Int) (hi : Nat) (w : World) (hp : Pow w) (ht : Tabs w hi) (hB : hi ≤ w.heap.size) :
    Calls Tryd.prog 8 #[.agg #[.int .i64 f0, .int .i64 f1, .int .i64 f2, .int .i64 f3, .int .i64 f4, .int .i64 f5, .int .i64 f6, .int .i64 f7, .int .i64 f8]] w fun e w' => e = .returned (setTR f0 f1 f2 f3 f4 f5 f6 f7 f8) ∧ Below w.heap.size w w' := by
  have b0 := (Below.refl w.heap.size w).alloc (Nat.le_refl _) (.cells #[.int .i64 f0, .int .i64 f1, .int .i64 f2, .int .i64 f3, .int .i64 f4, .int .i64 f5, .int .i64 f6, .int .i64 f7, .int .i64 f8] 25)
  have B0 := Lib.hid b0
  have K0 := Lib.hid (Blk.new w 25 #[.int .i64 f0, .int .i64 f1, .int .i64 f2, .int .i64 f3, .int .i64 f4, .int .i64 f5, .int .i64 f6, .int .i64 f7, .int .i64 f8])
  have HO := Lib.hid (fun W (hb : Below w.heap.size w W) => implSetOk_x f0 f1 f2 f3 f4 f5 f6 f7 f8 hi W (ht.below (hb.mono hB)) (Nat.le_trans hB hb.size))
  have HP := Lib.hid hp
  unfold setTR
  cases hok : setOk f0 f1 f2 f3 f4 f5 f6 f7 f8 with
  | false =>
    rw [if_neg (by simp)]
    rw [hok] at HO
    clear hp ht b0 hok
    go_enter Tryd.func8, Tryd.ntmps8
    go_wp2_with fail
    refine (HO.out _ B0.out).mono ?_
    rintro e w1 ⟨rfl, hb⟩
    have B1 := Lib.hid (B0.out.trans (hb.mono B0.out.size))
    clear hb
    go_wp2
    go_ret2
    exact ⟨rfl, B1.out⟩
  | true =>
    rw [if_pos rfl]
    have HF := Lib.hid (fun W h => fieldsText_x f0 f1 f2 f3 f4 f5 f6 f7 f8 W h (setOk_in f0 f1 f2 f3 f4 f5 f6 f7 f8 hok) (setT_short f0 f1 f2 f3 f4 f5 f6 f7 f8 hok))
    rw [hok] at HO
    clear hp ht b0 hok
    go_enter Tryd.func8, Tryd.ntmps8
    go_wp2_with fail
    refine (HO.out _ B0.out).mono ?_
    rintro e w1 ⟨rfl, hb⟩
    have B1 := Lib.hid (B0.out.trans (hb.mono B0.out.size))
    have q1 := (K0.out.below hb).cell
    clear hb
    go_wp2_with fail
    clear q1
    refine (fieldsOf_x f0 f1 f2 f3 f4 f5 f6 f7 f8 _).mono ?_
    rintro e w2 ⟨rfl, hb⟩
    have B2 := Lib.hid (B1.out.trans (hb.mono B1.out.size))
    clear hb
    go_wp2_with fail
    refine (HF.out _ (HP.out.below B2.out)).mono ?_
    rintro e w3 ⟨rfl, hb⟩
    have B3 := Lib.hid (B2.out.trans (hb.mono B2.out.size))
    clear hb
    go_wp2
    go_ret2
    exact ⟨rfl, B3.out⟩
set_option maxHeartbeats 1000000 in
theorem specVals_x (f0 f1 f2 f3 f4 f5 f6 f7 f8 : Int) (w : World) : Calls Tryd.prog 76 #[.agg #[.int .i64 f0, .int .i64 f1, .int .i64 f2, .int .i64 f3, .int .i64 f4, .int .i64 f5, .int .i64 f6, .int .i64 f7, .int .i64 f8]] w fun e w' => e = .returned (.slice (some ⟨w.heap.size + 1, 0, none⟩) 9 9) ∧ Blk w' (w.heap.size + 1) 3 #[.int .i64 f0, .int .i64 f1, .int .i64 f2, .int .i64 f3, .int .i64 f4, .int .i64 f5, .int .i64 f6, .int .i64 f7, .int .i64 f8] ∧ Below w.heap.size w w' := by
  have b0 := (Below.refl w.heap.size w).alloc (Nat.le_refl _) (.cells #[.int .i64 f0, .int .i64 f1, .int .i64 f2, .int .i64 f3, .int .i64 f4, .int .i64 f5, .int .i64 f6, .int .i64 f7, .int .i64 f8] 25)
  have B1 := Lib.hid (b0.alloc (by simp) (.cells #[.int .i64 f0, .int .i64 f1, .int .i64 f2, .int .i64 f3, .int .i64 f4, .int .i64 f5, .int .i64 f6, .int .i64 f7, .int .i64 f8] 3))
  have k1 := Blk.new (w.alloc (.cells #[.int .i64 f0, .int .i64 f1, .int .i64 f2, .int .i64 f3, .int .i64 f4, .int .i64 f5, .int .i64 f6, .int .i64 f7, .int .i64 f8] 25)) 3 #[.int .i64 f0, .int .i64 f1, .int .i64 f2, .int .i64 f3, .int .i64 f4, .int .i64 f5, .int .i64 f6, .int .i64 f7, .int .i64 f8]
  rw [World.size_alloc] at k1
  have K1 := Lib.hid k1
  clear b0 k1
  go_enter Tryd.func76, Tryd.ntmps76
  go_wp2
  go_ret
  exact ⟨rfl, K1.out, B1.out⟩
end Go.Proofs.YtalelcloppbhcaaDoor
