/- Chapter 12, impl's side: the iterator of what meets. (made by tools/mkmeet.py) -/
import Derived.RangeFuncNested
import Derived.RangeFuncBound
import Derived.RangeFuncCalls
import Derived.RangeFuncLeaves
import Derived.Shelf.Abstract
import Derived.Shelf.RegionOpen
import Derived.WalkKit
import Derived.OwnWalkIn
import Derived.TacticsInMore
import Derived.LoopNIn
import Derived.LoopIn
import Derived.Test.YtneolndbhklboaaMeet
namespace Go.Proofs.Ytneolndbhklboaa
open Go.RowKit Go.Shelf
attribute [local go_sem] Oper.semAt_some
/-- The events that meet, as the iterator tells them. -/
def pqRow (A : Fm) (R : List Fm) (by_ : Int) (k : Nat) : List (Fm × Fm) := ((R.take k).filter (fun B => meetB A B by_)).map (fun B => (A, B))
def pqTo (L R : List Fm) (by_ : Int) (i : Nat) : List (Fm × Fm) := (L.take i).flatMap (fun A => pqRow A R by_ R.length)
def pq2 (x : Fm × Fm) : Pr := pairJ x.1 x.2
section
variable {L R : List Fm} {A : Fm} {by_ : Int} {k i : Nat}
theorem pqRow_yes (hk : k < R.length) (h : meetB A (qel R k) by_ = true) : pqRow A R by_ (k + 1) = pqRow A R by_ k ++ [(A, qel R k)] := by
  unfold pqRow
  rw [qel_take hk, List.filter_append]
  simp [h]
theorem pqRow_no (hk : k < R.length) (h : meetB A (qel R k) by_ = false) : pqRow A R by_ (k + 1) = pqRow A R by_ k := by
  unfold pqRow
  rw [qel_take hk, List.filter_append]
  simp [h]
theorem pqRow_len : (pqRow A R by_ k).length ≤ k := by
  unfold pqRow
  rw [List.length_map]
  refine Nat.le_trans (List.length_filter_le _ _) ?_
  rw [List.length_take]; omega
theorem pqTo_step (hi : i < L.length) : pqTo L R by_ (i + 1) = pqTo L R by_ i ++ pqRow (qel L i) R by_ R.length := by
  unfold pqTo
  rw [qel_take hi]
  simp
theorem pqTo_len (hR : R.length ≤ 40) : ∀ i, i ≤ L.length → (pqTo L R by_ i).length ≤ 40 * i
  | 0, _ => Nat.le_refl _
  | i + 1, hi => by
    have := pqTo_len hR i (by omega)
    rw [pqTo_step (by omega), List.length_append]
    have := pqRow_len (A := qel L i) (R := R) (by_ := by_) (k := R.length)
    omega
theorem pqRow_map : (pqRow A R by_ k).map pq2 = rowJ A R by_ k := by
  unfold pqRow rowJ
  rw [List.map_map]
  rfl
theorem pqTo_map : (pqTo L R by_ i).map pq2 = allJ L R by_ i := by
  unfold pqTo allJ
  rw [List.map_flatMap]
  congr 1
  funext A
  exact pqRow_map
end
/-- What a round keeps: what lies below block n0, and every block of cells that are no pairs and no slice of pairs. -/
def KpJ (n0 : Nat) (A B : World) : Prop := Below n0 A B ∧ A.heap.size ≤ B.heap.size ∧ ∀ k T cs, T ≠ 53 → T ≠ 30 → Blk A k T cs → Blk B k T cs
theorem KpJ.refl (n0 : Nat) (A : World) : KpJ n0 A A := ⟨Below.refl _ _, Nat.le_refl _, fun _ _ _ _ _ h => h⟩
theorem KpJ.trans {n0 : Nat} {A B C : World} (h : KpJ n0 A B) (k : KpJ n0 B C) : KpJ n0 A C := ⟨h.1.trans k.1, Nat.le_trans h.2.1 k.2.1, fun i T cs h1 h2 h3 => k.2.2 i T cs h1 h2 (h.2.2 i T cs h1 h2 h3)⟩
theorem KpJ.of_below {n0 : Nat} {A B : World} (h : Below A.heap.size A B) (hn : n0 ≤ A.heap.size) : KpJ n0 A B := ⟨h.mono hn, h.size, fun _ _ _ _ _ h3 => h3.below h⟩
theorem abides_below {β : Type} {B : Nat} {J : β → World → Prop} (h : AbidesFrom B J) {s : β} {W W' : World} (hs : J s W) (hb : Below W.heap.size W W') : J s W' :=
  h s W W' none hs (grown_below hb) (fun r e => by cases e)
theorem fmD (X : Fm) : (⟨X.k, X.y, X.t, X.v⟩ : Fm) = X := rfl
set_option maxRecDepth 100000 in
set_option maxHeartbeats 4000000 in
theorem meet1_in (n : Nat) (hn : 1 ≤ n) (l BL BR BM bb n0 c1 c2 : Nat) (a1 a2 : Option Addr) (L R : List Fm) (by_ : Int) (hL : L.length ≤ 40) (hR : R.length ≤ 40) (hLt : ∀ i, i < L.length → 0 ≤ (qel L i).t ∧ (qel L i).t ≤ 1000000) (hRt : ∀ i, i < R.length → 0 ≤ (qel R i).t ∧ (qel R i).t ≤ 1000000) (hby : 0 ≤ by_ ∧ by_ ≤ 1000000)
    (J Jx : List (Fm × Fm) → World → Prop) (W : World) (hJo : AbidesFrom W.heap.size J)
    (hY : ∀ pre x W1, J pre W1 → pre.length < 1640 → YieldAt Fence.wide (n - 1) Try.prog l #[.agg (qC x.1).toArray, .agg (qC x.2).toArray] W1 fun e W' =>
      (e = .returned (.bool true) ∧ J (pre ++ [x]) W' ∧ KpJ n0 W1 W') ∨ (e = .returned (.bool false) ∧ Jx (pre ++ [x]) W'))
    (kL : Blk W BL 97 #[.slice a1 L.length c1]) (kR : Blk W BR 97 #[.slice a2 R.length c2]) (kM : Blk W BM 96 #[.func (.func 109) #[] #[.pointer (some ⟨bb, 0, none⟩)]]) (kb : Blk W bb 3 #[.int .i64 by_])
    (h1 : Fms W n0 a1 c1 L) (h2 : Fms W n0 a2 c2 R) (hn0 : n0 ≤ W.heap.size) (h0 : J [] W) :
    CallsIn Fence.wide n Try.prog 108 #[.func (.yield l) #[] #[], .pointer (some ⟨BL, 0, none⟩), .pointer (some ⟨BR, 0, none⟩), .pointer (some ⟨BM, 0, none⟩)] W fun e W' => (∃ v, e = .returned v) ∧
      ((∃ ys, ys = pqTo L R by_ L.length ∧ J ys W') ∨ (∃ pre, True ∧ Jx pre W')) := by
  have HJO := Lib.hid hJo
  have HY := Lib.hid hY
  have KL := Lib.hid kL
  have KR := Lib.hid kR
  have KM := Lib.hid kM
  have KB := Lib.hid kb
  have H1 := Lib.hid h1
  have H2 := Lib.hid h2
  have HLT := Lib.hid hLt
  have HRT := Lib.hid hRt
  have HBY := Lib.hid hby
  have J0 := Lib.hid h0
  have qL := kL.cell
  have hLc := h1.cap
  have hLb := h1.big
  have hRc := h2.cap
  have hRb := h2.big
  have eg : ∀ args w, (callFunc 109 args).run Try.prog w = .ok (.enter 109 args) w := enters_of Try.func109 (by kernel_rfl) rfl
  have t1 : 97 ≠ 53 := by decide
  have t2 : 97 ≠ 30 := by decide
  have t3 : 96 ≠ 53 := by decide
  have t4 : 96 ≠ 30 := by decide
  have t5 : 3 ≠ 53 := by decide
  have t6 : 3 ≠ 30 := by decide
  have t7 : 38 ≠ 53 := by decide
  have t8 : 38 ≠ 30 := by decide
  have TT := Lib.hid (And.intro t1 (And.intro t2 (And.intro t3 (And.intro t4 (And.intro t5 (And.intro t6 (And.intro t7 t8)))))))
  clear hJo hY kL kR kM kb h1 h2 hLt hRt hby h0 t1 t2 t3 t4 t5 t6 t7 t8
  refine callsIn_of_wp Try.func108 rfl trivial ?_ rfl
  simp only [Try.ntmps108, List.size_toArray, List.length_cons, List.length_nil, Nat.reduceAdd, Nat.reduceSub, Array.replicate_succ, Array.replicate_zero, List.push_toArray, List.append_toArray, List.nil_append, List.cons_append]
  gi_wp2
  clear qL
  gi_loopw [11] (fun i wr => ∃ k : Nat, k ≤ L.length ∧ i = .int .i64 (k : Int) ∧ J (pqTo L R by_ k) wr ∧ KpJ n0 W wr) (fun i _ => L.length - (intOf i).toNat)
  case atStart => exact ⟨0, Nat.zero_le _, rfl, J0.out, KpJ.refl _ _⟩
  case round =>
    obtain ⟨k, hk, rfl, hJ, hK⟩ := hrel
    by_cases hlt : k < L.length
    · obtain ⟨v1, hv1⟩ : ∃ v1, v1 = wr := ⟨_, rfl⟩
      subst hv1
      obtain ⟨b1, off1, rfl, hbh, hcell⟩ := Fms.six (H1.out.below hK.1) (by omega)
      have hlt' : (k : Int) < (L.length : Int) := by omega
      have hnn : 0 ≤ (k : Int) := by omega
      obtain ⟨p0, p1, p2, p3⟩ := hcell k hlt
      have XT := Lib.hid (HLT.out k hlt)
      have XS := Lib.hid (pqTo_step (R := R) (by_ := by_) hlt)
      have XL := Lib.hid (pqTo_len (L := L) (by_ := by_) hR k hk)
      have JJ := Lib.hid hJ
      have KK := Lib.hid hK
      have qR := ((KpJ.trans hK (KpJ.of_below ((Below.refl v1.heap.size v1).alloc (Nat.le_refl _) (.cells #[.int .i64 (qel L k).k, .int .i64 (qel L k).y, .int .i64 (qel L k).t, .int .i64 (qel L k).v] 38)) (Nat.le_trans hn0 hK.2.1))).2.2 _ _ _ TT.out.1 TT.out.2.1 KR.out).cell
      clear hcell hJ hK
      generalize qel L k = A at p0 p1 p2 p3 XT XS qR
      generalize pqTo L R by_ k = P at XS XL JJ
      obtain ⟨x0, x1, x2, x3⟩ := A
      simp only at p0 p1 p2 p3 qR
      have JA := Lib.hid (abides_below HJO.out JJ.out ((Below.refl v1.heap.size v1).alloc (Nat.le_refl _) (.cells #[.int .i64 x0, .int .i64 x1, .int .i64 x2, .int .i64 x3] 38)))
      have KA := Lib.hid (KK.out.trans (KpJ.of_below ((Below.refl v1.heap.size v1).alloc (Nat.le_refl _) (.cells #[.int .i64 x0, .int .i64 x1, .int .i64 x2, .int .i64 x3] 38)) (Nat.le_trans hn0 KK.out.2.1)))
      have BX := Lib.hid (Blk.new v1 38 #[.int .i64 x0, .int .i64 x1, .int .i64 x2, .int .i64 x3])
      clear JJ
      gi_wp2
      clear qR p0 p1 p2 p3
      gi_loopw [17] (fun i w2 => ∃ m : Nat, m ≤ R.length ∧ i = .int .i64 (m : Int) ∧ J (P ++ pqRow ⟨x0, x1, x2, x3⟩ R by_ m) w2 ∧ KpJ n0 W w2 ∧ Blk w2 v1.heap.size 38 #[.int .i64 x0, .int .i64 x1, .int .i64 x2, .int .i64 x3]) (fun i _ => R.length - (intOf i).toNat)
      case atStart => exact ⟨0, Nat.zero_le _, rfl, by simpa [pqRow] using JA.out, KA.out, BX.out⟩
      case round =>
        obtain ⟨m, hm, rfl, hJ, hK, hX⟩ := hrel
        by_cases hlt2 : m < R.length
        · obtain ⟨b2, off2, rfl, hbh2, hcell⟩ := Fms.six (H2.out.below hK.1) (by omega)
          have hlt2' : (m : Int) < (R.length : Int) := by omega
          have hnn2 : 0 ≤ (m : Int) := by omega
          obtain ⟨p0, p1, p2, p3⟩ := hcell m hlt2
          have YT := Lib.hid (HRT.out m hlt2)
          have YL := Lib.hid (pqRow_len (A := ⟨x0, x1, x2, x3⟩) (R := R) (by_ := by_) (k := m))
          have YY := Lib.hid (fun h => pqRow_yes (A := ⟨x0, x1, x2, x3⟩) (by_ := by_) hlt2 h)
          have YN := Lib.hid (fun h => pqRow_no (A := ⟨x0, x1, x2, x3⟩) (by_ := by_) hlt2 h)
          have HK := Lib.hid hK
          have HJ := Lib.hid hJ
          have HX := Lib.hid hX
          clear hcell hJ hK hX
          generalize qel R m = B at p0 p1 p2 p3 YT YY YN
          obtain ⟨z0, z1, z2, z3⟩ := B
          simp only at p0 p1 p2 p3
          have bA := (Below.refl wr.heap.size wr).alloc (Nat.le_refl _) (.cells #[.int .i64 z0, .int .i64 z1, .int .i64 z2, .int .i64 z3] 38)
          have JA := Lib.hid (abides_below HJO.out HJ.out bA)
          have KA := Lib.hid (HK.out.trans (KpJ.of_below bA (Nat.le_trans hn0 HK.out.2.1)))
          have XA := Lib.hid (HX.out.below bA)
          have qM := (KA.out.2.2 _ _ _ TT.out.2.2.1 TT.out.2.2.2.1 KM.out).cell
          have qX := XA.out.cell
          have kb1 := KA.out.2.2 _ _ _ TT.out.2.2.2.2.1 TT.out.2.2.2.2.2.1 KB.out
          have CE := Lib.hid (meetW1_x x0 x1 x2 x3 z0 z1 z2 z3 by_ bb _ (kb1.cell 0) kb1.lt XT.out YT.out HBY.out)
          clear bA kb1 HJ HK HX
          have hszr : n0 ≤ wr.heap.size + 1 := by
            have := KA.out.2.1
            simp at this
            omega
          have KA1 := Lib.hid (show KpJ n0 W _ from KA.out)
          cases hmt : meetB ⟨x0, x1, x2, x3⟩ ⟨z0, z1, z2, z3⟩ by_ with
          | false =>
            rw [hmt] at CE
            have YE := Lib.hid (YN.out hmt)
            clear hmt YY YN
            gi_wp2_with (refine ⟨trivial, ?_⟩; gi_at_call 109; refine (callsIn_wide.2 CE.out).mono ?_; rintro e w5 ⟨rfl, hb⟩; have J5 := Lib.hid (abides_below HJO.out JA.out hb); have K5 := Lib.hid (KA.out.trans (KpJ.of_below hb (by simp; exact hszr))); have X5 := Lib.hid (XA.out.below hb); clear hb qM qX)
            refine ⟨fun f h => (nomatch h), ?_⟩
            gi_wp2
            go_roundw
            case rel => exact ⟨m + 1, by omega, by go_num, by rw [YE.out]; exact J5.out, K5.out, X5.out⟩
            case measure => simp [intOf]; omega
          | true =>
            rw [hmt] at CE
            have YE := Lib.hid (YY.out hmt)
            clear hmt YY YN
            gi_wp2_with (first
              | (refine ⟨trivial, ?_⟩; gi_at_call 109; refine (callsIn_wide.2 CE.out).mono ?_; rintro e w5 ⟨rfl, hb⟩
                 have J5 := abides_below HJO.out JA.out hb
                 have K5 := Lib.hid (KA.out.trans (KpJ.of_below hb (by simp; exact hszr)))
                 have X5 := Lib.hid (XA.out.below hb)
                 have Z5 := ((Blk.new wr 38 #[.int .i64 z0, .int .i64 z1, .int .i64 z2, .int .i64 z3]).below hb).cell
                 have qX5 := X5.out.cell
                 obtain ⟨fn, tmps, assign, body, hy, hR⟩ := HY.out _ (⟨x0, x1, x2, x3⟩, ⟨z0, z1, z2, z3⟩) w5 J5 (by rw [List.length_append]; have := XL.out; have := YL.out; omega)
                 have hy : (Instr.yield l #[.agg #[.int .i64 x0, .int .i64 x1, .int .i64 x2, .int .i64 x3], .agg #[.int .i64 z0, .int .i64 z1, .int .i64 z2, .int .i64 z3]]).run Try.prog w5 = .ok _ _ := hy
                 have HR := Lib.hid hR
                 clear hb qM qX J5 hR))
            refine HR.out.mono ?_
            rintro e W3 (⟨rfl, hJ3, hk3⟩ | ⟨rfl, hJx3⟩)
            · have K6 := Lib.hid (K5.out.trans hk3)
              have X6 := Lib.hid (hk3.2.2 _ _ _ TT.out.2.2.2.2.2.2.1 TT.out.2.2.2.2.2.2.2 X5.out)
              have J6 := Lib.hid hJ3
              clear hJ3 hk3 Z5 qX5
              gi_wp2
              go_roundw
              case rel => exact ⟨m + 1, by omega, by go_num, by rw [YE.out, ← List.append_assoc]; exact J6.out, K6.out, X6.out⟩
              case measure => simp [intOf]; omega
            · clear Z5 qX5
              gi_wp2
              refine bodyPost_ret (results_none rfl _ _ _) rfl ?_
              exact ⟨⟨_, rfl⟩, .inr ⟨_, trivial, hJx3⟩⟩
        · obtain rfl : m = R.length := by omega
          gi_wp2
          go_roundw
          case rel => exact ⟨k + 1, by omega, by go_num, by rw [XS.out]; exact hJ, hK⟩
          case measure => simp [intOf]; omega
    · obtain rfl : k = L.length := by omega
      gi_wp2
      go_end0
      exact ⟨⟨_, rfl⟩, .inl ⟨_, rfl, hJ⟩⟩
end Go.Proofs.Ytneolndbhklboaa
