/- (impl.Shard).closing: its closure's contract, for every loop's body (the pile's two blocks are its own). -/
import Derived.RangeFuncNested
import Derived.RangeFuncBound
import Derived.RangeFuncCalls
import Derived.RangeFuncLeaves
import Derived.Shelf.Abstract
import Derived.Shelf.RegionOpen
import Derived.WalkKit
import Derived.OwnWalkIn
import Derived.TacticsInMore
import Derived.LoopNIn
import Derived.LoopIn
import Derived.Test.YtnfhlfbkdhpacaaSeqPR
import Derived.Test.YtnfhlfbkdhpacaaHeap9
namespace Go.Proofs.Ytnfhlfbkdhpacaa
open Go.RowKit Go.Shelf
attribute [local go_sem] Oper.semAt_some

/-- A row whose block lies as it lay. -/
theorem own_same {w w' : World} {lo sz n : Nat} {T : TypeId} {v : Value} {xs : List Value} (h : w.ownsRow lo T sz v n xs) (hb : ∀ g, v.ownBlock = some g → w'.heap[g]? = w.heap[g]?) : w'.ownsRow lo T sz v n xs := by
  refine ⟨h.1, ?_⟩
  rcases h.2 with ⟨rfl, hn⟩ | ⟨g, cap, cur, rfl, hlo, hh, r⟩
  · exact .inl ⟨rfl, hn⟩
  · exact .inr ⟨g, cap, cur, rfl, hlo, (hb g rfl).trans hh, r⟩
theorem Blk.same_ {w w' : World} {b : Nat} {T : TypeId} {cs : Array Value} (h : Blk w b T cs) (hb : w'.heap[b]? = w.heap[b]?) : Blk w' b T cs := hb.trans h
theorem own_at {w : World} {lo sz n c : Nat} {T : TypeId} {a : Option Addr} {xs : List Value} (h : w.ownsRow lo T sz (.slice a n c) n xs) (hn : 0 < n) : ∃ g, a = some ⟨g, 0, none⟩ ∧ lo ≤ g ∧ g < w.heap.size := by
  rcases h.2 with ⟨hv, h0⟩ | ⟨g, cap, cur, hv, hlo, hh, _⟩
  · injection hv with _ h1 _
    omega
  · injection hv with h1 _ _
    exact ⟨g, h1, hlo, (Array.getElem?_eq_some_iff.1 hh).1⟩
/-- How many the pile holds. -/
def pileLen (w : World) (pb : Nat) : Nat := match w.cell? ⟨pb, 0, none⟩ with | some (.slice _ n _) => n | _ => 0
theorem pileLen_of {w : World} {pb n c : Nat} {T : TypeId} {a : Option Addr} (h : Blk w pb T #[.slice a n c]) : pileLen w pb = n := by
  unfold pileLen
  rw [h.cell 0]
  rfl
/-- What the loop over the pile keeps. -/
structure PileAt (J : Nat → Nat → List Ag → World → Prop) (ys : List Ag) (pb g lo c2 : Nat) (a2 : Option Addr) (k : Nat) (q : List Ag) (w : World) : Prop where
  le : k ≤ ys.length
  perm : q.Perm (ys.drop k)
  heap : HeapN q q.length
  len : q.length = ys.length - k
  box : Blk w pb 69 #[.slice a2 q.length c2]
  row : w.ownsRow lo 37 6 (.slice a2 q.length c2) q.length (flatA q)
  kept : J pb g (ys.take k) w

set_option maxRecDepth 100000 in
set_option maxHeartbeats 4000000 in
theorem clos1_in (n : Nat) (hn : 1 ≤ n) (l Bs Bz Ba hi c : Nat) (a : Option Addr) (mk lt ov sz : Int) (al : Bool) (xs : List Ag) (hri : Rising xs) (hlen : xs.length ≤ 1048575) (J : Nat → Nat → List Ag → World → Prop) (Jx : List Ag → World → Prop) (W : World)
    (hJo : ∀ p r pre A B, J p r pre A → Off p r A B → J p r pre B)
    (hJ0 : ∀ p r A, Below W.heap.size W A → W.heap.size ≤ p → W.heap.size ≤ r → p < A.heap.size → r < A.heap.size → J p r [] A)
    (hY : ∀ p r pre x W1, J p r pre W1 → (pre ++ [x]) <+: pickL al mk sz xs → YieldAt Fence.wide (n - 1) Try.prog l #[.agg (aC x).toArray] W1 fun e W' =>
      (e = .returned (.bool true) ∧ J p r (pre ++ [x]) W' ∧ KpR p r W1 W') ∨ (e = .returned (.bool false) ∧ Jx (pre ++ [x]) W'))
    (hs : Blk W Bs 29 #[.slice a xs.length c, .int .i64 mk, .int .i64 lt, .int .i64 ov]) (hz : W.cell? ⟨Bz, 0, none⟩ = some (.int .i64 sz)) (ha : W.cell? ⟨Ba, 0, none⟩ = some (.bool al)) (hr : Ags W hi a c xs) (hhi : hi ≤ W.heap.size) :
    CallsIn Fence.wide n Try.prog 38 #[.func (.yield l) #[] #[], .pointer (some ⟨Bs, 0, none⟩), .pointer (some ⟨Bz, 0, none⟩), .pointer (some ⟨Ba, 0, none⟩)] W fun e W' => (∃ v, e = .returned v) ∧
      ((∃ ys p r, ys = pickL al mk sz xs ∧ J p r ys W') ∨ (∃ pre, True ∧ Jx pre W')) := by
  have hyl : (pickL al mk sz xs).length ≤ xs.length := List.length_filter_le _ _
  have hyr : Rising (pickL al mk sz xs) := Rising.filter hri _
  have PO := Lib.hid (pileOf_x a c mk lt ov sz al xs hi W hr hhi hri hlen)
  generalize pickL al mk sz xs = ys at hyl hyr PO hY ⊢
  have qs := hs.cell
  have HRI := Lib.hid hyr
  have HJO := Lib.hid hJo
  have HJ0 := Lib.hid hJ0
  have HY := Lib.hid hY
  clear hr hri hyr hJo hJ0 hY hs
  refine callsIn_of_wp Try.func38 rfl trivial ?_ rfl
  simp only [Try.ntmps38, List.size_toArray, List.length_cons, List.length_nil, Nat.reduceAdd, Nat.reduceSub, Array.replicate_succ, Array.replicate_zero, List.push_toArray, List.append_toArray, List.nil_append, List.cons_append]
  gi_wp2_with (first
    | (refine ⟨trivial, ?_⟩; gi_at_call 39; refine (callsIn_wide.2 PO.out).mono ?_; rintro e w1 ⟨pb, a2, c2, rfl, hpb, hk, ho, hb⟩
       have HK := Lib.hid hk
       have HO := Lib.hid ho
       have HB := Lib.hid hb
       have hsz := hb.size
       have hpl := hk.lt
       clear hk ho hb qs hz ha))
  have hnr : ∃ r, W.heap.size ≤ r ∧ r < w1.heap.size ∧ (0 < ys.length → a2 = some ⟨r, 0, none⟩ ∧ pb ≠ r) := by
    by_cases h0 : 0 < ys.length
    · obtain ⟨g, e, h1, h2⟩ := own_at HO.out h0
      refine ⟨g, h1, h2, fun _ => ⟨e, fun e2 => ?_⟩⟩
      subst e2
      subst e
      exact own_blk_ne HO.out HK.out (by decide) rfl
    · exact ⟨pb, hpb, hpl, fun h => absurd h h0⟩
  obtain ⟨g, hg1, hg2, hg3⟩ := hnr
  have HG := Lib.hid hg3
  have AT : Hid (PileAt J ys pb g W.heap.size c2 a2 0 ys w1) := Lib.hid ⟨Nat.zero_le _, List.Perm.refl _, HRI.out.heap, by simp, HK.out, HO.out, HJ0.out pb g w1 HB.out hpb hg1 hpl hg2⟩
  clear hg3 HK HO HJ0 PO
  gi_loopw [12] (fun _ wr => w1.heap.size ≤ wr.heap.size ∧ ∃ k q, PileAt J ys pb g W.heap.size c2 a2 k q wr) (fun _ wr => pileLen wr pb)
  case atStart => exact ⟨Nat.le_refl _, 0, ys, AT.out⟩
  case round =>
    obtain ⟨hsw, k, q, hat⟩ := hrel
    have hcell := hat.box.cell
    have hql := hat.len
    have hkl := hat.le
    by_cases hlt : k < ys.length
    · obtain ⟨m, hm⟩ : ∃ m, q.length = m + 1 := ⟨q.length - 1, by omega⟩
      have hd : ys.drop k = ys[k] :: ys.drop (k + 1) := List.drop_eq_getElem_cons hlt
      obtain ⟨ea2, hne⟩ := HG.out (by omega)
      have hpre : ys.take k ++ [ys[k]] = ys.take (k + 1) := by rw [List.take_succ_eq_append_getElem hlt]
      have HPRE := Lib.hid hpre
      have HPX : Hid (ys.take k ++ [ys[k]] <+: ys) := Lib.hid (by rw [hpre]; exact List.take_prefix _ _)
      have hrx : Rising (ys[k] :: ys.drop (k + 1)) := by rw [← hd]; exact Rising.drop HRI.out k
      generalize ys[k] = x at hd hrx HPRE HPX
      subst ea2
      have HPOP := Lib.hid (heapPop_x pb g c2 m W.heap.size q (ys.drop (k + 1)) x wr hat.box hat.row hm (by omega) hne hrx (by rw [← hd]; exact hat.perm) hat.heap)
      have HM := Lib.hid hm
      have HNE := Lib.hid hne
      have HAT := Lib.hid hat
      have HQL := Lib.hid hql
      have hq0 : 0 < (q.length : Int) := by omega
      clear hat hpre hd hrx hql hm hne
      gi_wp2_with (first
        | (refine ⟨trivial, ?_⟩; gi_at_call 40; refine (callsIn_wide.2 (len_x _ _ _ _)).mono ?_; rintro e w' ⟨rfl, rfl⟩)
        | (refine ⟨trivial, ?_⟩; gi_at_call 41; refine (callsIn_wide.2 HPOP.out).mono ?_; rintro e w3 ⟨rfl, ⟨q', p1, p2, p3, p4, p5⟩, hbel, hoff⟩
           have hoff1 : Off pb g wr w3 := ⟨(hbel 0 (by omega) (by omega) (by omega)).os, (hbel 0 (by omega) (by omega) (by omega)).tape, (hbel 0 (by omega) (by omega) (by omega)).output, (hbel 0 (by omega) (by omega) (by omega)).size, hoff⟩
           have hs3 := hoff1.size
           have J3 : J pb g (ys.take k) (w3.alloc (.cells #[.int .i64 x.win, .int .i64 x.key, .int .i64 x.cnt, .int .i64 x.sum, .int .i64 x.mn, .int .i64 x.mx] 37)) := HJO.out _ _ _ _ _ HAT.out.kept (hoff1.alloc _)
           obtain ⟨fn, tmps, assign, body, hy, hR⟩ := HY.out pb g _ x _ J3 HPX.out
           have hy : (Instr.yield l #[.agg #[.int .i64 x.win, .int .i64 x.key, .int .i64 x.cnt, .int .i64 x.sum, .int .i64 x.mn, .int .i64 x.mx]]).run Try.prog (w3.alloc (.cells #[.int .i64 x.win, .int .i64 x.key, .int .i64 x.cnt, .int .i64 x.sum, .int .i64 x.mn, .int .i64 x.mx] 37)) = .ok _ _ := hy
           have hta := assert_agg x.win x.key x.cnt x.sum x.mn x.mx w3
           have HR := Lib.hid hR
           have P1 := Lib.hid p1
           have P2 := Lib.hid p2
           have P3 := Lib.hid p3
           have P4 := Lib.hid (p4.alloc (.cells #[.int .i64 x.win, .int .i64 x.key, .int .i64 x.cnt, .int .i64 x.sum, .int .i64 x.mn, .int .i64 x.mx] 37))
           have P5 := Lib.hid (p5.alloc (.cells #[.int .i64 x.win, .int .i64 x.key, .int .i64 x.cnt, .int .i64 x.sum, .int .i64 x.mn, .int .i64 x.mx] 37))
           clear hoff hbel hoff1 J3 hR p1 p2 p3 p4 p5 hcell))
      refine HR.out.mono ?_
      rintro e W3 (⟨rfl, hJ3, hk3⟩ | ⟨rfl, hJx3⟩)
      · gi_wp2
        go_roundw
        case rel =>
          have e3 : q'.length = ys.length - (k + 1) := by rw [P3.out]; have := HM.out; have := HQL.out; omega
          have e4 : ∀ b, (Value.slice (some ⟨g, 0, none⟩) q'.length c2).ownBlock = some b → b = g := fun b hb => by
            simp [Value.ownBlock] at hb
            exact hb.symm
          exact ⟨by have := hk3.size; simp at this; omega, k + 1, q', by omega, P1.out, P2.out, e3, P4.out.same_ hk3.fst, own_same P5.out (fun b hb => by rw [e4 b hb]; exact hk3.snd), by rw [← HPRE.out]; exact hJ3⟩
        case measure =>
          rw [pileLen_of HAT.out.box, pileLen_of (P4.out.same_ hk3.fst), P3.out, HM.out]
          exact Nat.lt_succ_self _
      · gi_wp2
        refine bodyPost_ret (results_none rfl _ _ _) rfl ?_
        exact ⟨⟨_, rfl⟩, .inr ⟨_, trivial, hJx3⟩⟩
    · obtain rfl : k = ys.length := by omega
      have HAT := Lib.hid hat
      have hq0 : q.length = 0 := by omega
      have hq1 : ¬ 0 < (q.length : Int) := by omega
      clear hat hql
      gi_wp2_with (first
        | (refine ⟨trivial, ?_⟩; gi_at_call 40; refine (callsIn_wide.2 (len_x _ _ _ _)).mono ?_; rintro e w' ⟨rfl, rfl⟩))
      go_end0
      exact ⟨⟨_, rfl⟩, .inl ⟨_, pb, g, rfl, by have := HAT.out.kept; rwa [List.take_length] at this⟩⟩
end Go.Proofs.Ytnfhlfbkdhpacaa
