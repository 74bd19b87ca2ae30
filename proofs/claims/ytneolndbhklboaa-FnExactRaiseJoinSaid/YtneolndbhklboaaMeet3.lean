/- Chapter 12, impl's side: pairsOf. (made by tools/mkpairs.py) -/
import Derived.Test.YtneolndbhklboaaMeet2
import Derived.Test.YtneolndbhklboaaPairA
namespace Go.Proofs.Ytneolndbhklboaa
open Go.RowKit Go.Shelf
attribute [local go_sem] Oper.semAt_some
theorem KpJ.put {n0 B : Nat} (hn : n0 ≤ B) (W : World) (l : Nat) (o o' : Obj) (hl : B ≤ l) (h1 : W.heap[l]? = some o) (h2 : o.isCells = false) (h3 : o.isWalk = false) : KpJ n0 W (W.putObj l o') := by
  refine ⟨⟨rfl, rfl, rfl, by simp, fun k hk => World.putObj_heap_other (by omega)⟩, by simp, fun k T cs _ _ hk => ?_⟩
  have hne : k ≠ l := fun e => by
    subst e
    rw [show W.heap[k]? = _ from hk] at h1
    injection h1 with h1
    subst h1
    cases h2
  exact (World.putObj_heap_other hne).trans hk
theorem own_ne {w : World} {base g n sz : Nat} {e t : TypeId} {v : Value} {xs : List Value} {cs : Array Value} (h : w.ownsRow base e sz v n xs) (hg : Blk w g t cs) (hne : t ≠ e) : some g ≠ v.ownBlock := by
  intro e1
  rcases h.2 with ⟨rfl, _⟩ | ⟨g', cap, cur, rfl, _, hh, _⟩
  · simp [Value.ownBlock] at e1
  · have e2 : g = g' := by simpa [Value.ownBlock] using e1
    subst e2
    rw [show w.heap[g]? = _ from hg] at hh
    cases hh
    exact hne rfl
theorem stepIn_append_runG {F : Fence} {n : Nat} {P : Program} {w : World} {ops : Array Oper} {o : Oper} {a : Act} {K : Act → World → Prop} {Q : Exit → Act → World → Prop} {E : Prop} (hgd : o.guard = none) (s x : Operand) (t tn : TypeId)
    (hop : o.op = .call { callee := .builtin .append, args := #[s, x], argTypes := #[t, tn] }) (vs vx : Value) (hs : a.eval s = vs) (hx : a.eval x = vx)
    (v' : Value) (w' : World) (hr : (Builtin.append_ #[t, tn] o.type #[vs, vx]).run P w = .ok v' w') (h : K (a.put o.dst v') w') :
    if Region.wanted o (yielded ops a.tmps) = true then Oper.wpIn F n P o a w K Q else E := by
  have hw : Region.wanted o (yielded ops a.tmps) = true := by simp [Region.wanted, hgd]
  rw [if_pos hw]
  unfold Oper.wpIn
  refine ⟨?_, ?_⟩
  · simp [Oper.about, hop, resolve, Target.leads, Sem.run_pure]
  · rw [Oper.semAt_plain F _ _ (by rw [hop]; intro c hc'; cases hc')]
    simp [execOp, hop, resolve, invoke, builtin, hs, hx, hr, Result.andThen]
    exact h
theorem appendBox {W : World} {n0 PB c : Nat} {a : Option Addr} {l : List Pr} (S : Pr) (hv : Boxed W PB 30 (.slice a l.length c)) (hrow : W.ownsRow n0 53 5 (.slice a l.length c) l.length (flatG l)) (hn0 : n0 ≤ W.heap.size) (hPB : n0 ≤ PB) (hb : l.length ≤ 2097152) (ty : TypeId) :
    ∃ a3 c3 w1, (Builtin.append_ #[30, 30] ty #[.slice a l.length c, .slice (some ⟨W.heap.size, 0, none⟩) 1 1]).run Try.prog (W.alloc (.cells #[.int .i64 S.ky, .int .i64 S.lt, .int .i64 S.rt, .int .i64 S.lv, .int .i64 S.rv] 53)) = .ok (.slice a3 (l.length + 1) c3) w1 ∧
      Boxed w1 PB 30 (.slice a l.length c) ∧ Boxed (w1.setCell ⟨PB, 0, none⟩ (.slice a3 (l.length + 1) c3)) PB 30 (.slice a3 (l.length + 1) c3) ∧
      (w1.setCell ⟨PB, 0, none⟩ (.slice a3 (l.length + 1) c3)).ownsRow n0 53 5 (.slice a3 (l.length + 1) c3) (l.length + 1) (flatG (l ++ [S])) ∧ KeepsOthers W (w1.setCell ⟨PB, 0, none⟩ (.slice a3 (l.length + 1) c3)) ∧ KpJ n0 W (w1.setCell ⟨PB, 0, none⟩ (.slice a3 (l.length + 1) c3)) := by
  have hte : 30 ≠ 53 := by decide
  obtain ⟨a3, c3, w1, hr, h2, hb2, hg⟩ := appendG S rfl hrow hn0 hb ty
  have hv1 : Boxed w1 PB 30 (.slice a l.length c) := hv.kept hg (hv.not_row hte hrow)
  refine ⟨a3, c3, w1, hr, hv1, hv1.set _, h2.kept (grownBy_setCell' w1 PB _) (.inr (hv1.not_row hte h2).symm), ?_, (hb2.setCell (p := ⟨PB, 0, none⟩) hPB _), ?_, fun k T cs t1 t2 hk => ?_⟩
  · refine (KeepsOthers.of_grownBy hg fun j o ej hj => ?_).trans (KeepsOthers.setCell _ _ _)
    rcases hrow.2 with ⟨e, _⟩ | ⟨g, cap, cur, e, _, hgb, _⟩
    · rw [e] at ej; simp [Value.ownBlock] at ej
    · rw [e] at ej
      obtain rfl : g = j := by simpa [Value.ownBlock] using ej
      rw [hgb] at hj; cases hj; rfl
  · have := hg.size
    show W.heap.size ≤ (w1.heap.modify _ _).size
    rw [Array.size_modify]
    exact this
  · have h3 : Blk w1 k T cs := hk.grown hg (own_ne hrow hk t1)
    refine h3.grown (grown_setCell w1 PB 0 _) (fun e => ?_)
    injection e with e
    subst e
    have h4 := (show w1.heap[k]? = _ from hv1).symm.trans h3
    cases h4
    exact t2 rfl
set_option maxHeartbeats 4000000 in
set_option maxRecDepth 100000 in
theorem pairsOf_any (a1 a2 : Option Addr) (n1 n2 c1 c2 : Nat) (L R : List Fm) (by_ : Int) (hi : Nat) (w : World) (h1 : Fms w hi a1 c1 L) (h2 : Fms w hi a2 c2 R) (hn1 : n1 = L.length) (hn2 : n2 = R.length) (hB : hi ≤ w.heap.size) (hL : evsJ L = true) (hR : evsJ R = true) (hby : 0 ≤ by_ ∧ by_ ≤ 1000000) :
    Calls Try.prog 68 #[.slice a1 n1 c1, .slice a2 n2 c2, .int .i64 by_] w (FreshR gC 53 5 (allJ L R by_ L.length) w) := by
  subst hn1
  subst hn2
  obtain ⟨gL, uL⟩ := evsJ_bd hL
  obtain ⟨gR, uR⟩ := evsJ_bd hR
  have TL := Lib.hid (fun i hi => (evJ_bd (uL i hi)).2.1)
  have TR := Lib.hid (fun i hi => (evJ_bd (uR i hi)).2.1)
  have HBY := Lib.hid hby
  have H1 := Lib.hid (h1.more hB)
  have H2 := Lib.hid (h2.more hB)
  obtain ⟨i0, hi0, hz0, hz1, hz2⟩ : ∃ i0, Try.prog.info? 53 = some i0 ∧ i0.zero = some (.agg #[.int .i64 0, .int .i64 0, .int .i64 0, .int .i64 0, .int .i64 0]) ∧ i0.size = 5 ∧ i0.bytes = 40 := by
    obtain ⟨i, hi, hzz⟩ := Option.map_eq_some_iff.1 infoPair
    simp only [Prod.mk.injEq] at hzz
    exact ⟨i, hi, hzz.1, hzz.2.1, hzz.2.2⟩
  clear h1 h2 hL hR uL uR hby hB
  refine (callsIn_wide (n := 9)).1 ?_
  refine callsIn_of_wp_marks Try.func68 rfl trivial ?_ rfl
  refine wpIn_wide.2 ?_
  simp only [Try.ntmps68, List.size_toArray, List.length_cons, List.length_nil, Nat.reduceAdd, Nat.reduceSub, Array.replicate_succ, Array.replicate_zero, List.push_toArray, List.append_toArray, List.nil_append, List.cons_append]
  generalize hQ : bodyPostM _ _ _ _ _ = Q
  have HQ := Lib.hid hQ
  clear hQ
  go_wp2_with (first
    | (go_at_call 97; refine (meetWithin_x _ _).mono ?_; rintro e w' ⟨rfl, rfl⟩)
    | (go_at_call 96; refine (meeting_x _ _ _ _ _ _ _ _).mono ?_; rintro e w' ⟨rfl, rfl⟩)
    | go_in)
  refine (wpIn_wide (n := 9)).1 ?_
  have K0 := Lib.hid (Boxed.new w 30 (.slice none 0 0))
  obtain ⟨w1, hw1⟩ : ∃ w1, w1 = w.alloc (.cells #[.slice none 0 0] 30) := ⟨_, rfl⟩
  have hsz1 : w1.heap.size = w.heap.size + 1 := by rw [hw1]; simp
  have B1 : Hid (Below w.heap.size w w1) := Lib.hid (by rw [hw1]; exact (Below.refl _ _).alloc (Nat.le_refl _) _)
  have P1 : Hid (Boxed w1 w.heap.size 30 (.slice none 0 0)) := Lib.hid (by rw [hw1]; exact K0.out)
  rw [← hw1, ← hsz1]
  have HS1 := Lib.hid hsz1
  have hle1 : w.heap.size < w1.heap.size := by omega
  clear hw1 K0 hsz1
  have bW := (((Below.refl w1.heap.size w1).alloc (Nat.le_refl _) (.cells #[.int .i64 by_] 3)).alloc (by simp) (.cells #[.slice a1 L.length c1] 97)).alloc (by simp; omega) (.cells #[.slice a2 R.length c2] 97)
  have bW := bW.alloc (by simp; omega) (.cells #[.func (.func 109) #[] #[.pointer (some ⟨w1.heap.size, 0, none⟩)]] 96)
  have kb := (((Blk.new w1 3 #[.int .i64 by_]).alloc (.cells #[.slice a1 L.length c1] 97)).alloc (.cells #[.slice a2 R.length c2] 97)).alloc (.cells #[.func (.func 109) #[] #[.pointer (some ⟨w1.heap.size, 0, none⟩)]] 96)
  have kl := (((Blk.new (w1.alloc (.cells #[.int .i64 by_] 3)) 97 #[.slice a1 L.length c1])).alloc (.cells #[.slice a2 R.length c2] 97)).alloc (.cells #[.func (.func 109) #[] #[.pointer (some ⟨w1.heap.size, 0, none⟩)]] 96)
  have kr := (Blk.new ((w1.alloc (.cells #[.int .i64 by_] 3)).alloc (.cells #[.slice a1 L.length c1] 97)) 97 #[.slice a2 R.length c2]).alloc (.cells #[.func (.func 109) #[] #[.pointer (some ⟨w1.heap.size, 0, none⟩)]] 96)
  have km := Blk.new (((w1.alloc (.cells #[.int .i64 by_] 3)).alloc (.cells #[.slice a1 L.length c1] 97)).alloc (.cells #[.slice a2 R.length c2] 97)) 96 #[.func (.func 109) #[] #[.pointer (some ⟨w1.heap.size, 0, none⟩)]]
  simp only [World.size_alloc] at kl kr km
  generalize hw4 : World.alloc (World.alloc _ _) _ = w4 at bW kb kl kr km ⊢
  have hle4 : w1.heap.size ≤ w4.heap.size := by rw [← hw4]; simp; omega
  clear hw4
  have BW := Lib.hid bW
  have KB := Lib.hid kb
  have KL := Lib.hid kl
  have KR := Lib.hid kr
  have KM := Lib.hid km
  have P4 : Hid (Boxed w4 w.heap.size 30 (.slice none 0 0)) := Lib.hid ((bW.block _ (by omega)).trans P1.out)
  have B4 := Lib.hid (B1.out.trans (bW.mono (by omega)))
  clear bW kb kl kr km P1 B1
  refine wpIn_rangeFunc_ownH rfl (by omega) (gf := 108) (lb := #[.pointer (some ⟨w1.heap.size + 1, 0, none⟩), .pointer (some ⟨w1.heap.size + 1 + 1, 0, none⟩), .pointer (some ⟨w1.heap.size + 1 + 1 + 1, 0, none⟩)]) rfl trivial (enters_of Try.func108 (by kernel_rfl) rfl)
    (encs := fun x : Fm × Fm => #[.agg (qC x.1).toArray, .agg (qC x.2).toArray]) (Kp := KpJ w.heap.size) (S := fun ys => ys = pqTo L R by_ L.length) (Sp := fun _ => True) (N := 1640) (w0 := w4)
    (fun l J Jx W hW hJ _ hY h0 => meet1_in 8 (by omega) l _ _ _ w1.heap.size w.heap.size c1 c2 a1 a2 L R by_ gL gR TL.out TR.out HBY.out J Jx W hJ hY (KL.out.below hW) (KR.out.below hW) (KM.out.below hW) (KB.out.below hW) (H1.out.below (B4.out.trans (hW.mono (by omega)))) (H2.out.below (B4.out.trans (hW.mono (by omega)))) (by have := hW.size; omega) h0)
    (fun h k => h.trans k) (fun W l o o' hl h1 h2 h3 => KpJ.put (B := w4.heap.size) (by omega) W l o o' hl h1 h2 h3) (Below.refl _ _) (fun _ => rfl)
    (fun pre W => (∃ v, Boxed W w.heap.size 30 v ∧ W.ownsRow w.heap.size 53 5 v (pre.map pq2).length (flatG (pre.map pq2)) ∧ True) ∧ Below w.heap.size w W)
    (fun _ _ _ => False) ?own (fun _ _ _ _ _ hs _ _ => hs) ?start
    (fun x a' W => ∃ p q, a' = { tmps := #[.slice a1 L.length c1, .slice a2 R.length c2, .int .i64 by_, undef, undef, undef, .slice none 0 0, .pointer (some ⟨w.heap.size, 0, none⟩), .pointer (some ⟨p, 0, none⟩), .pointer (some ⟨q, 0, none⟩), .slice a1 L.length c1, .slice a2 R.length c2, .int .i64 by_,
        .func (.func 109) #[] #[.pointer (some ⟨w1.heap.size, 0, none⟩)], .func (.func 108) #[] #[.pointer (some ⟨w1.heap.size + 1, 0, none⟩), .pointer (some ⟨w1.heap.size + 1 + 1, 0, none⟩), .pointer (some ⟨w1.heap.size + 1 + 1 + 1, 0, none⟩)],
        .agg (qC x.1).toArray, .agg (qC x.2).toArray, undef, undef, undef, undef, undef, undef, undef], defers := [] } ∧ Blk W p 38 (qC x.1).toArray ∧ Blk W q 38 (qC x.2).toArray) ?ax ?assign ?body ?done ?stop
  case own =>
    exact OwnFrom.and (Own.from (holdsRow_own w.heap.size w.heap.size 30 53 5 (fun pre : List (Fm × Fm) => (pre.map pq2).length) (fun pre => flatG (pre.map pq2)) (fun _ _ => True)) _) (ownFrom_below (Nat.le_refl _) (by omega))
  case start =>
    exact ⟨⟨_, P4.out, World.ownsRow_nil _ _ _ _, trivial⟩, B4.out⟩
  case ax =>
    intro x a'
    rintro s X Y row ⟨p, q, e, hp, hq⟩ hg hr
    refine ⟨p, q, e, hp.grown hg (fun e' => ?_), hq.grown hg (fun e' => ?_)⟩
    · obtain ⟨_, o, ho, hc⟩ := hr p e'.symm
      rw [show X.heap[p]? = _ from hp] at ho; cases ho; cases hc
    · obtain ⟨_, o, ho, hc⟩ := hr q e'.symm
      rw [show X.heap[q]? = _ from hq] at ho; cases ho; cases hc
  case assign =>
    rintro l pre ⟨⟨x0, x1, x2, x3⟩, ⟨z0, z1, z2, z3⟩⟩ W K hI hK
    have bA := ((Below.refl W.heap.size W).alloc (Nat.le_refl _) (.cells #[.int .i64 x0, .int .i64 x1, .int .i64 x2, .int .i64 x3] 38)).alloc (by simp) (.cells #[.int .i64 z0, .int .i64 z1, .int .i64 z2, .int .i64 z3] 38)
    have BA := Lib.hid bA
    have hsW := hI.2.size
    have HI := Lib.hid hI
    have HK := Lib.hid hK
    clear bA hI hK
    simp only [qC]
    gi_wp2
    refine HK.out _ _ (((KeepsOthers.alloc W _).trans (KeepsOthers.alloc _ _)).from _) (KpJ.of_below BA.out hsW) ?_ ?_
    · obtain ⟨⟨v, hv, hrow, _⟩, hB⟩ := HI.out
      exact ⟨⟨v, (hv.alloc _).alloc _, (hrow.alloc _).alloc _, trivial⟩, hB.trans (BA.out.mono hsW)⟩
    · refine ⟨W.heap.size, W.heap.size + 1, rfl, (Blk.new W 38 _).alloc _, ?_⟩
      have h9 := Blk.new (W.alloc (.cells #[.int .i64 x0, .int .i64 x1, .int .i64 x2, .int .i64 x3] 38)) 38 #[.int .i64 z0, .int .i64 z1, .int .i64 z2, .int .i64 z3]
      rw [World.size_alloc] at h9
      exact h9
  case body =>
    rintro l pre ⟨⟨x0, x1, x2, x3⟩, ⟨z0, z1, z2, z3⟩⟩ a' W _ _ ⟨⟨v, hv, hrow, _⟩, hB⟩ ⟨p, q, rfl, hp, hq⟩ hlen
    obtain ⟨a, c, rfl⟩ := owns_shape hrow
    simp only [qC] at hp hq ⊢
    have hsW := hB.size
    have hpm : (pre ++ [((⟨x0, x1, x2, x3⟩ : Fm), (⟨z0, z1, z2, z3⟩ : Fm))]).map pq2 = pre.map pq2 ++ [⟨x1, x2, z2, x3, z3⟩] := by rw [List.map_append]; rfl
    have hll : (pre.map pq2).length ≤ 2097152 := by rw [List.length_map]; omega
    have HPM := Lib.hid hpm
    clear hpm
    generalize pre.map pq2 = l0 at hv hrow hll HPM
    have bA := ((((Below.refl W.drew.heap.size W.drew).alloc (Nat.le_refl _) (.cells #[.int .i64 x0, .int .i64 x1, .int .i64 x2, .int .i64 x3] 38)).alloc (by simp) (.cells #[.int .i64 z0, .int .i64 z1, .int .i64 z2, .int .i64 z3] 38)).alloc (by simp; omega) (.cells #[.int .i64 x1, .int .i64 x2, .int .i64 z2, .int .i64 x3, .int .i64 z3] 53))
    have koA := ((KeepsOthers.drew W).trans ((KeepsOthers.alloc W.drew (.cells #[.int .i64 x0, .int .i64 x1, .int .i64 x2, .int .i64 x3] 38)).trans ((KeepsOthers.alloc _ (.cells #[.int .i64 z0, .int .i64 z1, .int .i64 z2, .int .i64 z3] 38)).trans (KeepsOthers.alloc _ (.cells #[.int .i64 x1, .int .i64 x2, .int .i64 z2, .int .i64 x3, .int .i64 z3] 53)))))
    obtain ⟨W3, hW3⟩ : ∃ W3, W3 = ((W.drew.alloc (.cells #[.int .i64 x0, .int .i64 x1, .int .i64 x2, .int .i64 x3] 38)).alloc (.cells #[.int .i64 z0, .int .i64 z1, .int .i64 z2, .int .i64 z3] 38)).alloc (.cells #[.int .i64 x1, .int .i64 x2, .int .i64 z2, .int .i64 x3, .int .i64 z3] 53) := ⟨_, rfl⟩
    rw [← hW3] at bA koA
    have bA2 : Below W.heap.size W W3 := (Below.refl W.heap.size W).drew.trans bA
    have hs3 : W3.heap.size = W.heap.size + 1 + 1 + 1 := by rw [hW3]; simp
    obtain ⟨a3, c3, w9, hrun, hv1, hv2, hr2, hk2, hp2⟩ := appendBox ⟨x1, x2, z2, x3, z3⟩ (W := W3) (show Boxed W3 _ _ _ from (bA.block _ hv.lt).trans hv) (owns_below (show W.drew.ownsRow _ _ _ _ _ _ from hrow) bA) (by have := bA.size; simp at this; omega) (Nat.le_refl _) hll 30
    have hc1 := hv1.cell
    have hf1 := hv1.frozen
    have hc0 := hv.cell
    have hc3 := (((hv.alloc (.cells #[.int .i64 x0, .int .i64 x1, .int .i64 x2, .int .i64 x3] 38)).alloc (.cells #[.int .i64 z0, .int .i64 z1, .int .i64 z2, .int .i64 z3] 38)).alloc (.cells #[.int .i64 x1, .int .i64 x2, .int .i64 z2, .int .i64 x3, .int .i64 z3] 53)).cell
    have hc4 := ((((hv.alloc (.cells #[.int .i64 x0, .int .i64 x1, .int .i64 x2, .int .i64 x3] 38)).alloc (.cells #[.int .i64 z0, .int .i64 z1, .int .i64 z2, .int .i64 z3] 38)).alloc (.cells #[.int .i64 x1, .int .i64 x2, .int .i64 z2, .int .i64 x3, .int .i64 z3] 53)).alloc (.cells #[.int .i64 x1, .int .i64 x2, .int .i64 z2, .int .i64 x3, .int .i64 z3] 53)).cell
    have hcp := hp.cell
    have hcq := hq.cell
    have HEND : Hid (KeepsFrom w4.heap.size W (w9.setCell ⟨w.heap.size, 0, none⟩ (.slice a3 (l0.length + 1) c3)) ∧ KpJ w.heap.size W (w9.setCell ⟨w.heap.size, 0, none⟩ (.slice a3 (l0.length + 1) c3)) ∧
        ((∃ v, Boxed (w9.setCell ⟨w.heap.size, 0, none⟩ (.slice a3 (l0.length + 1) c3)) w.heap.size 30 v ∧ (w9.setCell ⟨w.heap.size, 0, none⟩ (.slice a3 (l0.length + 1) c3)).ownsRow w.heap.size 53 5 v ((pre ++ [((⟨x0, x1, x2, x3⟩ : Fm), (⟨z0, z1, z2, z3⟩ : Fm))]).map pq2).length (flatG ((pre ++ [((⟨x0, x1, x2, x3⟩ : Fm), (⟨z0, z1, z2, z3⟩ : Fm))]).map pq2)) ∧ True) ∧
          Below w.heap.size w (w9.setCell ⟨w.heap.size, 0, none⟩ (.slice a3 (l0.length + 1) c3)))) :=
      Lib.hid (by
        have kA : KpJ w.heap.size W W3 := KpJ.of_below bA2 hsW
        refine ⟨(koA.trans hk2).from _, kA.trans hp2, ⟨_, hv2, by rw [HPM.out, List.length_append]; exact hr2, trivial⟩, hB.trans (kA.trans hp2).1⟩)
    rw [hs3] at hrun
    subst hW3
    clear hv hrow hB hp hq bA bA2 koA hv1 hv2 hr2 hk2 hp2 HPM hll
    have hmix : Try.prog.follows .mixedOrders = true := by kernel_rfl
    gi_wp2
    refine wpIn_region_any (by assumption) ?_
    change wpAnyIn _ _ _ _ _ _ _ _ _ (World.drew _)
    refine wpAnyIn_ready (rs := [0, 1, 2]) (by kernel_rfl) (by simp) ?_
    refine AllReadyIn.cons rfl (fun K hK => ?_) (AllReadyIn.cons rfl (fun K hK => ?_) (AllReadyIn.cons rfl (fun K hK => ?_) AllReadyIn.nil))
    · go_simp
      refine hK _ _ ?_
      clear hK K
      refine wpAnyIn_ready (rs := [1, 2]) (by kernel_rfl) (by simp) ?_
      refine AllReadyIn.cons rfl (fun K hK => ?_) (AllReadyIn.cons rfl (fun K hK => ?_) AllReadyIn.nil)
      · go_simp
        refine hK _ _ ?_
        clear hK K
        refine wpAnyIn_ready (rs := [2]) (by kernel_rfl) (by simp) ?_
        refine AllReadyIn.cons rfl (fun K hK => ?_) AllReadyIn.nil
        go_simp
        refine hK _ _ ?_
        clear hK K
        refine wpAnyIn_ready (rs := [3]) (by kernel_rfl) (by simp) ?_
        refine AllReadyIn.cons rfl (fun K hK => ?_) AllReadyIn.nil
        go_simp
        gi_wp2_with (refine ⟨trivial, ?_⟩; gi_at_call 98; refine (CallsIn.inRound l (callsIn_wide.2 (pairOf_x _ _ _ _ _ _ _ _ _))).mono ?_; rintro e w' ⟨rfl, rfl⟩)
        refine wpAnyIn_ready (rs := [4]) (by kernel_rfl) (by simp) ?_
        refine AllReadyIn.cons rfl (fun K hK => ?_) AllReadyIn.nil
        go_simp
        refine hK _ _ ?_
        clear hK K
        refine wpAnyIn_ready (rs := [5]) (by kernel_rfl) (by simp) ?_
        refine AllReadyIn.cons rfl (fun K hK => ?_) AllReadyIn.nil
        refine stepIn_append_runG rfl _ _ _ _ rfl _ _ rfl rfl _ _ hrun ?_
        refine hK _ _ ?_
        clear hK K
        refine wpAnyIn_ready (rs := [6]) (by kernel_rfl) (by simp) ?_
        refine AllReadyIn.cons rfl (fun K hK => ?_) AllReadyIn.nil
        go_simp
        refine hK _ _ ?_
        clear hK K
        refine wpAnyIn_done (by kernel_rfl) ?_ _
        exact HEND.out
      · go_simp
        refine hK _ _ ?_
        clear hK K
        refine wpAnyIn_ready (rs := [1]) (by kernel_rfl) (by simp) ?_
        refine AllReadyIn.cons rfl (fun K hK => ?_) AllReadyIn.nil
        go_simp
        refine hK _ _ ?_
        clear hK K
        refine wpAnyIn_ready (rs := [3]) (by kernel_rfl) (by simp) ?_
        refine AllReadyIn.cons rfl (fun K hK => ?_) AllReadyIn.nil
        go_simp
        gi_wp2_with (refine ⟨trivial, ?_⟩; gi_at_call 98; refine (CallsIn.inRound l (callsIn_wide.2 (pairOf_x _ _ _ _ _ _ _ _ _))).mono ?_; rintro e w' ⟨rfl, rfl⟩)
        refine wpAnyIn_ready (rs := [4]) (by kernel_rfl) (by simp) ?_
        refine AllReadyIn.cons rfl (fun K hK => ?_) AllReadyIn.nil
        go_simp
        refine hK _ _ ?_
        clear hK K
        refine wpAnyIn_ready (rs := [5]) (by kernel_rfl) (by simp) ?_
        refine AllReadyIn.cons rfl (fun K hK => ?_) AllReadyIn.nil
        refine stepIn_append_runG rfl _ _ _ _ rfl _ _ rfl rfl _ _ hrun ?_
        refine hK _ _ ?_
        clear hK K
        refine wpAnyIn_ready (rs := [6]) (by kernel_rfl) (by simp) ?_
        refine AllReadyIn.cons rfl (fun K hK => ?_) AllReadyIn.nil
        go_simp
        refine hK _ _ ?_
        clear hK K
        refine wpAnyIn_done (by kernel_rfl) ?_ _
        exact HEND.out
    · go_simp
      refine hK _ _ ?_
      clear hK K
      refine wpAnyIn_ready (rs := [0, 2]) (by kernel_rfl) (by simp) ?_
      refine AllReadyIn.cons rfl (fun K hK => ?_) (AllReadyIn.cons rfl (fun K hK => ?_) AllReadyIn.nil)
      · go_simp
        refine hK _ _ ?_
        clear hK K
        refine wpAnyIn_ready (rs := [2]) (by kernel_rfl) (by simp) ?_
        refine AllReadyIn.cons rfl (fun K hK => ?_) AllReadyIn.nil
        go_simp
        refine hK _ _ ?_
        clear hK K
        refine wpAnyIn_ready (rs := [3]) (by kernel_rfl) (by simp) ?_
        refine AllReadyIn.cons rfl (fun K hK => ?_) AllReadyIn.nil
        go_simp
        gi_wp2_with (refine ⟨trivial, ?_⟩; gi_at_call 98; refine (CallsIn.inRound l (callsIn_wide.2 (pairOf_x _ _ _ _ _ _ _ _ _))).mono ?_; rintro e w' ⟨rfl, rfl⟩)
        refine wpAnyIn_ready (rs := [4]) (by kernel_rfl) (by simp) ?_
        refine AllReadyIn.cons rfl (fun K hK => ?_) AllReadyIn.nil
        go_simp
        refine hK _ _ ?_
        clear hK K
        refine wpAnyIn_ready (rs := [5]) (by kernel_rfl) (by simp) ?_
        refine AllReadyIn.cons rfl (fun K hK => ?_) AllReadyIn.nil
        refine stepIn_append_runG rfl _ _ _ _ rfl _ _ rfl rfl _ _ hrun ?_
        refine hK _ _ ?_
        clear hK K
        refine wpAnyIn_ready (rs := [6]) (by kernel_rfl) (by simp) ?_
        refine AllReadyIn.cons rfl (fun K hK => ?_) AllReadyIn.nil
        go_simp
        refine hK _ _ ?_
        clear hK K
        refine wpAnyIn_done (by kernel_rfl) ?_ _
        exact HEND.out
      · go_simp
        refine hK _ _ ?_
        clear hK K
        refine wpAnyIn_ready (rs := [0, 3]) (by kernel_rfl) (by simp) ?_
        refine AllReadyIn.cons rfl (fun K hK => ?_) (AllReadyIn.cons rfl (fun K hK => ?_) AllReadyIn.nil)
        · go_simp
          refine hK _ _ ?_
          clear hK K
          refine wpAnyIn_ready (rs := [3]) (by kernel_rfl) (by simp) ?_
          refine AllReadyIn.cons rfl (fun K hK => ?_) AllReadyIn.nil
          go_simp
          gi_wp2_with (refine ⟨trivial, ?_⟩; gi_at_call 98; refine (CallsIn.inRound l (callsIn_wide.2 (pairOf_x _ _ _ _ _ _ _ _ _))).mono ?_; rintro e w' ⟨rfl, rfl⟩)
          refine wpAnyIn_ready (rs := [4]) (by kernel_rfl) (by simp) ?_
          refine AllReadyIn.cons rfl (fun K hK => ?_) AllReadyIn.nil
          go_simp
          refine hK _ _ ?_
          clear hK K
          refine wpAnyIn_ready (rs := [5]) (by kernel_rfl) (by simp) ?_
          refine AllReadyIn.cons rfl (fun K hK => ?_) AllReadyIn.nil
          refine stepIn_append_runG rfl _ _ _ _ rfl _ _ rfl rfl _ _ hrun ?_
          refine hK _ _ ?_
          clear hK K
          refine wpAnyIn_ready (rs := [6]) (by kernel_rfl) (by simp) ?_
          refine AllReadyIn.cons rfl (fun K hK => ?_) AllReadyIn.nil
          go_simp
          refine hK _ _ ?_
          clear hK K
          refine wpAnyIn_done (by kernel_rfl) ?_ _
          exact HEND.out
        · go_simp
          gi_wp2_with (refine ⟨trivial, ?_⟩; gi_at_call 98; refine (CallsIn.inRound l (callsIn_wide.2 (pairOf_x _ _ _ _ _ _ _ _ _))).mono ?_; rintro e w' ⟨rfl, rfl⟩)
          refine wpAnyIn_ready (rs := [0, 4]) (by kernel_rfl) (by simp) ?_
          refine AllReadyIn.cons rfl (fun K hK => ?_) (AllReadyIn.cons rfl (fun K hK => ?_) AllReadyIn.nil)
          · go_simp
            refine hK _ _ ?_
            clear hK K
            refine wpAnyIn_ready (rs := [4]) (by kernel_rfl) (by simp) ?_
            refine AllReadyIn.cons rfl (fun K hK => ?_) AllReadyIn.nil
            go_simp
            refine hK _ _ ?_
            clear hK K
            refine wpAnyIn_ready (rs := [5]) (by kernel_rfl) (by simp) ?_
            refine AllReadyIn.cons rfl (fun K hK => ?_) AllReadyIn.nil
            refine stepIn_append_runG rfl _ _ _ _ rfl _ _ rfl rfl _ _ hrun ?_
            refine hK _ _ ?_
            clear hK K
            refine wpAnyIn_ready (rs := [6]) (by kernel_rfl) (by simp) ?_
            refine AllReadyIn.cons rfl (fun K hK => ?_) AllReadyIn.nil
            go_simp
            refine hK _ _ ?_
            clear hK K
            refine wpAnyIn_done (by kernel_rfl) ?_ _
            exact HEND.out
          · go_simp
            refine hK _ _ ?_
            clear hK K
            refine wpAnyIn_ready (rs := [0]) (by kernel_rfl) (by simp) ?_
            refine AllReadyIn.cons rfl (fun K hK => ?_) AllReadyIn.nil
            go_simp
            refine hK _ _ ?_
            clear hK K
            refine wpAnyIn_ready (rs := [5]) (by kernel_rfl) (by simp) ?_
            refine AllReadyIn.cons rfl (fun K hK => ?_) AllReadyIn.nil
            refine stepIn_append_runG rfl _ _ _ _ rfl _ _ rfl rfl _ _ hrun ?_
            refine hK _ _ ?_
            clear hK K
            refine wpAnyIn_ready (rs := [6]) (by kernel_rfl) (by simp) ?_
            refine AllReadyIn.cons rfl (fun K hK => ?_) AllReadyIn.nil
            go_simp
            refine hK _ _ ?_
            clear hK K
            refine wpAnyIn_done (by kernel_rfl) ?_ _
            exact HEND.out
    · go_simp
      refine hK _ _ ?_
      clear hK K
      refine wpAnyIn_ready (rs := [0, 1]) (by kernel_rfl) (by simp) ?_
      refine AllReadyIn.cons rfl (fun K hK => ?_) (AllReadyIn.cons rfl (fun K hK => ?_) AllReadyIn.nil)
      · go_simp
        refine hK _ _ ?_
        clear hK K
        refine wpAnyIn_ready (rs := [1]) (by kernel_rfl) (by simp) ?_
        refine AllReadyIn.cons rfl (fun K hK => ?_) AllReadyIn.nil
        go_simp
        refine hK _ _ ?_
        clear hK K
        refine wpAnyIn_ready (rs := [3]) (by kernel_rfl) (by simp) ?_
        refine AllReadyIn.cons rfl (fun K hK => ?_) AllReadyIn.nil
        go_simp
        gi_wp2_with (refine ⟨trivial, ?_⟩; gi_at_call 98; refine (CallsIn.inRound l (callsIn_wide.2 (pairOf_x _ _ _ _ _ _ _ _ _))).mono ?_; rintro e w' ⟨rfl, rfl⟩)
        refine wpAnyIn_ready (rs := [4]) (by kernel_rfl) (by simp) ?_
        refine AllReadyIn.cons rfl (fun K hK => ?_) AllReadyIn.nil
        go_simp
        refine hK _ _ ?_
        clear hK K
        refine wpAnyIn_ready (rs := [5]) (by kernel_rfl) (by simp) ?_
        refine AllReadyIn.cons rfl (fun K hK => ?_) AllReadyIn.nil
        refine stepIn_append_runG rfl _ _ _ _ rfl _ _ rfl rfl _ _ hrun ?_
        refine hK _ _ ?_
        clear hK K
        refine wpAnyIn_ready (rs := [6]) (by kernel_rfl) (by simp) ?_
        refine AllReadyIn.cons rfl (fun K hK => ?_) AllReadyIn.nil
        go_simp
        refine hK _ _ ?_
        clear hK K
        refine wpAnyIn_done (by kernel_rfl) ?_ _
        exact HEND.out
      · go_simp
        refine hK _ _ ?_
        clear hK K
        refine wpAnyIn_ready (rs := [0, 3]) (by kernel_rfl) (by simp) ?_
        refine AllReadyIn.cons rfl (fun K hK => ?_) (AllReadyIn.cons rfl (fun K hK => ?_) AllReadyIn.nil)
        · go_simp
          refine hK _ _ ?_
          clear hK K
          refine wpAnyIn_ready (rs := [3]) (by kernel_rfl) (by simp) ?_
          refine AllReadyIn.cons rfl (fun K hK => ?_) AllReadyIn.nil
          go_simp
          gi_wp2_with (refine ⟨trivial, ?_⟩; gi_at_call 98; refine (CallsIn.inRound l (callsIn_wide.2 (pairOf_x _ _ _ _ _ _ _ _ _))).mono ?_; rintro e w' ⟨rfl, rfl⟩)
          refine wpAnyIn_ready (rs := [4]) (by kernel_rfl) (by simp) ?_
          refine AllReadyIn.cons rfl (fun K hK => ?_) AllReadyIn.nil
          go_simp
          refine hK _ _ ?_
          clear hK K
          refine wpAnyIn_ready (rs := [5]) (by kernel_rfl) (by simp) ?_
          refine AllReadyIn.cons rfl (fun K hK => ?_) AllReadyIn.nil
          refine stepIn_append_runG rfl _ _ _ _ rfl _ _ rfl rfl _ _ hrun ?_
          refine hK _ _ ?_
          clear hK K
          refine wpAnyIn_ready (rs := [6]) (by kernel_rfl) (by simp) ?_
          refine AllReadyIn.cons rfl (fun K hK => ?_) AllReadyIn.nil
          go_simp
          refine hK _ _ ?_
          clear hK K
          refine wpAnyIn_done (by kernel_rfl) ?_ _
          exact HEND.out
        · go_simp
          gi_wp2_with (refine ⟨trivial, ?_⟩; gi_at_call 98; refine (CallsIn.inRound l (callsIn_wide.2 (pairOf_x _ _ _ _ _ _ _ _ _))).mono ?_; rintro e w' ⟨rfl, rfl⟩)
          refine wpAnyIn_ready (rs := [0, 4]) (by kernel_rfl) (by simp) ?_
          refine AllReadyIn.cons rfl (fun K hK => ?_) (AllReadyIn.cons rfl (fun K hK => ?_) AllReadyIn.nil)
          · go_simp
            refine hK _ _ ?_
            clear hK K
            refine wpAnyIn_ready (rs := [4]) (by kernel_rfl) (by simp) ?_
            refine AllReadyIn.cons rfl (fun K hK => ?_) AllReadyIn.nil
            go_simp
            refine hK _ _ ?_
            clear hK K
            refine wpAnyIn_ready (rs := [5]) (by kernel_rfl) (by simp) ?_
            refine AllReadyIn.cons rfl (fun K hK => ?_) AllReadyIn.nil
            refine stepIn_append_runG rfl _ _ _ _ rfl _ _ rfl rfl _ _ hrun ?_
            refine hK _ _ ?_
            clear hK K
            refine wpAnyIn_ready (rs := [6]) (by kernel_rfl) (by simp) ?_
            refine AllReadyIn.cons rfl (fun K hK => ?_) AllReadyIn.nil
            go_simp
            refine hK _ _ ?_
            clear hK K
            refine wpAnyIn_done (by kernel_rfl) ?_ _
            exact HEND.out
          · go_simp
            refine hK _ _ ?_
            clear hK K
            refine wpAnyIn_ready (rs := [0]) (by kernel_rfl) (by simp) ?_
            refine AllReadyIn.cons rfl (fun K hK => ?_) AllReadyIn.nil
            go_simp
            refine hK _ _ ?_
            clear hK K
            refine wpAnyIn_ready (rs := [5]) (by kernel_rfl) (by simp) ?_
            refine AllReadyIn.cons rfl (fun K hK => ?_) AllReadyIn.nil
            refine stepIn_append_runG rfl _ _ _ _ rfl _ _ rfl rfl _ _ hrun ?_
            refine hK _ _ ?_
            clear hK K
            refine wpAnyIn_ready (rs := [6]) (by kernel_rfl) (by simp) ?_
            refine AllReadyIn.cons rfl (fun K hK => ?_) AllReadyIn.nil
            go_simp
            refine hK _ _ ?_
            clear hK K
            refine wpAnyIn_done (by kernel_rfl) ?_ _
            exact HEND.out
  case done =>
    rintro D ys W hD rfl ⟨⟨v, hv, hrow, _⟩, hB⟩ hK
    have hc := hv.cell
    have HV := Lib.hid hrow
    have HBD := Lib.hid hB
    have HKD := Lib.hid hK
    clear hrow hB hK hv
    go_wp2
    have HVV := HV.out
    rw [pqTo_map] at HVV
    obtain ⟨a2, c2, rfl⟩ := owns_shape HVV
    rw [← HQ.out]
    refine ⟨by simp, .inl ⟨_, _, rfl, run_takeDeferred HKD.out, ?_⟩⟩
    exact ⟨_, results_tmp rfl _ _ _, a2, c2, rfl, ownsRow_putObj HVV _ HKD.out rfl, HBD.out.trans (belowK_b (w := w) (Nat.le_refl _) W D _ _ (by omega) HKD.out rfl rfl)⟩
  case stop =>
    rintro D c pre W _ _ h _
    exact h.elim
end Go.Proofs.Ytneolndbhklboaa
