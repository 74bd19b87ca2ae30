/- impl.ClosedOf: a range over closing. -/
import Derived.Deep.AppendLies
import Derived.Test.YtnfhlfbkdhpacaaClos1
import Derived.Test.YtnfhlfbkdhpacaaClosS
namespace Go.Proofs.Ytnfhlfbkdhpacaa
open Go.RowKit Go.Shelf
attribute [local go_sem] Oper.semAt_some

set_option maxHeartbeats 1000000 in
theorem closing_x (a : Option Addr) (n c : Nat) (mk lt ov sz : Int) (al : Bool) (w : World) :
    Calls Try.prog 25 #[.agg #[.slice a n c, .int .i64 mk, .int .i64 lt, .int .i64 ov], .int .i64 sz, .bool al] w fun e w' =>
      e = .returned (.func (.func 38) #[] #[.pointer (some ⟨w.heap.size, 0, none⟩), .pointer (some ⟨w.heap.size + 1, 0, none⟩), .pointer (some ⟨w.heap.size + 1 + 1, 0, none⟩)]) ∧
      w' = ((w.alloc (.cells #[.slice a n c, .int .i64 mk, .int .i64 lt, .int .i64 ov] 29)).alloc (.cells #[.int .i64 sz] 3)).alloc (.cells #[.bool al] 4) := by
  go_enter Try.func25, Try.ntmps25
  go_wp2
  go_ret
  exact ⟨rfl, rfl⟩
theorem clos_seq (n : Nat) (hn : 1 ≤ n) (Bs Bz Ba hi c : Nat) (a : Option Addr) (mk lt ov sz : Int) (al : Bool) (xs : List Ag) (hri : Rising xs) (hlen : xs.length ≤ 1048575) (w : World) (hs : Blk w Bs 29 #[.slice a xs.length c, .int .i64 mk, .int .i64 lt, .int .i64 ov])
    (hz : Blk w Bz 3 #[.int .i64 sz]) (ha : Blk w Ba 4 #[.bool al]) (hr : Ags w hi a c xs) (hhi : hi ≤ w.heap.size) :
    SeqPR Fence.wide n Try.prog 38 #[.pointer (some ⟨Bs, 0, none⟩), .pointer (some ⟨Bz, 0, none⟩), .pointer (some ⟨Ba, 0, none⟩)] (fun x : Ag => #[.agg #[.int .i64 x.win, .int .i64 x.key, .int .i64 x.cnt, .int .i64 x.sum, .int .i64 x.mn, .int .i64 x.mx]]) (fun ys => ys = pickL al mk sz xs) (fun _ => True) (fun pre x => pre ++ [x] <+: pickL al mk sz xs) w :=
  fun l J Jx W hW hJo hJ0 hY => clos1_in n hn l Bs Bz Ba hi c a mk lt ov sz al xs hri hlen J Jx W hJo hJ0 hY (hs.below hW) ((hz.below hW).cell 0) ((ha.below hW).cell 0) (hr.below (hW.mono hhi)) (Nat.le_trans hhi hW.size)
theorem appendA_lies {w : World} {lo n c : Nat} {a1 : Option Addr} {l : List Ag} (S : Ag) (hn : n = l.length) (ho : w.ownsRow lo 37 6 (.slice a1 n c) n (flatA l)) (hlo : lo ≤ w.heap.size) (hb : n ≤ 2097152) (ty : TypeId) :
    ∃ g c3 w', (Builtin.append_ #[26, 26] ty #[.slice a1 n c, .slice (some ⟨w.heap.size, 0, none⟩) 1 1]).run Try.prog (w.alloc (.cells #[.int .i64 S.win, .int .i64 S.key, .int .i64 S.cnt, .int .i64 S.sum, .int .i64 S.mn, .int .i64 S.mx] 37)) = .ok (.slice (some ⟨g, 0, none⟩) (n + 1) c3) w' ∧
      w'.ownsRow lo 37 6 (.slice (some ⟨g, 0, none⟩) (n + 1) c3) (n + 1) (flatA (l ++ [S])) ∧ Below lo w w' ∧ w.grownBy w' (Value.slice a1 n c).ownBlock ∧ ((Value.slice a1 n c).ownBlock = some g ∨ w.heap.size ≤ g) ∧ g < w'.heap.size := by
  obtain ⟨i0, hi0, hz0, hz1, hz2⟩ := info_parts6 infoAgg
  obtain ⟨g, c3, w', hr, h2, h3, h4, h5⟩ := run_append_lies (P := Try.prog) (w := w.alloc (.cells (aC S).toArray 37)) 26 ty lo 37 i0 (.agg #[.int .i64 0, .int .i64 0, .int .i64 0, .int .i64 0, .int .i64 0, .int .i64 0]) 6 48 Try.underlying26 hi0 hz0 hz1 hz2 rfl (by decide) _ n _ (ho.alloc _) ⟨w.heap.size, 0, none⟩ 1 1 (aC S) rfl (newsA rfl) (aC_ones S) (by decide) (by unfold maxLen; omega) (by omega) (by simp; omega) _ rfl
  refine ⟨g, c3, w', hr, ?_, ((Below.refl lo w).alloc hlo _).trans (below_own (ho.alloc _) h3 (by simp; omega)), grown_trans (World.grownBy_alloc w _ _) h3, h4.imp id (fun e => by simp at e; omega), h5⟩
  rw [flatA_append]
  simpa [flatA, flatR] using h2
theorem wpListIn_append_run {F : Fence} {n : Nat} {P : Program} (w : World) {ops : Array Oper} {rest : List Oper} {o : Oper} {a : Act} {Q : Exit → Act → World → Prop}
    (hg : o.guard = none) (s x : Operand) (t : TypeId) (hop : o.op = Op.call { callee := Callee.builtin Builtin.append, args := #[s, x], argTypes := #[t, t] }) (vs vx : Value) (hs : a.eval s = vs) (hx : a.eval x = vx)
    (v' : Value) (w' : World) (hr : (Builtin.append_ #[t, t] o.type #[vs, vx]).run P w = .ok v' w') (h : wpListIn F n P ops Q rest (a.put o.dst v') w') : wpListIn F n P ops Q (o :: rest) a w := by
  refine wpListIn_plain hg fun K hK' => ?_
  unfold Oper.wpIn
  refine ⟨?_, ?_⟩
  · simp [Oper.about, hop, resolve, Target.leads, Sem.run_pure]
  · rw [Oper.semAt_plain F _ _ (by rw [hop]; intro c hc'; cases hc')]
    simp [execOp, hop, resolve, invoke, builtin, hs, hx, hr, Result.andThen]
    exact hK' _ _ h
/-- What the range keeps: the list in its box, apart from the pile. -/
def ListAt (w : World) (Bl : Nat) (p r : Nat) (pre : List Ag) (W : World) : Prop :=
  ((∃ v, Boxed W Bl 26 v ∧ W.ownsRow w.heap.size 37 6 v pre.length (flatA pre) ∧ (v.ownBlock ≠ some p ∧ v.ownBlock ≠ some r)) ∧ Below w.heap.size w W) ∧ (Bl < p ∧ Bl < r ∧ p < W.heap.size ∧ r < W.heap.size ∧ w.heap.size ≤ p ∧ w.heap.size ≤ r)
theorem ListAt.off {w : World} {Bl p r : Nat} {pre : List Ag} {A B : World} (h : ListAt w Bl p r pre A) (ho : Off p r A B) : ListAt w Bl p r pre B := by
  obtain ⟨⟨⟨v, hv, hw, h1, h2⟩, hb⟩, h3, h4, h5, h6, h7, h8⟩ := h
  have s := ho.size
  refine ⟨⟨⟨v, (ho.block Bl hv.lt (by omega) (by omega)).trans hv, own_same hw (fun g hg => ho.block g ?_ (fun e => ?_) (fun e => ?_)), h1, h2⟩, ?_⟩, h3, h4, by omega, by omega, h7, h8⟩
  · rcases hw.2 with ⟨rfl, _⟩ | ⟨g', cap, cur, rfl, _, hh, _⟩
    · simp [Value.ownBlock] at hg
    · have : g' = g := by simpa [Value.ownBlock] using hg
      subst this
      exact (Array.getElem?_eq_some_iff.1 hh).1
  · subst e; exact h1 hg
  · subst e; exact h2 hg
  · exact hb.trans ⟨ho.os, ho.tape, ho.output, s, fun k hk => ho.block k (Nat.lt_of_lt_of_le hk hb.size) (by omega) (by omega)⟩
theorem ListAt.own (w : World) (Bl p r B : Nat) (hB : w.heap.size ≤ B) : OwnFrom B (ListAt w Bl p r) :=
  OwnFrom.and (OwnFrom.and (Own.from (holdsRow_own w.heap.size Bl 26 37 6 (fun pre : List Ag => pre.length) (fun pre => flatA pre) (fun _ v => v.ownBlock ≠ some p ∧ v.ownBlock ≠ some r)) _) (ownFrom_below (Nat.le_refl _) hB))
    (fun _ _ _ _ hs hg _ => ⟨hs.1, hs.2.1, Nat.lt_of_lt_of_le hs.2.2.1 hg.size, Nat.lt_of_lt_of_le hs.2.2.2.1 hg.size, hs.2.2.2.2⟩)

set_option maxHeartbeats 4000000 in
set_option maxRecDepth 100000 in
theorem implClosed_yes (a : Option Addr) (c : Nat) (mk lt ov sz : Int) (xs : List Ag) (hi : Nat) (w : World) (hr : Ags w hi a c xs) (hB : hi ≤ w.heap.size) (hS : sokB xs mk lt ov = true) (hZ : inB sz 1 1000000 = true) (hlen : xs.length ≤ 1048575) (hri : Rising xs) :
    Calls Try.prog 8 #[.agg #[.slice a xs.length c, .int .i64 mk, .int .i64 lt, .int .i64 ov], .int .i64 sz] w (FreshR aC 37 6 (pickL false mk sz xs) w) := by
  have B0 := Lib.hid ((Below.refl w.heap.size w).alloc (Nat.le_refl _) (.cells #[.slice a xs.length c, .int .i64 mk, .int .i64 lt, .int .i64 ov] 29))
  have K0 := Lib.hid (Blk.new w 29 #[.slice a xs.length c, .int .i64 mk, .int .i64 lt, .int .i64 ov])
  have HR := Lib.hid hr
  have HOK := Lib.hid (fun (W : World) (h : Ags W hi a c xs) (h2 : hi ≤ W.heap.size) => implShardOk_any a xs.length c mk lt ov xs hi W h rfl h2)
  rw [hS] at HOK
  have HSZ := Lib.hid (fun W => iSize_any sz W)
  rw [hZ] at HSZ
  have HRI := Lib.hid hri
  clear hr hS hZ hri
  refine (callsIn_wide (n := 9)).1 ?_
  refine callsIn_of_wp_marks Try.func8 rfl trivial ?_ rfl
  refine wpIn_wide.2 ?_
  simp only [Try.ntmps8, List.size_toArray, List.length_cons, List.length_nil, Nat.reduceAdd, Nat.reduceSub, Array.replicate_succ, Array.replicate_zero, List.push_toArray, List.append_toArray, List.nil_append, List.cons_append]
  generalize hQ : bodyPostM _ _ _ _ _ = Q
  have HQ := Lib.hid hQ
  clear hQ
  go_wp2_with fail
  refine (HOK.out _ (HR.out.below (B0.out.mono hB)) (by simp; omega)).mono ?_
  rintro e w1 ⟨rfl, hb⟩
  have K1 := Lib.hid (K0.out.below hb)
  have B1 := Lib.hid (B0.out.trans (hb.mono (by simp)))
  clear hb
  go_wp2_with fail
  refine (HSZ.out _).mono ?_
  rintro e w' ⟨rfl, rfl⟩
  have KL := Lib.hid (Blk.new w1 26 #[.slice none 0 0])
  have K2 := Lib.hid (K1.out.alloc (.cells #[.slice none 0 0] 26))
  have B2 := Lib.hid (B1.out.alloc B1.out.size (.cells #[.slice none 0 0] 26))
  have q0 := K2.out.cell
  go_wp2_with fail
  clear q0
  refine (closing_x a xs.length c mk lt ov sz false _).mono ?_
  rintro e w3 ⟨rfl, hw3⟩
  have s3 : w3.heap.size = w1.heap.size + 4 := by rw [hw3]; simp
  have hw1 := B1.out.size
  obtain ⟨V, hV⟩ : ∃ V, V = w1.alloc (.cells #[.slice none 0 0] 26) := ⟨_, rfl⟩
  have sV : V.heap.size = w1.heap.size + 1 := by rw [hV]; simp
  rw [← hV] at hw3
  have BV : Below w1.heap.size w1 V := by rw [hV]; exact (Below.refl _ _).alloc (Nat.le_refl _) _
  have BW : Below V.heap.size V w3 := by rw [hw3]; exact (((Below.refl _ V).alloc (Nat.le_refl _) _).alloc (by simp) _).alloc (by simp; omega) _
  have KB : Boxed V w1.heap.size 26 (.slice none 0 0) := by rw [hV]; exact Boxed.new _ _ _
  have K3 : Boxed w3 w1.heap.size 26 (.slice none 0 0) := (BW.block _ (by omega)).trans KB
  have KS : Blk w3 V.heap.size 29 #[.slice a xs.length c, .int .i64 mk, .int .i64 lt, .int .i64 ov] := by rw [hw3]; exact ((Blk.new V _ _).alloc _).alloc _
  have KZ : Blk w3 (V.heap.size + 1) 3 #[.int .i64 sz] := by
    rw [hw3]
    have z := (Blk.new (V.alloc (.cells #[.slice a xs.length c, .int .i64 mk, .int .i64 lt, .int .i64 ov] 29)) 3 #[.int .i64 sz]).alloc (.cells #[.bool false] 4)
    simpa using z
  have KA : Blk w3 (V.heap.size + 1 + 1) 4 #[.bool false] := by
    rw [hw3]
    have z := Blk.new ((V.alloc (.cells #[.slice a xs.length c, .int .i64 mk, .int .i64 lt, .int .i64 ov] 29)).alloc (.cells #[.int .i64 sz] 3)) 4 #[.bool false]
    simpa using z
  have B3 := Lib.hid (B1.out.trans ((BV.trans (BW.mono (by omega))).mono hw1))
  have HR3 := Lib.hid (HR.out.below (B3.out.mono hB))
  rw [sV] at KS KZ KA
  have K3 := Lib.hid K3
  have KS := Lib.hid KS
  have KZ := Lib.hid KZ
  have KA := Lib.hid KA
  have S3 := Lib.hid s3
  have s3a : w1.heap.size + 4 ≤ w3.heap.size := by omega
  clear hw3 BV BW KB sV hV V s3
  go_wp2_with fail
  refine (wpIn_wide (n := 9)).1 ?_
  have SQ := clos_seq (9 - 1) (by omega) (w1.heap.size + 1) (w1.heap.size + 1 + 1) (w1.heap.size + 1 + 1 + 1) hi c a mk lt ov sz false xs HRI.out hlen w3 KS.out KZ.out KA.out HR3.out (by rw [S3.out]; omega)
  refine wpIn_rangeFunc_pr rfl (by omega) (gf := 38) (lb := #[.pointer (some ⟨w1.heap.size + 1, 0, none⟩), .pointer (some ⟨w1.heap.size + 1 + 1, 0, none⟩), .pointer (some ⟨w1.heap.size + 1 + 1 + 1, 0, none⟩)]) rfl trivial (enters_of Try.func38 (by kernel_rfl) rfl)
    SQ (Below.refl _ _) (fun _ => rfl) (ListAt w w1.heap.size) (fun _ _ _ => False) (fun _ _ _ _ _ h ho => h.off ho) (fun p r => ListAt.own w _ p r _ ?ownb) (fun _ _ _ _ _ hs _ _ => hs) ?start
    (fun x a' W => ∃ b, a' = { tmps := #[.agg #[.slice a xs.length c, .int .i64 mk, .int .i64 lt, .int .i64 ov], .int .i64 sz, .pointer (some ⟨w.heap.size, 0, none⟩), undef, .slice none 0 0, .pointer (some ⟨w1.heap.size, 0, none⟩), .pointer (some ⟨b, 0, none⟩), .agg #[.slice a xs.length c, .int .i64 mk, .int .i64 lt, .int .i64 ov], .bool true, .bool false, .bool false, .int .i64 sz, .bool true, .bool false, .bool false, .agg #[.slice a xs.length c, .int .i64 mk, .int .i64 lt, .int .i64 ov], .int .i64 sz,
      .func (.func 38) #[] #[.pointer (some ⟨w1.heap.size + 1, 0, none⟩), .pointer (some ⟨w1.heap.size + 1 + 1, 0, none⟩), .pointer (some ⟨w1.heap.size + 1 + 1 + 1, 0, none⟩)], .agg #[.int .i64 x.win, .int .i64 x.key, .int .i64 x.cnt, .int .i64 x.sum, .int .i64 x.mn, .int .i64 x.mx], undef, undef, undef, undef, undef], defers := [] } ∧ Blk W b 37 #[.int .i64 x.win, .int .i64 x.key, .int .i64 x.cnt, .int .i64 x.sum, .int .i64 x.mn, .int .i64 x.mx]) ?ax ?assign ?body ?done ?stop
  case ownb => omega
  case start =>
    intro p r A hA hp hr hpl hrl
    have k3 : Boxed A w1.heap.size 26 (.slice none 0 0) := (hA.block _ K3.out.lt).trans K3.out
    exact ⟨⟨⟨_, k3, World.ownsRow_nil _ _ _ _, by simp [Value.ownBlock], by simp [Value.ownBlock]⟩, B3.out.trans (hA.mono B3.out.size)⟩, by omega, by omega, hpl, hrl, by omega, by omega⟩
  case ax =>
    rintro x a' _ A B row ⟨b, e, hk⟩ hg hrow
    exact ⟨b, e, hk.grown hg (fun e2 => by obtain ⟨_, o, ho, hc⟩ := hrow _ e2.symm; rw [show A.heap[b]? = _ from hk] at ho; cases ho; cases hc)⟩
  case assign =>
    intro l p r pre x W K hI hK
    gi_wp2
    refine hK _ _ ?_ ?_ ?_ ⟨W.heap.size, rfl, Blk.new W _ _⟩
    · exact (KeepsOthers.alloc W _).from _
    · obtain ⟨_, h3, h4, h5, h6, _⟩ := hI
      exact ⟨by simp, Below.heap_alloc _ _ _ h5, Below.heap_alloc _ _ _ h6⟩
    · exact hI.off (Off.of_below ((Below.refl _ W).alloc (Nat.le_refl _) _))
  case body =>
    rintro l p r pre x a' W ⟨⟨⟨v, hv, hrow, hv1, hv2⟩, hbw⟩, h3, h4, h5, h6, h7, h8⟩ ⟨b, rfl, hk⟩ hpx
    have hpl : pre.length + 1 ≤ xs.length := by
      have h1 := hpx.length_le
      have h2 : (pickL false mk sz xs).length ≤ xs.length := List.length_filter_le _ _
      simp at h1
      omega
    obtain ⟨a2, c2, rfl⟩ := ownsR_shape hrow
    obtain ⟨g9, c9, w9, hr9, ho9, hb9, hg9, hl9, hlt9⟩ := appendA_lies x rfl hrow hbw.size (by omega) 26
    have hbox9 : Boxed w9 w1.heap.size 26 (.slice a2 pre.length c2) := hv.kept hg9 (Boxed.not_row hv (by decide) hrow)
    have hne9 := Boxed.not_row hbox9 (by decide) ho9
    have hgp : g9 ≠ p := fun e => by
      rcases hl9 with h | h
      · rw [e] at h; exact hv1 h
      · omega
    have hgr : g9 ≠ r := fun e => by
      rcases hl9 with h | h
      · rw [e] at h; exact hv2 h
      · omega
    have HEND : Hid (prPost w3.heap.size p r (ListAt w w1.heap.size) (fun _ _ _ => False) (pre ++ [x]) W .normal { tmps := #[], defers := [] } (w9.setCell ⟨w1.heap.size, 0, none⟩ (.slice (some ⟨g9, 0, none⟩) (pre.length + 1) c9))) := by
      refine Lib.hid ⟨((KeepsOthers.of_grownBy hg9 (fun j o hj ho => ?_)).trans (KeepsOthers.setCell _ _ _)).from _, ⟨?_, ?_, ?_⟩, ⟨⟨⟨_, hbox9.set _, ?_, ?_, ?_⟩, ?_⟩, h3, h4, ?_, ?_, h7, h8⟩⟩
      · rcases hrow.2 with ⟨hz, _⟩ | ⟨g', cap, cur, hz, _, hh, _⟩
        · rw [hz] at hj; simp [Value.ownBlock] at hj
        · rw [hz] at hj
          have e : g' = j := by simpa [Value.ownBlock] using hj
          subst e
          rw [hh] at ho
          cases ho
          rfl
      · have := hg9.size
        simpa using this
      · exact (Below.heap_setCell _ _ _ _ (by show p ≠ w1.heap.size; omega)).trans (hg9.block p h5 (fun e => hv1 e.symm))
      · exact (Below.heap_setCell _ _ _ _ (by show r ≠ w1.heap.size; omega)).trans (hg9.block r h6 (fun e => hv2 e.symm))
      · rw [List.length_append]
        exact ho9.kept (grown_setCell _ _ _ _) (.inr hne9.symm)
      · intro e; simp [Value.ownBlock] at e; exact hgp e
      · intro e; simp [Value.ownBlock] at e; exact hgr e
      · exact hbw.trans ((hb9.setCell (p := ⟨w1.heap.size, 0, none⟩) hw1 _).mono (Nat.le_refl _))
      · have := hg9.size; simp; omega
      · have := hg9.size; simp; omega
    have qa := hk.cell
    have qv := hv.cell
    have q9 := hbox9.frozen
    have q10 := hbox9.cell
    have HR9 := Lib.hid hr9
    clear hr9 ho9 hb9 hg9 hl9 hbox9 hne9 hgp hgr hrow hv hk hv1 hv2 hbw hpx
    gi_wp2_with (refine wpListIn_append_run _ rfl _ _ _ rfl _ _ rfl rfl _ _ HR9.out ?_)
    exact HEND.out
  case done =>
    intro D p r ys W hD hys hI hdef
    subst hys
    obtain ⟨⟨⟨v, hv, hrow, _, _⟩, hbw⟩, h3, h4, h5, h6, h7, h8⟩ := hI
    obtain ⟨a2, c2, rfl⟩ := ownsR_shape hrow
    have qv := hv.cell
    have HV := Lib.hid hrow
    have HBD := Lib.hid hbw
    have HKD := Lib.hid hdef
    clear hrow hv hbw hdef
    go_wp2
    rw [← HQ.out]
    refine ⟨by simp, .inl ⟨_, _, rfl, run_takeDeferred HKD.out, ?_⟩⟩
    exact ⟨_, results_tmp rfl _ _ _, a2, c2, rfl, ownsRow_putObj HV.out _ HKD.out rfl, HBD.out.trans (belowK_b (w := w) (Nat.le_refl _) W D _ _ (by omega) HKD.out rfl rfl)⟩
  case stop =>
    intro D cc pre W _ _ h
    exact h.elim
end Go.Proofs.Ytnfhlfbkdhpacaa
