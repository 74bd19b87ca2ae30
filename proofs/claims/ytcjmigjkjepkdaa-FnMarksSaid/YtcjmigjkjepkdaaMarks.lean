/- impl.marks: the marks of a crowd, the least one first, whichever order the map tells. -/
import Derived.Test.YtcjmigjkjepkdaaBack
import Derived.Test.YtcjmigjkjepkdaaPlainMarks
import Derived.Test.YtcjmigjkjepkdaaIntS
import Derived.Test.YtcjmigjkjepkdaaRow
import Derived.Test.YtcjmigjkjepkdaaPlaySrcI
namespace Go.Proofs.Ytcjmigjkjepkdaa
open Go.RowKit Go.Shelf Go.Maps
attribute [local go_sem] Oper.semAt_some

theorem infoF : (Try.prog.info? 73).map (fun i => (i.zero, i.size, i.bytes)) = some (some (.float .f64 0), 1, 8) := by kernel_rfl
theorem info_f64 (h : (Try.prog.info? 73).map (fun i => (i.zero, i.size, i.bytes)) = some (some (.float .f64 0), 1, 8)) : ∃ i0, Try.prog.info? 73 = some i0 ∧ i0.zero = some (.float .f64 0) ∧ i0.size = 1 ∧ i0.bytes = 8 := by
  cases hi : Try.prog.info? 73 with
  | none => rw [hi] at h; cases h
  | some i => rw [hi] at h; simp at h; exact ⟨i, rfl, h.1, h.2.1, h.2.2⟩
theorem info_int (h : (Try.prog.info? 3).map (fun i => (i.zero, i.size, i.bytes)) = some (some (.int .i64 0), 1, 8)) : ∃ i0, Try.prog.info? 3 = some i0 ∧ i0.zero = some (.int .i64 0) ∧ i0.size = 1 ∧ i0.bytes = 8 := by
  cases hi : Try.prog.info? 3 with
  | none => rw [hi] at h; cases h
  | some i => rw [hi] at h; simp at h; exact ⟨i, rfl, h.1, h.2.1, h.2.2⟩
/-- A row's own block is none that is a map's walk. -/
theorem row_no_walk {w : World} {lo n b r m cnt : Nat} {T sz : Nat} {v : Value} {xs : List Value} {D : DataW Unit} {left : Lit → Bool} {P : Program} {k : TypeId} {R : Value → Option (DataW Unit × List MemPlace)}
    (h : w.ownsRow lo T sz v n xs) (hr : w.ranges P k R b r m D left cnt) : some r ≠ v.ownBlock ∧ some b ≠ v.ownBlock := by
  obtain ⟨es, clock, since, seen, c0, hb, _, _, _, hri, _⟩ := hr
  rcases h.2 with ⟨he, _⟩ | ⟨g', cap, cur, he, _, hh, _⟩
  · rw [he]; simp [Value.ownBlock]
  · rw [he]
    constructor
    · intro e
      have e' : r = g' := by simpa [Value.ownBlock] using e
      rw [e', hh] at hri
      cases hri
    · intro e
      have e' : b = g' := by simpa [Value.ownBlock] using e
      rw [e', hh] at hb
      cases hb

theorem stepIn_append_run {F : Fence} {n : Nat} {P : Program} {w : World} {ops : Array Oper} {o : Oper} {a : Act} {K : Act → World → Prop} {Q : Exit → Act → World → Prop} {E : Prop} (hgd : o.guard = none) (s x : Operand) (t tn : TypeId)
    (hop : o.op = .call { callee := .builtin .append, args := #[s, x], argTypes := #[t, tn] }) (vs vx : Value) (hs : a.eval s = vs) (hx : a.eval x = vx)
    (v' : Value) (w' : World) (hr : (Builtin.append_ #[t, tn] o.type #[vs, vx]).run P w = .ok v' w') (h : K (a.put o.dst v') w') :
    if Region.wanted o (yielded ops a.tmps) = true then Oper.wpIn F n P o a w K Q else E := by
  have hw : Region.wanted o (yielded ops a.tmps) = true := by simp [Region.wanted, hgd]
  rw [if_pos hw]
  unfold Oper.wpIn
  refine ⟨?_, ?_⟩
  · simp [Oper.about, hop, resolve, Target.leads, Sem.run_pure]
  · rw [Oper.semAt_plain F _ _ (by rw [hop]; intro c hc'; cases hc')]
    simp [execOp, hop, resolve, invoke, builtin, hs, hx, hr, Result.andThen]
    exact h
theorem SG.grown {L : Nat → Nat} {w wr : World} {g off : Nat} {d0 d : Array Nat} (h : SG L w g off d0 d wr) : w.grownBy wr (some g) := by
  obtain ⟨_, hg, _, n, os, rfl⟩ := h
  have e1 : (Sort.putRow (fV L) (Sort.ahead w n) g off d).heap.size = w.heap.size := by simp [Sort.putRow, Sort.mapBlock, Sort.ahead]
  refine ⟨rfl, rfl, rfl, by simp [Sort.grow, e1], fun k hk hne => ?_⟩
  rw [Sort.heap_grow_old _ _ (by omega)]
  show ((Sort.ahead w n).heap.modify g _)[k]? = _
  rw [Array.getElem?_modify, if_neg (fun e => hne (by rw [e]))]
  rfl
theorem owns_holds {L : Nat → Nat} {w : World} {lo T g cap : Nat} {rs : List Nat} (h : w.ownsRow lo T 1 (.slice (some ⟨g, 0, none⟩) rs.length cap) rs.length (rs.map (fV L))) : Sort.Holds (fV L) w g 0 rs.toArray ∧ lo ≤ g ∧ g < w.heap.size := by
  have hc := fun j (hj : j < rs.length) => h.cellAt j (by omega)
  rcases h.2 with ⟨he, _⟩ | ⟨g', cap', cur, he, hlo, hh, _⟩
  · cases he
  · cases he
    refine ⟨fun j hj => ?_, hlo, (Array.getElem?_eq_some_iff.1 hh).1⟩
    have hj' : j < rs.length := by simpa using hj
    rw [Nat.zero_add]
    refine ⟨?_, by simp [World.frozen?, hh]⟩
    rw [hc j hj', List.getElem?_map, List.getElem?_eq_getElem hj']
    simp [hj']
/-- The ranks, sorted. -/
def zR (lt : Nat → Nat → Bool) (rs : List Nat) (j : Nat) : Rk := if h : (Sort.sort lt rs.toArray)[j]! ≤ 1000001 then ⟨_, h⟩ else ⟨0, by omega⟩
theorem zR_val {lt : Nat → Nat → Bool} {rs : List Nat} {j : Nat} (h : (Sort.sort lt rs.toArray)[j]! ≤ 1000001) : (zR lt rs j).1 = (Sort.sort lt rs.toArray)[j]! := by
  unfold zR; rw [dif_pos h]
theorem backs_marks {lt : Nat → Nat → Bool} {rs : List Nat} (h : ∀ j, j < rs.length → (Sort.sort lt rs.toArray)[j]! ≤ 1000001) :
    ((backs (zR lt rs) rs.length rs.length).map fun x => (1000000 - (x.1.1 : Int))) = (List.range rs.length).map fun j => 1000000 - ((Sort.sort lt rs.toArray)[rs.length - 1 - j]! : Int) := by
  unfold backs
  rw [List.map_map]
  refine List.map_congr_left fun j hj => ?_
  have hj' : j < rs.length := List.mem_range.1 hj
  simp only [Function.comp]
  rw [zR_val (h _ (by omega))]
theorem sort_row {L : Nat → Nat} {lt : Nat → Nat → Bool} (hL : LessOk L lt) (swo : Sort.SWO lt) (hlt : ∀ x y, x ≤ 1000001 → y ≤ 1000001 → lt x y = false → y ≤ x) (rs : List Nat) (a : Option Addr) (c lo T : Nat) (w : World)
    (hr : w.ownsRow lo T 1 (.slice a rs.length c) rs.length (rs.map (fV L))) (hlo : lo ≤ w.heap.size) (h3 : rs.length ≤ 300) (hb : ∀ r ∈ rs, r ≤ 1000001) :
    Calls Try.prog 53 #[.slice a rs.length c] w fun e w' => e = .returned (.tuple #[]) ∧ Below lo w w' ∧ LagRow L w'.heap.size w' a rs.length (zR lt rs) := by
  obtain ⟨t1, t2, _⟩ := sorted_top swo hlt rs hb
  rcases hr.2 with ⟨he, h0⟩ | ⟨g', cap', cur, he, _⟩
  · injection he with ha hn hc
    subst ha hc
    rw [h0]
    exact (sort_none w).mono fun e w' h => ⟨h.1, by rw [h.2]; exact Below.refl _ _, .inl rfl⟩
  · cases he
    obtain ⟨hH, hg, hgl⟩ := owns_holds hr
    have hs := sort_any hL swo g' 0 c rs.toArray w hH hgl (by simp; omega)
    simp only [List.size_toArray] at hs
    refine hs.mono fun e w' h => ⟨h.1, below_grown_own h.2.grown hg hlo, .inr ⟨g', 0, rfl, h.2.lt, fun j hj => ?_⟩⟩
    rw [zR_val (hb _ (t2 j hj))]
    exact h.2.cell j (by simpa using hj)

set_option maxHeartbeats 4000000 in
set_option maxRecDepth 100000 in
theorem marks_any {L : Nat → Nat} {lt : Nat → Nat → Bool} (hL : LessOk L lt) (swo : Sort.SWO lt) (hlt : ∀ x y, x ≤ 1000001 → y ≤ 1000001 → lt x y = false → y ≤ x)
    (HLG : Hid (∀ (x m s : Int) (i o : Bool) (W : World), -1 ≤ m → m ≤ 1000000 → Calls Try.prog 52 #[(.agg #[.int .i64 x, .int .i64 m, .int .i64 s, .bool i, .bool o])] W fun e w' => e = .returned (.float .f64 (L (lagOf m))) ∧ Below W.heap.size W w'))
    (HMO : Hid (∀ (r : Nat) (W : World), r ≤ 1000001 → Calls Try.prog 55 #[.float .f64 (L r)] W fun e w' => e = .returned (.int .i64 (1000000 - (r : Int))) ∧ W = w'))
    (b n : Nat) (D : DataW Unit) (f : Lit → Option Src) (w : World) (hown : w.ownsMap Try.prog 3 srcR b n D) (hE : HasE D f) (h300 : n ≤ 300) (hf : ∀ k S, f k = some S → -1 ≤ S.m ∧ S.m ≤ 1000000) :
    Calls Try.prog 34 #[.map (some b)] w fun e w' => ∃ (g : Option Addr) (c : Nat) (ms : List Int), e = .returned (.slice g ms.length c) ∧ w'.ownsRow w.heap.size 3 1 (.slice g ms.length c) ms.length (ms.map (Value.int .i64)) ∧ Below w.heap.size w w' ∧ MarksOf f ms := by
  obtain ⟨j0, hj0, hy0, hy1, hy2⟩ := info_f64 infoF
  have hsz := hown.size_le
  have HE := Lib.hid hE
  have HF := Lib.hid hf
  have hbw := hown.lt
  obtain ⟨N, hN⟩ : ∃ N, N = Maps.size D := ⟨_, rfl⟩
  rw [← hN] at hsz
  have HN := Lib.hid hN
  clear hE hf hN
  refine (callsIn_wide (n := 9)).1 ?_
  refine callsIn_of_wp_marks Try.func34 rfl trivial ?_ rfl
  refine wpIn_wide.2 ?_
  simp only [Try.ntmps34, List.size_toArray, List.length_cons, List.length_nil, Nat.reduceAdd, Nat.reduceSub, Array.replicate_succ, Array.replicate_zero, List.push_toArray, List.append_toArray, List.nil_append, List.cons_append]
  generalize hQ : bodyPostM _ _ _ _ _ = Q
  have HQ := Lib.hid hQ
  clear hQ
  go_wp2_with (first
    | (at_len; refine wpList_len_own _ rfl _ 59 rfl 3 28 Try.underlying59 srcR b n D rfl hown ?_; rw [← HN.out])
    | (at_make; refine wpList_make_own _ rfl _ _ 72 rfl w.heap.size 73 j0 (.float .f64 0) 1 Try.underlying72 hj0 hy0 hy1 _ _ _ N rfl rfl rfl (by rw [hy2]; omega) (by unfold maxLen; omega) (Nat.le_refl _) ?_; intro w1 hO hG)
    | (at_range; refine wpList_range_own _ rfl _ 59 rfl 3 28 keyI Try.underlying59 srcR b n D rfl (hown.kept hG (by simp)) ?_; intro w2 hrg0 hg0 hs0)
    | go_in)
  go_frame
  have s1 := hG.size
  have B1 := Lib.hid (below_grown hG)
  have B2 := Lib.hid ((below_grown hG).trans ((below_grown hg0).mono hG.size))
  have R2 := Lib.hid (owns_below hO (below_grown hg0))
  have RG := Lib.hid hrg0
  have s2 : w1.heap.size + 1 = w2.heap.size := hs0.symm
  clear hO hrg0 hg0 hs0 hown hG
  go_loopw [3] (fun v wr => ∃ (left : Lit → Bool) (cnt : Nat) (rs : List Nat) (a : Option Addr) (c : Nat), v = .slice a rs.length c ∧ rs.length + cnt ≤ 300 ∧ wr.ranges Try.prog 3 srcR b w1.heap.size n D left cnt ∧
      wr.ownsRow w.heap.size 73 1 (.slice a rs.length c) rs.length (rs.map (fV L)) ∧ Told f left rs ∧ Below w.heap.size w wr) (fun _ wr => wr.rangeLeft b w1.heap.size)
  case atStart => exact ⟨_, _, [], _, _, rfl, by rw [← HN.out]; simp; omega, RG.out, R2.out, Told.start HE.out, B2.out⟩
  case round =>
    obtain ⟨left, cnt, rs, a, c, rfl, hcnt, hrg, hrow, htold, hbw2⟩ := hrel
    have HT := Lib.hid htold
    have HB := Lib.hid hbw2
    have HR := Lib.hid hrow
    have hsz2 := hbw2.size
    clear htold hbw2 hrow
    go_wp2_with (first
      | (at_next; refine wpList_next_ranges _ rfl _ rfl 3 keyI srcR (Value.int .i64) srcV (fun key kl hkey => by obtain ⟨x, rfl, _⟩ := Maps.keyOf_int_inv Try.underlying3 hkey; exact ⟨x, rfl⟩) (fun v y hv => srcR_inv hv) b w1.heap.size n D left cnt rfl hrg ?_ ?_)
      | go_in)
    · intro _ hl0
      have HL := Lib.hid hl0
      obtain ⟨i0, hi0, hz0, hz1, hz2⟩ := info_int infoI64
      have hrb : ∀ r ∈ rs, r ≤ 1000001 := fun r hr => by
        obtain ⟨k, S, h1, _, h3⟩ := HT.out.of r hr
        have := HF.out k S h1
        rw [h3]; unfold lagOf; omega
      have HSO := Lib.hid (sort_row hL swo hlt rs a c w.heap.size 73 wr HR.out hsz2 (by omega) hrb)
      have HRB := Lib.hid hrb
      have h3rs : rs.length ≤ 300 := by omega
      clear hl0 hrg hrb hL
      go_wp2_with (first
        | (go_at_call 53; refine HSO.out.mono ?_; rintro e w6 ⟨rfl, hb6, hrow6⟩; have HB6 := Lib.hid hb6; have HR6 := Lib.hid hrow6; have hsz6 := hb6.size; clear hb6 hrow6)
        | (at_make; refine wpList_make_own _ rfl _ _ 29 rfl w6.heap.size 3 i0 (.int .i64 0) 1 Try.underlying29 hi0 hz0 hz1 _ _ _ rs.length rfl rfl rfl (by rw [hz2]; omega) (by unfold maxLen; omega) (Nat.le_refl _) ?_; intro w7 hO7 hG7; have HO7 := Lib.hid hO7; have HB7 := Lib.hid (below_grown hG7); have hsz7 := hG7.size; clear hO7 hG7)
        | (go_at_call 54; refine (back_any _ _ _ _).mono ?_; rintro e w8 ⟨rfl, rfl⟩)
        | go_in)
      refine (wpIn_wide (n := 9)).1 ?_
      have bO := Lib.hid (Boxed.new w7 29 (.slice (some ⟨w6.heap.size, 0, none⟩) 0 rs.length))
      have bN := Lib.hid (Boxed.new (w7.alloc (.cells #[.slice (some ⟨w6.heap.size, 0, none⟩) 0 rs.length] 29)) 72 (.slice a rs.length c))
      rw [World.size_alloc] at bN
      have BW : Hid (Below w6.heap.size w6 ((w7.alloc (.cells #[.slice (some ⟨w6.heap.size, 0, none⟩) 0 rs.length] 29)).alloc (.cells #[.slice a rs.length c] 72))) :=
        Lib.hid ((HB7.out.alloc (by omega) _).alloc (by simp; omega) _)
      have HO9 := Lib.hid ((HO7.out.alloc (.cells #[.slice (some ⟨w6.heap.size, 0, none⟩) 0 rs.length] 29)).alloc (.cells #[.slice a rs.length c] 72))
      refine wpIn_rangeFunc_ownF rfl (by omega) (gf := 65) (lb := #[.pointer (some ⟨w7.heap.size + 1, 0, none⟩)]) rfl trivial (enters_of Try.func65 (by kernel_rfl) rfl)
        (back_stops (L := L) Fence.wide _ trivial rfl (by omega) (w7.heap.size + 1) w6.heap.size rs.length c a (zR lt rs) (by omega) _ (by simp) (by simp; omega) bN.out.cell (HR6.out.below BW.out))
        (fun h k => ⟨h.1.trans k.1, k.2.trans h.2⟩) (fun W l o o' hl h1 h2 h3 => ⟨belowK_b (w := w6) (Nat.le_refl _) W l o o' (by simp at hl; omega) h1 h2 h3, ?kb⟩) (Below.refl _ _) (fun _ => rfl)
        (fun pre W => ((∃ v, Boxed W w7.heap.size 29 v ∧ W.ownsRow w6.heap.size 3 1 v pre.length ((pre.map fun x => (1000000 - (x.1.1 : Int))).map (Value.int .i64)) ∧ True) ∧ Boxed W (w7.heap.size + 1) 72 (.slice a rs.length c)) ∧ Below w.heap.size w W)
        (fun _ _ _ => False) ?own (fun _ _ _ _ _ hs _ _ => hs) ?start
        (fun x => { tmps := #[.map (some b), undef, .slice none 0 0, .slice a rs.length c, undef, u5, .pointer (some ⟨w7.heap.size, 0, none⟩), undef, .float .f64 (L x.1.1), .map (some b), .int .i64 N, .slice (some ⟨w.heap.size, 0, none⟩) 0 N, .map (some b),
          .pointer (some ⟨w1.heap.size, 0, none⟩), .tuple #[.bool false], .bool false, u16, u17, u18, u19, u20, u21, u22, .slice a rs.length c, .tuple #[], .slice a rs.length c, .int .i64 rs.length, .slice (some ⟨w6.heap.size, 0, none⟩) 0 rs.length, .slice a rs.length c,
          .func (.func 65) #[] #[.pointer (some ⟨w7.heap.size + 1, 0, none⟩)], .int .i64 (x.2 : Nat), .float .f64 (L x.1.1), undef, undef, undef, undef, undef, undef], defers := [] }) ?assign ?body ?done ?stop
      case kb =>
        exact World.cell?_of_block (World.putObj_heap_other (fun e => by have e1 : w7.heap.size + 1 = l := e; simp at hl; omega))
      case own =>
        exact OwnFrom.and (OwnFrom.and (Own.from (holdsRow_own w6.heap.size w7.heap.size 29 3 1 (fun pre : List (Rk × Nat) => pre.length) (fun pre => (pre.map fun x => (1000000 - (x.1.1 : Int))).map (Value.int .i64)) (fun _ _ => True)) _)
          (fun s W W' row hs hg hr => hs.kept hg (fun e => by have := (hr _ e.symm).1; simp at this; omega))) (ownFrom_below (Nat.le_refl _) (by simp; omega))
      case start =>
        exact ⟨⟨⟨_, bO.out.alloc _, HO9.out, trivial⟩, bN.out⟩, (HB.out.trans HB6.out).trans (BW.out.mono (by omega))⟩
      case assign =>
        intro l x W K hK
        gi_wp2
        exact hK
      case body =>
        rintro l pre x W ⟨⟨⟨v, hv, hrow, _⟩, hbx⟩, hB⟩ hlen
        have hc := hv.cell
        have HM := Lib.hid (fun W => HMO.out x.1.1 W x.1.2)
        have HV := Lib.hid hv
        have HR := Lib.hid hrow
        have HX := Lib.hid hbx
        have hszW := hv.lt
        clear hv hrow hbx
        obtain ⟨mx, hmx⟩ : ∃ mx : Int, mx = 1000000 - (x.1.1 : Int) := ⟨_, rfl⟩
        have HMX := Lib.hid hmx
        rw [← hmx] at HM
        obtain ⟨v', w9, hrun, hown9, hg9, _⟩ := run_append_own (P := Try.prog) (W.drew.alloc (.cells #[.int .i64 mx] 3)) w6.heap.size 29 29 3 i0 (.int .i64 0) 1 8 Try.underlying29 hi0 hz0 hz1 hz2 rfl (by decide) v pre.length _ ((show W.drew.ownsRow _ _ _ _ _ _ from HR.out).alloc _) ⟨W.heap.size, 0, none⟩ 1 1 [.int .i64 mx] rfl (news_at_ rfl) (by intro u hu; simp at hu; subst hu; rfl) (by unfold maxLen; omega) (by omega) (by simp; omega)
        obtain ⟨g', cap', rfl⟩ := ownsRow_succ hown9
        obtain ⟨hv1, hv2, hr2, hk2, hb2⟩ := (show Boxed W.drew w7.heap.size 29 v from HV.out).appended (by decide) (show W.drew.ownsRow _ _ _ _ _ _ from HR.out) (by simp; omega) (by omega) hown9 hg9
        have hx1 := (((show Boxed W.drew (w7.heap.size + 1) 72 (.slice a rs.length c) from HX.out).alloc (.cells #[.int .i64 mx] 3)).kept hg9 ((show Boxed W.drew (w7.heap.size + 1) 72 (.slice a rs.length c) from HX.out).not_row (by decide) (show W.drew.ownsRow _ _ _ _ _ _ from HR.out))).other (B' := w7.heap.size) (by omega) (.slice (some ⟨g', 0, none⟩) (pre.length + 1) cap')
        have hc1 := hv1.cell
        have hf1 := hv1.frozen
        have HEND : Hid (KeepsOthers W (w9.setCell ⟨w7.heap.size, 0, none⟩ (.slice (some ⟨g', 0, none⟩) (pre.length + 1) cap')) ∧ KpB w6.heap.size (w7.heap.size + 1) W (w9.setCell ⟨w7.heap.size, 0, none⟩ (.slice (some ⟨g', 0, none⟩) (pre.length + 1) cap')) ∧
            (((∃ v, Boxed (w9.setCell ⟨w7.heap.size, 0, none⟩ (.slice (some ⟨g', 0, none⟩) (pre.length + 1) cap')) w7.heap.size 29 v ∧ (w9.setCell ⟨w7.heap.size, 0, none⟩ (.slice (some ⟨g', 0, none⟩) (pre.length + 1) cap')).ownsRow w6.heap.size 3 1 v (pre ++ [x]).length (((pre ++ [x]).map fun x => (1000000 - (x.1.1 : Int))).map (Value.int .i64)) ∧ True) ∧
              Boxed (w9.setCell ⟨w7.heap.size, 0, none⟩ (.slice (some ⟨g', 0, none⟩) (pre.length + 1) cap')) (w7.heap.size + 1) 72 (.slice a rs.length c)) ∧ Below w.heap.size w (w9.setCell ⟨w7.heap.size, 0, none⟩ (.slice (some ⟨g', 0, none⟩) (pre.length + 1) cap')))) :=
          Lib.hid ⟨(KeepsOthers.drew W).trans hk2, ⟨((Below.refl _ W).drew).trans hb2, by rw [hx1.cell, HX.out.cell]⟩, ⟨⟨_, hv2, by simpa [HMX.out] using hr2, trivial⟩, hx1⟩, hB.trans ((((Below.refl _ W).drew).trans hb2).mono (by omega))⟩
        clear hown9 hg9 hv1 hv2 hr2 hk2 hb2 hx1 hB hmx
        have hmix : Try.prog.follows .mixedOrders = true := by kernel_rfl
        gi_wp2
        refine wpIn_region_any (by assumption) ?_
        change wpAnyIn _ _ _ _ _ _ _ _ _ (World.drew _)
        refine wpAnyIn_ready (rs := [0, 1]) (by kernel_rfl) (by simp) ?_
        refine AllReadyIn.cons rfl (fun K hK => ?_) (AllReadyIn.cons rfl (fun K hK => ?_) AllReadyIn.nil)
        · go_simp
          refine hK _ _ ?_
          clear hK K
          refine wpAnyIn_ready (rs := [1]) (by kernel_rfl) (by simp) ?_
          refine AllReadyIn.cons rfl (fun K hK => ?_) AllReadyIn.nil
          go_simp
          refine hK _ _ ?_
          clear hK K
          refine wpAnyIn_ready (rs := [2]) (by kernel_rfl) (by simp) ?_
          refine AllReadyIn.cons rfl (fun K hK => ?_) AllReadyIn.nil
          go_simp
          gi_wp2_with (refine ⟨trivial, ?_⟩; gi_at_call 55; refine (CallsIn.inRound l (callsIn_wide.2 (HM.out _))).mono ?_; rintro e w' ⟨rfl, rfl⟩)
          refine wpAnyIn_ready (rs := [3]) (by kernel_rfl) (by simp) ?_
          refine AllReadyIn.cons rfl (fun K hK => ?_) AllReadyIn.nil
          go_simp
          refine hK _ _ ?_
          clear hK K
          refine wpAnyIn_ready (rs := [4]) (by kernel_rfl) (by simp) ?_
          refine AllReadyIn.cons rfl (fun K hK => ?_) AllReadyIn.nil
          refine stepIn_append_run rfl _ _ _ _ rfl _ _ rfl rfl _ _ hrun ?_
          refine hK _ _ ?_
          clear hK K
          refine wpAnyIn_ready (rs := [5]) (by kernel_rfl) (by simp) ?_
          refine AllReadyIn.cons rfl (fun K hK => ?_) AllReadyIn.nil
          go_simp
          refine hK _ _ ?_
          clear hK K
          refine wpAnyIn_done (by kernel_rfl) ?_ _
          exact HEND.out
        · go_simp
          refine hK _ _ ?_
          clear hK K
          refine wpAnyIn_ready (rs := [0, 2]) (by kernel_rfl) (by simp) ?_
          refine AllReadyIn.cons rfl (fun K hK => ?_) (AllReadyIn.cons rfl (fun K hK => ?_) AllReadyIn.nil)
          · go_simp
            refine hK _ _ ?_
            clear hK K
            refine wpAnyIn_ready (rs := [2]) (by kernel_rfl) (by simp) ?_
            refine AllReadyIn.cons rfl (fun K hK => ?_) AllReadyIn.nil
            go_simp
            gi_wp2_with (refine ⟨trivial, ?_⟩; gi_at_call 55; refine (CallsIn.inRound l (callsIn_wide.2 (HM.out _))).mono ?_; rintro e w' ⟨rfl, rfl⟩)
            refine wpAnyIn_ready (rs := [3]) (by kernel_rfl) (by simp) ?_
            refine AllReadyIn.cons rfl (fun K hK => ?_) AllReadyIn.nil
            go_simp
            refine hK _ _ ?_
            clear hK K
            refine wpAnyIn_ready (rs := [4]) (by kernel_rfl) (by simp) ?_
            refine AllReadyIn.cons rfl (fun K hK => ?_) AllReadyIn.nil
            refine stepIn_append_run rfl _ _ _ _ rfl _ _ rfl rfl _ _ hrun ?_
            refine hK _ _ ?_
            clear hK K
            refine wpAnyIn_ready (rs := [5]) (by kernel_rfl) (by simp) ?_
            refine AllReadyIn.cons rfl (fun K hK => ?_) AllReadyIn.nil
            go_simp
            refine hK _ _ ?_
            clear hK K
            refine wpAnyIn_done (by kernel_rfl) ?_ _
            exact HEND.out
          · go_simp
            gi_wp2_with (refine ⟨trivial, ?_⟩; gi_at_call 55; refine (CallsIn.inRound l (callsIn_wide.2 (HM.out _))).mono ?_; rintro e w' ⟨rfl, rfl⟩)
            refine wpAnyIn_ready (rs := [0, 3]) (by kernel_rfl) (by simp) ?_
            refine AllReadyIn.cons rfl (fun K hK => ?_) (AllReadyIn.cons rfl (fun K hK => ?_) AllReadyIn.nil)
            · go_simp
              refine hK _ _ ?_
              clear hK K
              refine wpAnyIn_ready (rs := [3]) (by kernel_rfl) (by simp) ?_
              refine AllReadyIn.cons rfl (fun K hK => ?_) AllReadyIn.nil
              go_simp
              refine hK _ _ ?_
              clear hK K
              refine wpAnyIn_ready (rs := [4]) (by kernel_rfl) (by simp) ?_
              refine AllReadyIn.cons rfl (fun K hK => ?_) AllReadyIn.nil
              refine stepIn_append_run rfl _ _ _ _ rfl _ _ rfl rfl _ _ hrun ?_
              refine hK _ _ ?_
              clear hK K
              refine wpAnyIn_ready (rs := [5]) (by kernel_rfl) (by simp) ?_
              refine AllReadyIn.cons rfl (fun K hK => ?_) AllReadyIn.nil
              go_simp
              refine hK _ _ ?_
              clear hK K
              refine wpAnyIn_done (by kernel_rfl) ?_ _
              exact HEND.out
            · go_simp
              refine hK _ _ ?_
              clear hK K
              refine wpAnyIn_ready (rs := [0]) (by kernel_rfl) (by simp) ?_
              refine AllReadyIn.cons rfl (fun K hK => ?_) AllReadyIn.nil
              go_simp
              refine hK _ _ ?_
              clear hK K
              refine wpAnyIn_ready (rs := [4]) (by kernel_rfl) (by simp) ?_
              refine AllReadyIn.cons rfl (fun K hK => ?_) AllReadyIn.nil
              refine stepIn_append_run rfl _ _ _ _ rfl _ _ rfl rfl _ _ hrun ?_
              refine hK _ _ ?_
              clear hK K
              refine wpAnyIn_ready (rs := [5]) (by kernel_rfl) (by simp) ?_
              refine AllReadyIn.cons rfl (fun K hK => ?_) AllReadyIn.nil
              go_simp
              refine hK _ _ ?_
              clear hK K
              refine wpAnyIn_done (by kernel_rfl) ?_ _
              exact HEND.out
      case done =>
        rintro D ys W hD rfl ⟨⟨⟨v, hv, hrow, _⟩, hbx⟩, hB⟩ hK
        have hc := hv.cell
        have HV := Lib.hid hrow
        have HBD := Lib.hid hB
        have HKD := Lib.hid hK
        clear hrow hB hK
        go_wp2
        obtain ⟨ms, hms⟩ : ∃ ms : List Int, ms = (backs (zR lt rs) rs.length rs.length).map fun x => (1000000 - (x.1.1 : Int)) := ⟨_, rfl⟩
        have HVV := HV.out
        rw [← hms, show (backs (zR lt rs) rs.length rs.length).length = ms.length by rw [hms, List.length_map]] at HVV
        obtain ⟨a2, c2, rfl⟩ := owns_shape HVV
        have hmo := told_marks swo hlt HT.out HF.out HL.out (hms.trans (backs_marks (lt := lt) (rs := rs) (fun j hj => HRB.out _ ((sorted_top swo hlt rs HRB.out).2.1 j hj))))
        rw [← HQ.out]
        refine ⟨by simp, .inl ⟨_, _, rfl, run_takeDeferred HKD.out, ?_⟩⟩
        exact ⟨_, results_tmp rfl _ _ _, a2, c2, ms, rfl, ownsRow_putObj (owns_less HVV (by omega)) _ HKD.out rfl, HBD.out.trans (belowK_b (w := w) (Nat.le_refl _) W D _ _ (by simp at hD; omega) HKD.out rfl rfl), hmo⟩
      case stop =>
        rintro D c pre W _ _ h _
        exact h.elim
    · intro x S kl y ps w3 cnt1 hkey hlx hv hat hrg1 hlt1 hg1 hs1 hen
      obtain ⟨x', ex, rfl, hwx⟩ := Maps.keyOf_int_inv Try.underlying3 hkey
      cases ex
      have hy : y = srcD S := by rw [srcR_mk] at hv; cases hv; rfl
      subst hy
      have hfk := HE.out.read hat
      have hbd := HF.out _ _ hfk
      have HTS := Lib.hid (HT.out.step hfk (by simp [Lit.sameKey]))
      have B3 := Lib.hid (HB.out.grown hg1 hsz2 (fun j hj => by cases hj; omega))
      have R3 := Lib.hid (HR.out.kept hg1 (.inr (row_no_walk HR.out hrg).1.symm))
      have RG1 := Lib.hid hrg1
      have RG0 := Lib.hid hrg
      have HLT := Lib.hid hlt1
      have hcnt1 : rs.length + 1 + cnt1 ≤ 300 := by omega
      have hsz3 : w.heap.size ≤ w3.heap.size := by omega
      clear hv hat hrg1 hlt1 hg1 hs1 hrg hlx hkey hwx hfk
      obtain ⟨sx, m, s, i, o⟩ := S
      simp only at hbd
      obtain ⟨r, hr⟩ : ∃ r, r = lagOf m := ⟨_, rfl⟩
      have HLA := Lib.hid (fun W => HLG.out sx m s i o W hbd.1 hbd.2)
      simp only at HTS
      rw [← hr] at HLA HTS
      clear hr hbd
      simp only [srcV] at hen ⊢
      go_wp2_with (first
        | (go_at_call 52; refine (HLA.out _).mono ?_; rintro e w4 ⟨rfl, hb⟩; have HB4 := Lib.hid hb; have R4 := Lib.hid (owns_below (R3.out.alloc (.cells #[.int .i64 sx, .int .i64 m, .int .i64 s, .bool i, .bool o] 28)) hb); have hsz4 := hb.size; clear hb)
        | (at_builtin; refine wpList_append_own _ rfl _ _ 72 rfl w.heap.size 73 j0 (.float .f64 0) 1 8 Try.underlying72 hj0 hy0 hy1 hy2 rfl (by decide) _ _ _ rfl (R4.out.alloc _) ⟨_, 0, none⟩ 1 1 [.float .f64 (L r)] rfl rfl (news_at_ (by simp)) (by intro u hu; simp at hu; subst hu; rfl) ?c3 ?c4 ?c5 ?_)
        | go_in)
      case c3 => unfold maxLen; omega
      case c4 => omega
      case c5 => simp at hsz4 ⊢; omega
      intro v' w9 hown' hg9 _
      obtain ⟨a2, c2, rfl⟩ := owns_shape hown'
      have R9 := Lib.hid hown'
      have RG4 := Lib.hid ((((RG1.out.alloc (.cells #[.int .i64 sx, .int .i64 m, .int .i64 s, .bool i, .bool o] 28)).kept (grown_below HB4.out) (by simp) (by simp)).alloc (.cells #[.float .f64 (L r)] 73)))
      have hnw := row_no_walk (R4.out.alloc (.cells #[.float .f64 (L r)] 73)) RG4.out
      have RG9 := Lib.hid (RG4.out.kept hg9 hnw.2 hnw.1)
      have B9 := Lib.hid ((((B3.out.alloc hsz3 (.cells #[.int .i64 sx, .int .i64 m, .int .i64 s, .bool i, .bool o] 28)).trans (HB4.out.mono (by simp; omega))).alloc (by simp at hsz4; omega) (.cells #[.float .f64 (L r)] 73)).grown hg9 (by simp at hsz4 ⊢; omega) (fun k e => (R4.out.lt k e).1))
      clear hown' hg9 hnw
      go_wp2
      go_roundw
      case rel => exact ⟨_, cnt1, rs ++ [r], a2, c2, by simp, by simp; omega, RG9.out, by simpa [fV] using R9.out, HTS.out, B9.out⟩
      case measure => rw [RG9.out.left_eq, RG0.out.left_eq]; exact HLT.out
end Go.Proofs.Ytcjmigjkjepkdaa
