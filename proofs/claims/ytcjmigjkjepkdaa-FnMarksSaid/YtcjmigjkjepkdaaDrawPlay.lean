/- The draw of a source's events: whatever they are, they are rows of numbers. -/
import Derived.Test.YtcjmigjkjepkdaaDrawSrc
import Derived.Test.YtcjmigjkjepkdaaRowsS
import Derived.Test.YtcjmigjkjepkdaaPlaySrcI
import Derived.Deep.LoopGhost
namespace Go.Proofs.Ytcjmigjkjepkdaa
open Go.RowKit

/-- A slice value that is a row of numbers, of the draw's own. -/
def RowIs (p U : Nat) (W : World) (v : Value) (xs : List Int) : Prop :=
  ∃ (b c : Nat) (cs : Array Value), v = .slice (some ⟨b, 0, none⟩) xs.length c ∧ xs.length ≤ c ∧ c ≤ 3 ∧ p < b ∧ b < U ∧ Blk W b 3 cs ∧ ∀ j, j < xs.length → cs[j]? = some (.int .i64 (el xs j))
theorem RowIs.kept {p U U' : Nat} {W W' : World} {v : Value} {xs : List Int} (h : RowIs p U W v xs) (hb : ∀ b cs, p < b → b < U → Blk W b 3 cs → Blk W' b 3 cs) (hU : U ≤ U') : RowIs p U' W' v xs := by
  obtain ⟨b, c, cs, h1, h2, h3, h4, h5, h6, h7⟩ := h
  exact ⟨b, c, cs, h1, h2, h3, h4, by omega, hb b cs h4 h5 h6, h7⟩
/-- A draw under way: the cursor, and the rows so far. -/
structure GL (p : Nat) (a : Option Addr) (len cap : Nat) (ess : List (List Int)) (ga : Option Addr) (gc U : Nat) (w W : World) : Prop where
  cur : Cur W p a len cap
  own : ∃ vs : List Value, vs.length = ess.length ∧ W.ownsRow (p + 1) 29 1 (.slice ga ess.length gc) ess.length vs ∧ ∀ i, i < ess.length → ∃ v, vs[i]? = some v ∧ RowIs p U W v (ess.getD i [])
  bel : Below w.heap.size w W
  wp : w.heap.size ≤ p
  up : U ≤ W.heap.size
section
variable {p : Nat} {a ga : Option Addr} {len cap gc U : Nat} {ess : List (List Int)} {w W W' : World}
theorem GL.draw (h : GL p a len cap ess ga gc U w W) (hc : Cur W' p a len cap) (hg : W.grownBy W' (some p)) : GL p a len cap ess ga gc U w W' := by
  obtain ⟨vs, h1, h2, h3⟩ := h.own
  exact ⟨hc, ⟨vs, h1, grown_keeps h2 hg (Nat.lt_succ_self _), fun i hi => by
    obtain ⟨v, k1, k2⟩ := h3 i hi
    exact ⟨v, k1, k2.kept (fun b cs hb _ hk => hk.grown hg (fun e => by injection e with e; omega)) (Nat.le_refl _)⟩⟩, h.bel.trans (grown_below_ hg h.wp h.bel.size), h.wp, Nat.le_trans h.up hg.size⟩
theorem GL.alloc (h : GL p a len cap ess ga gc U w W) (o : Obj) : GL p a len cap ess ga gc U w (W.alloc o) := by
  obtain ⟨vs, h1, h2, h3⟩ := h.own
  exact ⟨h.cur.quiet (grown_alloc _ _ _), ⟨vs, h1, h2.alloc o, fun i hi => by
    obtain ⟨v, k1, k2⟩ := h3 i hi
    exact ⟨v, k1, k2.kept (fun b cs _ _ hk => hk.alloc o) (Nat.le_refl _)⟩⟩, h.bel.alloc h.bel.size o, h.wp, by have := h.up; simp; omega⟩
/-- One row more. -/
theorem GL.more {ga2 : Option Addr} {gc2 U' : Nat} {xs : List Int} {v : Value} {vs : List Value} (h : GL p a len cap ess ga gc U w W) (hv : RowIs p U' W v xs) (hU : U ≤ U') (hU' : U' ≤ W.heap.size)
    (h1 : vs.length = ess.length) (h2 : W.ownsRow (p + 1) 29 1 (.slice ga ess.length gc) ess.length vs) (h3 : ∀ i, i < ess.length → ∃ v, vs[i]? = some v ∧ RowIs p U W v (ess.getD i []))
    (hg : W.grownBy W' (Value.slice ga ess.length gc).ownBlock) (ho : W'.ownsRow (p + 1) 29 1 (.slice ga2 (ess.length + 1) gc2) (ess.length + 1) (vs ++ [v])) : GL p a len cap (ess ++ [xs]) ga2 gc2 U' w W' := by
  have hb : Below (p + 1) W W' := below_own h2 hg h.cur.lt
  have hk : ∀ b cs, Blk W b 3 cs → Blk W' b 3 cs := fun b cs k => k.grown hg (row_blk_ne_ h2 k (by decide)).symm
  refine ⟨h.cur.below_ hb, ⟨vs ++ [v], by simp [h1], by rw [List.length_append]; exact ho, fun i hi => ?_⟩, h.bel.trans (hb.mono (by have := h.wp; omega)), h.wp, Nat.le_trans hU' hb.size⟩
  rcases Nat.lt_or_ge i ess.length with hlt | hge
  · obtain ⟨u, k1, k2⟩ := h3 i hlt
    refine ⟨u, by rw [List.getElem?_append_left (by omega)]; exact k1, ?_⟩
    have e : (ess ++ [xs]).getD i [] = ess.getD i [] := by simp [List.getD, List.getElem?_append_left hlt]
    rw [e]
    exact k2.kept (fun b cs _ _ k => hk b cs k) hU
  · have hi2 : i = ess.length := by simp at hi; omega
    subst hi2
    refine ⟨v, by rw [List.getElem?_append_right (by omega), h1]; simp, ?_⟩
    have e : (ess ++ [xs]).getD ess.length [] = xs := by simp [List.getD]
    rw [e]
    exact hv.kept (fun b cs _ _ k => hk b cs k) (Nat.le_refl _)
theorem GL.grid (h : GL p a len cap ess ga gc U w W) : Grid W W.heap.size ga gc ess := by
  obtain ⟨vs, h1, h2, h3⟩ := h.own
  rcases h2.2 with ⟨he, h0⟩ | ⟨g, c, cur, he, _, hh, hc, hm, _⟩
  · injection he with ha _ hc
    subst ha hc
    have hl : ess = [] := List.length_eq_zero_iff.1 h0
    subst hl
    exact Grid.none_ _ _
  · injection he with ha _ hc2
    subst ha hc2
    unfold maxLen at hm
    refine ⟨hc, hm, .inr ⟨g, 0, rfl, (Array.getElem?_eq_some_iff.1 hh).1, fun i hi => ?_⟩⟩
    obtain ⟨v, k1, b, c, cs, rfl, k3, k4, _, _, k7, k8⟩ := h3 i hi
    rw [Nat.zero_add]
    refine ⟨_, c, ((h2.cellAt i (by omega)).trans k1), k3, by omega, .inr ⟨b, 0, rfl, k7.lt, fun j hj => ?_⟩⟩
    rw [Nat.zero_add, k7.cell j]
    exact k8 j hj
end
/-- .. and one row that is being made. -/
structure GE (p : Nat) (a : Option Addr) (len cap : Nat) (ess : List (List Int)) (ga : Option Addr) (gc U b : Nat) (x y z : Int) (w W : World) : Prop where
  gl : GL p a len cap ess ga gc U w W
  var : Blk W b 3 #[.int .i64 x, .int .i64 y, .int .i64 z]
  Ub : U ≤ b
  pb : p < b
section
variable {p : Nat} {a ga : Option Addr} {len cap gc U b : Nat} {x y z : Int} {ess : List (List Int)} {w W W' : World}
theorem GL.begin (h : GL p a len cap ess ga gc U w W) (x y z : Int) : GE p a len cap ess ga gc U W.heap.size x y z w (W.alloc (.cells #[.int .i64 x, .int .i64 y, .int .i64 z] 3)) :=
  ⟨h.alloc _, Blk.new _ _ _, h.up, h.cur.lt⟩
theorem GE.draw (h : GE p a len cap ess ga gc U b x y z w W) (hc : Cur W' p a len cap) (hg : W.grownBy W' (some p)) : GE p a len cap ess ga gc U b x y z w W' :=
  ⟨h.gl.draw hc hg, h.var.grown hg (fun e => by injection e with e; have := h.pb; omega), h.Ub, h.pb⟩
theorem GE.alloc (h : GE p a len cap ess ga gc U b x y z w W) (o : Obj) : GE p a len cap ess ga gc U b x y z w (W.alloc o) := ⟨h.gl.alloc o, h.var.alloc o, h.Ub, h.pb⟩
theorem GE.set {x' y' z' : Int} (h : GE p a len cap ess ga gc U b x y z w W) (i : Nat) (v : Value)
    (hv : (#[Value.int .i64 x, .int .i64 y, .int .i64 z] : Array Value).setIfInBounds i v = #[.int .i64 x', .int .i64 y', .int .i64 z']) : GE p a len cap ess ga gc U b x' y' z' w (W.setCell ⟨b, i, none⟩ v) := by
  have hU := h.Ub
  have hp := h.pb
  have hw := h.gl.wp
  have hg := grown_setCell W b i v
  have hb : Below b W (W.setCell ⟨b, i, none⟩ v) := ⟨hg.os, hg.tape, hg.output, hg.size, fun j hj => hg.block j (by have := h.var.lt; omega) (fun e => by injection e with e; omega)⟩
  obtain ⟨vs, h1, h2, h3⟩ := h.gl.own
  refine ⟨⟨h.gl.cur.below_ (hb.mono (by omega)), ⟨vs, h1, h2.kept hg (.inr (row_blk_ne_ h2 h.var (by decide))), fun j hj => ?_⟩, h.gl.bel.trans (hb.mono (by omega)), hw, Nat.le_trans h.gl.up hg.size⟩, by rw [← hv]; exact heap_setCell_at h.var i v, hU, hp⟩
  obtain ⟨u, k1, k2⟩ := h3 j hj
  exact ⟨u, k1, k2.kept (fun b' cs _ hlt k => k.grown hg (fun e => by injection e with e; omega)) (Nat.le_refl _)⟩
theorem GE.three (h : GE p a len cap ess ga gc U b x y z w W) : RowIs p (b + 1) W (.slice (some ⟨b, 0, none⟩) 3 3) [x, y, z] :=
  ⟨b, 3, _, rfl, by simp, by omega, h.pb, by omega, h.var, fun j hj => by
    have : j = 0 ∨ j = 1 ∨ j = 2 := by simp at hj; omega
    rcases this with rfl | rfl | rfl <;> rfl⟩
theorem GE.two (h : GE p a len cap ess ga gc U b x y z w W) : RowIs p (b + 1) W (.slice (some ⟨b, 0, none⟩) 2 3) [x, y] :=
  ⟨b, 3, _, rfl, by simp, by omega, h.pb, by omega, h.var, fun j hj => by
    have : j = 0 ∨ j = 1 := by simp at hj; omega
    rcases this with rfl | rfl <;> rfl⟩
end
/-- What comes out. -/
def PlayDraw (w : World) (e : Ending) (w' : World) : Prop :=
  ∃ (l af : Int) (ess : List (List Int)) (ga : Option Addr) (gc : Nat), e = .returned (.tuple #[.int .i64 l, .int .i64 af, .slice ga ess.length gc]) ∧ ess.length ≤ 301 ∧ Grid w' w'.heap.size ga gc ess ∧ Below w.heap.size w w'
theorem infoRow : (Try.prog.info? 29).map (fun i => (i.zero, i.size, i.bytes)) = some (some (.slice none 0 0), 1, 24) := by kernel_rfl
theorem info_row (h : (Try.prog.info? 29).map (fun i => (i.zero, i.size, i.bytes)) = some (some (.slice none 0 0), 1, 24)) : ∃ i0, Try.prog.info? 29 = some i0 ∧ i0.zero = some (.slice none 0 0) ∧ i0.size = 1 ∧ i0.bytes = 24 := by
  cases hi : Try.prog.info? 29 with
  | none => rw [hi] at h; cases h
  | some i => rw [hi] at h; simp at h; exact ⟨i, rfl, h.1, h.2.1, h.2.2⟩
set_option maxHeartbeats 4000000 in
set_option maxRecDepth 100000 in
theorem drawPlay_any (a : Option Addr) (len cap : Nat) (w : World) (hb : Bytes w w.heap.size a len) :
    Calls Try.prog 6 #[.slice a len cap] w (PlayDraw w) := by
  obtain ⟨i0, hi0, hy0, hy1, hy2⟩ := info_row infoRow
  have hsm := hb.small
  have HB := Lib.hid hb
  clear hb
  go_enter Try.func6, Try.ntmps6
  go_wp2_with fail
  refine (new_any a len cap _ HB.out).mono ?_
  rintro e w1 ⟨p, hp, rfl, hc1, hg1⟩
  have D1 : Hid (GL p a len cap [] (some ⟨w1.heap.size, 0, none⟩) 0 w1.heap.size w (w1.alloc (.cells #[] 29))) :=
    Lib.hid ⟨hc1.quiet (grown_alloc _ _ _), ⟨[], rfl, World.ownsRow_made (e := 29) (size := 1) (base := p + 1) w1 #[] 0 hc1.lt (by unfold maxLen; omega) (by simp), fun i hi => absurd hi (by simp)⟩, (below_grown hg1).alloc hg1.size _, hp, by simp⟩
  clear hc1 hg1
  go_wp2_with fail
  refine (size40_any a len cap _ hsm).mono ?_
  rintro e w' ⟨⟨sz, rfl, hs2, hs40⟩, rfl⟩
  go_wp2_with fail
  refine (below_any p a len cap sz (by omega) (by omega) _ D1.out.cur).mono ?_
  rintro e w2 ⟨n, rfl, n0, n1, hc, hg⟩
  have D2 := Lib.hid (D1.out.draw hc hg)
  clear hc hg
  go_upto_if 19 with (go_at_call 20; refine (once_any p a len cap 40 (by omega) (by omega) _ D2.out.cur).mono ?_; rintro e w3 ⟨b, rfl, hc, hg⟩; have D3 := Lib.hid (D2.out.draw hc hg); clear hc hg)
  go_cut [7] from 11 (fun v wx => ∃ m : Nat, m ≤ 301 ∧ v = .int .i64 m ∧ GL p a len cap [] (some ⟨w1.heap.size, 0, none⟩) 0 w1.heap.size w wx)
  case first =>
    cases b with
    | false =>
      obtain ⟨m, rfl⟩ := Int.eq_ofNat_of_zero_le n0
      go_wp2
      go_meet
      case rel => exact ⟨m, by omega, rfl, D3.out⟩
    | true =>
      go_wp2_with fail
      refine (below_any p a len cap 2 (by omega) (by omega) _ D3.out.cur).mono ?_
      rintro e w4 ⟨y, rfl, y0, y1, hc, hg⟩
      have D4 := Lib.hid (D3.out.draw hc hg)
      clear hc hg
      obtain ⟨m, hm⟩ : ∃ m : Nat, 300 + y = (m : Int) := ⟨(300 + y).toNat, by omega⟩
      have HM := Lib.hid hm
      have hm1 : m ≤ 301 := by omega
      clear hm
      go_wp2
      go_meet
      case rel => exact ⟨m, hm1, by rw [← HM.out], D4.out⟩
  case rest =>
    obtain ⟨m, hm, rfl, hd⟩ := hcut
    have D5 := Lib.hid hd
    clear hd D1 D2 D3 n0 n1
    go_wp2
    go_loopg [6, 8, 9] m (fun gk v tv iv wr => ∃ (ess : List (List Int)) (ga : Option Addr) (gc U : Nat) (t : Int), ess.length + gk = m ∧ v = .slice ga ess.length gc ∧ tv = .int .i64 t ∧ 0 ≤ t ∧ t ≤ 4 * (ess.length : Int) ∧ iv = .int .i64 ess.length ∧ GL p a len cap ess ga gc U w wr)
    case atStart => exact ⟨[], _, _, _, 0, by simp, rfl, rfl, by omega, by simp, rfl, D5.out⟩
    case round =>
      obtain ⟨ess, ga, gc, U, t, hgk, rfl, rfl, ht0, ht1, rfl, hd⟩ := hrel
      have D6 := Lib.hid hd
      have HGK := Lib.hid hgk
      have hle : ess.length ≤ m := by omega
      clear hd D5
      by_cases hlt : ess.length < m
      · have hlt' : (ess.length : Int) < (m : Int) := by omega
        have hh2 : ((ess.length : Int)).tdiv 2 = ((ess.length / 2 : Nat) : Int) := by rw [Int.tdiv_eq_ediv_of_nonneg (by omega)]; omega
        obtain ⟨hf, hhf⟩ : ∃ hf, hf = ess.length / 2 := ⟨_, rfl⟩
        rw [← hhf] at hh2
        have hf1 : hf ≤ 150 := by omega
        clear hgk hhf
        go_wp2_with fail
        refine (below_any p a len cap 5 (by omega) (by omega) _ D6.out.cur).mono ?_
        rintro e u1 ⟨y, rfl, y0, y1, hc, hg⟩
        have D7 := Lib.hid (D6.out.draw hc hg)
        clear hc hg
        have D8_ := Lib.hid (D7.out.alloc (.cells #[.int .i64 0, .int .i64 0, .int .i64 0, .int .i64 1, .int .i64 2, .int .i64 2] 3))
        have hl_u2 := D7.out.cur.lt
        have R_u2 := Lib.hid (row_cells (xs := [0, 0, 0, 1, 2, 2]) (Blk.new u1 3 #[.int .i64 0, .int .i64 0, .int .i64 0, .int .i64 1, .int .i64 2, .int .i64 2]) (by simp))
        go_wp2_with fail
        refine (pick_any p a len cap u1.heap.size 6 [0, 0, 0, 1, 2, 2] (by simp) (by simp) _ D8_.out.cur (by simp) (by omega) R_u2.out).mono ?_
        rintro e u2 ⟨k, hk, rfl, hc, hg⟩
        have D8 := Lib.hid (D8_.out.draw hc hg)
        clear hc hg D8_ R_u2
        generalize el [0, 0, 0, 1, 2, 2] k = X
        clear hk
        go_wp2_with fail
        refine (below_any p a len cap 40 (by omega) (by omega) _ D8.out.cur).mono ?_
        rintro e u3 ⟨A9, rfl, A90, A91, hc, hg⟩
        have D9 := Lib.hid (D8.out.draw hc hg)
        clear hc hg
        have hgl := D9.out.cur.lt
        have E0 := Lib.hid (D9.out.begin X (A9 + (hf : Int)) (t + y))
        have hz0 : 0 ≤ t + y := by omega
        have hz1 : t + y ≤ 4 * ((ess.length : Int) + 1) := by omega
        clear D6 D7 D8 D9
        go_upto_if 43 with (go_at_call 20; refine (once_any p a len cap 40 (by omega) (by omega) _ E0.out.gl.cur).mono ?_; rintro e v1 ⟨b, rfl, hc, hg⟩; have E1 := Lib.hid (E0.out.draw hc hg); clear hc hg)
        go_cut [10] from 23 to 74 (fun v wx => ∃ (bb n : Nat) (xs : List Int), v = .slice (some ⟨bb, 0, none⟩) n 3 ∧ GL p a len cap ess ga gc U w wx ∧ RowIs p (bb + 1) wx (.slice (some ⟨bb, 0, none⟩) n 3) xs ∧ U ≤ bb + 1 ∧ bb < wx.heap.size)
        case first =>
          cases b with
          | false =>
            go_wp2
            go_meet
            case rel => exact ⟨_, 3, _, rfl, E1.out.gl, E1.out.three, by have := E1.out.Ub; omega, E1.out.var.lt⟩
          | true =>
            go_wp2_with fail
            refine (below_any p a len cap 4 (by omega) (by omega) _ E1.out.gl.cur).mono ?_
            rintro e v2 ⟨q, rfl, q0, q1, hc, hg⟩
            have E2 := Lib.hid (E1.out.draw hc hg)
            clear hc hg
            by_cases q_0 : q = 0
            · subst q_0
              have E3_ := Lib.hid (E2.out.alloc (.cells #[.int .i64 (-1), .int .i64 3, .int .i64 4] 3))
              have hl_v3 := E2.out.gl.cur.lt
              have R_v3 := Lib.hid (row_cells (xs := [-1, 3, 4]) (Blk.new v2 3 #[.int .i64 (-1), .int .i64 3, .int .i64 4]) (by simp))
              go_wp2_with fail
              refine (pick_any p a len cap v2.heap.size 3 [-1, 3, 4] (by simp) (by simp) _ E3_.out.gl.cur (by simp) (by omega) R_v3.out).mono ?_
              rintro e v3 ⟨k, hk, rfl, hc, hg⟩
              have E3 := Lib.hid (E3_.out.draw hc hg)
              clear hc hg E3_ R_v3
              generalize el [-1, 3, 4] k = Q
              clear hk
              have E4 := Lib.hid (E3.out.set (x' := Q) (y' := (A9 + (hf : Int))) (z' := (t + y)) 0 (.int .i64 Q) rfl)
              have f1 := E3.out.var.frozen 0
              have c1 := E3.out.var.cell 0
              simp at c1
              go_wp2
              go_meet
              case rel => exact ⟨_, 3, _, rfl, E4.out.gl, E4.out.three, by have := E4.out.Ub; omega, E4.out.var.lt⟩
            by_cases q_1 : q = 1
            · subst q_1
              go_wp2
              go_meet
              case rel => exact ⟨_, 2, _, rfl, E2.out.gl, E2.out.two, by have := E2.out.Ub; omega, E2.out.var.lt⟩
            by_cases q_2 : q = 2
            · subst q_2
              have E3_ := Lib.hid (E2.out.alloc (.cells #[.int .i64 (-1), .int .i64 1000000, .int .i64 1000001] 3))
              have hl_v3 := E2.out.gl.cur.lt
              have R_v3 := Lib.hid (row_cells (xs := [-1, 1000000, 1000001]) (Blk.new v2 3 #[.int .i64 (-1), .int .i64 1000000, .int .i64 1000001]) (by simp))
              go_wp2_with fail
              refine (pick_any p a len cap v2.heap.size 3 [-1, 1000000, 1000001] (by simp) (by simp) _ E3_.out.gl.cur (by simp) (by omega) R_v3.out).mono ?_
              rintro e v3 ⟨k, hk, rfl, hc, hg⟩
              have E3 := Lib.hid (E3_.out.draw hc hg)
              clear hc hg E3_ R_v3
              generalize el [-1, 1000000, 1000001] k = Q
              clear hk
              have E4 := Lib.hid (E3.out.set (x' := X) (y' := Q) (z' := (t + y)) 1 (.int .i64 Q) rfl)
              have f1 := E3.out.var.frozen 1
              have c1 := E3.out.var.cell 1
              simp at c1
              go_wp2
              go_meet
              case rel => exact ⟨_, 3, _, rfl, E4.out.gl, E4.out.three, by have := E4.out.Ub; omega, E4.out.var.lt⟩
            have q_3 : q = 3 := by omega
            subst q_3
            have E3_ := Lib.hid (E2.out.alloc (.cells #[.int .i64 (-1), .int .i64 0, .int .i64 1000000001] 3))
            have hl_v3 := E2.out.gl.cur.lt
            have R_v3 := Lib.hid (row_cells (xs := [-1, 0, 1000000001]) (Blk.new v2 3 #[.int .i64 (-1), .int .i64 0, .int .i64 1000000001]) (by simp))
            go_wp2_with fail
            refine (pick_any p a len cap v2.heap.size 3 [-1, 0, 1000000001] (by simp) (by simp) _ E3_.out.gl.cur (by simp) (by omega) R_v3.out).mono ?_
            rintro e v3 ⟨k, hk, rfl, hc, hg⟩
            have E3 := Lib.hid (E3_.out.draw hc hg)
            clear hc hg E3_ R_v3
            generalize el [-1, 0, 1000000001] k = Q
            clear hk
            have E4 := Lib.hid (E3.out.set (x' := X) (y' := (A9 + (hf : Int))) (z' := Q) 2 (.int .i64 Q) rfl)
            have f1 := E3.out.var.frozen 2
            have c1 := E3.out.var.cell 2
            simp at c1
            go_wp2
            go_meet
            case rel => exact ⟨_, 3, _, rfl, E4.out.gl, E4.out.three, by have := E4.out.Ub; omega, E4.out.var.lt⟩
        case rest =>
          obtain ⟨bb, n, xs, rfl, hgl2, hrow, hUb, hbb⟩ := hcut
          obtain ⟨vs, hvs1, hvs2, hvs3⟩ := hgl2.own
          have HR := Lib.hid hrow
          have HL := Lib.hid hgl2
          have HV1 := Lib.hid hvs1
          have HV2 := Lib.hid hvs2
          have HV3 := Lib.hid hvs3
          have hpl := hgl2.cur.lt
          clear hrow hgl2 hvs1 hvs2 hvs3 E0 E1 hgl
          go_wp2_with (at_builtin; refine wpList_append_own _ rfl _ _ 24 rfl (p + 1) 29 i0 (.slice none 0 0) 1 24 Try.underlying24 hi0 hy0 hy1 hy2 rfl (by decide) _ _ _ rfl (HV2.out.alloc _) ⟨_, 0, none⟩ 1 1 [.slice (some ⟨bb, 0, none⟩) n 3] rfl rfl (news_at_ (by simp)) (by intro u hu; simp at hu; subst hu; rfl) ?c3 ?c4 ?c5 ?_)
          case c3 => unfold maxLen; omega
          case c4 => omega
          case c5 => simp; omega
          intro v' w9 hown' hg9 _
          obtain ⟨a2, c2, rfl⟩ := owns_shape hown'
          have D9 := Lib.hid ((HL.out.alloc (.cells #[.slice (some ⟨bb, 0, none⟩) n 3] 29)).more (HR.out.kept (fun b cs _ _ hk => hk.alloc _) (Nat.le_refl _)) hUb (by simp; omega) HV1.out (HV2.out.alloc _) (fun i hi => by
            obtain ⟨v, k1, k2⟩ := HV3.out i hi
            exact ⟨v, k1, k2.kept (fun b cs _ _ hk => hk.alloc _) (Nat.le_refl _)⟩) hg9 hown')
          clear hown' hg9
          go_wp2
          go_roundg (gk - 1)
          case measure => (have e1 := HGK.out; omega)
          case rel => exact ⟨ess ++ [xs], a2, c2, bb + 1, t + y, by have e1 := HGK.out; simp; omega, by simp, rfl, hz0, by simp; omega, by simp, D9.out⟩
      · have hlt' : ¬ ((ess.length : Int) < (m : Int)) := by omega
        clear hgk
        have D7_ := Lib.hid (D6.out.alloc (.cells #[.int .i64 0, .int .i64 3, .int .i64 10, .int .i64 (-1)] 3))
        have hl_u1 := D6.out.cur.lt
        have R_u1 := Lib.hid (row_cells (xs := [0, 3, 10, -1]) (Blk.new wr 3 #[.int .i64 0, .int .i64 3, .int .i64 10, .int .i64 (-1)]) (by simp))
        go_wp2_with fail
        refine (pick_any p a len cap wr.heap.size 4 [0, 3, 10, -1] (by simp) (by simp) _ D7_.out.cur (by simp) (by omega) R_u1.out).mono ?_
        rintro e u1 ⟨k, hk, rfl, hc, hg⟩
        have D7 := Lib.hid (D7_.out.draw hc hg)
        clear hc hg D7_ R_u1
        generalize el [0, 3, 10, -1] k = X
        clear hk
        have D8_ := Lib.hid (D7.out.alloc (.cells #[.int .i64 0, .int .i64 4, .int .i64 10, .int .i64 (-1)] 3))
        have hl_u2 := D7.out.cur.lt
        have R_u2 := Lib.hid (row_cells (xs := [0, 4, 10, -1]) (Blk.new u1 3 #[.int .i64 0, .int .i64 4, .int .i64 10, .int .i64 (-1)]) (by simp))
        go_wp2_with fail
        refine (pick_any p a len cap u1.heap.size 4 [0, 4, 10, -1] (by simp) (by simp) _ D8_.out.cur (by simp) (by omega) R_u2.out).mono ?_
        rintro e u2 ⟨k, hk, rfl, hc, hg⟩
        have D8 := Lib.hid (D8_.out.draw hc hg)
        clear hc hg D8_ R_u2
        generalize el [0, 4, 10, -1] k = Y
        clear hk
        have HP : Hid (PlayDraw w (.returned (.tuple #[.int .i64 X, .int .i64 Y, .slice ga ess.length gc])) u2) := Lib.hid ⟨X, Y, ess, ga, gc, rfl, by omega, D8.out.grid, D8.out.bel⟩
        go_wp2
        exact bodyPost_ret (v := .tuple #[.int .i64 X, .int .i64 Y, .slice ga ess.length gc]) (by simp [results, Try.results6, go_sem]) rfl HP.out
end Go.Proofs.Ytcjmigjkjepkdaa
