/- impl.TakeClosed through the range over closing. (made by tools/mktakei.py) -/
import Derived.Test.YtnfhlfbkdhpacaaTakeI
namespace Go.Proofs.Ytnfhlfbkdhpacaa
open Go.RowKit Go.Shelf
attribute [local go_sem] Oper.semAt_some

/-- What is left where one has come out. -/
structure TakeEnd (w : World) (l : List Ag) (mk lt ov : Int) (W : World) : Prop where
  some_ : ∃ a c, Blk W (w.heap.size + 1) 29 #[.slice a (l.drop 1).length c, .int .i64 mk, .int .i64 lt, .int .i64 ov] ∧ W.ownsRow w.heap.size 37 6 (.slice a (l.drop 1).length c) (l.drop 1).length (flatA (l.drop 1))
  agg : Blk W (w.heap.size + 1 + 1) 37 #[.int .i64 (ael l 0).win, .int .i64 (ael l 0).key, .int .i64 (ael l 0).cnt, .int .i64 (ael l 0).sum, .int .i64 (ael l 0).mn, .int .i64 (ael l 0).mx]
  ok : Blk W (w.heap.size + 1 + 1 + 1) 4 #[.bool true]
  bel : Below w.heap.size w W
theorem TakeEnd.kept {w : World} {l : List Ag} {mk lt ov : Int} {A B : World} {row : Option Nat} {b : Nat} (h : TakeEnd w l mk lt ov A) (hb : w.heap.size ≤ b) (hg : A.grownBy B row) (hr : ∀ r, row = some r → b ≤ r ∧ ∃ o : Obj, A.heap[r]? = some o ∧ o.isCells = false) : TakeEnd w l mk lt ov B := by
  obtain ⟨⟨a, c, h1, h2⟩, h3, h4, h5⟩ := h
  have ne : ∀ {k : Nat} {T : TypeId} {cs : Array Value}, Blk A k T cs → some k ≠ row := fun hk e => by obtain ⟨_, o, ho, hc⟩ := hr _ e.symm; rw [show A.heap[_]? = _ from hk] at ho; cases ho; cases hc
  refine ⟨⟨a, c, h1.grown hg (ne h1), own_same h2 (fun g hgo => ?_)⟩, h3.grown hg (ne h3), h4.grown hg (ne h4), h5.grown hg h5.size (fun k e => Nat.le_trans hb (hr k e).1)⟩
  rcases h2.2 with ⟨hz, _⟩ | ⟨g', cap, cur, hz, _, hh, _⟩
  · rw [hz] at hgo; simp [Value.ownBlock] at hgo
  · rw [hz] at hgo
    have e : g' = g := by simpa [Value.ownBlock] using hgo
    subst e
    exact hg.block g' (Array.getElem?_eq_some_iff.1 hh).1 (ne hh)
/-- The three results written. -/
def s4 (n : Nat) (v0 v1 v2 v3 : Value) (W : World) : World := (((W.setCell ⟨n, 0, none⟩ v0).setCell ⟨n, 1, none⟩ v1).setCell ⟨n, 2, none⟩ v2).setCell ⟨n, 3, none⟩ v3
def s6 (n : Nat) (x0 x1 x2 x3 x4 x5 : Value) (W : World) : World := (((((W.setCell ⟨n, 0, none⟩ x0).setCell ⟨n, 1, none⟩ x1).setCell ⟨n, 2, none⟩ x2).setCell ⟨n, 3, none⟩ x3).setCell ⟨n, 4, none⟩ x4).setCell ⟨n, 5, none⟩ x5
def resTo (n : Nat) (v0 v1 v2 v3 x0 x1 x2 x3 x4 x5 y : Value) (W : World) : World := (s6 (n + 1 + 1) x0 x1 x2 x3 x4 x5 (s4 (n + 1) v0 v1 v2 v3 W)).setCell ⟨n + 1 + 1 + 1, 0, none⟩ y
theorem s4_blk {n : Nat} {v0 v1 v2 v3 a0 a1 a2 a3 : Value} {W : World} {T : TypeId} (h : Blk W n T #[a0, a1, a2, a3]) : Blk (s4 n v0 v1 v2 v3 W) n T #[v0, v1, v2, v3] := by
  have e := (((h.put_ 0 v0).put_ 1 v1).put_ 2 v2).put_ 3 v3
  simp only [List.setIfInBounds_toArray, List.set_cons_zero, List.set_cons_succ] at e
  exact e
theorem s6_blk {n : Nat} {x0 x1 x2 x3 x4 x5 b0 b1 b2 b3 b4 b5 : Value} {W : World} {T : TypeId} (h : Blk W n T #[b0, b1, b2, b3, b4, b5]) : Blk (s6 n x0 x1 x2 x3 x4 x5 W) n T #[x0, x1, x2, x3, x4, x5] := by
  have e := (((((h.put_ 0 x0).put_ 1 x1).put_ 2 x2).put_ 3 x3).put_ 4 x4).put_ 5 x5
  simp only [List.setIfInBounds_toArray, List.set_cons_zero, List.set_cons_succ] at e
  exact e
theorem s1_far {k b i : Nat} {u : Value} {V : World} (h : k ≠ b) : (V.setCell ⟨b, i, none⟩ u).heap[k]? = V.heap[k]? := Below.heap_setCell V ⟨b, i, none⟩ u k h
theorem s4_far {n k : Nat} {v0 v1 v2 v3 : Value} {W : World} (h : k ≠ n) : (s4 n v0 v1 v2 v3 W).heap[k]? = W.heap[k]? := by
  unfold s4
  rw [s1_far h, s1_far h, s1_far h, s1_far h]
theorem s6_far {n k : Nat} {x0 x1 x2 x3 x4 x5 : Value} {W : World} (h : k ≠ n) : (s6 n x0 x1 x2 x3 x4 x5 W).heap[k]? = W.heap[k]? := by
  unfold s6
  rw [s1_far h, s1_far h, s1_far h, s1_far h, s1_far h, s1_far h]
theorem res_blk {n : Nat} {v0 v1 v2 v3 x0 x1 x2 x3 x4 x5 y : Value} {W : World} {T U B : TypeId} {a0 a1 a2 a3 b0 b1 b2 b3 b4 b5 c0 : Value} (h1 : Blk W (n + 1) T #[a0, a1, a2, a3]) (h2 : Blk W (n + 1 + 1) U #[b0, b1, b2, b3, b4, b5]) (h3 : Blk W (n + 1 + 1 + 1) B #[c0]) :
    Blk (resTo n v0 v1 v2 v3 x0 x1 x2 x3 x4 x5 y W) (n + 1) T #[v0, v1, v2, v3] ∧ Blk (resTo n v0 v1 v2 v3 x0 x1 x2 x3 x4 x5 y W) (n + 1 + 1) U #[x0, x1, x2, x3, x4, x5] ∧ Blk (resTo n v0 v1 v2 v3 x0 x1 x2 x3 x4 x5 y W) (n + 1 + 1 + 1) B #[y] := by
  have e1 := s4_blk (v0 := v0) (v1 := v1) (v2 := v2) (v3 := v3) h1
  have e2 : Blk (s4 (n + 1) v0 v1 v2 v3 W) (n + 1 + 1) U #[b0, b1, b2, b3, b4, b5] := by unfold Blk; rw [s4_far (by omega)]; exact h2
  have e3 : Blk (s4 (n + 1) v0 v1 v2 v3 W) (n + 1 + 1 + 1) B #[c0] := by unfold Blk; rw [s4_far (by omega)]; exact h3
  unfold resTo
  generalize s4 (n + 1) v0 v1 v2 v3 W = V at e1 e2 e3
  have f1 : Blk (s6 (n + 1 + 1) x0 x1 x2 x3 x4 x5 V) (n + 1) T #[v0, v1, v2, v3] := by unfold Blk; rw [s6_far (by omega)]; exact e1
  have f2 := s6_blk (x0 := x0) (x1 := x1) (x2 := x2) (x3 := x3) (x4 := x4) (x5 := x5) e2
  have f3 : Blk (s6 (n + 1 + 1) x0 x1 x2 x3 x4 x5 V) (n + 1 + 1 + 1) B #[c0] := by unfold Blk; rw [s6_far (by omega)]; exact e3
  generalize s6 (n + 1 + 1) x0 x1 x2 x3 x4 x5 V = V2 at f1 f2 f3
  have g3 := f3.put_ 0 y
  simp only [List.setIfInBounds_toArray, List.set_cons_zero] at g3
  exact ⟨by unfold Blk; rw [s1_far (by omega)]; exact f1, by unfold Blk; rw [s1_far (by omega)]; exact f2, g3⟩
theorem res_far {n : Nat} {v0 v1 v2 v3 x0 x1 x2 x3 x4 x5 y : Value} {W : World} {k : Nat} (hk : k ≠ n + 1 ∧ k ≠ n + 1 + 1 ∧ k ≠ n + 1 + 1 + 1) : (resTo n v0 v1 v2 v3 x0 x1 x2 x3 x4 x5 y W).heap[k]? = W.heap[k]? :=
  (s1_far hk.2.2).trans ((s6_far hk.2.1).trans (s4_far hk.1))
theorem res_size {n : Nat} {v0 v1 v2 v3 x0 x1 x2 x3 x4 x5 y : Value} {W : World} : (resTo n v0 v1 v2 v3 x0 x1 x2 x3 x4 x5 y W).heap.size = W.heap.size := by simp [resTo, s6, s4]
theorem res_below {n m : Nat} {v0 v1 v2 v3 x0 x1 x2 x3 x4 x5 y : Value} {w W : World} (h : Below m w W) (hm : m ≤ n) : Below m w (resTo n v0 v1 v2 v3 x0 x1 x2 x3 x4 x5 y W) := by
  unfold resTo s6 s4
  exact (below_set6 (below_set4 h (by omega) v0 v1 v2 v3) (by omega) x0 x1 x2 x3 x4 x5).setCell (p := ⟨n + 1 + 1 + 1, 0, none⟩) (by show m ≤ n + 1 + 1 + 1; omega) y

set_option maxHeartbeats 4000000 in
set_option maxRecDepth 100000 in
theorem implTake_go (a : Option Addr) (c : Nat) (mk lt ov sz : Int) (al : Bool) (l : List Ag) (hi : Nat) (w : World) (hr : Ags w hi a c l) (hB : hi ≤ w.heap.size) (hlen : l.length ≤ 1048576) (hS : sokB l mk lt ov = true) (hZ : inB sz 1 1000000 = true) :
    Calls Try.prog 15 #[.agg #[.slice a l.length c, .int .i64 mk, .int .i64 lt, .int .i64 ov], .int .i64 sz, .bool al] w (TakeRes al l mk lt ov sz w) := by
  have hri := (sok_rising hS).1
  have hl40 := (sok_rising hS).2
  have HUP := Lib.hid (sok_bd hS).2.2.2.2
  have HPH := Lib.hid (fun x r => pick_head (al := al) (x := x) (r := r) hS hZ)
  have b4 := ((((Below.refl w.heap.size w).alloc (Nat.le_refl _) (.cells #[.slice a l.length c, .int .i64 mk, .int .i64 lt, .int .i64 ov] 29)).alloc (by simp) (.cells #[.slice none 0 0, .int .i64 0, .int .i64 0, .int .i64 0] 29)).alloc (by simp; omega) (.cells #[.int .i64 0, .int .i64 0, .int .i64 0, .int .i64 0, .int .i64 0, .int .i64 0] 37)).alloc (by simp; omega) (.cells #[.bool false] 4)
  have HN := Lib.hid (hr.below (b4.mono hB))
  have k1 := ((Blk.new (w.alloc (.cells #[.slice a l.length c, .int .i64 mk, .int .i64 lt, .int .i64 ov] 29)) 29 #[.slice none 0 0, .int .i64 0, .int .i64 0, .int .i64 0]).alloc (.cells #[.int .i64 0, .int .i64 0, .int .i64 0, .int .i64 0, .int .i64 0, .int .i64 0] 37)).alloc (.cells #[.bool false] 4)
  have k2 := (Blk.new ((w.alloc (.cells #[.slice a l.length c, .int .i64 mk, .int .i64 lt, .int .i64 ov] 29)).alloc (.cells #[.slice none 0 0, .int .i64 0, .int .i64 0, .int .i64 0] 29)) 37 #[.int .i64 0, .int .i64 0, .int .i64 0, .int .i64 0, .int .i64 0, .int .i64 0]).alloc (.cells #[.bool false] 4)
  have k3 := Blk.new (((w.alloc (.cells #[.slice a l.length c, .int .i64 mk, .int .i64 lt, .int .i64 ov] 29)).alloc (.cells #[.slice none 0 0, .int .i64 0, .int .i64 0, .int .i64 0] 29)).alloc (.cells #[.int .i64 0, .int .i64 0, .int .i64 0, .int .i64 0, .int .i64 0, .int .i64 0] 37)) 4 #[.bool false]
  simp only [World.size_alloc] at k1 k2 k3
  have K0 := Lib.hid ((((Blk.new w 29 #[.slice a l.length c, .int .i64 mk, .int .i64 lt, .int .i64 ov]).alloc (.cells #[.slice none 0 0, .int .i64 0, .int .i64 0, .int .i64 0] 29)).alloc (.cells #[.int .i64 0, .int .i64 0, .int .i64 0, .int .i64 0, .int .i64 0, .int .i64 0] 37)).alloc (.cells #[.bool false] 4))
  have K1 := Lib.hid k1
  have K2 := Lib.hid k2
  have K3 := Lib.hid k3
  have B4 := Lib.hid b4
  have HOK := Lib.hid (fun (W : World) (h : Ags W hi a c l) (h2 : hi ≤ W.heap.size) => implShardOk_any a l.length c mk lt ov l hi W h rfl h2)
  clear hr b4 k1 k2 k3
  rw [hS] at HOK
  have CI := Lib.hid (fun W => iSize_any sz W)
  rw [hZ] at CI
  clear hS hZ
  refine (callsIn_wide (n := 9)).1 ?_
  refine callsIn_of_wp_marks Try.func15 rfl trivial ?_ rfl
  refine wpIn_wide.2 ?_
  simp only [Try.ntmps15, List.size_toArray, List.length_cons, List.length_nil, Nat.reduceAdd, Nat.reduceSub, Array.replicate_succ, Array.replicate_zero, List.push_toArray, List.append_toArray, List.nil_append, List.cons_append]
  generalize hQ : bodyPostM _ _ _ _ _ = Q
  have HQ := Lib.hid hQ
  clear hQ
  go_wp2_with fail
  refine (copied_any a _ c mk lt ov l _ _ HN.out rfl (by simp; omega) hlen).mono ?_
  rintro e w1 ⟨a1, c1, rfl, ho, hb⟩
  have s1 := hb.size
  simp only [World.size_alloc] at s1
  have HNE2 : Hid (some (w.heap.size + 1 + 1) ≠ (Value.slice a1 l.length c1).ownBlock) := Lib.hid (own_ge ho (by simp))
  have T0 := Lib.hid ((K0.out.below hb).alloc (.cells #[.slice a1 l.length c1, .int .i64 mk, .int .i64 lt, .int .i64 ov] 29))
  have T1 := Lib.hid ((K1.out.below hb).alloc (.cells #[.slice a1 l.length c1, .int .i64 mk, .int .i64 lt, .int .i64 ov] 29))
  have T2 := Lib.hid ((K2.out.below hb).alloc (.cells #[.slice a1 l.length c1, .int .i64 mk, .int .i64 lt, .int .i64 ov] 29))
  have T3 := Lib.hid ((K3.out.below hb).alloc (.cells #[.slice a1 l.length c1, .int .i64 mk, .int .i64 lt, .int .i64 ov] 29))
  have TN := Lib.hid (Blk.new w1 29 #[.slice a1 l.length c1, .int .i64 mk, .int .i64 lt, .int .i64 ov])
  have TL := Lib.hid ho
  have TO := Lib.hid ((owns_less ho (show w.heap.size ≤ _ by simp; omega)).alloc (.cells #[.slice a1 l.length c1, .int .i64 mk, .int .i64 lt, .int .i64 ov] 29))
  have TB := Lib.hid ((B4.out.trans (hb.mono (by simp; omega))).alloc (by omega) (.cells #[.slice a1 l.length c1, .int .i64 mk, .int .i64 lt, .int .i64 ov] 29))
  have TA := Lib.hid ((HN.out.below (hb.mono (by simp; omega))).below ((Below.refl hi w1).alloc (by omega) (.cells #[.slice a1 l.length c1, .int .i64 mk, .int .i64 lt, .int .i64 ov] 29)))
  have TH : hi ≤ (w1.alloc (.cells #[.slice a1 l.length c1, .int .i64 mk, .int .i64 lt, .int .i64 ov] 29)).heap.size := by simp; omega
  have TW : w.heap.size ≤ (w1.alloc (.cells #[.slice a1 l.length c1, .int .i64 mk, .int .i64 lt, .int .i64 ov] 29)).heap.size := by simp; omega
  have q0 := T0.out.cell
  clear ho hb
  go_wp2_with fail
  refine (HOK.out _ TA.out TH).mono ?_
  rintro e wU ⟨rfl, hb⟩
  have U0 := Lib.hid (T0.out.below hb)
  have U1 := Lib.hid (T1.out.below hb)
  have U2 := Lib.hid (T2.out.below hb)
  have U3 := Lib.hid (T3.out.below hb)
  have UN := Lib.hid (TN.out.below hb)
  have UO := Lib.hid (owns_below TO.out hb)
  have UA := Lib.hid (TA.out.below (hb.mono TH))
  have UB := Lib.hid (TB.out.trans (hb.mono TW))
  have US := hb.size
  simp only [World.size_alloc] at US
  have UH : hi ≤ wU.heap.size := Nat.le_trans TH hb.size
  have UW : w.heap.size ≤ wU.heap.size := Nat.le_trans TW hb.size
  clear hb q0
  have q0 := U0.out.cell
  go_wp2_with fail
  refine (CI.out _).mono ?_
  rintro e w' ⟨rfl, rfl⟩
  go_wp2_with fail
  clear q0
  refine (closing_x a l.length c mk lt ov sz al _).mono ?_
  rintro e w3 ⟨rfl, hw3⟩
  have s3 : w3.heap.size = wU.heap.size + 3 := by rw [hw3]; simp
  have BW : Below wU.heap.size wU w3 := by rw [hw3]; exact (((Below.refl _ wU).alloc (Nat.le_refl _) _).alloc (by simp) _).alloc (by simp; omega) _
  have KS : Blk w3 wU.heap.size 29 #[.slice a l.length c, .int .i64 mk, .int .i64 lt, .int .i64 ov] := by rw [hw3]; exact ((Blk.new wU _ _).alloc _).alloc _
  have KZ : Blk w3 (wU.heap.size + 1) 3 #[.int .i64 sz] := by
    rw [hw3]
    have z := (Blk.new (wU.alloc (.cells #[.slice a l.length c, .int .i64 mk, .int .i64 lt, .int .i64 ov] 29)) 3 #[.int .i64 sz]).alloc (.cells #[.bool al] 4)
    simpa using z
  have KA : Blk w3 (wU.heap.size + 1 + 1) 4 #[.bool al] := by
    rw [hw3]
    have z := Blk.new ((wU.alloc (.cells #[.slice a l.length c, .int .i64 mk, .int .i64 lt, .int .i64 ov] 29)).alloc (.cells #[.int .i64 sz] 3)) 4 #[.bool al]
    simpa using z
  have HR3 := Lib.hid (UA.out.below (BW.mono UH))
  have KS := Lib.hid KS
  have KZ := Lib.hid KZ
  have KA := Lib.hid KA
  have BW := Lib.hid BW
  have s3a : wU.heap.size + 3 ≤ w3.heap.size := by omega
  clear hw3 s3
  have UWS := US
  go_wp2_with fail
  refine (wpIn_wide (n := 9)).1 ?_
  have SQ := clos_seq (9 - 1) (by omega) wU.heap.size (wU.heap.size + 1) (wU.heap.size + 1 + 1) hi c a mk lt ov sz al l hri (by omega) w3 KS.out KZ.out KA.out HR3.out (by omega)
  refine wpIn_rangeFunc_pr rfl (by omega) (gf := 38) (lb := #[.pointer (some ⟨wU.heap.size, 0, none⟩), .pointer (some ⟨wU.heap.size + 1, 0, none⟩), .pointer (some ⟨wU.heap.size + 1 + 1, 0, none⟩)]) rfl trivial (enters_of Try.func38 (by kernel_rfl) rfl)
    SQ (Below.refl _ _) (fun _ => rfl) (fun p r pre W => (pre = [] ∧ Below wU.heap.size wU W) ∧ wU.heap.size ≤ p ∧ wU.heap.size ≤ r ∧ p < W.heap.size ∧ r < W.heap.size) (fun cc _ W => (cc = .ret ∧ pickL al mk sz l ≠ []) ∧ TakeEnd w l mk lt ov W)
    (fun p r pre A B h ho => ⟨⟨h.1.1, h.1.2.trans ⟨ho.os, ho.tape, ho.output, ho.size, fun k hk => ho.block k (Nat.lt_of_lt_of_le hk h.1.2.size) (by omega) (by omega)⟩⟩, h.2.1, h.2.2.1, Nat.lt_of_lt_of_le h.2.2.2.1 ho.size, Nat.lt_of_lt_of_le h.2.2.2.2 ho.size⟩)
    (fun p r => OwnFrom.and (OwnFrom.and (ownFrom_pure _ _) (ownFrom_below (Nat.le_refl _) (by omega))) (fun _ _ _ _ hs hg _ => ⟨hs.1, hs.2.1, Nat.lt_of_lt_of_le hs.2.2.1 hg.size, Nat.lt_of_lt_of_le hs.2.2.2 hg.size⟩))
    (fun cc => OwnFrom.and (ownFrom_pure _ _) (fun _ _ _ _ hs hg hr => hs.kept (by omega) hg hr)) ?start
    (fun x a' W => ∃ b, a' = { tmps := #[.agg #[.slice a l.length c, .int .i64 mk, .int .i64 lt, .int .i64 ov], .int .i64 sz, .bool al, .pointer (some ⟨w.heap.size, 0, none⟩), undef, undef, .pointer (some ⟨w.heap.size + 1, 0, none⟩), .pointer (some ⟨w.heap.size + 1 + 1, 0, none⟩), .pointer (some ⟨w.heap.size + 1 + 1 + 1, 0, none⟩), .pointer (some ⟨w1.heap.size, 0, none⟩), .pointer (some ⟨b, 0, none⟩), undef, undef, .agg #[.slice a l.length c, .int .i64 mk, .int .i64 lt, .int .i64 ov], .agg #[.slice a1 l.length c1, .int .i64 mk, .int .i64 lt, .int .i64 ov], .agg #[.slice a l.length c, .int .i64 mk, .int .i64 lt, .int .i64 ov], .bool true, .bool false, .bool false, .int .i64 sz, .bool true, .bool false, .bool false, undef, undef, .agg #[.slice a l.length c, .int .i64 mk, .int .i64 lt, .int .i64 ov], .int .i64 sz, .bool al, .func (.func 38) #[] #[.pointer (some ⟨wU.heap.size, 0, none⟩), .pointer (some ⟨wU.heap.size + 1, 0, none⟩), .pointer (some ⟨wU.heap.size + 1 + 1, 0, none⟩)], .agg #[.int .i64 x.win, .int .i64 x.key, .int .i64 x.cnt, .int .i64 x.sum, .int .i64 x.mn, .int .i64 x.mx], undef, undef, undef, undef, undef, undef, undef, undef, undef, undef, undef, undef, undef, undef, undef, undef, undef], defers := [] } ∧ Blk W b 37 #[.int .i64 x.win, .int .i64 x.key, .int .i64 x.cnt, .int .i64 x.sum, .int .i64 x.mn, .int .i64 x.mx] ∧ wU.heap.size ≤ b) ?ax ?assign ?body ?done ?stop
  case start =>
    intro p r A hA hp hr hpl hrl
    exact ⟨⟨rfl, BW.out.trans (hA.mono (by omega))⟩, by omega, by omega, hpl, hrl⟩
  case ax =>
    rintro x a' _ A B row ⟨b, e, hk, hbb⟩ hg hrow
    exact ⟨b, e, hk.grown hg (fun e2 => by obtain ⟨_, o, ho, hc⟩ := hrow _ e2.symm; rw [show A.heap[b]? = _ from hk] at ho; cases ho; cases hc), hbb⟩
  case assign =>
    rintro l2 p r pre x W K ⟨⟨hpn, hbw⟩, h3, h4, h5, h6⟩ hK
    gi_wp2
    refine hK _ _ ?_ ?_ ?_ ⟨W.heap.size, rfl, Blk.new W _ _, hbw.size⟩
    · exact (KeepsOthers.alloc W _).from _
    · exact ⟨by simp, Below.heap_alloc _ _ _ h5, Below.heap_alloc _ _ _ h6⟩
    · exact ⟨⟨hpn, hbw.alloc hbw.size _⟩, h3, h4, by simp; omega, by simp; omega⟩
  case body =>
    rintro l2 p r pre x a' W ⟨⟨rfl, hbw⟩, h3, h4, h5, h6⟩ ⟨b, rfl, hk, hbb⟩ hpx
    obtain ⟨rr, hrr⟩ : ∃ rr, pickL al mk sz l = x :: rr := by
      obtain ⟨t, ht⟩ := hpx
      exact ⟨t, by rw [← ht]; rfl⟩
    obtain ⟨hl0, hx⟩ := HPH.out x rr hrr
    have hpne : pickL al mk sz l ≠ [] := by rw [hrr]; simp
    obtain ⟨m, hm⟩ : ∃ m, l.length = m + 1 := ⟨l.length - 1, by omega⟩
    obtain ⟨g, rfl, hg1, hg2⟩ := own_at TL.out hl0
    have hw1 := UB.out.size
    have kn := UN.out.belowB hbw (by omega)
    have ko := owns_below UO.out hbw
    have hpl : placeN l ⟨x.win, x.key, x.cnt, x.sum, x.mn, x.mx⟩ = 0 := by
      show placeN l x = 0
      rw [hx]
      exact place_first
    have HPL := Lib.hid (placeOf_x (some ⟨g, 0, none⟩) l.length c1 mk lt ov l x.win x.key x.cnt x.sum x.mn x.mx W.heap.size W (Ags.of_own ko) rfl (Nat.le_refl _) HUP.out (by omega))
    rw [hpl] at HPL
    have HK := Lib.hid hk
    have KN := Lib.hid kn
    have KO := Lib.hid ko
    have HBW := Lib.hid hbw
    have HX := Lib.hid hx
    have HM := Lib.hid hm
    have qn := kn.cell
    have qb := hk.cell
    clear hk kn ko hbw hx hm hpl hrr hpx
    gi_wp2_with (first
      | (refine ⟨trivial, ?_⟩; gi_at_call 28; refine (CallsIn.inRound l2 (callsIn_wide.2 HPL.out)).mono ?_; rintro e w4 ⟨rfl, hb4⟩
         have kn4 := KN.out.below hb4
         have ko4 := owns_below KO.out hb4
         have kb4 := HK.out.below hb4
         have DEL := Lib.hid (del_x w.heap.size g c1 m l w4 ko4 HM.out (by omega))
         have HB4 := Lib.hid hb4
         have K4 := Lib.hid kb4
         have KN4 := Lib.hid kn4
         have KO4 := Lib.hid ko4
         have z1 : ((0 : Nat) : Int) = 0 := rfl
         clear qn qb hb4 ko4
         have qn := kn4.cell
         clear kn4 kb4)
      | (refine ⟨trivial, ?_⟩; gi_at_call 29; refine (CallsIn.inRound l2 (callsIn_wide.2 DEL.out)).mono ?_; rintro e w5 ⟨rfl, ho5, hg5⟩
         have kn5 := KN4.out.grown hg5 (own_blk_ne KO4.out KN4.out (by decide))
         have KN5 := Lib.hid kn5
         have HO5 := Lib.hid ho5
         have HG5 := Lib.hid hg5
         clear qn ho5 hg5
         have qn := kn5.cell
         have fn := kn5.frozen
         clear kn5))
    have hw14 : w.heap.size + 1 + 1 + 1 + 1 ≤ w1.heap.size := s1
    have hg1' : w.heap.size + 1 + 1 + 1 + 1 ≤ g := by simpa using hg1
    have hWs := HBW.out.size
    have u1 := ((U1.out.belowB HBW.out (by omega)).below HB4.out).grown HG5.out (fun e => by injection e with e; omega)
    have u2 := ((U2.out.belowB HBW.out (by omega)).below HB4.out).grown HG5.out (fun e => by injection e with e; omega)
    have u3 := ((U3.out.belowB HBW.out (by omega)).below HB4.out).grown HG5.out (fun e => by injection e with e; omega)
    have ub := (K4.out).grown HG5.out (fun e => by injection e with e; omega)
    have un := KN5.out.put_ 0 (.slice (some ⟨g, 0, none⟩) m c1)
    have u1 := u1.far_ (p := ⟨w1.heap.size, 0, none⟩) (show w.heap.size + 1 ≠ w1.heap.size by omega) (.slice (some ⟨g, 0, none⟩) m c1)
    have u2 := u2.far_ (p := ⟨w1.heap.size, 0, none⟩) (show w.heap.size + 1 + 1 ≠ w1.heap.size by omega) (.slice (some ⟨g, 0, none⟩) m c1)
    have u3 := u3.far_ (p := ⟨w1.heap.size, 0, none⟩) (show w.heap.size + 1 + 1 + 1 ≠ w1.heap.size by omega) (.slice (some ⟨g, 0, none⟩) m c1)
    have ub := ub.far_ (p := ⟨w1.heap.size, 0, none⟩) (show b ≠ w1.heap.size by omega) (.slice (some ⟨g, 0, none⟩) m c1)
    simp only [List.setIfInBounds_toArray, List.set_cons_zero] at un
    have heq : ∀ k, k < W.heap.size → k ≠ g → k ≠ w1.heap.size → (w5.setCell ⟨w1.heap.size, 0, none⟩ (.slice (some ⟨g, 0, none⟩) m c1)).heap[k]? = W.heap[k]? := fun k hk h1 h2 =>
      (s1_far h2).trans ((HG5.out.block k (Nat.lt_of_lt_of_le hk HB4.out.size) (fun e => by injection e with e; exact h1 e)).trans (HB4.out.block k hk))
    have ho6 := HO5.out.kept (grown_setCell w5 w1.heap.size 0 (.slice (some ⟨g, 0, none⟩) m c1)) (.inr (fun e => by simp [Value.ownBlock] at e; omega))
    have hb6 : Below w.heap.size w (w5.setCell ⟨w1.heap.size, 0, none⟩ (.slice (some ⟨g, 0, none⟩) m c1)) := by
      have z0 := (UB.out.trans (HBW.out.mono hw1)).trans (HB4.out.mono (by omega))
      exact (z0.grown HG5.out z0.size (fun k e => by cases e; omega)).setCell (p := ⟨w1.heap.size, 0, none⟩) (by show w.heap.size ≤ w1.heap.size; omega) _
    have hs6 : W.heap.size ≤ (w5.setCell ⟨w1.heap.size, 0, none⟩ (.slice (some ⟨g, 0, none⟩) m c1)).heap.size := by
      have := HB4.out.size
      have := HG5.out.size
      simp
      omega
    generalize w5.setCell ⟨w1.heap.size, 0, none⟩ (.slice (some ⟨g, 0, none⟩) m c1) = W6 at u1 u2 u3 ub un heq ho6 hb6 hs6 ⊢
    have hll : (l.drop 1).length = m := by rw [List.length_drop, HM.out]; omega
    have rb := res_blk (v0 := .slice (some ⟨g, 0, none⟩) m c1) (v1 := .int .i64 mk) (v2 := .int .i64 lt) (v3 := .int .i64 ov) (x0 := (.int .i64 x.win)) (x1 := (.int .i64 x.key)) (x2 := (.int .i64 x.cnt)) (x3 := (.int .i64 x.sum)) (x4 := (.int .i64 x.mn)) (x5 := (.int .i64 x.mx)) (y := .bool true) u1 u2 u3
    obtain ⟨WE, hWE⟩ : ∃ WE, WE = resTo w.heap.size (.slice (some ⟨g, 0, none⟩) m c1) (.int .i64 mk) (.int .i64 lt) (.int .i64 ov) (.int .i64 x.win) (.int .i64 x.key) (.int .i64 x.cnt) (.int .i64 x.sum) (.int .i64 x.mn) (.int .i64 x.mx) (.bool true) W6 := ⟨_, rfl⟩
    have szE : WE.heap.size = W6.heap.size := by rw [hWE]; exact res_size
    have hf : ∀ k, k ≠ w.heap.size + 1 ∧ k ≠ w.heap.size + 1 + 1 ∧ k ≠ w.heap.size + 1 + 1 + 1 → WE.heap[k]? = W6.heap[k]? := fun k hk => by rw [hWE]; exact res_far hk
    have bl : Below w.heap.size w WE := by rw [hWE]; exact res_below hb6 (Nat.le_refl _)
    rw [← hWE] at rb
    have HEND0 : prPost w3.heap.size p r (fun p r pre W => (pre = [] ∧ Below wU.heap.size wU W) ∧ wU.heap.size ≤ p ∧ wU.heap.size ≤ r ∧ p < W.heap.size ∧ r < W.heap.size) (fun cc _ W => (cc = .ret ∧ pickL al mk sz l ≠ []) ∧ TakeEnd w l mk lt ov W) ([] ++ [x]) W .ret { tmps := #[], defers := [] } WE.drew := by
      refine ⟨⟨?_, fun k o hk ho _ => ?_⟩, ⟨rfl, hpne⟩, ⟨⟨some ⟨g, 0, none⟩, c1, by rw [hll]; exact rb.1.drew, ?_⟩, by rw [← HX.out]; exact rb.2.1.drew, rb.2.2.drew, bl.drew⟩⟩
      · show W.heap.size ≤ WE.heap.size
        omega
      · have hkl := (Array.getElem?_eq_some_iff.1 ho).1
        show WE.heap[k]? = some o
        rw [hf k (by omega), heq k hkl (by omega) (by omega)]
        exact ho
      · rw [hll]
        exact own_same ho6 (fun g2 hg2' => by
          have e : g = g2 := by simpa [Value.ownBlock] using hg2'
          subst e
          exact hf g (by omega))
    rw [hWE] at HEND0
    have HEND := Lib.hid HEND0
    clear HEND0 rb szE hf bl hWE
    have r1 := u1.cell
    have r2 := u2.cell
    have r3 := u3.cell
    have rb := ub.cell
    have h1 := u1.frozen
    have h2 := u2.frozen
    have h3' := u3.frozen
    have p1 := u1.drew.cell
    have p2 := u2.drew.cell
    have p3 := u3.drew.cell
    have pb := ub.drew.cell
    have pn := un.drew.cell
    have pb2 := ((((ub.drew.far_ (p := ⟨w.heap.size + 1, 0, none⟩) (show b ≠ w.heap.size + 1 by omega) (.slice (some ⟨g, 0, none⟩) m c1)).far_ (p := ⟨w.heap.size + 1, 1, none⟩) (show b ≠ w.heap.size + 1 by omega) (.int .i64 mk)).far_ (p := ⟨w.heap.size + 1, 2, none⟩) (show b ≠ w.heap.size + 1 by omega) (.int .i64 lt)).far_ (p := ⟨w.heap.size + 1, 3, none⟩) (show b ≠ w.heap.size + 1 by omega) (.int .i64 ov)).cell
    have f1 := u1.drew.frozen
    have f2 := u2.drew.frozen
    have f3 := u3.drew.frozen
    clear u1 u2 u3 ub un heq ho6 hb6 hs6 hll qn fn
    have hmix : Try.prog.follows .mixedOrders = true := by kernel_rfl
    refine wpIn_region_any (by assumption) ?_
    change wpAnyIn _ _ _ _ _ _ _ _ _ (World.drew _)
    refine wpAnyIn_ready (rs := [0, 1]) (by kernel_rfl) (by simp) ?_
    refine AllReadyIn.cons rfl (fun K hK => ?_) (AllReadyIn.cons rfl (fun K hK => ?_) AllReadyIn.nil)
    · go_simp
      refine hK _ _ ?_
      clear hK K
      refine wpAnyIn_ready (rs := [1, 2]) (by kernel_rfl) (by simp) ?_
      refine AllReadyIn.cons rfl (fun K hK => ?_) (AllReadyIn.cons rfl (fun K hK => ?_) AllReadyIn.nil)
      · go_simp
        refine hK _ _ ?_
        clear hK K
        refine wpAnyIn_ready (rs := [2]) (by kernel_rfl) (by simp) ?_
        refine AllReadyIn.cons rfl (fun K hK => ?_) AllReadyIn.nil
        · go_simp
          refine hK _ _ ?_
          clear hK K
          refine wpAnyIn_ready (rs := [3]) (by kernel_rfl) (by simp) ?_
          refine AllReadyIn.cons rfl (fun K hK => ?_) AllReadyIn.nil
          · go_simp
            refine hK _ _ ?_
            clear hK K
            refine wpAnyIn_ready (rs := [4]) (by kernel_rfl) (by simp) ?_
            refine AllReadyIn.cons rfl (fun K hK => ?_) AllReadyIn.nil
            · go_simp
              refine hK _ _ ?_
              clear hK K
              refine wpAnyIn_done (by kernel_rfl) ?_ _
              gi_wp2
              exact HEND.out
      · go_simp
        refine hK _ _ ?_
        clear hK K
        refine wpAnyIn_ready (rs := [1]) (by kernel_rfl) (by simp) ?_
        refine AllReadyIn.cons rfl (fun K hK => ?_) AllReadyIn.nil
        · go_simp
          refine hK _ _ ?_
          clear hK K
          refine wpAnyIn_ready (rs := [3]) (by kernel_rfl) (by simp) ?_
          refine AllReadyIn.cons rfl (fun K hK => ?_) AllReadyIn.nil
          · go_simp
            refine hK _ _ ?_
            clear hK K
            refine wpAnyIn_ready (rs := [4]) (by kernel_rfl) (by simp) ?_
            refine AllReadyIn.cons rfl (fun K hK => ?_) AllReadyIn.nil
            · go_simp
              refine hK _ _ ?_
              clear hK K
              refine wpAnyIn_done (by kernel_rfl) ?_ _
              gi_wp2
              exact HEND.out
    · go_simp
      refine hK _ _ ?_
      clear hK K
      refine wpAnyIn_ready (rs := [0]) (by kernel_rfl) (by simp) ?_
      refine AllReadyIn.cons rfl (fun K hK => ?_) AllReadyIn.nil
      · go_simp
        refine hK _ _ ?_
        clear hK K
        refine wpAnyIn_ready (rs := [2]) (by kernel_rfl) (by simp) ?_
        refine AllReadyIn.cons rfl (fun K hK => ?_) AllReadyIn.nil
        · go_simp
          refine hK _ _ ?_
          clear hK K
          refine wpAnyIn_ready (rs := [3]) (by kernel_rfl) (by simp) ?_
          refine AllReadyIn.cons rfl (fun K hK => ?_) AllReadyIn.nil
          · go_simp
            refine hK _ _ ?_
            clear hK K
            refine wpAnyIn_ready (rs := [4]) (by kernel_rfl) (by simp) ?_
            refine AllReadyIn.cons rfl (fun K hK => ?_) AllReadyIn.nil
            · go_simp
              refine hK _ _ ?_
              clear hK K
              refine wpAnyIn_done (by kernel_rfl) ?_ _
              gi_wp2
              exact HEND.out
  case done =>
    rintro D p r ys W hD hys ⟨⟨hpn, hbw⟩, _⟩ hdef
    have hw1 := UB.out.size
    have hnil : pickL al mk sz l = [] := hys.symm.trans hpn
    have k1 := U1.out.belowB hbw (by omega)
    have k2 := U2.out.belowB hbw (by omega)
    have k3 := U3.out.belowB hbw (by omega)
    have kn := UN.out.belowB hbw (by omega)
    have ko := owns_below UO.out hbw
    have kb := UB.out.trans (hbw.mono hw1)
    have HPN : Hid (FreshNone l mk lt ov w (.returned (.tuple #[.agg #[.slice a1 l.length c1, .int .i64 mk, .int .i64 lt, .int .i64 ov], .agg #[.int .i64 0, .int .i64 0, .int .i64 0, .int .i64 0, .int .i64 0, .int .i64 0], .bool false])) (((((((((((W.setCell ⟨w.heap.size + 1, 0, none⟩ (.slice a1 l.length c1)).setCell ⟨w.heap.size + 1, 1, none⟩ (.int .i64 mk)).setCell ⟨w.heap.size + 1, 2, none⟩ (.int .i64 lt)).setCell ⟨w.heap.size + 1, 3, none⟩ (.int .i64 ov)).setCell ⟨w.heap.size + 1 + 1, 0, none⟩ (.int .i64 0)).setCell ⟨w.heap.size + 1 + 1, 1, none⟩ (.int .i64 0)).setCell ⟨w.heap.size + 1 + 1, 2, none⟩ (.int .i64 0)).setCell ⟨w.heap.size + 1 + 1, 3, none⟩ (.int .i64 0)).setCell ⟨w.heap.size + 1 + 1, 4, none⟩ (.int .i64 0)).setCell ⟨w.heap.size + 1 + 1, 5, none⟩ (.int .i64 0)).setCell ⟨w.heap.size + 1 + 1 + 1, 0, none⟩ (.bool false))) := Lib.hid (none_puti a1 c1 ko k1 k3 kb HNE2.out)
    have q1 := k1.cell
    have q2 := k2.cell
    have q3 := k3.cell
    have qn := kn.cell
    have f1 := k1.frozen
    have f2 := k2.frozen
    have f3 := k3.frozen
    have HN2 := Lib.hid hnil
    have HK1 := Lib.hid k1
    have HK2 := Lib.hid k2
    have HK3 := Lib.hid k3
    have HKD := Lib.hid hdef
    clear k1 k2 k3 kn ko kb hnil hbw hpn hys hdef
    go_wp2
    rw [← HQ.out]
    have hd5 : (resTo w.heap.size (.slice a1 l.length c1) (.int .i64 mk) (.int .i64 lt) (.int .i64 ov) (.int .i64 0) (.int .i64 0) (.int .i64 0) (.int .i64 0) (.int .i64 0) (.int .i64 0) (.bool false) W).heap[D]? = some (.deferred (some [])) := (res_far (by omega)).trans HKD.out
    have hr5 := res_blk (v0 := .slice a1 l.length c1) (v1 := .int .i64 mk) (v2 := .int .i64 lt) (v3 := .int .i64 ov) (x0 := .int .i64 0) (x1 := .int .i64 0) (x2 := .int .i64 0) (x3 := .int .i64 0) (x4 := .int .i64 0) (x5 := .int .i64 0) (y := .bool false) HK1.out HK2.out HK3.out
    have hP5 : FreshNone l mk lt ov w (.returned (.tuple #[.agg #[.slice a1 l.length c1, .int .i64 mk, .int .i64 lt, .int .i64 ov], .agg #[.int .i64 0, .int .i64 0, .int .i64 0, .int .i64 0, .int .i64 0, .int .i64 0], .bool false])) (resTo w.heap.size (.slice a1 l.length c1) (.int .i64 mk) (.int .i64 lt) (.int .i64 ov) (.int .i64 0) (.int .i64 0) (.int .i64 0) (.int .i64 0) (.int .i64 0) (.int .i64 0) (.bool false) W) := HPN.out
    refine ⟨by simp, .inl ⟨_, _, rfl, run_takeDeferred (ds := []) hd5, ?_⟩⟩
    obtain ⟨W5, hW5⟩ : ∃ W5, W5 = resTo w.heap.size (.slice a1 l.length c1) (.int .i64 mk) (.int .i64 lt) (.int .i64 ov) (.int .i64 0) (.int .i64 0) (.int .i64 0) (.int .i64 0) (.int .i64 0) (.int .i64 0) (.bool false) W := ⟨_, rfl⟩
    rw [← hW5] at hd5 hr5 hP5
    rw [show (((((((((((W.setCell ⟨w.heap.size + 1, 0, none⟩ (.slice a1 l.length c1)).setCell ⟨w.heap.size + 1, 1, none⟩ (.int .i64 mk)).setCell ⟨w.heap.size + 1, 2, none⟩ (.int .i64 lt)).setCell ⟨w.heap.size + 1, 3, none⟩ (.int .i64 ov)).setCell ⟨w.heap.size + 1 + 1, 0, none⟩ (.int .i64 0)).setCell ⟨w.heap.size + 1 + 1, 1, none⟩ (.int .i64 0)).setCell ⟨w.heap.size + 1 + 1, 2, none⟩ (.int .i64 0)).setCell ⟨w.heap.size + 1 + 1, 3, none⟩ (.int .i64 0)).setCell ⟨w.heap.size + 1 + 1, 4, none⟩ (.int .i64 0)).setCell ⟨w.heap.size + 1 + 1, 5, none⟩ (.int .i64 0)).setCell ⟨w.heap.size + 1 + 1 + 1, 0, none⟩ (.bool false)) = W5 from hW5.symm]
    have hne : ∀ {k : Nat} {T : TypeId} {cs : Array Value}, Blk W5 k T cs → some k ≠ some D := fun hk e => by injection e with e; subst e; rw [show W5.heap[_]? = _ from hk] at hd5; cases hd5
    have g5 := grownBy_putObj' W5 D (.deferred none)
    have p1 := (hr5.1.grown g5 (hne hr5.1)).cell
    have p2 := (hr5.2.1.grown g5 (hne hr5.2.1)).cell
    have p3 := (hr5.2.2.grown g5 (hne hr5.2.2)).cell
    refine ⟨.tuple #[.agg #[.slice a1 l.length c1, .int .i64 mk, .int .i64 lt, .int .i64 ov], .agg #[.int .i64 0, .int .i64 0, .int .i64 0, .int .i64 0, .int .i64 0, .int .i64 0], .bool false], by simp [results, Try.results15, go_sem, p1, p2, p3], .inl ⟨HN2.out, ?_⟩⟩
    obtain ⟨a, c, e, o, b⟩ := hP5
    exact ⟨a, c, e, ownsRow_putObj o _ hd5 rfl, b.trans (belowK_b (w := w) (Nat.le_refl _) W5 D _ _ (by omega) hd5 rfl rfl)⟩
  case stop =>
    rintro D cc pre W hD _ ⟨⟨rfl, hpne⟩, hte⟩ hdef
    have hw1 := UB.out.size
    obtain ⟨W4, hW4⟩ : ∃ W4, W4 = W.putObj D (.deferred none) := ⟨_, rfl⟩
    have te := hte.kept (b := w3.heap.size) (by omega) (grownBy_putObj' W D (.deferred none)) (fun r e => by cases e; exact ⟨hD, _, hdef, rfl⟩)
    rw [← hW4] at te
    obtain ⟨⟨a9, c9, t1, t2⟩, t3, t4, t5⟩ := te
    have q1 := t1.cell
    have q2 := t3.cell
    have q3 := t4.cell
    have HKD := Lib.hid hdef
    have T2 := Lib.hid t2
    have T5 := Lib.hid t5
    clear t1 t2 t3 t4 t5 hte hdef
    gi_wp2
    rw [← HQ.out]
    refine ⟨by simp, .inl ⟨_, _, rfl, run_takeDeferred HKD.out, ?_⟩⟩
    rw [← hW4]
    refine ⟨.tuple #[.agg #[.slice a9 (l.drop 1).length c9, .int .i64 mk, .int .i64 lt, .int .i64 ov], .agg #[.int .i64 (ael l 0).win, .int .i64 (ael l 0).key, .int .i64 (ael l 0).cnt, .int .i64 (ael l 0).sum, .int .i64 (ael l 0).mn, .int .i64 (ael l 0).mx], .bool true], by simp [results, Try.results15, go_sem, q1, q2, q3], .inr ⟨hpne, a9, c9, rfl, T2.out, T5.out⟩⟩
end Go.Proofs.Ytnfhlfbkdhpacaa
