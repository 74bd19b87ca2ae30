/- impl.ParseSetup, where (fields).text has its contract. (made by tools/mkrd2.py) -/
import Derived.Test.YtalelcloppbhcaaDoorRd1
namespace Go.Proofs.YtalelcloppbhcaaDoor
open Go.RowKit

theorem ps_load_midG {P : Program} {ops : Array Oper} {rest : List Oper} {op : Oper} {a : Act} {w : World} {Q : Exit → Act → World → Prop} (hw : Region.wanted op (yielded ops a.tmps) = true) (ty : TypeId) (x : Operand) (ho : op.op = .load ty x)
    (b o : Nat) (hx : a.eval x = .pointer (some ⟨b, o, none⟩)) (cs : List Value) (d : TypeDesc) (hc : w.rangeAt b o cs)
    (hu : P.underlying ty = some d) (hd : d.isRow = true) (hi : (P.info? ty).map (·.size) = some cs.length)
    (h : wpList P ops Q rest (a.put op.dst (.agg cs.toArray)) w) : wpList P ops Q (op :: rest) a w := by
  unfold wpList
  rw [if_pos hw]
  exact .inl (wp_load_mid ty x ho b o hx cs d hc hu hd hi h)
set_option maxHeartbeats 2000000 in
set_option maxRecDepth 100000 in
theorem fieldsSetup_x (f0 f1 f2 f3 f4 f5 f6 f7 f8 : Int) (w : World) : Calls Tryd.prog 36 #[.agg #[.int .i64 f0, .int .i64 f1, .int .i64 f2, .int .i64 f3, .int .i64 f4, .int .i64 f5, .int .i64 f6, .int .i64 f7, .int .i64 f8]] w fun e w' => e = .returned (.agg #[.int .i64 f0, .int .i64 f1, .int .i64 f2, .int .i64 f3, .int .i64 f4, .int .i64 f5, .int .i64 f6, .int .i64 f7, .int .i64 f8]) ∧ Below w.heap.size w w' := by
  go_enter Tryd.func36, Tryd.ntmps36
  go_wp2
  exact bodyPost_ret (v := .agg #[.int .i64 f0, .int .i64 f1, .int .i64 f2, .int .i64 f3, .int .i64 f4, .int .i64 f5, .int .i64 f6, .int .i64 f7, .int .i64 f8]) (by simp [results, Tryd.results36, go_sem]) rfl ⟨rfl, ((Below.refl _ _).alloc (Nat.le_refl _) _).alloc (by simp) _⟩
set_option maxHeartbeats 4000000 in
set_option maxRecDepth 100000 in
theorem implPs_any (l : List UInt8) (hi : Nat) (w : World) (ht : Tabs w hi) (hB : hi ≤ w.heap.size)
    (htx : ∀ fs : List Int, fs.length = 9 → okL fs = true → ∀ W, Below w.heap.size w W → Calls Tryd.prog 33 #[.agg #[.int .i64 (el fs 0), .int .i64 (el fs 1), .int .i64 (el fs 2), .int .i64 (el fs 3), .int .i64 (el fs 4), .int .i64 (el fs 5), .int .i64 (el fs 6), .int .i64 (el fs 7), .int .i64 (el fs 8)]] W fun e w' => e = .returned (.string (str (psT fs))) ∧ Below W.heap.size W w') :
    Calls Tryd.prog 12 #[.string (str l)] w (PsPost l w) := by
  have INF : Hid ((Tryd.prog.info? 25).map (·.size) = some 9) := Lib.hid (by kernel_rfl)
  have INA : Hid ((Tryd.prog.info? 67).map (·.size) = some 9) := Lib.hid (by kernel_rfl)
  have K0 := Lib.hid (Blk.new w 25 #[.int .i64 0, .int .i64 0, .int .i64 0, .int .i64 0, .int .i64 0, .int .i64 0, .int .i64 0, .int .i64 0, .int .i64 0])
  have B0 := Lib.hid ((Below.refl w.heap.size w).alloc (Nat.le_refl _) (.cells #[.int .i64 0, .int .i64 0, .int .i64 0, .int .i64 0, .int .i64 0, .int .i64 0, .int .i64 0, .int .i64 0, .int .i64 0] 25))
  have HT := Lib.hid ht
  have HX := Lib.hid htx
  clear ht htx
  go_enter Tryd.func12, Tryd.ntmps12
  go_wp2_with fail
  refine (readF_x l hi _ (HT.out.below (B0.out.mono hB)) (Nat.le_trans hB B0.out.size)).mono ?_
  rintro e w1 ⟨fs, ok, rfl, hsm, huni, hb⟩
  have h9 : fs.length = 9 := hsm.1
  have H9 := Lib.hid h9
  have HU := Lib.hid huni
  have B1 := Lib.hid ((B0.out.trans (hb.mono B0.out.size)).alloc (B0.out.trans (hb.mono B0.out.size)).size (.cells #[.int .i64 (el fs 0), .int .i64 (el fs 1), .int .i64 (el fs 2), .int .i64 (el fs 3), .int .i64 (el fs 4), .int .i64 (el fs 5), .int .i64 (el fs 6), .int .i64 (el fs 7), .int .i64 (el fs 8)] 67))
  have K1 := Lib.hid ((K0.out.below hb).alloc (.cells #[.int .i64 (el fs 0), .int .i64 (el fs 1), .int .i64 (el fs 2), .int .i64 (el fs 3), .int .i64 (el fs 4), .int .i64 (el fs 5), .int .i64 (el fs 6), .int .i64 (el fs 7), .int .i64 (el fs 8)] 67))
  have F1 := Lib.hid (Blk.new w1 67 #[.int .i64 (el fs 0), .int .i64 (el fs 1), .int .i64 (el fs 2), .int .i64 (el fs 3), .int .i64 (el fs 4), .int .i64 (el fs 5), .int .i64 (el fs 6), .int .i64 (el fs 7), .int .i64 (el fs 8)])
  clear hb hsm huni h9
  go_wp2_with fail
  refine (fieldsSetup_x _ _ _ _ _ _ _ _ _ _).mono ?_
  rintro e w2 ⟨rfl, hb⟩
  have B2 := Lib.hid ((B1.out.trans (hb.mono B1.out.size)).alloc (B1.out.trans (hb.mono B1.out.size)).size (.cells #[.int .i64 (el fs 0), .int .i64 (el fs 1), .int .i64 (el fs 2), .int .i64 (el fs 3), .int .i64 (el fs 4), .int .i64 (el fs 5), .int .i64 (el fs 6), .int .i64 (el fs 7), .int .i64 (el fs 8)] 25))
  have K2 := Lib.hid ((K1.out.below hb).alloc (.cells #[.int .i64 (el fs 0), .int .i64 (el fs 1), .int .i64 (el fs 2), .int .i64 (el fs 3), .int .i64 (el fs 4), .int .i64 (el fs 5), .int .i64 (el fs 6), .int .i64 (el fs 7), .int .i64 (el fs 8)] 25))
  have F2 := Lib.hid ((F1.out.below hb).alloc (.cells #[.int .i64 (el fs 0), .int .i64 (el fs 1), .int .i64 (el fs 2), .int .i64 (el fs 3), .int .i64 (el fs 4), .int .i64 (el fs 5), .int .i64 (el fs 6), .int .i64 (el fs 7), .int .i64 (el fs 8)] 25))
  have S2 := Lib.hid (Blk.new w2 25 #[.int .i64 (el fs 0), .int .i64 (el fs 1), .int .i64 (el fs 2), .int .i64 (el fs 3), .int .i64 (el fs 4), .int .i64 (el fs 5), .int .i64 (el fs 6), .int .i64 (el fs 7), .int .i64 (el fs 8)])
  clear hb
  cases ok with
  | false =>
    have NX := Lib.hid ((fun vs h9 ho e => by have := (HU.out vs h9 ho e).2; cases this) : NoPs l)
    have TH : Hid (_) := Lib.hid (blk_there K2.out (by decide) : World.there _ w.heap.size 0 9)
    have KZ := Lib.hid (blk_full ([.int .i64 0, .int .i64 0, .int .i64 0, .int .i64 0, .int .i64 0, .int .i64 0, .int .i64 0, .int .i64 0, .int .i64 0] : List Value) K2.out rfl)
    have BZ := Lib.hid (below_setCells ([.int .i64 0, .int .i64 0, .int .i64 0, .int .i64 0, .int .i64 0, .int .i64 0, .int .i64 0, .int .i64 0, .int .i64 0] : List Value) (Nat.le_refl _) 0 B2.out)
    go_wp2_with (refine wpList_store_to rfl 25 _ _ rfl w.heap.size 0 #[.int .i64 0, .int .i64 0, .int .i64 0, .int .i64 0, .int .i64 0, .int .i64 0, .int .i64 0, .int .i64 0, .int .i64 0] rfl rfl TH.out INF.out (by simp [Value.oneCell']) rfl ?_)
    exact bodyPost_ret (results_cell_tmp Tryd.results12 _ _ w.heap.size 25 #[.int .i64 0, .int .i64 0, .int .i64 0, .int .i64 0, .int .i64 0, .int .i64 0, .int .i64 0, .int .i64 0, .int .i64 0] (0, 0) _ (.bool false) rfl rfl KZ.out Tryd.underlying25 rfl INF.out) rfl ⟨.inr ⟨NX.out, rfl⟩, BZ.out⟩
  | true =>
  have HSO : Hid (∀ W : World, Below w.heap.size w W → Calls Tryd.prog 31 #[.agg #[.int .i64 (el fs 0), .int .i64 (el fs 1), .int .i64 (el fs 2), .int .i64 (el fs 3), .int .i64 (el fs 4), .int .i64 (el fs 5), .int .i64 (el fs 6), .int .i64 (el fs 7), .int .i64 (el fs 8)]] W fun e w' => e = .returned (.bool (okL fs)) ∧ Below W.heap.size W w') := Lib.hid (fun W hW => implSetOk_x _ _ _ _ _ _ _ _ _ hi W (HT.out.below (hW.mono hB)) (Nat.le_trans hB hW.size))
  go_wp2_with fail
  refine (HSO.out _ B2.out).mono ?_
  rintro e w3 ⟨rfl, hb⟩
  have B3 := Lib.hid (B2.out.trans (hb.mono B2.out.size))
  have K3 := Lib.hid (K2.out.below hb)
  have F3 := Lib.hid (F2.out.below hb)
  have S3 := Lib.hid (S2.out.below hb)
  clear hb
  cases ho : okL fs with
  | false =>
    have HO := Lib.hid ho
    clear ho
    have NX := Lib.hid ((fun vs h9 ho e => by have h1 := (HU.out vs h9 ho e).1; rw [← h1, HO.out] at ho; cases ho) : NoPs l)
    have TH : Hid (_) := Lib.hid (blk_there K3.out (by decide) : World.there _ w.heap.size 0 9)
    have KZ := Lib.hid (blk_full ([.int .i64 0, .int .i64 0, .int .i64 0, .int .i64 0, .int .i64 0, .int .i64 0, .int .i64 0, .int .i64 0, .int .i64 0] : List Value) K3.out rfl)
    have BZ := Lib.hid (below_setCells ([.int .i64 0, .int .i64 0, .int .i64 0, .int .i64 0, .int .i64 0, .int .i64 0, .int .i64 0, .int .i64 0, .int .i64 0] : List Value) (Nat.le_refl _) 0 B3.out)
    go_wp2_with (refine wpList_store_to rfl 25 _ _ rfl w.heap.size 0 #[.int .i64 0, .int .i64 0, .int .i64 0, .int .i64 0, .int .i64 0, .int .i64 0, .int .i64 0, .int .i64 0, .int .i64 0] rfl rfl TH.out INF.out (by simp [Value.oneCell']) rfl ?_)
    exact bodyPost_ret (results_cell_tmp Tryd.results12 _ _ w.heap.size 25 #[.int .i64 0, .int .i64 0, .int .i64 0, .int .i64 0, .int .i64 0, .int .i64 0, .int .i64 0, .int .i64 0, .int .i64 0] (0, 0) _ (.bool false) rfl rfl KZ.out Tryd.underlying25 rfl INF.out) rfl ⟨.inr ⟨NX.out, rfl⟩, BZ.out⟩
  | true =>
  have HO := Lib.hid ho
  clear ho
  have hxf := HX.out fs H9.out HO.out
  obtain ⟨T, hT0⟩ : ∃ T, T = psT fs := ⟨_, rfl⟩
  rw [← hT0] at hxf
  have HXF := Lib.hid hxf
  have HT0 := Lib.hid hT0
  clear hxf hT0 HX
  have RG3 := Lib.hid (range_blk F3.out)
  go_wp2_with (refine ps_load_midG (by kernel_rfl) 67 _ rfl w1.heap.size 0 rfl [.int .i64 (el fs 0), .int .i64 (el fs 1), .int .i64 (el fs 2), .int .i64 (el fs 3), .int .i64 (el fs 4), .int .i64 (el fs 5), .int .i64 (el fs 6), .int .i64 (el fs 7), .int .i64 (el fs 8)] _ RG3.out Tryd.underlying67 rfl INA.out ?_)
  refine (HXF.out _ B3.out).mono ?_
  rintro e w4 ⟨rfl, hb⟩
  have B4 := Lib.hid (B3.out.trans (hb.mono B3.out.size))
  have K4 := Lib.hid (K3.out.below hb)
  have S4 := Lib.hid (S3.out.below hb)
  clear hb
  by_cases hT : T = l
  · have HTT := Lib.hid hT
    have hne : ((str T).toList == (str l).toList) = true := by rw [beq_str, hT]; simp
    clear hT
    have RG4 := Lib.hid (range_blk S4.out)
    have TH : Hid (_) := Lib.hid (blk_there K4.out (by decide) : World.there _ w.heap.size 0 9)
    have KZ := Lib.hid (blk_full ([.int .i64 (el fs 0), .int .i64 (el fs 1), .int .i64 (el fs 2), .int .i64 (el fs 3), .int .i64 (el fs 4), .int .i64 (el fs 5), .int .i64 (el fs 6), .int .i64 (el fs 7), .int .i64 (el fs 8)] : List Value) K4.out rfl)
    have BZ := Lib.hid (below_setCells ([.int .i64 (el fs 0), .int .i64 (el fs 1), .int .i64 (el fs 2), .int .i64 (el fs 3), .int .i64 (el fs 4), .int .i64 (el fs 5), .int .i64 (el fs 6), .int .i64 (el fs 7), .int .i64 (el fs 8)] : List Value) (Nat.le_refl _) 0 B4.out)
    go_wp2_with (first | (refine wpList_store_to rfl 25 _ _ rfl w.heap.size 0 #[.int .i64 (el fs 0), .int .i64 (el fs 1), .int .i64 (el fs 2), .int .i64 (el fs 3), .int .i64 (el fs 4), .int .i64 (el fs 5), .int .i64 (el fs 6), .int .i64 (el fs 7), .int .i64 (el fs 8)] rfl rfl TH.out INF.out (by simp [Value.oneCell']) rfl ?_) | (refine wpList_load_mid rfl 25 _ rfl w2.heap.size 0 rfl [.int .i64 (el fs 0), .int .i64 (el fs 1), .int .i64 (el fs 2), .int .i64 (el fs 3), .int .i64 (el fs 4), .int .i64 (el fs 5), .int .i64 (el fs 6), .int .i64 (el fs 7), .int .i64 (el fs 8)] _ RG4.out Tryd.underlying25 rfl INF.out ?_))
    exact bodyPost_ret (results_cell_tmp Tryd.results12 _ _ w.heap.size 25 #[.int .i64 (el fs 0), .int .i64 (el fs 1), .int .i64 (el fs 2), .int .i64 (el fs 3), .int .i64 (el fs 4), .int .i64 (el fs 5), .int .i64 (el fs 6), .int .i64 (el fs 7), .int .i64 (el fs 8)] (0, 0) _ (.bool true) rfl rfl KZ.out Tryd.underlying25 rfl INF.out) rfl ⟨.inl ⟨fs, H9.out, HO.out, HTT.out.symm.trans HT0.out, rfl⟩, BZ.out⟩
  · have hne : ((str T).toList == (str l).toList) = false := by rw [beq_str]; simp [hT]
    have HTN := Lib.hid hT
    clear hT
    have NX := Lib.hid ((fun vs h9 ho e => HTN.out (by rw [HT0.out, (HU.out vs h9 ho e).1]; exact e.symm)) : NoPs l)
    have TH : Hid (_) := Lib.hid (blk_there K4.out (by decide) : World.there _ w.heap.size 0 9)
    have KZ := Lib.hid (blk_full ([.int .i64 0, .int .i64 0, .int .i64 0, .int .i64 0, .int .i64 0, .int .i64 0, .int .i64 0, .int .i64 0, .int .i64 0] : List Value) K4.out rfl)
    have BZ := Lib.hid (below_setCells ([.int .i64 0, .int .i64 0, .int .i64 0, .int .i64 0, .int .i64 0, .int .i64 0, .int .i64 0, .int .i64 0, .int .i64 0] : List Value) (Nat.le_refl _) 0 B4.out)
    go_wp2_with (refine wpList_store_to rfl 25 _ _ rfl w.heap.size 0 #[.int .i64 0, .int .i64 0, .int .i64 0, .int .i64 0, .int .i64 0, .int .i64 0, .int .i64 0, .int .i64 0, .int .i64 0] rfl rfl TH.out INF.out (by simp [Value.oneCell']) rfl ?_)
    exact bodyPost_ret (results_cell_tmp Tryd.results12 _ _ w.heap.size 25 #[.int .i64 0, .int .i64 0, .int .i64 0, .int .i64 0, .int .i64 0, .int .i64 0, .int .i64 0, .int .i64 0, .int .i64 0] (0, 0) _ (.bool false) rfl rfl KZ.out Tryd.underlying25 rfl INF.out) rfl ⟨.inr ⟨NX.out, rfl⟩, BZ.out⟩
end Go.Proofs.YtalelcloppbhcaaDoor
