/- The text of an engine: plain; spec.EngineText. (made by tools/mkengt.py) -/
import Derived.Test.YtddanfpiecgcgaaDoorEngCnt
import Derived.Test.YtddanfpiecgcgaaDoorOpenBase
import Derived.Test.YtddanfpiecgcgaaDoorNum
import Derived.Test.YtddanfpiecgcgaaDoorHead2
import Derived.Deep.MidRow
import Derived.Deep.RegionHeld3
import Derived.StillTailTactics
import Derived.Lib.ItoaLen
namespace Go.Proofs.YtddanfpiecgcgaaDoor
open Go.RowKit

/-- Two texts joined by '+'. -/
theorem exec_add {P : Program} {ev : Operand → Value} {o : Oper} (ty ty2 : TypeId) (x y : Operand) (l m u : List UInt8) (ho : o.op = .binOp .add ty x y ty2) (hx : ev x = .string (str l)) (hy : ev y = .string (str m)) (hu : u = l ++ m) (hs : l.length + m.length ≤ 1000000) (W : World) :
    (execOp ev o).run P W = .ok (.value (.string (str u))) W := by
  have k1 : ¬ (9223372036854775807 < l.length + m.length) := by omega

  subst hu
  unfold execOp
  simp [ho, hx, hy, go_sem, k1]
/-- The word for a mode. -/
def nmM (m : Int) : List UInt8 := if m = 0 then [114, 117, 110, 115] else if m = 1 then [100, 114, 97, 105, 110, 115] else [100, 114, 97, 105, 110, 101, 100]
def engT (E : En) : List UInt8 := if inB E.mode 0 2 = true then nmM E.mode ++ [32, 109, 97, 114, 107, 32] ++ Lib.itoa E.mark ++ [32, 105, 110, 32] ++ Lib.itoa (E.inq.length : Int) ++ [32, 113, 117, 101, 117, 101, 100, 32] ++ Lib.itoa ((totH hdMq ([] : List Mq) E.qs E.qs.length : Nat) : Int) ++ [32, 104, 101, 108, 100, 32] ++ Lib.itoa ((totH hdSh shD E.sh E.sh.length : Nat) : Int) ++ [32, 111, 117, 116, 32] ++ Lib.itoa (E.out.length : Int) ++ [32, 114, 101, 97, 100, 32] ++ Lib.itoa E.t0 ++ [32, 116, 97, 107, 101, 110, 32] ++ Lib.itoa E.t1 ++ [32, 108, 97, 116, 101, 32] ++ Lib.itoa E.t2 ++ [32, 111, 118, 101, 114, 32] ++ Lib.itoa E.t3 else []
theorem engT_no {E : En} (h : inB E.mode 0 2 = false) : engT E = [] := by simp [engT, h]
theorem engT_yes {E : En} (h : inB E.mode 0 2 = true) : engT E = nmM E.mode ++ [32, 109, 97, 114, 107, 32] ++ Lib.itoa E.mark ++ [32, 105, 110, 32] ++ Lib.itoa (E.inq.length : Int) ++ [32, 113, 117, 101, 117, 101, 100, 32] ++ Lib.itoa ((totH hdMq ([] : List Mq) E.qs E.qs.length : Nat) : Int) ++ [32, 104, 101, 108, 100, 32] ++ Lib.itoa ((totH hdSh shD E.sh E.sh.length : Nat) : Int) ++ [32, 111, 117, 116, 32] ++ Lib.itoa (E.out.length : Int) ++ [32, 114, 101, 97, 100, 32] ++ Lib.itoa E.t0 ++ [32, 116, 97, 107, 101, 110, 32] ++ Lib.itoa E.t1 ++ [32, 108, 97, 116, 101, 32] ++ Lib.itoa E.t2 ++ [32, 111, 118, 101, 114, 32] ++ Lib.itoa E.t3 := by unfold engT; rw [if_pos h]
theorem nmM_len (m : Int) : (nmM m).length ≤ 7 := by unfold nmM; split <;> (try split) <;> decide
/-- All that the text tells is told by a number of 64 bits. -/
def En64T (E : En) : Prop := Is64 E.mark ∧ Is64 E.t0 ∧ Is64 E.t1 ∧ Is64 E.t2 ∧ Is64 E.t3
set_option maxHeartbeats 16000000 in
set_option maxRecDepth 100000 in
theorem specEngT_any (E : En) (q : Pl) (L : List Value) (w : World) (hL : L = evL E q) (hr : EnR w w.heap.size q E) (hf : EnFits E) (h64 : En64T E) :
    Calls Tryd.prog 8 #[.agg L.toArray] w fun e w' => e = .returned (.string (str (engT E))) ∧ Below w.heap.size w w' := by
  have k0 := Blk.new w 44 L.toArray
  have b0 := (Below.refl w.heap.size w).alloc (Nat.le_refl _) (.cells L.toArray 44)
  have n0 := Blk.new (w.alloc (.cells L.toArray 44)) 9 #[.string ⟨#[114, 117, 110, 115]⟩, .string ⟨#[100, 114, 97, 105, 110, 115]⟩, .string ⟨#[100, 114, 97, 105, 110, 101, 100]⟩]
  rw [World.size_alloc] at n0
  have b1 := b0.alloc b0.size (.cells #[.string ⟨#[114, 117, 110, 115]⟩, .string ⟨#[100, 114, 97, 105, 110, 115]⟩, .string ⟨#[100, 114, 97, 105, 110, 101, 100]⟩] 9)
  have k1 := k0.alloc (.cells #[.string ⟨#[114, 117, 110, 115]⟩, .string ⟨#[100, 114, 97, 105, 110, 115]⟩, .string ⟨#[100, 114, 97, 105, 110, 101, 100]⟩] 9)
  have t0 := Blk.new ((w.alloc (.cells L.toArray 44)).alloc (.cells #[.string ⟨#[114, 117, 110, 115]⟩, .string ⟨#[100, 114, 97, 105, 110, 115]⟩, .string ⟨#[100, 114, 97, 105, 110, 101, 100]⟩] 9)) 42 #[.int .i64 E.t0, .int .i64 E.t1, .int .i64 E.t2, .int .i64 E.t3, .int .i64 E.t4, .int .i64 E.t5]
  rw [World.size_alloc, World.size_alloc] at t0
  have b2 := b1.alloc b1.size (.cells #[.int .i64 E.t0, .int .i64 E.t1, .int .i64 E.t2, .int .i64 E.t3, .int .i64 E.t4, .int .i64 E.t5] 42)
  have BN := Lib.hid b1
  have KK0 := Lib.hid (k1.alloc (.cells #[.int .i64 E.t0, .int .i64 E.t1, .int .i64 E.t2, .int .i64 E.t3, .int .i64 E.t4, .int .i64 E.t5] 42)).drew
  have NN0 := Lib.hid (n0.alloc (.cells #[.int .i64 E.t0, .int .i64 E.t1, .int .i64 E.t2, .int .i64 E.t3, .int .i64 E.t4, .int .i64 E.t5] 42)).drew
  have TT0 := Lib.hid t0.drew
  have BB0 := Lib.hid b2.drew
  have hlen : L.length = 24 := by rw [hL]; rfl
  have IL : Hid ((Tryd.prog.info? 44).map (·.size) = some L.length) := Lib.hid (by rw [hlen]; kernel_rfl)
  have HR := Lib.hid hr
  have HQ := Lib.hid (fun (W : World) (hb : Below w.heap.size w W) => specQd_any E q L W hL ((hr.below hb).more hb.size) hf)
  have HH := Lib.hid (fun (W : World) (hb : Below w.heap.size w W) => specHd_any E q L W hL ((hr.below hb).more hb.size) hf)
  have HM := Lib.hid (fun W => specIn_any E.mode 0 2 W)
  have m1 := hr.inq.cap
  have m2 := hr.inq.big
  have m3 := hr.out.cap
  have m4 := hr.out.big
  unfold EnFits at hf
  obtain ⟨z0, z5, z6, z7, z8⟩ := h64
  have z2 : Is64 ((totH hdMq ([] : List Mq) E.qs E.qs.length : Nat) : Int) := by unfold Is64; omega
  have z3 : Is64 ((totH hdSh shD E.sh E.sh.length : Nat) : Int) := by unfold Is64; omega
  have z1 : Is64 (E.inq.length : Int) := by unfold Is64; omega
  have z4 : Is64 (E.out.length : Int) := by unfold Is64; omega
  unfold Is64 at z0 z1 z2 z3 z4 z5 z6 z7 z8
  have e10 : L.toArray[10]? = some (.int .i64 E.mode) := by rw [hL]; rfl
  have e16 : L.toArray[16]? = some (.int .i64 E.mark) := by rw [hL]; rfl
  have e12 : L.toArray[12]? = some (.slice q.a1 E.inq.length q.c1) := by rw [hL]; rfl
  have e15 : L.toArray[15]? = some (.slice q.a4 E.out.length q.c4) := by rw [hL]; rfl
  have e18 : L.toArray[18]? = some (.int .i64 E.t0) := by rw [hL]; rfl
  have e19 : L.toArray[19]? = some (.int .i64 E.t1) := by rw [hL]; rfl
  have e20 : L.toArray[20]? = some (.int .i64 E.t2) := by rw [hL]; rfl
  have e21 : L.toArray[21]? = some (.int .i64 E.t3) := by rw [hL]; rfl
  have e22 : L.toArray[22]? = some (.int .i64 E.t4) := by rw [hL]; rfl
  have e23 : L.toArray[23]? = some (.int .i64 E.t5) := by rw [hL]; rfl
  have E10 := Lib.hid e10
  have E12 := Lib.hid e12
  have E15 := Lib.hid e15
  have E16 := Lib.hid e16
  have c10 := (k1.cell 10).trans e10
  have c18 := (k1.cell 18).trans e18
  have c19 := (k1.cell 19).trans e19
  have c20 := (k1.cell 20).trans e20
  have c21 := (k1.cell 21).trans e21
  have c22 := (k1.cell 22).trans e22
  have c23 := (k1.cell 23).trans e23
  clear hr hL k0 k1 n0 t0 b0 b1 b2 hlen hf e10 e12 e15 e16 e18 e19 e20 e21 e22 e23
  cases hm : inB E.mode 0 2 with
  | false =>
    rw [engT_no hm]
    rw [hm] at HM
    clear hm
    go_enter Tryd.func8, Tryd.ntmps8
    go_wp2_with fail
    refine (HM.out _).mono ?_
    rintro e w1 ⟨rfl, rfl⟩
    go_wp2
    go_ret
    exact ⟨rfl, BN.out⟩
  | true =>
    rw [engT_yes hm]
    have hmb := inB_bd hm
    rw [hm] at HM
    clear hm
    have N0 := Lib.hid (fun W => num_any E.mark z0.1 z0.2 W)
    have l0 := Lib.itoa_length_le E.mark z0.1 z0.2
    have N1 := Lib.hid (fun W => num_any (E.inq.length : Int) z1.1 z1.2 W)
    have l1 := Lib.itoa_length_le (E.inq.length : Int) z1.1 z1.2
    have N2 := Lib.hid (fun W => num_any ((totH hdMq ([] : List Mq) E.qs E.qs.length : Nat) : Int) z2.1 z2.2 W)
    have l2 := Lib.itoa_length_le ((totH hdMq ([] : List Mq) E.qs E.qs.length : Nat) : Int) z2.1 z2.2
    have N3 := Lib.hid (fun W => num_any ((totH hdSh shD E.sh E.sh.length : Nat) : Int) z3.1 z3.2 W)
    have l3 := Lib.itoa_length_le ((totH hdSh shD E.sh E.sh.length : Nat) : Int) z3.1 z3.2
    have N4 := Lib.hid (fun W => num_any (E.out.length : Int) z4.1 z4.2 W)
    have l4 := Lib.itoa_length_le (E.out.length : Int) z4.1 z4.2
    have N5 := Lib.hid (fun W => num_any E.t0 z5.1 z5.2 W)
    have l5 := Lib.itoa_length_le E.t0 z5.1 z5.2
    have N6 := Lib.hid (fun W => num_any E.t1 z6.1 z6.2 W)
    have l6 := Lib.itoa_length_le E.t1 z6.1 z6.2
    have N7 := Lib.hid (fun W => num_any E.t2 z7.1 z7.2 W)
    have l7 := Lib.itoa_length_le E.t2 z7.1 z7.2
    have N8 := Lib.hid (fun W => num_any E.t3 z8.1 z8.2 W)
    have l8 := Lib.itoa_length_le E.t3 z8.1 z8.2
    clear z0 z1 z2 z3 z4 z5 z6 z7 z8
    generalize Lib.itoa E.mark = t0 at N0 l0 ⊢
    generalize Lib.itoa (E.inq.length : Int) = t1 at N1 l1 ⊢
    generalize Lib.itoa ((totH hdMq ([] : List Mq) E.qs E.qs.length : Nat) : Int) = t2 at N2 l2 ⊢
    generalize Lib.itoa ((totH hdSh shD E.sh E.sh.length : Nat) : Int) = t3 at N3 l3 ⊢
    generalize Lib.itoa (E.out.length : Int) = t4 at N4 l4 ⊢
    generalize Lib.itoa E.t0 = t5 at N5 l5 ⊢
    generalize Lib.itoa E.t1 = t6 at N6 l6 ⊢
    generalize Lib.itoa E.t2 = t7 at N7 l7 ⊢
    generalize Lib.itoa E.t3 = t8 at N8 l8 ⊢
    generalize ((totH hdMq ([] : List Mq) E.qs E.qs.length : Nat) : Int) = vq at HQ N2
    generalize ((totH hdSh shD E.sh E.sh.length : Nat) : Int) = vh at HH N3
    have hnl := nmM_len E.mode
    obtain ⟨m, hm, hm3⟩ : ∃ m : Nat, E.mode = (m : Int) ∧ m < 3 := ⟨E.mode.toNat, by omega, by omega⟩
    have NF : Hid (∀ W : World, Blk W (w.heap.size + 1) 9 #[.string ⟨#[114, 117, 110, 115]⟩, .string ⟨#[100, 114, 97, 105, 110, 115]⟩, .string ⟨#[100, 114, 97, 105, 110, 101, 100]⟩] → W.cell? ⟨w.heap.size + 1, m, none⟩ = some (.string (str (nmM E.mode)))) := Lib.hid (fun W hn => by
      rw [hn.cell, hm]
      have h3 : m = 0 ∨ m = 1 ∨ m = 2 := by omega
      rcases h3 with rfl | rfl | rfl <;> rfl)
    have E10m : Hid (L.toArray[10]? = some (.int .i64 (m : Int))) := Lib.hid (by rw [← hm]; exact E10.out)
    rw [hm] at HM c10
    generalize nmM E.mode = nm at hnl NF ⊢
    clear hm hmb E10
    have hmi : (m : Int) < 3 := by omega
    have HMI := Lib.hid hmi
    obtain ⟨u0, hu0⟩ : ∃ u, u = nm ++ [32, 109, 97, 114, 107, 32] := ⟨_, rfl⟩
    have L0 : u0.length ≤ 13 := by rw [hu0, List.length_append]; simp only [List.length_cons, List.length_nil]; omega
    obtain ⟨u1, hu1⟩ : ∃ u, u = u0 ++ t0 := ⟨_, rfl⟩
    have L1 : u1.length ≤ 34 := by rw [hu1, List.length_append]; omega
    obtain ⟨u2, hu2⟩ : ∃ u, u = u1 ++ [32, 105, 110, 32] := ⟨_, rfl⟩
    have L2 : u2.length ≤ 38 := by rw [hu2, List.length_append]; simp only [List.length_cons, List.length_nil]; omega
    obtain ⟨u3, hu3⟩ : ∃ u, u = u2 ++ t1 := ⟨_, rfl⟩
    have L3 : u3.length ≤ 59 := by rw [hu3, List.length_append]; omega
    obtain ⟨u4, hu4⟩ : ∃ u, u = u3 ++ [32, 113, 117, 101, 117, 101, 100, 32] := ⟨_, rfl⟩
    have L4 : u4.length ≤ 67 := by rw [hu4, List.length_append]; simp only [List.length_cons, List.length_nil]; omega
    obtain ⟨u5, hu5⟩ : ∃ u, u = u4 ++ t2 := ⟨_, rfl⟩
    have L5 : u5.length ≤ 88 := by rw [hu5, List.length_append]; omega
    obtain ⟨u6, hu6⟩ : ∃ u, u = u5 ++ [32, 104, 101, 108, 100, 32] := ⟨_, rfl⟩
    have L6 : u6.length ≤ 94 := by rw [hu6, List.length_append]; simp only [List.length_cons, List.length_nil]; omega
    obtain ⟨u7, hu7⟩ : ∃ u, u = u6 ++ t3 := ⟨_, rfl⟩
    have L7 : u7.length ≤ 115 := by rw [hu7, List.length_append]; omega
    obtain ⟨u8, hu8⟩ : ∃ u, u = u7 ++ [32, 111, 117, 116, 32] := ⟨_, rfl⟩
    have L8 : u8.length ≤ 120 := by rw [hu8, List.length_append]; simp only [List.length_cons, List.length_nil]; omega
    obtain ⟨u9, hu9⟩ : ∃ u, u = u8 ++ t4 := ⟨_, rfl⟩
    have L9 : u9.length ≤ 141 := by rw [hu9, List.length_append]; omega
    obtain ⟨u10, hu10⟩ : ∃ u, u = u9 ++ [32, 114, 101, 97, 100, 32] := ⟨_, rfl⟩
    have L10 : u10.length ≤ 147 := by rw [hu10, List.length_append]; simp only [List.length_cons, List.length_nil]; omega
    obtain ⟨u11, hu11⟩ : ∃ u, u = u10 ++ t5 := ⟨_, rfl⟩
    have L11 : u11.length ≤ 168 := by rw [hu11, List.length_append]; omega
    obtain ⟨u12, hu12⟩ : ∃ u, u = u11 ++ [32, 116, 97, 107, 101, 110, 32] := ⟨_, rfl⟩
    have L12 : u12.length ≤ 175 := by rw [hu12, List.length_append]; simp only [List.length_cons, List.length_nil]; omega
    obtain ⟨u13, hu13⟩ : ∃ u, u = u12 ++ t6 := ⟨_, rfl⟩
    have L13 : u13.length ≤ 196 := by rw [hu13, List.length_append]; omega
    obtain ⟨u14, hu14⟩ : ∃ u, u = u13 ++ [32, 108, 97, 116, 101, 32] := ⟨_, rfl⟩
    have L14 : u14.length ≤ 202 := by rw [hu14, List.length_append]; simp only [List.length_cons, List.length_nil]; omega
    obtain ⟨u15, hu15⟩ : ∃ u, u = u14 ++ t7 := ⟨_, rfl⟩
    have L15 : u15.length ≤ 223 := by rw [hu15, List.length_append]; omega
    obtain ⟨u16, hu16⟩ : ∃ u, u = u15 ++ [32, 111, 118, 101, 114, 32] := ⟨_, rfl⟩
    have L16 : u16.length ≤ 229 := by rw [hu16, List.length_append]; simp only [List.length_cons, List.length_nil]; omega
    obtain ⟨u17, hu17⟩ : ∃ u, u = u16 ++ t8 := ⟨_, rfl⟩
    have L17 : u17.length ≤ 250 := by rw [hu17, List.length_append]; omega
    rw [← hu0]
    rw [← hu1]
    rw [← hu2]
    rw [← hu3]
    rw [← hu4]
    rw [← hu5]
    rw [← hu6]
    rw [← hu7]
    rw [← hu8]
    rw [← hu9]
    rw [← hu10]
    rw [← hu11]
    rw [← hu12]
    rw [← hu13]
    rw [← hu14]
    rw [← hu15]
    rw [← hu16]
    rw [← hu17]
    have U0 := Lib.hid hu0
    have U1 := Lib.hid hu1
    have U2 := Lib.hid hu2
    have U3 := Lib.hid hu3
    have U4 := Lib.hid hu4
    have U5 := Lib.hid hu5
    have U6 := Lib.hid hu6
    have U7 := Lib.hid hu7
    have U8 := Lib.hid hu8
    have U9 := Lib.hid hu9
    have U10 := Lib.hid hu10
    have U11 := Lib.hid hu11
    have U12 := Lib.hid hu12
    have U13 := Lib.hid hu13
    have U14 := Lib.hid hu14
    have U15 := Lib.hid hu15
    have U16 := Lib.hid hu16
    have U17 := Lib.hid hu17
    clear hu0 hu1 hu2 hu3 hu4 hu5 hu6 hu7 hu8 hu9 hu10 hu11 hu12 hu13 hu14 hu15 hu16 hu17
    go_enter Tryd.func8, Tryd.ntmps8
    go_wp2_with fail
    refine (HM.out _).mono ?_
    rintro e w1 ⟨rfl, rfl⟩
    go_wp2_with fail
    have KK := KK0
    have NN := NN0
    have TT := TT0
    have BB := BB0
    have y0 := And.intro KK.out (And.intro NN.out TT.out)
    have hund : Tryd.prog.underlying 44 = some _ := Tryd.underlying44
    refine wp_region_held_drew (S := fun W => Blk W w.heap.size 44 L.toArray ∧ Blk W (w.heap.size + 1) 9 #[.string ⟨#[114, 117, 110, 115]⟩, .string ⟨#[100, 114, 97, 105, 110, 115]⟩, .string ⟨#[100, 114, 97, 105, 110, 101, 100]⟩] ∧ Blk W (w.heap.size + 2) 42 #[.int .i64 E.t0, .int .i64 E.t1, .int .i64 E.t2, .int .i64 E.t3, .int .i64 E.t4, .int .i64 E.t5]) (by kernel_rfl) y0 (fun hHeld => ?_)
    refine' wpAnyH_take (i := 0) (oi := ⟨some 12, _, _, _, _, _⟩) (v := .slice (some ⟨w.heap.size + 1, 0, none⟩) 3 3) rfl (by kernel_rfl) (by kernel_rfl) (by kernel_rfl) (fun _ _ _ h => h) (.inl ⟨by kernel_rfl, fun W hW => by go_simp⟩) hHeld ?_
    simp only [Act.put, List.setIfInBounds_toArray, List.set_cons_zero, List.set_cons_succ]
    refine' wpAnyH_take (i := 1) (oi := ⟨some 13, _, _, _, _, _⟩) (v := .pointer (some ⟨w.heap.size, 10, none⟩)) rfl (by kernel_rfl) (by kernel_rfl) (by kernel_rfl) (fun _ _ _ h => h) (.inl ⟨by kernel_rfl, fun W hW => by go_simp⟩) hHeld ?_
    simp only [Act.put, List.setIfInBounds_toArray, List.set_cons_zero, List.set_cons_succ]
    refine' wpAnyH_take (i := 2) (oi := ⟨some 14, _, _, _, _, _⟩) (v := .int .i64 (m : Int)) rfl (by kernel_rfl) (by kernel_rfl) (by kernel_rfl) (fun _ _ _ h => h) (.inl ⟨by kernel_rfl, fun W hW => by obtain ⟨hk, hn, ht⟩ := hW; have g10 := (hk.cell 10).trans E10m.out; go_simp⟩) hHeld ?_
    simp only [Act.put, List.setIfInBounds_toArray, List.set_cons_zero, List.set_cons_succ]
    refine' wpAnyH_take (i := 3) (oi := ⟨some 15, _, _, _, _, _⟩) (v := .pointer (some ⟨w.heap.size + 1, m, none⟩)) rfl (by kernel_rfl) (by kernel_rfl) (by kernel_rfl) (fun _ _ _ h => h) (.inl ⟨by kernel_rfl, fun W hW => by go_simp⟩) hHeld ?_
    simp only [Act.put, List.setIfInBounds_toArray, List.set_cons_zero, List.set_cons_succ]
    refine' wpAnyH_take (i := 4) (oi := ⟨some 16, _, _, _, _, _⟩) (v := .string (str nm)) rfl (by kernel_rfl) (by kernel_rfl) (by kernel_rfl) (fun _ _ _ h => h) (.inl ⟨by kernel_rfl, fun W hW => by obtain ⟨hk, hn, ht⟩ := hW; have gn := NF.out _ hn; go_simp⟩) hHeld ?_
    simp only [Act.put, List.setIfInBounds_toArray, List.set_cons_zero, List.set_cons_succ]
    refine' wpAnyH_take (i := 6) (oi := ⟨some 18, _, _, _, _, _⟩) (v := .pointer (some ⟨w.heap.size, 16, none⟩)) rfl (by kernel_rfl) (by kernel_rfl) (by kernel_rfl) (fun _ _ _ h => h) (.inl ⟨by kernel_rfl, fun W hW => by go_simp⟩) hHeld ?_
    simp only [Act.put, List.setIfInBounds_toArray, List.set_cons_zero, List.set_cons_succ]
    refine' wpAnyH_take (i := 7) (oi := ⟨some 19, _, _, _, _, _⟩) (v := .int .i64 E.mark) rfl (by kernel_rfl) (by kernel_rfl) (by kernel_rfl) (fun _ _ _ h => h) (.inl ⟨by kernel_rfl, fun W hW => by obtain ⟨hk, hn, ht⟩ := hW; have g16 := (hk.cell 16).trans E16.out; go_simp⟩) hHeld ?_
    simp only [Act.put, List.setIfInBounds_toArray, List.set_cons_zero, List.set_cons_succ]
    refine' wpAnyH_take (i := 11) (oi := ⟨some 23, _, _, _, _, _⟩) (v := .pointer (some ⟨w.heap.size, 12, none⟩)) rfl (by kernel_rfl) (by kernel_rfl) (by kernel_rfl) (fun _ _ _ h => h) (.inl ⟨by kernel_rfl, fun W hW => by go_simp⟩) hHeld ?_
    simp only [Act.put, List.setIfInBounds_toArray, List.set_cons_zero, List.set_cons_succ]
    refine' wpAnyH_take (i := 12) (oi := ⟨some 24, _, _, _, _, _⟩) (v := .slice q.a1 E.inq.length q.c1) rfl (by kernel_rfl) (by kernel_rfl) (by kernel_rfl) (fun _ _ _ h => h) (.inl ⟨by kernel_rfl, fun W hW => by obtain ⟨hk, hn, ht⟩ := hW; have g12 := (hk.cell 12).trans E12.out; go_simp⟩) hHeld ?_
    simp only [Act.put, List.setIfInBounds_toArray, List.set_cons_zero, List.set_cons_succ]
    refine' wpAnyH_take (i := 13) (oi := ⟨some 25, _, _, _, _, _⟩) (v := .int .i64 (E.inq.length : Int)) rfl (by kernel_rfl) (by kernel_rfl) (by kernel_rfl) (fun _ _ _ h => h) (.inl ⟨by kernel_rfl, fun W hW => by go_simp⟩) hHeld ?_
    simp only [Act.put, List.setIfInBounds_toArray, List.set_cons_zero, List.set_cons_succ]
    refine' wpAnyH_take (i := 17) (oi := ⟨some 29, _, _, _, _, _⟩) (v := _) rfl (by kernel_rfl) (by kernel_rfl) (by kernel_rfl) (fun _ _ _ h => h) (yieldsIf_load_mid (by rfl) _ _ rfl _ _ rfl L _ (fun W h => range_blk h.1) hund rfl IL.out) hHeld ?_
    simp only [Act.put, List.setIfInBounds_toArray, List.set_cons_zero, List.set_cons_succ]
    refine' wpAnyH_take (i := 22) (oi := ⟨some 34, _, _, _, _, _⟩) (v := _) rfl (by kernel_rfl) (by kernel_rfl) (by kernel_rfl) (fun _ _ _ h => h) (yieldsIf_load_mid (by rfl) _ _ rfl _ _ rfl L _ (fun W h => range_blk h.1) hund rfl IL.out) hHeld ?_
    simp only [Act.put, List.setIfInBounds_toArray, List.set_cons_zero, List.set_cons_succ]
    refine' wpAnyH_take (i := 27) (oi := ⟨some 39, _, _, _, _, _⟩) (v := .pointer (some ⟨w.heap.size, 15, none⟩)) rfl (by kernel_rfl) (by kernel_rfl) (by kernel_rfl) (fun _ _ _ h => h) (.inl ⟨by kernel_rfl, fun W hW => by go_simp⟩) hHeld ?_
    simp only [Act.put, List.setIfInBounds_toArray, List.set_cons_zero, List.set_cons_succ]
    refine' wpAnyH_take (i := 28) (oi := ⟨some 40, _, _, _, _, _⟩) (v := .slice q.a4 E.out.length q.c4) rfl (by kernel_rfl) (by kernel_rfl) (by kernel_rfl) (fun _ _ _ h => h) (.inl ⟨by kernel_rfl, fun W hW => by obtain ⟨hk, hn, ht⟩ := hW; have g15 := (hk.cell 15).trans E15.out; go_simp⟩) hHeld ?_
    simp only [Act.put, List.setIfInBounds_toArray, List.set_cons_zero, List.set_cons_succ]
    refine' wpAnyH_take (i := 29) (oi := ⟨some 41, _, _, _, _, _⟩) (v := .int .i64 (E.out.length : Int)) rfl (by kernel_rfl) (by kernel_rfl) (by kernel_rfl) (fun _ _ _ h => h) (.inl ⟨by kernel_rfl, fun W hW => by go_simp⟩) hHeld ?_
    simp only [Act.put, List.setIfInBounds_toArray, List.set_cons_zero, List.set_cons_succ]
    refine' wpAnyH_take (i := 33) (oi := ⟨some 45, _, _, _, _, _⟩) (v := .pointer (some ⟨w.heap.size + 2, 0, none⟩)) rfl (by kernel_rfl) (by kernel_rfl) (by kernel_rfl) (fun _ _ _ h => h) (.inl ⟨by kernel_rfl, fun W hW => by go_simp⟩) hHeld ?_
    simp only [Act.put, List.setIfInBounds_toArray, List.set_cons_zero, List.set_cons_succ]
    refine' wpAnyH_take (i := 34) (oi := ⟨some 46, _, _, _, _, _⟩) (v := .int .i64 E.t0) rfl (by kernel_rfl) (by kernel_rfl) (by kernel_rfl) (fun _ _ _ h => h) (.inl ⟨by kernel_rfl, fun W hW => by obtain ⟨hk, hn, ht⟩ := hW; have gt : W.cell? ⟨w.heap.size + 2, 0, none⟩ = some (Value.int .i64 E.t0) := ht.cell 0; go_simp⟩) hHeld ?_
    simp only [Act.put, List.setIfInBounds_toArray, List.set_cons_zero, List.set_cons_succ]
    refine' wpAnyH_take (i := 38) (oi := ⟨some 50, _, _, _, _, _⟩) (v := .pointer (some ⟨w.heap.size + 2, 1, none⟩)) rfl (by kernel_rfl) (by kernel_rfl) (by kernel_rfl) (fun _ _ _ h => h) (.inl ⟨by kernel_rfl, fun W hW => by go_simp⟩) hHeld ?_
    simp only [Act.put, List.setIfInBounds_toArray, List.set_cons_zero, List.set_cons_succ]
    refine' wpAnyH_take (i := 39) (oi := ⟨some 51, _, _, _, _, _⟩) (v := .int .i64 E.t1) rfl (by kernel_rfl) (by kernel_rfl) (by kernel_rfl) (fun _ _ _ h => h) (.inl ⟨by kernel_rfl, fun W hW => by obtain ⟨hk, hn, ht⟩ := hW; have gt : W.cell? ⟨w.heap.size + 2, 1, none⟩ = some (Value.int .i64 E.t1) := ht.cell 1; go_simp⟩) hHeld ?_
    simp only [Act.put, List.setIfInBounds_toArray, List.set_cons_zero, List.set_cons_succ]
    refine' wpAnyH_take (i := 43) (oi := ⟨some 55, _, _, _, _, _⟩) (v := .pointer (some ⟨w.heap.size + 2, 2, none⟩)) rfl (by kernel_rfl) (by kernel_rfl) (by kernel_rfl) (fun _ _ _ h => h) (.inl ⟨by kernel_rfl, fun W hW => by go_simp⟩) hHeld ?_
    simp only [Act.put, List.setIfInBounds_toArray, List.set_cons_zero, List.set_cons_succ]
    refine' wpAnyH_take (i := 44) (oi := ⟨some 56, _, _, _, _, _⟩) (v := .int .i64 E.t2) rfl (by kernel_rfl) (by kernel_rfl) (by kernel_rfl) (fun _ _ _ h => h) (.inl ⟨by kernel_rfl, fun W hW => by obtain ⟨hk, hn, ht⟩ := hW; have gt : W.cell? ⟨w.heap.size + 2, 2, none⟩ = some (Value.int .i64 E.t2) := ht.cell 2; go_simp⟩) hHeld ?_
    simp only [Act.put, List.setIfInBounds_toArray, List.set_cons_zero, List.set_cons_succ]
    refine' wpAnyH_take (i := 48) (oi := ⟨some 60, _, _, _, _, _⟩) (v := .pointer (some ⟨w.heap.size + 2, 3, none⟩)) rfl (by kernel_rfl) (by kernel_rfl) (by kernel_rfl) (fun _ _ _ h => h) (.inl ⟨by kernel_rfl, fun W hW => by go_simp⟩) hHeld ?_
    simp only [Act.put, List.setIfInBounds_toArray, List.set_cons_zero, List.set_cons_succ]
    refine' wpAnyH_take (i := 49) (oi := ⟨some 61, _, _, _, _, _⟩) (v := .int .i64 E.t3) rfl (by kernel_rfl) (by kernel_rfl) (by kernel_rfl) (fun _ _ _ h => h) (.inl ⟨by kernel_rfl, fun W hW => by obtain ⟨hk, hn, ht⟩ := hW; have gt : W.cell? ⟨w.heap.size + 2, 3, none⟩ = some (Value.int .i64 E.t3) := ht.cell 3; go_simp⟩) hHeld ?_
    simp only [Act.put, List.setIfInBounds_toArray, List.set_cons_zero, List.set_cons_succ]
    refine' wpAnyH_take (i := 5) (oi := ⟨some 17, _, _, _, _, _⟩) (v := .string (str u0)) rfl (by kernel_rfl) (by kernel_rfl) (by kernel_rfl) (fun _ _ _ h => h) (.inl ⟨by kernel_rfl, fun W _ => exec_add _ _ _ _ nm [32, 109, 97, 114, 107, 32] u0 rfl rfl rfl U0.out (by simp only [List.length_cons, List.length_nil]; omega) W⟩) hHeld ?_
    simp only [Act.put, List.setIfInBounds_toArray, List.set_cons_zero, List.set_cons_succ]
    refine wpAnyH_ready (rs := [8]) (by kernel_rfl) (by simp) ?_
    refine AllReadyH.cons (o := ⟨some 20, _, _, _, _, _⟩) rfl (fun KF hK => ?_) AllReadyH.nil
    go_simp
    refine (N0.out _).mono ?_
    rintro e w3 ⟨rfl, hb⟩
    clear y0 hHeld
    have KK := Lib.hid (KK.out.below hb)
    have NN := Lib.hid (NN.out.below hb)
    have TT := Lib.hid (TT.out.below hb)
    have BB := Lib.hid (BB.out.trans (hb.mono BB.out.size))
    clear hb
    have y0 := And.intro KK.out (And.intro NN.out TT.out)
    dsimp only
    refine (Go.Shut.out hK) _ _ y0 (fun hHeld => ?_)
    clear hK KF
    try simp only [Act.put, List.setIfInBounds_toArray, List.set_cons_zero, List.set_cons_succ]
    refine' wpAnyH_take (i := 9) (oi := ⟨some 21, _, _, _, _, _⟩) (v := .string (str u1)) rfl (by kernel_rfl) (by kernel_rfl) (by kernel_rfl) (fun _ _ _ h => h) (.inl ⟨by kernel_rfl, fun W _ => exec_add _ _ _ _ u0 t0 u1 rfl rfl rfl U1.out (by omega) W⟩) hHeld ?_
    simp only [Act.put, List.setIfInBounds_toArray, List.set_cons_zero, List.set_cons_succ]
    refine' wpAnyH_take (i := 10) (oi := ⟨some 22, _, _, _, _, _⟩) (v := .string (str u2)) rfl (by kernel_rfl) (by kernel_rfl) (by kernel_rfl) (fun _ _ _ h => h) (.inl ⟨by kernel_rfl, fun W _ => exec_add _ _ _ _ u1 [32, 105, 110, 32] u2 rfl rfl rfl U2.out (by simp only [List.length_cons, List.length_nil]; omega) W⟩) hHeld ?_
    simp only [Act.put, List.setIfInBounds_toArray, List.set_cons_zero, List.set_cons_succ]
    refine wpAnyH_ready (rs := [14]) (by kernel_rfl) (by simp) ?_
    refine AllReadyH.cons (o := ⟨some 26, _, _, _, _, _⟩) rfl (fun KF hK => ?_) AllReadyH.nil
    go_simp
    refine (N1.out _).mono ?_
    rintro e w3 ⟨rfl, hb⟩
    clear y0 hHeld
    have KK := Lib.hid (KK.out.below hb)
    have NN := Lib.hid (NN.out.below hb)
    have TT := Lib.hid (TT.out.below hb)
    have BB := Lib.hid (BB.out.trans (hb.mono BB.out.size))
    clear hb
    have y0 := And.intro KK.out (And.intro NN.out TT.out)
    dsimp only
    refine (Go.Shut.out hK) _ _ y0 (fun hHeld => ?_)
    clear hK KF
    try simp only [Act.put, List.setIfInBounds_toArray, List.set_cons_zero, List.set_cons_succ]
    refine' wpAnyH_take (i := 15) (oi := ⟨some 27, _, _, _, _, _⟩) (v := .string (str u3)) rfl (by kernel_rfl) (by kernel_rfl) (by kernel_rfl) (fun _ _ _ h => h) (.inl ⟨by kernel_rfl, fun W _ => exec_add _ _ _ _ u2 t1 u3 rfl rfl rfl U3.out (by omega) W⟩) hHeld ?_
    simp only [Act.put, List.setIfInBounds_toArray, List.set_cons_zero, List.set_cons_succ]
    refine' wpAnyH_take (i := 16) (oi := ⟨some 28, _, _, _, _, _⟩) (v := .string (str u4)) rfl (by kernel_rfl) (by kernel_rfl) (by kernel_rfl) (fun _ _ _ h => h) (.inl ⟨by kernel_rfl, fun W _ => exec_add _ _ _ _ u3 [32, 113, 117, 101, 117, 101, 100, 32] u4 rfl rfl rfl U4.out (by simp only [List.length_cons, List.length_nil]; omega) W⟩) hHeld ?_
    simp only [Act.put, List.setIfInBounds_toArray, List.set_cons_zero, List.set_cons_succ]
    refine wpAnyH_ready (rs := [18]) (by kernel_rfl) (by simp) ?_
    refine AllReadyH.cons (o := ⟨some 30, _, _, _, _, _⟩) rfl (fun KF hK => ?_) AllReadyH.nil
    go_simp
    refine (HQ.out _ BB.out).mono ?_
    rintro e w3 ⟨rfl, hb⟩
    clear y0 hHeld
    have KK := Lib.hid (KK.out.below hb)
    have NN := Lib.hid (NN.out.below hb)
    have TT := Lib.hid (TT.out.below hb)
    have BB := Lib.hid (BB.out.trans (hb.mono BB.out.size))
    clear hb
    have y0 := And.intro KK.out (And.intro NN.out TT.out)
    dsimp only
    refine (Go.Shut.out hK) _ _ y0 (fun hHeld => ?_)
    clear hK KF
    try simp only [Act.put, List.setIfInBounds_toArray, List.set_cons_zero, List.set_cons_succ]
    refine wpAnyH_ready (rs := [19]) (by kernel_rfl) (by simp) ?_
    refine AllReadyH.cons (o := ⟨some 31, _, _, _, _, _⟩) rfl (fun KF hK => ?_) AllReadyH.nil
    go_simp
    refine (N2.out _).mono ?_
    rintro e w3 ⟨rfl, hb⟩
    clear y0 hHeld
    have KK := Lib.hid (KK.out.below hb)
    have NN := Lib.hid (NN.out.below hb)
    have TT := Lib.hid (TT.out.below hb)
    have BB := Lib.hid (BB.out.trans (hb.mono BB.out.size))
    clear hb
    have y0 := And.intro KK.out (And.intro NN.out TT.out)
    dsimp only
    refine (Go.Shut.out hK) _ _ y0 (fun hHeld => ?_)
    clear hK KF
    try simp only [Act.put, List.setIfInBounds_toArray, List.set_cons_zero, List.set_cons_succ]
    refine' wpAnyH_take (i := 20) (oi := ⟨some 32, _, _, _, _, _⟩) (v := .string (str u5)) rfl (by kernel_rfl) (by kernel_rfl) (by kernel_rfl) (fun _ _ _ h => h) (.inl ⟨by kernel_rfl, fun W _ => exec_add _ _ _ _ u4 t2 u5 rfl rfl rfl U5.out (by omega) W⟩) hHeld ?_
    simp only [Act.put, List.setIfInBounds_toArray, List.set_cons_zero, List.set_cons_succ]
    refine' wpAnyH_take (i := 21) (oi := ⟨some 33, _, _, _, _, _⟩) (v := .string (str u6)) rfl (by kernel_rfl) (by kernel_rfl) (by kernel_rfl) (fun _ _ _ h => h) (.inl ⟨by kernel_rfl, fun W _ => exec_add _ _ _ _ u5 [32, 104, 101, 108, 100, 32] u6 rfl rfl rfl U6.out (by simp only [List.length_cons, List.length_nil]; omega) W⟩) hHeld ?_
    simp only [Act.put, List.setIfInBounds_toArray, List.set_cons_zero, List.set_cons_succ]
    refine wpAnyH_ready (rs := [23]) (by kernel_rfl) (by simp) ?_
    refine AllReadyH.cons (o := ⟨some 35, _, _, _, _, _⟩) rfl (fun KF hK => ?_) AllReadyH.nil
    go_simp
    refine (HH.out _ BB.out).mono ?_
    rintro e w3 ⟨rfl, hb⟩
    clear y0 hHeld
    have KK := Lib.hid (KK.out.below hb)
    have NN := Lib.hid (NN.out.below hb)
    have TT := Lib.hid (TT.out.below hb)
    have BB := Lib.hid (BB.out.trans (hb.mono BB.out.size))
    clear hb
    have y0 := And.intro KK.out (And.intro NN.out TT.out)
    dsimp only
    refine (Go.Shut.out hK) _ _ y0 (fun hHeld => ?_)
    clear hK KF
    try simp only [Act.put, List.setIfInBounds_toArray, List.set_cons_zero, List.set_cons_succ]
    refine wpAnyH_ready (rs := [24]) (by kernel_rfl) (by simp) ?_
    refine AllReadyH.cons (o := ⟨some 36, _, _, _, _, _⟩) rfl (fun KF hK => ?_) AllReadyH.nil
    go_simp
    refine (N3.out _).mono ?_
    rintro e w3 ⟨rfl, hb⟩
    clear y0 hHeld
    have KK := Lib.hid (KK.out.below hb)
    have NN := Lib.hid (NN.out.below hb)
    have TT := Lib.hid (TT.out.below hb)
    have BB := Lib.hid (BB.out.trans (hb.mono BB.out.size))
    clear hb
    have y0 := And.intro KK.out (And.intro NN.out TT.out)
    dsimp only
    refine (Go.Shut.out hK) _ _ y0 (fun hHeld => ?_)
    clear hK KF
    try simp only [Act.put, List.setIfInBounds_toArray, List.set_cons_zero, List.set_cons_succ]
    refine' wpAnyH_take (i := 25) (oi := ⟨some 37, _, _, _, _, _⟩) (v := .string (str u7)) rfl (by kernel_rfl) (by kernel_rfl) (by kernel_rfl) (fun _ _ _ h => h) (.inl ⟨by kernel_rfl, fun W _ => exec_add _ _ _ _ u6 t3 u7 rfl rfl rfl U7.out (by omega) W⟩) hHeld ?_
    simp only [Act.put, List.setIfInBounds_toArray, List.set_cons_zero, List.set_cons_succ]
    refine' wpAnyH_take (i := 26) (oi := ⟨some 38, _, _, _, _, _⟩) (v := .string (str u8)) rfl (by kernel_rfl) (by kernel_rfl) (by kernel_rfl) (fun _ _ _ h => h) (.inl ⟨by kernel_rfl, fun W _ => exec_add _ _ _ _ u7 [32, 111, 117, 116, 32] u8 rfl rfl rfl U8.out (by simp only [List.length_cons, List.length_nil]; omega) W⟩) hHeld ?_
    simp only [Act.put, List.setIfInBounds_toArray, List.set_cons_zero, List.set_cons_succ]
    refine wpAnyH_ready (rs := [30]) (by kernel_rfl) (by simp) ?_
    refine AllReadyH.cons (o := ⟨some 42, _, _, _, _, _⟩) rfl (fun KF hK => ?_) AllReadyH.nil
    go_simp
    refine (N4.out _).mono ?_
    rintro e w3 ⟨rfl, hb⟩
    clear y0 hHeld
    have KK := Lib.hid (KK.out.below hb)
    have NN := Lib.hid (NN.out.below hb)
    have TT := Lib.hid (TT.out.below hb)
    have BB := Lib.hid (BB.out.trans (hb.mono BB.out.size))
    clear hb
    have y0 := And.intro KK.out (And.intro NN.out TT.out)
    dsimp only
    refine (Go.Shut.out hK) _ _ y0 (fun hHeld => ?_)
    clear hK KF
    try simp only [Act.put, List.setIfInBounds_toArray, List.set_cons_zero, List.set_cons_succ]
    refine' wpAnyH_take (i := 31) (oi := ⟨some 43, _, _, _, _, _⟩) (v := .string (str u9)) rfl (by kernel_rfl) (by kernel_rfl) (by kernel_rfl) (fun _ _ _ h => h) (.inl ⟨by kernel_rfl, fun W _ => exec_add _ _ _ _ u8 t4 u9 rfl rfl rfl U9.out (by omega) W⟩) hHeld ?_
    simp only [Act.put, List.setIfInBounds_toArray, List.set_cons_zero, List.set_cons_succ]
    refine' wpAnyH_take (i := 32) (oi := ⟨some 44, _, _, _, _, _⟩) (v := .string (str u10)) rfl (by kernel_rfl) (by kernel_rfl) (by kernel_rfl) (fun _ _ _ h => h) (.inl ⟨by kernel_rfl, fun W _ => exec_add _ _ _ _ u9 [32, 114, 101, 97, 100, 32] u10 rfl rfl rfl U10.out (by simp only [List.length_cons, List.length_nil]; omega) W⟩) hHeld ?_
    simp only [Act.put, List.setIfInBounds_toArray, List.set_cons_zero, List.set_cons_succ]
    refine wpAnyH_ready (rs := [35]) (by kernel_rfl) (by simp) ?_
    refine AllReadyH.cons (o := ⟨some 47, _, _, _, _, _⟩) rfl (fun KF hK => ?_) AllReadyH.nil
    go_simp
    refine (N5.out _).mono ?_
    rintro e w3 ⟨rfl, hb⟩
    clear y0 hHeld
    have KK := Lib.hid (KK.out.below hb)
    have NN := Lib.hid (NN.out.below hb)
    have TT := Lib.hid (TT.out.below hb)
    have BB := Lib.hid (BB.out.trans (hb.mono BB.out.size))
    clear hb
    have y0 := And.intro KK.out (And.intro NN.out TT.out)
    dsimp only
    refine (Go.Shut.out hK) _ _ y0 (fun hHeld => ?_)
    clear hK KF
    try simp only [Act.put, List.setIfInBounds_toArray, List.set_cons_zero, List.set_cons_succ]
    refine' wpAnyH_take (i := 36) (oi := ⟨some 48, _, _, _, _, _⟩) (v := .string (str u11)) rfl (by kernel_rfl) (by kernel_rfl) (by kernel_rfl) (fun _ _ _ h => h) (.inl ⟨by kernel_rfl, fun W _ => exec_add _ _ _ _ u10 t5 u11 rfl rfl rfl U11.out (by omega) W⟩) hHeld ?_
    simp only [Act.put, List.setIfInBounds_toArray, List.set_cons_zero, List.set_cons_succ]
    refine' wpAnyH_take (i := 37) (oi := ⟨some 49, _, _, _, _, _⟩) (v := .string (str u12)) rfl (by kernel_rfl) (by kernel_rfl) (by kernel_rfl) (fun _ _ _ h => h) (.inl ⟨by kernel_rfl, fun W _ => exec_add _ _ _ _ u11 [32, 116, 97, 107, 101, 110, 32] u12 rfl rfl rfl U12.out (by simp only [List.length_cons, List.length_nil]; omega) W⟩) hHeld ?_
    simp only [Act.put, List.setIfInBounds_toArray, List.set_cons_zero, List.set_cons_succ]
    refine wpAnyH_ready (rs := [40]) (by kernel_rfl) (by simp) ?_
    refine AllReadyH.cons (o := ⟨some 52, _, _, _, _, _⟩) rfl (fun KF hK => ?_) AllReadyH.nil
    go_simp
    refine (N6.out _).mono ?_
    rintro e w3 ⟨rfl, hb⟩
    clear y0 hHeld
    have KK := Lib.hid (KK.out.below hb)
    have NN := Lib.hid (NN.out.below hb)
    have TT := Lib.hid (TT.out.below hb)
    have BB := Lib.hid (BB.out.trans (hb.mono BB.out.size))
    clear hb
    have y0 := And.intro KK.out (And.intro NN.out TT.out)
    dsimp only
    refine (Go.Shut.out hK) _ _ y0 (fun hHeld => ?_)
    clear hK KF
    try simp only [Act.put, List.setIfInBounds_toArray, List.set_cons_zero, List.set_cons_succ]
    refine' wpAnyH_take (i := 41) (oi := ⟨some 53, _, _, _, _, _⟩) (v := .string (str u13)) rfl (by kernel_rfl) (by kernel_rfl) (by kernel_rfl) (fun _ _ _ h => h) (.inl ⟨by kernel_rfl, fun W _ => exec_add _ _ _ _ u12 t6 u13 rfl rfl rfl U13.out (by omega) W⟩) hHeld ?_
    simp only [Act.put, List.setIfInBounds_toArray, List.set_cons_zero, List.set_cons_succ]
    refine' wpAnyH_take (i := 42) (oi := ⟨some 54, _, _, _, _, _⟩) (v := .string (str u14)) rfl (by kernel_rfl) (by kernel_rfl) (by kernel_rfl) (fun _ _ _ h => h) (.inl ⟨by kernel_rfl, fun W _ => exec_add _ _ _ _ u13 [32, 108, 97, 116, 101, 32] u14 rfl rfl rfl U14.out (by simp only [List.length_cons, List.length_nil]; omega) W⟩) hHeld ?_
    simp only [Act.put, List.setIfInBounds_toArray, List.set_cons_zero, List.set_cons_succ]
    refine wpAnyH_ready (rs := [45]) (by kernel_rfl) (by simp) ?_
    refine AllReadyH.cons (o := ⟨some 57, _, _, _, _, _⟩) rfl (fun KF hK => ?_) AllReadyH.nil
    go_simp
    refine (N7.out _).mono ?_
    rintro e w3 ⟨rfl, hb⟩
    clear y0 hHeld
    have KK := Lib.hid (KK.out.below hb)
    have NN := Lib.hid (NN.out.below hb)
    have TT := Lib.hid (TT.out.below hb)
    have BB := Lib.hid (BB.out.trans (hb.mono BB.out.size))
    clear hb
    have y0 := And.intro KK.out (And.intro NN.out TT.out)
    dsimp only
    refine (Go.Shut.out hK) _ _ y0 (fun hHeld => ?_)
    clear hK KF
    try simp only [Act.put, List.setIfInBounds_toArray, List.set_cons_zero, List.set_cons_succ]
    refine' wpAnyH_take (i := 46) (oi := ⟨some 58, _, _, _, _, _⟩) (v := .string (str u15)) rfl (by kernel_rfl) (by kernel_rfl) (by kernel_rfl) (fun _ _ _ h => h) (.inl ⟨by kernel_rfl, fun W _ => exec_add _ _ _ _ u14 t7 u15 rfl rfl rfl U15.out (by omega) W⟩) hHeld ?_
    simp only [Act.put, List.setIfInBounds_toArray, List.set_cons_zero, List.set_cons_succ]
    refine' wpAnyH_take (i := 47) (oi := ⟨some 59, _, _, _, _, _⟩) (v := .string (str u16)) rfl (by kernel_rfl) (by kernel_rfl) (by kernel_rfl) (fun _ _ _ h => h) (.inl ⟨by kernel_rfl, fun W _ => exec_add _ _ _ _ u15 [32, 111, 118, 101, 114, 32] u16 rfl rfl rfl U16.out (by simp only [List.length_cons, List.length_nil]; omega) W⟩) hHeld ?_
    simp only [Act.put, List.setIfInBounds_toArray, List.set_cons_zero, List.set_cons_succ]
    refine wpAnyH_ready (rs := [50]) (by kernel_rfl) (by simp) ?_
    refine AllReadyH.cons (o := ⟨some 62, _, _, _, _, _⟩) rfl (fun KF hK => ?_) AllReadyH.nil
    go_simp
    refine (N8.out _).mono ?_
    rintro e w3 ⟨rfl, hb⟩
    clear y0 hHeld
    have KK := Lib.hid (KK.out.below hb)
    have NN := Lib.hid (NN.out.below hb)
    have TT := Lib.hid (TT.out.below hb)
    have BB := Lib.hid (BB.out.trans (hb.mono BB.out.size))
    clear hb
    have y0 := And.intro KK.out (And.intro NN.out TT.out)
    dsimp only
    refine (Go.Shut.out hK) _ _ y0 (fun hHeld => ?_)
    clear hK KF
    try simp only [Act.put, List.setIfInBounds_toArray, List.set_cons_zero, List.set_cons_succ]
    refine' wpAnyH_take (i := 51) (oi := ⟨some 63, _, _, _, _, _⟩) (v := .string (str u17)) rfl (by kernel_rfl) (by kernel_rfl) (by kernel_rfl) (fun _ _ _ h => h) (.inl ⟨by kernel_rfl, fun W _ => exec_add _ _ _ _ u16 t8 u17 rfl rfl rfl U17.out (by omega) W⟩) hHeld ?_
    simp only [Act.put, List.setIfInBounds_toArray, List.set_cons_zero, List.set_cons_succ]
    refine' wpAnyH_take (i := 52) (oi := ⟨some 2, _, _, _, _, _⟩) (v := .string (str u17)) rfl (by kernel_rfl) (by kernel_rfl) (by kernel_rfl) (fun _ _ _ h => h) (.inl ⟨by kernel_rfl, fun W hW => by go_simp⟩) hHeld ?_
    simp only [Act.put, List.setIfInBounds_toArray, List.set_cons_zero, List.set_cons_succ]
    refine wpAnyH_done (by kernel_rfl) ?_ _
    clear y0 hHeld hund
    go_wp2
    go_ret
    exact ⟨rfl, BB.out⟩
end Go.Proofs.YtddanfpiecgcgaaDoor
