/- The text of an engine: impl.EngineText. (made by tools/mkengt2.py) -/
import Derived.Test.YtddanfpiecgcgaaDoorEngT1
import Derived.Test.YtddanfpiecgcgaaDoorLib
namespace Go.Proofs.YtddanfpiecgcgaaDoor
open Go.RowKit

/-- The name at k. -/
def nmP (k : Nat) : List UInt8 := ([[109, 97, 114, 107], [105, 110], [113, 117, 101, 117, 101, 100], [104, 101, 108, 100], [111, 117, 116], [114, 101, 97, 100], [116, 97, 107, 101, 110], [108, 97, 116, 101], [111, 118, 101, 114]] : List (List UInt8)).getD k []
/-- The number at k. -/
def vP (E : En) (k : Nat) : Int := [E.mark, (E.inq.length : Int), ((totH hdMq ([] : List Mq) E.qs E.qs.length : Nat) : Int), ((totH hdSh shD E.sh E.sh.length : Nat) : Int), (E.out.length : Int), E.t0, E.t1, E.t2, E.t3].getD k 0
/-- The text of the first k parts. -/
def upE (E : En) : Nat → List UInt8
  | 0 => nmM E.mode
  | k + 1 => upE E k ++ ((([32] ++ nmP k) ++ [32]) ++ Lib.itoa (vP E k))
theorem upE_all {E : En} (h : inB E.mode 0 2 = true) : upE E 9 = engT E := by
  rw [engT_yes h]
  simp [upE, nmP, vP]
theorem nmP_len (k : Nat) (h : k < 9) : (nmP k).length ≤ 6 := by
  have h9 : k = 0 ∨ k = 1 ∨ k = 2 ∨ k = 3 ∨ k = 4 ∨ k = 5 ∨ k = 6 ∨ k = 7 ∨ k = 8 := by omega
  rcases h9 with rfl | rfl | rfl | rfl | rfl | rfl | rfl | rfl | rfl <;> decide
theorem upE_len {E : En} (h : ∀ k, k < 9 → Is64 (vP E k)) : ∀ k, k ≤ 9 → (upE E k).length ≤ 7 + 40 * k
  | 0, _ => nmM_len E.mode
  | k + 1, hk => by
    have h1 := upE_len h k (by omega)
    have h2 := nmP_len k (by omega)
    have h3 := Lib.itoa_length_le (vP E k) (h k (by omega)).1 (h k (by omega)).2
    unfold upE
    simp only [List.length_append, List.length_cons, List.length_nil]
    omega
theorem vP_64 {E : En} (h0 : Is64 (E.mark)) (h1 : Is64 ((E.inq.length : Int))) (h2 : Is64 (((totH hdMq ([] : List Mq) E.qs E.qs.length : Nat) : Int))) (h3 : Is64 (((totH hdSh shD E.sh E.sh.length : Nat) : Int))) (h4 : Is64 ((E.out.length : Int))) (h5 : Is64 (E.t0)) (h6 : Is64 (E.t1)) (h7 : Is64 (E.t2)) (h8 : Is64 (E.t3)) : ∀ k, k < 9 → Is64 (vP E k) := fun k h => by
  have h9 : k = 0 ∨ k = 1 ∨ k = 2 ∨ k = 3 ∨ k = 4 ∨ k = 5 ∨ k = 6 ∨ k = 7 ∨ k = 8 := by omega
  rcases h9 with rfl | rfl | rfl | rfl | rfl | rfl | rfl | rfl | rfl
  · exact h0
  · exact h1
  · exact h2
  · exact h3
  · exact h4
  · exact h5
  · exact h6
  · exact h7
  · exact h8
set_option maxHeartbeats 1000000 in
theorem modeText_x (m : Int) (w : World) : Calls Tryd.prog 45 #[.int .i64 m] w fun e w' => e = .returned (if inB m 0 2 = true then .tuple #[.string (str (nmM m)), .bool true] else .tuple #[.string (str []), .bool false]) ∧ w = w' := by
  by_cases h0 : m = 0
  · subst h0
    rw [if_pos (by decide)]
    go_enter Tryd.func45, Tryd.ntmps45
    go_wp2
    exact bodyPost_ret (v := .tuple #[.string (str (nmM 0)), .bool true]) (by simp [results, Tryd.results45, go_sem, nmM]; rfl) rfl ⟨rfl, rfl⟩
  · have b0 : (m == 0) = false := beq_eq_false_iff_ne.2 h0
    by_cases h1 : m = 1
    · subst h1
      rw [if_pos (by decide)]
      go_enter Tryd.func45, Tryd.ntmps45
      go_wp2
      exact bodyPost_ret (v := .tuple #[.string (str (nmM 1)), .bool true]) (by simp [results, Tryd.results45, go_sem, nmM]; rfl) rfl ⟨rfl, rfl⟩
    · have b1 : (m == 1) = false := beq_eq_false_iff_ne.2 h1
      by_cases h2 : m = 2
      · subst h2
        rw [if_pos (by decide)]
        go_enter Tryd.func45, Tryd.ntmps45
        go_wp2
        exact bodyPost_ret (v := .tuple #[.string (str (nmM 2)), .bool true]) (by simp [results, Tryd.results45, go_sem, nmM]; rfl) rfl ⟨rfl, rfl⟩
      · have b2 : (m == 2) = false := beq_eq_false_iff_ne.2 h2
        rw [if_neg (by intro h; have := inB_bd h; omega)]
        clear h0 h1 h2
        go_enter Tryd.func45, Tryd.ntmps45
        go_wp2
        exact bodyPost_ret (v := .tuple #[.string (str []), .bool false]) (by simp [results, Tryd.results45, go_sem]) rfl ⟨rfl, rfl⟩
set_option maxHeartbeats 16000000 in
set_option maxRecDepth 100000 in
theorem implEngT_any (E : En) (q : Pl) (L : List Value) (w : World) (hL : L = evL E q) (hr : EnR w w.heap.size q E) (hf : EnFits E) (h64 : En64T E) (hp : Pow w) :
    Calls Tryd.prog 10 #[.agg L.toArray] w fun e w' => e = .returned (.string (str (engT E))) ∧ Below w.heap.size w w' := by
  have k0 := Blk.new w 44 L.toArray
  have b0 := (Below.refl w.heap.size w).alloc (Nat.le_refl _) (.cells L.toArray 44)
  have KK0 := Lib.hid k0
  have BB0 := Lib.hid b0
  have hlen : L.length = 24 := by rw [hL]; rfl
  have IL : Hid ((Tryd.prog.info? 44).map (·.size) = some L.length) := Lib.hid (by rw [hlen]; kernel_rfl)
  have HP := Lib.hid hp
  have HQ := Lib.hid (fun (W : World) (hb : Below w.heap.size w W) => implQd_any E q L W hL ((hr.below hb).more hb.size) hf)
  have HH := Lib.hid (fun (W : World) (hb : Below w.heap.size w W) => implSums_any E q L W hL ((hr.below hb).more hb.size) hf)
  have HM := Lib.hid (fun W => modeText_x E.mode W)
  have m1 := hr.inq.cap
  have m2 := hr.inq.big
  have m3 := hr.out.cap
  have m4 := hr.out.big
  unfold EnFits at hf
  obtain ⟨z0, z5, z6, z7, z8⟩ := h64
  have z2 : Is64 ((totH hdMq ([] : List Mq) E.qs E.qs.length : Nat) : Int) := by unfold Is64; omega
  have z3 : Is64 ((totH hdSh shD E.sh E.sh.length : Nat) : Int) := by unfold Is64; omega
  have z1 : Is64 (E.inq.length : Int) := by unfold Is64; omega
  have z4 : Is64 (E.out.length : Int) := by unfold Is64; omega
  have V64 := Lib.hid (vP_64 z0 z1 z2 z3 z4 z5 z6 z7 z8)
  have UL := Lib.hid (upE_len V64.out)
  clear z0 z1 z2 z3 z4 z5 z6 z7 z8
  have e10 : L.toArray[10]? = some (.int .i64 E.mode) := by rw [hL]; rfl
  have e16 : L.toArray[16]? = some (.int .i64 E.mark) := by rw [hL]; rfl
  have e12 : L.toArray[12]? = some (.slice q.a1 E.inq.length q.c1) := by rw [hL]; rfl
  have e15 : L.toArray[15]? = some (.slice q.a4 E.out.length q.c4) := by rw [hL]; rfl
  have e18 : L.toArray[18]? = some (.int .i64 E.t0) := by rw [hL]; rfl
  have e19 : L.toArray[19]? = some (.int .i64 E.t1) := by rw [hL]; rfl
  have e20 : L.toArray[20]? = some (.int .i64 E.t2) := by rw [hL]; rfl
  have e21 : L.toArray[21]? = some (.int .i64 E.t3) := by rw [hL]; rfl
  have E10 := Lib.hid e10
  have E12 := Lib.hid e12
  have E15 := Lib.hid e15
  have E16 := Lib.hid e16
  have E18 := Lib.hid e18
  have E19 := Lib.hid e19
  have E20 := Lib.hid e20
  have E21 := Lib.hid e21
  have c10 := (k0.cell 10).trans e10
  have PC : Hid (∀ (W : World) (g k : Nat), k < 9 → Blk W g 84 #[.string ⟨#[109, 97, 114, 107]⟩, .int .i64 E.mark, .string ⟨#[105, 110]⟩, .int .i64 (E.inq.length : Int), .string ⟨#[113, 117, 101, 117, 101, 100]⟩, .int .i64 ((totH hdMq ([] : List Mq) E.qs E.qs.length : Nat) : Int), .string ⟨#[104, 101, 108, 100]⟩, .int .i64 ((totH hdSh shD E.sh E.sh.length : Nat) : Int), .string ⟨#[111, 117, 116]⟩, .int .i64 (E.out.length : Int), .string ⟨#[114, 101, 97, 100]⟩, .int .i64 E.t0, .string ⟨#[116, 97, 107, 101, 110]⟩, .int .i64 E.t1, .string ⟨#[108, 97, 116, 101]⟩, .int .i64 E.t2, .string ⟨#[111, 118, 101, 114]⟩, .int .i64 E.t3] → W.cell? ⟨g, k * 2, none⟩ = some (.string (str (nmP k))) ∧ W.cell? ⟨g, k * 2 + 1, none⟩ = some (.int .i64 (vP E k))) := Lib.hid (fun W g k h hb => by
    rw [hb.cell, hb.cell]
    have h9 : k = 0 ∨ k = 1 ∨ k = 2 ∨ k = 3 ∨ k = 4 ∨ k = 5 ∨ k = 6 ∨ k = 7 ∨ k = 8 := by omega
    rcases h9 with rfl | rfl | rfl | rfl | rfl | rfl | rfl | rfl | rfl <;> exact ⟨rfl, rfl⟩)
  generalize ((totH hdMq ([] : List Mq) E.qs E.qs.length : Nat) : Int) = vq at HQ PC
  generalize ((totH hdSh shD E.sh E.sh.length : Nat) : Int) = vh at HH PC
  clear hr hL k0 b0 hlen hf hp e10 e12 e15 e16 e18 e19 e20 e21
  cases hm : inB E.mode 0 2 with
  | false =>
    rw [engT_no hm]
    rw [hm, if_neg (by simp)] at HM
    clear hm
    go_enter Tryd.func10, Tryd.ntmps10
    go_wp2_with fail
    refine (HM.out _).mono ?_
    rintro e w1 ⟨rfl, rfl⟩
    go_wp2
    go_ret
    exact ⟨rfl, BB0.out⟩
  | true =>
    rw [← upE_all hm]
    rw [hm, if_pos rfl] at HM
    have hu0 : upE E 0 = nmM E.mode := rfl
    rw [← hu0] at HM
    clear hm hu0
    have HU0 : Hid (∃ T, T = upE E 0) := Lib.hid ⟨_, rfl⟩
    go_enter Tryd.func10, Tryd.ntmps10
    go_wp2_with fail
    refine (HM.out _).mono ?_
    rintro e w1 ⟨rfl, rfl⟩
    go_wp2_with fail
    have KK := Lib.hid KK0.out.drew
    have BB := Lib.hid BB0.out.drew
    have y0 := KK.out
    have hund : Tryd.prog.underlying 44 = some _ := Tryd.underlying44
    refine wp_region_held_drew (S := fun W => Blk W w.heap.size 44 L.toArray) (by kernel_rfl) y0 (fun hHeld => ?_)
    refine' wpAnyH_take (i := 0) (oi := ⟨some 15, _, _, _, _, _⟩) (v := .pointer (some ⟨w.heap.size, 16, none⟩)) rfl (by kernel_rfl) (by kernel_rfl) (by kernel_rfl) (fun _ _ _ h => h) (.inl ⟨by kernel_rfl, fun W hW => by go_simp⟩) hHeld ?_
    simp only [Act.put, List.setIfInBounds_toArray, List.set_cons_zero, List.set_cons_succ]
    refine' wpAnyH_take (i := 1) (oi := ⟨some 16, _, _, _, _, _⟩) (v := .int .i64 E.mark) rfl (by kernel_rfl) (by kernel_rfl) (by kernel_rfl) (fun _ _ _ h => h) (.inl ⟨by kernel_rfl, fun W hW => by have g := (hW.cell 16).trans E16.out; go_simp⟩) hHeld ?_
    simp only [Act.put, List.setIfInBounds_toArray, List.set_cons_zero, List.set_cons_succ]
    refine' wpAnyH_take (i := 2) (oi := ⟨some 17, _, _, _, _, _⟩) (v := .agg #[.string ⟨#[109, 97, 114, 107]⟩, .int .i64 E.mark]) rfl (by kernel_rfl) (by kernel_rfl) (by kernel_rfl) (fun _ _ _ h => h) (.inl ⟨by kernel_rfl, fun W hW => by go_simp⟩) hHeld ?_
    simp only [Act.put, List.setIfInBounds_toArray, List.set_cons_zero, List.set_cons_succ]
    refine' wpAnyH_take (i := 3) (oi := ⟨some 18, _, _, _, _, _⟩) (v := .pointer (some ⟨w.heap.size, 12, none⟩)) rfl (by kernel_rfl) (by kernel_rfl) (by kernel_rfl) (fun _ _ _ h => h) (.inl ⟨by kernel_rfl, fun W hW => by go_simp⟩) hHeld ?_
    simp only [Act.put, List.setIfInBounds_toArray, List.set_cons_zero, List.set_cons_succ]
    refine' wpAnyH_take (i := 4) (oi := ⟨some 19, _, _, _, _, _⟩) (v := .slice q.a1 E.inq.length q.c1) rfl (by kernel_rfl) (by kernel_rfl) (by kernel_rfl) (fun _ _ _ h => h) (.inl ⟨by kernel_rfl, fun W hW => by have g := (hW.cell 12).trans E12.out; go_simp⟩) hHeld ?_
    simp only [Act.put, List.setIfInBounds_toArray, List.set_cons_zero, List.set_cons_succ]
    refine' wpAnyH_take (i := 5) (oi := ⟨some 20, _, _, _, _, _⟩) (v := .int .i64 (E.inq.length : Int)) rfl (by kernel_rfl) (by kernel_rfl) (by kernel_rfl) (fun _ _ _ h => h) (.inl ⟨by kernel_rfl, fun W hW => by go_simp⟩) hHeld ?_
    simp only [Act.put, List.setIfInBounds_toArray, List.set_cons_zero, List.set_cons_succ]
    refine' wpAnyH_take (i := 6) (oi := ⟨some 21, _, _, _, _, _⟩) (v := .agg #[.string ⟨#[105, 110]⟩, .int .i64 (E.inq.length : Int)]) rfl (by kernel_rfl) (by kernel_rfl) (by kernel_rfl) (fun _ _ _ h => h) (.inl ⟨by kernel_rfl, fun W hW => by go_simp⟩) hHeld ?_
    simp only [Act.put, List.setIfInBounds_toArray, List.set_cons_zero, List.set_cons_succ]
    refine' wpAnyH_take (i := 7) (oi := ⟨some 22, _, _, _, _, _⟩) (v := _) rfl (by kernel_rfl) (by kernel_rfl) (by kernel_rfl) (fun _ _ _ h => h) (yieldsIf_load_mid (by rfl) _ _ rfl _ _ rfl L _ (fun W h => range_blk h) hund rfl IL.out) hHeld ?_
    simp only [Act.put, List.setIfInBounds_toArray, List.set_cons_zero, List.set_cons_succ]
    refine' wpAnyH_take (i := 10) (oi := ⟨some 25, _, _, _, _, _⟩) (v := _) rfl (by kernel_rfl) (by kernel_rfl) (by kernel_rfl) (fun _ _ _ h => h) (yieldsIf_load_mid (by rfl) _ _ rfl _ _ rfl L _ (fun W h => range_blk h) hund rfl IL.out) hHeld ?_
    simp only [Act.put, List.setIfInBounds_toArray, List.set_cons_zero, List.set_cons_succ]
    refine' wpAnyH_take (i := 13) (oi := ⟨some 28, _, _, _, _, _⟩) (v := .pointer (some ⟨w.heap.size, 15, none⟩)) rfl (by kernel_rfl) (by kernel_rfl) (by kernel_rfl) (fun _ _ _ h => h) (.inl ⟨by kernel_rfl, fun W hW => by go_simp⟩) hHeld ?_
    simp only [Act.put, List.setIfInBounds_toArray, List.set_cons_zero, List.set_cons_succ]
    refine' wpAnyH_take (i := 14) (oi := ⟨some 29, _, _, _, _, _⟩) (v := .slice q.a4 E.out.length q.c4) rfl (by kernel_rfl) (by kernel_rfl) (by kernel_rfl) (fun _ _ _ h => h) (.inl ⟨by kernel_rfl, fun W hW => by have g := (hW.cell 15).trans E15.out; go_simp⟩) hHeld ?_
    simp only [Act.put, List.setIfInBounds_toArray, List.set_cons_zero, List.set_cons_succ]
    refine' wpAnyH_take (i := 15) (oi := ⟨some 30, _, _, _, _, _⟩) (v := .int .i64 (E.out.length : Int)) rfl (by kernel_rfl) (by kernel_rfl) (by kernel_rfl) (fun _ _ _ h => h) (.inl ⟨by kernel_rfl, fun W hW => by go_simp⟩) hHeld ?_
    simp only [Act.put, List.setIfInBounds_toArray, List.set_cons_zero, List.set_cons_succ]
    refine' wpAnyH_take (i := 16) (oi := ⟨some 31, _, _, _, _, _⟩) (v := .agg #[.string ⟨#[111, 117, 116]⟩, .int .i64 (E.out.length : Int)]) rfl (by kernel_rfl) (by kernel_rfl) (by kernel_rfl) (fun _ _ _ h => h) (.inl ⟨by kernel_rfl, fun W hW => by go_simp⟩) hHeld ?_
    simp only [Act.put, List.setIfInBounds_toArray, List.set_cons_zero, List.set_cons_succ]
    refine' wpAnyH_take (i := 17) (oi := ⟨some 32, _, _, _, _, _⟩) (v := .pointer (some ⟨w.heap.size, 18, none⟩)) rfl (by kernel_rfl) (by kernel_rfl) (by kernel_rfl) (fun _ _ _ h => h) (.inl ⟨by kernel_rfl, fun W hW => by go_simp⟩) hHeld ?_
    simp only [Act.put, List.setIfInBounds_toArray, List.set_cons_zero, List.set_cons_succ]
    refine' wpAnyH_take (i := 18) (oi := ⟨some 33, _, _, _, _, _⟩) (v := .pointer (some ⟨w.heap.size, 18, none⟩)) rfl (by kernel_rfl) (by kernel_rfl) (by kernel_rfl) (fun _ _ _ h => h) (.inl ⟨by kernel_rfl, fun W hW => by go_simp⟩) hHeld ?_
    simp only [Act.put, List.setIfInBounds_toArray, List.set_cons_zero, List.set_cons_succ]
    refine' wpAnyH_take (i := 19) (oi := ⟨some 34, _, _, _, _, _⟩) (v := .int .i64 E.t0) rfl (by kernel_rfl) (by kernel_rfl) (by kernel_rfl) (fun _ _ _ h => h) (.inl ⟨by kernel_rfl, fun W hW => by have g := (hW.cell 18).trans E18.out; go_simp⟩) hHeld ?_
    simp only [Act.put, List.setIfInBounds_toArray, List.set_cons_zero, List.set_cons_succ]
    refine' wpAnyH_take (i := 20) (oi := ⟨some 35, _, _, _, _, _⟩) (v := .agg #[.string ⟨#[114, 101, 97, 100]⟩, .int .i64 E.t0]) rfl (by kernel_rfl) (by kernel_rfl) (by kernel_rfl) (fun _ _ _ h => h) (.inl ⟨by kernel_rfl, fun W hW => by go_simp⟩) hHeld ?_
    simp only [Act.put, List.setIfInBounds_toArray, List.set_cons_zero, List.set_cons_succ]
    refine' wpAnyH_take (i := 21) (oi := ⟨some 36, _, _, _, _, _⟩) (v := .pointer (some ⟨w.heap.size, 18, none⟩)) rfl (by kernel_rfl) (by kernel_rfl) (by kernel_rfl) (fun _ _ _ h => h) (.inl ⟨by kernel_rfl, fun W hW => by go_simp⟩) hHeld ?_
    simp only [Act.put, List.setIfInBounds_toArray, List.set_cons_zero, List.set_cons_succ]
    refine' wpAnyH_take (i := 22) (oi := ⟨some 37, _, _, _, _, _⟩) (v := .pointer (some ⟨w.heap.size, 19, none⟩)) rfl (by kernel_rfl) (by kernel_rfl) (by kernel_rfl) (fun _ _ _ h => h) (.inl ⟨by kernel_rfl, fun W hW => by go_simp⟩) hHeld ?_
    simp only [Act.put, List.setIfInBounds_toArray, List.set_cons_zero, List.set_cons_succ]
    refine' wpAnyH_take (i := 23) (oi := ⟨some 38, _, _, _, _, _⟩) (v := .int .i64 E.t1) rfl (by kernel_rfl) (by kernel_rfl) (by kernel_rfl) (fun _ _ _ h => h) (.inl ⟨by kernel_rfl, fun W hW => by have g := (hW.cell 19).trans E19.out; go_simp⟩) hHeld ?_
    simp only [Act.put, List.setIfInBounds_toArray, List.set_cons_zero, List.set_cons_succ]
    refine' wpAnyH_take (i := 24) (oi := ⟨some 39, _, _, _, _, _⟩) (v := .agg #[.string ⟨#[116, 97, 107, 101, 110]⟩, .int .i64 E.t1]) rfl (by kernel_rfl) (by kernel_rfl) (by kernel_rfl) (fun _ _ _ h => h) (.inl ⟨by kernel_rfl, fun W hW => by go_simp⟩) hHeld ?_
    simp only [Act.put, List.setIfInBounds_toArray, List.set_cons_zero, List.set_cons_succ]
    refine' wpAnyH_take (i := 25) (oi := ⟨some 40, _, _, _, _, _⟩) (v := .pointer (some ⟨w.heap.size, 18, none⟩)) rfl (by kernel_rfl) (by kernel_rfl) (by kernel_rfl) (fun _ _ _ h => h) (.inl ⟨by kernel_rfl, fun W hW => by go_simp⟩) hHeld ?_
    simp only [Act.put, List.setIfInBounds_toArray, List.set_cons_zero, List.set_cons_succ]
    refine' wpAnyH_take (i := 26) (oi := ⟨some 41, _, _, _, _, _⟩) (v := .pointer (some ⟨w.heap.size, 20, none⟩)) rfl (by kernel_rfl) (by kernel_rfl) (by kernel_rfl) (fun _ _ _ h => h) (.inl ⟨by kernel_rfl, fun W hW => by go_simp⟩) hHeld ?_
    simp only [Act.put, List.setIfInBounds_toArray, List.set_cons_zero, List.set_cons_succ]
    refine' wpAnyH_take (i := 27) (oi := ⟨some 42, _, _, _, _, _⟩) (v := .int .i64 E.t2) rfl (by kernel_rfl) (by kernel_rfl) (by kernel_rfl) (fun _ _ _ h => h) (.inl ⟨by kernel_rfl, fun W hW => by have g := (hW.cell 20).trans E20.out; go_simp⟩) hHeld ?_
    simp only [Act.put, List.setIfInBounds_toArray, List.set_cons_zero, List.set_cons_succ]
    refine' wpAnyH_take (i := 28) (oi := ⟨some 43, _, _, _, _, _⟩) (v := .agg #[.string ⟨#[108, 97, 116, 101]⟩, .int .i64 E.t2]) rfl (by kernel_rfl) (by kernel_rfl) (by kernel_rfl) (fun _ _ _ h => h) (.inl ⟨by kernel_rfl, fun W hW => by go_simp⟩) hHeld ?_
    simp only [Act.put, List.setIfInBounds_toArray, List.set_cons_zero, List.set_cons_succ]
    refine' wpAnyH_take (i := 29) (oi := ⟨some 44, _, _, _, _, _⟩) (v := .pointer (some ⟨w.heap.size, 18, none⟩)) rfl (by kernel_rfl) (by kernel_rfl) (by kernel_rfl) (fun _ _ _ h => h) (.inl ⟨by kernel_rfl, fun W hW => by go_simp⟩) hHeld ?_
    simp only [Act.put, List.setIfInBounds_toArray, List.set_cons_zero, List.set_cons_succ]
    refine' wpAnyH_take (i := 30) (oi := ⟨some 45, _, _, _, _, _⟩) (v := .pointer (some ⟨w.heap.size, 21, none⟩)) rfl (by kernel_rfl) (by kernel_rfl) (by kernel_rfl) (fun _ _ _ h => h) (.inl ⟨by kernel_rfl, fun W hW => by go_simp⟩) hHeld ?_
    simp only [Act.put, List.setIfInBounds_toArray, List.set_cons_zero, List.set_cons_succ]
    refine' wpAnyH_take (i := 31) (oi := ⟨some 46, _, _, _, _, _⟩) (v := .int .i64 E.t3) rfl (by kernel_rfl) (by kernel_rfl) (by kernel_rfl) (fun _ _ _ h => h) (.inl ⟨by kernel_rfl, fun W hW => by have g := (hW.cell 21).trans E21.out; go_simp⟩) hHeld ?_
    simp only [Act.put, List.setIfInBounds_toArray, List.set_cons_zero, List.set_cons_succ]
    refine' wpAnyH_take (i := 32) (oi := ⟨some 47, _, _, _, _, _⟩) (v := .agg #[.string ⟨#[111, 118, 101, 114]⟩, .int .i64 E.t3]) rfl (by kernel_rfl) (by kernel_rfl) (by kernel_rfl) (fun _ _ _ h => h) (.inl ⟨by kernel_rfl, fun W hW => by go_simp⟩) hHeld ?_
    simp only [Act.put, List.setIfInBounds_toArray, List.set_cons_zero, List.set_cons_succ]
    refine' wpAnyH_take (i := 35) (oi := ⟨some 50, _, _, _, _, _⟩) (v := .int .i64 0) rfl (by kernel_rfl) (by kernel_rfl) (by kernel_rfl) (fun _ _ _ h => h) (.inl ⟨by kernel_rfl, fun W hW => by go_simp⟩) hHeld ?_
    simp only [Act.put, List.setIfInBounds_toArray, List.set_cons_zero, List.set_cons_succ]
    refine wpAnyH_ready (rs := [8]) (by kernel_rfl) (by simp) ?_
    refine AllReadyH.cons (o := ⟨some 23, _, _, _, _, _⟩) rfl (fun KF hK => ?_) AllReadyH.nil
    go_simp
    refine (HQ.out _ BB.out).mono ?_
    rintro e w3 ⟨rfl, hb⟩
    clear y0 hHeld
    have KK := Lib.hid (KK.out.below hb)
    have BB := Lib.hid (BB.out.trans (hb.mono BB.out.size))
    clear hb
    have y0 := KK.out
    dsimp only
    refine (Go.Shut.out hK) _ _ y0 (fun hHeld => ?_)
    clear hK KF
    try simp only [Act.put, List.setIfInBounds_toArray, List.set_cons_zero, List.set_cons_succ]
    refine' wpAnyH_take (i := 9) (oi := ⟨some 24, _, _, _, _, _⟩) (v := .agg #[.string ⟨#[113, 117, 101, 117, 101, 100]⟩, .int .i64 vq]) rfl (by kernel_rfl) (by kernel_rfl) (by kernel_rfl) (fun _ _ _ h => h) (.inl ⟨by kernel_rfl, fun W hW => by go_simp⟩) hHeld ?_
    simp only [Act.put, List.setIfInBounds_toArray, List.set_cons_zero, List.set_cons_succ]
    refine wpAnyH_ready (rs := [11]) (by kernel_rfl) (by simp) ?_
    refine AllReadyH.cons (o := ⟨some 26, _, _, _, _, _⟩) rfl (fun KF hK => ?_) AllReadyH.nil
    go_simp
    refine (HH.out _ BB.out).mono ?_
    rintro e w3 ⟨rfl, hb⟩
    clear y0 hHeld
    have KK := Lib.hid (KK.out.below hb)
    have BB := Lib.hid (BB.out.trans (hb.mono BB.out.size))
    clear hb
    have y0 := KK.out
    dsimp only
    refine (Go.Shut.out hK) _ _ y0 (fun hHeld => ?_)
    clear hK KF
    try simp only [Act.put, List.setIfInBounds_toArray, List.set_cons_zero, List.set_cons_succ]
    refine' wpAnyH_take (i := 12) (oi := ⟨some 27, _, _, _, _, _⟩) (v := .agg #[.string ⟨#[104, 101, 108, 100]⟩, .int .i64 vh]) rfl (by kernel_rfl) (by kernel_rfl) (by kernel_rfl) (fun _ _ _ h => h) (.inl ⟨by kernel_rfl, fun W hW => by go_simp⟩) hHeld ?_
    simp only [Act.put, List.setIfInBounds_toArray, List.set_cons_zero, List.set_cons_succ]
    have KG := Blk.new w3 84 #[.string ⟨#[109, 97, 114, 107]⟩, .int .i64 E.mark, .string ⟨#[105, 110]⟩, .int .i64 (E.inq.length : Int), .string ⟨#[113, 117, 101, 117, 101, 100]⟩, .int .i64 vq, .string ⟨#[104, 101, 108, 100]⟩, .int .i64 vh, .string ⟨#[111, 117, 116]⟩, .int .i64 (E.out.length : Int), .string ⟨#[114, 101, 97, 100]⟩, .int .i64 E.t0, .string ⟨#[116, 97, 107, 101, 110]⟩, .int .i64 E.t1, .string ⟨#[108, 97, 116, 101]⟩, .int .i64 E.t2, .string ⟨#[111, 118, 101, 114]⟩, .int .i64 E.t3]
    have B1 := Lib.hid (BB.out.alloc BB.out.size (.cells #[.string ⟨#[109, 97, 114, 107]⟩, .int .i64 E.mark, .string ⟨#[105, 110]⟩, .int .i64 (E.inq.length : Int), .string ⟨#[113, 117, 101, 117, 101, 100]⟩, .int .i64 vq, .string ⟨#[104, 101, 108, 100]⟩, .int .i64 vh, .string ⟨#[111, 117, 116]⟩, .int .i64 (E.out.length : Int), .string ⟨#[114, 101, 97, 100]⟩, .int .i64 E.t0, .string ⟨#[116, 97, 107, 101, 110]⟩, .int .i64 E.t1, .string ⟨#[108, 97, 116, 101]⟩, .int .i64 E.t2, .string ⟨#[111, 118, 101, 114]⟩, .int .i64 E.t3] 84))
    have KK1 := KK.out.alloc (.cells #[.string ⟨#[109, 97, 114, 107]⟩, .int .i64 E.mark, .string ⟨#[105, 110]⟩, .int .i64 (E.inq.length : Int), .string ⟨#[113, 117, 101, 117, 101, 100]⟩, .int .i64 vq, .string ⟨#[104, 101, 108, 100]⟩, .int .i64 vh, .string ⟨#[111, 117, 116]⟩, .int .i64 (E.out.length : Int), .string ⟨#[114, 101, 97, 100]⟩, .int .i64 E.t0, .string ⟨#[116, 97, 107, 101, 110]⟩, .int .i64 E.t1, .string ⟨#[108, 97, 116, 101]⟩, .int .i64 E.t2, .string ⟨#[111, 118, 101, 114]⟩, .int .i64 E.t3] 84)
    refine wpAnyH_ready (rs := [33]) (by kernel_rfl) (by simp) ?_
    refine AllReadyH.cons (o := ⟨some 48, _, _, _, _, _⟩) rfl (fun KF hK => ?_) AllReadyH.nil
    go_simp
    refine (Go.Shut.out hK) _ _ KK1 (fun hHeld => ?_)
    clear hK KF y0
    try simp only [Act.put, List.setIfInBounds_toArray, List.set_cons_zero, List.set_cons_succ]
    refine' wpAnyH_take (i := 34) (oi := ⟨some 49, _, _, _, _, _⟩) (v := .int .i64 9) rfl (by kernel_rfl) (by kernel_rfl) (by kernel_rfl) (fun _ _ _ h => h) (.inl ⟨by kernel_rfl, fun W hW => by go_simp⟩) hHeld ?_
    simp only [Act.put, List.setIfInBounds_toArray, List.set_cons_zero, List.set_cons_succ]
    refine wpAnyH_done (by kernel_rfl) ?_ _
    have KGH := Lib.hid KG
    clear hHeld KG KK1 hund
    obtain ⟨gb, hgb⟩ : ∃ g, g = w3.heap.size := ⟨_, rfl⟩
    have GB := Lib.hid hgb
    clear hgb
    go_wp2
    go_loopw [3, 50] (fun t i wr => ∃ k : Nat, k ≤ 9 ∧ i = .int .i64 k ∧ t = .string (str (upE E k)) ∧ Below w.heap.size w wr ∧ Blk wr w3.heap.size 84 #[.string ⟨#[109, 97, 114, 107]⟩, .int .i64 E.mark, .string ⟨#[105, 110]⟩, .int .i64 (E.inq.length : Int), .string ⟨#[113, 117, 101, 117, 101, 100]⟩, .int .i64 vq, .string ⟨#[104, 101, 108, 100]⟩, .int .i64 vh, .string ⟨#[111, 117, 116]⟩, .int .i64 (E.out.length : Int), .string ⟨#[114, 101, 97, 100]⟩, .int .i64 E.t0, .string ⟨#[116, 97, 107, 101, 110]⟩, .int .i64 E.t1, .string ⟨#[108, 97, 116, 101]⟩, .int .i64 E.t2, .string ⟨#[111, 118, 101, 114]⟩, .int .i64 E.t3]) (fun _ i _ => 9 - (intOf i).toNat)
    case atStart => exact ⟨0, by omega, rfl, rfl, B1.out, KGH.out⟩
    case round =>
      obtain ⟨k, hk9, rfl, rfl, hb, hg⟩ := hrel
      have B2 := Lib.hid hb
      have G2 := Lib.hid hg
      clear hb hg
      by_cases hlt : k < 9
      · obtain ⟨p0, p1⟩ := PC.out wr w3.heap.size k hlt G2.out
        have hv := V64.out k hlt
        have hl := UL.out k hk9
        have hn := nmP_len k hlt
        have hz := Lib.itoa_length_le (vP E k) hv.1 hv.2
        have HI := Lib.hid (fun (W : World) (hp : Pow W) => itoa_any (vP E k) hv.1 hv.2 W hp)
        have HS : Hid (upE E (k + 1) = upE E k ++ ((([32] ++ nmP k) ++ [32]) ++ Lib.itoa (vP E k))) := Lib.hid rfl
        have hlt' : (k : Int) < 9 := by omega
        clear hv
        obtain ⟨T1, hT1⟩ : ∃ T, T = upE E (k + 1) := ⟨_, rfl⟩
        rw [← hT1] at HS
        have HT1 := Lib.hid hT1
        clear hT1
        generalize upE E k = T at hl HS ⊢
        generalize nmP k = nm at hn p0 HS
        generalize Lib.itoa (vP E k) = tx at hz HI HS
        generalize vP E k = v at p1 HI
        obtain ⟨u1, hu1⟩ : ∃ u, u = [32] ++ nm := ⟨_, rfl⟩
        have x1 : u1.length ≤ 7 := by rw [hu1, List.length_append]; simp only [List.length_cons, List.length_nil]; omega
        obtain ⟨u2, hu2⟩ : ∃ u, u = u1 ++ [32] := ⟨_, rfl⟩
        have x2 : u2.length ≤ 8 := by rw [hu2, List.length_append]; simp only [List.length_cons, List.length_nil]; omega
        obtain ⟨u3, hu3⟩ : ∃ u, u = u2 ++ tx := ⟨_, rfl⟩
        have x3 : u3.length ≤ 29 := by rw [hu3, List.length_append]; omega
        have HS := Lib.hid (HS.out.trans (by rw [hu3, hu2, hu1] : _ = T ++ u3))
        have U1 := Lib.hid hu1
        have U2 := Lib.hid hu2
        have U3 := Lib.hid hu3
        have B3 := Lib.hid (B2.out.alloc B2.out.size (.cells #[.string (str nm), .int .i64 v] 84)).drew
        have G3 := Lib.hid (G2.out.alloc (.cells #[.string (str nm), .int .i64 v] 84)).drew
        have N3 := Lib.hid (Blk.new wr 84 #[.string (str nm), .int .i64 v]).drew
        clear hu1 hu2 hu3
        go_wp2_with fail
        have y1 := N3.out
        refine wp_region_held_drew (S := fun W => Blk W wr.heap.size 84 #[.string (str nm), .int .i64 v]) (by kernel_rfl) y1 (fun hHeld => ?_)
        refine' wpAnyH_take (i := 0) (oi := ⟨some 54, _, _, _, _, _⟩) (v := .string (str T)) rfl (by kernel_rfl) (by kernel_rfl) (by kernel_rfl) (fun _ _ _ h => h) (.inl ⟨by kernel_rfl, fun W hW => by go_simp⟩) hHeld ?_
        simp only [Act.put, List.setIfInBounds_toArray, List.set_cons_zero, List.set_cons_succ]
        refine' wpAnyH_take (i := 1) (oi := ⟨some 55, _, _, _, _, _⟩) (v := .pointer (some ⟨wr.heap.size, 0, none⟩)) rfl (by kernel_rfl) (by kernel_rfl) (by kernel_rfl) (fun _ _ _ h => h) (.inl ⟨by kernel_rfl, fun W hW => by go_simp⟩) hHeld ?_
        simp only [Act.put, List.setIfInBounds_toArray, List.set_cons_zero, List.set_cons_succ]
        refine' wpAnyH_take (i := 2) (oi := ⟨some 56, _, _, _, _, _⟩) (v := .string (str nm)) rfl (by kernel_rfl) (by kernel_rfl) (by kernel_rfl) (fun _ _ _ h => h) (.inl ⟨by kernel_rfl, fun W hW => by have g : W.cell? ⟨wr.heap.size, 0, none⟩ = some (Value.string (str nm)) := hW.cell 0; go_simp⟩) hHeld ?_
        simp only [Act.put, List.setIfInBounds_toArray, List.set_cons_zero, List.set_cons_succ]
        refine' wpAnyH_take (i := 3) (oi := ⟨some 57, _, _, _, _, _⟩) (v := .string (str u1)) rfl (by kernel_rfl) (by kernel_rfl) (by kernel_rfl) (fun _ _ _ h => h) (.inl ⟨by kernel_rfl, fun W _ => exec_add _ _ _ _ [32] nm u1 rfl rfl rfl U1.out (by simp only [List.length_cons, List.length_nil]; omega) W⟩) hHeld ?_
        simp only [Act.put, List.setIfInBounds_toArray, List.set_cons_zero, List.set_cons_succ]
        refine' wpAnyH_take (i := 4) (oi := ⟨some 58, _, _, _, _, _⟩) (v := .string (str u2)) rfl (by kernel_rfl) (by kernel_rfl) (by kernel_rfl) (fun _ _ _ h => h) (.inl ⟨by kernel_rfl, fun W _ => exec_add _ _ _ _ u1 [32] u2 rfl rfl rfl U2.out (by simp only [List.length_cons, List.length_nil]; omega) W⟩) hHeld ?_
        simp only [Act.put, List.setIfInBounds_toArray, List.set_cons_zero, List.set_cons_succ]
        refine' wpAnyH_take (i := 5) (oi := ⟨some 59, _, _, _, _, _⟩) (v := .pointer (some ⟨wr.heap.size, 1, none⟩)) rfl (by kernel_rfl) (by kernel_rfl) (by kernel_rfl) (fun _ _ _ h => h) (.inl ⟨by kernel_rfl, fun W hW => by go_simp⟩) hHeld ?_
        simp only [Act.put, List.setIfInBounds_toArray, List.set_cons_zero, List.set_cons_succ]
        refine' wpAnyH_take (i := 6) (oi := ⟨some 60, _, _, _, _, _⟩) (v := .int .i64 v) rfl (by kernel_rfl) (by kernel_rfl) (by kernel_rfl) (fun _ _ _ h => h) (.inl ⟨by kernel_rfl, fun W hW => by have g : W.cell? ⟨wr.heap.size, 1, none⟩ = some (Value.int .i64 v) := hW.cell 1; go_simp⟩) hHeld ?_
        simp only [Act.put, List.setIfInBounds_toArray, List.set_cons_zero, List.set_cons_succ]
        refine wpAnyH_ready (rs := [7]) (by kernel_rfl) (by simp) ?_
        refine AllReadyH.cons (o := ⟨some 61, _, _, _, _, _⟩) rfl (fun KF hK => ?_) AllReadyH.nil
        go_simp
        refine (HI.out _ (HP.out.below B3.out)).mono ?_
        rintro e w5 ⟨rfl, hb⟩
        clear y1 hHeld
        have N3 := Lib.hid (N3.out.below hb)
        have G3 := Lib.hid (G3.out.below hb)
        have B3 := Lib.hid (B3.out.trans (hb.mono B3.out.size))
        clear hb
        have y1 := N3.out
        dsimp only
        refine (Go.Shut.out hK) _ _ y1 (fun hHeld => ?_)
        clear hK KF
        try simp only [Act.put, List.setIfInBounds_toArray, List.set_cons_zero, List.set_cons_succ]
        refine' wpAnyH_take (i := 8) (oi := ⟨some 62, _, _, _, _, _⟩) (v := .string (str u3)) rfl (by kernel_rfl) (by kernel_rfl) (by kernel_rfl) (fun _ _ _ h => h) (.inl ⟨by kernel_rfl, fun W _ => exec_add _ _ _ _ u2 tx u3 rfl rfl rfl U3.out (by omega) W⟩) hHeld ?_
        simp only [Act.put, List.setIfInBounds_toArray, List.set_cons_zero, List.set_cons_succ]
        refine' wpAnyH_take (i := 9) (oi := ⟨some 63, _, _, _, _, _⟩) (v := .string (str T1)) rfl (by kernel_rfl) (by kernel_rfl) (by kernel_rfl) (fun _ _ _ h => h) (.inl ⟨by kernel_rfl, fun W _ => exec_add _ _ _ _ T u3 T1 rfl rfl rfl HS.out (by omega) W⟩) hHeld ?_
        simp only [Act.put, List.setIfInBounds_toArray, List.set_cons_zero, List.set_cons_succ]
        refine' wpAnyH_take (i := 10) (oi := ⟨some 3, _, _, _, _, _⟩) (v := .string (str T1)) rfl (by kernel_rfl) (by kernel_rfl) (by kernel_rfl) (fun _ _ _ h => h) (.inl ⟨by kernel_rfl, fun W hW => by go_simp⟩) hHeld ?_
        simp only [Act.put, List.setIfInBounds_toArray, List.set_cons_zero, List.set_cons_succ]
        refine wpAnyH_done (by kernel_rfl) ?_ _
        clear y1 hHeld
        go_wp2
        go_roundw
        case rel => exact ⟨k + 1, by omega, by go_num, by rw [HT1.out], B3.out, G3.out⟩
        case measure => simp [intOf]; omega
      · obtain rfl : k = 9 := by omega
        go_wp2
        go_ret
        exact ⟨rfl, B2.out⟩
end Go.Proofs.YtddanfpiecgcgaaDoor
