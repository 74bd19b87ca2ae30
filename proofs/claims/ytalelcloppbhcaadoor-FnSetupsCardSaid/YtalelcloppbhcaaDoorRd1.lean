/- impl.readFields: a range over a text's runes. (made by tools/mkrd.py) -/
import Derived.Test.YtalelcloppbhcaaDoorPlainRd
import Derived.Test.YtalelcloppbhcaaDoorPs1
import Derived.Laws.RangeString
import Derived.Laws.RangeAny
import Derived.Lib.OthersKept
namespace Go.Proofs.YtalelcloppbhcaaDoor
open Go.RowKit

theorem rd_stop {l : List UInt8} {z st : List Int × Nat} {pos : Nat} (hp : pos < l.length) (h : rdF (l.take pos) z = some st) (hs : rdStep st (l[pos]'hp) = none) : rdF l z = none := by
  have e : l = l.take pos ++ (l[pos]'hp) :: l.drop (pos + 1) := by rw [← List.drop_eq_getElem_cons hp, List.take_append_drop]
  rw [e, rdF_append, h]
  show (rdStep st _).bind _ = none
  rw [hs]
  rfl
theorem rd_on {l : List UInt8} {z st st' : List Int × Nat} {pos : Nat} (hp : pos < l.length) (h : rdF (l.take pos) z = some st) (hs : rdStep st (l[pos]'hp) = some st') : rdF (l.take (pos + 1)) z = some st' := by
  rw [List.take_succ_eq_append_getElem hp, rdF_append, h]
  show (rdStep st _).bind _ = _
  rw [hs]
  rfl
/-- What readFields answers. -/
def RdPost (l : List UInt8) (w : World) (e : Ending) (w' : World) : Prop :=
  ∃ (fs : List Int) (ok : Bool), e = .returned (.tuple #[.agg #[.int .i64 (el fs 0), .int .i64 (el fs 1), .int .i64 (el fs 2), .int .i64 (el fs 3), .int .i64 (el fs 4), .int .i64 (el fs 5), .int .i64 (el fs 6), .int .i64 (el fs 7), .int .i64 (el fs 8)], .bool ok]) ∧ smallF fs ∧ (∀ vs : List Int, vs.length = 9 → okL vs = true → l = psT vs → fs = vs ∧ ok = true) ∧ Below w.heap.size w w'
theorem rd_none {l : List UInt8} (h : rdF l ([0, 0, 0, 0, 0, 0, 0, 0, 0], 0) = none) : NoPs l := fun vs h9 ho e => by
  rw [e, rd_all h9 ho] at h
  cases h
theorem sv_set (fs : List Int) (p : Nat) (v : Int) (h9 : fs.length = 9) (hp : p < 9) : (#[.int .i64 (el fs 0), .int .i64 (el fs 1), .int .i64 (el fs 2), .int .i64 (el fs 3), .int .i64 (el fs 4), .int .i64 (el fs 5), .int .i64 (el fs 6), .int .i64 (el fs 7), .int .i64 (el fs 8)] : Array Value).setIfInBounds p (.int .i64 v) = #[.int .i64 (el (fs.set p v) 0), .int .i64 (el (fs.set p v) 1), .int .i64 (el (fs.set p v) 2), .int .i64 (el (fs.set p v) 3), .int .i64 (el (fs.set p v) 4), .int .i64 (el (fs.set p v) 5), .int .i64 (el (fs.set p v) 6), .int .i64 (el (fs.set p v) 7), .int .i64 (el (fs.set p v) 8)] := by
  obtain ⟨f0, f1, f2, f3, f4, f5, f6, f7, f8, rfl⟩ : ∃ f0 f1 f2 f3 f4 f5 f6 f7 f8, fs = [f0, f1, f2, f3, f4, f5, f6, f7, f8] := by
    match fs, h9 with
    | [f0, f1, f2, f3, f4, f5, f6, f7, f8], _ => exact ⟨f0, f1, f2, f3, f4, f5, f6, f7, f8, rfl⟩
  have h : p = 0 ∨ p = 1 ∨ p = 2 ∨ p = 3 ∨ p = 4 ∨ p = 5 ∨ p = 6 ∨ p = 7 ∨ p = 8 := by omega
  rcases h with rfl | rfl | rfl | rfl | rfl | rfl | rfl | rfl | rfl <;> rfl
theorem sv_at (fs : List Int) (p : Nat) (hp : p < 9) : (#[.int .i64 (el fs 0), .int .i64 (el fs 1), .int .i64 (el fs 2), .int .i64 (el fs 3), .int .i64 (el fs 4), .int .i64 (el fs 5), .int .i64 (el fs 6), .int .i64 (el fs 7), .int .i64 (el fs 8)] : Array Value)[p]? = some (.int .i64 (el fs p)) := by
  have h : p = 0 ∨ p = 1 ∨ p = 2 ∨ p = 3 ∨ p = 4 ∨ p = 5 ∨ p = 6 ∨ p = 7 ∨ p = 8 := by omega
  rcases h with rfl | rfl | rfl | rfl | rfl | rfl | rfl | rfl | rfl <;> rfl
theorem small_at {fs : List Int} {q : Nat} (h : smallF fs) (hq : q < 9) : 0 ≤ el fs q := by
  have hl : q < fs.length := by rw [h.1]; exact hq
  have : el fs q ∈ fs := by
    simp only [el, List.getD, List.getElem?_eq_getElem hl, Option.getD_some]
    exact List.getElem_mem hl
  exact (h.2 _ this).1
theorem most_at {W : World} {hi : Nat} (ht : Tabs W hi) (p : Nat) (hp : p < 9) : W.cell? ⟨0, p, none⟩ = some (.int .i64 (el mostL p)) := by
  have h : p = 0 ∨ p = 1 ∨ p = 2 ∨ p = 3 ∨ p = 4 ∨ p = 5 ∨ p = 6 ∨ p = 7 ∨ p = 8 := by omega
  rcases h with rfl | rfl | rfl | rfl | rfl | rfl | rfl | rfl | rfl
  · exact ht.m0
  · exact ht.m1
  · exact ht.m2
  · exact ht.m3
  · exact ht.m4
  · exact ht.m5
  · exact ht.m6
  · exact ht.m7
  · exact ht.m8
set_option maxHeartbeats 4000000 in
set_option maxRecDepth 100000 in
theorem readF_x (l : List UInt8) (hi : Nat) (w : World) (ht : Tabs w hi) (hB : hi ≤ w.heap.size) : Calls Tryd.prog 35 #[.string (str l)] w (RdPost l w) := by
  have HT := Lib.hid ht
  have INF : Hid ((Tryd.prog.info? 67).map (·.size) = some 9) := Lib.hid (by kernel_rfl)
  have b0 := (Below.refl w.heap.size w).alloc (Nat.le_refl _) (.cells #[.int .i64 0, .int .i64 0, .int .i64 0, .int .i64 0, .int .i64 0, .int .i64 0, .int .i64 0, .int .i64 0, .int .i64 0] 67)
  have b1 := b0.alloc b0.size (.cells #[.int .i64 0, .int .i64 0, .int .i64 0, .int .i64 0, .int .i64 0, .int .i64 0, .int .i64 0, .int .i64 0, .int .i64 0] 67)
  have B1 := Lib.hid b1
  have K0 := Lib.hid ((Blk.new w 67 #[.int .i64 0, .int .i64 0, .int .i64 0, .int .i64 0, .int .i64 0, .int .i64 0, .int .i64 0, .int .i64 0, .int .i64 0]).alloc (.cells #[.int .i64 0, .int .i64 0, .int .i64 0, .int .i64 0, .int .i64 0, .int .i64 0, .int .i64 0, .int .i64 0, .int .i64 0] 67))
  have f0 := Blk.new (w.alloc (.cells #[.int .i64 0, .int .i64 0, .int .i64 0, .int .i64 0, .int .i64 0, .int .i64 0, .int .i64 0, .int .i64 0, .int .i64 0] 67)) 67 #[.int .i64 0, .int .i64 0, .int .i64 0, .int .i64 0, .int .i64 0, .int .i64 0, .int .i64 0, .int .i64 0, .int .i64 0]
  rw [World.size_alloc] at f0
  have F0 := Lib.hid f0
  clear ht b0 b1 f0
  go_enter Tryd.func35, Tryd.ntmps35
  go_wp2
  go_loopw [5] (fun p wr => ∃ (pos : Nat) (fs : List Int) (q : Nat), pos ≤ l.length ∧ p = .int .i64 q ∧ rdF (l.take pos) ([0, 0, 0, 0, 0, 0, 0, 0, 0], 0) = some (fs, q) ∧ smallF fs ∧ q ≤ 8 ∧ Below w.heap.size w wr ∧ Blk wr w.heap.size 67 #[.int .i64 0, .int .i64 0, .int .i64 0, .int .i64 0, .int .i64 0, .int .i64 0, .int .i64 0, .int .i64 0, .int .i64 0] ∧ Blk wr (w.heap.size + 1) 67 #[.int .i64 (el fs 0), .int .i64 (el fs 1), .int .i64 (el fs 2), .int .i64 (el fs 3), .int .i64 (el fs 4), .int .i64 (el fs 5), .int .i64 (el fs 6), .int .i64 (el fs 7), .int .i64 (el fs 8)] ∧ wr.heap[w.heap.size + 1 + 1]? = some (.stringIter (str l) pos)) (fun _ wr => l.length - wr.iterPos (w.heap.size + 1 + 1))
  case atStart =>
    refine ⟨0, [0, 0, 0, 0, 0, 0, 0, 0, 0], 0, Nat.zero_le _, rfl, rfl, ⟨rfl, by decide⟩, by omega, ?_, ?_, ?_, ?_⟩
    · exact B1.out.alloc B1.out.size _
    · exact K0.out.alloc _
    · exact F0.out.alloc _
    · have z := World.iter_heap ((w.alloc (.cells #[.int .i64 0, .int .i64 0, .int .i64 0, .int .i64 0, .int .i64 0, .int .i64 0, .int .i64 0, .int .i64 0, .int .i64 0] 67)).alloc (.cells #[.int .i64 0, .int .i64 0, .int .i64 0, .int .i64 0, .int .i64 0, .int .i64 0, .int .i64 0, .int .i64 0, .int .i64 0] 67)) (str l) 0
      simpa using z
  case round =>
    obtain ⟨pos, fs, q, hpl, rfl, hrd, hsm, hq, hb, hk, hf, hit⟩ := hrel
    have HRD := Lib.hid hrd
    have HSM := Lib.hid hsm
    have hq9 : q < 9 := by omega
    have hqi : (q : Int) < 9 := by omega
    have IP : Hid (wr.iterPos (w.heap.size + 1 + 1) = pos) := Lib.hid (by simp [World.iterPos, hit])
    have bi := fun p2 => Lib.below_iterAt (Below.refl (w.heap.size + 1 + 1) wr) (Nat.le_refl _) (str l) p2
    have B2 := Lib.hid (fun p2 => hb.trans ((bi p2).mono (by omega)))
    have KI := Lib.hid (fun p2 => hk.belowB (bi p2) (by omega))
    have FI := Lib.hid (fun p2 => hf.belowB (bi p2) (by omega))
    have II := Lib.hid (fun p2 => Lib.iterAt_heap wr (w.heap.size + 1 + 1) (str l) pos p2 hit)
    have SVAT := Lib.hid (sv_at fs q hq9)
    have BW := Lib.hid hb
    have KW := Lib.hid hk
    have FW := Lib.hid hf
    by_cases hlt : pos < l.length
    · have hps : pos < (str l).size := by rw [str_size]; exact hlt
      have hsb : ((str l)[pos]'hps).toNat = (l[pos]'hlt).toNat := rfl
      by_cases hasc : (l[pos]'hlt).toNat < 128
      · have hnx : ∀ ty, (Instr.next (.pointer (some ⟨w.heap.size + 1 + 1, 0, none⟩)) true ty).run Tryd.prog wr = .ok (.tuple #[.bool true, .int .i64 pos, .int .i32 ((l[pos]'hlt).toNat : Nat)]) (wr.iterAt (w.heap.size + 1 + 1) (str l) (pos + 1)) := fun ty => Lib.run_next_ascii_at wr (w.heap.size + 1 + 1) (str l) pos ty hit hps hasc
        have HNO := Lib.hid (fun h => rd_none (rd_stop hlt HRD.out h))
        have HON := Lib.hid (fun st h => rd_on (st' := st) hlt HRD.out h)
        have HSS := Lib.hid (fun fs2 q2 h => rdStep_small (fs := fs) (p := q) (fs' := fs2) (p' := q2) (b := l[pos]'hlt) ⟨HSM.out, hq⟩ h)
        have HRS : Hid (∀ n : Nat, n = (l[pos]'hlt).toNat → rdStep (fs, q) (l[pos]'hlt) = if n = 32 ∧ q < 8 then some (fs, q + 1) else if 48 ≤ n ∧ n ≤ 57 ∧ el fs q ≤ el mostL q then some (fs.set q (10 * el fs q + ((n - 48 : Nat) : Int)), q) else none) := Lib.hid (fun n h => by subst h; rfl)
        obtain ⟨r, hr⟩ : ∃ r : Nat, r = (l[pos]'hlt).toNat := ⟨_, rfl⟩
        have HRS := Lib.hid (HRS.out r hr)
        rw [← hr] at hnx hasc
        generalize l[pos]'hlt = bb at HNO HON HSS HRS hr hsb
        clear hr hsb hb hk hf hrd hsm bi
        by_cases h32 : r = 32
        · have hb32 : (((r : Nat) : Int) == 32) = true := by simp; omega
          have hd48 : decide ((48 : Int) ≤ (r : Int)) = false := by simp; omega
          have H32 := Lib.hid h32
          clear h32
          by_cases hq8 : q < 8
          · have hq8i : (q : Int) < 8 := by omega
            have HE := Lib.hid (HRS.out.trans (if_pos ⟨H32.out, hq8⟩))
            have N1 := Lib.hid (HON.out _ HE.out)
            have N2 := Lib.hid (HSS.out _ _ HE.out)
            have K5 := Lib.hid (KI.out (pos + 1))
            have B5 := Lib.hid (B2.out (pos + 1))
            have F5 := Lib.hid (FI.out (pos + 1))
            have I5 := Lib.hid (II.out (pos + 1))
            go_wp2
            go_roundw
            case rel => exact ⟨pos + 1, fs, q + 1, by omega, by go_num, N1.out, N2.out.1, N2.out.2, B5.out, K5.out, F5.out, I5.out⟩
            case measure => rw [IP.out]; simp [World.iterPos, I5.out]; omega
          · have hq8i : ¬ (q : Int) < 8 := by omega
            have HE := Lib.hid (HRS.out.trans ((if_neg (by omega)).trans (if_neg (by have := H32.out; omega))))
            go_wp2_with fail
            have K5 := Lib.hid (KI.out (pos + 1)).drew
            have B5 := Lib.hid (B2.out (pos + 1)).drew
            have F5 := Lib.hid (FI.out (pos + 1)).drew
            have I5 := Lib.hid (II.out (pos + 1))
            refine wp_region_held_drew (S := fun W => Blk W (w.heap.size + 1) 67 #[.int .i64 (el fs 0), .int .i64 (el fs 1), .int .i64 (el fs 2), .int .i64 (el fs 3), .int .i64 (el fs 4), .int .i64 (el fs 5), .int .i64 (el fs 6), .int .i64 (el fs 7), .int .i64 (el fs 8)] ∧ Tabs W hi) (by kernel_rfl) ⟨F5.out, HT.out.below (B5.out.mono hB)⟩ (fun hHeld => ?_)
            refine' wpAnyH_take (i := 0) (oi := ⟨some 24, _, _, _, _, _⟩) (v := .int .i32 (r : Int)) rfl (by kernel_rfl) (by kernel_rfl) (by kernel_rfl) (fun _ _ _ h => h) (.inl ⟨by kernel_rfl, fun W hW => by go_simp⟩) hHeld ?_
            simp only [Act.put, List.setIfInBounds_toArray, List.set_cons_zero, List.set_cons_succ]
            refine' wpAnyH_take (i := 1) (oi := ⟨some 25, _, _, _, _, _⟩) (v := .bool false) rfl (by kernel_rfl) (by kernel_rfl) (by kernel_rfl) (fun _ _ _ h => h) (.inl ⟨by kernel_rfl, fun W hW => by go_simp⟩) hHeld ?_
            simp only [Act.put, List.setIfInBounds_toArray, List.set_cons_zero, List.set_cons_succ]
            refine' wpAnyH_take (i := 2) (oi := ⟨some 26, _, _, _, _, _⟩) (v := .bool false) rfl (by kernel_rfl) (by kernel_rfl) (by kernel_rfl) (fun _ _ _ h => h) (.inl ⟨by kernel_rfl, fun W hW => by go_simp⟩) hHeld ?_
            simp only [Act.put, List.setIfInBounds_toArray, List.set_cons_zero, List.set_cons_succ]
            refine' wpAnyH_take (i := 3) (oi := ⟨some 27, _, _, _, _, _⟩) (v := undef) rfl (by kernel_rfl) (by kernel_rfl) (by kernel_rfl) (fun _ _ _ h => h) (.inr ⟨by kernel_rfl, rfl⟩) hHeld ?_
            simp only [Act.put, List.setIfInBounds_toArray, List.set_cons_zero, List.set_cons_succ]
            refine' wpAnyH_take (i := 4) (oi := ⟨some 28, _, _, _, _, _⟩) (v := undef) rfl (by kernel_rfl) (by kernel_rfl) (by kernel_rfl) (fun _ _ _ h => h) (.inr ⟨by kernel_rfl, rfl⟩) hHeld ?_
            simp only [Act.put, List.setIfInBounds_toArray, List.set_cons_zero, List.set_cons_succ]
            refine' wpAnyH_take (i := 5) (oi := ⟨some 29, _, _, _, _, _⟩) (v := .bool false) rfl (by kernel_rfl) (by kernel_rfl) (by kernel_rfl) (fun _ _ _ h => h) (.inl ⟨by kernel_rfl, fun W hW => by go_simp⟩) hHeld ?_
            simp only [Act.put, List.setIfInBounds_toArray, List.set_cons_zero, List.set_cons_succ]
            refine' wpAnyH_take (i := 6) (oi := ⟨some 30, _, _, _, _, _⟩) (v := .bool false) rfl (by kernel_rfl) (by kernel_rfl) (by kernel_rfl) (fun _ _ _ h => h) (.inl ⟨by kernel_rfl, fun W hW => by go_simp⟩) hHeld ?_
            simp only [Act.put, List.setIfInBounds_toArray, List.set_cons_zero, List.set_cons_succ]
            refine' wpAnyH_take (i := 7) (oi := ⟨some 31, _, _, _, _, _⟩) (v := undef) rfl (by kernel_rfl) (by kernel_rfl) (by kernel_rfl) (fun _ _ _ h => h) (.inr ⟨by kernel_rfl, rfl⟩) hHeld ?_
            simp only [Act.put, List.setIfInBounds_toArray, List.set_cons_zero, List.set_cons_succ]
            refine' wpAnyH_take (i := 8) (oi := ⟨some 32, _, _, _, _, _⟩) (v := undef) rfl (by kernel_rfl) (by kernel_rfl) (by kernel_rfl) (fun _ _ _ h => h) (.inr ⟨by kernel_rfl, rfl⟩) hHeld ?_
            simp only [Act.put, List.setIfInBounds_toArray, List.set_cons_zero, List.set_cons_succ]
            refine' wpAnyH_take (i := 9) (oi := ⟨some 33, _, _, _, _, _⟩) (v := undef) rfl (by kernel_rfl) (by kernel_rfl) (by kernel_rfl) (fun _ _ _ h => h) (.inr ⟨by kernel_rfl, rfl⟩) hHeld ?_
            simp only [Act.put, List.setIfInBounds_toArray, List.set_cons_zero, List.set_cons_succ]
            refine' wpAnyH_take (i := 10) (oi := ⟨some 34, _, _, _, _, _⟩) (v := undef) rfl (by kernel_rfl) (by kernel_rfl) (by kernel_rfl) (fun _ _ _ h => h) (.inr ⟨by kernel_rfl, rfl⟩) hHeld ?_
            simp only [Act.put, List.setIfInBounds_toArray, List.set_cons_zero, List.set_cons_succ]
            refine' wpAnyH_take (i := 11) (oi := ⟨some 35, _, _, _, _, _⟩) (v := undef) rfl (by kernel_rfl) (by kernel_rfl) (by kernel_rfl) (fun _ _ _ h => h) (.inr ⟨by kernel_rfl, rfl⟩) hHeld ?_
            simp only [Act.put, List.setIfInBounds_toArray, List.set_cons_zero, List.set_cons_succ]
            refine' wpAnyH_take (i := 12) (oi := ⟨some 36, _, _, _, _, _⟩) (v := undef) rfl (by kernel_rfl) (by kernel_rfl) (by kernel_rfl) (fun _ _ _ h => h) (.inr ⟨by kernel_rfl, rfl⟩) hHeld ?_
            simp only [Act.put, List.setIfInBounds_toArray, List.set_cons_zero, List.set_cons_succ]
            refine' wpAnyH_take (i := 13) (oi := ⟨some 37, _, _, _, _, _⟩) (v := undef) rfl (by kernel_rfl) (by kernel_rfl) (by kernel_rfl) (fun _ _ _ h => h) (.inr ⟨by kernel_rfl, rfl⟩) hHeld ?_
            simp only [Act.put, List.setIfInBounds_toArray, List.set_cons_zero, List.set_cons_succ]
            refine' wpAnyH_take (i := 14) (oi := ⟨some 38, _, _, _, _, _⟩) (v := .bool false) rfl (by kernel_rfl) (by kernel_rfl) (by kernel_rfl) (fun _ _ _ h => h) (.inl ⟨by kernel_rfl, fun W hW => by go_simp⟩) hHeld ?_
            simp only [Act.put, List.setIfInBounds_toArray, List.set_cons_zero, List.set_cons_succ]
            refine' wpAnyH_take (i := 15) (oi := ⟨some 23, _, _, _, _, _⟩) (v := .bool false) rfl (by kernel_rfl) (by kernel_rfl) (by kernel_rfl) (fun _ _ _ h => h) (.inl ⟨by kernel_rfl, fun W hW => by go_simp⟩) hHeld ?_
            simp only [Act.put, List.setIfInBounds_toArray, List.set_cons_zero, List.set_cons_succ]
            refine wpAnyH_done (by kernel_rfl) ?_ _
            clear hHeld
            have NX := Lib.hid (HNO.out HE.out : NoPs l)
            have TH : Hid (_) := Lib.hid (blk_there K5.out (by decide) : World.there _ w.heap.size 0 9)
            have KZ := Lib.hid (blk_full ([.int .i64 0, .int .i64 0, .int .i64 0, .int .i64 0, .int .i64 0, .int .i64 0, .int .i64 0, .int .i64 0, .int .i64 0] : List Value) K5.out rfl)
            have BZ := Lib.hid (below_setCells ([.int .i64 0, .int .i64 0, .int .i64 0, .int .i64 0, .int .i64 0, .int .i64 0, .int .i64 0, .int .i64 0, .int .i64 0] : List Value) (Nat.le_refl _) 0 B5.out)
            go_wp2_with (refine wpList_store_to rfl 67 _ _ rfl w.heap.size 0 #[.int .i64 0, .int .i64 0, .int .i64 0, .int .i64 0, .int .i64 0, .int .i64 0, .int .i64 0, .int .i64 0, .int .i64 0] rfl rfl TH.out INF.out (by simp [Value.oneCell']) rfl ?_)
            exact bodyPost_ret (results_cell_tmp Tryd.results35 _ _ w.heap.size 67 #[.int .i64 0, .int .i64 0, .int .i64 0, .int .i64 0, .int .i64 0, .int .i64 0, .int .i64 0, .int .i64 0, .int .i64 0] (0, 0) _ (.bool false) rfl rfl KZ.out Tryd.underlying67 rfl INF.out) rfl ⟨[0, 0, 0, 0, 0, 0, 0, 0, 0], false, rfl, ⟨rfl, by decide⟩, fun vs h9 ho e => absurd e (NX.out vs h9 ho), BZ.out⟩
        · have hb32 : (((r : Nat) : Int) == 32) = false := by simp; omega
          by_cases h48 : 48 ≤ r
          · have hd48 : decide ((48 : Int) ≤ (r : Int)) = true := by simp; omega
            by_cases h57 : r ≤ 57
            · have hd57 : decide ((r : Int) ≤ (57 : Int)) = true := by simp; omega
              by_cases hm : el fs q ≤ el mostL q
              · have hdm : decide (el fs q ≤ el mostL q) = true := decide_eq_true hm
                have HE := Lib.hid (HRS.out.trans ((if_neg (by omega)).trans (if_pos ⟨h48, h57, hm⟩)))
                have N1 := Lib.hid (HON.out _ HE.out)
                have N2 := Lib.hid (HSS.out _ _ HE.out)
                have hx1 := most_le q
                have hx0 := small_at HSM.out hq9
                go_wp2_with fail
                have K5 := Lib.hid (KI.out (pos + 1)).drew
                have B5 := Lib.hid (B2.out (pos + 1)).drew
                have F5 := Lib.hid (FI.out (pos + 1)).drew
                have I5 := Lib.hid (II.out (pos + 1))
                refine wp_region_held_drew (S := fun W => Blk W (w.heap.size + 1) 67 #[.int .i64 (el fs 0), .int .i64 (el fs 1), .int .i64 (el fs 2), .int .i64 (el fs 3), .int .i64 (el fs 4), .int .i64 (el fs 5), .int .i64 (el fs 6), .int .i64 (el fs 7), .int .i64 (el fs 8)] ∧ Tabs W hi) (by kernel_rfl) ⟨F5.out, HT.out.below (B5.out.mono hB)⟩ (fun hHeld => ?_)
                refine' wpAnyH_take (i := 0) (oi := ⟨some 24, _, _, _, _, _⟩) (v := .int .i32 (r : Int)) rfl (by kernel_rfl) (by kernel_rfl) (by kernel_rfl) (fun _ _ _ h => h) (.inl ⟨by kernel_rfl, fun W hW => by go_simp⟩) hHeld ?_
                simp only [Act.put, List.setIfInBounds_toArray, List.set_cons_zero, List.set_cons_succ]
                refine' wpAnyH_take (i := 1) (oi := ⟨some 25, _, _, _, _, _⟩) (v := .bool true) rfl (by kernel_rfl) (by kernel_rfl) (by kernel_rfl) (fun _ _ _ h => h) (.inl ⟨by kernel_rfl, fun W hW => by go_simp⟩) hHeld ?_
                simp only [Act.put, List.setIfInBounds_toArray, List.set_cons_zero, List.set_cons_succ]
                refine' wpAnyH_take (i := 2) (oi := ⟨some 26, _, _, _, _, _⟩) (v := .bool true) rfl (by kernel_rfl) (by kernel_rfl) (by kernel_rfl) (fun _ _ _ h => h) (.inl ⟨by kernel_rfl, fun W hW => by go_simp⟩) hHeld ?_
                simp only [Act.put, List.setIfInBounds_toArray, List.set_cons_zero, List.set_cons_succ]
                refine' wpAnyH_take (i := 3) (oi := ⟨some 27, _, _, _, _, _⟩) (v := .int .i32 (r : Int)) rfl (by kernel_rfl) (by kernel_rfl) (by kernel_rfl) (fun _ _ _ h => h) (.inl ⟨by kernel_rfl, fun W hW => by go_simp⟩) hHeld ?_
                simp only [Act.put, List.setIfInBounds_toArray, List.set_cons_zero, List.set_cons_succ]
                refine' wpAnyH_take (i := 4) (oi := ⟨some 28, _, _, _, _, _⟩) (v := .bool true) rfl (by kernel_rfl) (by kernel_rfl) (by kernel_rfl) (fun _ _ _ h => h) (.inl ⟨by kernel_rfl, fun W hW => by go_simp⟩) hHeld ?_
                simp only [Act.put, List.setIfInBounds_toArray, List.set_cons_zero, List.set_cons_succ]
                refine' wpAnyH_take (i := 5) (oi := ⟨some 29, _, _, _, _, _⟩) (v := .bool true) rfl (by kernel_rfl) (by kernel_rfl) (by kernel_rfl) (fun _ _ _ h => h) (.inl ⟨by kernel_rfl, fun W hW => by go_simp⟩) hHeld ?_
                simp only [Act.put, List.setIfInBounds_toArray, List.set_cons_zero, List.set_cons_succ]
                refine' wpAnyH_take (i := 6) (oi := ⟨some 30, _, _, _, _, _⟩) (v := .bool true) rfl (by kernel_rfl) (by kernel_rfl) (by kernel_rfl) (fun _ _ _ h => h) (.inl ⟨by kernel_rfl, fun W hW => by go_simp⟩) hHeld ?_
                simp only [Act.put, List.setIfInBounds_toArray, List.set_cons_zero, List.set_cons_succ]
                refine' wpAnyH_take (i := 7) (oi := ⟨some 31, _, _, _, _, _⟩) (v := .int .i64 (q : Int)) rfl (by kernel_rfl) (by kernel_rfl) (by kernel_rfl) (fun _ _ _ h => h) (.inl ⟨by kernel_rfl, fun W hW => by go_simp⟩) hHeld ?_
                simp only [Act.put, List.setIfInBounds_toArray, List.set_cons_zero, List.set_cons_succ]
                refine' wpAnyH_take (i := 8) (oi := ⟨some 32, _, _, _, _, _⟩) (v := .pointer (some ⟨w.heap.size + 1, q, none⟩)) rfl (by kernel_rfl) (by kernel_rfl) (by kernel_rfl) (fun _ _ _ h => h) (.inl ⟨by kernel_rfl, fun W hW => by go_simp⟩) hHeld ?_
                simp only [Act.put, List.setIfInBounds_toArray, List.set_cons_zero, List.set_cons_succ]
                refine' wpAnyH_take (i := 9) (oi := ⟨some 33, _, _, _, _, _⟩) (v := .int .i64 (el fs q)) rfl (by kernel_rfl) (by kernel_rfl) (by kernel_rfl) (fun _ _ _ h => h) (.inl ⟨by kernel_rfl, fun W hW => by have g := (hW.1.cell q).trans SVAT.out; go_simp⟩) hHeld ?_
                simp only [Act.put, List.setIfInBounds_toArray, List.set_cons_zero, List.set_cons_succ]
                refine' wpAnyH_take (i := 10) (oi := ⟨some 34, _, _, _, _, _⟩) (v := .int .i64 (q : Int)) rfl (by kernel_rfl) (by kernel_rfl) (by kernel_rfl) (fun _ _ _ h => h) (.inl ⟨by kernel_rfl, fun W hW => by go_simp⟩) hHeld ?_
                simp only [Act.put, List.setIfInBounds_toArray, List.set_cons_zero, List.set_cons_succ]
                refine' wpAnyH_take (i := 11) (oi := ⟨some 35, _, _, _, _, _⟩) (v := .pointer (some ⟨0, q, none⟩)) rfl (by kernel_rfl) (by kernel_rfl) (by kernel_rfl) (fun _ _ _ h => h) (.inl ⟨by kernel_rfl, fun W hW => by go_simp⟩) hHeld ?_
                simp only [Act.put, List.setIfInBounds_toArray, List.set_cons_zero, List.set_cons_succ]
                refine' wpAnyH_take (i := 12) (oi := ⟨some 36, _, _, _, _, _⟩) (v := .int .i64 (el mostL q)) rfl (by kernel_rfl) (by kernel_rfl) (by kernel_rfl) (fun _ _ _ h => h) (.inl ⟨by kernel_rfl, fun W hW => by have g := most_at hW.2 q hq9; go_simp⟩) hHeld ?_
                simp only [Act.put, List.setIfInBounds_toArray, List.set_cons_zero, List.set_cons_succ]
                refine' wpAnyH_take (i := 13) (oi := ⟨some 37, _, _, _, _, _⟩) (v := .bool true) rfl (by kernel_rfl) (by kernel_rfl) (by kernel_rfl) (fun _ _ _ h => h) (.inl ⟨by kernel_rfl, fun W hW => by go_simp⟩) hHeld ?_
                simp only [Act.put, List.setIfInBounds_toArray, List.set_cons_zero, List.set_cons_succ]
                refine' wpAnyH_take (i := 14) (oi := ⟨some 38, _, _, _, _, _⟩) (v := .bool true) rfl (by kernel_rfl) (by kernel_rfl) (by kernel_rfl) (fun _ _ _ h => h) (.inl ⟨by kernel_rfl, fun W hW => by go_simp⟩) hHeld ?_
                simp only [Act.put, List.setIfInBounds_toArray, List.set_cons_zero, List.set_cons_succ]
                refine' wpAnyH_take (i := 15) (oi := ⟨some 23, _, _, _, _, _⟩) (v := .bool true) rfl (by kernel_rfl) (by kernel_rfl) (by kernel_rfl) (fun _ _ _ h => h) (.inl ⟨by kernel_rfl, fun W hW => by go_simp⟩) hHeld ?_
                simp only [Act.put, List.setIfInBounds_toArray, List.set_cons_zero, List.set_cons_succ]
                refine wpAnyH_done (by kernel_rfl) ?_ _
                clear hHeld
                have gx := (F5.out.cell q).trans SVAT.out
                have HFS := Lib.hid (sv_set fs q (10 * el fs q + ((r - 48 : Nat) : Int)) HSM.out.1 hq9)
                have HV : Hid (10 * el fs q + ((r : Int) - 48) = 10 * el fs q + ((r - 48 : Nat) : Int)) := Lib.hid (by omega)
                have BS := Lib.hid (below_setCells [(.int .i64 (10 * el fs q + ((r : Int) - 48)))] (show w.heap.size ≤ w.heap.size + 1 by omega) q (B2.out (pos + 1))).drew
                have KS := Lib.hid (hblk_far (KI.out (pos + 1)) (p := ⟨w.heap.size + 1, q, none⟩) (by simp) (.int .i64 (10 * el fs q + ((r : Int) - 48)))).drew
                have fz := ((FI.out (pos + 1)).put_ q (.int .i64 (10 * el fs q + ((r : Int) - 48)))).drew
                rw [(congrArg (fun v => (#[.int .i64 (el fs 0), .int .i64 (el fs 1), .int .i64 (el fs 2), .int .i64 (el fs 3), .int .i64 (el fs 4), .int .i64 (el fs 5), .int .i64 (el fs 6), .int .i64 (el fs 7), .int .i64 (el fs 8)] : Array Value).setIfInBounds q (.int .i64 v)) HV.out).trans HFS.out] at fz
                have FS := Lib.hid fz
                have IS := Lib.hid ((Below.heap_setCell (wr.iterAt (w.heap.size + 1 + 1) (str l) (pos + 1)) ⟨w.heap.size + 1, q, none⟩ (.int .i64 (10 * el fs q + ((r : Int) - 48))) (w.heap.size + 1 + 1) (by simp)).trans (II.out (pos + 1)))
                have PZ : Hid (∀ W : World, W.heap[w.heap.size + 1 + 1]? = some (.stringIter (str l) (pos + 1)) → W.iterPos (w.heap.size + 1 + 1) = pos + 1) := Lib.hid (fun W h => by simp [World.iterPos, h])
                clear fz
                have gz := (FI.out (pos + 1)).frozen q
                go_wp2_with fail
                exact ⟨⟨pos + 1, _, q, by omega, rfl, N1.out, N2.out.1, N2.out.2, BS.out, KS.out, FS.out, IS.out⟩, by rw [IP.out, PZ.out ((wr.iterAt (w.heap.size + 1 + 1) (str l) (pos + 1)).setCell ⟨w.heap.size + 1, q, none⟩ (.int .i64 (10 * el fs q + ((r : Int) - 48)))).drew IS.out]; omega⟩
              · have hdm : decide (el fs q ≤ el mostL q) = false := decide_eq_false hm
                have HE := Lib.hid (HRS.out.trans ((if_neg (by omega)).trans (if_neg (fun h => hm h.2.2))))
                go_wp2_with fail
                have K5 := Lib.hid (KI.out (pos + 1)).drew
                have B5 := Lib.hid (B2.out (pos + 1)).drew
                have F5 := Lib.hid (FI.out (pos + 1)).drew
                have I5 := Lib.hid (II.out (pos + 1))
                refine wp_region_held_drew (S := fun W => Blk W (w.heap.size + 1) 67 #[.int .i64 (el fs 0), .int .i64 (el fs 1), .int .i64 (el fs 2), .int .i64 (el fs 3), .int .i64 (el fs 4), .int .i64 (el fs 5), .int .i64 (el fs 6), .int .i64 (el fs 7), .int .i64 (el fs 8)] ∧ Tabs W hi) (by kernel_rfl) ⟨F5.out, HT.out.below (B5.out.mono hB)⟩ (fun hHeld => ?_)
                refine' wpAnyH_take (i := 0) (oi := ⟨some 24, _, _, _, _, _⟩) (v := .int .i32 (r : Int)) rfl (by kernel_rfl) (by kernel_rfl) (by kernel_rfl) (fun _ _ _ h => h) (.inl ⟨by kernel_rfl, fun W hW => by go_simp⟩) hHeld ?_
                simp only [Act.put, List.setIfInBounds_toArray, List.set_cons_zero, List.set_cons_succ]
                refine' wpAnyH_take (i := 1) (oi := ⟨some 25, _, _, _, _, _⟩) (v := .bool true) rfl (by kernel_rfl) (by kernel_rfl) (by kernel_rfl) (fun _ _ _ h => h) (.inl ⟨by kernel_rfl, fun W hW => by go_simp⟩) hHeld ?_
                simp only [Act.put, List.setIfInBounds_toArray, List.set_cons_zero, List.set_cons_succ]
                refine' wpAnyH_take (i := 2) (oi := ⟨some 26, _, _, _, _, _⟩) (v := .bool true) rfl (by kernel_rfl) (by kernel_rfl) (by kernel_rfl) (fun _ _ _ h => h) (.inl ⟨by kernel_rfl, fun W hW => by go_simp⟩) hHeld ?_
                simp only [Act.put, List.setIfInBounds_toArray, List.set_cons_zero, List.set_cons_succ]
                refine' wpAnyH_take (i := 3) (oi := ⟨some 27, _, _, _, _, _⟩) (v := .int .i32 (r : Int)) rfl (by kernel_rfl) (by kernel_rfl) (by kernel_rfl) (fun _ _ _ h => h) (.inl ⟨by kernel_rfl, fun W hW => by go_simp⟩) hHeld ?_
                simp only [Act.put, List.setIfInBounds_toArray, List.set_cons_zero, List.set_cons_succ]
                refine' wpAnyH_take (i := 4) (oi := ⟨some 28, _, _, _, _, _⟩) (v := .bool true) rfl (by kernel_rfl) (by kernel_rfl) (by kernel_rfl) (fun _ _ _ h => h) (.inl ⟨by kernel_rfl, fun W hW => by go_simp⟩) hHeld ?_
                simp only [Act.put, List.setIfInBounds_toArray, List.set_cons_zero, List.set_cons_succ]
                refine' wpAnyH_take (i := 5) (oi := ⟨some 29, _, _, _, _, _⟩) (v := .bool true) rfl (by kernel_rfl) (by kernel_rfl) (by kernel_rfl) (fun _ _ _ h => h) (.inl ⟨by kernel_rfl, fun W hW => by go_simp⟩) hHeld ?_
                simp only [Act.put, List.setIfInBounds_toArray, List.set_cons_zero, List.set_cons_succ]
                refine' wpAnyH_take (i := 6) (oi := ⟨some 30, _, _, _, _, _⟩) (v := .bool true) rfl (by kernel_rfl) (by kernel_rfl) (by kernel_rfl) (fun _ _ _ h => h) (.inl ⟨by kernel_rfl, fun W hW => by go_simp⟩) hHeld ?_
                simp only [Act.put, List.setIfInBounds_toArray, List.set_cons_zero, List.set_cons_succ]
                refine' wpAnyH_take (i := 7) (oi := ⟨some 31, _, _, _, _, _⟩) (v := .int .i64 (q : Int)) rfl (by kernel_rfl) (by kernel_rfl) (by kernel_rfl) (fun _ _ _ h => h) (.inl ⟨by kernel_rfl, fun W hW => by go_simp⟩) hHeld ?_
                simp only [Act.put, List.setIfInBounds_toArray, List.set_cons_zero, List.set_cons_succ]
                refine' wpAnyH_take (i := 8) (oi := ⟨some 32, _, _, _, _, _⟩) (v := .pointer (some ⟨w.heap.size + 1, q, none⟩)) rfl (by kernel_rfl) (by kernel_rfl) (by kernel_rfl) (fun _ _ _ h => h) (.inl ⟨by kernel_rfl, fun W hW => by go_simp⟩) hHeld ?_
                simp only [Act.put, List.setIfInBounds_toArray, List.set_cons_zero, List.set_cons_succ]
                refine' wpAnyH_take (i := 9) (oi := ⟨some 33, _, _, _, _, _⟩) (v := .int .i64 (el fs q)) rfl (by kernel_rfl) (by kernel_rfl) (by kernel_rfl) (fun _ _ _ h => h) (.inl ⟨by kernel_rfl, fun W hW => by have g := (hW.1.cell q).trans SVAT.out; go_simp⟩) hHeld ?_
                simp only [Act.put, List.setIfInBounds_toArray, List.set_cons_zero, List.set_cons_succ]
                refine' wpAnyH_take (i := 10) (oi := ⟨some 34, _, _, _, _, _⟩) (v := .int .i64 (q : Int)) rfl (by kernel_rfl) (by kernel_rfl) (by kernel_rfl) (fun _ _ _ h => h) (.inl ⟨by kernel_rfl, fun W hW => by go_simp⟩) hHeld ?_
                simp only [Act.put, List.setIfInBounds_toArray, List.set_cons_zero, List.set_cons_succ]
                refine' wpAnyH_take (i := 11) (oi := ⟨some 35, _, _, _, _, _⟩) (v := .pointer (some ⟨0, q, none⟩)) rfl (by kernel_rfl) (by kernel_rfl) (by kernel_rfl) (fun _ _ _ h => h) (.inl ⟨by kernel_rfl, fun W hW => by go_simp⟩) hHeld ?_
                simp only [Act.put, List.setIfInBounds_toArray, List.set_cons_zero, List.set_cons_succ]
                refine' wpAnyH_take (i := 12) (oi := ⟨some 36, _, _, _, _, _⟩) (v := .int .i64 (el mostL q)) rfl (by kernel_rfl) (by kernel_rfl) (by kernel_rfl) (fun _ _ _ h => h) (.inl ⟨by kernel_rfl, fun W hW => by have g := most_at hW.2 q hq9; go_simp⟩) hHeld ?_
                simp only [Act.put, List.setIfInBounds_toArray, List.set_cons_zero, List.set_cons_succ]
                refine' wpAnyH_take (i := 13) (oi := ⟨some 37, _, _, _, _, _⟩) (v := .bool false) rfl (by kernel_rfl) (by kernel_rfl) (by kernel_rfl) (fun _ _ _ h => h) (.inl ⟨by kernel_rfl, fun W hW => by go_simp⟩) hHeld ?_
                simp only [Act.put, List.setIfInBounds_toArray, List.set_cons_zero, List.set_cons_succ]
                refine' wpAnyH_take (i := 14) (oi := ⟨some 38, _, _, _, _, _⟩) (v := .bool false) rfl (by kernel_rfl) (by kernel_rfl) (by kernel_rfl) (fun _ _ _ h => h) (.inl ⟨by kernel_rfl, fun W hW => by go_simp⟩) hHeld ?_
                simp only [Act.put, List.setIfInBounds_toArray, List.set_cons_zero, List.set_cons_succ]
                refine' wpAnyH_take (i := 15) (oi := ⟨some 23, _, _, _, _, _⟩) (v := .bool false) rfl (by kernel_rfl) (by kernel_rfl) (by kernel_rfl) (fun _ _ _ h => h) (.inl ⟨by kernel_rfl, fun W hW => by go_simp⟩) hHeld ?_
                simp only [Act.put, List.setIfInBounds_toArray, List.set_cons_zero, List.set_cons_succ]
                refine wpAnyH_done (by kernel_rfl) ?_ _
                clear hHeld
                have NX := Lib.hid (HNO.out HE.out : NoPs l)
                have TH : Hid (_) := Lib.hid (blk_there K5.out (by decide) : World.there _ w.heap.size 0 9)
                have KZ := Lib.hid (blk_full ([.int .i64 0, .int .i64 0, .int .i64 0, .int .i64 0, .int .i64 0, .int .i64 0, .int .i64 0, .int .i64 0, .int .i64 0] : List Value) K5.out rfl)
                have BZ := Lib.hid (below_setCells ([.int .i64 0, .int .i64 0, .int .i64 0, .int .i64 0, .int .i64 0, .int .i64 0, .int .i64 0, .int .i64 0, .int .i64 0] : List Value) (Nat.le_refl _) 0 B5.out)
                go_wp2_with (refine wpList_store_to rfl 67 _ _ rfl w.heap.size 0 #[.int .i64 0, .int .i64 0, .int .i64 0, .int .i64 0, .int .i64 0, .int .i64 0, .int .i64 0, .int .i64 0, .int .i64 0] rfl rfl TH.out INF.out (by simp [Value.oneCell']) rfl ?_)
                exact bodyPost_ret (results_cell_tmp Tryd.results35 _ _ w.heap.size 67 #[.int .i64 0, .int .i64 0, .int .i64 0, .int .i64 0, .int .i64 0, .int .i64 0, .int .i64 0, .int .i64 0, .int .i64 0] (0, 0) _ (.bool false) rfl rfl KZ.out Tryd.underlying67 rfl INF.out) rfl ⟨[0, 0, 0, 0, 0, 0, 0, 0, 0], false, rfl, ⟨rfl, by decide⟩, fun vs h9 ho e => absurd e (NX.out vs h9 ho), BZ.out⟩
            · have hd57 : decide ((r : Int) ≤ (57 : Int)) = false := by simp; omega
              have HE := Lib.hid (HRS.out.trans ((if_neg (by omega)).trans (if_neg (by omega))))
              go_wp2_with fail
              have K5 := Lib.hid (KI.out (pos + 1)).drew
              have B5 := Lib.hid (B2.out (pos + 1)).drew
              have F5 := Lib.hid (FI.out (pos + 1)).drew
              have I5 := Lib.hid (II.out (pos + 1))
              refine wp_region_held_drew (S := fun W => Blk W (w.heap.size + 1) 67 #[.int .i64 (el fs 0), .int .i64 (el fs 1), .int .i64 (el fs 2), .int .i64 (el fs 3), .int .i64 (el fs 4), .int .i64 (el fs 5), .int .i64 (el fs 6), .int .i64 (el fs 7), .int .i64 (el fs 8)] ∧ Tabs W hi) (by kernel_rfl) ⟨F5.out, HT.out.below (B5.out.mono hB)⟩ (fun hHeld => ?_)
              refine' wpAnyH_take (i := 0) (oi := ⟨some 24, _, _, _, _, _⟩) (v := .int .i32 (r : Int)) rfl (by kernel_rfl) (by kernel_rfl) (by kernel_rfl) (fun _ _ _ h => h) (.inl ⟨by kernel_rfl, fun W hW => by go_simp⟩) hHeld ?_
              simp only [Act.put, List.setIfInBounds_toArray, List.set_cons_zero, List.set_cons_succ]
              refine' wpAnyH_take (i := 1) (oi := ⟨some 25, _, _, _, _, _⟩) (v := .bool true) rfl (by kernel_rfl) (by kernel_rfl) (by kernel_rfl) (fun _ _ _ h => h) (.inl ⟨by kernel_rfl, fun W hW => by go_simp⟩) hHeld ?_
              simp only [Act.put, List.setIfInBounds_toArray, List.set_cons_zero, List.set_cons_succ]
              refine' wpAnyH_take (i := 2) (oi := ⟨some 26, _, _, _, _, _⟩) (v := .bool true) rfl (by kernel_rfl) (by kernel_rfl) (by kernel_rfl) (fun _ _ _ h => h) (.inl ⟨by kernel_rfl, fun W hW => by go_simp⟩) hHeld ?_
              simp only [Act.put, List.setIfInBounds_toArray, List.set_cons_zero, List.set_cons_succ]
              refine' wpAnyH_take (i := 3) (oi := ⟨some 27, _, _, _, _, _⟩) (v := .int .i32 (r : Int)) rfl (by kernel_rfl) (by kernel_rfl) (by kernel_rfl) (fun _ _ _ h => h) (.inl ⟨by kernel_rfl, fun W hW => by go_simp⟩) hHeld ?_
              simp only [Act.put, List.setIfInBounds_toArray, List.set_cons_zero, List.set_cons_succ]
              refine' wpAnyH_take (i := 4) (oi := ⟨some 28, _, _, _, _, _⟩) (v := .bool false) rfl (by kernel_rfl) (by kernel_rfl) (by kernel_rfl) (fun _ _ _ h => h) (.inl ⟨by kernel_rfl, fun W hW => by go_simp⟩) hHeld ?_
              simp only [Act.put, List.setIfInBounds_toArray, List.set_cons_zero, List.set_cons_succ]
              refine' wpAnyH_take (i := 5) (oi := ⟨some 29, _, _, _, _, _⟩) (v := .bool false) rfl (by kernel_rfl) (by kernel_rfl) (by kernel_rfl) (fun _ _ _ h => h) (.inl ⟨by kernel_rfl, fun W hW => by go_simp⟩) hHeld ?_
              simp only [Act.put, List.setIfInBounds_toArray, List.set_cons_zero, List.set_cons_succ]
              refine' wpAnyH_take (i := 6) (oi := ⟨some 30, _, _, _, _, _⟩) (v := .bool false) rfl (by kernel_rfl) (by kernel_rfl) (by kernel_rfl) (fun _ _ _ h => h) (.inl ⟨by kernel_rfl, fun W hW => by go_simp⟩) hHeld ?_
              simp only [Act.put, List.setIfInBounds_toArray, List.set_cons_zero, List.set_cons_succ]
              refine' wpAnyH_take (i := 7) (oi := ⟨some 31, _, _, _, _, _⟩) (v := undef) rfl (by kernel_rfl) (by kernel_rfl) (by kernel_rfl) (fun _ _ _ h => h) (.inr ⟨by kernel_rfl, rfl⟩) hHeld ?_
              simp only [Act.put, List.setIfInBounds_toArray, List.set_cons_zero, List.set_cons_succ]
              refine' wpAnyH_take (i := 8) (oi := ⟨some 32, _, _, _, _, _⟩) (v := undef) rfl (by kernel_rfl) (by kernel_rfl) (by kernel_rfl) (fun _ _ _ h => h) (.inr ⟨by kernel_rfl, rfl⟩) hHeld ?_
              simp only [Act.put, List.setIfInBounds_toArray, List.set_cons_zero, List.set_cons_succ]
              refine' wpAnyH_take (i := 9) (oi := ⟨some 33, _, _, _, _, _⟩) (v := undef) rfl (by kernel_rfl) (by kernel_rfl) (by kernel_rfl) (fun _ _ _ h => h) (.inr ⟨by kernel_rfl, rfl⟩) hHeld ?_
              simp only [Act.put, List.setIfInBounds_toArray, List.set_cons_zero, List.set_cons_succ]
              refine' wpAnyH_take (i := 10) (oi := ⟨some 34, _, _, _, _, _⟩) (v := undef) rfl (by kernel_rfl) (by kernel_rfl) (by kernel_rfl) (fun _ _ _ h => h) (.inr ⟨by kernel_rfl, rfl⟩) hHeld ?_
              simp only [Act.put, List.setIfInBounds_toArray, List.set_cons_zero, List.set_cons_succ]
              refine' wpAnyH_take (i := 11) (oi := ⟨some 35, _, _, _, _, _⟩) (v := undef) rfl (by kernel_rfl) (by kernel_rfl) (by kernel_rfl) (fun _ _ _ h => h) (.inr ⟨by kernel_rfl, rfl⟩) hHeld ?_
              simp only [Act.put, List.setIfInBounds_toArray, List.set_cons_zero, List.set_cons_succ]
              refine' wpAnyH_take (i := 12) (oi := ⟨some 36, _, _, _, _, _⟩) (v := undef) rfl (by kernel_rfl) (by kernel_rfl) (by kernel_rfl) (fun _ _ _ h => h) (.inr ⟨by kernel_rfl, rfl⟩) hHeld ?_
              simp only [Act.put, List.setIfInBounds_toArray, List.set_cons_zero, List.set_cons_succ]
              refine' wpAnyH_take (i := 13) (oi := ⟨some 37, _, _, _, _, _⟩) (v := undef) rfl (by kernel_rfl) (by kernel_rfl) (by kernel_rfl) (fun _ _ _ h => h) (.inr ⟨by kernel_rfl, rfl⟩) hHeld ?_
              simp only [Act.put, List.setIfInBounds_toArray, List.set_cons_zero, List.set_cons_succ]
              refine' wpAnyH_take (i := 14) (oi := ⟨some 38, _, _, _, _, _⟩) (v := .bool false) rfl (by kernel_rfl) (by kernel_rfl) (by kernel_rfl) (fun _ _ _ h => h) (.inl ⟨by kernel_rfl, fun W hW => by go_simp⟩) hHeld ?_
              simp only [Act.put, List.setIfInBounds_toArray, List.set_cons_zero, List.set_cons_succ]
              refine' wpAnyH_take (i := 15) (oi := ⟨some 23, _, _, _, _, _⟩) (v := .bool false) rfl (by kernel_rfl) (by kernel_rfl) (by kernel_rfl) (fun _ _ _ h => h) (.inl ⟨by kernel_rfl, fun W hW => by go_simp⟩) hHeld ?_
              simp only [Act.put, List.setIfInBounds_toArray, List.set_cons_zero, List.set_cons_succ]
              refine wpAnyH_done (by kernel_rfl) ?_ _
              clear hHeld
              have NX := Lib.hid (HNO.out HE.out : NoPs l)
              have TH : Hid (_) := Lib.hid (blk_there K5.out (by decide) : World.there _ w.heap.size 0 9)
              have KZ := Lib.hid (blk_full ([.int .i64 0, .int .i64 0, .int .i64 0, .int .i64 0, .int .i64 0, .int .i64 0, .int .i64 0, .int .i64 0, .int .i64 0] : List Value) K5.out rfl)
              have BZ := Lib.hid (below_setCells ([.int .i64 0, .int .i64 0, .int .i64 0, .int .i64 0, .int .i64 0, .int .i64 0, .int .i64 0, .int .i64 0, .int .i64 0] : List Value) (Nat.le_refl _) 0 B5.out)
              go_wp2_with (refine wpList_store_to rfl 67 _ _ rfl w.heap.size 0 #[.int .i64 0, .int .i64 0, .int .i64 0, .int .i64 0, .int .i64 0, .int .i64 0, .int .i64 0, .int .i64 0, .int .i64 0] rfl rfl TH.out INF.out (by simp [Value.oneCell']) rfl ?_)
              exact bodyPost_ret (results_cell_tmp Tryd.results35 _ _ w.heap.size 67 #[.int .i64 0, .int .i64 0, .int .i64 0, .int .i64 0, .int .i64 0, .int .i64 0, .int .i64 0, .int .i64 0, .int .i64 0] (0, 0) _ (.bool false) rfl rfl KZ.out Tryd.underlying67 rfl INF.out) rfl ⟨[0, 0, 0, 0, 0, 0, 0, 0, 0], false, rfl, ⟨rfl, by decide⟩, fun vs h9 ho e => absurd e (NX.out vs h9 ho), BZ.out⟩
          · have hd48 : decide ((48 : Int) ≤ (r : Int)) = false := by simp; omega
            have HE := Lib.hid (HRS.out.trans ((if_neg (by omega)).trans (if_neg (by omega))))
            go_wp2_with fail
            have K5 := Lib.hid (KI.out (pos + 1)).drew
            have B5 := Lib.hid (B2.out (pos + 1)).drew
            have F5 := Lib.hid (FI.out (pos + 1)).drew
            have I5 := Lib.hid (II.out (pos + 1))
            refine wp_region_held_drew (S := fun W => Blk W (w.heap.size + 1) 67 #[.int .i64 (el fs 0), .int .i64 (el fs 1), .int .i64 (el fs 2), .int .i64 (el fs 3), .int .i64 (el fs 4), .int .i64 (el fs 5), .int .i64 (el fs 6), .int .i64 (el fs 7), .int .i64 (el fs 8)] ∧ Tabs W hi) (by kernel_rfl) ⟨F5.out, HT.out.below (B5.out.mono hB)⟩ (fun hHeld => ?_)
            refine' wpAnyH_take (i := 0) (oi := ⟨some 24, _, _, _, _, _⟩) (v := .int .i32 (r : Int)) rfl (by kernel_rfl) (by kernel_rfl) (by kernel_rfl) (fun _ _ _ h => h) (.inl ⟨by kernel_rfl, fun W hW => by go_simp⟩) hHeld ?_
            simp only [Act.put, List.setIfInBounds_toArray, List.set_cons_zero, List.set_cons_succ]
            refine' wpAnyH_take (i := 1) (oi := ⟨some 25, _, _, _, _, _⟩) (v := .bool false) rfl (by kernel_rfl) (by kernel_rfl) (by kernel_rfl) (fun _ _ _ h => h) (.inl ⟨by kernel_rfl, fun W hW => by go_simp⟩) hHeld ?_
            simp only [Act.put, List.setIfInBounds_toArray, List.set_cons_zero, List.set_cons_succ]
            refine' wpAnyH_take (i := 2) (oi := ⟨some 26, _, _, _, _, _⟩) (v := .bool false) rfl (by kernel_rfl) (by kernel_rfl) (by kernel_rfl) (fun _ _ _ h => h) (.inl ⟨by kernel_rfl, fun W hW => by go_simp⟩) hHeld ?_
            simp only [Act.put, List.setIfInBounds_toArray, List.set_cons_zero, List.set_cons_succ]
            refine' wpAnyH_take (i := 3) (oi := ⟨some 27, _, _, _, _, _⟩) (v := undef) rfl (by kernel_rfl) (by kernel_rfl) (by kernel_rfl) (fun _ _ _ h => h) (.inr ⟨by kernel_rfl, rfl⟩) hHeld ?_
            simp only [Act.put, List.setIfInBounds_toArray, List.set_cons_zero, List.set_cons_succ]
            refine' wpAnyH_take (i := 4) (oi := ⟨some 28, _, _, _, _, _⟩) (v := undef) rfl (by kernel_rfl) (by kernel_rfl) (by kernel_rfl) (fun _ _ _ h => h) (.inr ⟨by kernel_rfl, rfl⟩) hHeld ?_
            simp only [Act.put, List.setIfInBounds_toArray, List.set_cons_zero, List.set_cons_succ]
            refine' wpAnyH_take (i := 5) (oi := ⟨some 29, _, _, _, _, _⟩) (v := .bool false) rfl (by kernel_rfl) (by kernel_rfl) (by kernel_rfl) (fun _ _ _ h => h) (.inl ⟨by kernel_rfl, fun W hW => by go_simp⟩) hHeld ?_
            simp only [Act.put, List.setIfInBounds_toArray, List.set_cons_zero, List.set_cons_succ]
            refine' wpAnyH_take (i := 6) (oi := ⟨some 30, _, _, _, _, _⟩) (v := .bool false) rfl (by kernel_rfl) (by kernel_rfl) (by kernel_rfl) (fun _ _ _ h => h) (.inl ⟨by kernel_rfl, fun W hW => by go_simp⟩) hHeld ?_
            simp only [Act.put, List.setIfInBounds_toArray, List.set_cons_zero, List.set_cons_succ]
            refine' wpAnyH_take (i := 7) (oi := ⟨some 31, _, _, _, _, _⟩) (v := undef) rfl (by kernel_rfl) (by kernel_rfl) (by kernel_rfl) (fun _ _ _ h => h) (.inr ⟨by kernel_rfl, rfl⟩) hHeld ?_
            simp only [Act.put, List.setIfInBounds_toArray, List.set_cons_zero, List.set_cons_succ]
            refine' wpAnyH_take (i := 8) (oi := ⟨some 32, _, _, _, _, _⟩) (v := undef) rfl (by kernel_rfl) (by kernel_rfl) (by kernel_rfl) (fun _ _ _ h => h) (.inr ⟨by kernel_rfl, rfl⟩) hHeld ?_
            simp only [Act.put, List.setIfInBounds_toArray, List.set_cons_zero, List.set_cons_succ]
            refine' wpAnyH_take (i := 9) (oi := ⟨some 33, _, _, _, _, _⟩) (v := undef) rfl (by kernel_rfl) (by kernel_rfl) (by kernel_rfl) (fun _ _ _ h => h) (.inr ⟨by kernel_rfl, rfl⟩) hHeld ?_
            simp only [Act.put, List.setIfInBounds_toArray, List.set_cons_zero, List.set_cons_succ]
            refine' wpAnyH_take (i := 10) (oi := ⟨some 34, _, _, _, _, _⟩) (v := undef) rfl (by kernel_rfl) (by kernel_rfl) (by kernel_rfl) (fun _ _ _ h => h) (.inr ⟨by kernel_rfl, rfl⟩) hHeld ?_
            simp only [Act.put, List.setIfInBounds_toArray, List.set_cons_zero, List.set_cons_succ]
            refine' wpAnyH_take (i := 11) (oi := ⟨some 35, _, _, _, _, _⟩) (v := undef) rfl (by kernel_rfl) (by kernel_rfl) (by kernel_rfl) (fun _ _ _ h => h) (.inr ⟨by kernel_rfl, rfl⟩) hHeld ?_
            simp only [Act.put, List.setIfInBounds_toArray, List.set_cons_zero, List.set_cons_succ]
            refine' wpAnyH_take (i := 12) (oi := ⟨some 36, _, _, _, _, _⟩) (v := undef) rfl (by kernel_rfl) (by kernel_rfl) (by kernel_rfl) (fun _ _ _ h => h) (.inr ⟨by kernel_rfl, rfl⟩) hHeld ?_
            simp only [Act.put, List.setIfInBounds_toArray, List.set_cons_zero, List.set_cons_succ]
            refine' wpAnyH_take (i := 13) (oi := ⟨some 37, _, _, _, _, _⟩) (v := undef) rfl (by kernel_rfl) (by kernel_rfl) (by kernel_rfl) (fun _ _ _ h => h) (.inr ⟨by kernel_rfl, rfl⟩) hHeld ?_
            simp only [Act.put, List.setIfInBounds_toArray, List.set_cons_zero, List.set_cons_succ]
            refine' wpAnyH_take (i := 14) (oi := ⟨some 38, _, _, _, _, _⟩) (v := .bool false) rfl (by kernel_rfl) (by kernel_rfl) (by kernel_rfl) (fun _ _ _ h => h) (.inl ⟨by kernel_rfl, fun W hW => by go_simp⟩) hHeld ?_
            simp only [Act.put, List.setIfInBounds_toArray, List.set_cons_zero, List.set_cons_succ]
            refine' wpAnyH_take (i := 15) (oi := ⟨some 23, _, _, _, _, _⟩) (v := .bool false) rfl (by kernel_rfl) (by kernel_rfl) (by kernel_rfl) (fun _ _ _ h => h) (.inl ⟨by kernel_rfl, fun W hW => by go_simp⟩) hHeld ?_
            simp only [Act.put, List.setIfInBounds_toArray, List.set_cons_zero, List.set_cons_succ]
            refine wpAnyH_done (by kernel_rfl) ?_ _
            clear hHeld
            have NX := Lib.hid (HNO.out HE.out : NoPs l)
            have TH : Hid (_) := Lib.hid (blk_there K5.out (by decide) : World.there _ w.heap.size 0 9)
            have KZ := Lib.hid (blk_full ([.int .i64 0, .int .i64 0, .int .i64 0, .int .i64 0, .int .i64 0, .int .i64 0, .int .i64 0, .int .i64 0, .int .i64 0] : List Value) K5.out rfl)
            have BZ := Lib.hid (below_setCells ([.int .i64 0, .int .i64 0, .int .i64 0, .int .i64 0, .int .i64 0, .int .i64 0, .int .i64 0, .int .i64 0, .int .i64 0] : List Value) (Nat.le_refl _) 0 B5.out)
            go_wp2_with (refine wpList_store_to rfl 67 _ _ rfl w.heap.size 0 #[.int .i64 0, .int .i64 0, .int .i64 0, .int .i64 0, .int .i64 0, .int .i64 0, .int .i64 0, .int .i64 0, .int .i64 0] rfl rfl TH.out INF.out (by simp [Value.oneCell']) rfl ?_)
            exact bodyPost_ret (results_cell_tmp Tryd.results35 _ _ w.heap.size 67 #[.int .i64 0, .int .i64 0, .int .i64 0, .int .i64 0, .int .i64 0, .int .i64 0, .int .i64 0, .int .i64 0, .int .i64 0] (0, 0) _ (.bool false) rfl rfl KZ.out Tryd.underlying67 rfl INF.out) rfl ⟨[0, 0, 0, 0, 0, 0, 0, 0, 0], false, rfl, ⟨rfl, by decide⟩, fun vs h9 ho e => absurd e (NX.out vs h9 ho), BZ.out⟩
      · have hdh := decode_high (str l) pos hps (by rw [hsb]; omega)
        have hnx : ∀ ty, (Instr.next (.pointer (some ⟨w.heap.size + 1 + 1, 0, none⟩)) true ty).run Tryd.prog wr = .ok (.tuple #[.bool true, .int .i64 pos, .int .i32 (Utf8.decode (str l) pos).1]) (wr.iterAt (w.heap.size + 1 + 1) (str l) (pos + (Utf8.decode (str l) pos).2)) := fun ty => Lib.run_next_any_at wr (w.heap.size + 1 + 1) (str l) pos ty hit hps
        have HNO : Hid (NoPs l) := Lib.hid (rd_none (rd_stop hlt HRD.out (by unfold rdStep; rw [if_neg (by omega), if_neg (by omega)])))
        generalize (Utf8.decode (str l) pos).1 = r at hnx hdh
        generalize (Utf8.decode (str l) pos).2 = ad at hnx hdh
        have hr128 := hdh.1
        clear hdh hsb hasc hb hk hf hrd hsm bi
        have hb32 : (((r : Nat) : Int) == 32) = false := by simp; omega
        have hd48 : decide ((48 : Int) ≤ (r : Int)) = true := by simp; omega
        have hd57 : decide ((r : Int) ≤ (57 : Int)) = false := by simp; omega
        go_wp2_with fail
        have K5 := Lib.hid (KI.out (pos + ad)).drew
        have B5 := Lib.hid (B2.out (pos + ad)).drew
        have F5 := Lib.hid (FI.out (pos + ad)).drew
        have I5 := Lib.hid (II.out (pos + ad))
        refine wp_region_held_drew (S := fun W => Blk W (w.heap.size + 1) 67 #[.int .i64 (el fs 0), .int .i64 (el fs 1), .int .i64 (el fs 2), .int .i64 (el fs 3), .int .i64 (el fs 4), .int .i64 (el fs 5), .int .i64 (el fs 6), .int .i64 (el fs 7), .int .i64 (el fs 8)] ∧ Tabs W hi) (by kernel_rfl) ⟨F5.out, HT.out.below (B5.out.mono hB)⟩ (fun hHeld => ?_)
        refine' wpAnyH_take (i := 0) (oi := ⟨some 24, _, _, _, _, _⟩) (v := .int .i32 (r : Int)) rfl (by kernel_rfl) (by kernel_rfl) (by kernel_rfl) (fun _ _ _ h => h) (.inl ⟨by kernel_rfl, fun W hW => by go_simp⟩) hHeld ?_
        simp only [Act.put, List.setIfInBounds_toArray, List.set_cons_zero, List.set_cons_succ]
        refine' wpAnyH_take (i := 1) (oi := ⟨some 25, _, _, _, _, _⟩) (v := .bool true) rfl (by kernel_rfl) (by kernel_rfl) (by kernel_rfl) (fun _ _ _ h => h) (.inl ⟨by kernel_rfl, fun W hW => by go_simp⟩) hHeld ?_
        simp only [Act.put, List.setIfInBounds_toArray, List.set_cons_zero, List.set_cons_succ]
        refine' wpAnyH_take (i := 2) (oi := ⟨some 26, _, _, _, _, _⟩) (v := .bool true) rfl (by kernel_rfl) (by kernel_rfl) (by kernel_rfl) (fun _ _ _ h => h) (.inl ⟨by kernel_rfl, fun W hW => by go_simp⟩) hHeld ?_
        simp only [Act.put, List.setIfInBounds_toArray, List.set_cons_zero, List.set_cons_succ]
        refine' wpAnyH_take (i := 3) (oi := ⟨some 27, _, _, _, _, _⟩) (v := .int .i32 (r : Int)) rfl (by kernel_rfl) (by kernel_rfl) (by kernel_rfl) (fun _ _ _ h => h) (.inl ⟨by kernel_rfl, fun W hW => by go_simp⟩) hHeld ?_
        simp only [Act.put, List.setIfInBounds_toArray, List.set_cons_zero, List.set_cons_succ]
        refine' wpAnyH_take (i := 4) (oi := ⟨some 28, _, _, _, _, _⟩) (v := .bool false) rfl (by kernel_rfl) (by kernel_rfl) (by kernel_rfl) (fun _ _ _ h => h) (.inl ⟨by kernel_rfl, fun W hW => by go_simp⟩) hHeld ?_
        simp only [Act.put, List.setIfInBounds_toArray, List.set_cons_zero, List.set_cons_succ]
        refine' wpAnyH_take (i := 5) (oi := ⟨some 29, _, _, _, _, _⟩) (v := .bool false) rfl (by kernel_rfl) (by kernel_rfl) (by kernel_rfl) (fun _ _ _ h => h) (.inl ⟨by kernel_rfl, fun W hW => by go_simp⟩) hHeld ?_
        simp only [Act.put, List.setIfInBounds_toArray, List.set_cons_zero, List.set_cons_succ]
        refine' wpAnyH_take (i := 6) (oi := ⟨some 30, _, _, _, _, _⟩) (v := .bool false) rfl (by kernel_rfl) (by kernel_rfl) (by kernel_rfl) (fun _ _ _ h => h) (.inl ⟨by kernel_rfl, fun W hW => by go_simp⟩) hHeld ?_
        simp only [Act.put, List.setIfInBounds_toArray, List.set_cons_zero, List.set_cons_succ]
        refine' wpAnyH_take (i := 7) (oi := ⟨some 31, _, _, _, _, _⟩) (v := undef) rfl (by kernel_rfl) (by kernel_rfl) (by kernel_rfl) (fun _ _ _ h => h) (.inr ⟨by kernel_rfl, rfl⟩) hHeld ?_
        simp only [Act.put, List.setIfInBounds_toArray, List.set_cons_zero, List.set_cons_succ]
        refine' wpAnyH_take (i := 8) (oi := ⟨some 32, _, _, _, _, _⟩) (v := undef) rfl (by kernel_rfl) (by kernel_rfl) (by kernel_rfl) (fun _ _ _ h => h) (.inr ⟨by kernel_rfl, rfl⟩) hHeld ?_
        simp only [Act.put, List.setIfInBounds_toArray, List.set_cons_zero, List.set_cons_succ]
        refine' wpAnyH_take (i := 9) (oi := ⟨some 33, _, _, _, _, _⟩) (v := undef) rfl (by kernel_rfl) (by kernel_rfl) (by kernel_rfl) (fun _ _ _ h => h) (.inr ⟨by kernel_rfl, rfl⟩) hHeld ?_
        simp only [Act.put, List.setIfInBounds_toArray, List.set_cons_zero, List.set_cons_succ]
        refine' wpAnyH_take (i := 10) (oi := ⟨some 34, _, _, _, _, _⟩) (v := undef) rfl (by kernel_rfl) (by kernel_rfl) (by kernel_rfl) (fun _ _ _ h => h) (.inr ⟨by kernel_rfl, rfl⟩) hHeld ?_
        simp only [Act.put, List.setIfInBounds_toArray, List.set_cons_zero, List.set_cons_succ]
        refine' wpAnyH_take (i := 11) (oi := ⟨some 35, _, _, _, _, _⟩) (v := undef) rfl (by kernel_rfl) (by kernel_rfl) (by kernel_rfl) (fun _ _ _ h => h) (.inr ⟨by kernel_rfl, rfl⟩) hHeld ?_
        simp only [Act.put, List.setIfInBounds_toArray, List.set_cons_zero, List.set_cons_succ]
        refine' wpAnyH_take (i := 12) (oi := ⟨some 36, _, _, _, _, _⟩) (v := undef) rfl (by kernel_rfl) (by kernel_rfl) (by kernel_rfl) (fun _ _ _ h => h) (.inr ⟨by kernel_rfl, rfl⟩) hHeld ?_
        simp only [Act.put, List.setIfInBounds_toArray, List.set_cons_zero, List.set_cons_succ]
        refine' wpAnyH_take (i := 13) (oi := ⟨some 37, _, _, _, _, _⟩) (v := undef) rfl (by kernel_rfl) (by kernel_rfl) (by kernel_rfl) (fun _ _ _ h => h) (.inr ⟨by kernel_rfl, rfl⟩) hHeld ?_
        simp only [Act.put, List.setIfInBounds_toArray, List.set_cons_zero, List.set_cons_succ]
        refine' wpAnyH_take (i := 14) (oi := ⟨some 38, _, _, _, _, _⟩) (v := .bool false) rfl (by kernel_rfl) (by kernel_rfl) (by kernel_rfl) (fun _ _ _ h => h) (.inl ⟨by kernel_rfl, fun W hW => by go_simp⟩) hHeld ?_
        simp only [Act.put, List.setIfInBounds_toArray, List.set_cons_zero, List.set_cons_succ]
        refine' wpAnyH_take (i := 15) (oi := ⟨some 23, _, _, _, _, _⟩) (v := .bool false) rfl (by kernel_rfl) (by kernel_rfl) (by kernel_rfl) (fun _ _ _ h => h) (.inl ⟨by kernel_rfl, fun W hW => by go_simp⟩) hHeld ?_
        simp only [Act.put, List.setIfInBounds_toArray, List.set_cons_zero, List.set_cons_succ]
        refine wpAnyH_done (by kernel_rfl) ?_ _
        clear hHeld
        have NX := Lib.hid (HNO.out : NoPs l)
        have TH : Hid (_) := Lib.hid (blk_there K5.out (by decide) : World.there _ w.heap.size 0 9)
        have KZ := Lib.hid (blk_full ([.int .i64 0, .int .i64 0, .int .i64 0, .int .i64 0, .int .i64 0, .int .i64 0, .int .i64 0, .int .i64 0, .int .i64 0] : List Value) K5.out rfl)
        have BZ := Lib.hid (below_setCells ([.int .i64 0, .int .i64 0, .int .i64 0, .int .i64 0, .int .i64 0, .int .i64 0, .int .i64 0, .int .i64 0, .int .i64 0] : List Value) (Nat.le_refl _) 0 B5.out)
        go_wp2_with (refine wpList_store_to rfl 67 _ _ rfl w.heap.size 0 #[.int .i64 0, .int .i64 0, .int .i64 0, .int .i64 0, .int .i64 0, .int .i64 0, .int .i64 0, .int .i64 0, .int .i64 0] rfl rfl TH.out INF.out (by simp [Value.oneCell']) rfl ?_)
        exact bodyPost_ret (results_cell_tmp Tryd.results35 _ _ w.heap.size 67 #[.int .i64 0, .int .i64 0, .int .i64 0, .int .i64 0, .int .i64 0, .int .i64 0, .int .i64 0, .int .i64 0, .int .i64 0] (0, 0) _ (.bool false) rfl rfl KZ.out Tryd.underlying67 rfl INF.out) rfl ⟨[0, 0, 0, 0, 0, 0, 0, 0, 0], false, rfl, ⟨rfl, by decide⟩, fun vs h9 ho e => absurd e (NX.out vs h9 ho), BZ.out⟩
    · obtain rfl : pos = l.length := by omega
      have hnx : ∀ ty, (Instr.next (.pointer (some ⟨w.heap.size + 1 + 1, 0, none⟩)) true ty).run Tryd.prog wr = .ok (.tuple #[.bool false]) wr := fun ty => Lib.run_next_end_at wr (w.heap.size + 1 + 1) (str l) l.length ty hit (by rw [str_size]; omega)
      have HL : Hid (rdF l ([0, 0, 0, 0, 0, 0, 0, 0, 0], 0) = some (fs, q)) := Lib.hid (by rw [← HRD.out, List.take_length])
      clear hb hk hf hrd hsm bi hlt hpl
      have RGF := Lib.hid (range_blk FW.out)
      have TH : Hid (_) := Lib.hid (blk_there KW.out (by decide) : World.there _ w.heap.size 0 9)
      have KZ := Lib.hid (blk_full ([.int .i64 (el fs 0), .int .i64 (el fs 1), .int .i64 (el fs 2), .int .i64 (el fs 3), .int .i64 (el fs 4), .int .i64 (el fs 5), .int .i64 (el fs 6), .int .i64 (el fs 7), .int .i64 (el fs 8)] : List Value) KW.out rfl)
      have BZ := Lib.hid (below_setCells ([.int .i64 (el fs 0), .int .i64 (el fs 1), .int .i64 (el fs 2), .int .i64 (el fs 3), .int .i64 (el fs 4), .int .i64 (el fs 5), .int .i64 (el fs 6), .int .i64 (el fs 7), .int .i64 (el fs 8)] : List Value) (Nat.le_refl _) 0 BW.out)
      go_wp2_with (first | (refine wpList_store_to rfl 67 _ _ rfl w.heap.size 0 #[.int .i64 (el fs 0), .int .i64 (el fs 1), .int .i64 (el fs 2), .int .i64 (el fs 3), .int .i64 (el fs 4), .int .i64 (el fs 5), .int .i64 (el fs 6), .int .i64 (el fs 7), .int .i64 (el fs 8)] rfl rfl TH.out INF.out (by simp [Value.oneCell']) rfl ?_) | (refine wpList_load_mid rfl 67 _ rfl (w.heap.size + 1) 0 rfl [.int .i64 (el fs 0), .int .i64 (el fs 1), .int .i64 (el fs 2), .int .i64 (el fs 3), .int .i64 (el fs 4), .int .i64 (el fs 5), .int .i64 (el fs 6), .int .i64 (el fs 7), .int .i64 (el fs 8)] _ RGF.out Tryd.underlying67 rfl INF.out ?_))
      exact bodyPost_ret (results_cell_tmp Tryd.results35 _ _ w.heap.size 67 #[.int .i64 (el fs 0), .int .i64 (el fs 1), .int .i64 (el fs 2), .int .i64 (el fs 3), .int .i64 (el fs 4), .int .i64 (el fs 5), .int .i64 (el fs 6), .int .i64 (el fs 7), .int .i64 (el fs 8)] (0, 0) _ (.bool true) rfl rfl KZ.out Tryd.underlying67 rfl INF.out) rfl ⟨fs, true, rfl, HSM.out, fun vs h9 ho e => by
        have h1 := HL.out
        rw [e, rd_all h9 ho] at h1
        exact ⟨(congrArg Prod.fst (Option.some.inj h1)).symm, rfl⟩, BZ.out⟩
end Go.Proofs.YtalelcloppbhcaaDoor
