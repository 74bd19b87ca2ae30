/- spec.l08Put: an agg put at its place, merged with one that is alike. (made by tools/mkfold.py) -/
import Derived.Test.YtchbmnpajnlijaaAppA
import Derived.Test.YtchbmnpajnlijaaPlainFold
import Derived.Test.YtchbmnpajnlijaaWin5
import Derived.Deep.QuietTactic
import Derived.BigQuiet
import Derived.StillTailTactics
import Derived.Deep.CutRange
namespace Go.Proofs.Ytchbmnpajnlijaa
open Go.RowKit
/-- Its count and its sum are within their bounds. -/
def SumOk (S : Ag) : Prop := (-1000000000 ≤ S.cnt ∧ S.cnt ≤ 1000000000) ∧ (-1000000000 ≤ S.sum ∧ S.sum ≤ 1000000000)
theorem capS_in (x : Int) : -1000000000 ≤ capS x ∧ capS x ≤ 1000000000 := by
  unfold capS
  repeat' split
  all_goals omega
theorem sum_ok (S T : Ag) : SumOk (sumA S T) := ⟨capS_in _, capS_in _⟩
theorem put_ok {l : List Ag} {a : Ag} (h : ∀ x, x ∈ l → SumOk x) (ha : SumOk a) : ∀ x, x ∈ putA l a → SumOk x := fun x hx => by
  rcases mem_put hx with rfl | hx | ⟨z, _, _, rfl⟩
  · exact ha
  · exact h x hx
  · exact sum_ok _ _
theorem aggOk_sum {S : Ag} (h : aggOk S = true) : SumOk S := by
  have := aggOk_bd h
  exact ⟨by omega, by omega⟩
/-- The list so far: nothing put, or put. -/
def PutAt (l : List Ag) (S : Ag) (k : Nat) (b : Bool) (A : List Ag) : Prop := (b = false ∧ A = l.take k ∧ putA l S = l.take k ++ putA (l.drop k) S) ∨ (b = true ∧ A ++ l.drop k = putA l S)
section
variable {l A : List Ag} {S x : Ag} {k : Nat}
theorem PutAt.after (h : PutAt l S k true A) (hk : k < l.length) : PutAt l S (k + 1) true (A ++ [ael l k]) := by
  rcases h with ⟨h, _⟩ | ⟨_, h⟩
  · cases h
  · refine .inr ⟨rfl, ?_⟩
    rw [← h, show l.drop k = ael l k :: l.drop (k + 1) from rel_drop aD hk]
    simp
theorem PutAt.same (h : PutAt l S k false A) (hk : k < l.length) (hs : sameA (ael l k) S = true) : PutAt l S (k + 1) true (A ++ [sumA (ael l k) S]) := by
  rcases h with ⟨_, hA, h⟩ | ⟨h, _⟩
  · refine .inr ⟨rfl, ?_⟩
    rw [h, hA, show l.drop k = ael l k :: l.drop (k + 1) from rel_drop aD hk]
    show _ = _ ++ putA (ael l k :: l.drop (k + 1)) S
    unfold putA
    rw [if_pos hs]
    simp
  · cases h
theorem PutAt.ahead (h : PutAt l S k false A) (hk : k < l.length) (hs : sameA (ael l k) S = false) (ha : aheadA S (ael l k) = true) : PutAt l S (k + 1) true (A ++ [S] ++ [ael l k]) := by
  rcases h with ⟨_, hA, h⟩ | ⟨h, _⟩
  · refine .inr ⟨rfl, ?_⟩
    rw [h, hA, show l.drop k = ael l k :: l.drop (k + 1) from rel_drop aD hk]
    show _ = _ ++ putA (ael l k :: l.drop (k + 1)) S
    unfold putA
    rw [if_neg (by simp [hs]), if_pos ha]
    simp
  · cases h
theorem PutAt.past (h : PutAt l S k false A) (hk : k < l.length) (hs : sameA (ael l k) S = false) (ha : aheadA S (ael l k) = false) : PutAt l S (k + 1) false (A ++ [ael l k]) := by
  rcases h with ⟨_, hA, h⟩ | ⟨h, _⟩
  · have e : l.take (k + 1) = l.take k ++ [ael l k] := ael_take hk
    refine .inl ⟨rfl, by rw [e, hA], ?_⟩
    rw [h, show l.drop k = ael l k :: l.drop (k + 1) from rel_drop aD hk, e]
    show _ ++ putA (ael l k :: l.drop (k + 1)) S = _
    conv => lhs; unfold putA
    rw [if_neg (by simp [hs]), if_neg (by simp [ha])]
    simp
  · cases h
theorem PutAt.len (h : PutAt l S k false A) (hk : k ≤ l.length) : A.length = k := by
  rcases h with ⟨_, hA, _⟩ | ⟨h, _⟩
  · rw [hA, List.length_take]; omega
  · cases h
theorem PutAt.end_yes (h : PutAt l S l.length true A) : A = putA l S := by
  rcases h with ⟨h, _⟩ | ⟨_, h⟩
  · cases h
  · simpa using h
theorem PutAt.end_no (h : PutAt l S l.length false A) : A ++ [S] = putA l S := by
  rcases h with ⟨_, hA, h⟩ | ⟨h, _⟩
  · rw [h, hA]; simp [putA]
  · cases h
end
set_option maxHeartbeats 4000000 in
set_option maxRecDepth 100000 in
theorem specPut_x (a : Option Addr) (n c : Nat) (l : List Ag) (u0 u1 u2 u3 u4 u5 : Int) (hi : Nat) (w : World) (hr : Ags w hi a c l) (hn : n = l.length) (hB : hi ≤ w.heap.size) (hlen : l.length ≤ 1048576) (hok : ∀ x, x ∈ l → SumOk x) (hS : SumOk ⟨u0, u1, u2, u3, u4, u5⟩) :
    Calls Try.prog 71 #[.slice a n c, (.agg #[.int .i64 u0, .int .i64 u1, .int .i64 u2, .int .i64 u3, .int .i64 u4, .int .i64 u5])] w (FreshR aC 86 6 (putA l ⟨u0, u1, u2, u3, u4, u5⟩) w) := by
  subst hn
  have m1 := hr.cap
  have m2 := hr.big
  have b0 := ((Below.refl w.heap.size w).alloc (Nat.le_refl _) (.cells #[.int .i64 u0, .int .i64 u1, .int .i64 u2, .int .i64 u3, .int .i64 u4, .int .i64 u5] 86)).alloc (by simp) (.cells #[] 86)
  have KS0 := Lib.hid ((Blk.new w 86 #[.int .i64 u0, .int .i64 u1, .int .i64 u2, .int .i64 u3, .int .i64 u4, .int .i64 u5]).alloc (.cells #[] 86))
  have kr := Blk.new (w.alloc (.cells #[.int .i64 u0, .int .i64 u1, .int .i64 u2, .int .i64 u3, .int .i64 u4, .int .i64 u5] 86)) 86 #[]
  rw [World.size_alloc] at kr
  have O0 : Hid (((w.alloc (.cells #[.int .i64 u0, .int .i64 u1, .int .i64 u2, .int .i64 u3, .int .i64 u4, .int .i64 u5] 86)).alloc (.cells #[] 86)).ownsRow (w.heap.size + 1) 86 6 (.slice (some ⟨w.heap.size + 1, 0, none⟩) 0 0) 0 (flatA [])) := Lib.hid ⟨rfl, .inr ⟨_, 0, #[], rfl, Nat.le_refl _, kr, Nat.le_refl _, by unfold maxLen; omega, rfl, rfl⟩⟩
  have HR := Lib.hid hr
  have B0 := Lib.hid b0
  have HOK := Lib.hid hok
  have HSO := Lib.hid hS
  have P0 : Hid (PutAt l ⟨u0, u1, u2, u3, u4, u5⟩ 0 false []) := Lib.hid (.inl ⟨rfl, by simp, by simp⟩)
  clear hr b0 kr hok
  go_enter Try.func71, Try.ntmps71
  go_wp2
  go_loopw [5, 6, 7] (fun ls pb i wr => ∃ (k : Nat) (a2 : Option Addr) (n2 c2 : Nat) (b : Bool) (A : List Ag), k ≤ l.length ∧ i = .int .i64 (k : Int) ∧ pb = .bool b ∧ ls = .slice a2 n2 c2 ∧ n2 = A.length ∧ n2 ≤ k + 1 ∧ PutAt l ⟨u0, u1, u2, u3, u4, u5⟩ k b A ∧ wr.ownsRow (w.heap.size + 1) 86 6 (.slice a2 n2 c2) n2 (flatA A) ∧ Blk wr w.heap.size 86 #[.int .i64 u0, .int .i64 u1, .int .i64 u2, .int .i64 u3, .int .i64 u4, .int .i64 u5] ∧ Below w.heap.size w wr) (fun _ _ i _ => l.length - (intOf i).toNat)
  case atStart => exact ⟨0, _, _, _, false, [], Nat.zero_le _, rfl, rfl, rfl, rfl, by omega, P0.out, O0.out, KS0.out, B0.out⟩
  case round =>
    obtain ⟨k, a2, n2, c2, b, A, hk, rfl, rfl, rfl, hn2, hnk, hP, ho, hks, hbr⟩ := hrel
    have HN2 := Lib.hid hn2
    have HP := Lib.hid hP
    have RO := Lib.hid ho
    have KS := Lib.hid hks
    have WB := Lib.hid hbr
    clear hn2 hP ho hks hbr
    by_cases hlt : k < l.length
    · obtain ⟨b1, off, rfl, hbh, hcell⟩ := Ags.six HR.out (by omega)
      have hbq : b1 < w.heap.size := by omega
      have hlt' : (k : Int) < (l.length : Int) := by omega
      have hnn : 0 ≤ (k : Int) := by omega
      have CK := Lib.hid (hcell k hlt)
      have hxk := HOK.out (ael l k) (by rw [show ael l k = l[k] from rel_lt aD hlt]; exact List.getElem_mem hlt)
      have wk : IntKind.i64.wrap ((k : Int) + 1) = ((k + 1 : Nat) : Int) := by rw [show (k : Int) + 1 = ((k + 1 : Nat) : Int) by omega]; exact IntWalk.i64_in _ (by omega)
      clear hcell
      have X1 := Lib.hid (fun (A : List Ag) (h : PutAt l ⟨u0, u1, u2, u3, u4, u5⟩ k true A) => h.after hlt)
      have X2 := Lib.hid (fun (A : List Ag) (h : PutAt l ⟨u0, u1, u2, u3, u4, u5⟩ k false A) hs => h.same hlt hs)
      have X3 := Lib.hid (fun (A : List Ag) (h : PutAt l ⟨u0, u1, u2, u3, u4, u5⟩ k false A) hs ha => h.ahead hlt hs ha)
      have X4 := Lib.hid (fun (A : List Ag) (h : PutAt l ⟨u0, u1, u2, u3, u4, u5⟩ k false A) hs ha => h.past hlt hs ha)
      generalize ael l k = X at CK X1 X2 X3 X4 hxk
      obtain ⟨y0, y1, y2, y3, y4, y5⟩ := X
      simp only at CK
      have CC : Hid (∀ W : World, Below w.heap.size w W → W.cell? ⟨b1, off + k * 6, none⟩ = some (.int .i64 y0) ∧ W.cell? ⟨b1, off + k * 6 + 1, none⟩ = some (.int .i64 y1) ∧ W.cell? ⟨b1, off + k * 6 + 2, none⟩ = some (.int .i64 y2) ∧ W.cell? ⟨b1, off + k * 6 + 3, none⟩ = some (.int .i64 y3) ∧ W.cell? ⟨b1, off + k * 6 + 4, none⟩ = some (.int .i64 y4) ∧ W.cell? ⟨b1, off + k * 6 + 5, none⟩ = some (.int .i64 y5)) := Lib.hid (fun W hW => by
        have g1 : ∀ q, W.cell? ⟨b1, q, none⟩ = w.cell? ⟨b1, q, none⟩ := fun q => hW.cell (p := ⟨b1, q, none⟩) (show b1 < w.heap.size by omega)
        simp only [g1]
        exact CK.out)
      clear CK
      cases b with
      | true =>
        have HP1 := Lib.hid (X1.out _ HP.out)
        clear X1 X2 X3 X4
        obtain ⟨p0, p1, p2, p3, p4, p5⟩ := CC.out wr WB.out
        have s0 : wr.cell? ⟨w.heap.size, 0, none⟩ = some (.int .i64 u0) := KS.out.cell 0
        have s1 : wr.cell? ⟨w.heap.size, 1, none⟩ = some (.int .i64 u1) := KS.out.cell 1
        have s2 : wr.cell? ⟨w.heap.size, 2, none⟩ = some (.int .i64 u2) := KS.out.cell 2
        have s3 : wr.cell? ⟨w.heap.size, 3, none⟩ = some (.int .i64 u3) := KS.out.cell 3
        have s4 : wr.cell? ⟨w.heap.size, 4, none⟩ = some (.int .i64 u4) := KS.out.cell 4
        have s5 : wr.cell? ⟨w.heap.size, 5, none⟩ = some (.int .i64 u5) := KS.out.cell 5
        go_wp2_with fail
        go_quiet (fail)
        clear p0 p1 p2 p3 p4 p5 s0 s1 s2 s3 s4 s5
        have KS := Lib.hid (show Blk (wr.drewN nq) _ _ _ from KS.out)
        have RO := Lib.hid (owns_drewN RO.out nq)
        have WB := Lib.hid (below_drewN WB.out nq)
        generalize wr.drewN nq = w7 at KS RO WB ⊢
        obtain ⟨p0, p1, p2, p3, p4, p5⟩ := CC.out w7 WB.out
        have s0 : w7.cell? ⟨w.heap.size, 0, none⟩ = some (.int .i64 u0) := KS.out.cell 0
        have s1 : w7.cell? ⟨w.heap.size, 1, none⟩ = some (.int .i64 u1) := KS.out.cell 1
        have s2 : w7.cell? ⟨w.heap.size, 2, none⟩ = some (.int .i64 u2) := KS.out.cell 2
        have s3 : w7.cell? ⟨w.heap.size, 3, none⟩ = some (.int .i64 u3) := KS.out.cell 3
        have s4 : w7.cell? ⟨w.heap.size, 4, none⟩ = some (.int .i64 u4) := KS.out.cell 4
        have s5 : w7.cell? ⟨w.heap.size, 5, none⟩ = some (.int .i64 u5) := KS.out.cell 5
        go_wp2_with fail
        go_quiet (fail)
        clear p0 p1 p2 p3 p4 p5 s0 s1 s2 s3 s4 s5
        have KS := Lib.hid (show Blk (w7.drewN nq) _ _ _ from KS.out)
        have RO := Lib.hid (owns_drewN RO.out nq)
        have WB := Lib.hid (below_drewN WB.out nq)
        generalize w7.drewN nq = w8 at KS RO WB ⊢
        obtain ⟨p0, p1, p2, p3, p4, p5⟩ := CC.out w8 WB.out
        obtain ⟨a3, c3, w9, hr3, ho3, hb3, _⟩ := appendA (w := w8) ⟨y0, y1, y2, y3, y4, y5⟩ HN2.out RO.out (by have := KS.out.lt; omega) (by omega) 45
        simp only at hr3
        have R3 := Lib.hid hr3
        clear hr3
        go_wp2_with (at_builtin; refine Lib.wpList_append_run _ rfl _ _ _ _ rfl _ _ rfl rfl _ _ R3.out ?_)
        have KS := Lib.hid (KS.out.belowB hb3 (by omega))
        have RO := Lib.hid ho3
        have WB := Lib.hid (WB.out.trans (hb3.mono (by omega)))
        clear ho3 hb3 R3
        clear p0 p1 p2 p3 p4 p5
        go_wp2
        go_roundw
        case rel => exact ⟨k + 1, a3, _, c3, true, A ++ [⟨y0, y1, y2, y3, y4, y5⟩], by omega, by go_num, rfl, rfl, by simp [HN2.out], by omega, HP1.out, RO.out, KS.out, WB.out⟩
        case measure => simp [intOf]; omega
      | false =>
        have hn2k : n2 ≤ k := by have := HP.out.len hk; have := HN2.out; omega
        cases hsm : sameA ⟨y0, y1, y2, y3, y4, y5⟩ ⟨u0, u1, u2, u3, u4, u5⟩ with
        | true =>
          have HP1 := Lib.hid (X2.out _ HP.out hsm)
          clear X1 X2 X3 X4
          have e0 : (y0 == u0) = true := by unfold sameA at hsm; simp only [decide_eq_true_eq] at hsm; simp [hsm.1]
          have e1 : (y1 == u1) = true := by unfold sameA at hsm; simp only [decide_eq_true_eq] at hsm; simp [hsm.2]
          clear hsm
          obtain ⟨p0, p1, p2, p3, p4, p5⟩ := CC.out wr WB.out
          have s0 : wr.cell? ⟨w.heap.size, 0, none⟩ = some (.int .i64 u0) := KS.out.cell 0
          have s1 : wr.cell? ⟨w.heap.size, 1, none⟩ = some (.int .i64 u1) := KS.out.cell 1
          have s2 : wr.cell? ⟨w.heap.size, 2, none⟩ = some (.int .i64 u2) := KS.out.cell 2
          have s3 : wr.cell? ⟨w.heap.size, 3, none⟩ = some (.int .i64 u3) := KS.out.cell 3
          have s4 : wr.cell? ⟨w.heap.size, 4, none⟩ = some (.int .i64 u4) := KS.out.cell 4
          have s5 : wr.cell? ⟨w.heap.size, 5, none⟩ = some (.int .i64 u5) := KS.out.cell 5
          go_wp2_with fail
          go_quiet (fail)
          clear p0 p1 p2 p3 p4 p5 s0 s1 s2 s3 s4 s5
          have KS := Lib.hid (show Blk (wr.drewN nq) _ _ _ from KS.out)
          have RO := Lib.hid (owns_drewN RO.out nq)
          have WB := Lib.hid (below_drewN WB.out nq)
          generalize wr.drewN nq = w7 at KS RO WB ⊢
          obtain ⟨p0, p1, p2, p3, p4, p5⟩ := CC.out w7 WB.out
          have s0 : w7.cell? ⟨w.heap.size, 0, none⟩ = some (.int .i64 u0) := KS.out.cell 0
          have s1 : w7.cell? ⟨w.heap.size, 1, none⟩ = some (.int .i64 u1) := KS.out.cell 1
          have s2 : w7.cell? ⟨w.heap.size, 2, none⟩ = some (.int .i64 u2) := KS.out.cell 2
          have s3 : w7.cell? ⟨w.heap.size, 3, none⟩ = some (.int .i64 u3) := KS.out.cell 3
          have s4 : w7.cell? ⟨w.heap.size, 4, none⟩ = some (.int .i64 u4) := KS.out.cell 4
          have s5 : w7.cell? ⟨w.heap.size, 5, none⟩ = some (.int .i64 u5) := KS.out.cell 5
          have CS := Lib.hid (fun W => specSum_x y0 y1 y2 y3 y4 y5 u0 u1 u2 u3 u4 u5 W hxk.1 hxk.2 HSO.out.1 HSO.out.2)
          unfold agV at CS
          generalize sumA ⟨y0, y1, y2, y3, y4, y5⟩ ⟨u0, u1, u2, u3, u4, u5⟩ = Z at CS HP1
          obtain ⟨z0, z1, z2, z3, z4, z5⟩ := Z
          simp only at CS
          go_wp2_with fail
          refine wp_region_any (by kernel_rfl) ?_
          change wpAny _ _ _ _ _ _ _ (World.drew _)
          refine wpAny_take (oi := ⟨some 37, _, _, _, _, _⟩) (i := 0) (v := (.slice a2 n2 c2)) rfl (by kernel_rfl) (by kernel_rfl) (by kernel_rfl) (fun _ _ _ h => h) (Or.inl ⟨by kernel_rfl, fun w => by go_simp⟩) ?_
          go_simp
          refine wpAny_take (oi := ⟨some 38, _, _, _, _, _⟩) (i := 1) (v := (.slice (some ⟨b1, off, none⟩) l.length c)) rfl (by kernel_rfl) (by kernel_rfl) (by kernel_rfl) (fun _ _ _ h => h) (Or.inl ⟨by kernel_rfl, fun w => by go_simp⟩) ?_
          go_simp
          refine wpAny_take (oi := ⟨some 39, _, _, _, _, _⟩) (i := 2) (v := .int .i64 (k : Int)) rfl (by kernel_rfl) (by kernel_rfl) (by kernel_rfl) (fun _ _ _ h => h) (Or.inl ⟨by kernel_rfl, fun w => by go_simp⟩) ?_
          go_simp
          refine wpAny_take (oi := ⟨some 40, _, _, _, _, _⟩) (i := 3) (v := .pointer (some ⟨b1, off + k * 6, none⟩)) rfl (by kernel_rfl) (by kernel_rfl) (by kernel_rfl) (fun _ _ _ h => h) (Or.inl ⟨by kernel_rfl, fun w => by go_simp⟩) ?_
          go_simp
          refine wpAny_ready (rs := [4, 5]) (by kernel_rfl) (by simp) ?_
          refine AllReady.cons rfl (fun K hK => ?_) (AllReady.cons rfl (fun K hK => ?_) AllReady.nil)
          · go_simp
            refine hK _ _ ?_
            clear hK K
            refine wpAny_ready (rs := [5]) (by kernel_rfl) (by simp) ?_
            refine AllReady.cons rfl (fun K hK => ?_) AllReady.nil
            go_simp
            refine hK _ _ ?_
            clear hK K
            clear p0 p1 p2 p3 p4 p5 s0 s1 s2 s3 s4 s5
            change wpAny _ _ _ _ _ _ _ w7.drew
            have KS := Lib.hid (show Blk w7.drew _ _ _ from KS.out)
            have RO := Lib.hid (show w7.drew.ownsRow _ _ _ _ _ _ from RO.out)
            have WB := Lib.hid WB.out.drew
            generalize w7.drew = w8 at KS RO WB ⊢
            refine wpAny_ready (rs := [6]) (by kernel_rfl) (by simp) ?_
            refine AllReady.cons rfl (fun K hK => ?_) AllReady.nil
            rw [if_pos (by rfl)]
            go_simp
            go_at_call 104
            refine (CS.out _).mono ?_
            rintro e wS ⟨rfl, hb⟩
            have KS := Lib.hid (KS.out.below hb)
            have RO := Lib.hid (owns_below RO.out hb)
            have WB := Lib.hid (WB.out.trans (hb.mono WB.out.size))
            clear hb
            refine hK _ _ ?_
            clear hK K
            refine wpAny_ready (rs := [7]) (by kernel_rfl) (by simp) ?_
            refine AllReady.cons rfl (fun K hK => ?_) AllReady.nil
            go_simp
            refine hK _ _ ?_
            clear hK K
            obtain ⟨a3, c3, w9, hr3, ho3, hb3, _⟩ := appendA (w := wS) ⟨z0, z1, z2, z3, z4, z5⟩ HN2.out RO.out (by have := KS.out.lt; omega) (by omega) 45
            simp only at hr3
            have R3 := Lib.hid hr3
            clear hr3
            refine wpAny_ready (rs := [8]) (by kernel_rfl) (by simp) ?_
            refine AllReady.cons rfl (fun K hK => ?_) AllReady.nil
            refine step_append_run rfl _ _ _ _ rfl _ _ rfl rfl _ _ R3.out ?_
            refine hK _ _ ?_
            clear hK K
            have KS := Lib.hid (KS.out.belowB hb3 (by omega))
            have RO := Lib.hid ho3
            have WB := Lib.hid (WB.out.trans (hb3.mono (by omega)))
            clear ho3 hb3 R3
            refine wpAny_ready (rs := [9]) (by kernel_rfl) (by simp) ?_
            refine AllReady.cons rfl (fun K hK => ?_) AllReady.nil
            go_simp
            refine hK _ _ ?_
            clear hK K
            refine wpAny_done (by kernel_rfl) ?_ _
            go_wp2
            go_roundw
            case rel => exact ⟨k + 1, a3, _, c3, true, A ++ [⟨z0, z1, z2, z3, z4, z5⟩], by omega, by go_num, rfl, rfl, by simp [HN2.out], by omega, HP1.out, RO.out, KS.out, WB.out⟩
            case measure => simp [intOf]; omega
          · go_simp
            refine hK _ _ ?_
            clear hK K
            refine wpAny_ready (rs := [4]) (by kernel_rfl) (by simp) ?_
            refine AllReady.cons rfl (fun K hK => ?_) AllReady.nil
            go_simp
            refine hK _ _ ?_
            clear hK K
            clear p0 p1 p2 p3 p4 p5 s0 s1 s2 s3 s4 s5
            change wpAny _ _ _ _ _ _ _ w7.drew
            have KS := Lib.hid (show Blk w7.drew _ _ _ from KS.out)
            have RO := Lib.hid (show w7.drew.ownsRow _ _ _ _ _ _ from RO.out)
            have WB := Lib.hid WB.out.drew
            generalize w7.drew = w8 at KS RO WB ⊢
            refine wpAny_ready (rs := [6]) (by kernel_rfl) (by simp) ?_
            refine AllReady.cons rfl (fun K hK => ?_) AllReady.nil
            rw [if_pos (by rfl)]
            go_simp
            go_at_call 104
            refine (CS.out _).mono ?_
            rintro e wS ⟨rfl, hb⟩
            have KS := Lib.hid (KS.out.below hb)
            have RO := Lib.hid (owns_below RO.out hb)
            have WB := Lib.hid (WB.out.trans (hb.mono WB.out.size))
            clear hb
            refine hK _ _ ?_
            clear hK K
            refine wpAny_ready (rs := [7]) (by kernel_rfl) (by simp) ?_
            refine AllReady.cons rfl (fun K hK => ?_) AllReady.nil
            go_simp
            refine hK _ _ ?_
            clear hK K
            obtain ⟨a3, c3, w9, hr3, ho3, hb3, _⟩ := appendA (w := wS) ⟨z0, z1, z2, z3, z4, z5⟩ HN2.out RO.out (by have := KS.out.lt; omega) (by omega) 45
            simp only at hr3
            have R3 := Lib.hid hr3
            clear hr3
            refine wpAny_ready (rs := [8]) (by kernel_rfl) (by simp) ?_
            refine AllReady.cons rfl (fun K hK => ?_) AllReady.nil
            refine step_append_run rfl _ _ _ _ rfl _ _ rfl rfl _ _ R3.out ?_
            refine hK _ _ ?_
            clear hK K
            have KS := Lib.hid (KS.out.belowB hb3 (by omega))
            have RO := Lib.hid ho3
            have WB := Lib.hid (WB.out.trans (hb3.mono (by omega)))
            clear ho3 hb3 R3
            refine wpAny_ready (rs := [9]) (by kernel_rfl) (by simp) ?_
            refine AllReady.cons rfl (fun K hK => ?_) AllReady.nil
            go_simp
            refine hK _ _ ?_
            clear hK K
            refine wpAny_done (by kernel_rfl) ?_ _
            go_wp2
            go_roundw
            case rel => exact ⟨k + 1, a3, _, c3, true, A ++ [⟨z0, z1, z2, z3, z4, z5⟩], by omega, by go_num, rfl, rfl, by simp [HN2.out], by omega, HP1.out, RO.out, KS.out, WB.out⟩
            case measure => simp [intOf]; omega
        | false =>
          by_cases h0 : y0 = u0
          · have e0 : (y0 == u0) = true := by simp [h0]
            have e1 : (y1 == u1) = false := by
              refine beq_eq_false_iff_ne.2 fun h9 => ?_
              unfold sameA at hsm
              simp [h0, h9] at hsm
            clear h0
            obtain ⟨p0, p1, p2, p3, p4, p5⟩ := CC.out wr WB.out
            have s0 : wr.cell? ⟨w.heap.size, 0, none⟩ = some (.int .i64 u0) := KS.out.cell 0
            have s1 : wr.cell? ⟨w.heap.size, 1, none⟩ = some (.int .i64 u1) := KS.out.cell 1
            have s2 : wr.cell? ⟨w.heap.size, 2, none⟩ = some (.int .i64 u2) := KS.out.cell 2
            have s3 : wr.cell? ⟨w.heap.size, 3, none⟩ = some (.int .i64 u3) := KS.out.cell 3
            have s4 : wr.cell? ⟨w.heap.size, 4, none⟩ = some (.int .i64 u4) := KS.out.cell 4
            have s5 : wr.cell? ⟨w.heap.size, 5, none⟩ = some (.int .i64 u5) := KS.out.cell 5
            go_wp2_with fail
            go_quiet (fail)
            clear p0 p1 p2 p3 p4 p5 s0 s1 s2 s3 s4 s5
            have KS := Lib.hid (show Blk (wr.drewN nq) _ _ _ from KS.out)
            have RO := Lib.hid (owns_drewN RO.out nq)
            have WB := Lib.hid (below_drewN WB.out nq)
            generalize wr.drewN nq = w7 at KS RO WB ⊢
            cases hah : aheadA ⟨u0, u1, u2, u3, u4, u5⟩ ⟨y0, y1, y2, y3, y4, y5⟩ with
            | true =>
              have HP1 := Lib.hid (X3.out _ HP.out hsm hah)
              clear X1 X2 X3 X4
              have CA := Lib.hid (fun W => specAhead_x u0 u1 u2 u3 u4 u5 y0 y1 y2 y3 y4 y5 W)
              rw [hah] at CA
              clear hah hsm
              obtain ⟨p0, p1, p2, p3, p4, p5⟩ := CC.out w7.drew WB.out.drew
              have s0 : w7.drew.cell? ⟨w.heap.size, 0, none⟩ = some (.int .i64 u0) := KS.out.drew.cell 0
              have s1 : w7.drew.cell? ⟨w.heap.size, 1, none⟩ = some (.int .i64 u1) := KS.out.drew.cell 1
              have s2 : w7.drew.cell? ⟨w.heap.size, 2, none⟩ = some (.int .i64 u2) := KS.out.drew.cell 2
              have s3 : w7.drew.cell? ⟨w.heap.size, 3, none⟩ = some (.int .i64 u3) := KS.out.drew.cell 3
              have s4 : w7.drew.cell? ⟨w.heap.size, 4, none⟩ = some (.int .i64 u4) := KS.out.drew.cell 4
              have s5 : w7.drew.cell? ⟨w.heap.size, 5, none⟩ = some (.int .i64 u5) := KS.out.drew.cell 5
              go_wp2_with fail
              go_region_held3 (fun W => W.cell? ⟨w.heap.size, 0, none⟩ = some (.int .i64 u0) ∧ W.cell? ⟨w.heap.size, 1, none⟩ = some (.int .i64 u1) ∧ W.cell? ⟨w.heap.size, 2, none⟩ = some (.int .i64 u2) ∧ W.cell? ⟨w.heap.size, 3, none⟩ = some (.int .i64 u3) ∧ W.cell? ⟨w.heap.size, 4, none⟩ = some (.int .i64 u4) ∧ W.cell? ⟨w.heap.size, 5, none⟩ = some (.int .i64 u5) ∧ W.cell? ⟨b1, off + k * 6, none⟩ = some (.int .i64 y0) ∧ W.cell? ⟨b1, off + k * 6 + 1, none⟩ = some (.int .i64 y1) ∧ W.cell? ⟨b1, off + k * 6 + 2, none⟩ = some (.int .i64 y2) ∧ W.cell? ⟨b1, off + k * 6 + 3, none⟩ = some (.int .i64 y3) ∧ W.cell? ⟨b1, off + k * 6 + 4, none⟩ = some (.int .i64 y4) ∧ W.cell? ⟨b1, off + k * 6 + 5, none⟩ = some (.int .i64 y5))
                (exact ⟨s0, s1, s2, s3, s4, s5, p0, p1, p2, p3, p4, p5⟩)
                (first | (go_at_call 87; refine (CA.out _).mono ?_; rintro e w8 ⟨rfl, hb⟩; have KS := Lib.hid (KS.out.drew.below hb); have RO := Lib.hid (owns_below (show w7.drew.ownsRow _ _ _ _ _ _ from RO.out) hb); have WB := Lib.hid (WB.out.drew.trans (hb.mono WB.out.size)); have s0 : w8.cell? ⟨w.heap.size, 0, none⟩ = some (.int .i64 u0) := KS.out.cell 0; have s1 : w8.cell? ⟨w.heap.size, 1, none⟩ = some (.int .i64 u1) := KS.out.cell 1; have s2 : w8.cell? ⟨w.heap.size, 2, none⟩ = some (.int .i64 u2) := KS.out.cell 2; have s3 : w8.cell? ⟨w.heap.size, 3, none⟩ = some (.int .i64 u3) := KS.out.cell 3; have s4 : w8.cell? ⟨w.heap.size, 4, none⟩ = some (.int .i64 u4) := KS.out.cell 4; have s5 : w8.cell? ⟨w.heap.size, 5, none⟩ = some (.int .i64 u5) := KS.out.cell 5; obtain ⟨p0, p1, p2, p3, p4, p5⟩ := CC.out w8 WB.out; clear hb))
              all_goals
                clear p0 p1 p2 p3 p4 p5
                obtain ⟨a3, c3, w9, hr3, ho3, hb3, _⟩ := appendA (w := w8) ⟨u0, u1, u2, u3, u4, u5⟩ HN2.out RO.out (by have := KS.out.lt; omega) (by omega) 45
                simp only at hr3
                have R3 := Lib.hid hr3
                clear hr3
                go_upto_region 12 with (at_builtin; refine Lib.wpList_append_run _ rfl _ _ _ _ rfl _ _ rfl rfl _ _ R3.out ?_)
                have KS := Lib.hid (KS.out.belowB hb3 (by omega))
                have RO := Lib.hid ho3
                have WB := Lib.hid (WB.out.trans (hb3.mono (by omega)))
                clear ho3 hb3 R3
                clear s0 s1 s2 s3 s4 s5
                have HN2 : Hid (n2 + 1 = (A ++ [(⟨u0, u1, u2, u3, u4, u5⟩ : Ag)]).length) := Lib.hid (by simp [HN2.out])
                obtain ⟨p0, p1, p2, p3, p4, p5⟩ := CC.out w9 WB.out
                obtain ⟨a4, c4, w10, hr3, ho3, hb3, _⟩ := appendA (w := w9) ⟨y0, y1, y2, y3, y4, y5⟩ HN2.out RO.out (by have := KS.out.lt; omega) (by omega) 45
                simp only at hr3
                have R3 := Lib.hid hr3
                clear hr3
                go_wp2_with (at_builtin; refine Lib.wpList_append_run _ rfl _ _ _ _ rfl _ _ rfl rfl _ _ R3.out ?_)
                have KS := Lib.hid (KS.out.belowB hb3 (by omega))
                have RO := Lib.hid ho3
                have WB := Lib.hid (WB.out.trans (hb3.mono (by omega)))
                clear ho3 hb3 R3
                clear p0 p1 p2 p3 p4 p5
                go_wp2
                go_roundw
                case rel => exact ⟨k + 1, a4, _, c4, true, A ++ [⟨u0, u1, u2, u3, u4, u5⟩] ++ [⟨y0, y1, y2, y3, y4, y5⟩], by omega, by go_num, rfl, rfl, by have := HN2.out; simp at this ⊢; omega, by omega, HP1.out, RO.out, KS.out, WB.out⟩
                case measure => simp [intOf]; omega
            | false =>
              have HP1 := Lib.hid (X4.out _ HP.out hsm hah)
              clear X1 X2 X3 X4
              have CA := Lib.hid (fun W => specAhead_x u0 u1 u2 u3 u4 u5 y0 y1 y2 y3 y4 y5 W)
              rw [hah] at CA
              clear hah hsm
              obtain ⟨p0, p1, p2, p3, p4, p5⟩ := CC.out w7.drew WB.out.drew
              have s0 : w7.drew.cell? ⟨w.heap.size, 0, none⟩ = some (.int .i64 u0) := KS.out.drew.cell 0
              have s1 : w7.drew.cell? ⟨w.heap.size, 1, none⟩ = some (.int .i64 u1) := KS.out.drew.cell 1
              have s2 : w7.drew.cell? ⟨w.heap.size, 2, none⟩ = some (.int .i64 u2) := KS.out.drew.cell 2
              have s3 : w7.drew.cell? ⟨w.heap.size, 3, none⟩ = some (.int .i64 u3) := KS.out.drew.cell 3
              have s4 : w7.drew.cell? ⟨w.heap.size, 4, none⟩ = some (.int .i64 u4) := KS.out.drew.cell 4
              have s5 : w7.drew.cell? ⟨w.heap.size, 5, none⟩ = some (.int .i64 u5) := KS.out.drew.cell 5
              go_wp2_with fail
              go_region_held3 (fun W => W.cell? ⟨w.heap.size, 0, none⟩ = some (.int .i64 u0) ∧ W.cell? ⟨w.heap.size, 1, none⟩ = some (.int .i64 u1) ∧ W.cell? ⟨w.heap.size, 2, none⟩ = some (.int .i64 u2) ∧ W.cell? ⟨w.heap.size, 3, none⟩ = some (.int .i64 u3) ∧ W.cell? ⟨w.heap.size, 4, none⟩ = some (.int .i64 u4) ∧ W.cell? ⟨w.heap.size, 5, none⟩ = some (.int .i64 u5) ∧ W.cell? ⟨b1, off + k * 6, none⟩ = some (.int .i64 y0) ∧ W.cell? ⟨b1, off + k * 6 + 1, none⟩ = some (.int .i64 y1) ∧ W.cell? ⟨b1, off + k * 6 + 2, none⟩ = some (.int .i64 y2) ∧ W.cell? ⟨b1, off + k * 6 + 3, none⟩ = some (.int .i64 y3) ∧ W.cell? ⟨b1, off + k * 6 + 4, none⟩ = some (.int .i64 y4) ∧ W.cell? ⟨b1, off + k * 6 + 5, none⟩ = some (.int .i64 y5))
                (exact ⟨s0, s1, s2, s3, s4, s5, p0, p1, p2, p3, p4, p5⟩)
                (first | (go_at_call 87; refine (CA.out _).mono ?_; rintro e w8 ⟨rfl, hb⟩; have KS := Lib.hid (KS.out.drew.below hb); have RO := Lib.hid (owns_below (show w7.drew.ownsRow _ _ _ _ _ _ from RO.out) hb); have WB := Lib.hid (WB.out.drew.trans (hb.mono WB.out.size)); have s0 : w8.cell? ⟨w.heap.size, 0, none⟩ = some (.int .i64 u0) := KS.out.cell 0; have s1 : w8.cell? ⟨w.heap.size, 1, none⟩ = some (.int .i64 u1) := KS.out.cell 1; have s2 : w8.cell? ⟨w.heap.size, 2, none⟩ = some (.int .i64 u2) := KS.out.cell 2; have s3 : w8.cell? ⟨w.heap.size, 3, none⟩ = some (.int .i64 u3) := KS.out.cell 3; have s4 : w8.cell? ⟨w.heap.size, 4, none⟩ = some (.int .i64 u4) := KS.out.cell 4; have s5 : w8.cell? ⟨w.heap.size, 5, none⟩ = some (.int .i64 u5) := KS.out.cell 5; obtain ⟨p0, p1, p2, p3, p4, p5⟩ := CC.out w8 WB.out; clear hb))
              all_goals
                clear s0 s1 s2 s3 s4 s5
                obtain ⟨a3, c3, w9, hr3, ho3, hb3, _⟩ := appendA (w := w8) ⟨y0, y1, y2, y3, y4, y5⟩ HN2.out RO.out (by have := KS.out.lt; omega) (by omega) 45
                simp only at hr3
                have R3 := Lib.hid hr3
                clear hr3
                go_wp2_with (at_builtin; refine Lib.wpList_append_run _ rfl _ _ _ _ rfl _ _ rfl rfl _ _ R3.out ?_)
                have KS := Lib.hid (KS.out.belowB hb3 (by omega))
                have RO := Lib.hid ho3
                have WB := Lib.hid (WB.out.trans (hb3.mono (by omega)))
                clear ho3 hb3 R3
                clear p0 p1 p2 p3 p4 p5
                go_wp2
                go_roundw
                case rel => exact ⟨k + 1, a3, _, c3, false, A ++ [⟨y0, y1, y2, y3, y4, y5⟩], by omega, by go_num, rfl, rfl, by simp [HN2.out], by omega, HP1.out, RO.out, KS.out, WB.out⟩
                case measure => simp [intOf]; omega
          · have e0 : (y0 == u0) = false := beq_eq_false_iff_ne.2 h0
            obtain ⟨p0, p1, p2, p3, p4, p5⟩ := CC.out wr WB.out
            have s0 : wr.cell? ⟨w.heap.size, 0, none⟩ = some (.int .i64 u0) := KS.out.cell 0
            have s1 : wr.cell? ⟨w.heap.size, 1, none⟩ = some (.int .i64 u1) := KS.out.cell 1
            have s2 : wr.cell? ⟨w.heap.size, 2, none⟩ = some (.int .i64 u2) := KS.out.cell 2
            have s3 : wr.cell? ⟨w.heap.size, 3, none⟩ = some (.int .i64 u3) := KS.out.cell 3
            have s4 : wr.cell? ⟨w.heap.size, 4, none⟩ = some (.int .i64 u4) := KS.out.cell 4
            have s5 : wr.cell? ⟨w.heap.size, 5, none⟩ = some (.int .i64 u5) := KS.out.cell 5
            go_wp2_with fail
            go_quiet (fail)
            clear p0 p1 p2 p3 p4 p5 s0 s1 s2 s3 s4 s5
            have KS := Lib.hid (show Blk (wr.drewN nq) _ _ _ from KS.out)
            have RO := Lib.hid (owns_drewN RO.out nq)
            have WB := Lib.hid (below_drewN WB.out nq)
            generalize wr.drewN nq = w7 at KS RO WB ⊢
            cases hah : aheadA ⟨u0, u1, u2, u3, u4, u5⟩ ⟨y0, y1, y2, y3, y4, y5⟩ with
            | true =>
              have HP1 := Lib.hid (X3.out _ HP.out hsm hah)
              clear X1 X2 X3 X4
              have CA := Lib.hid (fun W => specAhead_x u0 u1 u2 u3 u4 u5 y0 y1 y2 y3 y4 y5 W)
              rw [hah] at CA
              clear hah hsm
              obtain ⟨p0, p1, p2, p3, p4, p5⟩ := CC.out w7.drew WB.out.drew
              have s0 : w7.drew.cell? ⟨w.heap.size, 0, none⟩ = some (.int .i64 u0) := KS.out.drew.cell 0
              have s1 : w7.drew.cell? ⟨w.heap.size, 1, none⟩ = some (.int .i64 u1) := KS.out.drew.cell 1
              have s2 : w7.drew.cell? ⟨w.heap.size, 2, none⟩ = some (.int .i64 u2) := KS.out.drew.cell 2
              have s3 : w7.drew.cell? ⟨w.heap.size, 3, none⟩ = some (.int .i64 u3) := KS.out.drew.cell 3
              have s4 : w7.drew.cell? ⟨w.heap.size, 4, none⟩ = some (.int .i64 u4) := KS.out.drew.cell 4
              have s5 : w7.drew.cell? ⟨w.heap.size, 5, none⟩ = some (.int .i64 u5) := KS.out.drew.cell 5
              go_wp2_with fail
              go_region_held3 (fun W => W.cell? ⟨w.heap.size, 0, none⟩ = some (.int .i64 u0) ∧ W.cell? ⟨w.heap.size, 1, none⟩ = some (.int .i64 u1) ∧ W.cell? ⟨w.heap.size, 2, none⟩ = some (.int .i64 u2) ∧ W.cell? ⟨w.heap.size, 3, none⟩ = some (.int .i64 u3) ∧ W.cell? ⟨w.heap.size, 4, none⟩ = some (.int .i64 u4) ∧ W.cell? ⟨w.heap.size, 5, none⟩ = some (.int .i64 u5) ∧ W.cell? ⟨b1, off + k * 6, none⟩ = some (.int .i64 y0) ∧ W.cell? ⟨b1, off + k * 6 + 1, none⟩ = some (.int .i64 y1) ∧ W.cell? ⟨b1, off + k * 6 + 2, none⟩ = some (.int .i64 y2) ∧ W.cell? ⟨b1, off + k * 6 + 3, none⟩ = some (.int .i64 y3) ∧ W.cell? ⟨b1, off + k * 6 + 4, none⟩ = some (.int .i64 y4) ∧ W.cell? ⟨b1, off + k * 6 + 5, none⟩ = some (.int .i64 y5))
                (exact ⟨s0, s1, s2, s3, s4, s5, p0, p1, p2, p3, p4, p5⟩)
                (first | (go_at_call 87; refine (CA.out _).mono ?_; rintro e w8 ⟨rfl, hb⟩; have KS := Lib.hid (KS.out.drew.below hb); have RO := Lib.hid (owns_below (show w7.drew.ownsRow _ _ _ _ _ _ from RO.out) hb); have WB := Lib.hid (WB.out.drew.trans (hb.mono WB.out.size)); have s0 : w8.cell? ⟨w.heap.size, 0, none⟩ = some (.int .i64 u0) := KS.out.cell 0; have s1 : w8.cell? ⟨w.heap.size, 1, none⟩ = some (.int .i64 u1) := KS.out.cell 1; have s2 : w8.cell? ⟨w.heap.size, 2, none⟩ = some (.int .i64 u2) := KS.out.cell 2; have s3 : w8.cell? ⟨w.heap.size, 3, none⟩ = some (.int .i64 u3) := KS.out.cell 3; have s4 : w8.cell? ⟨w.heap.size, 4, none⟩ = some (.int .i64 u4) := KS.out.cell 4; have s5 : w8.cell? ⟨w.heap.size, 5, none⟩ = some (.int .i64 u5) := KS.out.cell 5; obtain ⟨p0, p1, p2, p3, p4, p5⟩ := CC.out w8 WB.out; clear hb))
              all_goals
                clear p0 p1 p2 p3 p4 p5
                obtain ⟨a3, c3, w9, hr3, ho3, hb3, _⟩ := appendA (w := w8) ⟨u0, u1, u2, u3, u4, u5⟩ HN2.out RO.out (by have := KS.out.lt; omega) (by omega) 45
                simp only at hr3
                have R3 := Lib.hid hr3
                clear hr3
                go_upto_region 12 with (at_builtin; refine Lib.wpList_append_run _ rfl _ _ _ _ rfl _ _ rfl rfl _ _ R3.out ?_)
                have KS := Lib.hid (KS.out.belowB hb3 (by omega))
                have RO := Lib.hid ho3
                have WB := Lib.hid (WB.out.trans (hb3.mono (by omega)))
                clear ho3 hb3 R3
                clear s0 s1 s2 s3 s4 s5
                have HN2 : Hid (n2 + 1 = (A ++ [(⟨u0, u1, u2, u3, u4, u5⟩ : Ag)]).length) := Lib.hid (by simp [HN2.out])
                obtain ⟨p0, p1, p2, p3, p4, p5⟩ := CC.out w9 WB.out
                obtain ⟨a4, c4, w10, hr3, ho3, hb3, _⟩ := appendA (w := w9) ⟨y0, y1, y2, y3, y4, y5⟩ HN2.out RO.out (by have := KS.out.lt; omega) (by omega) 45
                simp only at hr3
                have R3 := Lib.hid hr3
                clear hr3
                go_wp2_with (at_builtin; refine Lib.wpList_append_run _ rfl _ _ _ _ rfl _ _ rfl rfl _ _ R3.out ?_)
                have KS := Lib.hid (KS.out.belowB hb3 (by omega))
                have RO := Lib.hid ho3
                have WB := Lib.hid (WB.out.trans (hb3.mono (by omega)))
                clear ho3 hb3 R3
                clear p0 p1 p2 p3 p4 p5
                go_wp2
                go_roundw
                case rel => exact ⟨k + 1, a4, _, c4, true, A ++ [⟨u0, u1, u2, u3, u4, u5⟩] ++ [⟨y0, y1, y2, y3, y4, y5⟩], by omega, by go_num, rfl, rfl, by have := HN2.out; simp at this ⊢; omega, by omega, HP1.out, RO.out, KS.out, WB.out⟩
                case measure => simp [intOf]; omega
            | false =>
              have HP1 := Lib.hid (X4.out _ HP.out hsm hah)
              clear X1 X2 X3 X4
              have CA := Lib.hid (fun W => specAhead_x u0 u1 u2 u3 u4 u5 y0 y1 y2 y3 y4 y5 W)
              rw [hah] at CA
              clear hah hsm
              obtain ⟨p0, p1, p2, p3, p4, p5⟩ := CC.out w7.drew WB.out.drew
              have s0 : w7.drew.cell? ⟨w.heap.size, 0, none⟩ = some (.int .i64 u0) := KS.out.drew.cell 0
              have s1 : w7.drew.cell? ⟨w.heap.size, 1, none⟩ = some (.int .i64 u1) := KS.out.drew.cell 1
              have s2 : w7.drew.cell? ⟨w.heap.size, 2, none⟩ = some (.int .i64 u2) := KS.out.drew.cell 2
              have s3 : w7.drew.cell? ⟨w.heap.size, 3, none⟩ = some (.int .i64 u3) := KS.out.drew.cell 3
              have s4 : w7.drew.cell? ⟨w.heap.size, 4, none⟩ = some (.int .i64 u4) := KS.out.drew.cell 4
              have s5 : w7.drew.cell? ⟨w.heap.size, 5, none⟩ = some (.int .i64 u5) := KS.out.drew.cell 5
              go_wp2_with fail
              go_region_held3 (fun W => W.cell? ⟨w.heap.size, 0, none⟩ = some (.int .i64 u0) ∧ W.cell? ⟨w.heap.size, 1, none⟩ = some (.int .i64 u1) ∧ W.cell? ⟨w.heap.size, 2, none⟩ = some (.int .i64 u2) ∧ W.cell? ⟨w.heap.size, 3, none⟩ = some (.int .i64 u3) ∧ W.cell? ⟨w.heap.size, 4, none⟩ = some (.int .i64 u4) ∧ W.cell? ⟨w.heap.size, 5, none⟩ = some (.int .i64 u5) ∧ W.cell? ⟨b1, off + k * 6, none⟩ = some (.int .i64 y0) ∧ W.cell? ⟨b1, off + k * 6 + 1, none⟩ = some (.int .i64 y1) ∧ W.cell? ⟨b1, off + k * 6 + 2, none⟩ = some (.int .i64 y2) ∧ W.cell? ⟨b1, off + k * 6 + 3, none⟩ = some (.int .i64 y3) ∧ W.cell? ⟨b1, off + k * 6 + 4, none⟩ = some (.int .i64 y4) ∧ W.cell? ⟨b1, off + k * 6 + 5, none⟩ = some (.int .i64 y5))
                (exact ⟨s0, s1, s2, s3, s4, s5, p0, p1, p2, p3, p4, p5⟩)
                (first | (go_at_call 87; refine (CA.out _).mono ?_; rintro e w8 ⟨rfl, hb⟩; have KS := Lib.hid (KS.out.drew.below hb); have RO := Lib.hid (owns_below (show w7.drew.ownsRow _ _ _ _ _ _ from RO.out) hb); have WB := Lib.hid (WB.out.drew.trans (hb.mono WB.out.size)); have s0 : w8.cell? ⟨w.heap.size, 0, none⟩ = some (.int .i64 u0) := KS.out.cell 0; have s1 : w8.cell? ⟨w.heap.size, 1, none⟩ = some (.int .i64 u1) := KS.out.cell 1; have s2 : w8.cell? ⟨w.heap.size, 2, none⟩ = some (.int .i64 u2) := KS.out.cell 2; have s3 : w8.cell? ⟨w.heap.size, 3, none⟩ = some (.int .i64 u3) := KS.out.cell 3; have s4 : w8.cell? ⟨w.heap.size, 4, none⟩ = some (.int .i64 u4) := KS.out.cell 4; have s5 : w8.cell? ⟨w.heap.size, 5, none⟩ = some (.int .i64 u5) := KS.out.cell 5; obtain ⟨p0, p1, p2, p3, p4, p5⟩ := CC.out w8 WB.out; clear hb))
              all_goals
                clear s0 s1 s2 s3 s4 s5
                obtain ⟨a3, c3, w9, hr3, ho3, hb3, _⟩ := appendA (w := w8) ⟨y0, y1, y2, y3, y4, y5⟩ HN2.out RO.out (by have := KS.out.lt; omega) (by omega) 45
                simp only at hr3
                have R3 := Lib.hid hr3
                clear hr3
                go_wp2_with (at_builtin; refine Lib.wpList_append_run _ rfl _ _ _ _ rfl _ _ rfl rfl _ _ R3.out ?_)
                have KS := Lib.hid (KS.out.belowB hb3 (by omega))
                have RO := Lib.hid ho3
                have WB := Lib.hid (WB.out.trans (hb3.mono (by omega)))
                clear ho3 hb3 R3
                clear p0 p1 p2 p3 p4 p5
                go_wp2
                go_roundw
                case rel => exact ⟨k + 1, a3, _, c3, false, A ++ [⟨y0, y1, y2, y3, y4, y5⟩], by omega, by go_num, rfl, rfl, by simp [HN2.out], by omega, HP1.out, RO.out, KS.out, WB.out⟩
                case measure => simp [intOf]; omega
    · have hlt' : ¬ (k : Int) < (l.length : Int) := by omega
      obtain rfl : k = l.length := by omega
      cases b with
      | true =>
        have HE := Lib.hid HP.out.end_yes
        have FIN : Hid (FreshR aC 86 6 (putA l ⟨u0, u1, u2, u3, u4, u5⟩) w (.returned (.slice a2 n2 c2)) wr) := Lib.hid ⟨a2, c2, by rw [← HE.out, ← HN2.out], by rw [← HE.out, ← HN2.out]; exact owns_less RO.out (by omega), WB.out⟩
        go_wp2
        go_ret
        exact FIN.out
      | false =>
        have HE := Lib.hid HP.out.end_no
        have s0 : wr.cell? ⟨w.heap.size, 0, none⟩ = some (.int .i64 u0) := KS.out.cell 0
        have s1 : wr.cell? ⟨w.heap.size, 1, none⟩ = some (.int .i64 u1) := KS.out.cell 1
        have s2 : wr.cell? ⟨w.heap.size, 2, none⟩ = some (.int .i64 u2) := KS.out.cell 2
        have s3 : wr.cell? ⟨w.heap.size, 3, none⟩ = some (.int .i64 u3) := KS.out.cell 3
        have s4 : wr.cell? ⟨w.heap.size, 4, none⟩ = some (.int .i64 u4) := KS.out.cell 4
        have s5 : wr.cell? ⟨w.heap.size, 5, none⟩ = some (.int .i64 u5) := KS.out.cell 5
        obtain ⟨a3, c3, w9, hr3, ho3, hb3, _⟩ := appendA (w := wr) ⟨u0, u1, u2, u3, u4, u5⟩ HN2.out RO.out (by have := KS.out.lt; omega) (by omega) 45
        simp only at hr3
        have R3 := Lib.hid hr3
        clear hr3
        go_wp2_with (at_builtin; refine Lib.wpList_append_run _ rfl _ _ _ _ rfl _ _ rfl rfl _ _ R3.out ?_)
        have KS := Lib.hid (KS.out.belowB hb3 (by omega))
        have RO := Lib.hid ho3
        have WB := Lib.hid (WB.out.trans (hb3.mono (by omega)))
        clear ho3 hb3 R3
        clear s0 s1 s2 s3 s4 s5
        have FIN : Hid (FreshR aC 86 6 (putA l ⟨u0, u1, u2, u3, u4, u5⟩) w (.returned (.slice a3 (n2 + 1) c3)) w9) := Lib.hid ⟨a3, c3, by rw [← HE.out, List.length_append, ← HN2.out]; rfl, by rw [← HE.out, List.length_append, ← HN2.out]; exact owns_less RO.out (by omega), WB.out⟩
        go_wp2
        go_ret
        exact FIN.out
end Go.Proofs.Ytchbmnpajnlijaa
