/- Contracts of chapter 6: KeysOf, impl and spec. -/
import Derived.Test.YtalelcloppbhcaaDoorSet1
import Derived.Test.YtalelcloppbhcaaDoorRow
namespace Go.Proofs.YtalelcloppbhcaaDoor
open Go.RowKit

theorem info_i64 : ∃ i, Tryd.prog.info? 3 = some i ∧ i.zero = some (.int .i64 0) ∧ i.size = 1 ∧ i.bytes = 8 := by
  obtain ⟨i, hi, hzz⟩ := Option.map_eq_some_iff.1 infoI64
  simp only [Prod.mk.injEq] at hzz
  exact ⟨i, hi, hzz.1, hzz.2.1, hzz.2.2⟩
theorem newsI {W : World} {x : Int} {B : Nat} (hB : W.heap.size = B) : ∀ (j : Nat) (u : Value), ([Value.int .i64 x])[j]? = some u → (W.alloc (.cells #[.int .i64 x] 3)).cell? ((⟨B, 0, none⟩ : Addr).add j) = some u := by
  subst hB
  intro j u hj
  have hadd : (⟨W.heap.size, 0, none⟩ : Addr).add j = ⟨W.heap.size, j, none⟩ := by unfold Addr.add; split <;> simp_all
  rw [hadd, (Blk.new W 3 #[.int .i64 x]).cell j]
  simpa using hj
/-- One number more behind a row of the call's own: all that is known. -/
theorem appendI {w : World} {lo n c : Nat} {a1 : Option Addr} {xs : List Int} (x : Int) (hn : n = xs.length) (ho : w.ownsRow lo 3 1 (.slice a1 n c) n (xs.map (Value.int .i64))) (hlo : lo ≤ w.heap.size) (hb : n ≤ 2097152) (ty : TypeId) :
    ∃ a3 c3 w', (Builtin.append_ #[33, 33] ty #[.slice a1 n c, .slice (some ⟨w.heap.size, 0, none⟩) 1 1]).run Tryd.prog (w.alloc (.cells #[.int .i64 x] 3)) = .ok (.slice a3 (n + 1) c3) w' ∧
      w'.ownsRow lo 3 1 (.slice a3 (n + 1) c3) (n + 1) ((xs ++ [x]).map (Value.int .i64)) ∧ Below lo w w' ∧ w.grownBy w' (Value.slice a1 n c).ownBlock := by
  obtain ⟨i0, hi0, hz0, hz1, hz2⟩ := info_i64
  obtain ⟨v', w', hr, h2, h3, _⟩ := run_append_own (P := Tryd.prog) (w.alloc (.cells #[.int .i64 x] 3)) lo 33 ty 3 i0 (.int .i64 0) 1 8 Tryd.underlying33 hi0 hz0 hz1 hz2 rfl (by decide) _ n _ (ho.alloc _) ⟨w.heap.size, 0, none⟩ 1 1 [.int .i64 x] rfl (newsI rfl) (by simp [Value.oneCell']) (by unfold maxLen; omega) (by omega) (by simp; omega)
  obtain ⟨a3, c3, rfl⟩ := owns_shape h2
  refine ⟨a3, c3, w', hr, ?_, ((Below.refl lo w).alloc hlo _).trans (below_own (ho.alloc _) h3 (by simp; omega)), grown_trans (World.grownBy_alloc w _ _) h3⟩
  simpa using h2
set_option maxHeartbeats 4000000 in
set_option maxRecDepth 100000 in
theorem implKeys_any (sh s n : Int) (w : World) : Calls Tryd.prog 13 #[.int .i64 sh, .int .i64 s, .int .i64 n] w (FreshNums 3 .i64 (keysOf sh s n) w) := by
  have HP0 : Hid (FreshNums 3 .i64 [] w (.returned (.slice none 0 0)) w) := ⟨none, 0, rfl, World.ownsRow_nil _ _ _ _, Below.refl _ _⟩
  cases h1 : inB s 1 4 with
  | false =>
    rw [keysOf_no (show keysGood sh s n = false by simp [keysGood, h1])]
    have C1 := Lib.hid (fun W => iShards_any s W)
    rw [h1] at C1
    go_enter Tryd.func13, Tryd.ntmps13
    go_wp2_with (go_at_call 37; refine (C1.out _).mono ?_; rintro e w' ⟨rfl, rfl⟩)
    exact bodyPost_ret (v := .slice none 0 0) (by simp [results, Tryd.results13, go_sem]) rfl HP0.out
  | true =>
    have C1 := Lib.hid (fun W => iShards_any s W)
    rw [h1] at C1
    have b1 := inB_bd h1
    have hws : IntKind.i64.wrap (s - 1) = s - 1 := IntWalk.i64_in _ (by omega)
    cases h2 : inB sh 0 (s - 1) with
    | false =>
      rw [keysOf_no (show keysGood sh s n = false by simp [keysGood, h2])]
      have C2 := Lib.hid (fun W => iWith_any sh 0 (s - 1) W)
      rw [h2] at C2
      clear h1 h2
      go_enter Tryd.func13, Tryd.ntmps13
      go_wp2_with fail
      refine (C1.out _).mono ?_
      rintro e w' ⟨rfl, rfl⟩
      go_wp2_with fail
      refine (C2.out _).mono ?_
      rintro e w' ⟨rfl, rfl⟩
      go_wp2
      exact bodyPost_ret (v := .slice none 0 0) (by simp [results, Tryd.results13, go_sem]) rfl HP0.out
    | true =>
      have C2 := Lib.hid (fun W => iWith_any sh 0 (s - 1) W)
      rw [h2] at C2
      have b2 := inB_bd h2
      cases h3 : inB n 0 300 with
      | false =>
        rw [keysOf_no (show keysGood sh s n = false by simp [keysGood, h3])]
        have C3 := Lib.hid (fun W => iWith_any n 0 300 W)
        rw [h3] at C3
        clear h1 h2 h3
        go_enter Tryd.func13, Tryd.ntmps13
        go_wp2_with fail
        refine (C1.out _).mono ?_
        rintro e w' ⟨rfl, rfl⟩
        go_wp2_with fail
        refine (C2.out _).mono ?_
        rintro e w' ⟨rfl, rfl⟩
        go_wp2_with fail
        refine (C3.out _).mono ?_
        rintro e w' ⟨rfl, rfl⟩
        go_wp2
        exact bodyPost_ret (v := .slice none 0 0) (by simp [results, Tryd.results13, go_sem]) rfl HP0.out
      | true =>
        have C3 := Lib.hid (fun W => iWith_any n 0 300 W)
        rw [h3] at C3
        have b3 := inB_bd h3
        have hG : keysGood sh s n = true := by simp [keysGood, h1, h2, h3]
        have HAT := Lib.hid (fun k hk h => keysOf_at (k := k) hG hk h)
        have HEND := Lib.hid (keysOf_end hG)
        clear h1 h2 h3 hG
        obtain ⟨N, rfl⟩ : ∃ N : Nat, n = (N : Int) := ⟨n.toNat, by omega⟩
        simp only [Int.toNat_natCast] at HAT HEND
        have HLE := Lib.hid (fun k => keysN_le (sh := sh) (s := s) (n := N) k)
        have HIN := Lib.hid (fun k h h2 => keysN_in (sh := sh) (s := s) (n := N) (k := k) h h2)
        have HOUT := Lib.hid (fun k h2 => keysN_out (sh := sh) (s := s) (n := N) (k := k) h2)
        have HZ : Hid (keysN sh s N 0 = []) := Lib.hid rfl
        generalize keysN sh s N = K at HAT HEND HLE HIN HOUT HZ
        generalize keysOf sh s (N : Int) = R at HAT HEND ⊢
        obtain ⟨i0, hi0, hz0, hz1, hz2⟩ := info_i64
        have hnn : (0 : Int) ≤ (N : Int) := by omega
        go_enter Tryd.func13, Tryd.ntmps13
        go_wp2_with fail
        refine (C1.out _).mono ?_
        rintro e w' ⟨rfl, rfl⟩
        go_wp2_with fail
        refine (C2.out _).mono ?_
        rintro e w' ⟨rfl, rfl⟩
        go_wp2_with fail
        refine (C3.out _).mono ?_
        rintro e w' ⟨rfl, rfl⟩
        go_wp2_with (at_make; refine wpList_make_own _ rfl _ _ 33 rfl w.heap.size 3 i0 (.int .i64 0) 1 Tryd.underlying33 hi0 hz0 hz1 _ _ _ N rfl rfl rfl (by rw [hz2]; omega) (by unfold maxLen; omega) (Nat.le_refl _) ?_; intro w1 hO hG; have HO := Lib.hid hO; have HB := Lib.hid (below_grown hG); clear hO hG)
        go_loopw [7, 26] (fun ks i wr => ∃ (k m : Nat) (a2 : Option Addr) (c2 : Nat), k ≤ 65536 ∧ i = .int .i64 k ∧ ks = .slice a2 m c2 ∧ m = (K k).length ∧ wr.ownsRow w.heap.size 3 1 (.slice a2 m c2) m ((K k).map (Value.int .i64)) ∧ Below w.heap.size w wr) (fun _ i _ => 65536 - (intOf i).toNat)
        case atStart => exact ⟨0, 0, some ⟨w.heap.size, 0, none⟩, N, by omega, rfl, rfl, by rw [HZ.out]; rfl, by rw [HZ.out]; exact HO.out, HB.out⟩
        case round =>
          obtain ⟨k, m, a2, c2, hk, rfl, rfl, hm, hown, hb⟩ := hrel
          have HM := Lib.hid hm
          have HO := Lib.hid hown
          have HB := Lib.hid hb
          have hle : m ≤ 300 := by have := HLE.out k; omega
          clear hm hown hb
          by_cases hlt : k ≤ 65535
          · have hlt' : (k : Int) ≤ 65535 := by omega
            have hg : decide ((k : Int) < 65536) = true := decide_eq_true (by omega)
            by_cases hf : m = N
            · have HP : Hid (FreshNums 3 .i64 R w (.returned (.slice a2 m c2)) wr) := by
                have e : R = K k := HAT.out k hk (by rw [← HM.out, hf])
                have e2 := HM.out
                exact ⟨a2, c2, by rw [e, ← e2], by rw [e, ← e2]; exact HO.out, HB.out⟩
              subst hf
              go_wp2
              exact bodyPost_ret (v := .slice a2 _ c2) (by simp [results, Tryd.results13, go_sem]) rfl HP.out
            · have HF := Lib.hid hf
              have hlm : (m : Int) < (N : Int) := by have := HLE.out k; have := HM.out; omega
              have hne : ((m : Int) == (N : Int)) = false := beq_eq_false_iff_ne.2 (by omega)
              have hne2 : ¬ (m : Int) = (N : Int) := by omega
              clear hf
              have CS := Lib.hid (fun W => implShardOf_any (k : Int) s W)
              by_cases he : shardOf (k : Int) s = sh
              · rw [he] at CS
                have HE := Lib.hid (HIN.out k (by rw [← HM.out]; exact HF.out) he)
                obtain ⟨a3, c3, w3, hr3, ho3, hb3, _⟩ := appendI (w := wr) (k : Int) HM.out HO.out HB.out.size (by omega) 33
                have R3 := Lib.hid hr3
                have HO3 := Lib.hid ho3
                have HB3 := Lib.hid (HB.out.trans hb3)
                clear he hr3 ho3 hb3
                go_wp2_with (first | (go_at_call 14; refine (CS.out _).mono ?_; rintro e w' ⟨rfl, rfl⟩) | (at_builtin; refine Lib.wpList_append_run _ rfl _ _ _ _ rfl _ _ rfl rfl _ _ R3.out ?_))
                go_roundw
                case rel => exact ⟨k + 1, m + 1, a3, c3, by omega, by go_num, rfl, by rw [HE.out, List.length_append, ← HM.out]; rfl, by rw [HE.out]; exact HO3.out, HB3.out⟩
                case measure => simp [intOf]; omega
              · have HE := Lib.hid (HOUT.out k he)
                generalize shardOf (k : Int) s = Z at CS he
                have hd : (Z == sh) = false := beq_eq_false_iff_ne.2 he
                go_wp2_with (go_at_call 14; refine (CS.out _).mono ?_; rintro e w' ⟨rfl, rfl⟩)
                go_roundw
                case rel => exact ⟨k + 1, m, a2, c2, by omega, by go_num, rfl, by rw [HE.out]; exact HM.out, by rw [HE.out]; exact HO.out, HB.out⟩
                case measure => simp [intOf]; omega
          · obtain rfl : k = 65536 := by omega
            have HP : Hid (FreshNums 3 .i64 R w (.returned (.slice a2 m c2)) wr) := by
              have e := HEND.out
              have e2 := HM.out
              exact ⟨a2, c2, by rw [e, ← e2], by rw [e, ← e2]; exact HO.out, HB.out⟩
            go_wp2
            exact bodyPost_ret (v := .slice a2 _ c2) (by simp [results, Tryd.results13, go_sem]) rfl HP.out
end Go.Proofs.YtalelcloppbhcaaDoor
