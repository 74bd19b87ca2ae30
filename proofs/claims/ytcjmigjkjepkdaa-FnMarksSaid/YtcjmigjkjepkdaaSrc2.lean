/- Contracts of chapter 4: what is done to a source, on impl's and on spec's side. -/
import Derived.Test.YtcjmigjkjepkdaaSrc1
namespace Go.Proofs.Ytcjmigjkjepkdaa
open Go.RowKit

theorem Blk.set_ {w : World} {g : Nat} {t : TypeId} {cs : Array Value} (h : Blk w g t cs) (i : Nat) (u : Value) : Blk (w.setCell ⟨g, i, none⟩ u) g t (cs.setIfInBounds i u) := by
  unfold Blk at h ⊢
  simp [World.setCell, Array.getElem?_modify, h]
theorem Blk.far_ {w : World} {g : Nat} {t : TypeId} {cs : Array Value} (h : Blk w g t cs) {p : Addr} (hp : g ≠ p.block) (u : Value) : Blk (w.setCell p u) g t cs := (Below.heap_setCell w p u g hp).trans h
theorem below_set5 {lo n : Nat} {w w1 : World} (hb : Below lo w w1) (hn : lo ≤ n) (a b c d e : Value) : Below lo w (((((w1.setCell ⟨n, 0, none⟩ a).setCell ⟨n, 1, none⟩ b).setCell ⟨n, 2, none⟩ c).setCell ⟨n, 3, none⟩ d).setCell ⟨n, 4, none⟩ e) :=
  ((((hb.setCell (p := ⟨n, 0, none⟩) hn a).setCell (p := ⟨n, 1, none⟩) hn b).setCell (p := ⟨n, 2, none⟩) hn c).setCell (p := ⟨n, 3, none⟩) hn d).setCell (p := ⟨n, 4, none⟩) hn e

/-- A source and whether. -/
def SrcRes (S : Src) (b : Bool) (w : World) (e : Ending) (w' : World) : Prop := e = .returned (.tuple #[(.agg #[.int .i64 S.x, .int .i64 S.m, .int .i64 S.s, .bool S.i, .bool S.o]), .bool b]) ∧ Below w.heap.size w w'


theorem hearB_no {S : Src} {now : Int} (h : S.o = true) (h1 : sOk S = true) (h2 : ¬ (S.s ≤ now ∧ now ≤ 1000000000)) : hearB S now = false := by
  unfold hearB; rw [h, h1, inB_no h2]; rfl
theorem hearB_yes {S : Src} {now : Int} (h : S.o = true) (h1 : sOk S = true) (h2 : S.s ≤ now) (h3 : now ≤ 1000000000) : hearB S now = true := by
  unfold hearB; rw [h, h1, inB_yes h2 h3]; rfl
theorem hears_x (x m s : Int) (i o : Bool) (now : Int) (w : World) : Calls Try.prog 58 #[(.agg #[.int .i64 x, .int .i64 m, .int .i64 s, .bool i, .bool o]), .int .i64 now] w fun e w' => e = .returned (.bool (hearB ⟨x, m, s, i, o⟩ now)) ∧ Below w.heap.size w w' := by
  have B1 := Lib.hid ((Below.refl w.heap.size w).alloc (Nat.le_refl _) (.cells #[.int .i64 x, .int .i64 m, .int .i64 s, .bool i, .bool o] 28))
  have K0 := Lib.hid (Blk.new w 28 #[.int .i64 x, .int .i64 m, .int .i64 s, .bool i, .bool o])
  have HC := Lib.hid (implSrcOk_any ⟨x, m, s, i, o⟩)
  cases hk : sOk ⟨x, m, s, i, o⟩ with
  | false =>
    have hh : hearB ⟨x, m, s, i, o⟩ now = false := by unfold hearB; rw [hk]; rfl
    rw [hh]
    rw [hk] at HC
    clear hk hh
    go_enter Try.func58, Try.ntmps58
    go_wp2_with fail
    refine (HC.out _).mono ?_
    rintro e w1 ⟨rfl, hb⟩
    have B2 := Lib.hid (B1.out.trans (hb.mono (by simp)))
    clear hb
    go_wp2
    go_ret
    exact ⟨rfl, B2.out⟩
  | true =>
    have bd := sOk_bd hk
    simp only at bd
    rw [hk] at HC
    have HK := Lib.hid hk
    clear hk
    cases o with
    | false =>
      have hh : hearB ⟨x, m, s, i, false⟩ now = false := by unfold hearB; rw [HK.out]; rfl
      rw [hh]
      clear hh
      go_enter Try.func58, Try.ntmps58
      go_wp2_with fail
      refine (HC.out _).mono ?_
      rintro e w1 ⟨rfl, hb⟩
      have B2 := Lib.hid (B1.out.trans (hb.mono (by simp)))
      have q0 := (K0.out.below hb).cell
      clear hb
      go_wp2
      go_ret
      exact ⟨rfl, B2.out⟩
    | true =>
      by_cases ht : 0 ≤ now ∧ now ≤ 1000000000
      · have ht' : tickB now = true := tickB_yes ht.1 ht.2
        have HT := Lib.hid (implTickOk_any now)
        rw [ht'] at HT
        clear ht'
        by_cases hs : s ≤ now
        · have hh : hearB ⟨x, m, s, i, true⟩ now = true := hearB_yes rfl HK.out hs ht.2
          rw [hh]
          clear hh
          go_enter Try.func58, Try.ntmps58
          go_wp2_with fail
          refine (HC.out _).mono ?_
          rintro e w1 ⟨rfl, hb⟩
          have B2 := Lib.hid (B1.out.trans (hb.mono (by simp)))
          have q0 := (K0.out.below hb).cell
          clear hb
          go_wp2_with fail
          refine (HT.out _).mono ?_
          rintro e w2 ⟨rfl, rfl⟩
          go_wp2
          go_ret
          exact ⟨rfl, B2.out⟩
        · have hh : hearB ⟨x, m, s, i, true⟩ now = false := hearB_no rfl HK.out (by simp only; omega)
          rw [hh]
          clear hh
          go_enter Try.func58, Try.ntmps58
          go_wp2_with fail
          refine (HC.out _).mono ?_
          rintro e w1 ⟨rfl, hb⟩
          have B2 := Lib.hid (B1.out.trans (hb.mono (by simp)))
          have q0 := (K0.out.below hb).cell
          clear hb
          go_wp2_with fail
          refine (HT.out _).mono ?_
          rintro e w2 ⟨rfl, rfl⟩
          go_wp2
          go_ret
          exact ⟨by simp; omega, B2.out⟩
      · have ht' : tickB now = false := tickB_no ht
        have HT := Lib.hid (implTickOk_any now)
        rw [ht'] at HT
        clear ht'
        have hh : hearB ⟨x, m, s, i, true⟩ now = false := hearB_no rfl HK.out (by simp only; omega)
        rw [hh]
        clear hh
        go_enter Try.func58, Try.ntmps58
        go_wp2_with fail
        refine (HC.out _).mono ?_
        rintro e w1 ⟨rfl, hb⟩
        have B2 := Lib.hid (B1.out.trans (hb.mono (by simp)))
        have q0 := (K0.out.below hb).cell
        clear hb
        go_wp2_with fail
        refine (HT.out _).mono ?_
        rintro e w2 ⟨rfl, rfl⟩
        go_wp2
        go_ret
        exact ⟨rfl, B2.out⟩
theorem hears_any (S : Src) (now : Int) (w : World) : Calls Try.prog 58 #[(.agg #[.int .i64 S.x, .int .i64 S.m, .int .i64 S.s, .bool S.i, .bool S.o]), .int .i64 now] w fun e w' => e = .returned (.bool (hearB S now)) ∧ Below w.heap.size w w' := hears_x S.x S.m S.s S.i S.o now w

theorem fine_x (x m s : Int) (i o : Bool) (t now : Int) (w : World) : Calls Try.prog 41 #[(.agg #[.int .i64 x, .int .i64 m, .int .i64 s, .bool i, .bool o]), .int .i64 t, .int .i64 now] w fun e w' => e = .returned (.bool (mkOk ⟨x, m, s, i, o⟩ t now)) ∧ Below w.heap.size w w' := by
  have B1 := Lib.hid ((Below.refl w.heap.size w).alloc (Nat.le_refl _) (.cells #[.int .i64 x, .int .i64 m, .int .i64 s, .bool i, .bool o] 28))
  have K0 := Lib.hid (Blk.new w 28 #[.int .i64 x, .int .i64 m, .int .i64 s, .bool i, .bool o])
  have HC := Lib.hid (specSrcOk_any ⟨x, m, s, i, o⟩)
  have HT := Lib.hid (specIn_any t 0 1000000)
  have HN := Lib.hid (specIn_any now s 1000000000)
  cases hk : sOk ⟨x, m, s, i, o⟩ with
  | false =>
    have hh : mkOk ⟨x, m, s, i, o⟩ t now = false := by unfold mkOk hearB; rw [hk]; rfl
    rw [hh]
    rw [hk] at HC
    clear hk hh
    go_enter Try.func41, Try.ntmps41
    go_wp2_with fail
    refine (HC.out _).mono ?_
    rintro e w1 ⟨rfl, hb⟩
    have B2 := Lib.hid (B1.out.trans (hb.mono (by simp)))
    clear hb
    go_wp2
    go_ret
    exact ⟨rfl, B2.out⟩
  | true =>
    rw [hk] at HC
    have HK := Lib.hid hk
    clear hk
    cases o with
    | false =>
      have hh : mkOk ⟨x, m, s, i, false⟩ t now = false := by unfold mkOk hearB; rw [HK.out]; rfl
      rw [hh]
      clear hh
      go_enter Try.func41, Try.ntmps41
      go_wp2_with fail
      refine (HC.out _).mono ?_
      rintro e w1 ⟨rfl, hb⟩
      have B2 := Lib.hid (B1.out.trans (hb.mono (by simp)))
      have q0 := (K0.out.below hb).cell
      clear hb
      go_wp2
      go_ret
      exact ⟨rfl, B2.out⟩
    | true =>
      cases ht : inB t 0 1000000 with
      | false =>
        have hh : mkOk ⟨x, m, s, i, true⟩ t now = false := by unfold mkOk isTm; rw [ht, Bool.and_false]
        rw [hh]
        rw [ht] at HT
        clear hh ht
        go_enter Try.func41, Try.ntmps41
        go_wp2_with fail
        refine (HC.out _).mono ?_
        rintro e w1 ⟨rfl, hb⟩
        have B2 := Lib.hid (B1.out.trans (hb.mono (by simp)))
        have q0 := (K0.out.below hb).cell
        clear hb
        go_wp2_with fail
        refine (HT.out _).mono ?_
        rintro e w2 ⟨rfl, rfl⟩
        go_wp2
        go_ret
        exact ⟨rfl, B2.out⟩
      | true =>
        have hh : mkOk ⟨x, m, s, i, true⟩ t now = inB now s 1000000000 := by unfold mkOk hearB isTm; rw [ht, HK.out]; simp
        rw [hh]
        rw [ht] at HT
        clear hh ht
        go_enter Try.func41, Try.ntmps41
        go_wp2_with fail
        refine (HC.out _).mono ?_
        rintro e w1 ⟨rfl, hb⟩
        have B2 := Lib.hid (B1.out.trans (hb.mono (by simp)))
        have q0 := (K0.out.below hb).cell
        clear hb
        go_wp2_with fail
        refine (HT.out _).mono ?_
        rintro e w2 ⟨rfl, rfl⟩
        go_wp2_with fail
        refine (HN.out _).mono ?_
        rintro e w2 ⟨rfl, rfl⟩
        go_wp2
        go_ret
        exact ⟨rfl, B2.out⟩
theorem fine_any (S : Src) (t now : Int) (w : World) : Calls Try.prog 41 #[(.agg #[.int .i64 S.x, .int .i64 S.m, .int .i64 S.s, .bool S.i, .bool S.o]), .int .i64 t, .int .i64 now] w fun e w' => e = .returned (.bool (mkOk S t now)) ∧ Below w.heap.size w w' := fine_x S.x S.m S.s S.i S.o t now w


theorem active_x (x m s : Int) (i o : Bool) (w : World) : Calls Try.prog 51 #[(.agg #[.int .i64 x, .int .i64 m, .int .i64 s, .bool i, .bool o])] w fun e w' => e = .returned (.bool (o && !i)) ∧ Below w.heap.size w w' := by
  have B1 := Lib.hid ((Below.refl w.heap.size w).alloc (Nat.le_refl _) (.cells #[.int .i64 x, .int .i64 m, .int .i64 s, .bool i, .bool o] 28))
  cases o with
  | false =>
    rw [Bool.false_and]
    go_enter Try.func51, Try.ntmps51
    go_wp2
    go_ret
    exact ⟨rfl, B1.out⟩
  | true =>
    rw [Bool.true_and]
    go_enter Try.func51, Try.ntmps51
    go_wp2
    go_ret
    exact ⟨rfl, B1.out⟩
theorem active_any (S : Src) (w : World) : Calls Try.prog 51 #[(.agg #[.int .i64 S.x, .int .i64 S.m, .int .i64 S.s, .bool S.i, .bool S.o])] w fun e w' => e = .returned (.bool (S.o && !S.i)) ∧ Below w.heap.size w w' := active_x S.x S.m S.s S.i S.o w
theorem heard_x (x m s : Int) (i o : Bool) (mk now : Int) (w : World) : Calls Try.prog 60 #[(.agg #[.int .i64 x, .int .i64 m, .int .i64 s, .bool i, .bool o]), .int .i64 mk, .int .i64 now] w fun e w' => e = .returned (.agg #[.int .i64 x, .int .i64 ((max m mk)), .int .i64 now, .bool false, .bool o]) ∧ Below w.heap.size w w' := by
  have HP := Lib.hid fun v : Int => ((Below.refl w.heap.size w).alloc (Nat.le_refl _) (.cells #[.int .i64 x, .int .i64 v, .int .i64 now, .bool false, .bool o] 28)).alloc (by simp) (.cells #[.int .i64 x, .int .i64 v, .int .i64 now, .bool false, .bool o] 28)
  by_cases h : mk ≤ m
  · rw [Int.max_eq_left h]
    go_enter Try.func60, Try.ntmps60
    go_wp2
    all_goals
      exact bodyPost_ret (v := (.agg #[.int .i64 x, .int .i64 m, .int .i64 now, .bool false, .bool o])) (by simp [results, Try.results60, go_sem]) rfl ⟨rfl, HP.out m⟩
  · have h2 : m ≤ mk := by omega
    rw [Int.max_eq_right h2]
    go_enter Try.func60, Try.ntmps60
    go_wp2
    all_goals
      exact bodyPost_ret (v := (.agg #[.int .i64 x, .int .i64 mk, .int .i64 now, .bool false, .bool o])) (by simp [results, Try.results60, go_sem]) rfl ⟨rfl, HP.out mk⟩
theorem heard_any (S : Src) (mk now : Int) (w : World) : Calls Try.prog 60 #[(.agg #[.int .i64 S.x, .int .i64 S.m, .int .i64 S.s, .bool S.i, .bool S.o]), .int .i64 mk, .int .i64 now] w fun e w' => e = .returned (.agg #[.int .i64 S.x, .int .i64 ((max S.m mk)), .int .i64 now, .bool false, .bool S.o]) ∧ Below w.heap.size w w' := heard_x S.x S.m S.s S.i S.o mk now w
theorem more_any (x y : Int) (w : World) : Calls Try.prog 43 #[.int .i64 x, .int .i64 y] w fun e w' => e = .returned (.int .i64 (max x y)) ∧ w = w' := by
  by_cases h : x < y
  · rw [Int.max_eq_right (by omega)]
    go_enter Try.func43, Try.ntmps43
    go_wp2
    go_ret
    exact ⟨rfl, rfl⟩
  · rw [Int.max_eq_left (by omega)]
    go_enter Try.func43, Try.ntmps43
    go_wp2
    go_ret
    exact ⟨rfl, rfl⟩

theorem hearB_bd {S : Src} {now : Int} (h : hearB S now = true) : -1 ≤ S.x ∧ S.x ≤ 1000000 ∧ -1 ≤ S.m ∧ S.m ≤ 1000000 ∧ 0 ≤ S.s ∧ S.s ≤ now ∧ now ≤ 1000000000 ∧ S.o = true := by
  simp only [hearB, Bool.and_eq_true] at h
  obtain ⟨h1, h2, h3⟩ := h
  have := sOk_bd h1
  have := inB_bd h3
  exact ⟨by omega, by omega, by omega, by omega, by omega, by omega, by omega, h2⟩

set_option maxHeartbeats 1000000 in
set_option maxRecDepth 100000 in
theorem implEvent_x (x m s : Int) (i o : Bool) (late t now : Int) (w : World) : Calls Try.prog 46 #[(.agg #[.int .i64 x, .int .i64 m, .int .i64 s, .bool i, .bool o]), .int .i64 late, .int .i64 t, .int .i64 now] w (SrcRes (evT ⟨x, m, s, i, o⟩ late t now) (evOk ⟨x, m, s, i, o⟩ late t now) w) := by
  have K0 := Lib.hid ((Blk.new w 28 #[.int .i64 x, .int .i64 m, .int .i64 s, .bool i, .bool o]).alloc (.cells #[.int .i64 0, .int .i64 0, .int .i64 0, .bool false, .bool false] 28))
  have k1 := Blk.new (w.alloc (.cells #[.int .i64 x, .int .i64 m, .int .i64 s, .bool i, .bool o] 28)) 28 #[.int .i64 0, .int .i64 0, .int .i64 0, .bool false, .bool false]
  simp only [World.size_alloc] at k1
  have K1 := Lib.hid k1
  have B2 := Lib.hid (((Below.refl w.heap.size w).alloc (Nat.le_refl _) (.cells #[.int .i64 x, .int .i64 m, .int .i64 s, .bool i, .bool o] 28)).alloc (by simp) (.cells #[.int .i64 0, .int .i64 0, .int .i64 0, .bool false, .bool false] 28))
  clear k1
  have HC := Lib.hid (hears_any ⟨x, m, s, i, o⟩ now)
  have HL := Lib.hid (isTime_any late)
  have HT := Lib.hid (isTime_any t)
  cases hk : hearB ⟨x, m, s, i, o⟩ now with
  | false =>
    have hh : evOk ⟨x, m, s, i, o⟩ late t now = false := by unfold evOk; rw [hk]; rfl
    rw [evT_no hh, hh]
    rw [hk] at HC
    clear hk hh
    go_enter Try.func46, Try.ntmps46
    go_wp2_with fail
    refine (HC.out _).mono ?_
    rintro e w1 ⟨rfl, hb⟩
    have B3 := Lib.hid (B2.out.trans (hb.mono (by simp; omega)))
    have k0 := K0.out.below hb
    have k1 := K1.out.below hb
    have q0 := k0.cell
    have q1 := k1.cell
    have f0 := k0.frozen
    have f1 := k1.frozen
    have l1 := hb.size
    simp only [World.size_alloc] at l1
    have J0 := Lib.hid k0
    have J1 := Lib.hid k1
    clear hb k0 k1
    go_wp2
    exact bodyPost_ret (v := .tuple #[(.agg #[.int .i64 x, .int .i64 m, .int .i64 s, .bool i, .bool o]), .bool false]) (by simp [results, Try.results46, go_sem, q1]) rfl ⟨rfl, below_set5 B3.out (by omega) _ _ _ _ _⟩
  | true =>
    rw [hk] at HC
    obtain ⟨bd1, bd2, bd3, bd4, bd5, bd6, bd7, bd8⟩ := hearB_bd hk
    simp only at bd1 bd2 bd3 bd4 bd5 bd6 bd7 bd8
    subst bd8
    have HK := Lib.hid hk
    clear hk
    cases hl : isTm late with
    | false =>
      have hh : evOk ⟨x, m, s, i, true⟩ late t now = false := by unfold evOk; rw [hl, Bool.false_and, Bool.and_false]
      rw [evT_no hh, hh]
      rw [hl] at HL
      clear hl hh
      go_enter Try.func46, Try.ntmps46
      go_wp2_with fail
      refine (HC.out _).mono ?_
      rintro e w1 ⟨rfl, hb⟩
      have B3 := Lib.hid (B2.out.trans (hb.mono (by simp; omega)))
      have k0 := K0.out.below hb
      have k1 := K1.out.below hb
      have q0 := k0.cell
      have q1 := k1.cell
      have f0 := k0.frozen
      have f1 := k1.frozen
      have l1 := hb.size
      simp only [World.size_alloc] at l1
      have J0 := Lib.hid k0
      have J1 := Lib.hid k1
      clear hb k0 k1
      go_wp2_with fail
      refine (HL.out _).mono ?_
      rintro e w2 ⟨rfl, rfl⟩
      go_wp2
      exact bodyPost_ret (v := .tuple #[(.agg #[.int .i64 x, .int .i64 m, .int .i64 s, .bool i, .bool true]), .bool false]) (by simp [results, Try.results46, go_sem, q1]) rfl ⟨rfl, below_set5 B3.out (by omega) _ _ _ _ _⟩
    | true =>
      have bl := inB_bd hl
      rw [hl] at HL
      have HL2 := Lib.hid hl
      clear hl
      cases ht : isTm t with
      | false =>
        have hh : evOk ⟨x, m, s, i, true⟩ late t now = false := by unfold evOk; rw [ht, Bool.and_false, Bool.and_false]
        rw [evT_no hh, hh]
        rw [ht] at HT
        clear ht hh
        go_enter Try.func46, Try.ntmps46
        go_wp2_with fail
        refine (HC.out _).mono ?_
        rintro e w1 ⟨rfl, hb⟩
        have B3 := Lib.hid (B2.out.trans (hb.mono (by simp; omega)))
        have k0 := K0.out.below hb
        have k1 := K1.out.below hb
        have q0 := k0.cell
        have q1 := k1.cell
        have f0 := k0.frozen
        have f1 := k1.frozen
        have l1 := hb.size
        simp only [World.size_alloc] at l1
        have J0 := Lib.hid k0
        have J1 := Lib.hid k1
        clear hb k0 k1
        go_wp2_with fail
        refine (HL.out _).mono ?_
        rintro e w2 ⟨rfl, rfl⟩
        go_wp2_with fail
        refine (HT.out _).mono ?_
        rintro e w2 ⟨rfl, rfl⟩
        go_wp2
        exact bodyPost_ret (v := .tuple #[(.agg #[.int .i64 x, .int .i64 m, .int .i64 s, .bool i, .bool true]), .bool false]) (by simp [results, Try.results46, go_sem, q1]) rfl ⟨rfl, below_set5 B3.out (by omega) _ _ _ _ _⟩
      | true =>
        have bt := inB_bd ht
        have hh : evOk ⟨x, m, s, i, true⟩ late t now = true := by unfold evOk; rw [HK.out, HL2.out, ht]; rfl
        rw [evT_yes hh, hh]
        rw [ht] at HT
        clear ht hh
        simp only
        have HH := Lib.hid fun X W => heard_any ⟨X, m, s, i, true⟩ (X - late - 1) now W
        go_enter Try.func46, Try.ntmps46
        go_wp2_with fail
        refine (HC.out _).mono ?_
        rintro e w1 ⟨rfl, hb⟩
        have B3 := Lib.hid (B2.out.trans (hb.mono (by simp; omega)))
        have k0 := K0.out.below hb
        have k1 := K1.out.below hb
        have q0 := k0.cell
        have q1 := k1.cell
        have f0 := k0.frozen
        have f1 := k1.frozen
        have l1 := hb.size
        simp only [World.size_alloc] at l1
        have J0 := Lib.hid k0
        have J1 := Lib.hid k1
        clear hb k0 k1
        go_wp2_with fail
        refine (HL.out _).mono ?_
        rintro e w2 ⟨rfl, rfl⟩
        go_wp2_with fail
        refine (HT.out _).mono ?_
        rintro e w2 ⟨rfl, rfl⟩
        go_wp2_with fail
        · have hm : max x t = t := by omega
          have HM := Lib.hid hm
          clear hm
          refine (HH.out t _).mono ?_
          rintro e w2 ⟨rfl, hb⟩
          have B4 := Lib.hid ((B3.out.setCell (p := ⟨w.heap.size, 0, none⟩) (Nat.le_refl _) _).trans (hb.mono (by simp; omega)))
          have k1 := (J1.out.far_ (p := ⟨w.heap.size, 0, none⟩) (by simp) _).below hb
          have l2 := hb.size
          simp only [World.size_setCell] at l2
          clear q0 q1 f0 f1 hb
          have q1 := k1.cell
          have f1 := k1.frozen
          clear k1
          go_wp2
          exact bodyPost_ret (v := .tuple #[(.agg #[.int .i64 t, .int .i64 ((max m (t - late - 1))), .int .i64 now, .bool false, .bool true]), .bool true]) (by simp [results, Try.results46, go_sem, q1]) rfl ⟨by rw [HM.out], below_set5 B4.out (by omega) _ _ _ _ _⟩
        · have hm : max x t = x := by omega
          have HM := Lib.hid hm
          clear hm
          refine (HH.out x _).mono ?_
          rintro e w2 ⟨rfl, hb⟩
          have B4 := Lib.hid ((B3.out.setCell (p := ⟨w.heap.size, 0, none⟩) (Nat.le_refl _) _).trans (hb.mono (by simp; omega)))
          have k1 := (J1.out.far_ (p := ⟨w.heap.size, 0, none⟩) (by simp) _).below hb
          have l2 := hb.size
          simp only [World.size_setCell] at l2
          clear q0 q1 f0 f1 hb
          have q1 := k1.cell
          have f1 := k1.frozen
          clear k1
          go_wp2
          exact bodyPost_ret (v := .tuple #[(.agg #[.int .i64 x, .int .i64 ((max m (x - late - 1))), .int .i64 now, .bool false, .bool true]), .bool true]) (by simp [results, Try.results46, go_sem, q1]) rfl ⟨by rw [HM.out], below_set5 B4.out (by omega) _ _ _ _ _⟩

end Go.Proofs.Ytcjmigjkjepkdaa
