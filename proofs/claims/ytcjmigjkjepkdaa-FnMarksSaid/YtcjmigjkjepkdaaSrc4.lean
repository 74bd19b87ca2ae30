/- Contracts of chapter 4: what is done to a source: spec's side. -/
import Derived.Test.YtcjmigjkjepkdaaSrc3
namespace Go.Proofs.Ytcjmigjkjepkdaa
open Go.RowKit


set_option maxHeartbeats 1000000 in
set_option maxRecDepth 100000 in
theorem specEvent_x (x m s : Int) (i o : Bool) (late : Int) (t : Int) (now : Int) (w : World) : Calls Try.prog 23 #[(.agg #[.int .i64 x, .int .i64 m, .int .i64 s, .bool i, .bool o]), .int .i64 late, .int .i64 t, .int .i64 now] w (SrcRes (evT ⟨x, m, s, i, o⟩ late t now) (evOk ⟨x, m, s, i, o⟩ late t now) w) := by
  have J0 := Lib.hid ((Blk.new w 28 #[.int .i64 x, .int .i64 m, .int .i64 s, .bool i, .bool o]).alloc (.cells #[.int .i64 0, .int .i64 0, .int .i64 0, .bool false, .bool false] 28))
  have k1 := Blk.new (w.alloc (.cells #[.int .i64 x, .int .i64 m, .int .i64 s, .bool i, .bool o] 28)) 28 #[.int .i64 0, .int .i64 0, .int .i64 0, .bool false, .bool false]
  simp only [World.size_alloc] at k1
  have J1 := Lib.hid k1
  have BB := Lib.hid (((Below.refl w.heap.size w).alloc (Nat.le_refl _) (.cells #[.int .i64 x, .int .i64 m, .int .i64 s, .bool i, .bool o] 28)).alloc (by simp) (.cells #[.int .i64 0, .int .i64 0, .int .i64 0, .bool false, .bool false] 28))
  clear k1
  have HC := Lib.hid (fine_any ⟨x, m, s, i, o⟩ t now)
  have HL := Lib.hid (specIn_any late 0 1000000)
  have HM := Lib.hid (more_any x t)
  cases hk : mkOk ⟨x, m, s, i, o⟩ t now with
  | false =>
    have hh : evOk ⟨x, m, s, i, o⟩ late t now = false := by
      unfold evOk; unfold mkOk at hk
      cases h1 : hearB ⟨x, m, s, i, o⟩ now with
      | false => rfl
      | true => rw [h1, Bool.true_and] at hk; rw [hk]; simp
    rw [evT_no hh, hh]
    rw [hk] at HC
    clear hk hh
    go_enter Try.func23, Try.ntmps23
    go_wp2_with fail
    refine (HC.out _).mono ?_
    rintro e w1 ⟨rfl, hb⟩
    have B_ := Lib.hid (BB.out.trans (hb.mono (by first | omega | (simp; omega) | (simp at *; omega))))
    clear BB
    have BB := B_
    have k0 := J0.out.below hb
    have k1 := J1.out.below hb
    have l1 := hb.size
    first | simp only [World.size_alloc] at l1 | skip
    clear hb J0 J1 B_
    have q0_1 := k0.cell
    have q1_1 := k1.cell
    have f0_1 := k0.frozen
    have f1_1 := k1.frozen
    have J0 := Lib.hid k0
    have J1 := Lib.hid k1
    clear k0 k1
    go_wp2
    exact bodyPost_ret (v := .tuple #[(.agg #[.int .i64 x, .int .i64 m, .int .i64 s, .bool i, .bool o]), .bool false]) (by simp [results, Try.results23, go_sem, q1_1]) rfl ⟨rfl, below_set5 BB.out (by omega) _ _ _ _ _⟩
  | true =>
    have hk' := hk
    rw [mkOk, Bool.and_eq_true] at hk'
    obtain ⟨bd1, bd2, bd3, bd4, bd5, bd6, bd7, bd8⟩ := hearB_bd hk'.1
    have bt := inB_bd hk'.2
    simp only at bd1 bd2 bd3 bd4 bd5 bd6 bd7 bd8
    subst bd8
    rw [hk] at HC
    have HK := Lib.hid hk'
    clear hk hk'
    cases hl : isTm late with
    | false =>
      have hh : evOk ⟨x, m, s, i, true⟩ late t now = false := by unfold evOk; rw [hl, Bool.false_and, Bool.and_false]
      rw [evT_no hh, hh]
      rw [show inB late 0 1000000 = false from hl] at HL
      clear hl hh
      go_enter Try.func23, Try.ntmps23
      go_wp2_with fail
      refine (HC.out _).mono ?_
      rintro e w1 ⟨rfl, hb⟩
      have B_ := Lib.hid (BB.out.trans (hb.mono (by first | omega | (simp; omega) | (simp at *; omega))))
      clear BB
      have BB := B_
      have k0 := J0.out.below hb
      have k1 := J1.out.below hb
      have l1 := hb.size
      first | simp only [World.size_alloc] at l1 | skip
      clear hb J0 J1 B_
      have q0_1 := k0.cell
      have q1_1 := k1.cell
      have f0_1 := k0.frozen
      have f1_1 := k1.frozen
      have J0 := Lib.hid k0
      have J1 := Lib.hid k1
      clear k0 k1
      go_wp2_with fail
      refine (HL.out _).mono ?_
      rintro e w' ⟨rfl, rfl⟩
      go_wp2
      exact bodyPost_ret (v := .tuple #[(.agg #[.int .i64 x, .int .i64 m, .int .i64 s, .bool i, .bool true]), .bool false]) (by simp [results, Try.results23, go_sem, q1_1]) rfl ⟨rfl, below_set5 BB.out (by omega) _ _ _ _ _⟩
    | true =>
      have bl := inB_bd hl
      have hh : evOk ⟨x, m, s, i, true⟩ late t now = true := by unfold evOk; rw [HK.out.1, hl, HK.out.2]; rfl
      rw [evT_yes hh, hh]
      rw [show inB late 0 1000000 = true from hl] at HL
      clear hl hh
      have bX : -1 ≤ max x t ∧ max x t ≤ 1000000 := by omega
      simp only
      generalize max x t = X at bX HM ⊢
      have HN := Lib.hid (more_any m (X - late - 1))
      generalize max m (X - late - 1) = Y at HN ⊢
      go_enter Try.func23, Try.ntmps23
      go_wp2_with fail
      refine (HC.out _).mono ?_
      rintro e w1 ⟨rfl, hb⟩
      have B_ := Lib.hid (BB.out.trans (hb.mono (by first | omega | (simp; omega) | (simp at *; omega))))
      clear BB
      have BB := B_
      have k0 := J0.out.below hb
      have k1 := J1.out.below hb
      have l1 := hb.size
      first | simp only [World.size_alloc] at l1 | skip
      clear hb J0 J1 B_
      have q0_1 := k0.cell
      have q1_1 := k1.cell
      have f0_1 := k0.frozen
      have f1_1 := k1.frozen
      have J0 := Lib.hid k0
      have J1 := Lib.hid k1
      clear k0 k1
      have q0a := fun cs : Array Value => (J0.out.alloc (.cells cs 28)).cell
      have q1a := fun cs : Array Value => (J1.out.alloc (.cells cs 28)).cell
      have f1a := fun cs : Array Value => (J1.out.alloc (.cells cs 28)).frozen
      go_wp2_with fail
      refine (HL.out _).mono ?_
      rintro e w' ⟨rfl, rfl⟩
      go_wp2_with fail
      refine (HM.out _).mono ?_
      rintro e w' ⟨rfl, rfl⟩
      go_wp2_with fail
      refine (HN.out _).mono ?_
      rintro e w' ⟨rfl, rfl⟩
      go_wp2
      exact bodyPost_ret (v := .tuple #[(.agg #[.int .i64 X, .int .i64 Y, .int .i64 now, .bool false, .bool true]), .bool true]) (by simp [results, Try.results23, go_sem, q1a]) rfl ⟨rfl, below_set5 (BB.out.alloc (by omega) _) (by omega) _ _ _ _ _⟩
theorem specEvent_any (S : Src) (late t now : Int) (w : World) : Calls Try.prog 23 #[(.agg #[.int .i64 S.x, .int .i64 S.m, .int .i64 S.s, .bool S.i, .bool S.o]), .int .i64 late, .int .i64 t, .int .i64 now] w (SrcRes (evT S late t now) (evOk S late t now) w) := specEvent_x S.x S.m S.s S.i S.o late t now w


set_option maxHeartbeats 1000000 in
set_option maxRecDepth 100000 in
theorem specMk_x (x m s : Int) (i o : Bool) (t : Int) (now : Int) (w : World) : Calls Try.prog 24 #[(.agg #[.int .i64 x, .int .i64 m, .int .i64 s, .bool i, .bool o]), .int .i64 t, .int .i64 now] w (SrcRes (mkT ⟨x, m, s, i, o⟩ t now) (mkOk ⟨x, m, s, i, o⟩ t now) w) := by
  have J0 := Lib.hid ((Blk.new w 28 #[.int .i64 x, .int .i64 m, .int .i64 s, .bool i, .bool o]).alloc (.cells #[.int .i64 0, .int .i64 0, .int .i64 0, .bool false, .bool false] 28))
  have k1 := Blk.new (w.alloc (.cells #[.int .i64 x, .int .i64 m, .int .i64 s, .bool i, .bool o] 28)) 28 #[.int .i64 0, .int .i64 0, .int .i64 0, .bool false, .bool false]
  simp only [World.size_alloc] at k1
  have J1 := Lib.hid k1
  have BB := Lib.hid (((Below.refl w.heap.size w).alloc (Nat.le_refl _) (.cells #[.int .i64 x, .int .i64 m, .int .i64 s, .bool i, .bool o] 28)).alloc (by simp) (.cells #[.int .i64 0, .int .i64 0, .int .i64 0, .bool false, .bool false] 28))
  clear k1
  have HC := Lib.hid (fine_any ⟨x, m, s, i, o⟩ t now)
  have HM := Lib.hid (more_any m t)
  cases hk : mkOk ⟨x, m, s, i, o⟩ t now with
  | false =>
    rw [mkT_no hk]
    rw [hk] at HC
    clear hk
    go_enter Try.func24, Try.ntmps24
    go_wp2_with fail
    refine (HC.out _).mono ?_
    rintro e w1 ⟨rfl, hb⟩
    have B_ := Lib.hid (BB.out.trans (hb.mono (by first | omega | (simp; omega) | (simp at *; omega))))
    clear BB
    have BB := B_
    have k0 := J0.out.below hb
    have k1 := J1.out.below hb
    have l1 := hb.size
    first | simp only [World.size_alloc] at l1 | skip
    clear hb J0 J1 B_
    have q0_1 := k0.cell
    have q1_1 := k1.cell
    have f0_1 := k0.frozen
    have f1_1 := k1.frozen
    have J0 := Lib.hid k0
    have J1 := Lib.hid k1
    clear k0 k1
    go_wp2
    exact bodyPost_ret (v := .tuple #[(.agg #[.int .i64 x, .int .i64 m, .int .i64 s, .bool i, .bool o]), .bool false]) (by simp [results, Try.results24, go_sem, q1_1]) rfl ⟨rfl, below_set5 BB.out (by omega) _ _ _ _ _⟩
  | true =>
    rw [mkT_yes hk]
    have hk' := hk
    rw [mkOk, Bool.and_eq_true] at hk'
    obtain ⟨bd1, bd2, bd3, bd4, bd5, bd6, bd7, bd8⟩ := hearB_bd hk'.1
    simp only at bd1 bd2 bd3 bd4 bd5 bd6 bd7 bd8
    subst bd8
    rw [hk] at HC
    clear hk hk'
    simp only
    generalize max m t = Y at HM ⊢
    go_enter Try.func24, Try.ntmps24
    go_wp2_with fail
    refine (HC.out _).mono ?_
    rintro e w1 ⟨rfl, hb⟩
    have B_ := Lib.hid (BB.out.trans (hb.mono (by first | omega | (simp; omega) | (simp at *; omega))))
    clear BB
    have BB := B_
    have k0 := J0.out.below hb
    have k1 := J1.out.below hb
    have l1 := hb.size
    first | simp only [World.size_alloc] at l1 | skip
    clear hb J0 J1 B_
    have q0_1 := k0.cell
    have q1_1 := k1.cell
    have f0_1 := k0.frozen
    have f1_1 := k1.frozen
    have J0 := Lib.hid k0
    have J1 := Lib.hid k1
    clear k0 k1
    have q0a := fun cs : Array Value => (J0.out.alloc (.cells cs 28)).cell
    have q1a := fun cs : Array Value => (J1.out.alloc (.cells cs 28)).cell
    have f1a := fun cs : Array Value => (J1.out.alloc (.cells cs 28)).frozen
    go_wp2_with fail
    refine (HM.out _).mono ?_
    rintro e w' ⟨rfl, rfl⟩
    go_wp2
    exact bodyPost_ret (v := .tuple #[(.agg #[.int .i64 x, .int .i64 Y, .int .i64 now, .bool false, .bool true]), .bool true]) (by simp [results, Try.results24, go_sem, q1a]) rfl ⟨rfl, below_set5 (BB.out.alloc (by omega) _) (by omega) _ _ _ _ _⟩
theorem specMk_any (S : Src) (t now : Int) (w : World) : Calls Try.prog 24 #[(.agg #[.int .i64 S.x, .int .i64 S.m, .int .i64 S.s, .bool S.i, .bool S.o]), .int .i64 t, .int .i64 now] w (SrcRes (mkT S t now) (mkOk S t now) w) := specMk_x S.x S.m S.s S.i S.o t now w


set_option maxHeartbeats 1000000 in
set_option maxRecDepth 100000 in
theorem specTickS_x (x m s : Int) (i o : Bool) (a : Int) (now : Int) (w : World) : Calls Try.prog 25 #[(.agg #[.int .i64 x, .int .i64 m, .int .i64 s, .bool i, .bool o]), .int .i64 a, .int .i64 now] w (SrcRes (ttT ⟨x, m, s, i, o⟩ a now) (ttOk ⟨x, m, s, i, o⟩ a now) w) := by
  have J0 := Lib.hid ((Blk.new w 28 #[.int .i64 x, .int .i64 m, .int .i64 s, .bool i, .bool o]).alloc (.cells #[.int .i64 0, .int .i64 0, .int .i64 0, .bool false, .bool false] 28))
  have k1 := Blk.new (w.alloc (.cells #[.int .i64 x, .int .i64 m, .int .i64 s, .bool i, .bool o] 28)) 28 #[.int .i64 0, .int .i64 0, .int .i64 0, .bool false, .bool false]
  simp only [World.size_alloc] at k1
  have J1 := Lib.hid k1
  have BB := Lib.hid (((Below.refl w.heap.size w).alloc (Nat.le_refl _) (.cells #[.int .i64 x, .int .i64 m, .int .i64 s, .bool i, .bool o] 28)).alloc (by simp) (.cells #[.int .i64 0, .int .i64 0, .int .i64 0, .bool false, .bool false] 28))
  clear k1
  have HC := Lib.hid (specSrcOk_any ⟨x, m, s, i, o⟩)
  have HA := Lib.hid (specTickOk_any a)
  have HN := Lib.hid (specTickOk_any now)
  have HD := Lib.hid (specDue_any s a now)
  cases hk : sOk ⟨x, m, s, i, o⟩ with
  | false =>
    have hh : ttOk ⟨x, m, s, i, o⟩ a now = false := by unfold ttOk; rw [hk]; rfl
    rw [ttT_no hh, hh]
    rw [hk] at HC
    clear hk hh
    go_enter Try.func25, Try.ntmps25
    go_wp2_with fail
    refine (HC.out _).mono ?_
    rintro e w1 ⟨rfl, hb⟩
    have B_ := Lib.hid (BB.out.trans (hb.mono (by first | omega | (simp; omega) | (simp at *; omega))))
    clear BB
    have BB := B_
    have k0 := J0.out.below hb
    have k1 := J1.out.below hb
    have l1 := hb.size
    first | simp only [World.size_alloc] at l1 | skip
    clear hb J0 J1 B_
    have q0_1 := k0.cell
    have q1_1 := k1.cell
    have f0_1 := k0.frozen
    have f1_1 := k1.frozen
    have J0 := Lib.hid k0
    have J1 := Lib.hid k1
    clear k0 k1
    go_wp2
    exact bodyPost_ret (v := .tuple #[(.agg #[.int .i64 x, .int .i64 m, .int .i64 s, .bool i, .bool o]), .bool false]) (by simp [results, Try.results25, go_sem, q1_1]) rfl ⟨rfl, below_set5 BB.out (by omega) _ _ _ _ _⟩
  | true =>
    rw [hk] at HC
    have HK := Lib.hid hk
    clear hk
    cases ha : tickB a with
    | false =>
      have hh : ttOk ⟨x, m, s, i, o⟩ a now = false := by unfold ttOk; rw [dueB_no2 ha]; simp
      rw [ttT_no hh, hh]
      rw [ha] at HA
      clear ha hh
      go_enter Try.func25, Try.ntmps25
      go_wp2_with fail
      refine (HC.out _).mono ?_
      rintro e w1 ⟨rfl, hb⟩
      have B_ := Lib.hid (BB.out.trans (hb.mono (by first | omega | (simp; omega) | (simp at *; omega))))
      clear BB
      have BB := B_
      have k0 := J0.out.below hb
      have k1 := J1.out.below hb
      have l1 := hb.size
      first | simp only [World.size_alloc] at l1 | skip
      clear hb J0 J1 B_
      have q0_1 := k0.cell
      have q1_1 := k1.cell
      have f0_1 := k0.frozen
      have f1_1 := k1.frozen
      have J0 := Lib.hid k0
      have J1 := Lib.hid k1
      clear k0 k1
      go_wp2_with fail
      refine (HA.out _).mono ?_
      rintro e w' ⟨rfl, rfl⟩
      go_wp2
      exact bodyPost_ret (v := .tuple #[(.agg #[.int .i64 x, .int .i64 m, .int .i64 s, .bool i, .bool o]), .bool false]) (by simp [results, Try.results25, go_sem, q1_1]) rfl ⟨rfl, below_set5 BB.out (by omega) _ _ _ _ _⟩
    | true =>
      rw [ha] at HA
      clear ha
      cases hn : tickB now with
      | false =>
        have hh : ttOk ⟨x, m, s, i, o⟩ a now = false := by unfold ttOk; rw [dueB_no3 hn]; simp
        rw [ttT_no hh, hh]
        rw [hn] at HN
        clear hn hh
        go_enter Try.func25, Try.ntmps25
        go_wp2_with fail
        refine (HC.out _).mono ?_
        rintro e w1 ⟨rfl, hb⟩
        have B_ := Lib.hid (BB.out.trans (hb.mono (by first | omega | (simp; omega) | (simp at *; omega))))
        clear BB
        have BB := B_
        have k0 := J0.out.below hb
        have k1 := J1.out.below hb
        have l1 := hb.size
        first | simp only [World.size_alloc] at l1 | skip
        clear hb J0 J1 B_
        have q0_1 := k0.cell
        have q1_1 := k1.cell
        have f0_1 := k0.frozen
        have f1_1 := k1.frozen
        have J0 := Lib.hid k0
        have J1 := Lib.hid k1
        clear k0 k1
        go_wp2_with fail
        refine (HA.out _).mono ?_
        rintro e w' ⟨rfl, rfl⟩
        go_wp2_with fail
        refine (HN.out _).mono ?_
        rintro e w' ⟨rfl, rfl⟩
        go_wp2
        exact bodyPost_ret (v := .tuple #[(.agg #[.int .i64 x, .int .i64 m, .int .i64 s, .bool i, .bool o]), .bool false]) (by simp [results, Try.results25, go_sem, q1_1]) rfl ⟨rfl, below_set5 BB.out (by omega) _ _ _ _ _⟩
      | true =>
        rw [hn] at HN
        clear hn
        cases o with
        | false =>
          have hh : ttOk ⟨x, m, s, i, false⟩ a now = false := by unfold ttOk; simp
          rw [ttT_no hh, hh]
          clear hh
          go_enter Try.func25, Try.ntmps25
          go_wp2_with fail
          refine (HC.out _).mono ?_
          rintro e w1 ⟨rfl, hb⟩
          have B_ := Lib.hid (BB.out.trans (hb.mono (by first | omega | (simp; omega) | (simp at *; omega))))
          clear BB
          have BB := B_
          have k0 := J0.out.below hb
          have k1 := J1.out.below hb
          have l1 := hb.size
          first | simp only [World.size_alloc] at l1 | skip
          clear hb J0 J1 B_
          have q0_1 := k0.cell
          have q1_1 := k1.cell
          have f0_1 := k0.frozen
          have f1_1 := k1.frozen
          have J0 := Lib.hid k0
          have J1 := Lib.hid k1
          clear k0 k1
          go_wp2_with fail
          refine (HA.out _).mono ?_
          rintro e w' ⟨rfl, rfl⟩
          have q0a := fun cs : Array Value => (J0.out.alloc (.cells cs 28)).cell
          have q1a := fun cs : Array Value => (J1.out.alloc (.cells cs 28)).cell
          have f1a := fun cs : Array Value => (J1.out.alloc (.cells cs 28)).frozen
          go_wp2_with fail
          refine (HN.out _).mono ?_
          rintro e w' ⟨rfl, rfl⟩
          go_wp2
          exact bodyPost_ret (v := .tuple #[(.agg #[.int .i64 x, .int .i64 m, .int .i64 s, .bool i, .bool false]), .bool false]) (by simp [results, Try.results25, go_sem, q1a]) rfl ⟨rfl, below_set5 (BB.out.alloc (by omega) _) (by omega) _ _ _ _ _⟩
        | true =>
          cases i with
          | true =>
            have hh : ttOk ⟨x, m, s, true, true⟩ a now = false := by unfold ttOk; simp
            rw [ttT_no hh, hh]
            clear hh
            go_enter Try.func25, Try.ntmps25
            go_wp2_with fail
            refine (HC.out _).mono ?_
            rintro e w1 ⟨rfl, hb⟩
            have B_ := Lib.hid (BB.out.trans (hb.mono (by first | omega | (simp; omega) | (simp at *; omega))))
            clear BB
            have BB := B_
            have k0 := J0.out.below hb
            have k1 := J1.out.below hb
            have l1 := hb.size
            first | simp only [World.size_alloc] at l1 | skip
            clear hb J0 J1 B_
            have q0_1 := k0.cell
            have q1_1 := k1.cell
            have f0_1 := k0.frozen
            have f1_1 := k1.frozen
            have J0 := Lib.hid k0
            have J1 := Lib.hid k1
            clear k0 k1
            go_wp2_with fail
            refine (HA.out _).mono ?_
            rintro e w' ⟨rfl, rfl⟩
            have q0a := fun cs : Array Value => (J0.out.alloc (.cells cs 28)).cell
            have q1a := fun cs : Array Value => (J1.out.alloc (.cells cs 28)).cell
            have f1a := fun cs : Array Value => (J1.out.alloc (.cells cs 28)).frozen
            go_wp2_with fail
            refine (HN.out _).mono ?_
            rintro e w' ⟨rfl, rfl⟩
            go_wp2
            exact bodyPost_ret (v := .tuple #[(.agg #[.int .i64 x, .int .i64 m, .int .i64 s, .bool true, .bool true]), .bool false]) (by simp [results, Try.results25, go_sem, q1a]) rfl ⟨rfl, below_set5 (BB.out.alloc (by omega) _) (by omega) _ _ _ _ _⟩
          | false =>
            cases hd : dueB s a now with
            | false =>
              have hh : ttOk ⟨x, m, s, false, true⟩ a now = false := by unfold ttOk; rw [hd]; simp
              rw [ttT_no hh, hh]
              rw [hd] at HD
              clear hh hd
              go_enter Try.func25, Try.ntmps25
              go_wp2_with fail
              refine (HC.out _).mono ?_
              rintro e w1 ⟨rfl, hb⟩
              have B_ := Lib.hid (BB.out.trans (hb.mono (by first | omega | (simp; omega) | (simp at *; omega))))
              clear BB
              have BB := B_
              have k0 := J0.out.below hb
              have k1 := J1.out.below hb
              have l1 := hb.size
              first | simp only [World.size_alloc] at l1 | skip
              clear hb J0 J1 B_
              have q0_1 := k0.cell
              have q1_1 := k1.cell
              have f0_1 := k0.frozen
              have f1_1 := k1.frozen
              have J0 := Lib.hid k0
              have J1 := Lib.hid k1
              clear k0 k1
              go_wp2_with fail
              refine (HA.out _).mono ?_
              rintro e w' ⟨rfl, rfl⟩
              have q0a := fun cs : Array Value => (J0.out.alloc (.cells cs 28)).cell
              have q1a := fun cs : Array Value => (J1.out.alloc (.cells cs 28)).cell
              have f1a := fun cs : Array Value => (J1.out.alloc (.cells cs 28)).frozen
              go_wp2_with fail
              refine (HN.out _).mono ?_
              rintro e w' ⟨rfl, rfl⟩
              go_wp2_with fail
              refine (HD.out _).mono ?_
              rintro e w' ⟨rfl, rfl⟩
              go_wp2
              exact bodyPost_ret (v := .tuple #[(.agg #[.int .i64 x, .int .i64 m, .int .i64 s, .bool false, .bool true]), .bool false]) (by simp [results, Try.results25, go_sem, q1a]) rfl ⟨rfl, below_set5 (BB.out.alloc (by omega) _) (by omega) _ _ _ _ _⟩
            | true =>
              have hh : ttOk ⟨x, m, s, false, true⟩ a now = true := by unfold ttOk; rw [HK.out, hd]; simp
              rw [ttT_yes hh, hh]
              rw [hd] at HD
              clear hh hd
              go_enter Try.func25, Try.ntmps25
              go_wp2_with fail
              refine (HC.out _).mono ?_
              rintro e w1 ⟨rfl, hb⟩
              have B_ := Lib.hid (BB.out.trans (hb.mono (by first | omega | (simp; omega) | (simp at *; omega))))
              clear BB
              have BB := B_
              have k0 := J0.out.below hb
              have k1 := J1.out.below hb
              have l1 := hb.size
              first | simp only [World.size_alloc] at l1 | skip
              clear hb J0 J1 B_
              have q0_1 := k0.cell
              have q1_1 := k1.cell
              have f0_1 := k0.frozen
              have f1_1 := k1.frozen
              have J0 := Lib.hid k0
              have J1 := Lib.hid k1
              clear k0 k1
              go_wp2_with fail
              refine (HA.out _).mono ?_
              rintro e w' ⟨rfl, rfl⟩
              have q0a := fun cs : Array Value => (J0.out.alloc (.cells cs 28)).cell
              have q1a := fun cs : Array Value => (J1.out.alloc (.cells cs 28)).cell
              have f1a := fun cs : Array Value => (J1.out.alloc (.cells cs 28)).frozen
              go_wp2_with fail
              refine (HN.out _).mono ?_
              rintro e w' ⟨rfl, rfl⟩
              go_wp2_with fail
              refine (HD.out _).mono ?_
              rintro e w' ⟨rfl, rfl⟩
              go_wp2
              exact bodyPost_ret (v := .tuple #[(.agg #[.int .i64 x, .int .i64 m, .int .i64 s, .bool true, .bool true]), .bool true]) (by simp [results, Try.results25, go_sem, q1a]) rfl ⟨rfl, below_set5 (BB.out.alloc (by omega) _) (by omega) _ _ _ _ _⟩
theorem specTickS_any (S : Src) (a now : Int) (w : World) : Calls Try.prog 25 #[(.agg #[.int .i64 S.x, .int .i64 S.m, .int .i64 S.s, .bool S.i, .bool S.o]), .int .i64 a, .int .i64 now] w (SrcRes (ttT S a now) (ttOk S a now) w) := specTickS_x S.x S.m S.s S.i S.o a now w


set_option maxHeartbeats 1000000 in
set_option maxRecDepth 100000 in
theorem specClose_x (x m s : Int) (i o : Bool) (w : World) : Calls Try.prog 26 #[(.agg #[.int .i64 x, .int .i64 m, .int .i64 s, .bool i, .bool o])] w (SrcRes (clT ⟨x, m, s, i, o⟩) (clOk ⟨x, m, s, i, o⟩) w) := by
  have J0 := Lib.hid ((Blk.new w 28 #[.int .i64 x, .int .i64 m, .int .i64 s, .bool i, .bool o]).alloc (.cells #[.int .i64 0, .int .i64 0, .int .i64 0, .bool false, .bool false] 28))
  have k1 := Blk.new (w.alloc (.cells #[.int .i64 x, .int .i64 m, .int .i64 s, .bool i, .bool o] 28)) 28 #[.int .i64 0, .int .i64 0, .int .i64 0, .bool false, .bool false]
  simp only [World.size_alloc] at k1
  have J1 := Lib.hid k1
  have BB := Lib.hid (((Below.refl w.heap.size w).alloc (Nat.le_refl _) (.cells #[.int .i64 x, .int .i64 m, .int .i64 s, .bool i, .bool o] 28)).alloc (by simp) (.cells #[.int .i64 0, .int .i64 0, .int .i64 0, .bool false, .bool false] 28))
  clear k1
  have HC := Lib.hid (specSrcOk_any ⟨x, m, s, i, o⟩)
  cases hk : sOk ⟨x, m, s, i, o⟩ with
  | false =>
    have hh : clOk ⟨x, m, s, i, o⟩ = false := by unfold clOk; rw [hk]; rfl
    rw [clT_no hh, hh]
    rw [hk] at HC
    clear hk hh
    go_enter Try.func26, Try.ntmps26
    go_wp2_with fail
    refine (HC.out _).mono ?_
    rintro e w1 ⟨rfl, hb⟩
    have B_ := Lib.hid (BB.out.trans (hb.mono (by first | omega | (simp; omega) | (simp at *; omega))))
    clear BB
    have BB := B_
    have k0 := J0.out.below hb
    have k1 := J1.out.below hb
    have l1 := hb.size
    first | simp only [World.size_alloc] at l1 | skip
    clear hb J0 J1 B_
    have q0_1 := k0.cell
    have q1_1 := k1.cell
    have f0_1 := k0.frozen
    have f1_1 := k1.frozen
    have J0 := Lib.hid k0
    have J1 := Lib.hid k1
    clear k0 k1
    go_wp2
    exact bodyPost_ret (v := .tuple #[(.agg #[.int .i64 x, .int .i64 m, .int .i64 s, .bool i, .bool o]), .bool false]) (by simp [results, Try.results26, go_sem, q1_1]) rfl ⟨rfl, below_set5 BB.out (by omega) _ _ _ _ _⟩
  | true =>
    rw [hk] at HC
    have HK := Lib.hid hk
    clear hk
    cases o with
    | false =>
      have hh : clOk ⟨x, m, s, i, false⟩ = false := by unfold clOk; simp
      rw [clT_no hh, hh]
      clear hh
      go_enter Try.func26, Try.ntmps26
      go_wp2_with fail
      refine (HC.out _).mono ?_
      rintro e w1 ⟨rfl, hb⟩
      have B_ := Lib.hid (BB.out.trans (hb.mono (by first | omega | (simp; omega) | (simp at *; omega))))
      clear BB
      have BB := B_
      have k0 := J0.out.below hb
      have k1 := J1.out.below hb
      have l1 := hb.size
      first | simp only [World.size_alloc] at l1 | skip
      clear hb J0 J1 B_
      have q0_1 := k0.cell
      have q1_1 := k1.cell
      have f0_1 := k0.frozen
      have f1_1 := k1.frozen
      have J0 := Lib.hid k0
      have J1 := Lib.hid k1
      clear k0 k1
      go_wp2
      exact bodyPost_ret (v := .tuple #[(.agg #[.int .i64 x, .int .i64 m, .int .i64 s, .bool i, .bool false]), .bool false]) (by simp [results, Try.results26, go_sem, q1_1]) rfl ⟨rfl, below_set5 BB.out (by omega) _ _ _ _ _⟩
    | true =>
      have hh : clOk ⟨x, m, s, i, true⟩ = true := by unfold clOk; rw [HK.out]; rfl
      rw [clT_yes hh, hh]
      clear hh
      go_enter Try.func26, Try.ntmps26
      go_wp2_with fail
      refine (HC.out _).mono ?_
      rintro e w1 ⟨rfl, hb⟩
      have B_ := Lib.hid (BB.out.trans (hb.mono (by first | omega | (simp; omega) | (simp at *; omega))))
      clear BB
      have BB := B_
      have k0 := J0.out.below hb
      have k1 := J1.out.below hb
      have l1 := hb.size
      first | simp only [World.size_alloc] at l1 | skip
      clear hb J0 J1 B_
      have q0_1 := k0.cell
      have q1_1 := k1.cell
      have f0_1 := k0.frozen
      have f1_1 := k1.frozen
      have J0 := Lib.hid k0
      have J1 := Lib.hid k1
      clear k0 k1
      have q0a := fun cs : Array Value => (J0.out.alloc (.cells cs 28)).cell
      have q1a := fun cs : Array Value => (J1.out.alloc (.cells cs 28)).cell
      have f1a := fun cs : Array Value => (J1.out.alloc (.cells cs 28)).frozen
      go_wp2
      exact bodyPost_ret (v := .tuple #[(.agg #[.int .i64 x, .int .i64 m, .int .i64 s, .bool false, .bool false]), .bool true]) (by simp [results, Try.results26, go_sem, q1a]) rfl ⟨rfl, below_set5 (BB.out.alloc (by omega) _) (by omega) _ _ _ _ _⟩
theorem specClose_any (S : Src) (w : World) : Calls Try.prog 26 #[(.agg #[.int .i64 S.x, .int .i64 S.m, .int .i64 S.s, .bool S.i, .bool S.o])] w (SrcRes (clT S) (clOk S) w) := specClose_x S.x S.m S.s S.i S.o w


set_option maxHeartbeats 1000000 in
set_option maxRecDepth 100000 in
theorem specNew_any (now : Int) (w : World) : Calls Try.prog 22 #[.int .i64 now] w (SrcRes (newT now) (tickB now) w) := by
  have BB := Lib.hid fun a b c d e : Value => (Below.refl w.heap.size w).alloc (Nat.le_refl _) (.cells #[a, b, c, d, e] 28)
  have HC := Lib.hid (specTickOk_any now)
  cases hk : tickB now with
  | false =>
    have hh : newT now = ⟨0, 0, 0, false, false⟩ := by simp [newT, hk]
    rw [hh]
    rw [hk] at HC
    clear hk hh
    go_enter Try.func22, Try.ntmps22
    go_wp2_with fail
    refine (HC.out _).mono ?_
    rintro e w' ⟨rfl, rfl⟩
    go_wp2
    exact bodyPost_ret (v := .tuple #[(.agg #[.int .i64 0, .int .i64 0, .int .i64 0, .bool false, .bool false]), .bool false]) (by simp [results, Try.results22, go_sem]) rfl ⟨rfl, BB.out _ _ _ _ _⟩
  | true =>
    have hh : newT now = ⟨-1, -1, now, false, true⟩ := by simp [newT, hk]
    rw [hh]
    rw [hk] at HC
    clear hk hh
    go_enter Try.func22, Try.ntmps22
    go_wp2_with fail
    refine (HC.out _).mono ?_
    rintro e w' ⟨rfl, rfl⟩
    go_wp2
    exact bodyPost_ret (v := .tuple #[(.agg #[.int .i64 ((-1)), .int .i64 ((-1)), .int .i64 now, .bool false, .bool true]), .bool true]) (by simp [results, Try.results22, go_sem]) rfl ⟨rfl, BB.out _ _ _ _ _⟩


end Go.Proofs.Ytcjmigjkjepkdaa
