/- Contracts of chapter 4: what is done to a source: impl's side, the rest. -/
import Derived.Test.YtcjmigjkjepkdaaSrc2
namespace Go.Proofs.Ytcjmigjkjepkdaa
open Go.RowKit


set_option maxHeartbeats 1000000 in
set_option maxRecDepth 100000 in
theorem implMark_x (x m s : Int) (i o : Bool) (t : Int) (now : Int) (w : World) : Calls Try.prog 47 #[(.agg #[.int .i64 x, .int .i64 m, .int .i64 s, .bool i, .bool o]), .int .i64 t, .int .i64 now] w (SrcRes (mkT ⟨x, m, s, i, o⟩ t now) (mkOk ⟨x, m, s, i, o⟩ t now) w) := by
  have J0 := Lib.hid ((Blk.new w 28 #[.int .i64 x, .int .i64 m, .int .i64 s, .bool i, .bool o]).alloc (.cells #[.int .i64 0, .int .i64 0, .int .i64 0, .bool false, .bool false] 28))
  have k1 := Blk.new (w.alloc (.cells #[.int .i64 x, .int .i64 m, .int .i64 s, .bool i, .bool o] 28)) 28 #[.int .i64 0, .int .i64 0, .int .i64 0, .bool false, .bool false]
  simp only [World.size_alloc] at k1
  have J1 := Lib.hid k1
  have BB := Lib.hid (((Below.refl w.heap.size w).alloc (Nat.le_refl _) (.cells #[.int .i64 x, .int .i64 m, .int .i64 s, .bool i, .bool o] 28)).alloc (by simp) (.cells #[.int .i64 0, .int .i64 0, .int .i64 0, .bool false, .bool false] 28))
  clear k1
  have HC := Lib.hid (hears_any ⟨x, m, s, i, o⟩ now)
  have HT := Lib.hid (isTime_any t)
  cases hk : hearB ⟨x, m, s, i, o⟩ now with
  | false =>
    have hh : mkOk ⟨x, m, s, i, o⟩ t now = false := by unfold mkOk; rw [hk]; rfl
    rw [mkT_no hh, hh]
    rw [hk] at HC
    clear hk hh
    go_enter Try.func47, Try.ntmps47
    go_wp2_with fail
    refine (HC.out _).mono ?_
    rintro e w1 ⟨rfl, hb⟩
    have B_ := Lib.hid (BB.out.trans (hb.mono (by first | omega | (simp; omega) | (simp at *; omega))))
    clear BB
    have BB := B_
    have k0 := J0.out.below hb
    have k1 := J1.out.below hb
    have l1 := hb.size
    first | simp only [World.size_alloc] at l1 | skip
    clear hb J0 J1 B_
    have q0_1 := k0.cell
    have q1_1 := k1.cell
    have f0_1 := k0.frozen
    have f1_1 := k1.frozen
    have J0 := Lib.hid k0
    have J1 := Lib.hid k1
    clear k0 k1
    go_wp2
    exact bodyPost_ret (v := .tuple #[(.agg #[.int .i64 x, .int .i64 m, .int .i64 s, .bool i, .bool o]), .bool false]) (by simp [results, Try.results47, go_sem, q1_1]) rfl ⟨rfl, below_set5 BB.out (by omega) _ _ _ _ _⟩
  | true =>
    rw [hk] at HC
    obtain ⟨bd1, bd2, bd3, bd4, bd5, bd6, bd7, bd8⟩ := hearB_bd hk
    simp only at bd1 bd2 bd3 bd4 bd5 bd6 bd7 bd8
    subst bd8
    have HK := Lib.hid hk
    clear hk
    cases ht : isTm t with
    | false =>
      have hh : mkOk ⟨x, m, s, i, true⟩ t now = false := by unfold mkOk; rw [ht, Bool.and_false]
      rw [mkT_no hh, hh]
      rw [ht] at HT
      clear ht hh
      go_enter Try.func47, Try.ntmps47
      go_wp2_with fail
      refine (HC.out _).mono ?_
      rintro e w1 ⟨rfl, hb⟩
      have B_ := Lib.hid (BB.out.trans (hb.mono (by first | omega | (simp; omega) | (simp at *; omega))))
      clear BB
      have BB := B_
      have k0 := J0.out.below hb
      have k1 := J1.out.below hb
      have l1 := hb.size
      first | simp only [World.size_alloc] at l1 | skip
      clear hb J0 J1 B_
      have q0_1 := k0.cell
      have q1_1 := k1.cell
      have f0_1 := k0.frozen
      have f1_1 := k1.frozen
      have J0 := Lib.hid k0
      have J1 := Lib.hid k1
      clear k0 k1
      go_wp2_with fail
      refine (HT.out _).mono ?_
      rintro e w' ⟨rfl, rfl⟩
      go_wp2
      exact bodyPost_ret (v := .tuple #[(.agg #[.int .i64 x, .int .i64 m, .int .i64 s, .bool i, .bool true]), .bool false]) (by simp [results, Try.results47, go_sem, q1_1]) rfl ⟨rfl, below_set5 BB.out (by omega) _ _ _ _ _⟩
    | true =>
      have hh : mkOk ⟨x, m, s, i, true⟩ t now = true := by unfold mkOk; rw [HK.out, ht]; rfl
      rw [mkT_yes hh, hh]
      rw [ht] at HT
      clear ht hh
      have HH := Lib.hid fun W => heard_any ⟨x, m, s, i, true⟩ t now W
      go_enter Try.func47, Try.ntmps47
      go_wp2_with fail
      refine (HC.out _).mono ?_
      rintro e w1 ⟨rfl, hb⟩
      have B_ := Lib.hid (BB.out.trans (hb.mono (by first | omega | (simp; omega) | (simp at *; omega))))
      clear BB
      have BB := B_
      have k0 := J0.out.below hb
      have k1 := J1.out.below hb
      have l1 := hb.size
      first | simp only [World.size_alloc] at l1 | skip
      clear hb J0 J1 B_
      have q0_1 := k0.cell
      have q1_1 := k1.cell
      have f0_1 := k0.frozen
      have f1_1 := k1.frozen
      have J0 := Lib.hid k0
      have J1 := Lib.hid k1
      clear k0 k1
      go_wp2_with fail
      refine (HT.out _).mono ?_
      rintro e w' ⟨rfl, rfl⟩
      go_wp2_with fail
      refine (HH.out _).mono ?_
      rintro e w2 ⟨rfl, hb⟩
      clear q0_1 q1_1 f0_1 f1_1
      have B_ := Lib.hid (BB.out.trans (hb.mono (by first | omega | (simp; omega) | (simp at *; omega))))
      clear BB
      have BB := B_
      have k0 := J0.out.below hb
      have k1 := J1.out.below hb
      have l2 := hb.size
      first | simp only [World.size_alloc] at l2 | skip
      clear hb J0 J1 B_
      have q0_2 := k0.cell
      have q1_2 := k1.cell
      have f0_2 := k0.frozen
      have f1_2 := k1.frozen
      have J0 := Lib.hid k0
      have J1 := Lib.hid k1
      clear k0 k1
      go_wp2
      exact bodyPost_ret (v := .tuple #[(.agg #[.int .i64 x, .int .i64 ((max m t)), .int .i64 now, .bool false, .bool true]), .bool true]) (by simp [results, Try.results47, go_sem, q1_2]) rfl ⟨rfl, below_set5 BB.out (by omega) _ _ _ _ _⟩
theorem implMark_any (S : Src) (t now : Int) (w : World) : Calls Try.prog 47 #[(.agg #[.int .i64 S.x, .int .i64 S.m, .int .i64 S.s, .bool S.i, .bool S.o]), .int .i64 t, .int .i64 now] w (SrcRes (mkT S t now) (mkOk S t now) w) := implMark_x S.x S.m S.s S.i S.o t now w
theorem implEvent_any (S : Src) (late t now : Int) (w : World) : Calls Try.prog 46 #[(.agg #[.int .i64 S.x, .int .i64 S.m, .int .i64 S.s, .bool S.i, .bool S.o]), .int .i64 late, .int .i64 t, .int .i64 now] w (SrcRes (evT S late t now) (evOk S late t now) w) := implEvent_x S.x S.m S.s S.i S.o late t now w


set_option maxHeartbeats 1000000 in
set_option maxRecDepth 100000 in
theorem implTickS_x (x m s : Int) (i o : Bool) (a : Int) (now : Int) (w : World) : Calls Try.prog 48 #[(.agg #[.int .i64 x, .int .i64 m, .int .i64 s, .bool i, .bool o]), .int .i64 a, .int .i64 now] w (SrcRes (ttT ⟨x, m, s, i, o⟩ a now) (ttOk ⟨x, m, s, i, o⟩ a now) w) := by
  have J0 := Lib.hid ((Blk.new w 28 #[.int .i64 x, .int .i64 m, .int .i64 s, .bool i, .bool o]).alloc (.cells #[.int .i64 0, .int .i64 0, .int .i64 0, .bool false, .bool false] 28))
  have k1 := Blk.new (w.alloc (.cells #[.int .i64 x, .int .i64 m, .int .i64 s, .bool i, .bool o] 28)) 28 #[.int .i64 0, .int .i64 0, .int .i64 0, .bool false, .bool false]
  simp only [World.size_alloc] at k1
  have J1 := Lib.hid k1
  have BB := Lib.hid (((Below.refl w.heap.size w).alloc (Nat.le_refl _) (.cells #[.int .i64 x, .int .i64 m, .int .i64 s, .bool i, .bool o] 28)).alloc (by simp) (.cells #[.int .i64 0, .int .i64 0, .int .i64 0, .bool false, .bool false] 28))
  clear k1
  have HC := Lib.hid (implSrcOk_any ⟨x, m, s, i, o⟩)
  have HA := Lib.hid (active_any ⟨x, m, s, i, o⟩)
  have HD := Lib.hid (implDue_any s a now)
  cases hk : sOk ⟨x, m, s, i, o⟩ with
  | false =>
    have hh : ttOk ⟨x, m, s, i, o⟩ a now = false := by unfold ttOk; rw [hk]; rfl
    rw [ttT_no hh, hh]
    rw [hk] at HC
    clear hk hh
    go_enter Try.func48, Try.ntmps48
    go_wp2_with fail
    refine (HC.out _).mono ?_
    rintro e w1 ⟨rfl, hb⟩
    have B_ := Lib.hid (BB.out.trans (hb.mono (by first | omega | (simp; omega) | (simp at *; omega))))
    clear BB
    have BB := B_
    have k0 := J0.out.below hb
    have k1 := J1.out.below hb
    have l1 := hb.size
    first | simp only [World.size_alloc] at l1 | skip
    clear hb J0 J1 B_
    have q0_1 := k0.cell
    have q1_1 := k1.cell
    have f0_1 := k0.frozen
    have f1_1 := k1.frozen
    have J0 := Lib.hid k0
    have J1 := Lib.hid k1
    clear k0 k1
    go_wp2
    exact bodyPost_ret (v := .tuple #[(.agg #[.int .i64 x, .int .i64 m, .int .i64 s, .bool i, .bool o]), .bool false]) (by simp [results, Try.results48, go_sem, q1_1]) rfl ⟨rfl, below_set5 BB.out (by omega) _ _ _ _ _⟩
  | true =>
    rw [hk] at HC
    have HK := Lib.hid hk
    clear hk
    cases o with
    | false =>
      have hh : ttOk ⟨x, m, s, i, false⟩ a now = false := by unfold ttOk; simp
      rw [ttT_no hh, hh]
      clear hh
      rw [show (Src.o ⟨x, m, s, i, false⟩ && !Src.i ⟨x, m, s, i, false⟩) = false by simp] at HA
      go_enter Try.func48, Try.ntmps48
      go_wp2_with fail
      refine (HC.out _).mono ?_
      rintro e w1 ⟨rfl, hb⟩
      have B_ := Lib.hid (BB.out.trans (hb.mono (by first | omega | (simp; omega) | (simp at *; omega))))
      clear BB
      have BB := B_
      have k0 := J0.out.below hb
      have k1 := J1.out.below hb
      have l1 := hb.size
      first | simp only [World.size_alloc] at l1 | skip
      clear hb J0 J1 B_
      have q0_1 := k0.cell
      have q1_1 := k1.cell
      have f0_1 := k0.frozen
      have f1_1 := k1.frozen
      have J0 := Lib.hid k0
      have J1 := Lib.hid k1
      clear k0 k1
      go_wp2_with fail
      refine (HA.out _).mono ?_
      rintro e w2 ⟨rfl, hb⟩
      clear q0_1 q1_1 f0_1 f1_1
      have B_ := Lib.hid (BB.out.trans (hb.mono (by first | omega | (simp; omega) | (simp at *; omega))))
      clear BB
      have BB := B_
      have k0 := J0.out.below hb
      have k1 := J1.out.below hb
      have l2 := hb.size
      first | simp only [World.size_alloc] at l2 | skip
      clear hb J0 J1 B_
      have q0_2 := k0.cell
      have q1_2 := k1.cell
      have f0_2 := k0.frozen
      have f1_2 := k1.frozen
      have J0 := Lib.hid k0
      have J1 := Lib.hid k1
      clear k0 k1
      go_wp2
      exact bodyPost_ret (v := .tuple #[(.agg #[.int .i64 x, .int .i64 m, .int .i64 s, .bool i, .bool false]), .bool false]) (by simp [results, Try.results48, go_sem, q1_2]) rfl ⟨rfl, below_set5 BB.out (by omega) _ _ _ _ _⟩
    | true =>
      cases i with
      | true =>
        have hh : ttOk ⟨x, m, s, true, true⟩ a now = false := by unfold ttOk; simp
        rw [ttT_no hh, hh]
        clear hh
        rw [show (Src.o ⟨x, m, s, true, true⟩ && !Src.i ⟨x, m, s, true, true⟩) = false by simp] at HA
        go_enter Try.func48, Try.ntmps48
        go_wp2_with fail
        refine (HC.out _).mono ?_
        rintro e w1 ⟨rfl, hb⟩
        have B_ := Lib.hid (BB.out.trans (hb.mono (by first | omega | (simp; omega) | (simp at *; omega))))
        clear BB
        have BB := B_
        have k0 := J0.out.below hb
        have k1 := J1.out.below hb
        have l1 := hb.size
        first | simp only [World.size_alloc] at l1 | skip
        clear hb J0 J1 B_
        have q0_1 := k0.cell
        have q1_1 := k1.cell
        have f0_1 := k0.frozen
        have f1_1 := k1.frozen
        have J0 := Lib.hid k0
        have J1 := Lib.hid k1
        clear k0 k1
        go_wp2_with fail
        refine (HA.out _).mono ?_
        rintro e w2 ⟨rfl, hb⟩
        clear q0_1 q1_1 f0_1 f1_1
        have B_ := Lib.hid (BB.out.trans (hb.mono (by first | omega | (simp; omega) | (simp at *; omega))))
        clear BB
        have BB := B_
        have k0 := J0.out.below hb
        have k1 := J1.out.below hb
        have l2 := hb.size
        first | simp only [World.size_alloc] at l2 | skip
        clear hb J0 J1 B_
        have q0_2 := k0.cell
        have q1_2 := k1.cell
        have f0_2 := k0.frozen
        have f1_2 := k1.frozen
        have J0 := Lib.hid k0
        have J1 := Lib.hid k1
        clear k0 k1
        go_wp2
        exact bodyPost_ret (v := .tuple #[(.agg #[.int .i64 x, .int .i64 m, .int .i64 s, .bool true, .bool true]), .bool false]) (by simp [results, Try.results48, go_sem, q1_2]) rfl ⟨rfl, below_set5 BB.out (by omega) _ _ _ _ _⟩
      | false =>
        rw [show (Src.o ⟨x, m, s, false, true⟩ && !Src.i ⟨x, m, s, false, true⟩) = true by simp] at HA
        cases hd : dueB s a now with
        | false =>
          have hh : ttOk ⟨x, m, s, false, true⟩ a now = false := by unfold ttOk; rw [hd]; simp
          rw [ttT_no hh, hh]
          rw [hd] at HD
          clear hh hd
          go_enter Try.func48, Try.ntmps48
          go_wp2_with fail
          refine (HC.out _).mono ?_
          rintro e w1 ⟨rfl, hb⟩
          have B_ := Lib.hid (BB.out.trans (hb.mono (by first | omega | (simp; omega) | (simp at *; omega))))
          clear BB
          have BB := B_
          have k0 := J0.out.below hb
          have k1 := J1.out.below hb
          have l1 := hb.size
          first | simp only [World.size_alloc] at l1 | skip
          clear hb J0 J1 B_
          have q0_1 := k0.cell
          have q1_1 := k1.cell
          have f0_1 := k0.frozen
          have f1_1 := k1.frozen
          have J0 := Lib.hid k0
          have J1 := Lib.hid k1
          clear k0 k1
          go_wp2_with fail
          refine (HA.out _).mono ?_
          rintro e w2 ⟨rfl, hb⟩
          clear q0_1 q1_1 f0_1 f1_1
          have B_ := Lib.hid (BB.out.trans (hb.mono (by first | omega | (simp; omega) | (simp at *; omega))))
          clear BB
          have BB := B_
          have k0 := J0.out.below hb
          have k1 := J1.out.below hb
          have l2 := hb.size
          first | simp only [World.size_alloc] at l2 | skip
          clear hb J0 J1 B_
          have q0_2 := k0.cell
          have q1_2 := k1.cell
          have f0_2 := k0.frozen
          have f1_2 := k1.frozen
          have J0 := Lib.hid k0
          have J1 := Lib.hid k1
          clear k0 k1
          go_wp2_with fail
          refine (HD.out _).mono ?_
          rintro e w' ⟨rfl, rfl⟩
          go_wp2
          exact bodyPost_ret (v := .tuple #[(.agg #[.int .i64 x, .int .i64 m, .int .i64 s, .bool false, .bool true]), .bool false]) (by simp [results, Try.results48, go_sem, q1_2]) rfl ⟨rfl, below_set5 BB.out (by omega) _ _ _ _ _⟩
        | true =>
          have hh : ttOk ⟨x, m, s, false, true⟩ a now = true := by unfold ttOk; rw [HK.out, hd]; simp
          rw [ttT_yes hh, hh]
          rw [hd] at HD
          clear hh hd
          go_enter Try.func48, Try.ntmps48
          go_wp2_with fail
          refine (HC.out _).mono ?_
          rintro e w1 ⟨rfl, hb⟩
          have B_ := Lib.hid (BB.out.trans (hb.mono (by first | omega | (simp; omega) | (simp at *; omega))))
          clear BB
          have BB := B_
          have k0 := J0.out.below hb
          have k1 := J1.out.below hb
          have l1 := hb.size
          first | simp only [World.size_alloc] at l1 | skip
          clear hb J0 J1 B_
          have q0_1 := k0.cell
          have q1_1 := k1.cell
          have f0_1 := k0.frozen
          have f1_1 := k1.frozen
          have J0 := Lib.hid k0
          have J1 := Lib.hid k1
          clear k0 k1
          go_wp2_with fail
          refine (HA.out _).mono ?_
          rintro e w2 ⟨rfl, hb⟩
          clear q0_1 q1_1 f0_1 f1_1
          have B_ := Lib.hid (BB.out.trans (hb.mono (by first | omega | (simp; omega) | (simp at *; omega))))
          clear BB
          have BB := B_
          have k0 := J0.out.below hb
          have k1 := J1.out.below hb
          have l2 := hb.size
          first | simp only [World.size_alloc] at l2 | skip
          clear hb J0 J1 B_
          have q0_2 := k0.cell
          have q1_2 := k1.cell
          have f0_2 := k0.frozen
          have f1_2 := k1.frozen
          have J0 := Lib.hid k0
          have J1 := Lib.hid k1
          clear k0 k1
          go_wp2_with fail
          refine (HD.out _).mono ?_
          rintro e w' ⟨rfl, rfl⟩
          go_wp2
          exact bodyPost_ret (v := .tuple #[(.agg #[.int .i64 x, .int .i64 m, .int .i64 s, .bool true, .bool true]), .bool true]) (by simp [results, Try.results48, go_sem, q1_2]) rfl ⟨rfl, below_set5 (BB.out.setCell (p := ⟨w.heap.size, 3, none⟩) (Nat.le_refl _) _) (by omega) _ _ _ _ _⟩
theorem implTickS_any (S : Src) (a now : Int) (w : World) : Calls Try.prog 48 #[(.agg #[.int .i64 S.x, .int .i64 S.m, .int .i64 S.s, .bool S.i, .bool S.o]), .int .i64 a, .int .i64 now] w (SrcRes (ttT S a now) (ttOk S a now) w) := implTickS_x S.x S.m S.s S.i S.o a now w


set_option maxHeartbeats 1000000 in
set_option maxRecDepth 100000 in
theorem implClose_x (x m s : Int) (i o : Bool) (w : World) : Calls Try.prog 49 #[(.agg #[.int .i64 x, .int .i64 m, .int .i64 s, .bool i, .bool o])] w (SrcRes (clT ⟨x, m, s, i, o⟩) (clOk ⟨x, m, s, i, o⟩) w) := by
  have J0 := Lib.hid ((Blk.new w 28 #[.int .i64 x, .int .i64 m, .int .i64 s, .bool i, .bool o]).alloc (.cells #[.int .i64 0, .int .i64 0, .int .i64 0, .bool false, .bool false] 28))
  have k1 := Blk.new (w.alloc (.cells #[.int .i64 x, .int .i64 m, .int .i64 s, .bool i, .bool o] 28)) 28 #[.int .i64 0, .int .i64 0, .int .i64 0, .bool false, .bool false]
  simp only [World.size_alloc] at k1
  have J1 := Lib.hid k1
  have BB := Lib.hid (((Below.refl w.heap.size w).alloc (Nat.le_refl _) (.cells #[.int .i64 x, .int .i64 m, .int .i64 s, .bool i, .bool o] 28)).alloc (by simp) (.cells #[.int .i64 0, .int .i64 0, .int .i64 0, .bool false, .bool false] 28))
  clear k1
  have HC := Lib.hid (implSrcOk_any ⟨x, m, s, i, o⟩)
  cases hk : sOk ⟨x, m, s, i, o⟩ with
  | false =>
    have hh : clOk ⟨x, m, s, i, o⟩ = false := by unfold clOk; rw [hk]; rfl
    rw [clT_no hh, hh]
    rw [hk] at HC
    clear hk hh
    go_enter Try.func49, Try.ntmps49
    go_wp2_with fail
    refine (HC.out _).mono ?_
    rintro e w1 ⟨rfl, hb⟩
    have B_ := Lib.hid (BB.out.trans (hb.mono (by first | omega | (simp; omega) | (simp at *; omega))))
    clear BB
    have BB := B_
    have k0 := J0.out.below hb
    have k1 := J1.out.below hb
    have l1 := hb.size
    first | simp only [World.size_alloc] at l1 | skip
    clear hb J0 J1 B_
    have q0_1 := k0.cell
    have q1_1 := k1.cell
    have f0_1 := k0.frozen
    have f1_1 := k1.frozen
    have J0 := Lib.hid k0
    have J1 := Lib.hid k1
    clear k0 k1
    go_wp2
    exact bodyPost_ret (v := .tuple #[(.agg #[.int .i64 x, .int .i64 m, .int .i64 s, .bool i, .bool o]), .bool false]) (by simp [results, Try.results49, go_sem, q1_1]) rfl ⟨rfl, below_set5 BB.out (by omega) _ _ _ _ _⟩
  | true =>
    rw [hk] at HC
    have HK := Lib.hid hk
    clear hk
    cases o with
    | false =>
      have hh : clOk ⟨x, m, s, i, false⟩ = false := by unfold clOk; simp
      rw [clT_no hh, hh]
      clear hh
      go_enter Try.func49, Try.ntmps49
      go_wp2_with fail
      refine (HC.out _).mono ?_
      rintro e w1 ⟨rfl, hb⟩
      have B_ := Lib.hid (BB.out.trans (hb.mono (by first | omega | (simp; omega) | (simp at *; omega))))
      clear BB
      have BB := B_
      have k0 := J0.out.below hb
      have k1 := J1.out.below hb
      have l1 := hb.size
      first | simp only [World.size_alloc] at l1 | skip
      clear hb J0 J1 B_
      have q0_1 := k0.cell
      have q1_1 := k1.cell
      have f0_1 := k0.frozen
      have f1_1 := k1.frozen
      have J0 := Lib.hid k0
      have J1 := Lib.hid k1
      clear k0 k1
      go_wp2
      exact bodyPost_ret (v := .tuple #[(.agg #[.int .i64 x, .int .i64 m, .int .i64 s, .bool i, .bool false]), .bool false]) (by simp [results, Try.results49, go_sem, q1_1]) rfl ⟨rfl, below_set5 BB.out (by omega) _ _ _ _ _⟩
    | true =>
      have hh : clOk ⟨x, m, s, i, true⟩ = true := by unfold clOk; rw [HK.out]; rfl
      rw [clT_yes hh, hh]
      clear hh
      go_enter Try.func49, Try.ntmps49
      go_wp2_with fail
      refine (HC.out _).mono ?_
      rintro e w1 ⟨rfl, hb⟩
      have B_ := Lib.hid (BB.out.trans (hb.mono (by first | omega | (simp; omega) | (simp at *; omega))))
      clear BB
      have BB := B_
      have k0 := J0.out.below hb
      have k1 := J1.out.below hb
      have l1 := hb.size
      first | simp only [World.size_alloc] at l1 | skip
      clear hb J0 J1 B_
      have q0_1 := k0.cell
      have q1_1 := k1.cell
      have f0_1 := k0.frozen
      have f1_1 := k1.frozen
      have J0 := Lib.hid k0
      have J1 := Lib.hid k1
      clear k0 k1
      have q0a := fun cs : Array Value => (J0.out.alloc (.cells cs 28)).cell
      have q1a := fun cs : Array Value => (J1.out.alloc (.cells cs 28)).cell
      have f1a := fun cs : Array Value => (J1.out.alloc (.cells cs 28)).frozen
      go_wp2
      exact bodyPost_ret (v := .tuple #[(.agg #[.int .i64 x, .int .i64 m, .int .i64 s, .bool false, .bool false]), .bool true]) (by simp [results, Try.results49, go_sem, q1_1]) rfl ⟨rfl, below_set5 ((BB.out.setCell (p := ⟨w.heap.size, 4, none⟩) (Nat.le_refl _) _).setCell (p := ⟨w.heap.size, 3, none⟩) (Nat.le_refl _) _) (by omega) _ _ _ _ _⟩
theorem implClose_any (S : Src) (w : World) : Calls Try.prog 49 #[(.agg #[.int .i64 S.x, .int .i64 S.m, .int .i64 S.s, .bool S.i, .bool S.o])] w (SrcRes (clT S) (clOk S) w) := implClose_x S.x S.m S.s S.i S.o w


set_option maxHeartbeats 1000000 in
set_option maxRecDepth 100000 in
theorem implNew_any (now : Int) (w : World) : Calls Try.prog 27 #[.int .i64 now] w (SrcRes (newT now) (tickB now) w) := by
  have BB := Lib.hid fun a b c d e : Value => (Below.refl w.heap.size w).alloc (Nat.le_refl _) (.cells #[a, b, c, d, e] 28)
  have HC := Lib.hid (implTickOk_any now)
  cases hk : tickB now with
  | false =>
    have hh : newT now = ⟨0, 0, 0, false, false⟩ := by simp [newT, hk]
    rw [hh]
    rw [hk] at HC
    clear hk hh
    go_enter Try.func27, Try.ntmps27
    go_wp2_with fail
    refine (HC.out _).mono ?_
    rintro e w' ⟨rfl, rfl⟩
    go_wp2
    exact bodyPost_ret (v := .tuple #[(.agg #[.int .i64 0, .int .i64 0, .int .i64 0, .bool false, .bool false]), .bool false]) (by simp [results, Try.results27, go_sem]) rfl ⟨rfl, BB.out _ _ _ _ _⟩
  | true =>
    have hh : newT now = ⟨-1, -1, now, false, true⟩ := by simp [newT, hk]
    rw [hh]
    rw [hk] at HC
    clear hk hh
    go_enter Try.func27, Try.ntmps27
    go_wp2_with fail
    refine (HC.out _).mono ?_
    rintro e w' ⟨rfl, rfl⟩
    go_wp2
    exact bodyPost_ret (v := .tuple #[(.agg #[.int .i64 ((-1)), .int .i64 ((-1)), .int .i64 now, .bool false, .bool true]), .bool true]) (by simp [results, Try.results27, go_sem]) rfl ⟨rfl, BB.out _ _ _ _ _⟩


end Go.Proofs.Ytcjmigjkjepkdaa
