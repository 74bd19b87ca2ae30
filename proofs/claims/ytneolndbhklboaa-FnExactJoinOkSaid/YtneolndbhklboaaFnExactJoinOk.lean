/- impl.JoinOk answers as spec.JoinOk at every join of up to 1048576 events (beyond, the law says nothing), and leaves it as it was. No conditions. -/
import Derived.Test.YtneolndbhklboaaRows
import Derived.Test.YtneolndbhklboaaOpenJoin
import Derived.Test.YtneolndbhklboaaJnI1
import Derived.Test.YtneolndbhklboaaHeld
import Derived.WalkSmall
import Derived.WalkKit
import Derived.ProofKit
import Derived.OpenShut
import Derived.ShutString
import Derived.ChangeOld
import Derived.Below
namespace Go.Proofs.Ytneolndbhklboaa.fnExactJoinOk
open Go.ChangeShapes Go.WideShapes Go.ChangeAt Go.RowKit
set_option linter.unusedVariables false

theorem own : ownKnob Try.prog.godebug = none := by kernel_rfl
theorem laidOut : laidOutB Try.prog = true := by kernel_rfl


set_option maxHeartbeats 4000000 in
set_option maxRecDepth 100000 in
theorem walk (w : World) (a : Option Addr) (n c : Nat) (b : Option Addr) (m d : Nat) (mk : Int) (hmk : Is64 mk) (l r : List Fm) (hn : n = l.length) (hm : m = r.length) (hs : Fms w w.heap.size a c l) (hs2 : Fms w w.heap.size b d r) :
    Calls Try.prog 9 #[.agg #[.slice a n c, .slice b m d, .int .i64 mk]] w fun e w' => e = .returned (.bool true) ∧ Below w.heap.size w w' := by
  have hc1 := hs.cap
  have hc2 := hs.big
  have hc3 := hs2.cap
  have hc4 := hs2.big
  subst hn
  subst hm
  have HZ := Lib.hid (fun W => szJoin_any a b l.length r.length c d mk W (by omega) (by omega))
  have BB := Lib.hid (Below.refl w.heap.size w)
  by_cases hbig : (1048576 : Int) - (l.length : Int) - (r.length : Int) < 0
  · rw [if_pos hbig] at HZ
    clear hbig
    go_enter Try.func9, Try.ntmps9
    go_wp2_with fail
    refine (HZ.out _).mono ?_
    rintro e w1 ⟨rfl, hb⟩
    have B1 := Lib.hid ((BB.out.alloc (Nat.le_refl _) _).trans (hb.mono (by simp <;> omega)))
    clear hb
    go_wp2
    go_ret
    exact ⟨rfl, B1.out⟩
  · have hle : l.length ≤ 1048576 := by omega
    have hle2 : r.length ≤ 1048576 := by omega
    rw [if_neg hbig] at HZ
    have hz0 : ¬ (1048576 : Int) - (l.length : Int) - (r.length : Int) < 0 := hbig
    generalize (1048576 : Int) - (l.length : Int) - (r.length : Int) = left at HZ hz0
    have A0 := Lib.hid hs
    have A02 := Lib.hid hs2
    clear hbig
    have SP := Lib.hid (fun (W : World) a1 c1 b1 d1 (h1 : Fms W W.heap.size a1 c1 l) (h2 : Fms W W.heap.size b1 d1 r) => sJoinOk_any a1 b1 c1 d1 l r mk _ W h1 h2 (Nat.le_refl _))
    have IP := Lib.hid (fun (W : World) a1 c1 b1 d1 (h1 : Fms W W.heap.size a1 c1 l) (h2 : Fms W W.heap.size b1 d1 r) => iJoinOk_any a1 b1 c1 d1 l r mk _ W h1 h2 (Nat.le_refl _))
    generalize joinOkJ l r mk = V at SP IP
    have hok : (V != V) = false := by simp
    clear hs hs2 hmk
    have A_1 := Lib.hid (A0.out.below (((Below.refl w.heap.size w).alloc (Nat.le_refl _) (.cells #[.slice a l.length c, .slice b r.length d, .int .i64 mk] 63)).mono (by first | omega | (simp only [World.size_alloc]; omega) | (simp only [size_drew_]; omega) | (simp only [World.size_alloc, size_drew_]; omega))))
    clear A0
    have A2_1 := Lib.hid (A02.out.below (((Below.refl w.heap.size w).alloc (Nat.le_refl _) (.cells #[.slice a l.length c, .slice b r.length d, .int .i64 mk] 63)).mono (by first | omega | (simp only [World.size_alloc]; omega) | (simp only [size_drew_]; omega) | (simp only [World.size_alloc, size_drew_]; omega))))
    clear A02
    have BB_1 := Lib.hid (BB.out.alloc (by first | omega | (simp only [World.size_alloc]; omega) | (simp only [size_drew_]; omega) | (simp only [World.size_alloc, size_drew_]; omega)) (.cells #[.slice a l.length c, .slice b r.length d, .int .i64 mk] 63))
    clear BB
    have R_1 := Lib.hid (Blk.new w 63 #[.slice a l.length c, .slice b r.length d, .int .i64 mk])
    go_enter Try.func9, Try.ntmps9
    go_wp2_with fail
    refine (HZ.out _).mono ?_
    rintro e w2 ⟨rfl, hb⟩
    have A_2 := Lib.hid (A_1.out.below (hb.mono (by first | omega | (simp only [World.size_alloc]; omega) | (simp only [size_drew_]; omega) | (simp only [World.size_alloc, size_drew_]; omega))))
    clear A_1
    have A2_2 := Lib.hid (A2_1.out.below (hb.mono (by first | omega | (simp only [World.size_alloc]; omega) | (simp only [size_drew_]; omega) | (simp only [World.size_alloc, size_drew_]; omega))))
    clear A2_1
    have R_2 := Lib.hid (R_1.out.below hb)
    clear R_1
    have BB_2 := Lib.hid (BB_1.out.trans (hb.mono (by first | omega | (simp only [World.size_alloc]; omega) | (simp only [size_drew_]; omega) | (simp only [World.size_alloc, size_drew_]; omega))))
    clear BB_1
    have s2 := hb.size
    simp only [World.size_alloc] at s2
    clear hb
    have qR_2 := R_2.out.cell
    go_wp2_with fail
    refine (toJoin_any a b _ _ c d mk l r _ _ A_2.out A2_2.out rfl rfl (by first | omega | (simp only [World.size_alloc]; omega) | (simp only [size_drew_]; omega) | (simp only [World.size_alloc, size_drew_]; omega)) hle hle2).mono ?_
    rintro e w3 ⟨a3, c3, a3b, c3b, rfl, ho, hb⟩
    clear qR_2
    have A_3 := Lib.hid (A_2.out.below (hb.mono (by first | omega | (simp only [World.size_alloc]; omega) | (simp only [size_drew_]; omega) | (simp only [World.size_alloc, size_drew_]; omega))))
    clear A_2
    have A2_3 := Lib.hid (A2_2.out.below (hb.mono (by first | omega | (simp only [World.size_alloc]; omega) | (simp only [size_drew_]; omega) | (simp only [World.size_alloc, size_drew_]; omega))))
    clear A2_2
    have R_3 := Lib.hid (R_2.out.below hb)
    clear R_2
    have BB_3 := Lib.hid (BB_2.out.trans (hb.mono (by first | omega | (simp only [World.size_alloc]; omega) | (simp only [size_drew_]; omega) | (simp only [World.size_alloc, size_drew_]; omega))))
    clear BB_2
    have X1_3 := Lib.hid ho
    clear ho
    have s3 := hb.size
    clear hb
    go_wp2_with fail
    refine (SP.out _ _ _ _ _ X1_3.out.r0.qs X1_3.out.r1.qs).mono ?_
    rintro e w4 ⟨rfl, hb⟩
    have A_4 := Lib.hid (A_3.out.below (hb.mono (by first | omega | (simp only [World.size_alloc]; omega) | (simp only [size_drew_]; omega) | (simp only [World.size_alloc, size_drew_]; omega))))
    clear A_3
    have A2_4 := Lib.hid (A2_3.out.below (hb.mono (by first | omega | (simp only [World.size_alloc]; omega) | (simp only [size_drew_]; omega) | (simp only [World.size_alloc, size_drew_]; omega))))
    clear A2_3
    have R_4 := Lib.hid (R_3.out.below hb)
    clear R_3
    have X1_4 := Lib.hid (X1_3.out.below hb (by first | omega | (simp only [World.size_alloc]; omega) | (simp only [size_drew_]; omega) | (simp only [World.size_alloc, size_drew_]; omega)))
    clear X1_3
    have BB_4 := Lib.hid (BB_3.out.trans (hb.mono (by first | omega | (simp only [World.size_alloc]; omega) | (simp only [size_drew_]; omega) | (simp only [World.size_alloc, size_drew_]; omega))))
    clear BB_3
    have s4 := hb.size
    clear hb
    clear X1_4
    have qR_4 := R_4.out.cell
    go_wp2_with fail
    refine (toJoin_any a b _ _ c d mk l r _ _ A_4.out A2_4.out rfl rfl (by first | omega | (simp only [World.size_alloc]; omega) | (simp only [size_drew_]; omega) | (simp only [World.size_alloc, size_drew_]; omega)) hle hle2).mono ?_
    rintro e w5 ⟨a5, c5, a5b, c5b, rfl, ho, hb⟩
    clear qR_4
    have A_5 := Lib.hid (A_4.out.below (hb.mono (by first | omega | (simp only [World.size_alloc]; omega) | (simp only [size_drew_]; omega) | (simp only [World.size_alloc, size_drew_]; omega))))
    clear A_4
    have A2_5 := Lib.hid (A2_4.out.below (hb.mono (by first | omega | (simp only [World.size_alloc]; omega) | (simp only [size_drew_]; omega) | (simp only [World.size_alloc, size_drew_]; omega))))
    clear A2_4
    have R_5 := Lib.hid (R_4.out.below hb)
    clear R_4
    have BB_5 := Lib.hid (BB_4.out.trans (hb.mono (by first | omega | (simp only [World.size_alloc]; omega) | (simp only [size_drew_]; omega) | (simp only [World.size_alloc, size_drew_]; omega))))
    clear BB_4
    have X_5 := Lib.hid ho
    clear ho
    have s5 := hb.size
    clear hb
    have A_6 := Lib.hid (A_5.out.below (((Below.refl w5.heap.size w5).alloc (Nat.le_refl _) (.cells #[.slice a5 (l).length c5, .slice a5b (r).length c5b, .int .i64 mk] 29)).mono (by first | omega | (simp only [World.size_alloc]; omega) | (simp only [size_drew_]; omega) | (simp only [World.size_alloc, size_drew_]; omega))))
    clear A_5
    have A2_6 := Lib.hid (A2_5.out.below (((Below.refl w5.heap.size w5).alloc (Nat.le_refl _) (.cells #[.slice a5 (l).length c5, .slice a5b (r).length c5b, .int .i64 mk] 29)).mono (by first | omega | (simp only [World.size_alloc]; omega) | (simp only [size_drew_]; omega) | (simp only [World.size_alloc, size_drew_]; omega))))
    clear A2_5
    have R_6 := Lib.hid (R_5.out.alloc (.cells #[.slice a5 (l).length c5, .slice a5b (r).length c5b, .int .i64 mk] 29))
    clear R_5
    have X_6 := Lib.hid (X_5.out.below ((Below.refl w5.heap.size w5).alloc (Nat.le_refl _) (.cells #[.slice a5 (l).length c5, .slice a5b (r).length c5b, .int .i64 mk] 29)) (by first | omega | (simp only [World.size_alloc]; omega) | (simp only [size_drew_]; omega) | (simp only [World.size_alloc, size_drew_]; omega)))
    clear X_5
    have BB_6 := Lib.hid (BB_5.out.alloc (by first | omega | (simp only [World.size_alloc]; omega) | (simp only [size_drew_]; omega) | (simp only [World.size_alloc, size_drew_]; omega)) (.cells #[.slice a5 (l).length c5, .slice a5b (r).length c5b, .int .i64 mk] 29))
    clear BB_5
    have OX_6 := Lib.hid (Blk.new w5 29 #[.slice a5 (l).length c5, .slice a5b (r).length c5b, .int .i64 mk])
    have qOX_6 := OX_6.out.cell
    go_wp2_with fail
    refine (IP.out _ _ _ _ _ X_6.out.r0.qs X_6.out.r1.qs).mono ?_
    rintro e w7 ⟨rfl, hb⟩
    clear qOX_6
    have A_7 := Lib.hid (A_6.out.below (hb.mono (by first | omega | (simp only [World.size_alloc]; omega) | (simp only [size_drew_]; omega) | (simp only [World.size_alloc, size_drew_]; omega))))
    clear A_6
    have A2_7 := Lib.hid (A2_6.out.below (hb.mono (by first | omega | (simp only [World.size_alloc]; omega) | (simp only [size_drew_]; omega) | (simp only [World.size_alloc, size_drew_]; omega))))
    clear A2_6
    have R_7 := Lib.hid (R_6.out.below hb)
    clear R_6
    have X_7 := Lib.hid (X_6.out.below hb (by first | omega | (simp only [World.size_alloc]; omega) | (simp only [size_drew_]; omega) | (simp only [World.size_alloc, size_drew_]; omega)))
    clear X_6
    have OX_7 := Lib.hid (OX_6.out.below hb)
    clear OX_6
    have BB_7 := Lib.hid (BB_6.out.trans (hb.mono (by first | omega | (simp only [World.size_alloc]; omega) | (simp only [size_drew_]; omega) | (simp only [World.size_alloc, size_drew_]; omega))))
    clear BB_6
    have s7 := hb.size
    simp only [World.size_alloc] at s7
    clear hb
    go_wp2_with fail
    have hOXs0 := OX_7.out.cell
    have hRs0 := R_7.out.cell
    have A_8 := Lib.hid (A_7.out.below (((Below.refl w7.heap.size w7).drew).mono (by first | omega | (simp only [World.size_alloc]; omega) | (simp only [size_drew_]; omega) | (simp only [World.size_alloc, size_drew_]; omega))))
    clear A_7
    have A2_8 := Lib.hid (A2_7.out.below (((Below.refl w7.heap.size w7).drew).mono (by first | omega | (simp only [World.size_alloc]; omega) | (simp only [size_drew_]; omega) | (simp only [World.size_alloc, size_drew_]; omega))))
    clear A2_7
    have R_8 := Lib.hid (R_7.out.drew)
    clear R_7
    have X_8 := Lib.hid (X_7.out.below ((Below.refl w7.heap.size w7).drew) (by first | omega | (simp only [World.size_alloc]; omega) | (simp only [size_drew_]; omega) | (simp only [World.size_alloc, size_drew_]; omega)))
    clear X_7
    have OX_8 := Lib.hid (OX_7.out.drew)
    clear OX_7
    have BB_8 := Lib.hid (BB_7.out.drew)
    clear BB_7
    go_region_held3 (fun W => W.cell? ⟨w5.heap.size, 0, none⟩ = some (.slice a5 (l).length c5) ∧ W.cell? ⟨w5.heap.size, 1, none⟩ = some (.slice a5b (r).length c5b) ∧ W.cell? ⟨w5.heap.size, 2, none⟩ = some (.int .i64 mk) ∧ W.cell? ⟨w.heap.size, 0, none⟩ = some (.slice a l.length c) ∧ W.cell? ⟨w.heap.size, 1, none⟩ = some (.slice b r.length d) ∧ W.cell? ⟨w.heap.size, 2, none⟩ = some (.int .i64 mk))
      (first | exact ⟨hOXs0 0, hOXs0 1, hOXs0 2, hRs0 0, hRs0 1, hRs0 2⟩ | exact ⟨hOXs1 0, hOXs1 1, hOXs1 2, hRs1 0, hRs1 1, hRs1 2⟩ | exact ⟨hOXs2 0, hOXs2 1, hOXs2 2, hRs2 0, hRs2 1, hRs2 2⟩)
      (first
        | (go_at_call 45; refine (toJoin_any a b _ _ c d mk l r _ _ A_8.out A2_8.out rfl rfl (by first | omega | (simp only [World.size_alloc]; omega) | (simp only [size_drew_]; omega) | (simp only [World.size_alloc, size_drew_]; omega)) hle hle2).mono ?_; rintro e w9 ⟨a9, c9, a9b, c9b, rfl, ho, hb⟩; have A_9 := Lib.hid (A_8.out.below (hb.mono (by first | omega | (simp only [World.size_alloc]; omega) | (simp only [size_drew_]; omega) | (simp only [World.size_alloc, size_drew_]; omega)))); clear A_8; have A2_9 := Lib.hid (A2_8.out.below (hb.mono (by first | omega | (simp only [World.size_alloc]; omega) | (simp only [size_drew_]; omega) | (simp only [World.size_alloc, size_drew_]; omega)))); clear A2_8; have R_9 := Lib.hid (R_8.out.below hb); clear R_8; have X_9 := Lib.hid (X_8.out.below hb (by first | omega | (simp only [World.size_alloc]; omega) | (simp only [size_drew_]; omega) | (simp only [World.size_alloc, size_drew_]; omega))); clear X_8; have OX_9 := Lib.hid (OX_8.out.below hb); clear OX_8; have BB_9 := Lib.hid (BB_8.out.trans (hb.mono (by first | omega | (simp only [World.size_alloc]; omega) | (simp only [size_drew_]; omega) | (simp only [World.size_alloc, size_drew_]; omega)))); clear BB_8; have Z_9 := Lib.hid ho; clear ho; have s9 := hb.size; simp only [size_drew_] at s9; clear hb; clear hOXs0 hRs0; have hOXs1 := OX_9.out.cell; have hRs1 := R_9.out.cell)
        | (go_at_call 47; refine (eqJoin_any _ _ _ _ _ _ _ _ _ _ _ _ mk l r _ _ _ X_9.out.r0.qs X_9.out.r1.qs Z_9.out.r0.qs Z_9.out.r1.qs rfl rfl rfl rfl (Nat.le_refl _) (Nat.le_refl _)).mono ?_; rintro e w10 ⟨rfl, hb⟩; have A_10 := Lib.hid (A_9.out.below (hb.mono (by first | omega | (simp only [World.size_alloc]; omega) | (simp only [size_drew_]; omega) | (simp only [World.size_alloc, size_drew_]; omega)))); clear A_9; have A2_10 := Lib.hid (A2_9.out.below (hb.mono (by first | omega | (simp only [World.size_alloc]; omega) | (simp only [size_drew_]; omega) | (simp only [World.size_alloc, size_drew_]; omega)))); clear A2_9; have R_10 := Lib.hid (R_9.out.below hb); clear R_9; have X_10 := Lib.hid (X_9.out.below hb (by first | omega | (simp only [World.size_alloc]; omega) | (simp only [size_drew_]; omega) | (simp only [World.size_alloc, size_drew_]; omega))); clear X_9; have OX_10 := Lib.hid (OX_9.out.below hb); clear OX_9; have Z_10 := Lib.hid (Z_9.out.below hb (by first | omega | (simp only [World.size_alloc]; omega) | (simp only [size_drew_]; omega) | (simp only [World.size_alloc, size_drew_]; omega))); clear Z_9; have BB_10 := Lib.hid (BB_9.out.trans (hb.mono (by first | omega | (simp only [World.size_alloc]; omega) | (simp only [size_drew_]; omega) | (simp only [World.size_alloc, size_drew_]; omega)))); clear BB_9; have s10 := hb.size; clear hb; clear hOXs1 hRs1; have hOXs2 := OX_10.out.cell; have hRs2 := R_10.out.cell))
    clear hOXs2 hRs2
    go_wp2
    go_ret
    exact ⟨rfl, BB_10.out⟩

set_option maxRecDepth 100000 in
theorem lifted (os : Os) (started : os.Started) (H : Type) (enc : TypeId × Value → H) :
    ReturnsInHanded {} Try.checked os 9 .any (Rows.fnExactJoinOkSpec.pre6 enc Try.prog Try.f9 Rows.fnExactJoinOkRow.domain false) (Rows.fnExactJoinOkSpec.post enc Try.prog Try.f9 false true false false) := by
  refine returnsInHanded_of_change (C := Try.checked) own started (by kernel_rfl) Try.func9
    (ChangeSpec.witness6 (enc := enc) (C := Try.checked) false ⟨#[], #[.agg #[.slice none 0 0, .slice none 0 0, .int .i64 0]], []⟩ 8 (by kernel_rfl) (by kernel_rfl) (by kernel_rfl) (by kernel_rfl)) ?_
  intro W base args ds gs before hval0 hW hcnd _
  have hval : ∀ (j : Nat) t v, Try.f9.params[j]? = some t → args[j]? = some v → Value.okWide Try.prog W .any base t v := hval0
  have hW' := hW
  obtain ⟨p, q, hA0, hV, rfl, hfz, hnd⟩ := hW
  have hA : DataW.TrodAll enc Try.prog W 0 (fun _ => true) true Try.f9.params.toList args.toList ds p := hA0
  rw [Try.params9] at hA hval
  obtain ⟨v0, vs0, d0, ds0, p0, q0, hargs, rfl, rfl, h0, r0⟩ := trodAll_cons hA
  obtain ⟨rfl, rfl, rfl⟩ := trodAll_nil r0
  obtain rfl : args = #[v0] := by cases args; simp_all
  obtain ⟨rfl, rfl⟩ := trodVars_none hV
  have lt0 : ∀ x ∈ p0, x.block < W.heap.size := by obtain ⟨m, hm⟩ := h0; exact DataW.trod_lt m _ _ _ hm
  obtain ⟨a0, n0, c0, b0_, m0, e0, mk0, rfl, hk0, l0, r0_, hn0, hm0, hs0, hs20⟩ := arg_join (hval 0 63 v0 rfl rfl) h0
  clear hA0 hval0
  refine (walk W a0 n0 c0 b0_ m0 e0 mk0 hk0 l0 r0_ hn0 hm0 hs0 hs20).mono fun e W' ⟨he, bel⟩ => ?_
  subst he
  exact ⟨_, rfl, _, _, _, [], _, [], hW', trodAll_mk1 (shut_bool Try.underlying4 _), (trodAll_cons_mk (Below.trod laidOut (by kernel_rfl) (of_decide_eq_true (by kernel_rfl)) h0 bel lt0) trodAll_mk0), rfl, bel.frame _, fun h => by cases h⟩

theorem over : Rows.fnExactJoinOkRow.holds Try.pinned (OpenSpec.ofChange Rows.fnExactJoinOkSpec) :=
  OpenClaim.holds_of_wide 9 Try.f9 rfl rfl rfl rfl rfl rfl rfl ⟨rfl, rfl, rfl, rfl, rfl⟩ rfl rfl rfl rfl rfl (by kernel_rfl) Try.func9 (by kernel_rfl)
    (of_decide_eq_true (by kernel_rfl)) (by unfold Func.isWrapper; first | (rw [if_pos (by decide +kernel)]; kernel_rfl) | (rw [if_neg (by decide +kernel)]; exact ⟨rfl, rfl⟩))
    (fun os started H enc _ => lifted os started H enc)

theorem proved : Rows.FnExactJoinOkSaid := over
#print axioms proved
end Go.Proofs.Ytneolndbhklboaa.fnExactJoinOk
