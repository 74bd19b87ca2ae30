/- impl.SamePairs answers as spec.SamePairs at every two lists of up to 1048576 pairs together (beyond, the law says nothing), and leaves them as they were. No conditions. -/
import Derived.Test.YtneolndbhklboaaRows
import Derived.Test.YtneolndbhklboaaOpenPair
import Derived.Test.YtneolndbhklboaaSameJ
import Derived.Test.YtneolndbhklboaaSzFm
import Derived.Test.YtneolndbhklboaaHeld
import Derived.WalkSmall
import Derived.WalkKit
import Derived.ProofKit
import Derived.OpenShut
import Derived.ShutString
import Derived.ChangeOld
import Derived.Below
namespace Go.Proofs.Ytneolndbhklboaa.fnExactSamePairs
open Go.ChangeShapes Go.WideShapes Go.ChangeAt Go.RowKit
set_option linter.unusedVariables false

theorem own : ownKnob Try.prog.godebug = none := by kernel_rfl
theorem laidOut : laidOutB Try.prog = true := by kernel_rfl


set_option maxHeartbeats 4000000 in
set_option maxRecDepth 100000 in
theorem walk (w : World) (a : Option Addr) (n c : Nat) (l : List Pr) (hn : n = l.length) (hs : Prs w w.heap.size a c l) (a2 : Option Addr) (n2 c2 : Nat) (l2 : List Pr) (hn2 : n2 = l2.length) (hs2 : Prs w w.heap.size a2 c2 l2) :
    Calls Try.prog 8 #[.slice a n c, .slice a2 n2 c2] w fun e w' => e = .returned (.bool true) ∧ Below w.heap.size w w' := by
  have hc1 := hs.cap
  have hc2 := hs.big
  have hc3 := hs2.cap
  have hc4 := hs2.big
  subst hn
  subst hn2
  have HZ := Lib.hid (fun W => szPairS_at a l.length c 1048576 W (by omega) (by omega))
  have BB := Lib.hid (Below.refl w.heap.size w)
  by_cases hbig : 1048576 < l.length
  · have hz : (if ((1048576 : Nat) : Int) - (l.length : Int) < 0 then (-1 : Int) else ((1048576 : Nat) : Int) - (l.length : Int)) = -1 := if_pos (by omega)
    rw [hz] at HZ
    clear hz
    go_enter Try.func8, Try.ntmps8
    go_wp2_with fail
    refine (HZ.out _).mono ?_
    rintro e w1 ⟨rfl, rfl⟩
    go_wp2
    go_ret
    exact ⟨rfl, BB.out⟩
  · obtain ⟨m, hm⟩ : ∃ m : Nat, m = 1048576 - l.length := ⟨_, rfl⟩
    have hz : (if ((1048576 : Nat) : Int) - (l.length : Int) < 0 then (-1 : Int) else ((1048576 : Nat) : Int) - (l.length : Int)) = (m : Int) := by rw [if_neg (by omega)]; omega
    rw [hz] at HZ
    clear hz
    have HZ2 := Lib.hid (fun W => szPairS_at a2 l2.length c2 m W (by omega) (by omega))
    have hm0 : ¬ (m : Int) < 0 := by omega
    by_cases hbig2 : m < l2.length
    · have hz : (if (m : Int) - (l2.length : Int) < 0 then (-1 : Int) else (m : Int) - (l2.length : Int)) = -1 := if_pos (by omega)
      rw [hz] at HZ2
      clear hz hm
      go_enter Try.func8, Try.ntmps8
      go_wp2_with fail
      refine (HZ.out _).mono ?_
      rintro e w1 ⟨rfl, rfl⟩
      go_wp2_with fail
      refine (HZ2.out _).mono ?_
      rintro e w2 ⟨rfl, rfl⟩
      go_wp2
      go_ret
      exact ⟨rfl, BB.out⟩
    · obtain ⟨m2, hm2⟩ : ∃ m2 : Nat, m2 = m - l2.length := ⟨_, rfl⟩
      have hz : (if (m : Int) - (l2.length : Int) < 0 then (-1 : Int) else (m : Int) - (l2.length : Int)) = (m2 : Int) := by rw [if_neg (by omega)]; omega
      rw [hz] at HZ2
      have hm20 : ¬ (m2 : Int) < 0 := by omega
      have hle : l.length ≤ 1048576 := by omega
      have hle2 : l2.length ≤ 1048576 := by omega
      clear hz hm hm2
      have A0 := Lib.hid hs
      have A02 := Lib.hid hs2
      have SP := Lib.hid (fun (W : World) a1 c1 b1 d1 (h1 : Prs W W.heap.size a1 c1 l) (h2 : Prs W W.heap.size b1 d1 l2) => sSame_any a1 b1 l.length l2.length c1 d1 l l2 _ W h1 h2 rfl rfl (Nat.le_refl _))
      have IP := Lib.hid (fun (W : World) a1 c1 b1 d1 (h1 : Prs W W.heap.size a1 c1 l) (h2 : Prs W W.heap.size b1 d1 l2) => iSame_any a1 b1 l.length l2.length c1 d1 l l2 _ W h1 h2 rfl rfl (Nat.le_refl _) hle hle2)
      generalize sameJ l l2 = Z at SP IP
      have hok : (Z != Z) = false := by simp
      clear hs hs2
      go_enter Try.func8, Try.ntmps8
      go_wp2_with fail
      refine (HZ.out _).mono ?_
      rintro e w' ⟨rfl, rfl⟩
      go_wp2_with fail
      refine (HZ2.out _).mono ?_
      rintro e w' ⟨rfl, rfl⟩
      go_wp2_with fail
      refine (toPairS_any _ _ _ l _ _ A0.out rfl (by first | omega | (simp only [World.size_alloc]; omega) | (simp only [size_drew_]; omega) | (simp only [World.size_alloc, size_drew_]; omega)) hle).mono ?_
      rintro e w3 ⟨a3, c3, rfl, ho, hb⟩
      have A_3 := Lib.hid (A0.out.below (hb.mono (by first | omega | (simp only [World.size_alloc]; omega) | (simp only [size_drew_]; omega) | (simp only [World.size_alloc, size_drew_]; omega))))
      clear A0
      have A2_3 := Lib.hid (A02.out.below (hb.mono (by first | omega | (simp only [World.size_alloc]; omega) | (simp only [size_drew_]; omega) | (simp only [World.size_alloc, size_drew_]; omega))))
      clear A02
      have BB_3 := Lib.hid (BB.out.trans (hb.mono (by first | omega | (simp only [World.size_alloc]; omega) | (simp only [size_drew_]; omega) | (simp only [World.size_alloc, size_drew_]; omega))))
      clear BB
      have X1_3 := Lib.hid (Rw.new ho)
      clear ho
      have s3 := hb.size
      clear hb
      go_wp2_with fail
      refine (toPairS_any _ _ _ l2 _ _ A2_3.out rfl (by first | omega | (simp only [World.size_alloc]; omega) | (simp only [size_drew_]; omega) | (simp only [World.size_alloc, size_drew_]; omega)) hle2).mono ?_
      rintro e w4 ⟨a4, c4, rfl, ho, hb⟩
      have A_4 := Lib.hid (A_3.out.below (hb.mono (by first | omega | (simp only [World.size_alloc]; omega) | (simp only [size_drew_]; omega) | (simp only [World.size_alloc, size_drew_]; omega))))
      clear A_3
      have A2_4 := Lib.hid (A2_3.out.below (hb.mono (by first | omega | (simp only [World.size_alloc]; omega) | (simp only [size_drew_]; omega) | (simp only [World.size_alloc, size_drew_]; omega))))
      clear A2_3
      have X1_4 := Lib.hid (X1_3.out.below hb (by first | omega | (simp only [World.size_alloc]; omega) | (simp only [size_drew_]; omega) | (simp only [World.size_alloc, size_drew_]; omega)))
      clear X1_3
      have BB_4 := Lib.hid (BB_3.out.trans (hb.mono (by first | omega | (simp only [World.size_alloc]; omega) | (simp only [size_drew_]; omega) | (simp only [World.size_alloc, size_drew_]; omega))))
      clear BB_3
      have X2_4 := Lib.hid (Rw.new ho)
      clear ho
      have s4 := hb.size
      clear hb
      go_wp2_with fail
      refine (SP.out _ _ _ _ _ X1_4.out.gs X2_4.out.gs).mono ?_
      rintro e w5 ⟨rfl, hb⟩
      have A_5 := Lib.hid (A_4.out.below (hb.mono (by first | omega | (simp only [World.size_alloc]; omega) | (simp only [size_drew_]; omega) | (simp only [World.size_alloc, size_drew_]; omega))))
      clear A_4
      have A2_5 := Lib.hid (A2_4.out.below (hb.mono (by first | omega | (simp only [World.size_alloc]; omega) | (simp only [size_drew_]; omega) | (simp only [World.size_alloc, size_drew_]; omega))))
      clear A2_4
      have X1_5 := Lib.hid (X1_4.out.below hb (by first | omega | (simp only [World.size_alloc]; omega) | (simp only [size_drew_]; omega) | (simp only [World.size_alloc, size_drew_]; omega)))
      clear X1_4
      have X2_5 := Lib.hid (X2_4.out.below hb (by first | omega | (simp only [World.size_alloc]; omega) | (simp only [size_drew_]; omega) | (simp only [World.size_alloc, size_drew_]; omega)))
      clear X2_4
      have BB_5 := Lib.hid (BB_4.out.trans (hb.mono (by first | omega | (simp only [World.size_alloc]; omega) | (simp only [size_drew_]; omega) | (simp only [World.size_alloc, size_drew_]; omega))))
      clear BB_4
      have s5 := hb.size
      clear hb
      clear X1_5 X2_5
      go_wp2_with fail
      refine (toPairS_any _ _ _ l _ _ A_5.out rfl (by first | omega | (simp only [World.size_alloc]; omega) | (simp only [size_drew_]; omega) | (simp only [World.size_alloc, size_drew_]; omega)) hle).mono ?_
      rintro e w6 ⟨a6, c6, rfl, ho, hb⟩
      have A_6 := Lib.hid (A_5.out.below (hb.mono (by first | omega | (simp only [World.size_alloc]; omega) | (simp only [size_drew_]; omega) | (simp only [World.size_alloc, size_drew_]; omega))))
      clear A_5
      have A2_6 := Lib.hid (A2_5.out.below (hb.mono (by first | omega | (simp only [World.size_alloc]; omega) | (simp only [size_drew_]; omega) | (simp only [World.size_alloc, size_drew_]; omega))))
      clear A2_5
      have BB_6 := Lib.hid (BB_5.out.trans (hb.mono (by first | omega | (simp only [World.size_alloc]; omega) | (simp only [size_drew_]; omega) | (simp only [World.size_alloc, size_drew_]; omega))))
      clear BB_5
      have X_6 := Lib.hid (Rw.new ho)
      clear ho
      have s6 := hb.size
      clear hb
      go_wp2_with fail
      refine (toPairS_any _ _ _ l2 _ _ A2_6.out rfl (by first | omega | (simp only [World.size_alloc]; omega) | (simp only [size_drew_]; omega) | (simp only [World.size_alloc, size_drew_]; omega)) hle2).mono ?_
      rintro e w7 ⟨a7, c7, rfl, ho, hb⟩
      have A_7 := Lib.hid (A_6.out.below (hb.mono (by first | omega | (simp only [World.size_alloc]; omega) | (simp only [size_drew_]; omega) | (simp only [World.size_alloc, size_drew_]; omega))))
      clear A_6
      have A2_7 := Lib.hid (A2_6.out.below (hb.mono (by first | omega | (simp only [World.size_alloc]; omega) | (simp only [size_drew_]; omega) | (simp only [World.size_alloc, size_drew_]; omega))))
      clear A2_6
      have X_7 := Lib.hid (X_6.out.below hb (by first | omega | (simp only [World.size_alloc]; omega) | (simp only [size_drew_]; omega) | (simp only [World.size_alloc, size_drew_]; omega)))
      clear X_6
      have BB_7 := Lib.hid (BB_6.out.trans (hb.mono (by first | omega | (simp only [World.size_alloc]; omega) | (simp only [size_drew_]; omega) | (simp only [World.size_alloc, size_drew_]; omega))))
      clear BB_6
      have Y_7 := Lib.hid (Rw.new ho)
      clear ho
      have s7 := hb.size
      clear hb
      go_wp2_with fail
      refine (IP.out _ _ _ _ _ X_7.out.gs Y_7.out.gs).mono ?_
      rintro e w8 ⟨rfl, hb⟩
      have A_8 := Lib.hid (A_7.out.below (hb.mono (by first | omega | (simp only [World.size_alloc]; omega) | (simp only [size_drew_]; omega) | (simp only [World.size_alloc, size_drew_]; omega))))
      clear A_7
      have A2_8 := Lib.hid (A2_7.out.below (hb.mono (by first | omega | (simp only [World.size_alloc]; omega) | (simp only [size_drew_]; omega) | (simp only [World.size_alloc, size_drew_]; omega))))
      clear A2_7
      have X_8 := Lib.hid (X_7.out.below hb (by first | omega | (simp only [World.size_alloc]; omega) | (simp only [size_drew_]; omega) | (simp only [World.size_alloc, size_drew_]; omega)))
      clear X_7
      have Y_8 := Lib.hid (Y_7.out.below hb (by first | omega | (simp only [World.size_alloc]; omega) | (simp only [size_drew_]; omega) | (simp only [World.size_alloc, size_drew_]; omega)))
      clear Y_7
      have BB_8 := Lib.hid (BB_7.out.trans (hb.mono (by first | omega | (simp only [World.size_alloc]; omega) | (simp only [size_drew_]; omega) | (simp only [World.size_alloc, size_drew_]; omega))))
      clear BB_7
      have s8 := hb.size
      clear hb
      go_wp2_with fail
      refine (toPairS_any _ _ _ l _ _ A_8.out rfl (by first | omega | (simp only [World.size_alloc]; omega) | (simp only [size_drew_]; omega) | (simp only [World.size_alloc, size_drew_]; omega)) hle).mono ?_
      rintro e w9 ⟨a9, c9, rfl, ho, hb⟩
      have A_9 := Lib.hid (A_8.out.below (hb.mono (by first | omega | (simp only [World.size_alloc]; omega) | (simp only [size_drew_]; omega) | (simp only [World.size_alloc, size_drew_]; omega))))
      clear A_8
      have A2_9 := Lib.hid (A2_8.out.below (hb.mono (by first | omega | (simp only [World.size_alloc]; omega) | (simp only [size_drew_]; omega) | (simp only [World.size_alloc, size_drew_]; omega))))
      clear A2_8
      have X_9 := Lib.hid (X_8.out.below hb (by first | omega | (simp only [World.size_alloc]; omega) | (simp only [size_drew_]; omega) | (simp only [World.size_alloc, size_drew_]; omega)))
      clear X_8
      have Y_9 := Lib.hid (Y_8.out.below hb (by first | omega | (simp only [World.size_alloc]; omega) | (simp only [size_drew_]; omega) | (simp only [World.size_alloc, size_drew_]; omega)))
      clear Y_8
      have BB_9 := Lib.hid (BB_8.out.trans (hb.mono (by first | omega | (simp only [World.size_alloc]; omega) | (simp only [size_drew_]; omega) | (simp only [World.size_alloc, size_drew_]; omega))))
      clear BB_8
      have Z_9 := Lib.hid (Rw.new ho)
      clear ho
      have s9 := hb.size
      clear hb
      go_wp2_with fail
      refine (eqPairS_any _ _ _ _ _ _ l _ _ _ X_9.out.gs Z_9.out.gs rfl rfl (Nat.le_refl _) (Nat.le_refl _)).mono ?_
      rintro e w10 ⟨rfl, hb⟩
      have A_10 := Lib.hid (A_9.out.below (hb.mono (by first | omega | (simp only [World.size_alloc]; omega) | (simp only [size_drew_]; omega) | (simp only [World.size_alloc, size_drew_]; omega))))
      clear A_9
      have A2_10 := Lib.hid (A2_9.out.below (hb.mono (by first | omega | (simp only [World.size_alloc]; omega) | (simp only [size_drew_]; omega) | (simp only [World.size_alloc, size_drew_]; omega))))
      clear A2_9
      have X_10 := Lib.hid (X_9.out.below hb (by first | omega | (simp only [World.size_alloc]; omega) | (simp only [size_drew_]; omega) | (simp only [World.size_alloc, size_drew_]; omega)))
      clear X_9
      have Y_10 := Lib.hid (Y_9.out.below hb (by first | omega | (simp only [World.size_alloc]; omega) | (simp only [size_drew_]; omega) | (simp only [World.size_alloc, size_drew_]; omega)))
      clear Y_9
      have Z_10 := Lib.hid (Z_9.out.below hb (by first | omega | (simp only [World.size_alloc]; omega) | (simp only [size_drew_]; omega) | (simp only [World.size_alloc, size_drew_]; omega)))
      clear Z_9
      have BB_10 := Lib.hid (BB_9.out.trans (hb.mono (by first | omega | (simp only [World.size_alloc]; omega) | (simp only [size_drew_]; omega) | (simp only [World.size_alloc, size_drew_]; omega))))
      clear BB_9
      have s10 := hb.size
      clear hb
      clear Z_10
      go_wp2_with fail
      refine (toPairS_any _ _ _ l2 _ _ A2_10.out rfl (by first | omega | (simp only [World.size_alloc]; omega) | (simp only [size_drew_]; omega) | (simp only [World.size_alloc, size_drew_]; omega)) hle2).mono ?_
      rintro e w11 ⟨a11, c11, rfl, ho, hb⟩
      have A_11 := Lib.hid (A_10.out.below (hb.mono (by first | omega | (simp only [World.size_alloc]; omega) | (simp only [size_drew_]; omega) | (simp only [World.size_alloc, size_drew_]; omega))))
      clear A_10
      have A2_11 := Lib.hid (A2_10.out.below (hb.mono (by first | omega | (simp only [World.size_alloc]; omega) | (simp only [size_drew_]; omega) | (simp only [World.size_alloc, size_drew_]; omega))))
      clear A2_10
      have X_11 := Lib.hid (X_10.out.below hb (by first | omega | (simp only [World.size_alloc]; omega) | (simp only [size_drew_]; omega) | (simp only [World.size_alloc, size_drew_]; omega)))
      clear X_10
      have Y_11 := Lib.hid (Y_10.out.below hb (by first | omega | (simp only [World.size_alloc]; omega) | (simp only [size_drew_]; omega) | (simp only [World.size_alloc, size_drew_]; omega)))
      clear Y_10
      have BB_11 := Lib.hid (BB_10.out.trans (hb.mono (by first | omega | (simp only [World.size_alloc]; omega) | (simp only [size_drew_]; omega) | (simp only [World.size_alloc, size_drew_]; omega))))
      clear BB_10
      have Z_11 := Lib.hid (Rw.new ho)
      clear ho
      have s11 := hb.size
      clear hb
      go_wp2_with fail
      refine (eqPairS_any _ _ _ _ _ _ l2 _ _ _ Y_11.out.gs Z_11.out.gs rfl rfl (Nat.le_refl _) (Nat.le_refl _)).mono ?_
      rintro e w12 ⟨rfl, hb⟩
      have A_12 := Lib.hid (A_11.out.below (hb.mono (by first | omega | (simp only [World.size_alloc]; omega) | (simp only [size_drew_]; omega) | (simp only [World.size_alloc, size_drew_]; omega))))
      clear A_11
      have A2_12 := Lib.hid (A2_11.out.below (hb.mono (by first | omega | (simp only [World.size_alloc]; omega) | (simp only [size_drew_]; omega) | (simp only [World.size_alloc, size_drew_]; omega))))
      clear A2_11
      have X_12 := Lib.hid (X_11.out.below hb (by first | omega | (simp only [World.size_alloc]; omega) | (simp only [size_drew_]; omega) | (simp only [World.size_alloc, size_drew_]; omega)))
      clear X_11
      have Y_12 := Lib.hid (Y_11.out.below hb (by first | omega | (simp only [World.size_alloc]; omega) | (simp only [size_drew_]; omega) | (simp only [World.size_alloc, size_drew_]; omega)))
      clear Y_11
      have Z_12 := Lib.hid (Z_11.out.below hb (by first | omega | (simp only [World.size_alloc]; omega) | (simp only [size_drew_]; omega) | (simp only [World.size_alloc, size_drew_]; omega)))
      clear Z_11
      have BB_12 := Lib.hid (BB_11.out.trans (hb.mono (by first | omega | (simp only [World.size_alloc]; omega) | (simp only [size_drew_]; omega) | (simp only [World.size_alloc, size_drew_]; omega))))
      clear BB_11
      have s12 := hb.size
      clear hb
      go_wp2
      go_ret
      exact ⟨rfl, BB_12.out⟩

set_option maxRecDepth 100000 in
theorem lifted (os : Os) (started : os.Started) (H : Type) (enc : TypeId × Value → H) :
    ReturnsInHanded {} Try.checked os 8 .any (Rows.fnExactSamePairsSpec.pre6 enc Try.prog Try.f8 Rows.fnExactSamePairsRow.domain false) (Rows.fnExactSamePairsSpec.post enc Try.prog Try.f8 false true false false) := by
  refine returnsInHanded_of_change (C := Try.checked) own started (by kernel_rfl) Try.func8
    (ChangeSpec.witness6 (enc := enc) (C := Try.checked) false ⟨#[], #[.slice none 0 0, .slice none 0 0], []⟩ 8 (by kernel_rfl) (by kernel_rfl) (by kernel_rfl) (by kernel_rfl)) ?_
  intro W base args ds gs before hval0 hW hcnd _
  have hval : ∀ (j : Nat) t v, Try.f8.params[j]? = some t → args[j]? = some v → Value.okWide Try.prog W .any base t v := hval0
  have hW' := hW
  obtain ⟨p, q, hA0, hV, rfl, hfz, hnd⟩ := hW
  have hA : DataW.TrodAll enc Try.prog W 0 (fun _ => true) true Try.f8.params.toList args.toList ds p := hA0
  rw [Try.params8] at hA hval
  obtain ⟨v0, vs0, d0, ds0, p0, q0, hargs, rfl, rfl, h0, r0⟩ := trodAll_cons hA
  obtain ⟨v1, vs1, d1, ds1, p1, q1, rfl, rfl, rfl, h1, r1⟩ := trodAll_cons r0
  obtain ⟨rfl, rfl, rfl⟩ := trodAll_nil r1
  obtain rfl : args = #[v0, v1] := by cases args; simp_all
  obtain ⟨rfl, rfl⟩ := trodVars_none hV
  have lt0 : ∀ x ∈ p0, x.block < W.heap.size := by obtain ⟨m, hm⟩ := h0; exact DataW.trod_lt m _ _ _ hm
  obtain ⟨a0, n0, c0, rfl, l0, hn0, hs0⟩ := arg_pairs (hval 0 56 v0 rfl rfl) h0
  have lt1 : ∀ x ∈ p1, x.block < W.heap.size := by obtain ⟨m, hm⟩ := h1; exact DataW.trod_lt m _ _ _ hm
  obtain ⟨a1, n1, c1, rfl, l1, hn1, hs1⟩ := arg_pairs (hval 1 56 v1 rfl rfl) h1
  clear hA0 hval0
  refine (walk W a0 n0 c0 l0 hn0 hs0 a1 n1 c1 l1 hn1 hs1).mono fun e W' ⟨he, bel⟩ => ?_
  subst he
  exact ⟨_, rfl, _, _, _, [], _, [], hW', trodAll_mk1 (shut_bool Try.underlying4 _), (trodAll_cons_mk (Below.trod laidOut (by kernel_rfl) (of_decide_eq_true (by kernel_rfl)) h0 bel lt0) (trodAll_cons_mk (Below.trod laidOut (by kernel_rfl) (of_decide_eq_true (by kernel_rfl)) h1 bel lt1) trodAll_mk0)), rfl, bel.frame _, fun h => by cases h⟩

theorem over : Rows.fnExactSamePairsRow.holds Try.pinned (OpenSpec.ofChange Rows.fnExactSamePairsSpec) :=
  OpenClaim.holds_of_wide 8 Try.f8 rfl rfl rfl rfl rfl rfl rfl ⟨rfl, rfl, rfl, rfl, rfl⟩ rfl rfl rfl rfl rfl (by kernel_rfl) Try.func8 (by kernel_rfl)
    (of_decide_eq_true (by kernel_rfl)) (by unfold Func.isWrapper; first | (rw [if_pos (by decide +kernel)]; kernel_rfl) | (rw [if_neg (by decide +kernel)]; exact ⟨rfl, rfl⟩))
    (fun os started H enc _ => lifted os started H enc)

theorem proved : Rows.FnExactSamePairsSaid := over
#print axioms proved
end Go.Proofs.Ytneolndbhklboaa.fnExactSamePairs
