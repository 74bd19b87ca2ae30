/- impl.AddJoin answers as spec.AddJoin at every join of up to 1048576 events (beyond, the law says nothing), every int, either side and every frame, in memory of its own, and leaves the join as it was. No conditions. -/
import Derived.Test.YtneolndbhklboaaRows
import Derived.Test.YtneolndbhklboaaOpenJoin
import Derived.Test.YtneolndbhklboaaAddAll
import Derived.Test.YtneolndbhklboaaMarkJ
import Derived.Test.YtneolndbhklboaaHeld3
import Derived.Test.YtneolndbhklboaaHeld
import Derived.Test.YtneolndbhklboaaSzFm
import Derived.WalkSmall
import Derived.WalkKit
import Derived.ProofKit
import Derived.OpenShut
import Derived.ShutString
import Derived.ChangeOld
import Derived.Below
namespace Go.Proofs.Ytneolndbhklboaa.fnExactAddJoin
open Go.ChangeShapes Go.WideShapes Go.ChangeAt Go.RowKit
set_option linter.unusedVariables false

theorem own : ownKnob Try.prog.godebug = none := by kernel_rfl
theorem laidOut : laidOutB Try.prog = true := by kernel_rfl


theorem _root_.Go.Proofs.Ytneolndbhklboaa.ManyAt.many {lo : Nat} {rs : List RowD} {w : World} (h : ManyAt lo rs w) : Many lo w.heap.size rs w := h
theorem _root_.Go.Proofs.Ytneolndbhklboaa.ManyAt.q0 {lo : Nat} {a : Option Addr} {c : Nat} {l : List Fm} {rs : List RowD} {w : World} (h : ManyAt lo (rQ a c l :: rs) w) : Fms w w.heap.size a c l := Rw.qs (Many.r0 h)
theorem _root_.Go.Proofs.Ytneolndbhklboaa.ManyAt.q1 {lo : Nat} {x0 : RowD} {a : Option Addr} {c : Nat} {l : List Fm} {rs : List RowD} {w : World} (h : ManyAt lo (x0 :: rQ a c l :: rs) w) : Fms w w.heap.size a c l := Rw.qs (Many.r1 h)
theorem addJ_len2 {l r : List Fm} {mk by_ : Int} {lf : Bool} {F : Fm} (h1 : l.length ≤ 1048576) (h2 : r.length ≤ 1048576) : (addJ ⟨l, r, mk⟩ by_ lf F).1.l.length ≤ 1048576 ∧ (addJ ⟨l, r, mk⟩ by_ lf F).1.r.length ≤ 1048576 ∧ (addJ ⟨l, r, mk⟩ by_ lf F).2.1.length ≤ 40 := by
  by_cases hj : jOk ⟨l, r, mk⟩ = true
  · obtain ⟨b1, b2, _⟩ := jOk_bd hj
    have := addJ_len (J := ⟨l, r, mk⟩) (by_ := by_) (lf := lf) (F := F) ⟨by simp only at b1 ⊢; omega, by simp only at b2 ⊢; omega⟩
    omega
  · rw [addJ_bad1 (by simpa using hj)]
    simp only [List.length_nil]
    omega

set_option maxHeartbeats 4000000 in
set_option maxRecDepth 100000 in
theorem walk (w : World) (a : Option Addr) (n c : Nat) (b : Option Addr) (m d : Nat) (mk : Int) (hmk : Is64 mk) (l r : List Fm) (hn : n = l.length) (hm : m = r.length) (hs : Fms w w.heap.size a c l) (hs2 : Fms w w.heap.size b d r) (by_ : Int) (hby : Is64 by_) (lf : Bool) (k y t v : Int) :
    Calls Try.prog 11 #[.agg #[.slice a n c, .slice b m d, .int .i64 mk], .int .i64 by_, .bool lf, (.agg #[.int .i64 k, .int .i64 y, .int .i64 t, .int .i64 v])] w fun e w' => e = .returned (.bool true) ∧ Below w.heap.size w w' := by
  have hc1 := hs.cap
  have hc2 := hs.big
  have hc3 := hs2.cap
  have hc4 := hs2.big
  subst hn
  subst hm
  have HZ := Lib.hid (fun W => szJoin_any a b l.length r.length c d mk W (by omega) (by omega))
  have BB := Lib.hid (Below.refl w.heap.size w)
  by_cases hbig : (1048576 : Int) - (l.length : Int) - (r.length : Int) < 0
  · rw [if_pos hbig] at HZ
    clear hbig
    go_enter Try.func11, Try.ntmps11
    go_wp2_with fail
    refine (HZ.out _).mono ?_
    rintro e w1 ⟨rfl, hb⟩
    have B1 := Lib.hid (((BB.out.alloc (Nat.le_refl _) _).alloc (by simp) _).trans (hb.mono (by simp <;> omega)))
    clear hb
    go_wp2
    go_ret
    exact ⟨rfl, B1.out⟩
  · have hle : l.length ≤ 1048576 := by omega
    have hle2 : r.length ≤ 1048576 := by omega
    rw [if_neg hbig] at HZ
    have hz0 : ¬ (1048576 : Int) - (l.length : Int) - (r.length : Int) < 0 := hbig
    generalize (1048576 : Int) - (l.length : Int) - (r.length : Int) = left at HZ hz0
    have A0 := Lib.hid hs
    have A02 := Lib.hid hs2
    clear hbig
    have SP := Lib.hid (fun (W : World) a1 c1 b1 d1 (h1 : Fms W W.heap.size a1 c1 l) (h2 : Fms W W.heap.size b1 d1 r) => sAdd_any a1 b1 c1 d1 l r mk by_ lf k y t v _ W h1 h2 (Nat.le_refl _) hle hle2)
    have IP := Lib.hid (fun (W : World) a1 c1 b1 d1 (h1 : Fms W W.heap.size a1 c1 l) (h2 : Fms W W.heap.size b1 d1 r) => iAdd_any a1 b1 c1 d1 l r mk by_ lf k y t v _ W h1 h2 (Nat.le_refl _) hle hle2)
    have hlen : (addJ ⟨l, r, mk⟩ by_ lf ⟨k, y, t, v⟩).1.l.length ≤ 1048576 ∧ (addJ ⟨l, r, mk⟩ by_ lf ⟨k, y, t, v⟩).1.r.length ≤ 1048576 ∧ (addJ ⟨l, r, mk⟩ by_ lf ⟨k, y, t, v⟩).2.1.length ≤ 40 := addJ_len2 hle hle2
    generalize addJ ⟨l, r, mk⟩ by_ lf ⟨k, y, t, v⟩ = Z at SP IP hlen
    obtain ⟨⟨L, R, M⟩, P, C⟩ := Z
    have SP : Hid (∀ (W : World) a1 c1 b1 d1, Fms W W.heap.size a1 c1 l → Fms W W.heap.size b1 d1 r → Calls Try.prog 52 #[.agg #[.slice a1 l.length c1, .slice b1 r.length d1, .int .i64 mk], .int .i64 by_, .bool lf, (.agg #[.int .i64 k, .int .i64 y, .int .i64 t, .int .i64 v])] W fun e w' => ∃ a c b d p q, e = .returned (.tuple #[.agg #[.slice a L.length c, .slice b R.length d, .int .i64 M], .slice p P.length q, .int .i64 C]) ∧ Many W.heap.size w'.heap.size [rQ a c L, rQ b d R, rG p q P] w' ∧ Below W.heap.size W w') := SP
    have IP : Hid (∀ (W : World) a1 c1 b1 d1, Fms W W.heap.size a1 c1 l → Fms W W.heap.size b1 d1 r → Calls Try.prog 54 #[.agg #[.slice a1 l.length c1, .slice b1 r.length d1, .int .i64 mk], .int .i64 by_, .bool lf, (.agg #[.int .i64 k, .int .i64 y, .int .i64 t, .int .i64 v])] W fun e w' => ∃ a c b d p q, e = .returned (.tuple #[.agg #[.slice a L.length c, .slice b R.length d, .int .i64 M], .slice p P.length q, .int .i64 C]) ∧ Many W.heap.size w'.heap.size [rQ a c L, rQ b d R, rG p q P] w' ∧ Below W.heap.size W w') := IP
    obtain ⟨hL, hR, hP⟩ : L.length ≤ 1048576 ∧ R.length ≤ 1048576 ∧ P.length ≤ 40 := hlen
    have hL6 := hL
    have hok : (C != C) = false := by simp
    clear hs hs2 hmk hby
    have A_1 := Lib.hid (A0.out.below (((Below.refl w.heap.size w).alloc (Nat.le_refl _) (.cells #[.slice a l.length c, .slice b r.length d, .int .i64 mk] 63)).mono (by first | omega | (simp only [World.size_alloc]; omega) | (simp only [size_drew_]; omega) | (simp only [World.size_alloc, size_drew_]; omega))))
    clear A0
    have A2_1 := Lib.hid (A02.out.below (((Below.refl w.heap.size w).alloc (Nat.le_refl _) (.cells #[.slice a l.length c, .slice b r.length d, .int .i64 mk] 63)).mono (by first | omega | (simp only [World.size_alloc]; omega) | (simp only [size_drew_]; omega) | (simp only [World.size_alloc, size_drew_]; omega))))
    clear A02
    have BB_1 := Lib.hid (BB.out.alloc (by first | omega | (simp only [World.size_alloc]; omega) | (simp only [size_drew_]; omega) | (simp only [World.size_alloc, size_drew_]; omega)) (.cells #[.slice a l.length c, .slice b r.length d, .int .i64 mk] 63))
    clear BB
    have R_1 := Lib.hid (Blk.new w 63 #[.slice a l.length c, .slice b r.length d, .int .i64 mk])
    have A_2 := Lib.hid (A_1.out.below (((Below.refl (w.alloc (.cells #[.slice a l.length c, .slice b r.length d, .int .i64 mk] 63)).heap.size (w.alloc (.cells #[.slice a l.length c, .slice b r.length d, .int .i64 mk] 63))).alloc (Nat.le_refl _) (.cells #[.int .i64 k, .int .i64 y, .int .i64 t, .int .i64 v] 72)).mono (by first | omega | (simp only [World.size_alloc]; omega) | (simp only [size_drew_]; omega) | (simp only [World.size_alloc, size_drew_]; omega))))
    clear A_1
    have A2_2 := Lib.hid (A2_1.out.below (((Below.refl (w.alloc (.cells #[.slice a l.length c, .slice b r.length d, .int .i64 mk] 63)).heap.size (w.alloc (.cells #[.slice a l.length c, .slice b r.length d, .int .i64 mk] 63))).alloc (Nat.le_refl _) (.cells #[.int .i64 k, .int .i64 y, .int .i64 t, .int .i64 v] 72)).mono (by first | omega | (simp only [World.size_alloc]; omega) | (simp only [size_drew_]; omega) | (simp only [World.size_alloc, size_drew_]; omega))))
    clear A2_1
    have R_2 := Lib.hid (R_1.out.alloc (.cells #[.int .i64 k, .int .i64 y, .int .i64 t, .int .i64 v] 72))
    clear R_1
    have BB_2 := Lib.hid (BB_1.out.alloc (by first | omega | (simp only [World.size_alloc]; omega) | (simp only [size_drew_]; omega) | (simp only [World.size_alloc, size_drew_]; omega)) (.cells #[.int .i64 k, .int .i64 y, .int .i64 t, .int .i64 v] 72))
    clear BB_1
    have F_2 : Hid (Blk ((w.alloc (.cells #[.slice a l.length c, .slice b r.length d, .int .i64 mk] 63)).alloc (.cells #[.int .i64 k, .int .i64 y, .int .i64 t, .int .i64 v] 72)) (w.heap.size + 1) 72 #[.int .i64 k, .int .i64 y, .int .i64 t, .int .i64 v]) := by
      have hh := Blk.new (w.alloc (.cells #[.slice a l.length c, .slice b r.length d, .int .i64 mk] 63)) 72 #[.int .i64 k, .int .i64 y, .int .i64 t, .int .i64 v]
      simp only [World.size_alloc] at hh
      exact hh
    go_enter Try.func11, Try.ntmps11
    go_wp2_with fail
    refine (HZ.out _).mono ?_
    rintro e w3 ⟨rfl, hb⟩
    have A_3 := Lib.hid (A_2.out.below (hb.mono (by first | omega | (simp only [World.size_alloc]; omega) | (simp only [size_drew_]; omega) | (simp only [World.size_alloc, size_drew_]; omega))))
    clear A_2
    have A2_3 := Lib.hid (A2_2.out.below (hb.mono (by first | omega | (simp only [World.size_alloc]; omega) | (simp only [size_drew_]; omega) | (simp only [World.size_alloc, size_drew_]; omega))))
    clear A2_2
    have R_3 := Lib.hid (R_2.out.below hb)
    clear R_2
    have F_3 := Lib.hid (F_2.out.below hb)
    clear F_2
    have BB_3 := Lib.hid (BB_2.out.trans (hb.mono (by first | omega | (simp only [World.size_alloc]; omega) | (simp only [size_drew_]; omega) | (simp only [World.size_alloc, size_drew_]; omega))))
    clear BB_2
    have s3 := hb.size
    simp only [World.size_alloc] at s3
    clear hb
    go_upto_region 5 with fail
    go_cut [10, 11, 12] from 28 (fun x1 x2 x3 wx => ∃ (b : Nat) (aR bR pR : Option Addr) (cR dR qR : Nat), x1 = .pointer (some ⟨b, 0, none⟩) ∧ x2 = .slice pR P.length qR ∧ x3 = .int .i64 C ∧ Blk wx b 29 #[.slice aR L.length cR, .slice bR R.length dR, .int .i64 M] ∧ w3.heap.size ≤ b ∧ Many w3.heap.size wx.heap.size [rQ aR cR L, rQ bR dR R, rG pR qR P] wx ∧ Below w3.heap.size w3 wx)
    case first =>
      have Y : Hid (∀ W, Below w3.heap.size w3 W → W.cell? ⟨w.heap.size, 0, none⟩ = some (.slice a l.length c) ∧ W.cell? ⟨w.heap.size, 1, none⟩ = some (.slice b r.length d) ∧ W.cell? ⟨w.heap.size, 2, none⟩ = some (.int .i64 mk) ∧ W.cell? ⟨w.heap.size + 1, 0, none⟩ = some (.int .i64 k) ∧ W.cell? ⟨w.heap.size + 1, 1, none⟩ = some (.int .i64 y) ∧ W.cell? ⟨w.heap.size + 1, 2, none⟩ = some (.int .i64 t) ∧ W.cell? ⟨w.heap.size + 1, 3, none⟩ = some (.int .i64 v)) := Lib.hid (fun W hW => ⟨(R_3.out.below hW).cell 0, (R_3.out.below hW).cell 1, (R_3.out.below hW).cell 2, (F_3.out.below hW).cell 0, (F_3.out.below hW).cell 1, (F_3.out.below hW).cell 2, (F_3.out.below hW).cell 3⟩)
      have KB := Lib.hid (Below.refl w3.heap.size w3).drew
      have TS : Hid (∀ W, Below w3.heap.size w3 W → Calls Try.prog 45 #[.agg #[.slice a l.length c, .slice b r.length d, .int .i64 mk]] W (FreshJn l r mk W)) := Lib.hid (fun W hW => toJoin_any a b _ _ c d mk l r _ _ (A_3.out.below (hW.mono (by first | omega | (simp only [World.size_alloc]; omega) | (simp only [size_drew_]; omega) | (simp only [World.size_alloc, size_drew_]; omega)))) (A2_3.out.below (hW.mono (by first | omega | (simp only [World.size_alloc]; omega) | (simp only [size_drew_]; omega) | (simp only [World.size_alloc, size_drew_]; omega)))) rfl rfl (by have := hW.size; first | omega | (simp only [World.size_alloc] at this ⊢; omega)) hle hle2)
      go_region_held3 (fun W => W.cell? ⟨w.heap.size, 0, none⟩ = some (.slice a l.length c) ∧ W.cell? ⟨w.heap.size, 1, none⟩ = some (.slice b r.length d) ∧ W.cell? ⟨w.heap.size, 2, none⟩ = some (.int .i64 mk) ∧ W.cell? ⟨w.heap.size + 1, 0, none⟩ = some (.int .i64 k) ∧ W.cell? ⟨w.heap.size + 1, 1, none⟩ = some (.int .i64 y) ∧ W.cell? ⟨w.heap.size + 1, 2, none⟩ = some (.int .i64 t) ∧ W.cell? ⟨w.heap.size + 1, 3, none⟩ = some (.int .i64 v))
        (first | with_reducible exact Y.out _ KB.out | with_reducible exact Y.out _ (KB.out.alloc KB.out.size _) | with_reducible exact Y.out _ ((Below.refl w3.heap.size w3).alloc (Nat.le_refl _) _).drew | with_reducible exact Y.out _ (below_set3 KB.out hC.out _ _ _))
        (first
          | (go_at_call 45; (first | (with_reducible refine (TS.out _ KB.out).mono ?_) | (with_reducible refine (TS.out _ (KB.out.alloc KB.out.size _)).mono ?_) | (with_reducible refine (TS.out _ ((Below.refl w3.heap.size w3).alloc (Nat.le_refl _) _).drew).mono ?_)); rintro e w1 ⟨aX, cX, bX, dX, rfl, ho, hb⟩; have KX0 := Many.at ho (Nat.le_refl _); (first | have KX := Lib.hid (KX0.lower KB.out.size) | have KX := Lib.hid (KX0.lower (KB.out.alloc KB.out.size _).size) | have KX := Lib.hid (KX0.lower ((Below.refl w3.heap.size w3).alloc (Nat.le_refl _) _).drew.size)); clear ho KX0; (first | (have KC0 := KC.out.below hb; have KB := Lib.hid (KB.out.trans (hb.mono KB.out.size)); clear hb; have KC := Lib.hid KC0; clear KC0; (try clear qC fC); have qC := KC.out.cell; have fC := KC.out.frozen) | (have KC0 := (Blk.new _ 29 #[.slice none 0 0, .slice none 0 0, .int .i64 0]).below hb; have hC0 : w3.heap.size ≤ _ := KB.out.size; have KB := Lib.hid ((KB.out.alloc KB.out.size _).trans (hb.mono (KB.out.alloc KB.out.size _).size)); clear hb; (try simp only [size_drew_] at KC0 hC0); have KC := Lib.hid KC0; have hC := Lib.hid hC0; clear KC0 hC0; have qC := KC.out.cell; have fC := KC.out.frozen) | (have KC0 := (Blk.new w3 29 #[.slice none 0 0, .slice none 0 0, .int .i64 0]).drew.below hb; have hC0 : w3.heap.size ≤ w3.heap.size := Nat.le_refl _; have KB := Lib.hid (((Below.refl w3.heap.size w3).alloc (Nat.le_refl _) _).drew.trans (hb.mono ((Below.refl w3.heap.size w3).alloc (Nat.le_refl _) _).drew.size)); clear hb; have KC := Lib.hid KC0; have hC := Lib.hid hC0; clear KC0 hC0; have qC := KC.out.cell; have fC := KC.out.frozen) | (have KB := Lib.hid (KB.out.trans (hb.mono KB.out.size)); clear hb)))
          | (go_at_call 53; refine (toFrame_x k y t v _).mono ?_; rintro e w1 ⟨rfl, hb⟩; (first | (have KC0 := KC.out.below hb; (first | have KX := Lib.hid (KX.out.below hb) | skip); have KB := Lib.hid (KB.out.trans (hb.mono KB.out.size)); clear hb; have KC := Lib.hid KC0; clear KC0; (try clear qC fC); have qC := KC.out.cell; have fC := KC.out.frozen) | (have KC0 := (Blk.new _ 29 #[.slice none 0 0, .slice none 0 0, .int .i64 0]).below hb; (first | have KX := Lib.hid ((KX.out.alloc _).below hb) | skip); have hC0 : w3.heap.size ≤ _ := KB.out.size; have KB := Lib.hid ((KB.out.alloc KB.out.size _).trans (hb.mono (KB.out.alloc KB.out.size _).size)); clear hb; (try simp only [size_drew_] at KC0 hC0); have KC := Lib.hid KC0; have hC := Lib.hid hC0; clear KC0 hC0; have qC := KC.out.cell; have fC := KC.out.frozen) | (have KC0 := (Blk.new w3 29 #[.slice none 0 0, .slice none 0 0, .int .i64 0]).drew.below hb; have hC0 : w3.heap.size ≤ w3.heap.size := Nat.le_refl _; have KB := Lib.hid (((Below.refl w3.heap.size w3).alloc (Nat.le_refl _) _).drew.trans (hb.mono ((Below.refl w3.heap.size w3).alloc (Nat.le_refl _) _).drew.size)); clear hb; have KC := Lib.hid KC0; have hC := Lib.hid hC0; clear KC0 hC0; have qC := KC.out.cell; have fC := KC.out.frozen) | ((first | have KX := Lib.hid (KX.out.below hb) | skip); have KB := Lib.hid (KB.out.trans (hb.mono KB.out.size)); clear hb)))
          | (go_at_call 52; (first | (with_reducible refine (SP.out _ _ _ _ _ KX.out.q0 KX.out.q1).mono ?_) | (with_reducible refine (SP.out _ _ _ _ _ (KX.out.alloc _).q0 (KX.out.alloc _).q1).mono ?_)); rintro e w1 ⟨aR, cR, bR, dR, pR, qR, rfl, ho, hb⟩; have KR0 := Many.at ho (Nat.le_refl _); (first | have KR := Lib.hid (KR0.lower KB.out.size) | have KR := Lib.hid (KR0.lower (KB.out.alloc KB.out.size _).size)); clear ho KR0; (first | (have KC0 := KC.out.below hb; have KB := Lib.hid (KB.out.trans (hb.mono KB.out.size)); clear hb; have KC := Lib.hid KC0; clear KC0; (try clear qC fC); have qC := KC.out.cell; have fC := KC.out.frozen) | (have KC0 := (Blk.new _ 29 #[.slice none 0 0, .slice none 0 0, .int .i64 0]).below hb; have hC0 : w3.heap.size ≤ _ := KB.out.size; have KB := Lib.hid ((KB.out.alloc KB.out.size _).trans (hb.mono (KB.out.alloc KB.out.size _).size)); clear hb; (try simp only [size_drew_] at KC0 hC0); have KC := Lib.hid KC0; have hC := Lib.hid hC0; clear KC0 hC0; have qC := KC.out.cell; have fC := KC.out.frozen) | (have KC0 := (Blk.new w3 29 #[.slice none 0 0, .slice none 0 0, .int .i64 0]).drew.below hb; have hC0 : w3.heap.size ≤ w3.heap.size := Nat.le_refl _; have KB := Lib.hid (((Below.refl w3.heap.size w3).alloc (Nat.le_refl _) _).drew.trans (hb.mono ((Below.refl w3.heap.size w3).alloc (Nat.le_refl _) _).drew.size)); clear hb; have KC := Lib.hid KC0; have hC := Lib.hid hC0; clear KC0 hC0; have qC := KC.out.cell; have fC := KC.out.frozen) | (have KB := Lib.hid (KB.out.trans (hb.mono KB.out.size)); clear hb))))
      all_goals
        go_wp2
        go_meet
        case rel => first
          | with_reducible exact ⟨_, aR, bR, pR, cR, dR, qR, rfl, rfl, rfl, Blk.new _ _ _, KB.out.size, (KR.out.alloc _).many, KB.out.alloc KB.out.size _⟩
          | with_reducible exact ⟨_, aR, bR, pR, cR, dR, qR, rfl, rfl, rfl, three_ KC.out _ _ _, hC.out, (many_set3 KR.out KC.out (fun r hr => by simp at hr; rcases hr with rfl | rfl | rfl; exact (show 29 ≠ 38 by decide); exact (show 29 ≠ 38 by decide); exact (show 29 ≠ 53 by decide)) _ _ _).many, below_set3 KB.out hC.out _ _ _⟩
    case rest =>
      rename World => w4
      obtain ⟨bP, aP, eP, pP, cP, dP, qP, rfl, rfl, rfl, hbk, u4, hrow, hb⟩ := hcut
      have A_4 := Lib.hid (A_3.out.below (hb.mono (by first | omega | (simp only [World.size_alloc]; omega) | (simp only [size_drew_]; omega) | (simp only [World.size_alloc, size_drew_]; omega))))
      clear A_3
      have A2_4 := Lib.hid (A2_3.out.below (hb.mono (by first | omega | (simp only [World.size_alloc]; omega) | (simp only [size_drew_]; omega) | (simp only [World.size_alloc, size_drew_]; omega))))
      clear A2_3
      have R_4 := Lib.hid (R_3.out.below hb)
      clear R_3
      have F_4 := Lib.hid (F_3.out.below hb)
      clear F_3
      have BB_4 := Lib.hid (BB_3.out.trans (hb.mono (by first | omega | (simp only [World.size_alloc]; omega) | (simp only [size_drew_]; omega) | (simp only [World.size_alloc, size_drew_]; omega))))
      clear BB_3
      have OP_4 := Lib.hid hbk
      have RP_4 := Lib.hid hrow
      have s4 := hb.size
      have t4 := hbk.lt
      clear hb hbk hrow
      have qR_4 := R_4.out.cell
      go_wp2_with fail
      refine (toJoin_any a b _ _ c d mk l r _ _ A_4.out A2_4.out rfl rfl (by first | omega | (simp only [World.size_alloc]; omega) | (simp only [size_drew_]; omega) | (simp only [World.size_alloc, size_drew_]; omega)) hle hle2).mono ?_
      rintro e w5 ⟨a5, c5, a5b, c5b, rfl, ho, hb⟩
      clear qR_4
      have A_5 := Lib.hid (A_4.out.below (hb.mono (by first | omega | (simp only [World.size_alloc]; omega) | (simp only [size_drew_]; omega) | (simp only [World.size_alloc, size_drew_]; omega))))
      clear A_4
      have A2_5 := Lib.hid (A2_4.out.below (hb.mono (by first | omega | (simp only [World.size_alloc]; omega) | (simp only [size_drew_]; omega) | (simp only [World.size_alloc, size_drew_]; omega))))
      clear A2_4
      have R_5 := Lib.hid (R_4.out.below hb)
      clear R_4
      have F_5 := Lib.hid (F_4.out.below hb)
      clear F_4
      have OP_5 := Lib.hid (OP_4.out.below hb)
      clear OP_4
      have RP_5 := Lib.hid (RP_4.out.below hb (by first | omega | (simp only [World.size_alloc]; omega) | (simp only [size_drew_]; omega) | (simp only [World.size_alloc, size_drew_]; omega)))
      clear RP_4
      have BB_5 := Lib.hid (BB_4.out.trans (hb.mono (by first | omega | (simp only [World.size_alloc]; omega) | (simp only [size_drew_]; omega) | (simp only [World.size_alloc, size_drew_]; omega))))
      clear BB_4
      have X_5 := Lib.hid ho
      clear ho
      have s5 := hb.size
      clear hb
      have A_6 := Lib.hid (A_5.out.below (((Below.refl w5.heap.size w5).alloc (Nat.le_refl _) (.cells #[.slice a5 (l).length c5, .slice a5b (r).length c5b, .int .i64 mk] 29)).mono (by first | omega | (simp only [World.size_alloc]; omega) | (simp only [size_drew_]; omega) | (simp only [World.size_alloc, size_drew_]; omega))))
      clear A_5
      have A2_6 := Lib.hid (A2_5.out.below (((Below.refl w5.heap.size w5).alloc (Nat.le_refl _) (.cells #[.slice a5 (l).length c5, .slice a5b (r).length c5b, .int .i64 mk] 29)).mono (by first | omega | (simp only [World.size_alloc]; omega) | (simp only [size_drew_]; omega) | (simp only [World.size_alloc, size_drew_]; omega))))
      clear A2_5
      have R_6 := Lib.hid (R_5.out.alloc (.cells #[.slice a5 (l).length c5, .slice a5b (r).length c5b, .int .i64 mk] 29))
      clear R_5
      have F_6 := Lib.hid (F_5.out.alloc (.cells #[.slice a5 (l).length c5, .slice a5b (r).length c5b, .int .i64 mk] 29))
      clear F_5
      have OP_6 := Lib.hid (OP_5.out.alloc (.cells #[.slice a5 (l).length c5, .slice a5b (r).length c5b, .int .i64 mk] 29))
      clear OP_5
      have RP_6 := Lib.hid (RP_5.out.below ((Below.refl w5.heap.size w5).alloc (Nat.le_refl _) (.cells #[.slice a5 (l).length c5, .slice a5b (r).length c5b, .int .i64 mk] 29)) (by first | omega | (simp only [World.size_alloc]; omega) | (simp only [size_drew_]; omega) | (simp only [World.size_alloc, size_drew_]; omega)))
      clear RP_5
      have X_6 := Lib.hid (X_5.out.below ((Below.refl w5.heap.size w5).alloc (Nat.le_refl _) (.cells #[.slice a5 (l).length c5, .slice a5b (r).length c5b, .int .i64 mk] 29)) (by first | omega | (simp only [World.size_alloc]; omega) | (simp only [size_drew_]; omega) | (simp only [World.size_alloc, size_drew_]; omega)))
      clear X_5
      have BB_6 := Lib.hid (BB_5.out.alloc (by first | omega | (simp only [World.size_alloc]; omega) | (simp only [size_drew_]; omega) | (simp only [World.size_alloc, size_drew_]; omega)) (.cells #[.slice a5 (l).length c5, .slice a5b (r).length c5b, .int .i64 mk] 29))
      clear BB_5
      have OX_6 := Lib.hid (Blk.new w5 29 #[.slice a5 (l).length c5, .slice a5b (r).length c5b, .int .i64 mk])
      go_upto_region 7 with fail
      have z6 : w5.heap.size + 1 ≤ (w5.alloc (.cells #[.slice a5 (l).length c5, .slice a5b (r).length c5b, .int .i64 mk] 29)).heap.size := Nat.le_of_eq (by simp only [World.size_alloc])
      generalize (w5.alloc (.cells #[.slice a5 (l).length c5, .slice a5b (r).length c5b, .int .i64 mk] 29)) = v6 at A_6 A2_6 R_6 F_6 OP_6 RP_6 X_6 OX_6 BB_6 z6 ⊢
      go_cut [14, 15, 16] from 41 (fun x1 x2 x3 wx => ∃ (b : Nat) (aR bR pR : Option Addr) (cR dR qR : Nat), x1 = .pointer (some ⟨b, 0, none⟩) ∧ x2 = .slice pR P.length qR ∧ x3 = .int .i64 C ∧ Blk wx b 29 #[.slice aR L.length cR, .slice bR R.length dR, .int .i64 M] ∧ v6.heap.size ≤ b ∧ Many v6.heap.size wx.heap.size [rQ aR cR L, rQ bR dR R, rG pR qR P] wx ∧ Below v6.heap.size v6 wx)
      case first =>
        have Y : Hid (∀ W, Below v6.heap.size v6 W → W.cell? ⟨w5.heap.size, 0, none⟩ = some (.slice a5 (l).length c5) ∧ W.cell? ⟨w5.heap.size, 1, none⟩ = some (.slice a5b (r).length c5b) ∧ W.cell? ⟨w5.heap.size, 2, none⟩ = some (.int .i64 mk) ∧ W.cell? ⟨w.heap.size + 1, 0, none⟩ = some (.int .i64 k) ∧ W.cell? ⟨w.heap.size + 1, 1, none⟩ = some (.int .i64 y) ∧ W.cell? ⟨w.heap.size + 1, 2, none⟩ = some (.int .i64 t) ∧ W.cell? ⟨w.heap.size + 1, 3, none⟩ = some (.int .i64 v)) := Lib.hid (fun W hW => ⟨(OX_6.out.below hW).cell 0, (OX_6.out.below hW).cell 1, (OX_6.out.below hW).cell 2, (F_6.out.below hW).cell 0, (F_6.out.below hW).cell 1, (F_6.out.below hW).cell 2, (F_6.out.below hW).cell 3⟩)
        have KB := Lib.hid (Below.refl v6.heap.size v6).drew
        have XR : Hid (∀ W, Below v6.heap.size v6 W → Fms W W.heap.size a5 c5 l ∧ Fms W W.heap.size a5b c5b r) := Lib.hid (fun W hW => ⟨(X_6.out.below hW (by first | omega | (simp only [World.size_alloc]; omega) | (simp only [size_drew_]; omega) | (simp only [World.size_alloc, size_drew_]; omega))).r0.qs, (X_6.out.below hW (by first | omega | (simp only [World.size_alloc]; omega) | (simp only [size_drew_]; omega) | (simp only [World.size_alloc, size_drew_]; omega))).r1.qs⟩)
        go_region_held3 (fun W => W.cell? ⟨w5.heap.size, 0, none⟩ = some (.slice a5 (l).length c5) ∧ W.cell? ⟨w5.heap.size, 1, none⟩ = some (.slice a5b (r).length c5b) ∧ W.cell? ⟨w5.heap.size, 2, none⟩ = some (.int .i64 mk) ∧ W.cell? ⟨w.heap.size + 1, 0, none⟩ = some (.int .i64 k) ∧ W.cell? ⟨w.heap.size + 1, 1, none⟩ = some (.int .i64 y) ∧ W.cell? ⟨w.heap.size + 1, 2, none⟩ = some (.int .i64 t) ∧ W.cell? ⟨w.heap.size + 1, 3, none⟩ = some (.int .i64 v))
          (first | with_reducible exact Y.out _ KB.out | with_reducible exact Y.out _ (KB.out.alloc KB.out.size _) | with_reducible exact Y.out _ ((Below.refl v6.heap.size v6).alloc (Nat.le_refl _) _).drew | with_reducible exact Y.out _ (below_set3 KB.out hC.out _ _ _))
          (first
            | (go_at_call 53; refine (toFrame_x k y t v _).mono ?_; rintro e w1 ⟨rfl, hb⟩; (first | (have KC0 := KC.out.below hb; (first | have KX := Lib.hid (KX.out.below hb) | skip); have KB := Lib.hid (KB.out.trans (hb.mono KB.out.size)); clear hb; have KC := Lib.hid KC0; clear KC0; (try clear qC fC); have qC := KC.out.cell; have fC := KC.out.frozen) | (have KC0 := (Blk.new _ 29 #[.slice none 0 0, .slice none 0 0, .int .i64 0]).below hb; (first | have KX := Lib.hid ((KX.out.alloc _).below hb) | skip); have hC0 : v6.heap.size ≤ _ := KB.out.size; have KB := Lib.hid ((KB.out.alloc KB.out.size _).trans (hb.mono (KB.out.alloc KB.out.size _).size)); clear hb; (try simp only [size_drew_] at KC0 hC0); have KC := Lib.hid KC0; have hC := Lib.hid hC0; clear KC0 hC0; have qC := KC.out.cell; have fC := KC.out.frozen) | (have KC0 := (Blk.new v6 29 #[.slice none 0 0, .slice none 0 0, .int .i64 0]).drew.below hb; have hC0 : v6.heap.size ≤ v6.heap.size := Nat.le_refl _; have KB := Lib.hid (((Below.refl v6.heap.size v6).alloc (Nat.le_refl _) _).drew.trans (hb.mono ((Below.refl v6.heap.size v6).alloc (Nat.le_refl _) _).drew.size)); clear hb; have KC := Lib.hid KC0; have hC := Lib.hid hC0; clear KC0 hC0; have qC := KC.out.cell; have fC := KC.out.frozen) | ((first | have KX := Lib.hid (KX.out.below hb) | skip); have KB := Lib.hid (KB.out.trans (hb.mono KB.out.size)); clear hb)))
            | (go_at_call 54; (first | (with_reducible refine (IP.out _ _ _ _ _ (XR.out _ KB.out).1 (XR.out _ KB.out).2).mono ?_) | (with_reducible refine (IP.out _ _ _ _ _ (XR.out _ (KB.out.alloc KB.out.size _)).1 (XR.out _ (KB.out.alloc KB.out.size _)).2).mono ?_) | (with_reducible refine (IP.out _ _ _ _ _ (XR.out _ ((Below.refl v6.heap.size v6).alloc (Nat.le_refl _) _).drew).1 (XR.out _ ((Below.refl v6.heap.size v6).alloc (Nat.le_refl _) _).drew).2).mono ?_)); rintro e w1 ⟨aR, cR, bR, dR, pR, qR, rfl, ho, hb⟩; have KR0 := Many.at ho (Nat.le_refl _); (first | have KR := Lib.hid (KR0.lower KB.out.size) | have KR := Lib.hid (KR0.lower (KB.out.alloc KB.out.size _).size)); clear ho KR0; (first | (have KC0 := KC.out.below hb; have KB := Lib.hid (KB.out.trans (hb.mono KB.out.size)); clear hb; have KC := Lib.hid KC0; clear KC0; (try clear qC fC); have qC := KC.out.cell; have fC := KC.out.frozen) | (have KC0 := (Blk.new _ 29 #[.slice none 0 0, .slice none 0 0, .int .i64 0]).below hb; have hC0 : v6.heap.size ≤ _ := KB.out.size; have KB := Lib.hid ((KB.out.alloc KB.out.size _).trans (hb.mono (KB.out.alloc KB.out.size _).size)); clear hb; (try simp only [size_drew_] at KC0 hC0); have KC := Lib.hid KC0; have hC := Lib.hid hC0; clear KC0 hC0; have qC := KC.out.cell; have fC := KC.out.frozen) | (have KC0 := (Blk.new v6 29 #[.slice none 0 0, .slice none 0 0, .int .i64 0]).drew.below hb; have hC0 : v6.heap.size ≤ v6.heap.size := Nat.le_refl _; have KB := Lib.hid (((Below.refl v6.heap.size v6).alloc (Nat.le_refl _) _).drew.trans (hb.mono ((Below.refl v6.heap.size v6).alloc (Nat.le_refl _) _).drew.size)); clear hb; have KC := Lib.hid KC0; have hC := Lib.hid hC0; clear KC0 hC0; have qC := KC.out.cell; have fC := KC.out.frozen) | (have KB := Lib.hid (KB.out.trans (hb.mono KB.out.size)); clear hb))))
        all_goals
          go_wp2
          go_meet
          case rel => first
            | with_reducible exact ⟨_, aR, bR, pR, cR, dR, qR, rfl, rfl, rfl, Blk.new _ _ _, KB.out.size, (KR.out.alloc _).many, KB.out.alloc KB.out.size _⟩
            | with_reducible exact ⟨_, aR, bR, pR, cR, dR, qR, rfl, rfl, rfl, three_ KC.out _ _ _, hC.out, (many_set3 KR.out KC.out (fun r hr => by simp at hr; rcases hr with rfl | rfl | rfl; exact (show 29 ≠ 38 by decide); exact (show 29 ≠ 38 by decide); exact (show 29 ≠ 53 by decide)) _ _ _).many, below_set3 KB.out hC.out _ _ _⟩
      case rest =>
        rename World => w7
        obtain ⟨bQ, aQ, eQ, pQ, cQ, dQ, qQ, rfl, rfl, rfl, hbk, u7, hrow, hb⟩ := hcut
        have A_7 := Lib.hid (A_6.out.below (hb.mono (by first | omega | (simp only [World.size_alloc]; omega) | (simp only [size_drew_]; omega) | (simp only [World.size_alloc, size_drew_]; omega))))
        clear A_6
        have A2_7 := Lib.hid (A2_6.out.below (hb.mono (by first | omega | (simp only [World.size_alloc]; omega) | (simp only [size_drew_]; omega) | (simp only [World.size_alloc, size_drew_]; omega))))
        clear A2_6
        have R_7 := Lib.hid (R_6.out.below hb)
        clear R_6
        have F_7 := Lib.hid (F_6.out.below hb)
        clear F_6
        have OP_7 := Lib.hid (OP_6.out.below hb)
        clear OP_6
        have RP_7 := Lib.hid (RP_6.out.below hb (by first | omega | (simp only [World.size_alloc]; omega) | (simp only [size_drew_]; omega) | (simp only [World.size_alloc, size_drew_]; omega)))
        clear RP_6
        have X_7 := Lib.hid (X_6.out.below hb (by first | omega | (simp only [World.size_alloc]; omega) | (simp only [size_drew_]; omega) | (simp only [World.size_alloc, size_drew_]; omega)))
        clear X_6
        have OX_7 := Lib.hid (OX_6.out.below hb)
        clear OX_6
        have BB_7 := Lib.hid (BB_6.out.trans (hb.mono (by first | omega | (simp only [World.size_alloc]; omega) | (simp only [size_drew_]; omega) | (simp only [World.size_alloc, size_drew_]; omega))))
        clear BB_6
        have OQ_7 := Lib.hid hbk
        have RQ_7 := Lib.hid hrow
        have s7 := hb.size
        have t7 := hbk.lt
        clear hb hbk hrow
        have qOQ_7 := OQ_7.out.cell
        have qOP_7 := OP_7.out.cell
        go_wp2_with fail
        refine (eqJoin_any _ _ _ _ _ _ _ _ _ _ _ _ M L R _ _ _ RQ_7.out.r0.qs RQ_7.out.r1.qs RP_7.out.r0.qs RP_7.out.r1.qs rfl rfl rfl rfl (Nat.le_refl _) (Nat.le_refl _)).mono ?_
        rintro e w8 ⟨rfl, hb⟩
        clear qOQ_7 qOP_7
        have A_8 := Lib.hid (A_7.out.below (hb.mono (by first | omega | (simp only [World.size_alloc]; omega) | (simp only [size_drew_]; omega) | (simp only [World.size_alloc, size_drew_]; omega))))
        clear A_7
        have A2_8 := Lib.hid (A2_7.out.below (hb.mono (by first | omega | (simp only [World.size_alloc]; omega) | (simp only [size_drew_]; omega) | (simp only [World.size_alloc, size_drew_]; omega))))
        clear A2_7
        have R_8 := Lib.hid (R_7.out.below hb)
        clear R_7
        have F_8 := Lib.hid (F_7.out.below hb)
        clear F_7
        have OP_8 := Lib.hid (OP_7.out.below hb)
        clear OP_7
        have RP_8 := Lib.hid (RP_7.out.below hb (by first | omega | (simp only [World.size_alloc]; omega) | (simp only [size_drew_]; omega) | (simp only [World.size_alloc, size_drew_]; omega)))
        clear RP_7
        have X_8 := Lib.hid (X_7.out.below hb (by first | omega | (simp only [World.size_alloc]; omega) | (simp only [size_drew_]; omega) | (simp only [World.size_alloc, size_drew_]; omega)))
        clear X_7
        have OX_8 := Lib.hid (OX_7.out.below hb)
        clear OX_7
        have OQ_8 := Lib.hid (OQ_7.out.below hb)
        clear OQ_7
        have RQ_8 := Lib.hid (RQ_7.out.below hb (by first | omega | (simp only [World.size_alloc]; omega) | (simp only [size_drew_]; omega) | (simp only [World.size_alloc, size_drew_]; omega)))
        clear RQ_7
        have BB_8 := Lib.hid (BB_7.out.trans (hb.mono (by first | omega | (simp only [World.size_alloc]; omega) | (simp only [size_drew_]; omega) | (simp only [World.size_alloc, size_drew_]; omega))))
        clear BB_7
        have s8 := hb.size
        clear hb
        go_wp2_with fail
        refine (eqPairS_any _ _ _ _ _ _ P _ _ _ RQ_8.out.r2.gs RP_8.out.r2.gs rfl rfl (Nat.le_refl _) (Nat.le_refl _)).mono ?_
        rintro e w9 ⟨rfl, hb⟩
        have A_9 := Lib.hid (A_8.out.below (hb.mono (by first | omega | (simp only [World.size_alloc]; omega) | (simp only [size_drew_]; omega) | (simp only [World.size_alloc, size_drew_]; omega))))
        clear A_8
        have A2_9 := Lib.hid (A2_8.out.below (hb.mono (by first | omega | (simp only [World.size_alloc]; omega) | (simp only [size_drew_]; omega) | (simp only [World.size_alloc, size_drew_]; omega))))
        clear A2_8
        have R_9 := Lib.hid (R_8.out.below hb)
        clear R_8
        have F_9 := Lib.hid (F_8.out.below hb)
        clear F_8
        have OP_9 := Lib.hid (OP_8.out.below hb)
        clear OP_8
        have RP_9 := Lib.hid (RP_8.out.below hb (by first | omega | (simp only [World.size_alloc]; omega) | (simp only [size_drew_]; omega) | (simp only [World.size_alloc, size_drew_]; omega)))
        clear RP_8
        have X_9 := Lib.hid (X_8.out.below hb (by first | omega | (simp only [World.size_alloc]; omega) | (simp only [size_drew_]; omega) | (simp only [World.size_alloc, size_drew_]; omega)))
        clear X_8
        have OX_9 := Lib.hid (OX_8.out.below hb)
        clear OX_8
        have OQ_9 := Lib.hid (OQ_8.out.below hb)
        clear OQ_8
        have RQ_9 := Lib.hid (RQ_8.out.below hb (by first | omega | (simp only [World.size_alloc]; omega) | (simp only [size_drew_]; omega) | (simp only [World.size_alloc, size_drew_]; omega)))
        clear RQ_8
        have BB_9 := Lib.hid (BB_8.out.trans (hb.mono (by first | omega | (simp only [World.size_alloc]; omega) | (simp only [size_drew_]; omega) | (simp only [World.size_alloc, size_drew_]; omega))))
        clear BB_8
        have s9 := hb.size
        clear hb
        go_wp2_with fail
        have hOXs0 := OX_9.out.cell
        have hRs0 := R_9.out.cell
        have A_10 := Lib.hid (A_9.out.below (((Below.refl w9.heap.size w9).drew).mono (by first | omega | (simp only [World.size_alloc]; omega) | (simp only [size_drew_]; omega) | (simp only [World.size_alloc, size_drew_]; omega))))
        clear A_9
        have A2_10 := Lib.hid (A2_9.out.below (((Below.refl w9.heap.size w9).drew).mono (by first | omega | (simp only [World.size_alloc]; omega) | (simp only [size_drew_]; omega) | (simp only [World.size_alloc, size_drew_]; omega))))
        clear A2_9
        have R_10 := Lib.hid (R_9.out.drew)
        clear R_9
        have F_10 := Lib.hid (F_9.out.drew)
        clear F_9
        have OP_10 := Lib.hid (OP_9.out.drew)
        clear OP_9
        have RP_10 := Lib.hid (RP_9.out.below ((Below.refl w9.heap.size w9).drew) (by first | omega | (simp only [World.size_alloc]; omega) | (simp only [size_drew_]; omega) | (simp only [World.size_alloc, size_drew_]; omega)))
        clear RP_9
        have X_10 := Lib.hid (X_9.out.below ((Below.refl w9.heap.size w9).drew) (by first | omega | (simp only [World.size_alloc]; omega) | (simp only [size_drew_]; omega) | (simp only [World.size_alloc, size_drew_]; omega)))
        clear X_9
        have OX_10 := Lib.hid (OX_9.out.drew)
        clear OX_9
        have OQ_10 := Lib.hid (OQ_9.out.drew)
        clear OQ_9
        have RQ_10 := Lib.hid (RQ_9.out.below ((Below.refl w9.heap.size w9).drew) (by first | omega | (simp only [World.size_alloc]; omega) | (simp only [size_drew_]; omega) | (simp only [World.size_alloc, size_drew_]; omega)))
        clear RQ_9
        have BB_10 := Lib.hid (BB_9.out.drew)
        clear BB_9
        go_region_held3 (fun W => W.cell? ⟨w5.heap.size, 0, none⟩ = some (.slice a5 (l).length c5) ∧ W.cell? ⟨w5.heap.size, 1, none⟩ = some (.slice a5b (r).length c5b) ∧ W.cell? ⟨w5.heap.size, 2, none⟩ = some (.int .i64 mk) ∧ W.cell? ⟨w.heap.size, 0, none⟩ = some (.slice a l.length c) ∧ W.cell? ⟨w.heap.size, 1, none⟩ = some (.slice b r.length d) ∧ W.cell? ⟨w.heap.size, 2, none⟩ = some (.int .i64 mk))
          (first | exact ⟨hOXs0 0, hOXs0 1, hOXs0 2, hRs0 0, hRs0 1, hRs0 2⟩ | exact ⟨hOXs1 0, hOXs1 1, hOXs1 2, hRs1 0, hRs1 1, hRs1 2⟩ | exact ⟨hOXs2 0, hOXs2 1, hOXs2 2, hRs2 0, hRs2 1, hRs2 2⟩)
          (first
            | (go_at_call 45; refine (toJoin_any a b _ _ c d mk l r _ _ A_10.out A2_10.out rfl rfl (by first | omega | (simp only [World.size_alloc]; omega) | (simp only [size_drew_]; omega) | (simp only [World.size_alloc, size_drew_]; omega)) hle hle2).mono ?_; rintro e w11 ⟨a11, c11, a11b, c11b, rfl, ho, hb⟩; have A_11 := Lib.hid (A_10.out.below (hb.mono (by first | omega | (simp only [World.size_alloc]; omega) | (simp only [size_drew_]; omega) | (simp only [World.size_alloc, size_drew_]; omega)))); clear A_10; have A2_11 := Lib.hid (A2_10.out.below (hb.mono (by first | omega | (simp only [World.size_alloc]; omega) | (simp only [size_drew_]; omega) | (simp only [World.size_alloc, size_drew_]; omega)))); clear A2_10; have R_11 := Lib.hid (R_10.out.below hb); clear R_10; have F_11 := Lib.hid (F_10.out.below hb); clear F_10; have OP_11 := Lib.hid (OP_10.out.below hb); clear OP_10; have RP_11 := Lib.hid (RP_10.out.below hb (by first | omega | (simp only [World.size_alloc]; omega) | (simp only [size_drew_]; omega) | (simp only [World.size_alloc, size_drew_]; omega))); clear RP_10; have X_11 := Lib.hid (X_10.out.below hb (by first | omega | (simp only [World.size_alloc]; omega) | (simp only [size_drew_]; omega) | (simp only [World.size_alloc, size_drew_]; omega))); clear X_10; have OX_11 := Lib.hid (OX_10.out.below hb); clear OX_10; have OQ_11 := Lib.hid (OQ_10.out.below hb); clear OQ_10; have RQ_11 := Lib.hid (RQ_10.out.below hb (by first | omega | (simp only [World.size_alloc]; omega) | (simp only [size_drew_]; omega) | (simp only [World.size_alloc, size_drew_]; omega))); clear RQ_10; have BB_11 := Lib.hid (BB_10.out.trans (hb.mono (by first | omega | (simp only [World.size_alloc]; omega) | (simp only [size_drew_]; omega) | (simp only [World.size_alloc, size_drew_]; omega)))); clear BB_10; have Z_11 := Lib.hid ho; clear ho; have s11 := hb.size; simp only [size_drew_] at s11; clear hb; clear hOXs0 hRs0; have hOXs1 := OX_11.out.cell; have hRs1 := R_11.out.cell)
            | (go_at_call 47; refine (eqJoin_any _ _ _ _ _ _ _ _ _ _ _ _ mk l r _ _ _ X_11.out.r0.qs X_11.out.r1.qs Z_11.out.r0.qs Z_11.out.r1.qs rfl rfl rfl rfl (Nat.le_refl _) (Nat.le_refl _)).mono ?_; rintro e w12 ⟨rfl, hb⟩; have A_12 := Lib.hid (A_11.out.below (hb.mono (by first | omega | (simp only [World.size_alloc]; omega) | (simp only [size_drew_]; omega) | (simp only [World.size_alloc, size_drew_]; omega)))); clear A_11; have A2_12 := Lib.hid (A2_11.out.below (hb.mono (by first | omega | (simp only [World.size_alloc]; omega) | (simp only [size_drew_]; omega) | (simp only [World.size_alloc, size_drew_]; omega)))); clear A2_11; have R_12 := Lib.hid (R_11.out.below hb); clear R_11; have F_12 := Lib.hid (F_11.out.below hb); clear F_11; have OP_12 := Lib.hid (OP_11.out.below hb); clear OP_11; have RP_12 := Lib.hid (RP_11.out.below hb (by first | omega | (simp only [World.size_alloc]; omega) | (simp only [size_drew_]; omega) | (simp only [World.size_alloc, size_drew_]; omega))); clear RP_11; have X_12 := Lib.hid (X_11.out.below hb (by first | omega | (simp only [World.size_alloc]; omega) | (simp only [size_drew_]; omega) | (simp only [World.size_alloc, size_drew_]; omega))); clear X_11; have OX_12 := Lib.hid (OX_11.out.below hb); clear OX_11; have OQ_12 := Lib.hid (OQ_11.out.below hb); clear OQ_11; have RQ_12 := Lib.hid (RQ_11.out.below hb (by first | omega | (simp only [World.size_alloc]; omega) | (simp only [size_drew_]; omega) | (simp only [World.size_alloc, size_drew_]; omega))); clear RQ_11; have Z_12 := Lib.hid (Z_11.out.below hb (by first | omega | (simp only [World.size_alloc]; omega) | (simp only [size_drew_]; omega) | (simp only [World.size_alloc, size_drew_]; omega))); clear Z_11; have BB_12 := Lib.hid (BB_11.out.trans (hb.mono (by first | omega | (simp only [World.size_alloc]; omega) | (simp only [size_drew_]; omega) | (simp only [World.size_alloc, size_drew_]; omega)))); clear BB_11; have s12 := hb.size; clear hb; clear hOXs1 hRs1; have hOXs2 := OX_12.out.cell; have hRs2 := R_12.out.cell))
        clear hOXs2 hRs2
        clear Z_12
        have qOX_12 := OX_12.out.cell
        go_wp2_with fail
        refine (markJoin_k _ _ _ _ 1 mk _ l r _ _ _ _ X_12.out rfl (by first | omega | (simp only [World.size_alloc]; omega) | (simp only [size_drew_]; omega) | (simp only [World.size_alloc, size_drew_]; omega)) (by first | omega | (simp only [World.size_alloc]; omega) | (simp only [size_drew_]; omega) | (simp only [World.size_alloc, size_drew_]; omega)) (by omega) (by omega) (by omega)).mono ?_
        rintro e w13 ⟨rfl, hm, hkk⟩
        clear qOX_12
        have X_13 := Lib.hid hm.many
        have hb := hm.spn.below (by first | omega | (simp only [World.size_alloc]; omega) | (simp only [size_drew_]; omega) | (simp only [World.size_alloc, size_drew_]; omega))
        have A_13 := Lib.hid (A_12.out.below (hb.mono (by first | omega | (simp only [World.size_alloc]; omega) | (simp only [size_drew_]; omega) | (simp only [World.size_alloc, size_drew_]; omega))))
        clear A_12
        have A2_13 := Lib.hid (A2_12.out.below (hb.mono (by first | omega | (simp only [World.size_alloc]; omega) | (simp only [size_drew_]; omega) | (simp only [World.size_alloc, size_drew_]; omega))))
        clear A2_12
        have R_13 := Lib.hid (hkk _ _ _ (by decide) R_12.out)
        clear R_12
        have F_13 := Lib.hid (hkk _ _ _ (by decide) F_12.out)
        clear F_12
        have OP_13 := Lib.hid (hkk _ _ _ (by decide) OP_12.out)
        clear OP_12
        have RP_13 := Lib.hid (RP_12.out.spn hm.spn (by first | omega | (simp only [World.size_alloc]; omega) | (simp only [size_drew_]; omega) | (simp only [World.size_alloc, size_drew_]; omega)))
        clear RP_12
        have OX_13 := Lib.hid (hkk _ _ _ (by decide) OX_12.out)
        clear OX_12
        have OQ_13 := Lib.hid (hkk _ _ _ (by decide) OQ_12.out)
        clear OQ_12
        have RQ_13 := Lib.hid (RQ_12.out.spn hm.spn (by first | omega | (simp only [World.size_alloc]; omega) | (simp only [size_drew_]; omega) | (simp only [World.size_alloc, size_drew_]; omega)))
        clear RQ_12
        have BB_13 := Lib.hid (BB_12.out.trans (hb.mono (by first | omega | (simp only [World.size_alloc]; omega) | (simp only [size_drew_]; omega) | (simp only [World.size_alloc, size_drew_]; omega))))
        clear BB_12
        clear X_12
        have s13 := hb.size
        clear hb hm hkk
        have qOQ_13 := OQ_13.out.cell
        have qOP_13 := OP_13.out.cell
        go_wp2_with fail
        refine (eqJoin_any _ _ _ _ _ _ _ _ _ _ _ _ M L R _ _ _ RQ_13.out.r0.qs RQ_13.out.r1.qs RP_13.out.r0.qs RP_13.out.r1.qs rfl rfl rfl rfl (Nat.le_refl _) (Nat.le_refl _)).mono ?_
        rintro e w14 ⟨rfl, hb⟩
        clear qOQ_13 qOP_13
        have A_14 := Lib.hid (A_13.out.below (hb.mono (by first | omega | (simp only [World.size_alloc]; omega) | (simp only [size_drew_]; omega) | (simp only [World.size_alloc, size_drew_]; omega))))
        clear A_13
        have A2_14 := Lib.hid (A2_13.out.below (hb.mono (by first | omega | (simp only [World.size_alloc]; omega) | (simp only [size_drew_]; omega) | (simp only [World.size_alloc, size_drew_]; omega))))
        clear A2_13
        have R_14 := Lib.hid (R_13.out.below hb)
        clear R_13
        have F_14 := Lib.hid (F_13.out.below hb)
        clear F_13
        have OP_14 := Lib.hid (OP_13.out.below hb)
        clear OP_13
        have RP_14 := Lib.hid (RP_13.out.below hb (by first | omega | (simp only [World.size_alloc]; omega) | (simp only [size_drew_]; omega) | (simp only [World.size_alloc, size_drew_]; omega)))
        clear RP_13
        have X_14 := Lib.hid (X_13.out.below hb (by first | omega | (simp only [World.size_alloc]; omega) | (simp only [size_drew_]; omega) | (simp only [World.size_alloc, size_drew_]; omega)))
        clear X_13
        have OX_14 := Lib.hid (OX_13.out.below hb)
        clear OX_13
        have OQ_14 := Lib.hid (OQ_13.out.below hb)
        clear OQ_13
        have RQ_14 := Lib.hid (RQ_13.out.below hb (by first | omega | (simp only [World.size_alloc]; omega) | (simp only [size_drew_]; omega) | (simp only [World.size_alloc, size_drew_]; omega)))
        clear RQ_13
        have BB_14 := Lib.hid (BB_13.out.trans (hb.mono (by first | omega | (simp only [World.size_alloc]; omega) | (simp only [size_drew_]; omega) | (simp only [World.size_alloc, size_drew_]; omega))))
        clear BB_13
        have s14 := hb.size
        clear hb
        go_wp2_with fail
        refine (eqPairS_any _ _ _ _ _ _ P _ _ _ RQ_14.out.r2.gs RP_14.out.r2.gs rfl rfl (Nat.le_refl _) (Nat.le_refl _)).mono ?_
        rintro e w15 ⟨rfl, hb⟩
        have A_15 := Lib.hid (A_14.out.below (hb.mono (by first | omega | (simp only [World.size_alloc]; omega) | (simp only [size_drew_]; omega) | (simp only [World.size_alloc, size_drew_]; omega))))
        clear A_14
        have A2_15 := Lib.hid (A2_14.out.below (hb.mono (by first | omega | (simp only [World.size_alloc]; omega) | (simp only [size_drew_]; omega) | (simp only [World.size_alloc, size_drew_]; omega))))
        clear A2_14
        have R_15 := Lib.hid (R_14.out.below hb)
        clear R_14
        have F_15 := Lib.hid (F_14.out.below hb)
        clear F_14
        have OP_15 := Lib.hid (OP_14.out.below hb)
        clear OP_14
        have RP_15 := Lib.hid (RP_14.out.below hb (by first | omega | (simp only [World.size_alloc]; omega) | (simp only [size_drew_]; omega) | (simp only [World.size_alloc, size_drew_]; omega)))
        clear RP_14
        have X_15 := Lib.hid (X_14.out.below hb (by first | omega | (simp only [World.size_alloc]; omega) | (simp only [size_drew_]; omega) | (simp only [World.size_alloc, size_drew_]; omega)))
        clear X_14
        have OX_15 := Lib.hid (OX_14.out.below hb)
        clear OX_14
        have OQ_15 := Lib.hid (OQ_14.out.below hb)
        clear OQ_14
        have RQ_15 := Lib.hid (RQ_14.out.below hb (by first | omega | (simp only [World.size_alloc]; omega) | (simp only [size_drew_]; omega) | (simp only [World.size_alloc, size_drew_]; omega)))
        clear RQ_14
        have BB_15 := Lib.hid (BB_14.out.trans (hb.mono (by first | omega | (simp only [World.size_alloc]; omega) | (simp only [size_drew_]; omega) | (simp only [World.size_alloc, size_drew_]; omega))))
        clear BB_14
        have s15 := hb.size
        clear hb
        have qOQ_15 := OQ_15.out.cell
        go_wp2_with fail
        refine (markJoin_k _ _ _ _ 1 M _ L R _ _ _ _ RQ_15.out rfl (by first | omega | (simp only [World.size_alloc]; omega) | (simp only [size_drew_]; omega) | (simp only [World.size_alloc, size_drew_]; omega)) (by first | omega | (simp only [World.size_alloc]; omega) | (simp only [size_drew_]; omega) | (simp only [World.size_alloc, size_drew_]; omega)) (by omega) (by omega) (by omega)).mono ?_
        rintro e w16 ⟨rfl, hm, hkk⟩
        clear qOQ_15
        have RQ_16 := Lib.hid hm.many
        have hb := hm.spn.below (by first | omega | (simp only [World.size_alloc]; omega) | (simp only [size_drew_]; omega) | (simp only [World.size_alloc, size_drew_]; omega))
        have A_16 := Lib.hid (A_15.out.below (hb.mono (by first | omega | (simp only [World.size_alloc]; omega) | (simp only [size_drew_]; omega) | (simp only [World.size_alloc, size_drew_]; omega))))
        clear A_15
        have A2_16 := Lib.hid (A2_15.out.below (hb.mono (by first | omega | (simp only [World.size_alloc]; omega) | (simp only [size_drew_]; omega) | (simp only [World.size_alloc, size_drew_]; omega))))
        clear A2_15
        have R_16 := Lib.hid (hkk _ _ _ (by decide) R_15.out)
        clear R_15
        have F_16 := Lib.hid (hkk _ _ _ (by decide) F_15.out)
        clear F_15
        have OP_16 := Lib.hid (hkk _ _ _ (by decide) OP_15.out)
        clear OP_15
        have RP_16 := Lib.hid (RP_15.out.spn hm.spn (by first | omega | (simp only [World.size_alloc]; omega) | (simp only [size_drew_]; omega) | (simp only [World.size_alloc, size_drew_]; omega)))
        clear RP_15
        have X_16 := Lib.hid (X_15.out.spn hm.spn (by first | omega | (simp only [World.size_alloc]; omega) | (simp only [size_drew_]; omega) | (simp only [World.size_alloc, size_drew_]; omega)))
        clear X_15
        have OX_16 := Lib.hid (hkk _ _ _ (by decide) OX_15.out)
        clear OX_15
        have OQ_16 := Lib.hid (hkk _ _ _ (by decide) OQ_15.out)
        clear OQ_15
        have BB_16 := Lib.hid (BB_15.out.trans (hb.mono (by first | omega | (simp only [World.size_alloc]; omega) | (simp only [size_drew_]; omega) | (simp only [World.size_alloc, size_drew_]; omega))))
        clear BB_15
        clear RQ_15
        have s16 := hb.size
        clear hb hm hkk
        go_wp2_with fail
        refine (markPairS_m _ _ _ (1 + 4 * L.length + 4 * R.length) _ P _ _ RQ_16.out.r2.own (by omega) rfl (by first | omega | (simp only [World.size_alloc]; omega) | (simp only [size_drew_]; omega) | (simp only [World.size_alloc, size_drew_]; omega)) (by show P.length ≤ 1048576; omega) (by omega)).mono ?_
        rintro e w17 ⟨rfl, hm⟩
        have RQ_17 := Lib.hid (RQ_16.out.m2 hm)
        have hb := hm.below
        have A_17 := Lib.hid (A_16.out.below (hb.mono (by first | omega | (simp only [World.size_alloc]; omega) | (simp only [size_drew_]; omega) | (simp only [World.size_alloc, size_drew_]; omega))))
        clear A_16
        have A2_17 := Lib.hid (A2_16.out.below (hb.mono (by first | omega | (simp only [World.size_alloc]; omega) | (simp only [size_drew_]; omega) | (simp only [World.size_alloc, size_drew_]; omega))))
        clear A2_16
        have R_17 := Lib.hid (R_16.out.grown hm.grown (own_neR (E := 53) RQ_16.out.r2 R_16.out (by decide)))
        clear R_16
        have F_17 := Lib.hid (F_16.out.grown hm.grown (own_neR (E := 53) RQ_16.out.r2 F_16.out (by decide)))
        clear F_16
        have OP_17 := Lib.hid (OP_16.out.grown hm.grown (own_neR (E := 53) RQ_16.out.r2 OP_16.out (by decide)))
        clear OP_16
        have RP_17 := Lib.hid (RP_16.out.other RQ_16.out.r2 hm.grown (by first | omega | (simp only [World.size_alloc]; omega) | (simp only [size_drew_]; omega) | (simp only [World.size_alloc, size_drew_]; omega)))
        clear RP_16
        have X_17 := Lib.hid (X_16.out.other RQ_16.out.r2 hm.grown (by first | omega | (simp only [World.size_alloc]; omega) | (simp only [size_drew_]; omega) | (simp only [World.size_alloc, size_drew_]; omega)))
        clear X_16
        have OX_17 := Lib.hid (OX_16.out.grown hm.grown (own_neR (E := 53) RQ_16.out.r2 OX_16.out (by decide)))
        clear OX_16
        have OQ_17 := Lib.hid (OQ_16.out.grown hm.grown (own_neR (E := 53) RQ_16.out.r2 OQ_16.out (by decide)))
        clear OQ_16
        have BB_17 := Lib.hid (BB_16.out.trans (hb.mono (by first | omega | (simp only [World.size_alloc]; omega) | (simp only [size_drew_]; omega) | (simp only [World.size_alloc, size_drew_]; omega))))
        clear BB_16
        clear RQ_16
        have s17 := hb.size
        clear hb hm
        have qOQ_17 := OQ_17.out.cell
        go_wp2_with fail
        refine (heldJoin_m _ _ _ _ _ _ 1 M _ _ _ RQ_17.out.r0.qs RQ_17.out.r1.qs (Nat.le_refl _) rfl (by omega) (by omega) (by omega)).mono ?_
        rintro e w18 ⟨rfl, hb⟩
        clear qOQ_17
        have A_18 := Lib.hid (A_17.out.below (hb.mono (by first | omega | (simp only [World.size_alloc]; omega) | (simp only [size_drew_]; omega) | (simp only [World.size_alloc, size_drew_]; omega))))
        clear A_17
        have A2_18 := Lib.hid (A2_17.out.below (hb.mono (by first | omega | (simp only [World.size_alloc]; omega) | (simp only [size_drew_]; omega) | (simp only [World.size_alloc, size_drew_]; omega))))
        clear A2_17
        have R_18 := Lib.hid (R_17.out.below hb)
        clear R_17
        have F_18 := Lib.hid (F_17.out.below hb)
        clear F_17
        have OP_18 := Lib.hid (OP_17.out.below hb)
        clear OP_17
        have RP_18 := Lib.hid (RP_17.out.below hb (by first | omega | (simp only [World.size_alloc]; omega) | (simp only [size_drew_]; omega) | (simp only [World.size_alloc, size_drew_]; omega)))
        clear RP_17
        have X_18 := Lib.hid (X_17.out.below hb (by first | omega | (simp only [World.size_alloc]; omega) | (simp only [size_drew_]; omega) | (simp only [World.size_alloc, size_drew_]; omega)))
        clear X_17
        have OX_18 := Lib.hid (OX_17.out.below hb)
        clear OX_17
        have OQ_18 := Lib.hid (OQ_17.out.below hb)
        clear OQ_17
        have RQ_18 := Lib.hid (RQ_17.out.below hb (by first | omega | (simp only [World.size_alloc]; omega) | (simp only [size_drew_]; omega) | (simp only [World.size_alloc, size_drew_]; omega)))
        clear RQ_17
        have BB_18 := Lib.hid (BB_17.out.trans (hb.mono (by first | omega | (simp only [World.size_alloc]; omega) | (simp only [size_drew_]; omega) | (simp only [World.size_alloc, size_drew_]; omega))))
        clear BB_17
        have s18 := hb.size
        clear hb
        go_wp2_with fail
        refine (heldPairS_m _ _ _ (1 + 4 * L.length + 4 * R.length) _ _ _ RQ_18.out.r2.gs (by omega) (by first | omega | (show P.length ≤ 1048576; omega)) (by first | omega | (show P.length ≤ 1048576; omega))).mono ?_
        rintro e w19 ⟨rfl, hb⟩
        have A_19 := Lib.hid (A_18.out.below (hb.mono (by first | omega | (simp only [World.size_alloc]; omega) | (simp only [size_drew_]; omega) | (simp only [World.size_alloc, size_drew_]; omega))))
        clear A_18
        have A2_19 := Lib.hid (A2_18.out.below (hb.mono (by first | omega | (simp only [World.size_alloc]; omega) | (simp only [size_drew_]; omega) | (simp only [World.size_alloc, size_drew_]; omega))))
        clear A2_18
        have R_19 := Lib.hid (R_18.out.below hb)
        clear R_18
        have F_19 := Lib.hid (F_18.out.below hb)
        clear F_18
        have OP_19 := Lib.hid (OP_18.out.below hb)
        clear OP_18
        have RP_19 := Lib.hid (RP_18.out.below hb (by first | omega | (simp only [World.size_alloc]; omega) | (simp only [size_drew_]; omega) | (simp only [World.size_alloc, size_drew_]; omega)))
        clear RP_18
        have X_19 := Lib.hid (X_18.out.below hb (by first | omega | (simp only [World.size_alloc]; omega) | (simp only [size_drew_]; omega) | (simp only [World.size_alloc, size_drew_]; omega)))
        clear X_18
        have OX_19 := Lib.hid (OX_18.out.below hb)
        clear OX_18
        have OQ_19 := Lib.hid (OQ_18.out.below hb)
        clear OQ_18
        have RQ_19 := Lib.hid (RQ_18.out.below hb (by first | omega | (simp only [World.size_alloc]; omega) | (simp only [size_drew_]; omega) | (simp only [World.size_alloc, size_drew_]; omega)))
        clear RQ_18
        have BB_19 := Lib.hid (BB_18.out.trans (hb.mono (by first | omega | (simp only [World.size_alloc]; omega) | (simp only [size_drew_]; omega) | (simp only [World.size_alloc, size_drew_]; omega))))
        clear BB_18
        have s19 := hb.size
        clear hb
        go_upto_region 28 with fail
        go_cut [20, 21, 22] from 112 (fun x1 x2 x3 wx => ∃ (b : Nat) (aR bR pR : Option Addr) (cR dR qR : Nat), x1 = .pointer (some ⟨b, 0, none⟩) ∧ x2 = .slice pR P.length qR ∧ x3 = .int .i64 C ∧ Blk wx b 29 #[.slice aR L.length cR, .slice bR R.length dR, .int .i64 M] ∧ w19.heap.size ≤ b ∧ Many w19.heap.size wx.heap.size [rQ aR cR L, rQ bR dR R, rG pR qR P] wx ∧ Below w19.heap.size w19 wx)
        case first =>
          have Y : Hid (∀ W, Below w19.heap.size w19 W → W.cell? ⟨w.heap.size, 0, none⟩ = some (.slice a l.length c) ∧ W.cell? ⟨w.heap.size, 1, none⟩ = some (.slice b r.length d) ∧ W.cell? ⟨w.heap.size, 2, none⟩ = some (.int .i64 mk) ∧ W.cell? ⟨w.heap.size + 1, 0, none⟩ = some (.int .i64 k) ∧ W.cell? ⟨w.heap.size + 1, 1, none⟩ = some (.int .i64 y) ∧ W.cell? ⟨w.heap.size + 1, 2, none⟩ = some (.int .i64 t) ∧ W.cell? ⟨w.heap.size + 1, 3, none⟩ = some (.int .i64 v)) := Lib.hid (fun W hW => ⟨(R_19.out.below hW).cell 0, (R_19.out.below hW).cell 1, (R_19.out.below hW).cell 2, (F_19.out.below hW).cell 0, (F_19.out.below hW).cell 1, (F_19.out.below hW).cell 2, (F_19.out.below hW).cell 3⟩)
          have KB := Lib.hid (Below.refl w19.heap.size w19).drew
          have TS : Hid (∀ W, Below w19.heap.size w19 W → Calls Try.prog 45 #[.agg #[.slice a l.length c, .slice b r.length d, .int .i64 mk]] W (FreshJn l r mk W)) := Lib.hid (fun W hW => toJoin_any a b _ _ c d mk l r _ _ (A_19.out.below (hW.mono (by first | omega | (simp only [World.size_alloc]; omega) | (simp only [size_drew_]; omega) | (simp only [World.size_alloc, size_drew_]; omega)))) (A2_19.out.below (hW.mono (by first | omega | (simp only [World.size_alloc]; omega) | (simp only [size_drew_]; omega) | (simp only [World.size_alloc, size_drew_]; omega)))) rfl rfl (by have := hW.size; first | omega | (simp only [World.size_alloc] at this ⊢; omega)) hle hle2)
          go_region_held3 (fun W => W.cell? ⟨w.heap.size, 0, none⟩ = some (.slice a l.length c) ∧ W.cell? ⟨w.heap.size, 1, none⟩ = some (.slice b r.length d) ∧ W.cell? ⟨w.heap.size, 2, none⟩ = some (.int .i64 mk) ∧ W.cell? ⟨w.heap.size + 1, 0, none⟩ = some (.int .i64 k) ∧ W.cell? ⟨w.heap.size + 1, 1, none⟩ = some (.int .i64 y) ∧ W.cell? ⟨w.heap.size + 1, 2, none⟩ = some (.int .i64 t) ∧ W.cell? ⟨w.heap.size + 1, 3, none⟩ = some (.int .i64 v))
            (first | with_reducible exact Y.out _ KB.out | with_reducible exact Y.out _ (KB.out.alloc KB.out.size _) | with_reducible exact Y.out _ ((Below.refl w19.heap.size w19).alloc (Nat.le_refl _) _).drew | with_reducible exact Y.out _ (below_set3 KB.out hC.out _ _ _))
            (first
              | (go_at_call 45; (first | (with_reducible refine (TS.out _ KB.out).mono ?_) | (with_reducible refine (TS.out _ (KB.out.alloc KB.out.size _)).mono ?_) | (with_reducible refine (TS.out _ ((Below.refl w19.heap.size w19).alloc (Nat.le_refl _) _).drew).mono ?_)); rintro e w1 ⟨aX, cX, bX, dX, rfl, ho, hb⟩; have KX0 := Many.at ho (Nat.le_refl _); (first | have KX := Lib.hid (KX0.lower KB.out.size) | have KX := Lib.hid (KX0.lower (KB.out.alloc KB.out.size _).size) | have KX := Lib.hid (KX0.lower ((Below.refl w19.heap.size w19).alloc (Nat.le_refl _) _).drew.size)); clear ho KX0; (first | (have KC0 := KC.out.below hb; have KB := Lib.hid (KB.out.trans (hb.mono KB.out.size)); clear hb; have KC := Lib.hid KC0; clear KC0; (try clear qC fC); have qC := KC.out.cell; have fC := KC.out.frozen) | (have KC0 := (Blk.new _ 29 #[.slice none 0 0, .slice none 0 0, .int .i64 0]).below hb; have hC0 : w19.heap.size ≤ _ := KB.out.size; have KB := Lib.hid ((KB.out.alloc KB.out.size _).trans (hb.mono (KB.out.alloc KB.out.size _).size)); clear hb; (try simp only [size_drew_] at KC0 hC0); have KC := Lib.hid KC0; have hC := Lib.hid hC0; clear KC0 hC0; have qC := KC.out.cell; have fC := KC.out.frozen) | (have KC0 := (Blk.new w19 29 #[.slice none 0 0, .slice none 0 0, .int .i64 0]).drew.below hb; have hC0 : w19.heap.size ≤ w19.heap.size := Nat.le_refl _; have KB := Lib.hid (((Below.refl w19.heap.size w19).alloc (Nat.le_refl _) _).drew.trans (hb.mono ((Below.refl w19.heap.size w19).alloc (Nat.le_refl _) _).drew.size)); clear hb; have KC := Lib.hid KC0; have hC := Lib.hid hC0; clear KC0 hC0; have qC := KC.out.cell; have fC := KC.out.frozen) | (have KB := Lib.hid (KB.out.trans (hb.mono KB.out.size)); clear hb)))
              | (go_at_call 53; refine (toFrame_x k y t v _).mono ?_; rintro e w1 ⟨rfl, hb⟩; (first | (have KC0 := KC.out.below hb; (first | have KX := Lib.hid (KX.out.below hb) | skip); have KB := Lib.hid (KB.out.trans (hb.mono KB.out.size)); clear hb; have KC := Lib.hid KC0; clear KC0; (try clear qC fC); have qC := KC.out.cell; have fC := KC.out.frozen) | (have KC0 := (Blk.new _ 29 #[.slice none 0 0, .slice none 0 0, .int .i64 0]).below hb; (first | have KX := Lib.hid ((KX.out.alloc _).below hb) | skip); have hC0 : w19.heap.size ≤ _ := KB.out.size; have KB := Lib.hid ((KB.out.alloc KB.out.size _).trans (hb.mono (KB.out.alloc KB.out.size _).size)); clear hb; (try simp only [size_drew_] at KC0 hC0); have KC := Lib.hid KC0; have hC := Lib.hid hC0; clear KC0 hC0; have qC := KC.out.cell; have fC := KC.out.frozen) | (have KC0 := (Blk.new w19 29 #[.slice none 0 0, .slice none 0 0, .int .i64 0]).drew.below hb; have hC0 : w19.heap.size ≤ w19.heap.size := Nat.le_refl _; have KB := Lib.hid (((Below.refl w19.heap.size w19).alloc (Nat.le_refl _) _).drew.trans (hb.mono ((Below.refl w19.heap.size w19).alloc (Nat.le_refl _) _).drew.size)); clear hb; have KC := Lib.hid KC0; have hC := Lib.hid hC0; clear KC0 hC0; have qC := KC.out.cell; have fC := KC.out.frozen) | ((first | have KX := Lib.hid (KX.out.below hb) | skip); have KB := Lib.hid (KB.out.trans (hb.mono KB.out.size)); clear hb)))
              | (go_at_call 54; (first | (with_reducible refine (IP.out _ _ _ _ _ KX.out.q0 KX.out.q1).mono ?_) | (with_reducible refine (IP.out _ _ _ _ _ (KX.out.alloc _).q0 (KX.out.alloc _).q1).mono ?_)); rintro e w1 ⟨aR, cR, bR, dR, pR, qR, rfl, ho, hb⟩; have KR0 := Many.at ho (Nat.le_refl _); (first | have KR := Lib.hid (KR0.lower KB.out.size) | have KR := Lib.hid (KR0.lower (KB.out.alloc KB.out.size _).size)); clear ho KR0; (first | (have KC0 := KC.out.below hb; have KB := Lib.hid (KB.out.trans (hb.mono KB.out.size)); clear hb; have KC := Lib.hid KC0; clear KC0; (try clear qC fC); have qC := KC.out.cell; have fC := KC.out.frozen) | (have KC0 := (Blk.new _ 29 #[.slice none 0 0, .slice none 0 0, .int .i64 0]).below hb; have hC0 : w19.heap.size ≤ _ := KB.out.size; have KB := Lib.hid ((KB.out.alloc KB.out.size _).trans (hb.mono (KB.out.alloc KB.out.size _).size)); clear hb; (try simp only [size_drew_] at KC0 hC0); have KC := Lib.hid KC0; have hC := Lib.hid hC0; clear KC0 hC0; have qC := KC.out.cell; have fC := KC.out.frozen) | (have KC0 := (Blk.new w19 29 #[.slice none 0 0, .slice none 0 0, .int .i64 0]).drew.below hb; have hC0 : w19.heap.size ≤ w19.heap.size := Nat.le_refl _; have KB := Lib.hid (((Below.refl w19.heap.size w19).alloc (Nat.le_refl _) _).drew.trans (hb.mono ((Below.refl w19.heap.size w19).alloc (Nat.le_refl _) _).drew.size)); clear hb; have KC := Lib.hid KC0; have hC := Lib.hid hC0; clear KC0 hC0; have qC := KC.out.cell; have fC := KC.out.frozen) | (have KB := Lib.hid (KB.out.trans (hb.mono KB.out.size)); clear hb))))
          all_goals
            go_wp2
            go_meet
            case rel => first
              | with_reducible exact ⟨_, aR, bR, pR, cR, dR, qR, rfl, rfl, rfl, Blk.new _ _ _, KB.out.size, (KR.out.alloc _).many, KB.out.alloc KB.out.size _⟩
              | with_reducible exact ⟨_, aR, bR, pR, cR, dR, qR, rfl, rfl, rfl, three_ KC.out _ _ _, hC.out, (many_set3 KR.out KC.out (fun r hr => by simp at hr; rcases hr with rfl | rfl | rfl; exact (show 29 ≠ 38 by decide); exact (show 29 ≠ 38 by decide); exact (show 29 ≠ 53 by decide)) _ _ _).many, below_set3 KB.out hC.out _ _ _⟩
        case rest =>
          rename World => w20
          obtain ⟨bH, aH, eH, pH, cH, dH, qH, rfl, rfl, rfl, hbk, u20, hrow, hb⟩ := hcut
          have A_20 := Lib.hid (A_19.out.below (hb.mono (by first | omega | (simp only [World.size_alloc]; omega) | (simp only [size_drew_]; omega) | (simp only [World.size_alloc, size_drew_]; omega))))
          clear A_19
          have A2_20 := Lib.hid (A2_19.out.below (hb.mono (by first | omega | (simp only [World.size_alloc]; omega) | (simp only [size_drew_]; omega) | (simp only [World.size_alloc, size_drew_]; omega))))
          clear A2_19
          have R_20 := Lib.hid (R_19.out.below hb)
          clear R_19
          have F_20 := Lib.hid (F_19.out.below hb)
          clear F_19
          have OP_20 := Lib.hid (OP_19.out.below hb)
          clear OP_19
          have RP_20 := Lib.hid (RP_19.out.below hb (by first | omega | (simp only [World.size_alloc]; omega) | (simp only [size_drew_]; omega) | (simp only [World.size_alloc, size_drew_]; omega)))
          clear RP_19
          have X_20 := Lib.hid (X_19.out.below hb (by first | omega | (simp only [World.size_alloc]; omega) | (simp only [size_drew_]; omega) | (simp only [World.size_alloc, size_drew_]; omega)))
          clear X_19
          have OX_20 := Lib.hid (OX_19.out.below hb)
          clear OX_19
          have OQ_20 := Lib.hid (OQ_19.out.below hb)
          clear OQ_19
          have RQ_20 := Lib.hid (RQ_19.out.below hb (by first | omega | (simp only [World.size_alloc]; omega) | (simp only [size_drew_]; omega) | (simp only [World.size_alloc, size_drew_]; omega)))
          clear RQ_19
          have BB_20 := Lib.hid (BB_19.out.trans (hb.mono (by first | omega | (simp only [World.size_alloc]; omega) | (simp only [size_drew_]; omega) | (simp only [World.size_alloc, size_drew_]; omega))))
          clear BB_19
          have OH_20 := Lib.hid hbk
          have RH_20 := Lib.hid hrow
          have s20 := hb.size
          have t20 := hbk.lt
          clear hb hbk hrow
          have qOH_20 := OH_20.out.cell
          have qOP_20 := OP_20.out.cell
          go_wp2_with fail
          refine (eqJoin_any _ _ _ _ _ _ _ _ _ _ _ _ M L R _ _ _ RH_20.out.r0.qs RH_20.out.r1.qs RP_20.out.r0.qs RP_20.out.r1.qs rfl rfl rfl rfl (Nat.le_refl _) (Nat.le_refl _)).mono ?_
          rintro e w21 ⟨rfl, hb⟩
          clear qOH_20 qOP_20
          have A_21 := Lib.hid (A_20.out.below (hb.mono (by first | omega | (simp only [World.size_alloc]; omega) | (simp only [size_drew_]; omega) | (simp only [World.size_alloc, size_drew_]; omega))))
          clear A_20
          have A2_21 := Lib.hid (A2_20.out.below (hb.mono (by first | omega | (simp only [World.size_alloc]; omega) | (simp only [size_drew_]; omega) | (simp only [World.size_alloc, size_drew_]; omega))))
          clear A2_20
          have R_21 := Lib.hid (R_20.out.below hb)
          clear R_20
          have F_21 := Lib.hid (F_20.out.below hb)
          clear F_20
          have OP_21 := Lib.hid (OP_20.out.below hb)
          clear OP_20
          have RP_21 := Lib.hid (RP_20.out.below hb (by first | omega | (simp only [World.size_alloc]; omega) | (simp only [size_drew_]; omega) | (simp only [World.size_alloc, size_drew_]; omega)))
          clear RP_20
          have X_21 := Lib.hid (X_20.out.below hb (by first | omega | (simp only [World.size_alloc]; omega) | (simp only [size_drew_]; omega) | (simp only [World.size_alloc, size_drew_]; omega)))
          clear X_20
          have OX_21 := Lib.hid (OX_20.out.below hb)
          clear OX_20
          have OQ_21 := Lib.hid (OQ_20.out.below hb)
          clear OQ_20
          have RQ_21 := Lib.hid (RQ_20.out.below hb (by first | omega | (simp only [World.size_alloc]; omega) | (simp only [size_drew_]; omega) | (simp only [World.size_alloc, size_drew_]; omega)))
          clear RQ_20
          have OH_21 := Lib.hid (OH_20.out.below hb)
          clear OH_20
          have RH_21 := Lib.hid (RH_20.out.below hb (by first | omega | (simp only [World.size_alloc]; omega) | (simp only [size_drew_]; omega) | (simp only [World.size_alloc, size_drew_]; omega)))
          clear RH_20
          have BB_21 := Lib.hid (BB_20.out.trans (hb.mono (by first | omega | (simp only [World.size_alloc]; omega) | (simp only [size_drew_]; omega) | (simp only [World.size_alloc, size_drew_]; omega))))
          clear BB_20
          have s21 := hb.size
          clear hb
          go_wp2_with fail
          refine (eqPairS_any _ _ _ _ _ _ P _ _ _ RH_21.out.r2.gs RP_21.out.r2.gs rfl rfl (Nat.le_refl _) (Nat.le_refl _)).mono ?_
          rintro e w22 ⟨rfl, hb⟩
          have A_22 := Lib.hid (A_21.out.below (hb.mono (by first | omega | (simp only [World.size_alloc]; omega) | (simp only [size_drew_]; omega) | (simp only [World.size_alloc, size_drew_]; omega))))
          clear A_21
          have A2_22 := Lib.hid (A2_21.out.below (hb.mono (by first | omega | (simp only [World.size_alloc]; omega) | (simp only [size_drew_]; omega) | (simp only [World.size_alloc, size_drew_]; omega))))
          clear A2_21
          have R_22 := Lib.hid (R_21.out.below hb)
          clear R_21
          have F_22 := Lib.hid (F_21.out.below hb)
          clear F_21
          have OP_22 := Lib.hid (OP_21.out.below hb)
          clear OP_21
          have RP_22 := Lib.hid (RP_21.out.below hb (by first | omega | (simp only [World.size_alloc]; omega) | (simp only [size_drew_]; omega) | (simp only [World.size_alloc, size_drew_]; omega)))
          clear RP_21
          have X_22 := Lib.hid (X_21.out.below hb (by first | omega | (simp only [World.size_alloc]; omega) | (simp only [size_drew_]; omega) | (simp only [World.size_alloc, size_drew_]; omega)))
          clear X_21
          have OX_22 := Lib.hid (OX_21.out.below hb)
          clear OX_21
          have OQ_22 := Lib.hid (OQ_21.out.below hb)
          clear OQ_21
          have RQ_22 := Lib.hid (RQ_21.out.below hb (by first | omega | (simp only [World.size_alloc]; omega) | (simp only [size_drew_]; omega) | (simp only [World.size_alloc, size_drew_]; omega)))
          clear RQ_21
          have OH_22 := Lib.hid (OH_21.out.below hb)
          clear OH_21
          have RH_22 := Lib.hid (RH_21.out.below hb (by first | omega | (simp only [World.size_alloc]; omega) | (simp only [size_drew_]; omega) | (simp only [World.size_alloc, size_drew_]; omega)))
          clear RH_21
          have BB_22 := Lib.hid (BB_21.out.trans (hb.mono (by first | omega | (simp only [World.size_alloc]; omega) | (simp only [size_drew_]; omega) | (simp only [World.size_alloc, size_drew_]; omega))))
          clear BB_21
          have s22 := hb.size
          clear hb
          have qOQ_22 := OQ_22.out.cell
          go_wp2_with fail
          refine (heldJoin_m _ _ _ _ _ _ 1 M _ _ _ RQ_22.out.r0.qs RQ_22.out.r1.qs (Nat.le_refl _) rfl (by omega) (by omega) (by omega)).mono ?_
          rintro e w23 ⟨rfl, hb⟩
          clear qOQ_22
          have A_23 := Lib.hid (A_22.out.below (hb.mono (by first | omega | (simp only [World.size_alloc]; omega) | (simp only [size_drew_]; omega) | (simp only [World.size_alloc, size_drew_]; omega))))
          clear A_22
          have A2_23 := Lib.hid (A2_22.out.below (hb.mono (by first | omega | (simp only [World.size_alloc]; omega) | (simp only [size_drew_]; omega) | (simp only [World.size_alloc, size_drew_]; omega))))
          clear A2_22
          have R_23 := Lib.hid (R_22.out.below hb)
          clear R_22
          have F_23 := Lib.hid (F_22.out.below hb)
          clear F_22
          have OP_23 := Lib.hid (OP_22.out.below hb)
          clear OP_22
          have RP_23 := Lib.hid (RP_22.out.below hb (by first | omega | (simp only [World.size_alloc]; omega) | (simp only [size_drew_]; omega) | (simp only [World.size_alloc, size_drew_]; omega)))
          clear RP_22
          have X_23 := Lib.hid (X_22.out.below hb (by first | omega | (simp only [World.size_alloc]; omega) | (simp only [size_drew_]; omega) | (simp only [World.size_alloc, size_drew_]; omega)))
          clear X_22
          have OX_23 := Lib.hid (OX_22.out.below hb)
          clear OX_22
          have OQ_23 := Lib.hid (OQ_22.out.below hb)
          clear OQ_22
          have RQ_23 := Lib.hid (RQ_22.out.below hb (by first | omega | (simp only [World.size_alloc]; omega) | (simp only [size_drew_]; omega) | (simp only [World.size_alloc, size_drew_]; omega)))
          clear RQ_22
          have OH_23 := Lib.hid (OH_22.out.below hb)
          clear OH_22
          have RH_23 := Lib.hid (RH_22.out.below hb (by first | omega | (simp only [World.size_alloc]; omega) | (simp only [size_drew_]; omega) | (simp only [World.size_alloc, size_drew_]; omega)))
          clear RH_22
          have BB_23 := Lib.hid (BB_22.out.trans (hb.mono (by first | omega | (simp only [World.size_alloc]; omega) | (simp only [size_drew_]; omega) | (simp only [World.size_alloc, size_drew_]; omega))))
          clear BB_22
          have s23 := hb.size
          clear hb
          go_wp2_with fail
          refine (heldPairS_m _ _ _ (1 + 4 * L.length + 4 * R.length) _ _ _ RQ_23.out.r2.gs (by omega) (by first | omega | (show P.length ≤ 1048576; omega)) (by first | omega | (show P.length ≤ 1048576; omega))).mono ?_
          rintro e w24 ⟨rfl, hb⟩
          have A_24 := Lib.hid (A_23.out.below (hb.mono (by first | omega | (simp only [World.size_alloc]; omega) | (simp only [size_drew_]; omega) | (simp only [World.size_alloc, size_drew_]; omega))))
          clear A_23
          have A2_24 := Lib.hid (A2_23.out.below (hb.mono (by first | omega | (simp only [World.size_alloc]; omega) | (simp only [size_drew_]; omega) | (simp only [World.size_alloc, size_drew_]; omega))))
          clear A2_23
          have R_24 := Lib.hid (R_23.out.below hb)
          clear R_23
          have F_24 := Lib.hid (F_23.out.below hb)
          clear F_23
          have OP_24 := Lib.hid (OP_23.out.below hb)
          clear OP_23
          have RP_24 := Lib.hid (RP_23.out.below hb (by first | omega | (simp only [World.size_alloc]; omega) | (simp only [size_drew_]; omega) | (simp only [World.size_alloc, size_drew_]; omega)))
          clear RP_23
          have X_24 := Lib.hid (X_23.out.below hb (by first | omega | (simp only [World.size_alloc]; omega) | (simp only [size_drew_]; omega) | (simp only [World.size_alloc, size_drew_]; omega)))
          clear X_23
          have OX_24 := Lib.hid (OX_23.out.below hb)
          clear OX_23
          have OQ_24 := Lib.hid (OQ_23.out.below hb)
          clear OQ_23
          have RQ_24 := Lib.hid (RQ_23.out.below hb (by first | omega | (simp only [World.size_alloc]; omega) | (simp only [size_drew_]; omega) | (simp only [World.size_alloc, size_drew_]; omega)))
          clear RQ_23
          have OH_24 := Lib.hid (OH_23.out.below hb)
          clear OH_23
          have RH_24 := Lib.hid (RH_23.out.below hb (by first | omega | (simp only [World.size_alloc]; omega) | (simp only [size_drew_]; omega) | (simp only [World.size_alloc, size_drew_]; omega)))
          clear RH_23
          have BB_24 := Lib.hid (BB_23.out.trans (hb.mono (by first | omega | (simp only [World.size_alloc]; omega) | (simp only [size_drew_]; omega) | (simp only [World.size_alloc, size_drew_]; omega))))
          clear BB_23
          have s24 := hb.size
          clear hb
          go_wp2
          go_ret
          exact ⟨rfl, BB_24.out⟩

set_option maxRecDepth 100000 in
theorem lifted (os : Os) (started : os.Started) (H : Type) (enc : TypeId × Value → H) :
    ReturnsInHanded {} Try.checked os 11 .any (Rows.fnExactAddJoinSpec.pre6 enc Try.prog Try.f11 Rows.fnExactAddJoinRow.domain false) (Rows.fnExactAddJoinSpec.post enc Try.prog Try.f11 false true false false) := by
  refine returnsInHanded_of_change (C := Try.checked) own started (by kernel_rfl) Try.func11
    (ChangeSpec.witness6 (enc := enc) (C := Try.checked) false ⟨#[], #[.agg #[.slice none 0 0, .slice none 0 0, .int .i64 0], .int .i64 0, .bool false, (.agg #[.int .i64 0, .int .i64 0, .int .i64 0, .int .i64 0])], []⟩ 8 (by kernel_rfl) (by kernel_rfl) (by kernel_rfl) (by kernel_rfl)) ?_
  intro W base args ds gs before hval0 hW hcnd _
  have hval : ∀ (j : Nat) t v, Try.f11.params[j]? = some t → args[j]? = some v → Value.okWide Try.prog W .any base t v := hval0
  have hW' := hW
  obtain ⟨p, q, hA0, hV, rfl, hfz, hnd⟩ := hW
  have hA : DataW.TrodAll enc Try.prog W 0 (fun _ => true) true Try.f11.params.toList args.toList ds p := hA0
  rw [Try.params11] at hA hval
  obtain ⟨v0, vs0, d0, ds0, p0, q0, hargs, rfl, rfl, h0, r0⟩ := trodAll_cons hA
  obtain ⟨v1, vs1, d1, ds1, p1, q1, rfl, rfl, rfl, h1, r1⟩ := trodAll_cons r0
  obtain ⟨v2, vs2, d2, ds2, p2, q2, rfl, rfl, rfl, h2, r2⟩ := trodAll_cons r1
  obtain ⟨v3, vs3, d3, ds3, p3, q3, rfl, rfl, rfl, h3, r3⟩ := trodAll_cons r2
  obtain ⟨rfl, rfl, rfl⟩ := trodAll_nil r3
  obtain rfl : args = #[v0, v1, v2, v3] := by cases args; simp_all
  obtain ⟨rfl, rfl⟩ := trodVars_none hV
  have lt0 : ∀ x ∈ p0, x.block < W.heap.size := by obtain ⟨m, hm⟩ := h0; exact DataW.trod_lt m _ _ _ hm
  obtain ⟨a0, n0, c0, b0_, m0, e0, mk0, rfl, hk0, l0, r0_, hn0, hm0, hs0, hs20⟩ := arg_join (hval 0 63 v0 rfl rfl) h0
  have lt1 : ∀ x ∈ p1, x.block < W.heap.size := by obtain ⟨m, hm⟩ := h1; exact DataW.trod_lt m _ _ _ hm
  obtain ⟨x1, rfl, hx1⟩ := arg_int (hval 1 3 v1 rfl rfl) h1
  have lt2 : ∀ x ∈ p2, x.block < W.heap.size := by obtain ⟨m, hm⟩ := h2; exact DataW.trod_lt m _ _ _ hm
  obtain ⟨b2, rfl⟩ := arg_bool (hval 2 4 v2 rfl rfl) h2
  have lt3 : ∀ x ∈ p3, x.block < W.heap.size := by obtain ⟨m, hm⟩ := h3; exact DataW.trod_lt m _ _ _ hm
  obtain ⟨k3, y3, t3, u3, rfl⟩ := arg_frame (hval 3 72 v3 rfl rfl) h3
  clear hA0 hval0
  refine (walk W a0 n0 c0 b0_ m0 e0 mk0 hk0 l0 r0_ hn0 hm0 hs0 hs20 x1 hx1 b2 k3 y3 t3 u3).mono fun e W' ⟨he, bel⟩ => ?_
  subst he
  exact ⟨_, rfl, _, _, _, [], _, [], hW', trodAll_mk1 (shut_bool Try.underlying4 _), (trodAll_cons_mk (Below.trod laidOut (by kernel_rfl) (of_decide_eq_true (by kernel_rfl)) h0 bel lt0) (trodAll_cons_mk (Below.trod laidOut (by kernel_rfl) (of_decide_eq_true (by kernel_rfl)) h1 bel lt1) (trodAll_cons_mk (Below.trod laidOut (by kernel_rfl) (of_decide_eq_true (by kernel_rfl)) h2 bel lt2) (trodAll_cons_mk (Below.trod laidOut (by kernel_rfl) (of_decide_eq_true (by kernel_rfl)) h3 bel lt3) trodAll_mk0)))), rfl, bel.frame _, fun h => by cases h⟩

theorem over : Rows.fnExactAddJoinRow.holds Try.pinned (OpenSpec.ofChange Rows.fnExactAddJoinSpec) :=
  OpenClaim.holds_of_wide 11 Try.f11 rfl rfl rfl rfl rfl rfl rfl ⟨rfl, rfl, rfl, rfl, rfl⟩ rfl rfl rfl rfl rfl (by kernel_rfl) Try.func11 (by kernel_rfl)
    (of_decide_eq_true (by kernel_rfl)) (by unfold Func.isWrapper; first | (rw [if_pos (by decide +kernel)]; kernel_rfl) | (rw [if_neg (by decide +kernel)]; exact ⟨rfl, rfl⟩))
    (fun os started H enc _ => lifted os started H enc)

theorem proved : Rows.FnExactAddJoinSaid := over
#print axioms proved
end Go.Proofs.Ytneolndbhklboaa.fnExactAddJoin
