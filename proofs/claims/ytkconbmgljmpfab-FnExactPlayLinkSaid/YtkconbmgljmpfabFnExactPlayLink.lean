/- impl.PlayLink answers as spec.PlayLink at every number and every list of up to 1048576 ops (beyond, the law says nothing), in memory of its own, and leaves the list as it was. No conditions. -/
import Derived.Test.YtkconbmgljmpfabRows
import Derived.Test.YtkconbmgljmpfabOpenRing
import Derived.Test.YtkconbmgljmpfabPlaySpec2
import Derived.Test.YtkconbmgljmpfabHeld
import Derived.WalkSmall
import Derived.WalkKit
import Derived.ProofKit
import Derived.OpenShut
import Derived.ShutString
import Derived.ChangeOld
import Derived.Below
namespace Go.Proofs.Ytkconbmgljmpfab.fnExactPlayLink
open Go.ChangeShapes Go.WideShapes Go.ChangeAt Go.RowKit
set_option linter.unusedVariables false

theorem own : ownKnob Try.prog.godebug = none := by kernel_rfl
theorem laidOut : laidOutB Try.prog = true := by kernel_rfl


theorem end_le (n : Int) (ops : List Int) : (plEnd n ops).xs.length ≤ 20 := by
  unfold plEnd
  split
  · rename_i h
    unfold playOk at h
    rw [Bool.and_eq_true, decide_eq_true_eq] at h
    have hb := inB_iff.1 h.1
    rw [(plS_in n.toNat ops (by omega) (by omega) _ (Nat.le_refl _)).len]
    omega
  · exact Nat.zero_le _
theorem all_le (n : Int) (ops : List Int) : (plAll n ops).length ≤ 300 := by
  unfold plAll
  split
  · rename_i h
    unfold playOk at h
    rw [Bool.and_eq_true, decide_eq_true_eq] at h
    rw [plT_len]; exact h.2
  · exact Nat.zero_le _
set_option maxHeartbeats 8000000 in
set_option maxRecDepth 100000 in
theorem walk (w : World) (x : Int) (hx : Is64 x) (a : Option Addr) (n c : Nat) (xs : List Int) (hn : n = xs.length) (hb : ∀ y ∈ xs, Is64 y) (hs : Nums .i64 w w.heap.size a c xs) :
    Calls Try.prog 6 #[.int .i64 x, .slice a n c] w fun e w' => e = .returned (.bool true) ∧ Below w.heap.size w w' := by
  have hc1 := hs.cap
  have hc2 := hs.big
  subst hn
  have BB := Lib.hid (Below.refl w.heap.size w)
  by_cases hbig : 1048576 < xs.length
  · clear hs hx hb
    go_enter Try.func6, Try.ntmps6
    go_wp2
    go_ret
    exact ⟨rfl, BB.out⟩
  · have hle : xs.length ≤ 1048576 := by omega
    have A0 := Lib.hid hs
    have SP := Lib.hid (fun W a1 c1 h1 => specPlay_any x a1 xs.length c1 xs _ W h1 rfl (Nat.le_refl _) hle)
    have IP := Lib.hid (fun W a1 c1 h1 => implPlay_any x a1 xs.length c1 xs _ W h1 rfl (Nat.le_refl _) hle)
    have hL := end_le x xs
    have hTS := all_le x xs
    generalize (plEnd x xs).xs = L at SP IP hL
    generalize ((plEnd x xs).p : Int) = P at SP IP
    generalize ((plEnd x xs).k : Int) = K at SP IP
    generalize plHome x xs = H at SP IP
    generalize plAll x xs = TS at SP IP hTS
    clear hs hx hb
    go_enter Try.func6, Try.ntmps6
    go_wp2_with fail
    refine (toInts_n a _ c xs _ _ A0.out rfl (by first | omega | (simp only [World.size_alloc]; omega) | (simp only [size_drew_]; omega) | (simp only [World.size_alloc, size_drew_]; omega)) hle).mono ?_
    rintro e w1 ⟨a1, c1, rfl, ho, hb⟩
    have A_1 := Lib.hid (A0.out.below (hb.mono (by first | omega | (simp only [World.size_alloc]; omega) | (simp only [size_drew_]; omega) | (simp only [World.size_alloc, size_drew_]; omega))))
    clear A0
    have BB_1 := Lib.hid (BB.out.trans (hb.mono (by first | omega | (simp only [World.size_alloc]; omega) | (simp only [size_drew_]; omega) | (simp only [World.size_alloc, size_drew_]; omega))))
    clear BB
    have X1_1 := Lib.hid (Rw.new ho)
    clear ho
    have s1 := hb.size
    clear hb
    go_wp2_with fail
    refine (SP.out _ _ _ X1_1.out.nums).mono ?_
    rintro e w2 ⟨a2, c2, a2b, c2b, rfl, ho, ho2, hb⟩
    have A_2 := Lib.hid (A_1.out.below (hb.mono (by first | omega | (simp only [World.size_alloc]; omega) | (simp only [size_drew_]; omega) | (simp only [World.size_alloc, size_drew_]; omega))))
    clear A_1
    have X1_2 := Lib.hid (X1_1.out.below hb (by first | omega | (simp only [World.size_alloc]; omega) | (simp only [size_drew_]; omega) | (simp only [World.size_alloc, size_drew_]; omega)))
    clear X1_1
    have BB_2 := Lib.hid (BB_1.out.trans (hb.mono (by first | omega | (simp only [World.size_alloc]; omega) | (simp only [size_drew_]; omega) | (simp only [World.size_alloc, size_drew_]; omega))))
    clear BB_1
    have R__2 := Lib.hid (Rw.new ho)
    have TR_2 := Lib.hid (Rw.new ho2)
    clear ho ho2
    have s2 := hb.size
    clear hb
    clear X1_2
    have A_3 := Lib.hid (A_2.out.below (((Below.refl w2.heap.size w2).alloc (Nat.le_refl _) (.cells #[.slice a2 L.length c2, .int .i64 P, .int .i64 K] 35)).mono (by first | omega | (simp only [World.size_alloc]; omega) | (simp only [size_drew_]; omega) | (simp only [World.size_alloc, size_drew_]; omega))))
    clear A_2
    have R__3 := Lib.hid (R__2.out.below ((Below.refl w2.heap.size w2).alloc (Nat.le_refl _) (.cells #[.slice a2 L.length c2, .int .i64 P, .int .i64 K] 35)) (by first | omega | (simp only [World.size_alloc]; omega) | (simp only [size_drew_]; omega) | (simp only [World.size_alloc, size_drew_]; omega)))
    clear R__2
    have TR_3 := Lib.hid (TR_2.out.below ((Below.refl w2.heap.size w2).alloc (Nat.le_refl _) (.cells #[.slice a2 L.length c2, .int .i64 P, .int .i64 K] 35)) (by first | omega | (simp only [World.size_alloc]; omega) | (simp only [size_drew_]; omega) | (simp only [World.size_alloc, size_drew_]; omega)))
    clear TR_2
    have BB_3 := Lib.hid (BB_2.out.alloc (by first | omega | (simp only [World.size_alloc]; omega) | (simp only [size_drew_]; omega) | (simp only [World.size_alloc, size_drew_]; omega)) (.cells #[.slice a2 L.length c2, .int .i64 P, .int .i64 K] 35))
    clear BB_2
    have OR_3 := Lib.hid (Blk.new w2 35 #[.slice a2 L.length c2, .int .i64 P, .int .i64 K])
    have A_4 := Lib.hid (A_3.out.below (((Below.refl (w2.alloc (.cells #[.slice a2 L.length c2, .int .i64 P, .int .i64 K] 35)).heap.size (w2.alloc (.cells #[.slice a2 L.length c2, .int .i64 P, .int .i64 K] 35))).alloc (Nat.le_refl _) (.cells #[.int .i64 H, .int .i64 K] 24)).mono (by first | omega | (simp only [World.size_alloc]; omega) | (simp only [size_drew_]; omega) | (simp only [World.size_alloc, size_drew_]; omega))))
    clear A_3
    have R__4 := Lib.hid (R__3.out.below ((Below.refl (w2.alloc (.cells #[.slice a2 L.length c2, .int .i64 P, .int .i64 K] 35)).heap.size (w2.alloc (.cells #[.slice a2 L.length c2, .int .i64 P, .int .i64 K] 35))).alloc (Nat.le_refl _) (.cells #[.int .i64 H, .int .i64 K] 24)) (by first | omega | (simp only [World.size_alloc]; omega) | (simp only [size_drew_]; omega) | (simp only [World.size_alloc, size_drew_]; omega)))
    clear R__3
    have TR_4 := Lib.hid (TR_3.out.below ((Below.refl (w2.alloc (.cells #[.slice a2 L.length c2, .int .i64 P, .int .i64 K] 35)).heap.size (w2.alloc (.cells #[.slice a2 L.length c2, .int .i64 P, .int .i64 K] 35))).alloc (Nat.le_refl _) (.cells #[.int .i64 H, .int .i64 K] 24)) (by first | omega | (simp only [World.size_alloc]; omega) | (simp only [size_drew_]; omega) | (simp only [World.size_alloc, size_drew_]; omega)))
    clear TR_3
    have OR_4 := Lib.hid (OR_3.out.alloc (.cells #[.int .i64 H, .int .i64 K] 24))
    clear OR_3
    have BB_4 := Lib.hid (BB_3.out.alloc (by first | omega | (simp only [World.size_alloc]; omega) | (simp only [size_drew_]; omega) | (simp only [World.size_alloc, size_drew_]; omega)) (.cells #[.int .i64 H, .int .i64 K] 24))
    clear BB_3
    have OC_4 : Hid (Blk ((w2.alloc (.cells #[.slice a2 L.length c2, .int .i64 P, .int .i64 K] 35)).alloc (.cells #[.int .i64 H, .int .i64 K] 24)) (w2.heap.size + 1) 24 #[.int .i64 H, .int .i64 K]) := by
      have hh := Blk.new (w2.alloc (.cells #[.slice a2 L.length c2, .int .i64 P, .int .i64 K] 35)) 24 #[.int .i64 H, .int .i64 K]
      simp only [World.size_alloc] at hh
      exact hh
    go_wp2_with fail
    refine (toInts_n a _ c xs _ _ A_4.out rfl (by first | omega | (simp only [World.size_alloc]; omega) | (simp only [size_drew_]; omega) | (simp only [World.size_alloc, size_drew_]; omega)) hle).mono ?_
    rintro e w5 ⟨a5, c5, rfl, ho, hb⟩
    have A_5 := Lib.hid (A_4.out.below (hb.mono (by first | omega | (simp only [World.size_alloc]; omega) | (simp only [size_drew_]; omega) | (simp only [World.size_alloc, size_drew_]; omega))))
    clear A_4
    have R__5 := Lib.hid (R__4.out.below hb (by first | omega | (simp only [World.size_alloc]; omega) | (simp only [size_drew_]; omega) | (simp only [World.size_alloc, size_drew_]; omega)))
    clear R__4
    have TR_5 := Lib.hid (TR_4.out.below hb (by first | omega | (simp only [World.size_alloc]; omega) | (simp only [size_drew_]; omega) | (simp only [World.size_alloc, size_drew_]; omega)))
    clear TR_4
    have OR_5 := Lib.hid (OR_4.out.below hb)
    clear OR_4
    have OC_5 := Lib.hid (OC_4.out.below hb)
    clear OC_4
    have BB_5 := Lib.hid (BB_4.out.trans (hb.mono (by first | omega | (simp only [World.size_alloc]; omega) | (simp only [size_drew_]; omega) | (simp only [World.size_alloc, size_drew_]; omega))))
    clear BB_4
    have X_5 := Lib.hid (Rw.new ho)
    clear ho
    have s5 := hb.size
    simp only [World.size_alloc] at s5
    clear hb
    go_wp2_with fail
    refine (IP.out _ _ _ X_5.out.nums).mono ?_
    rintro e w6 ⟨a6, c6, a6b, c6b, t6, rfl, hta6, htb6, ho, ho2, hb⟩
    have A_6 := Lib.hid (A_5.out.below (hb.mono (by first | omega | (simp only [World.size_alloc]; omega) | (simp only [size_drew_]; omega) | (simp only [World.size_alloc, size_drew_]; omega))))
    clear A_5
    have R__6 := Lib.hid (R__5.out.below hb (by first | omega | (simp only [World.size_alloc]; omega) | (simp only [size_drew_]; omega) | (simp only [World.size_alloc, size_drew_]; omega)))
    clear R__5
    have TR_6 := Lib.hid (TR_5.out.below hb (by first | omega | (simp only [World.size_alloc]; omega) | (simp only [size_drew_]; omega) | (simp only [World.size_alloc, size_drew_]; omega)))
    clear TR_5
    have OR_6 := Lib.hid (OR_5.out.below hb)
    clear OR_5
    have OC_6 := Lib.hid (OC_5.out.below hb)
    clear OC_5
    have X_6 := Lib.hid (X_5.out.below hb (by first | omega | (simp only [World.size_alloc]; omega) | (simp only [size_drew_]; omega) | (simp only [World.size_alloc, size_drew_]; omega)))
    clear X_5
    have BB_6 := Lib.hid (BB_5.out.trans (hb.mono (by first | omega | (simp only [World.size_alloc]; omega) | (simp only [size_drew_]; omega) | (simp only [World.size_alloc, size_drew_]; omega))))
    clear BB_5
    have G_6 := Lib.hid ho
    have TG_6 := Lib.hid (Rw.new ho2)
    clear ho ho2
    have s6 := hb.size
    clear hb
    have A_7 := Lib.hid (A_6.out.below (((Below.refl w6.heap.size w6).alloc (Nat.le_refl _) (.cells #[.slice a6 L.length c6, .int .i64 P, .int .i64 K] 35)).mono (by first | omega | (simp only [World.size_alloc]; omega) | (simp only [size_drew_]; omega) | (simp only [World.size_alloc, size_drew_]; omega))))
    clear A_6
    have R__7 := Lib.hid (R__6.out.below ((Below.refl w6.heap.size w6).alloc (Nat.le_refl _) (.cells #[.slice a6 L.length c6, .int .i64 P, .int .i64 K] 35)) (by first | omega | (simp only [World.size_alloc]; omega) | (simp only [size_drew_]; omega) | (simp only [World.size_alloc, size_drew_]; omega)))
    clear R__6
    have TR_7 := Lib.hid (TR_6.out.below ((Below.refl w6.heap.size w6).alloc (Nat.le_refl _) (.cells #[.slice a6 L.length c6, .int .i64 P, .int .i64 K] 35)) (by first | omega | (simp only [World.size_alloc]; omega) | (simp only [size_drew_]; omega) | (simp only [World.size_alloc, size_drew_]; omega)))
    clear TR_6
    have OR_7 := Lib.hid (OR_6.out.alloc (.cells #[.slice a6 L.length c6, .int .i64 P, .int .i64 K] 35))
    clear OR_6
    have OC_7 := Lib.hid (OC_6.out.alloc (.cells #[.slice a6 L.length c6, .int .i64 P, .int .i64 K] 35))
    clear OC_6
    have X_7 := Lib.hid (X_6.out.below ((Below.refl w6.heap.size w6).alloc (Nat.le_refl _) (.cells #[.slice a6 L.length c6, .int .i64 P, .int .i64 K] 35)) (by first | omega | (simp only [World.size_alloc]; omega) | (simp only [size_drew_]; omega) | (simp only [World.size_alloc, size_drew_]; omega)))
    clear X_6
    have G_7 := Lib.hid (G_6.out.below ((Below.refl w6.heap.size w6).alloc (Nat.le_refl _) (.cells #[.slice a6 L.length c6, .int .i64 P, .int .i64 K] 35)) (by first | omega | (simp only [World.size_alloc]; omega) | (simp only [size_drew_]; omega) | (simp only [World.size_alloc, size_drew_]; omega)))
    clear G_6
    have TG_7 := Lib.hid (TG_6.out.below ((Below.refl w6.heap.size w6).alloc (Nat.le_refl _) (.cells #[.slice a6 L.length c6, .int .i64 P, .int .i64 K] 35)) (by first | omega | (simp only [World.size_alloc]; omega) | (simp only [size_drew_]; omega) | (simp only [World.size_alloc, size_drew_]; omega)))
    clear TG_6
    have BB_7 := Lib.hid (BB_6.out.alloc (by first | omega | (simp only [World.size_alloc]; omega) | (simp only [size_drew_]; omega) | (simp only [World.size_alloc, size_drew_]; omega)) (.cells #[.slice a6 L.length c6, .int .i64 P, .int .i64 K] 35))
    clear BB_6
    have OG_7 := Lib.hid (Blk.new w6 35 #[.slice a6 L.length c6, .int .i64 P, .int .i64 K])
    have A_8 := Lib.hid (A_7.out.below (((Below.refl (w6.alloc (.cells #[.slice a6 L.length c6, .int .i64 P, .int .i64 K] 35)).heap.size (w6.alloc (.cells #[.slice a6 L.length c6, .int .i64 P, .int .i64 K] 35))).alloc (Nat.le_refl _) (.cells #[.int .i64 H, .int .i64 K] 24)).mono (by first | omega | (simp only [World.size_alloc]; omega) | (simp only [size_drew_]; omega) | (simp only [World.size_alloc, size_drew_]; omega))))
    clear A_7
    have R__8 := Lib.hid (R__7.out.below ((Below.refl (w6.alloc (.cells #[.slice a6 L.length c6, .int .i64 P, .int .i64 K] 35)).heap.size (w6.alloc (.cells #[.slice a6 L.length c6, .int .i64 P, .int .i64 K] 35))).alloc (Nat.le_refl _) (.cells #[.int .i64 H, .int .i64 K] 24)) (by first | omega | (simp only [World.size_alloc]; omega) | (simp only [size_drew_]; omega) | (simp only [World.size_alloc, size_drew_]; omega)))
    clear R__7
    have TR_8 := Lib.hid (TR_7.out.below ((Below.refl (w6.alloc (.cells #[.slice a6 L.length c6, .int .i64 P, .int .i64 K] 35)).heap.size (w6.alloc (.cells #[.slice a6 L.length c6, .int .i64 P, .int .i64 K] 35))).alloc (Nat.le_refl _) (.cells #[.int .i64 H, .int .i64 K] 24)) (by first | omega | (simp only [World.size_alloc]; omega) | (simp only [size_drew_]; omega) | (simp only [World.size_alloc, size_drew_]; omega)))
    clear TR_7
    have OR_8 := Lib.hid (OR_7.out.alloc (.cells #[.int .i64 H, .int .i64 K] 24))
    clear OR_7
    have OC_8 := Lib.hid (OC_7.out.alloc (.cells #[.int .i64 H, .int .i64 K] 24))
    clear OC_7
    have X_8 := Lib.hid (X_7.out.below ((Below.refl (w6.alloc (.cells #[.slice a6 L.length c6, .int .i64 P, .int .i64 K] 35)).heap.size (w6.alloc (.cells #[.slice a6 L.length c6, .int .i64 P, .int .i64 K] 35))).alloc (Nat.le_refl _) (.cells #[.int .i64 H, .int .i64 K] 24)) (by first | omega | (simp only [World.size_alloc]; omega) | (simp only [size_drew_]; omega) | (simp only [World.size_alloc, size_drew_]; omega)))
    clear X_7
    have G_8 := Lib.hid (G_7.out.below ((Below.refl (w6.alloc (.cells #[.slice a6 L.length c6, .int .i64 P, .int .i64 K] 35)).heap.size (w6.alloc (.cells #[.slice a6 L.length c6, .int .i64 P, .int .i64 K] 35))).alloc (Nat.le_refl _) (.cells #[.int .i64 H, .int .i64 K] 24)) (by first | omega | (simp only [World.size_alloc]; omega) | (simp only [size_drew_]; omega) | (simp only [World.size_alloc, size_drew_]; omega)))
    clear G_7
    have TG_8 := Lib.hid (TG_7.out.below ((Below.refl (w6.alloc (.cells #[.slice a6 L.length c6, .int .i64 P, .int .i64 K] 35)).heap.size (w6.alloc (.cells #[.slice a6 L.length c6, .int .i64 P, .int .i64 K] 35))).alloc (Nat.le_refl _) (.cells #[.int .i64 H, .int .i64 K] 24)) (by first | omega | (simp only [World.size_alloc]; omega) | (simp only [size_drew_]; omega) | (simp only [World.size_alloc, size_drew_]; omega)))
    clear TG_7
    have OG_8 := Lib.hid (OG_7.out.alloc (.cells #[.int .i64 H, .int .i64 K] 24))
    clear OG_7
    have BB_8 := Lib.hid (BB_7.out.alloc (by first | omega | (simp only [World.size_alloc]; omega) | (simp only [size_drew_]; omega) | (simp only [World.size_alloc, size_drew_]; omega)) (.cells #[.int .i64 H, .int .i64 K] 24))
    clear BB_7
    have OGC_8 : Hid (Blk ((w6.alloc (.cells #[.slice a6 L.length c6, .int .i64 P, .int .i64 K] 35)).alloc (.cells #[.int .i64 H, .int .i64 K] 24)) (w6.heap.size + 1) 24 #[.int .i64 H, .int .i64 K]) := by
      have hh := Blk.new (w6.alloc (.cells #[.slice a6 L.length c6, .int .i64 P, .int .i64 K] 35)) 24 #[.int .i64 H, .int .i64 K]
      simp only [World.size_alloc] at hh
      exact hh
    have qOG_8 := OG_8.out.cell
    have qOGC_8 := OGC_8.out.cell
    have qOR_8 := OR_8.out.cell
    have qOC_8 := OC_8.out.cell
    go_wp2_with fail
    refine (eqRing_any _ _ _ _ _ _ P K L _ _ _ G_8.out.nums R__8.out.nums rfl rfl (Nat.le_refl _) (Nat.le_refl _)).mono ?_
    rintro e w9 ⟨rfl, hb⟩
    clear qOG_8 qOGC_8 qOR_8 qOC_8
    have A_9 := Lib.hid (A_8.out.below (hb.mono (by first | omega | (simp only [World.size_alloc]; omega) | (simp only [size_drew_]; omega) | (simp only [World.size_alloc, size_drew_]; omega))))
    clear A_8
    have R__9 := Lib.hid (R__8.out.below hb (by first | omega | (simp only [World.size_alloc]; omega) | (simp only [size_drew_]; omega) | (simp only [World.size_alloc, size_drew_]; omega)))
    clear R__8
    have TR_9 := Lib.hid (TR_8.out.below hb (by first | omega | (simp only [World.size_alloc]; omega) | (simp only [size_drew_]; omega) | (simp only [World.size_alloc, size_drew_]; omega)))
    clear TR_8
    have OR_9 := Lib.hid (OR_8.out.below hb)
    clear OR_8
    have OC_9 := Lib.hid (OC_8.out.below hb)
    clear OC_8
    have X_9 := Lib.hid (X_8.out.below hb (by first | omega | (simp only [World.size_alloc]; omega) | (simp only [size_drew_]; omega) | (simp only [World.size_alloc, size_drew_]; omega)))
    clear X_8
    have G_9 := Lib.hid (G_8.out.below hb (by first | omega | (simp only [World.size_alloc]; omega) | (simp only [size_drew_]; omega) | (simp only [World.size_alloc, size_drew_]; omega)))
    clear G_8
    have TG_9 := Lib.hid (TG_8.out.below hb (by first | omega | (simp only [World.size_alloc]; omega) | (simp only [size_drew_]; omega) | (simp only [World.size_alloc, size_drew_]; omega)))
    clear TG_8
    have OG_9 := Lib.hid (OG_8.out.below hb)
    clear OG_8
    have OGC_9 := Lib.hid (OGC_8.out.below hb)
    clear OGC_8
    have BB_9 := Lib.hid (BB_8.out.trans (hb.mono (by first | omega | (simp only [World.size_alloc]; omega) | (simp only [size_drew_]; omega) | (simp only [World.size_alloc, size_drew_]; omega))))
    clear BB_8
    have s9 := hb.size
    simp only [World.size_alloc] at s9
    clear hb
    have qOG_9 := OG_9.out.cell
    have qOGC_9 := OGC_9.out.cell
    have qOR_9 := OR_9.out.cell
    have qOC_9 := OC_9.out.cell
    go_wp2_with fail
    refine (eqCredit_any H K _).mono ?_
    rintro e w10 ⟨rfl, hb⟩
    clear qOG_9 qOGC_9 qOR_9 qOC_9
    have A_10 := Lib.hid (A_9.out.below (hb.mono (by first | omega | (simp only [World.size_alloc]; omega) | (simp only [size_drew_]; omega) | (simp only [World.size_alloc, size_drew_]; omega))))
    clear A_9
    have R__10 := Lib.hid (R__9.out.below hb (by first | omega | (simp only [World.size_alloc]; omega) | (simp only [size_drew_]; omega) | (simp only [World.size_alloc, size_drew_]; omega)))
    clear R__9
    have TR_10 := Lib.hid (TR_9.out.below hb (by first | omega | (simp only [World.size_alloc]; omega) | (simp only [size_drew_]; omega) | (simp only [World.size_alloc, size_drew_]; omega)))
    clear TR_9
    have OR_10 := Lib.hid (OR_9.out.below hb)
    clear OR_9
    have OC_10 := Lib.hid (OC_9.out.below hb)
    clear OC_9
    have X_10 := Lib.hid (X_9.out.below hb (by first | omega | (simp only [World.size_alloc]; omega) | (simp only [size_drew_]; omega) | (simp only [World.size_alloc, size_drew_]; omega)))
    clear X_9
    have G_10 := Lib.hid (G_9.out.below hb (by first | omega | (simp only [World.size_alloc]; omega) | (simp only [size_drew_]; omega) | (simp only [World.size_alloc, size_drew_]; omega)))
    clear G_9
    have TG_10 := Lib.hid (TG_9.out.below hb (by first | omega | (simp only [World.size_alloc]; omega) | (simp only [size_drew_]; omega) | (simp only [World.size_alloc, size_drew_]; omega)))
    clear TG_9
    have OG_10 := Lib.hid (OG_9.out.below hb)
    clear OG_9
    have OGC_10 := Lib.hid (OGC_9.out.below hb)
    clear OGC_9
    have BB_10 := Lib.hid (BB_9.out.trans (hb.mono (by first | omega | (simp only [World.size_alloc]; omega) | (simp only [size_drew_]; omega) | (simp only [World.size_alloc, size_drew_]; omega))))
    clear BB_9
    have s10 := hb.size
    clear hb
    go_wp2_with fail
    refine (eqInts_b _ _ _ _ _ _ TS _ _ _ TG_10.out.nums TR_10.out.nums rfl rfl).mono ?_
    rintro e w11 ⟨rfl, hb⟩
    have A_11 := Lib.hid (A_10.out.below (hb.mono (by first | omega | (simp only [World.size_alloc]; omega) | (simp only [size_drew_]; omega) | (simp only [World.size_alloc, size_drew_]; omega))))
    clear A_10
    have R__11 := Lib.hid (R__10.out.below hb (by first | omega | (simp only [World.size_alloc]; omega) | (simp only [size_drew_]; omega) | (simp only [World.size_alloc, size_drew_]; omega)))
    clear R__10
    have TR_11 := Lib.hid (TR_10.out.below hb (by first | omega | (simp only [World.size_alloc]; omega) | (simp only [size_drew_]; omega) | (simp only [World.size_alloc, size_drew_]; omega)))
    clear TR_10
    have OR_11 := Lib.hid (OR_10.out.below hb)
    clear OR_10
    have OC_11 := Lib.hid (OC_10.out.below hb)
    clear OC_10
    have X_11 := Lib.hid (X_10.out.below hb (by first | omega | (simp only [World.size_alloc]; omega) | (simp only [size_drew_]; omega) | (simp only [World.size_alloc, size_drew_]; omega)))
    clear X_10
    have G_11 := Lib.hid (G_10.out.below hb (by first | omega | (simp only [World.size_alloc]; omega) | (simp only [size_drew_]; omega) | (simp only [World.size_alloc, size_drew_]; omega)))
    clear G_10
    have TG_11 := Lib.hid (TG_10.out.below hb (by first | omega | (simp only [World.size_alloc]; omega) | (simp only [size_drew_]; omega) | (simp only [World.size_alloc, size_drew_]; omega)))
    clear TG_10
    have OG_11 := Lib.hid (OG_10.out.below hb)
    clear OG_10
    have OGC_11 := Lib.hid (OGC_10.out.below hb)
    clear OGC_10
    have BB_11 := Lib.hid (BB_10.out.trans (hb.mono (by first | omega | (simp only [World.size_alloc]; omega) | (simp only [size_drew_]; omega) | (simp only [World.size_alloc, size_drew_]; omega))))
    clear BB_10
    have s11 := hb.size
    clear hb
    go_wp2_with fail
    refine (toInts_n a _ c xs _ _ A_11.out rfl (by first | omega | (simp only [World.size_alloc]; omega) | (simp only [size_drew_]; omega) | (simp only [World.size_alloc, size_drew_]; omega)) hle).mono ?_
    rintro e w12 ⟨a12, c12, rfl, ho, hb⟩
    have A_12 := Lib.hid (A_11.out.below (hb.mono (by first | omega | (simp only [World.size_alloc]; omega) | (simp only [size_drew_]; omega) | (simp only [World.size_alloc, size_drew_]; omega))))
    clear A_11
    have R__12 := Lib.hid (R__11.out.below hb (by first | omega | (simp only [World.size_alloc]; omega) | (simp only [size_drew_]; omega) | (simp only [World.size_alloc, size_drew_]; omega)))
    clear R__11
    have TR_12 := Lib.hid (TR_11.out.below hb (by first | omega | (simp only [World.size_alloc]; omega) | (simp only [size_drew_]; omega) | (simp only [World.size_alloc, size_drew_]; omega)))
    clear TR_11
    have OR_12 := Lib.hid (OR_11.out.below hb)
    clear OR_11
    have OC_12 := Lib.hid (OC_11.out.below hb)
    clear OC_11
    have X_12 := Lib.hid (X_11.out.below hb (by first | omega | (simp only [World.size_alloc]; omega) | (simp only [size_drew_]; omega) | (simp only [World.size_alloc, size_drew_]; omega)))
    clear X_11
    have G_12 := Lib.hid (G_11.out.below hb (by first | omega | (simp only [World.size_alloc]; omega) | (simp only [size_drew_]; omega) | (simp only [World.size_alloc, size_drew_]; omega)))
    clear G_11
    have TG_12 := Lib.hid (TG_11.out.below hb (by first | omega | (simp only [World.size_alloc]; omega) | (simp only [size_drew_]; omega) | (simp only [World.size_alloc, size_drew_]; omega)))
    clear TG_11
    have OG_12 := Lib.hid (OG_11.out.below hb)
    clear OG_11
    have OGC_12 := Lib.hid (OGC_11.out.below hb)
    clear OGC_11
    have BB_12 := Lib.hid (BB_11.out.trans (hb.mono (by first | omega | (simp only [World.size_alloc]; omega) | (simp only [size_drew_]; omega) | (simp only [World.size_alloc, size_drew_]; omega))))
    clear BB_11
    have Z_12 := Lib.hid (Rw.new ho)
    clear ho
    have s12 := hb.size
    clear hb
    go_wp2_with fail
    refine (eqInts_b _ _ _ _ _ _ xs _ _ _ X_12.out.nums Z_12.out.nums rfl rfl).mono ?_
    rintro e w13 ⟨rfl, hb⟩
    have A_13 := Lib.hid (A_12.out.below (hb.mono (by first | omega | (simp only [World.size_alloc]; omega) | (simp only [size_drew_]; omega) | (simp only [World.size_alloc, size_drew_]; omega))))
    clear A_12
    have R__13 := Lib.hid (R__12.out.below hb (by first | omega | (simp only [World.size_alloc]; omega) | (simp only [size_drew_]; omega) | (simp only [World.size_alloc, size_drew_]; omega)))
    clear R__12
    have TR_13 := Lib.hid (TR_12.out.below hb (by first | omega | (simp only [World.size_alloc]; omega) | (simp only [size_drew_]; omega) | (simp only [World.size_alloc, size_drew_]; omega)))
    clear TR_12
    have OR_13 := Lib.hid (OR_12.out.below hb)
    clear OR_12
    have OC_13 := Lib.hid (OC_12.out.below hb)
    clear OC_12
    have X_13 := Lib.hid (X_12.out.below hb (by first | omega | (simp only [World.size_alloc]; omega) | (simp only [size_drew_]; omega) | (simp only [World.size_alloc, size_drew_]; omega)))
    clear X_12
    have G_13 := Lib.hid (G_12.out.below hb (by first | omega | (simp only [World.size_alloc]; omega) | (simp only [size_drew_]; omega) | (simp only [World.size_alloc, size_drew_]; omega)))
    clear G_12
    have TG_13 := Lib.hid (TG_12.out.below hb (by first | omega | (simp only [World.size_alloc]; omega) | (simp only [size_drew_]; omega) | (simp only [World.size_alloc, size_drew_]; omega)))
    clear TG_12
    have OG_13 := Lib.hid (OG_12.out.below hb)
    clear OG_12
    have OGC_13 := Lib.hid (OGC_12.out.below hb)
    clear OGC_12
    have Z_13 := Lib.hid (Z_12.out.below hb (by first | omega | (simp only [World.size_alloc]; omega) | (simp only [size_drew_]; omega) | (simp only [World.size_alloc, size_drew_]; omega)))
    clear Z_12
    have BB_13 := Lib.hid (BB_12.out.trans (hb.mono (by first | omega | (simp only [World.size_alloc]; omega) | (simp only [size_drew_]; omega) | (simp only [World.size_alloc, size_drew_]; omega))))
    clear BB_12
    have s13 := hb.size
    clear hb
    clear Z_13
    go_wp2_with fail
    refine (markInts_m _ _ _ 1 _ xs _ _ X_13.out.own rfl rfl (by first | omega | (simp only [World.size_alloc]; omega) | (simp only [size_drew_]; omega) | (simp only [World.size_alloc, size_drew_]; omega)) (by omega) (by omega)).mono ?_
    rintro e w14 ⟨rfl, hm⟩
    have hb := hm.below
    have X_14 := Lib.hid (Rw.mk hm.own X_13.out.up)
    have A_14 := Lib.hid (A_13.out.below (hb.mono (by first | omega | (simp only [World.size_alloc]; omega) | (simp only [size_drew_]; omega) | (simp only [World.size_alloc, size_drew_]; omega))))
    clear A_13
    have R__14 := Lib.hid (R__13.out.other X_13.out hm.grown (by first | omega | (simp only [World.size_alloc]; omega) | (simp only [size_drew_]; omega) | (simp only [World.size_alloc, size_drew_]; omega)))
    clear R__13
    have TR_14 := Lib.hid (TR_13.out.other X_13.out hm.grown (by first | omega | (simp only [World.size_alloc]; omega) | (simp only [size_drew_]; omega) | (simp only [World.size_alloc, size_drew_]; omega)))
    clear TR_13
    have OR_14 := Lib.hid (OR_13.out.far X_13.out hm.grown (by first | omega | (simp only [World.size_alloc]; omega) | (simp only [size_drew_]; omega) | (simp only [World.size_alloc, size_drew_]; omega)))
    clear OR_13
    have OC_14 := Lib.hid (OC_13.out.far X_13.out hm.grown (by first | omega | (simp only [World.size_alloc]; omega) | (simp only [size_drew_]; omega) | (simp only [World.size_alloc, size_drew_]; omega)))
    clear OC_13
    have G_14 := Lib.hid (G_13.out.other X_13.out hm.grown (by first | omega | (simp only [World.size_alloc]; omega) | (simp only [size_drew_]; omega) | (simp only [World.size_alloc, size_drew_]; omega)))
    clear G_13
    have TG_14 := Lib.hid (TG_13.out.other X_13.out hm.grown (by first | omega | (simp only [World.size_alloc]; omega) | (simp only [size_drew_]; omega) | (simp only [World.size_alloc, size_drew_]; omega)))
    clear TG_13
    have OG_14 := Lib.hid (OG_13.out.far X_13.out hm.grown (by first | omega | (simp only [World.size_alloc]; omega) | (simp only [size_drew_]; omega) | (simp only [World.size_alloc, size_drew_]; omega)))
    clear OG_13
    have OGC_14 := Lib.hid (OGC_13.out.far X_13.out hm.grown (by first | omega | (simp only [World.size_alloc]; omega) | (simp only [size_drew_]; omega) | (simp only [World.size_alloc, size_drew_]; omega)))
    clear OGC_13
    have BB_14 := Lib.hid (BB_13.out.trans (hb.mono (by first | omega | (simp only [World.size_alloc]; omega) | (simp only [size_drew_]; omega) | (simp only [World.size_alloc, size_drew_]; omega))))
    clear BB_13
    clear X_13
    have s14 := hb.size
    clear hb hm
    have qOG_14 := OG_14.out.cell
    have qOGC_14 := OGC_14.out.cell
    have qOR_14 := OR_14.out.cell
    have qOC_14 := OC_14.out.cell
    go_wp2_with fail
    refine (eqRing_any _ _ _ _ _ _ P K L _ _ _ G_14.out.nums R__14.out.nums rfl rfl (Nat.le_refl _) (Nat.le_refl _)).mono ?_
    rintro e w15 ⟨rfl, hb⟩
    clear qOG_14 qOGC_14 qOR_14 qOC_14
    have A_15 := Lib.hid (A_14.out.below (hb.mono (by first | omega | (simp only [World.size_alloc]; omega) | (simp only [size_drew_]; omega) | (simp only [World.size_alloc, size_drew_]; omega))))
    clear A_14
    have R__15 := Lib.hid (R__14.out.below hb (by first | omega | (simp only [World.size_alloc]; omega) | (simp only [size_drew_]; omega) | (simp only [World.size_alloc, size_drew_]; omega)))
    clear R__14
    have TR_15 := Lib.hid (TR_14.out.below hb (by first | omega | (simp only [World.size_alloc]; omega) | (simp only [size_drew_]; omega) | (simp only [World.size_alloc, size_drew_]; omega)))
    clear TR_14
    have OR_15 := Lib.hid (OR_14.out.below hb)
    clear OR_14
    have OC_15 := Lib.hid (OC_14.out.below hb)
    clear OC_14
    have X_15 := Lib.hid (X_14.out.below hb (by first | omega | (simp only [World.size_alloc]; omega) | (simp only [size_drew_]; omega) | (simp only [World.size_alloc, size_drew_]; omega)))
    clear X_14
    have G_15 := Lib.hid (G_14.out.below hb (by first | omega | (simp only [World.size_alloc]; omega) | (simp only [size_drew_]; omega) | (simp only [World.size_alloc, size_drew_]; omega)))
    clear G_14
    have TG_15 := Lib.hid (TG_14.out.below hb (by first | omega | (simp only [World.size_alloc]; omega) | (simp only [size_drew_]; omega) | (simp only [World.size_alloc, size_drew_]; omega)))
    clear TG_14
    have OG_15 := Lib.hid (OG_14.out.below hb)
    clear OG_14
    have OGC_15 := Lib.hid (OGC_14.out.below hb)
    clear OGC_14
    have BB_15 := Lib.hid (BB_14.out.trans (hb.mono (by first | omega | (simp only [World.size_alloc]; omega) | (simp only [size_drew_]; omega) | (simp only [World.size_alloc, size_drew_]; omega))))
    clear BB_14
    have s15 := hb.size
    clear hb
    have qOG_15 := OG_15.out.cell
    have qOGC_15 := OGC_15.out.cell
    have qOR_15 := OR_15.out.cell
    have qOC_15 := OC_15.out.cell
    go_wp2_with fail
    refine (eqCredit_any H K _).mono ?_
    rintro e w16 ⟨rfl, hb⟩
    clear qOG_15 qOGC_15 qOR_15 qOC_15
    have A_16 := Lib.hid (A_15.out.below (hb.mono (by first | omega | (simp only [World.size_alloc]; omega) | (simp only [size_drew_]; omega) | (simp only [World.size_alloc, size_drew_]; omega))))
    clear A_15
    have R__16 := Lib.hid (R__15.out.below hb (by first | omega | (simp only [World.size_alloc]; omega) | (simp only [size_drew_]; omega) | (simp only [World.size_alloc, size_drew_]; omega)))
    clear R__15
    have TR_16 := Lib.hid (TR_15.out.below hb (by first | omega | (simp only [World.size_alloc]; omega) | (simp only [size_drew_]; omega) | (simp only [World.size_alloc, size_drew_]; omega)))
    clear TR_15
    have OR_16 := Lib.hid (OR_15.out.below hb)
    clear OR_15
    have OC_16 := Lib.hid (OC_15.out.below hb)
    clear OC_15
    have X_16 := Lib.hid (X_15.out.below hb (by first | omega | (simp only [World.size_alloc]; omega) | (simp only [size_drew_]; omega) | (simp only [World.size_alloc, size_drew_]; omega)))
    clear X_15
    have G_16 := Lib.hid (G_15.out.below hb (by first | omega | (simp only [World.size_alloc]; omega) | (simp only [size_drew_]; omega) | (simp only [World.size_alloc, size_drew_]; omega)))
    clear G_15
    have TG_16 := Lib.hid (TG_15.out.below hb (by first | omega | (simp only [World.size_alloc]; omega) | (simp only [size_drew_]; omega) | (simp only [World.size_alloc, size_drew_]; omega)))
    clear TG_15
    have OG_16 := Lib.hid (OG_15.out.below hb)
    clear OG_15
    have OGC_16 := Lib.hid (OGC_15.out.below hb)
    clear OGC_15
    have BB_16 := Lib.hid (BB_15.out.trans (hb.mono (by first | omega | (simp only [World.size_alloc]; omega) | (simp only [size_drew_]; omega) | (simp only [World.size_alloc, size_drew_]; omega))))
    clear BB_15
    have s16 := hb.size
    clear hb
    go_wp2_with fail
    refine (eqInts_b _ _ _ _ _ _ TS _ _ _ TG_16.out.nums TR_16.out.nums rfl rfl).mono ?_
    rintro e w17 ⟨rfl, hb⟩
    have A_17 := Lib.hid (A_16.out.below (hb.mono (by first | omega | (simp only [World.size_alloc]; omega) | (simp only [size_drew_]; omega) | (simp only [World.size_alloc, size_drew_]; omega))))
    clear A_16
    have R__17 := Lib.hid (R__16.out.below hb (by first | omega | (simp only [World.size_alloc]; omega) | (simp only [size_drew_]; omega) | (simp only [World.size_alloc, size_drew_]; omega)))
    clear R__16
    have TR_17 := Lib.hid (TR_16.out.below hb (by first | omega | (simp only [World.size_alloc]; omega) | (simp only [size_drew_]; omega) | (simp only [World.size_alloc, size_drew_]; omega)))
    clear TR_16
    have OR_17 := Lib.hid (OR_16.out.below hb)
    clear OR_16
    have OC_17 := Lib.hid (OC_16.out.below hb)
    clear OC_16
    have X_17 := Lib.hid (X_16.out.below hb (by first | omega | (simp only [World.size_alloc]; omega) | (simp only [size_drew_]; omega) | (simp only [World.size_alloc, size_drew_]; omega)))
    clear X_16
    have G_17 := Lib.hid (G_16.out.below hb (by first | omega | (simp only [World.size_alloc]; omega) | (simp only [size_drew_]; omega) | (simp only [World.size_alloc, size_drew_]; omega)))
    clear G_16
    have TG_17 := Lib.hid (TG_16.out.below hb (by first | omega | (simp only [World.size_alloc]; omega) | (simp only [size_drew_]; omega) | (simp only [World.size_alloc, size_drew_]; omega)))
    clear TG_16
    have OG_17 := Lib.hid (OG_16.out.below hb)
    clear OG_16
    have OGC_17 := Lib.hid (OGC_16.out.below hb)
    clear OGC_16
    have BB_17 := Lib.hid (BB_16.out.trans (hb.mono (by first | omega | (simp only [World.size_alloc]; omega) | (simp only [size_drew_]; omega) | (simp only [World.size_alloc, size_drew_]; omega))))
    clear BB_16
    have s17 := hb.size
    clear hb
    have qOG_17 := OG_17.out.cell
    go_wp2_with fail
    refine (markRing_m _ _ _ 1 P K _ L _ _ G_17.out.own rfl rfl (by first | omega | (simp only [World.size_alloc]; omega) | (simp only [size_drew_]; omega) | (simp only [World.size_alloc, size_drew_]; omega)) (by omega) (by omega)).mono ?_
    rintro e w18 ⟨rfl, hm⟩
    clear qOG_17
    have hb := hm.below
    have G_18 := Lib.hid (Rw.mk hm.own G_17.out.up)
    have A_18 := Lib.hid (A_17.out.below (hb.mono (by first | omega | (simp only [World.size_alloc]; omega) | (simp only [size_drew_]; omega) | (simp only [World.size_alloc, size_drew_]; omega))))
    clear A_17
    have R__18 := Lib.hid (R__17.out.other G_17.out hm.grown (by first | omega | (simp only [World.size_alloc]; omega) | (simp only [size_drew_]; omega) | (simp only [World.size_alloc, size_drew_]; omega)))
    clear R__17
    have TR_18 := Lib.hid (TR_17.out.other G_17.out hm.grown (by first | omega | (simp only [World.size_alloc]; omega) | (simp only [size_drew_]; omega) | (simp only [World.size_alloc, size_drew_]; omega)))
    clear TR_17
    have OR_18 := Lib.hid (OR_17.out.far G_17.out hm.grown (by first | omega | (simp only [World.size_alloc]; omega) | (simp only [size_drew_]; omega) | (simp only [World.size_alloc, size_drew_]; omega)))
    clear OR_17
    have OC_18 := Lib.hid (OC_17.out.far G_17.out hm.grown (by first | omega | (simp only [World.size_alloc]; omega) | (simp only [size_drew_]; omega) | (simp only [World.size_alloc, size_drew_]; omega)))
    clear OC_17
    have X_18 := Lib.hid (X_17.out.other G_17.out hm.grown (by first | omega | (simp only [World.size_alloc]; omega) | (simp only [size_drew_]; omega) | (simp only [World.size_alloc, size_drew_]; omega)))
    clear X_17
    have TG_18 := Lib.hid (TG_17.out.other G_17.out hm.grown (by first | omega | (simp only [World.size_alloc]; omega) | (simp only [size_drew_]; omega) | (simp only [World.size_alloc, size_drew_]; omega)))
    clear TG_17
    have OG_18 := Lib.hid (OG_17.out.far G_17.out hm.grown (by first | omega | (simp only [World.size_alloc]; omega) | (simp only [size_drew_]; omega) | (simp only [World.size_alloc, size_drew_]; omega)))
    clear OG_17
    have OGC_18 := Lib.hid (OGC_17.out.far G_17.out hm.grown (by first | omega | (simp only [World.size_alloc]; omega) | (simp only [size_drew_]; omega) | (simp only [World.size_alloc, size_drew_]; omega)))
    clear OGC_17
    have BB_18 := Lib.hid (BB_17.out.trans (hb.mono (by first | omega | (simp only [World.size_alloc]; omega) | (simp only [size_drew_]; omega) | (simp only [World.size_alloc, size_drew_]; omega))))
    clear BB_17
    clear G_17
    have s18 := hb.size
    clear hb hm
    go_wp2_with fail
    refine (markInts_m _ _ _ (1 + L.length) _ TS _ _ TG_18.out.own (by simp) rfl (by first | omega | (simp only [World.size_alloc]; omega) | (simp only [size_drew_]; omega) | (simp only [World.size_alloc, size_drew_]; omega)) (by omega) (by omega)).mono ?_
    rintro e w19 ⟨rfl, hm⟩
    have hb := hm.below
    have TG_19 := Lib.hid (Rw.mk hm.own TG_18.out.up)
    have A_19 := Lib.hid (A_18.out.below (hb.mono (by first | omega | (simp only [World.size_alloc]; omega) | (simp only [size_drew_]; omega) | (simp only [World.size_alloc, size_drew_]; omega))))
    clear A_18
    have R__19 := Lib.hid (R__18.out.other TG_18.out hm.grown (by first | omega | (simp only [World.size_alloc]; omega) | (simp only [size_drew_]; omega) | (simp only [World.size_alloc, size_drew_]; omega)))
    clear R__18
    have TR_19 := Lib.hid (TR_18.out.other TG_18.out hm.grown (by first | omega | (simp only [World.size_alloc]; omega) | (simp only [size_drew_]; omega) | (simp only [World.size_alloc, size_drew_]; omega)))
    clear TR_18
    have OR_19 := Lib.hid (OR_18.out.far TG_18.out hm.grown (by first | omega | (simp only [World.size_alloc]; omega) | (simp only [size_drew_]; omega) | (simp only [World.size_alloc, size_drew_]; omega)))
    clear OR_18
    have OC_19 := Lib.hid (OC_18.out.far TG_18.out hm.grown (by first | omega | (simp only [World.size_alloc]; omega) | (simp only [size_drew_]; omega) | (simp only [World.size_alloc, size_drew_]; omega)))
    clear OC_18
    have X_19 := Lib.hid (X_18.out.other TG_18.out hm.grown (by first | omega | (simp only [World.size_alloc]; omega) | (simp only [size_drew_]; omega) | (simp only [World.size_alloc, size_drew_]; omega)))
    clear X_18
    have G_19 := Lib.hid (G_18.out.other TG_18.out hm.grown (by first | omega | (simp only [World.size_alloc]; omega) | (simp only [size_drew_]; omega) | (simp only [World.size_alloc, size_drew_]; omega)))
    clear G_18
    have OG_19 := Lib.hid (OG_18.out.far TG_18.out hm.grown (by first | omega | (simp only [World.size_alloc]; omega) | (simp only [size_drew_]; omega) | (simp only [World.size_alloc, size_drew_]; omega)))
    clear OG_18
    have OGC_19 := Lib.hid (OGC_18.out.far TG_18.out hm.grown (by first | omega | (simp only [World.size_alloc]; omega) | (simp only [size_drew_]; omega) | (simp only [World.size_alloc, size_drew_]; omega)))
    clear OGC_18
    have BB_19 := Lib.hid (BB_18.out.trans (hb.mono (by first | omega | (simp only [World.size_alloc]; omega) | (simp only [size_drew_]; omega) | (simp only [World.size_alloc, size_drew_]; omega))))
    clear BB_18
    clear TG_18
    have s19 := hb.size
    clear hb hm
    have qOG_19 := OG_19.out.cell
    go_wp2_with fail
    refine (heldRing_m _ _ _ 1 P K _ _ _ G_19.out.nums (Nat.le_refl _) rfl (by omega) (by omega)).mono ?_
    rintro e w20 ⟨rfl, hb⟩
    clear qOG_19
    have A_20 := Lib.hid (A_19.out.below (hb.mono (by first | omega | (simp only [World.size_alloc]; omega) | (simp only [size_drew_]; omega) | (simp only [World.size_alloc, size_drew_]; omega))))
    clear A_19
    have R__20 := Lib.hid (R__19.out.below hb (by first | omega | (simp only [World.size_alloc]; omega) | (simp only [size_drew_]; omega) | (simp only [World.size_alloc, size_drew_]; omega)))
    clear R__19
    have TR_20 := Lib.hid (TR_19.out.below hb (by first | omega | (simp only [World.size_alloc]; omega) | (simp only [size_drew_]; omega) | (simp only [World.size_alloc, size_drew_]; omega)))
    clear TR_19
    have OR_20 := Lib.hid (OR_19.out.below hb)
    clear OR_19
    have OC_20 := Lib.hid (OC_19.out.below hb)
    clear OC_19
    have X_20 := Lib.hid (X_19.out.below hb (by first | omega | (simp only [World.size_alloc]; omega) | (simp only [size_drew_]; omega) | (simp only [World.size_alloc, size_drew_]; omega)))
    clear X_19
    have G_20 := Lib.hid (G_19.out.below hb (by first | omega | (simp only [World.size_alloc]; omega) | (simp only [size_drew_]; omega) | (simp only [World.size_alloc, size_drew_]; omega)))
    clear G_19
    have TG_20 := Lib.hid (TG_19.out.below hb (by first | omega | (simp only [World.size_alloc]; omega) | (simp only [size_drew_]; omega) | (simp only [World.size_alloc, size_drew_]; omega)))
    clear TG_19
    have OG_20 := Lib.hid (OG_19.out.below hb)
    clear OG_19
    have OGC_20 := Lib.hid (OGC_19.out.below hb)
    clear OGC_19
    have BB_20 := Lib.hid (BB_19.out.trans (hb.mono (by first | omega | (simp only [World.size_alloc]; omega) | (simp only [size_drew_]; omega) | (simp only [World.size_alloc, size_drew_]; omega))))
    clear BB_19
    have s20 := hb.size
    clear hb
    go_wp2_with fail
    refine (heldInts_m _ _ _ (1 + L.length) _ _ _ TG_20.out.nums (by simp) (by omega) (by omega)).mono ?_
    rintro e w21 ⟨rfl, hb⟩
    have A_21 := Lib.hid (A_20.out.below (hb.mono (by first | omega | (simp only [World.size_alloc]; omega) | (simp only [size_drew_]; omega) | (simp only [World.size_alloc, size_drew_]; omega))))
    clear A_20
    have R__21 := Lib.hid (R__20.out.below hb (by first | omega | (simp only [World.size_alloc]; omega) | (simp only [size_drew_]; omega) | (simp only [World.size_alloc, size_drew_]; omega)))
    clear R__20
    have TR_21 := Lib.hid (TR_20.out.below hb (by first | omega | (simp only [World.size_alloc]; omega) | (simp only [size_drew_]; omega) | (simp only [World.size_alloc, size_drew_]; omega)))
    clear TR_20
    have OR_21 := Lib.hid (OR_20.out.below hb)
    clear OR_20
    have OC_21 := Lib.hid (OC_20.out.below hb)
    clear OC_20
    have X_21 := Lib.hid (X_20.out.below hb (by first | omega | (simp only [World.size_alloc]; omega) | (simp only [size_drew_]; omega) | (simp only [World.size_alloc, size_drew_]; omega)))
    clear X_20
    have G_21 := Lib.hid (G_20.out.below hb (by first | omega | (simp only [World.size_alloc]; omega) | (simp only [size_drew_]; omega) | (simp only [World.size_alloc, size_drew_]; omega)))
    clear G_20
    have TG_21 := Lib.hid (TG_20.out.below hb (by first | omega | (simp only [World.size_alloc]; omega) | (simp only [size_drew_]; omega) | (simp only [World.size_alloc, size_drew_]; omega)))
    clear TG_20
    have OG_21 := Lib.hid (OG_20.out.below hb)
    clear OG_20
    have OGC_21 := Lib.hid (OGC_20.out.below hb)
    clear OGC_20
    have BB_21 := Lib.hid (BB_20.out.trans (hb.mono (by first | omega | (simp only [World.size_alloc]; omega) | (simp only [size_drew_]; omega) | (simp only [World.size_alloc, size_drew_]; omega))))
    clear BB_20
    have s21 := hb.size
    clear hb
    go_wp2_with fail
    refine (toInts_n a _ c xs _ _ A_21.out rfl (by first | omega | (simp only [World.size_alloc]; omega) | (simp only [size_drew_]; omega) | (simp only [World.size_alloc, size_drew_]; omega)) hle).mono ?_
    rintro e w22 ⟨a22, c22, rfl, ho, hb⟩
    have A_22 := Lib.hid (A_21.out.below (hb.mono (by first | omega | (simp only [World.size_alloc]; omega) | (simp only [size_drew_]; omega) | (simp only [World.size_alloc, size_drew_]; omega))))
    clear A_21
    have R__22 := Lib.hid (R__21.out.below hb (by first | omega | (simp only [World.size_alloc]; omega) | (simp only [size_drew_]; omega) | (simp only [World.size_alloc, size_drew_]; omega)))
    clear R__21
    have TR_22 := Lib.hid (TR_21.out.below hb (by first | omega | (simp only [World.size_alloc]; omega) | (simp only [size_drew_]; omega) | (simp only [World.size_alloc, size_drew_]; omega)))
    clear TR_21
    have OR_22 := Lib.hid (OR_21.out.below hb)
    clear OR_21
    have OC_22 := Lib.hid (OC_21.out.below hb)
    clear OC_21
    have X_22 := Lib.hid (X_21.out.below hb (by first | omega | (simp only [World.size_alloc]; omega) | (simp only [size_drew_]; omega) | (simp only [World.size_alloc, size_drew_]; omega)))
    clear X_21
    have G_22 := Lib.hid (G_21.out.below hb (by first | omega | (simp only [World.size_alloc]; omega) | (simp only [size_drew_]; omega) | (simp only [World.size_alloc, size_drew_]; omega)))
    clear G_21
    have TG_22 := Lib.hid (TG_21.out.below hb (by first | omega | (simp only [World.size_alloc]; omega) | (simp only [size_drew_]; omega) | (simp only [World.size_alloc, size_drew_]; omega)))
    clear TG_21
    have OG_22 := Lib.hid (OG_21.out.below hb)
    clear OG_21
    have OGC_22 := Lib.hid (OGC_21.out.below hb)
    clear OGC_21
    have BB_22 := Lib.hid (BB_21.out.trans (hb.mono (by first | omega | (simp only [World.size_alloc]; omega) | (simp only [size_drew_]; omega) | (simp only [World.size_alloc, size_drew_]; omega))))
    clear BB_21
    have X2_22 := Lib.hid (Rw.new ho)
    clear ho
    have s22 := hb.size
    clear hb
    go_wp2_with fail
    refine (IP.out _ _ _ X2_22.out.nums).mono ?_
    rintro e w23 ⟨a23, c23, a23b, c23b, t23, rfl, hta23, htb23, ho, ho2, hb⟩
    have A_23 := Lib.hid (A_22.out.below (hb.mono (by first | omega | (simp only [World.size_alloc]; omega) | (simp only [size_drew_]; omega) | (simp only [World.size_alloc, size_drew_]; omega))))
    clear A_22
    have R__23 := Lib.hid (R__22.out.below hb (by first | omega | (simp only [World.size_alloc]; omega) | (simp only [size_drew_]; omega) | (simp only [World.size_alloc, size_drew_]; omega)))
    clear R__22
    have TR_23 := Lib.hid (TR_22.out.below hb (by first | omega | (simp only [World.size_alloc]; omega) | (simp only [size_drew_]; omega) | (simp only [World.size_alloc, size_drew_]; omega)))
    clear TR_22
    have OR_23 := Lib.hid (OR_22.out.below hb)
    clear OR_22
    have OC_23 := Lib.hid (OC_22.out.below hb)
    clear OC_22
    have X_23 := Lib.hid (X_22.out.below hb (by first | omega | (simp only [World.size_alloc]; omega) | (simp only [size_drew_]; omega) | (simp only [World.size_alloc, size_drew_]; omega)))
    clear X_22
    have G_23 := Lib.hid (G_22.out.below hb (by first | omega | (simp only [World.size_alloc]; omega) | (simp only [size_drew_]; omega) | (simp only [World.size_alloc, size_drew_]; omega)))
    clear G_22
    have TG_23 := Lib.hid (TG_22.out.below hb (by first | omega | (simp only [World.size_alloc]; omega) | (simp only [size_drew_]; omega) | (simp only [World.size_alloc, size_drew_]; omega)))
    clear TG_22
    have OG_23 := Lib.hid (OG_22.out.below hb)
    clear OG_22
    have OGC_23 := Lib.hid (OGC_22.out.below hb)
    clear OGC_22
    have X2_23 := Lib.hid (X2_22.out.below hb (by first | omega | (simp only [World.size_alloc]; omega) | (simp only [size_drew_]; omega) | (simp only [World.size_alloc, size_drew_]; omega)))
    clear X2_22
    have BB_23 := Lib.hid (BB_22.out.trans (hb.mono (by first | omega | (simp only [World.size_alloc]; omega) | (simp only [size_drew_]; omega) | (simp only [World.size_alloc, size_drew_]; omega))))
    clear BB_22
    have H__23 := Lib.hid ho
    have TH_23 := Lib.hid (Rw.new ho2)
    clear ho ho2
    have s23 := hb.size
    clear hb
    clear X2_23
    have A_24 := Lib.hid (A_23.out.below (((Below.refl w23.heap.size w23).alloc (Nat.le_refl _) (.cells #[.slice a23 L.length c23, .int .i64 P, .int .i64 K] 35)).mono (by first | omega | (simp only [World.size_alloc]; omega) | (simp only [size_drew_]; omega) | (simp only [World.size_alloc, size_drew_]; omega))))
    clear A_23
    have R__24 := Lib.hid (R__23.out.below ((Below.refl w23.heap.size w23).alloc (Nat.le_refl _) (.cells #[.slice a23 L.length c23, .int .i64 P, .int .i64 K] 35)) (by first | omega | (simp only [World.size_alloc]; omega) | (simp only [size_drew_]; omega) | (simp only [World.size_alloc, size_drew_]; omega)))
    clear R__23
    have TR_24 := Lib.hid (TR_23.out.below ((Below.refl w23.heap.size w23).alloc (Nat.le_refl _) (.cells #[.slice a23 L.length c23, .int .i64 P, .int .i64 K] 35)) (by first | omega | (simp only [World.size_alloc]; omega) | (simp only [size_drew_]; omega) | (simp only [World.size_alloc, size_drew_]; omega)))
    clear TR_23
    have OR_24 := Lib.hid (OR_23.out.alloc (.cells #[.slice a23 L.length c23, .int .i64 P, .int .i64 K] 35))
    clear OR_23
    have OC_24 := Lib.hid (OC_23.out.alloc (.cells #[.slice a23 L.length c23, .int .i64 P, .int .i64 K] 35))
    clear OC_23
    have X_24 := Lib.hid (X_23.out.below ((Below.refl w23.heap.size w23).alloc (Nat.le_refl _) (.cells #[.slice a23 L.length c23, .int .i64 P, .int .i64 K] 35)) (by first | omega | (simp only [World.size_alloc]; omega) | (simp only [size_drew_]; omega) | (simp only [World.size_alloc, size_drew_]; omega)))
    clear X_23
    have G_24 := Lib.hid (G_23.out.below ((Below.refl w23.heap.size w23).alloc (Nat.le_refl _) (.cells #[.slice a23 L.length c23, .int .i64 P, .int .i64 K] 35)) (by first | omega | (simp only [World.size_alloc]; omega) | (simp only [size_drew_]; omega) | (simp only [World.size_alloc, size_drew_]; omega)))
    clear G_23
    have TG_24 := Lib.hid (TG_23.out.below ((Below.refl w23.heap.size w23).alloc (Nat.le_refl _) (.cells #[.slice a23 L.length c23, .int .i64 P, .int .i64 K] 35)) (by first | omega | (simp only [World.size_alloc]; omega) | (simp only [size_drew_]; omega) | (simp only [World.size_alloc, size_drew_]; omega)))
    clear TG_23
    have OG_24 := Lib.hid (OG_23.out.alloc (.cells #[.slice a23 L.length c23, .int .i64 P, .int .i64 K] 35))
    clear OG_23
    have OGC_24 := Lib.hid (OGC_23.out.alloc (.cells #[.slice a23 L.length c23, .int .i64 P, .int .i64 K] 35))
    clear OGC_23
    have H__24 := Lib.hid (H__23.out.below ((Below.refl w23.heap.size w23).alloc (Nat.le_refl _) (.cells #[.slice a23 L.length c23, .int .i64 P, .int .i64 K] 35)) (by first | omega | (simp only [World.size_alloc]; omega) | (simp only [size_drew_]; omega) | (simp only [World.size_alloc, size_drew_]; omega)))
    clear H__23
    have TH_24 := Lib.hid (TH_23.out.below ((Below.refl w23.heap.size w23).alloc (Nat.le_refl _) (.cells #[.slice a23 L.length c23, .int .i64 P, .int .i64 K] 35)) (by first | omega | (simp only [World.size_alloc]; omega) | (simp only [size_drew_]; omega) | (simp only [World.size_alloc, size_drew_]; omega)))
    clear TH_23
    have BB_24 := Lib.hid (BB_23.out.alloc (by first | omega | (simp only [World.size_alloc]; omega) | (simp only [size_drew_]; omega) | (simp only [World.size_alloc, size_drew_]; omega)) (.cells #[.slice a23 L.length c23, .int .i64 P, .int .i64 K] 35))
    clear BB_23
    have OH_24 := Lib.hid (Blk.new w23 35 #[.slice a23 L.length c23, .int .i64 P, .int .i64 K])
    have A_25 := Lib.hid (A_24.out.below (((Below.refl (w23.alloc (.cells #[.slice a23 L.length c23, .int .i64 P, .int .i64 K] 35)).heap.size (w23.alloc (.cells #[.slice a23 L.length c23, .int .i64 P, .int .i64 K] 35))).alloc (Nat.le_refl _) (.cells #[.int .i64 H, .int .i64 K] 24)).mono (by first | omega | (simp only [World.size_alloc]; omega) | (simp only [size_drew_]; omega) | (simp only [World.size_alloc, size_drew_]; omega))))
    clear A_24
    have R__25 := Lib.hid (R__24.out.below ((Below.refl (w23.alloc (.cells #[.slice a23 L.length c23, .int .i64 P, .int .i64 K] 35)).heap.size (w23.alloc (.cells #[.slice a23 L.length c23, .int .i64 P, .int .i64 K] 35))).alloc (Nat.le_refl _) (.cells #[.int .i64 H, .int .i64 K] 24)) (by first | omega | (simp only [World.size_alloc]; omega) | (simp only [size_drew_]; omega) | (simp only [World.size_alloc, size_drew_]; omega)))
    clear R__24
    have TR_25 := Lib.hid (TR_24.out.below ((Below.refl (w23.alloc (.cells #[.slice a23 L.length c23, .int .i64 P, .int .i64 K] 35)).heap.size (w23.alloc (.cells #[.slice a23 L.length c23, .int .i64 P, .int .i64 K] 35))).alloc (Nat.le_refl _) (.cells #[.int .i64 H, .int .i64 K] 24)) (by first | omega | (simp only [World.size_alloc]; omega) | (simp only [size_drew_]; omega) | (simp only [World.size_alloc, size_drew_]; omega)))
    clear TR_24
    have OR_25 := Lib.hid (OR_24.out.alloc (.cells #[.int .i64 H, .int .i64 K] 24))
    clear OR_24
    have OC_25 := Lib.hid (OC_24.out.alloc (.cells #[.int .i64 H, .int .i64 K] 24))
    clear OC_24
    have X_25 := Lib.hid (X_24.out.below ((Below.refl (w23.alloc (.cells #[.slice a23 L.length c23, .int .i64 P, .int .i64 K] 35)).heap.size (w23.alloc (.cells #[.slice a23 L.length c23, .int .i64 P, .int .i64 K] 35))).alloc (Nat.le_refl _) (.cells #[.int .i64 H, .int .i64 K] 24)) (by first | omega | (simp only [World.size_alloc]; omega) | (simp only [size_drew_]; omega) | (simp only [World.size_alloc, size_drew_]; omega)))
    clear X_24
    have G_25 := Lib.hid (G_24.out.below ((Below.refl (w23.alloc (.cells #[.slice a23 L.length c23, .int .i64 P, .int .i64 K] 35)).heap.size (w23.alloc (.cells #[.slice a23 L.length c23, .int .i64 P, .int .i64 K] 35))).alloc (Nat.le_refl _) (.cells #[.int .i64 H, .int .i64 K] 24)) (by first | omega | (simp only [World.size_alloc]; omega) | (simp only [size_drew_]; omega) | (simp only [World.size_alloc, size_drew_]; omega)))
    clear G_24
    have TG_25 := Lib.hid (TG_24.out.below ((Below.refl (w23.alloc (.cells #[.slice a23 L.length c23, .int .i64 P, .int .i64 K] 35)).heap.size (w23.alloc (.cells #[.slice a23 L.length c23, .int .i64 P, .int .i64 K] 35))).alloc (Nat.le_refl _) (.cells #[.int .i64 H, .int .i64 K] 24)) (by first | omega | (simp only [World.size_alloc]; omega) | (simp only [size_drew_]; omega) | (simp only [World.size_alloc, size_drew_]; omega)))
    clear TG_24
    have OG_25 := Lib.hid (OG_24.out.alloc (.cells #[.int .i64 H, .int .i64 K] 24))
    clear OG_24
    have OGC_25 := Lib.hid (OGC_24.out.alloc (.cells #[.int .i64 H, .int .i64 K] 24))
    clear OGC_24
    have H__25 := Lib.hid (H__24.out.below ((Below.refl (w23.alloc (.cells #[.slice a23 L.length c23, .int .i64 P, .int .i64 K] 35)).heap.size (w23.alloc (.cells #[.slice a23 L.length c23, .int .i64 P, .int .i64 K] 35))).alloc (Nat.le_refl _) (.cells #[.int .i64 H, .int .i64 K] 24)) (by first | omega | (simp only [World.size_alloc]; omega) | (simp only [size_drew_]; omega) | (simp only [World.size_alloc, size_drew_]; omega)))
    clear H__24
    have TH_25 := Lib.hid (TH_24.out.below ((Below.refl (w23.alloc (.cells #[.slice a23 L.length c23, .int .i64 P, .int .i64 K] 35)).heap.size (w23.alloc (.cells #[.slice a23 L.length c23, .int .i64 P, .int .i64 K] 35))).alloc (Nat.le_refl _) (.cells #[.int .i64 H, .int .i64 K] 24)) (by first | omega | (simp only [World.size_alloc]; omega) | (simp only [size_drew_]; omega) | (simp only [World.size_alloc, size_drew_]; omega)))
    clear TH_24
    have OH_25 := Lib.hid (OH_24.out.alloc (.cells #[.int .i64 H, .int .i64 K] 24))
    clear OH_24
    have BB_25 := Lib.hid (BB_24.out.alloc (by first | omega | (simp only [World.size_alloc]; omega) | (simp only [size_drew_]; omega) | (simp only [World.size_alloc, size_drew_]; omega)) (.cells #[.int .i64 H, .int .i64 K] 24))
    clear BB_24
    have OHC_25 : Hid (Blk ((w23.alloc (.cells #[.slice a23 L.length c23, .int .i64 P, .int .i64 K] 35)).alloc (.cells #[.int .i64 H, .int .i64 K] 24)) (w23.heap.size + 1) 24 #[.int .i64 H, .int .i64 K]) := by
      have hh := Blk.new (w23.alloc (.cells #[.slice a23 L.length c23, .int .i64 P, .int .i64 K] 35)) 24 #[.int .i64 H, .int .i64 K]
      simp only [World.size_alloc] at hh
      exact hh
    have qOH_25 := OH_25.out.cell
    have qOHC_25 := OHC_25.out.cell
    have qOR_25 := OR_25.out.cell
    have qOC_25 := OC_25.out.cell
    go_wp2_with fail
    refine (eqRing_any _ _ _ _ _ _ P K L _ _ _ H__25.out.nums R__25.out.nums rfl rfl (Nat.le_refl _) (Nat.le_refl _)).mono ?_
    rintro e w26 ⟨rfl, hb⟩
    clear qOH_25 qOHC_25 qOR_25 qOC_25
    have A_26 := Lib.hid (A_25.out.below (hb.mono (by first | omega | (simp only [World.size_alloc]; omega) | (simp only [size_drew_]; omega) | (simp only [World.size_alloc, size_drew_]; omega))))
    clear A_25
    have R__26 := Lib.hid (R__25.out.below hb (by first | omega | (simp only [World.size_alloc]; omega) | (simp only [size_drew_]; omega) | (simp only [World.size_alloc, size_drew_]; omega)))
    clear R__25
    have TR_26 := Lib.hid (TR_25.out.below hb (by first | omega | (simp only [World.size_alloc]; omega) | (simp only [size_drew_]; omega) | (simp only [World.size_alloc, size_drew_]; omega)))
    clear TR_25
    have OR_26 := Lib.hid (OR_25.out.below hb)
    clear OR_25
    have OC_26 := Lib.hid (OC_25.out.below hb)
    clear OC_25
    have X_26 := Lib.hid (X_25.out.below hb (by first | omega | (simp only [World.size_alloc]; omega) | (simp only [size_drew_]; omega) | (simp only [World.size_alloc, size_drew_]; omega)))
    clear X_25
    have G_26 := Lib.hid (G_25.out.below hb (by first | omega | (simp only [World.size_alloc]; omega) | (simp only [size_drew_]; omega) | (simp only [World.size_alloc, size_drew_]; omega)))
    clear G_25
    have TG_26 := Lib.hid (TG_25.out.below hb (by first | omega | (simp only [World.size_alloc]; omega) | (simp only [size_drew_]; omega) | (simp only [World.size_alloc, size_drew_]; omega)))
    clear TG_25
    have OG_26 := Lib.hid (OG_25.out.below hb)
    clear OG_25
    have OGC_26 := Lib.hid (OGC_25.out.below hb)
    clear OGC_25
    have H__26 := Lib.hid (H__25.out.below hb (by first | omega | (simp only [World.size_alloc]; omega) | (simp only [size_drew_]; omega) | (simp only [World.size_alloc, size_drew_]; omega)))
    clear H__25
    have TH_26 := Lib.hid (TH_25.out.below hb (by first | omega | (simp only [World.size_alloc]; omega) | (simp only [size_drew_]; omega) | (simp only [World.size_alloc, size_drew_]; omega)))
    clear TH_25
    have OH_26 := Lib.hid (OH_25.out.below hb)
    clear OH_25
    have OHC_26 := Lib.hid (OHC_25.out.below hb)
    clear OHC_25
    have BB_26 := Lib.hid (BB_25.out.trans (hb.mono (by first | omega | (simp only [World.size_alloc]; omega) | (simp only [size_drew_]; omega) | (simp only [World.size_alloc, size_drew_]; omega))))
    clear BB_25
    have s26 := hb.size
    simp only [World.size_alloc] at s26
    clear hb
    have qOH_26 := OH_26.out.cell
    have qOHC_26 := OHC_26.out.cell
    have qOR_26 := OR_26.out.cell
    have qOC_26 := OC_26.out.cell
    go_wp2_with fail
    refine (eqCredit_any H K _).mono ?_
    rintro e w27 ⟨rfl, hb⟩
    clear qOH_26 qOHC_26 qOR_26 qOC_26
    have A_27 := Lib.hid (A_26.out.below (hb.mono (by first | omega | (simp only [World.size_alloc]; omega) | (simp only [size_drew_]; omega) | (simp only [World.size_alloc, size_drew_]; omega))))
    clear A_26
    have R__27 := Lib.hid (R__26.out.below hb (by first | omega | (simp only [World.size_alloc]; omega) | (simp only [size_drew_]; omega) | (simp only [World.size_alloc, size_drew_]; omega)))
    clear R__26
    have TR_27 := Lib.hid (TR_26.out.below hb (by first | omega | (simp only [World.size_alloc]; omega) | (simp only [size_drew_]; omega) | (simp only [World.size_alloc, size_drew_]; omega)))
    clear TR_26
    have OR_27 := Lib.hid (OR_26.out.below hb)
    clear OR_26
    have OC_27 := Lib.hid (OC_26.out.below hb)
    clear OC_26
    have X_27 := Lib.hid (X_26.out.below hb (by first | omega | (simp only [World.size_alloc]; omega) | (simp only [size_drew_]; omega) | (simp only [World.size_alloc, size_drew_]; omega)))
    clear X_26
    have G_27 := Lib.hid (G_26.out.below hb (by first | omega | (simp only [World.size_alloc]; omega) | (simp only [size_drew_]; omega) | (simp only [World.size_alloc, size_drew_]; omega)))
    clear G_26
    have TG_27 := Lib.hid (TG_26.out.below hb (by first | omega | (simp only [World.size_alloc]; omega) | (simp only [size_drew_]; omega) | (simp only [World.size_alloc, size_drew_]; omega)))
    clear TG_26
    have OG_27 := Lib.hid (OG_26.out.below hb)
    clear OG_26
    have OGC_27 := Lib.hid (OGC_26.out.below hb)
    clear OGC_26
    have H__27 := Lib.hid (H__26.out.below hb (by first | omega | (simp only [World.size_alloc]; omega) | (simp only [size_drew_]; omega) | (simp only [World.size_alloc, size_drew_]; omega)))
    clear H__26
    have TH_27 := Lib.hid (TH_26.out.below hb (by first | omega | (simp only [World.size_alloc]; omega) | (simp only [size_drew_]; omega) | (simp only [World.size_alloc, size_drew_]; omega)))
    clear TH_26
    have OH_27 := Lib.hid (OH_26.out.below hb)
    clear OH_26
    have OHC_27 := Lib.hid (OHC_26.out.below hb)
    clear OHC_26
    have BB_27 := Lib.hid (BB_26.out.trans (hb.mono (by first | omega | (simp only [World.size_alloc]; omega) | (simp only [size_drew_]; omega) | (simp only [World.size_alloc, size_drew_]; omega))))
    clear BB_26
    have s27 := hb.size
    clear hb
    go_wp2_with fail
    refine (eqInts_b _ _ _ _ _ _ TS _ _ _ TH_27.out.nums TR_27.out.nums rfl rfl).mono ?_
    rintro e w28 ⟨rfl, hb⟩
    have A_28 := Lib.hid (A_27.out.below (hb.mono (by first | omega | (simp only [World.size_alloc]; omega) | (simp only [size_drew_]; omega) | (simp only [World.size_alloc, size_drew_]; omega))))
    clear A_27
    have R__28 := Lib.hid (R__27.out.below hb (by first | omega | (simp only [World.size_alloc]; omega) | (simp only [size_drew_]; omega) | (simp only [World.size_alloc, size_drew_]; omega)))
    clear R__27
    have TR_28 := Lib.hid (TR_27.out.below hb (by first | omega | (simp only [World.size_alloc]; omega) | (simp only [size_drew_]; omega) | (simp only [World.size_alloc, size_drew_]; omega)))
    clear TR_27
    have OR_28 := Lib.hid (OR_27.out.below hb)
    clear OR_27
    have OC_28 := Lib.hid (OC_27.out.below hb)
    clear OC_27
    have X_28 := Lib.hid (X_27.out.below hb (by first | omega | (simp only [World.size_alloc]; omega) | (simp only [size_drew_]; omega) | (simp only [World.size_alloc, size_drew_]; omega)))
    clear X_27
    have G_28 := Lib.hid (G_27.out.below hb (by first | omega | (simp only [World.size_alloc]; omega) | (simp only [size_drew_]; omega) | (simp only [World.size_alloc, size_drew_]; omega)))
    clear G_27
    have TG_28 := Lib.hid (TG_27.out.below hb (by first | omega | (simp only [World.size_alloc]; omega) | (simp only [size_drew_]; omega) | (simp only [World.size_alloc, size_drew_]; omega)))
    clear TG_27
    have OG_28 := Lib.hid (OG_27.out.below hb)
    clear OG_27
    have OGC_28 := Lib.hid (OGC_27.out.below hb)
    clear OGC_27
    have H__28 := Lib.hid (H__27.out.below hb (by first | omega | (simp only [World.size_alloc]; omega) | (simp only [size_drew_]; omega) | (simp only [World.size_alloc, size_drew_]; omega)))
    clear H__27
    have TH_28 := Lib.hid (TH_27.out.below hb (by first | omega | (simp only [World.size_alloc]; omega) | (simp only [size_drew_]; omega) | (simp only [World.size_alloc, size_drew_]; omega)))
    clear TH_27
    have OH_28 := Lib.hid (OH_27.out.below hb)
    clear OH_27
    have OHC_28 := Lib.hid (OHC_27.out.below hb)
    clear OHC_27
    have BB_28 := Lib.hid (BB_27.out.trans (hb.mono (by first | omega | (simp only [World.size_alloc]; omega) | (simp only [size_drew_]; omega) | (simp only [World.size_alloc, size_drew_]; omega))))
    clear BB_27
    have s28 := hb.size
    clear hb
    have qOG_28 := OG_28.out.cell
    go_wp2_with fail
    refine (heldRing_m _ _ _ 1 P K _ _ _ G_28.out.nums (Nat.le_refl _) rfl (by omega) (by omega)).mono ?_
    rintro e w29 ⟨rfl, hb⟩
    clear qOG_28
    have A_29 := Lib.hid (A_28.out.below (hb.mono (by first | omega | (simp only [World.size_alloc]; omega) | (simp only [size_drew_]; omega) | (simp only [World.size_alloc, size_drew_]; omega))))
    clear A_28
    have R__29 := Lib.hid (R__28.out.below hb (by first | omega | (simp only [World.size_alloc]; omega) | (simp only [size_drew_]; omega) | (simp only [World.size_alloc, size_drew_]; omega)))
    clear R__28
    have TR_29 := Lib.hid (TR_28.out.below hb (by first | omega | (simp only [World.size_alloc]; omega) | (simp only [size_drew_]; omega) | (simp only [World.size_alloc, size_drew_]; omega)))
    clear TR_28
    have OR_29 := Lib.hid (OR_28.out.below hb)
    clear OR_28
    have OC_29 := Lib.hid (OC_28.out.below hb)
    clear OC_28
    have X_29 := Lib.hid (X_28.out.below hb (by first | omega | (simp only [World.size_alloc]; omega) | (simp only [size_drew_]; omega) | (simp only [World.size_alloc, size_drew_]; omega)))
    clear X_28
    have G_29 := Lib.hid (G_28.out.below hb (by first | omega | (simp only [World.size_alloc]; omega) | (simp only [size_drew_]; omega) | (simp only [World.size_alloc, size_drew_]; omega)))
    clear G_28
    have TG_29 := Lib.hid (TG_28.out.below hb (by first | omega | (simp only [World.size_alloc]; omega) | (simp only [size_drew_]; omega) | (simp only [World.size_alloc, size_drew_]; omega)))
    clear TG_28
    have OG_29 := Lib.hid (OG_28.out.below hb)
    clear OG_28
    have OGC_29 := Lib.hid (OGC_28.out.below hb)
    clear OGC_28
    have H__29 := Lib.hid (H__28.out.below hb (by first | omega | (simp only [World.size_alloc]; omega) | (simp only [size_drew_]; omega) | (simp only [World.size_alloc, size_drew_]; omega)))
    clear H__28
    have TH_29 := Lib.hid (TH_28.out.below hb (by first | omega | (simp only [World.size_alloc]; omega) | (simp only [size_drew_]; omega) | (simp only [World.size_alloc, size_drew_]; omega)))
    clear TH_28
    have OH_29 := Lib.hid (OH_28.out.below hb)
    clear OH_28
    have OHC_29 := Lib.hid (OHC_28.out.below hb)
    clear OHC_28
    have BB_29 := Lib.hid (BB_28.out.trans (hb.mono (by first | omega | (simp only [World.size_alloc]; omega) | (simp only [size_drew_]; omega) | (simp only [World.size_alloc, size_drew_]; omega))))
    clear BB_28
    have s29 := hb.size
    clear hb
    go_wp2_with fail
    refine (heldInts_m _ _ _ (1 + L.length) _ _ _ TG_29.out.nums (by simp) (by omega) (by omega)).mono ?_
    rintro e w30 ⟨rfl, hb⟩
    have A_30 := Lib.hid (A_29.out.below (hb.mono (by first | omega | (simp only [World.size_alloc]; omega) | (simp only [size_drew_]; omega) | (simp only [World.size_alloc, size_drew_]; omega))))
    clear A_29
    have R__30 := Lib.hid (R__29.out.below hb (by first | omega | (simp only [World.size_alloc]; omega) | (simp only [size_drew_]; omega) | (simp only [World.size_alloc, size_drew_]; omega)))
    clear R__29
    have TR_30 := Lib.hid (TR_29.out.below hb (by first | omega | (simp only [World.size_alloc]; omega) | (simp only [size_drew_]; omega) | (simp only [World.size_alloc, size_drew_]; omega)))
    clear TR_29
    have OR_30 := Lib.hid (OR_29.out.below hb)
    clear OR_29
    have OC_30 := Lib.hid (OC_29.out.below hb)
    clear OC_29
    have X_30 := Lib.hid (X_29.out.below hb (by first | omega | (simp only [World.size_alloc]; omega) | (simp only [size_drew_]; omega) | (simp only [World.size_alloc, size_drew_]; omega)))
    clear X_29
    have G_30 := Lib.hid (G_29.out.below hb (by first | omega | (simp only [World.size_alloc]; omega) | (simp only [size_drew_]; omega) | (simp only [World.size_alloc, size_drew_]; omega)))
    clear G_29
    have TG_30 := Lib.hid (TG_29.out.below hb (by first | omega | (simp only [World.size_alloc]; omega) | (simp only [size_drew_]; omega) | (simp only [World.size_alloc, size_drew_]; omega)))
    clear TG_29
    have OG_30 := Lib.hid (OG_29.out.below hb)
    clear OG_29
    have OGC_30 := Lib.hid (OGC_29.out.below hb)
    clear OGC_29
    have H__30 := Lib.hid (H__29.out.below hb (by first | omega | (simp only [World.size_alloc]; omega) | (simp only [size_drew_]; omega) | (simp only [World.size_alloc, size_drew_]; omega)))
    clear H__29
    have TH_30 := Lib.hid (TH_29.out.below hb (by first | omega | (simp only [World.size_alloc]; omega) | (simp only [size_drew_]; omega) | (simp only [World.size_alloc, size_drew_]; omega)))
    clear TH_29
    have OH_30 := Lib.hid (OH_29.out.below hb)
    clear OH_29
    have OHC_30 := Lib.hid (OHC_29.out.below hb)
    clear OHC_29
    have BB_30 := Lib.hid (BB_29.out.trans (hb.mono (by first | omega | (simp only [World.size_alloc]; omega) | (simp only [size_drew_]; omega) | (simp only [World.size_alloc, size_drew_]; omega))))
    clear BB_29
    have s30 := hb.size
    clear hb
    go_wp2
    go_ret
    exact ⟨rfl, BB_30.out⟩

set_option maxRecDepth 100000 in
theorem lifted (os : Os) (started : os.Started) (H : Type) (enc : TypeId × Value → H) :
    ReturnsInHanded {} Try.checked os 6 .any (Rows.fnExactPlayLinkSpec.pre6 enc Try.prog Try.f6 Rows.fnExactPlayLinkRow.domain false) (Rows.fnExactPlayLinkSpec.post enc Try.prog Try.f6 false true false false) := by
  refine returnsInHanded_of_change (C := Try.checked) own started (by kernel_rfl) Try.func6
    (ChangeSpec.witness6 (enc := enc) (C := Try.checked) false ⟨#[], #[.int .i64 0, .slice none 0 0], []⟩ 8 (by kernel_rfl) (by kernel_rfl) (by kernel_rfl) (by kernel_rfl)) ?_
  intro W base args ds gs before hval0 hW hcnd _
  have hval : ∀ (j : Nat) t v, Try.f6.params[j]? = some t → args[j]? = some v → Value.okWide Try.prog W .any base t v := hval0
  have hW' := hW
  obtain ⟨p, q, hA0, hV, rfl, hfz, hnd⟩ := hW
  have hA : DataW.TrodAll enc Try.prog W 0 (fun _ => true) true Try.f6.params.toList args.toList ds p := hA0
  rw [Try.params6] at hA hval
  obtain ⟨v0, vs0, d0, ds0, p0, q0, hargs, rfl, rfl, h0, r0⟩ := trodAll_cons hA
  obtain ⟨v1, vs1, d1, ds1, p1, q1, rfl, rfl, rfl, h1, r1⟩ := trodAll_cons r0
  obtain ⟨rfl, rfl, rfl⟩ := trodAll_nil r1
  obtain rfl : args = #[v0, v1] := by cases args; simp_all
  obtain ⟨rfl, rfl⟩ := trodVars_none hV
  have lt0 : ∀ x ∈ p0, x.block < W.heap.size := by obtain ⟨m, hm⟩ := h0; exact DataW.trod_lt m _ _ _ hm
  obtain ⟨x0, rfl, hx0⟩ := arg_int (hval 0 3 v0 rfl rfl) h0
  have lt1 : ∀ x ∈ p1, x.block < W.heap.size := by obtain ⟨m, hm⟩ := h1; exact DataW.trod_lt m _ _ _ hm
  obtain ⟨a1, n1, c1, rfl, xs1, hn1, hb1, hs1⟩ := arg_ints (hval 1 30 v1 rfl rfl) h1
  clear hA0 hval0
  refine (walk W x0 hx0 a1 n1 c1 xs1 hn1 hb1 hs1).mono fun e W' ⟨he, bel⟩ => ?_
  subst he
  exact ⟨_, rfl, _, _, _, [], _, [], hW', trodAll_mk1 (shut_bool Try.underlying4 _), (trodAll_cons_mk (Below.trod laidOut (by kernel_rfl) (of_decide_eq_true (by kernel_rfl)) h0 bel lt0) (trodAll_cons_mk (Below.trod laidOut (by kernel_rfl) (of_decide_eq_true (by kernel_rfl)) h1 bel lt1) trodAll_mk0)), rfl, bel.frame _, fun h => by cases h⟩

theorem over : Rows.fnExactPlayLinkRow.holds Try.pinned (OpenSpec.ofChange Rows.fnExactPlayLinkSpec) :=
  OpenClaim.holds_of_wide 6 Try.f6 rfl rfl rfl rfl rfl rfl rfl ⟨rfl, rfl, rfl, rfl, rfl⟩ rfl rfl rfl rfl rfl (by kernel_rfl) Try.func6 (by kernel_rfl)
    (of_decide_eq_true (by kernel_rfl)) (by unfold Func.isWrapper; first | (rw [if_pos (by decide +kernel)]; kernel_rfl) | (rw [if_neg (by decide +kernel)]; exact ⟨rfl, rfl⟩))
    (fun os started H enc _ => lifted os started H enc)

theorem proved : Rows.FnExactPlayLinkSaid := over
#print axioms proved
end Go.Proofs.Ytkconbmgljmpfab.fnExactPlayLink
