/- impl.PlaySource answers as spec.PlaySource at every late, after and list of events (of up to 1048576 rows and numbers together; beyond, the law says nothing): the law returns true, and its arguments read as before. No conditions. -/
import Derived.Test.YtpigollgjpkflaaRows
import Derived.Test.YtpigollgjpkflaaOpenGrid
import Derived.Test.YtpigollgjpkflaaPlaySrcS
import Derived.Test.YtpigollgjpkflaaSrcS
import Derived.Test.YtpigollgjpkflaaRowsS2
import Derived.Test.YtpigollgjpkflaaHeld
import Derived.WalkSmall
import Derived.WalkKit
import Derived.ProofKit
import Derived.OpenShut
import Derived.ShutString
import Derived.ChangeOld
import Derived.Below
namespace Go.Proofs.Ytpigollgjpkflaa.fnExactPlaySource
open Go.ChangeShapes Go.WideShapes Go.ChangeAt Go.RowKit
set_option linter.unusedVariables false

theorem own : ownKnob Try.prog.godebug = none := by kernel_rfl
theorem laidOut : laidOutB Try.prog = true := by kernel_rfl


set_option maxHeartbeats 8000000 in
set_option maxRecDepth 100000 in
theorem walk (w : World) (l : Int) (hl : Is64 l) (af : Int) (haf : Is64 af) (a : Option Addr) (n c : Nat) (ess : List (List Int)) (hn : n = ess.length) (hs : Grid w w.heap.size a c ess) :
    Calls Try.prog 11 #[.int .i64 l, .int .i64 af, .slice a n c] w fun e w' => e = .returned (.bool true) ∧ Below w.heap.size w w' := by
  have hc1 := hs.cap
  have hc2 := hs.big
  subst hn
  have HZ := Lib.hid (szGrid_any a _ c ess _ w hs rfl)
  have BB := Lib.hid (Below.refl w.heap.size w)
  have A0 := Lib.hid hs
  have SP : Hid (∀ (W : World) (a' : Option Addr) (c' : Nat), Grid W W.heap.size a' c' ess → Calls Try.prog 15 #[.int .i64 l, .int .i64 af, .slice a' ess.length c'] W (PlayPost (psEnd l af ess) (psAll l af ess) W)) := Lib.hid (fun W a' c' h => specPlayS_any l af a' _ c' ess _ W h rfl (Nat.le_refl _))
  have IP : Hid (∀ (W : World) (a' : Option Addr) (c' : Nat), Grid W W.heap.size a' c' ess → Calls Try.prog 16 #[.int .i64 l, .int .i64 af, .slice a' ess.length c'] W (PlayPost (psEnd l af ess) (psAll l af ess) W)) := Lib.hid (fun W a' c' h => implPlayS_any l af a' _ c' ess _ W h rfl (Nat.le_refl _))
  have hts := psAll_le l af ess
  generalize psAll l af ess = TS at SP IP hts
  generalize psEnd l af ess = EN at SP IP
  obtain ⟨x, m, t, d, e⟩ := EN
  have hd : (d != d) = false := by simp
  have he : (e != e) = false := by simp
  clear hl haf hs
  go_enter Try.func11, Try.ntmps11
  go_wp2_with fail
  refine HZ.out.mono ?_
  rintro e' w' ⟨L, rfl, hL1, hL2, hfit0, rfl⟩
  by_cases hL : L < 0
  · clear hfit0
    go_wp2
    go_ret
    exact ⟨rfl, BB.out⟩
  · have hfit := hfit0 (by omega)
    clear hfit0
    go_wp2_with fail
    refine (toGrid_any a _ c ess _ _ A0.out rfl (by first | omega | (simp only [World.size_alloc]; omega) | (simp only [size_drew_]; omega) | (simp only [World.size_alloc, size_drew_]; omega)) hfit).mono ?_
    rintro e w1 ⟨a1, c1, rfl, ho, hb⟩
    have A_1 := Lib.hid (A0.out.below (hb.mono (by first | omega | (simp only [World.size_alloc]; omega) | (simp only [size_drew_]; omega) | (simp only [World.size_alloc, size_drew_]; omega))))
    clear A0
    have BB_1 := Lib.hid (BB.out.trans (hb.mono (by first | omega | (simp only [World.size_alloc]; omega) | (simp only [size_drew_]; omega) | (simp only [World.size_alloc, size_drew_]; omega))))
    clear BB
    have X1_1 := Lib.hid ho
    clear ho
    have s1 := hb.size
    clear hb
    go_wp2_with fail
    refine (SP.out _ _ _ X1_1.out.grid).mono ?_
    rintro e w2 ⟨a2, c2, rfl, ho, hb⟩
    have A_2 := Lib.hid (A_1.out.below (hb.mono (by first | omega | (simp only [World.size_alloc]; omega) | (simp only [size_drew_]; omega) | (simp only [World.size_alloc, size_drew_]; omega))))
    clear A_1
    have X1_2 := Lib.hid (X1_1.out.below hb (by first | omega | (simp only [World.size_alloc]; omega) | (simp only [size_drew_]; omega) | (simp only [World.size_alloc, size_drew_]; omega)))
    clear X1_1
    have BB_2 := Lib.hid (BB_1.out.trans (hb.mono (by first | omega | (simp only [World.size_alloc]; omega) | (simp only [size_drew_]; omega) | (simp only [World.size_alloc, size_drew_]; omega))))
    clear BB_1
    have TW_2 := Lib.hid (Rw.new ho)
    clear ho
    have s2 := hb.size
    clear hb
    clear X1_2
    have A_3 := Lib.hid (A_2.out.below (((Below.refl w2.heap.size w2).alloc (Nat.le_refl _) (.cells #[.int .i64 x, .int .i64 m, .int .i64 t, .bool d, .bool e] 28)).mono (by first | omega | (simp only [World.size_alloc]; omega) | (simp only [size_drew_]; omega) | (simp only [World.size_alloc, size_drew_]; omega))))
    clear A_2
    have TW_3 := Lib.hid (TW_2.out.below ((Below.refl w2.heap.size w2).alloc (Nat.le_refl _) (.cells #[.int .i64 x, .int .i64 m, .int .i64 t, .bool d, .bool e] 28)) (by first | omega | (simp only [World.size_alloc]; omega) | (simp only [size_drew_]; omega) | (simp only [World.size_alloc, size_drew_]; omega)))
    clear TW_2
    have BB_3 := Lib.hid (BB_2.out.alloc (by first | omega | (simp only [World.size_alloc]; omega) | (simp only [size_drew_]; omega) | (simp only [World.size_alloc, size_drew_]; omega)) (.cells #[.int .i64 x, .int .i64 m, .int .i64 t, .bool d, .bool e] 28))
    clear BB_2
    have OW_3 := Lib.hid (Blk.new w2 28 #[.int .i64 x, .int .i64 m, .int .i64 t, .bool d, .bool e])
    go_wp2_with fail
    refine (toGrid_any a _ c ess _ _ A_3.out rfl (by first | omega | (simp only [World.size_alloc]; omega) | (simp only [size_drew_]; omega) | (simp only [World.size_alloc, size_drew_]; omega)) hfit).mono ?_
    rintro e w4 ⟨a4, c4, rfl, ho, hb⟩
    have A_4 := Lib.hid (A_3.out.below (hb.mono (by first | omega | (simp only [World.size_alloc]; omega) | (simp only [size_drew_]; omega) | (simp only [World.size_alloc, size_drew_]; omega))))
    clear A_3
    have TW_4 := Lib.hid (TW_3.out.below hb (by first | omega | (simp only [World.size_alloc]; omega) | (simp only [size_drew_]; omega) | (simp only [World.size_alloc, size_drew_]; omega)))
    clear TW_3
    have OW_4 := Lib.hid (OW_3.out.below hb)
    clear OW_3
    have BB_4 := Lib.hid (BB_3.out.trans (hb.mono (by first | omega | (simp only [World.size_alloc]; omega) | (simp only [size_drew_]; omega) | (simp only [World.size_alloc, size_drew_]; omega))))
    clear BB_3
    have X_4 := Lib.hid ho
    clear ho
    have s4 := hb.size
    simp only [World.size_alloc] at s4
    clear hb
    go_wp2_with fail
    refine (IP.out _ _ _ X_4.out.grid).mono ?_
    rintro e w5 ⟨a5, c5, rfl, ho, hb⟩
    have A_5 := Lib.hid (A_4.out.below (hb.mono (by first | omega | (simp only [World.size_alloc]; omega) | (simp only [size_drew_]; omega) | (simp only [World.size_alloc, size_drew_]; omega))))
    clear A_4
    have TW_5 := Lib.hid (TW_4.out.below hb (by first | omega | (simp only [World.size_alloc]; omega) | (simp only [size_drew_]; omega) | (simp only [World.size_alloc, size_drew_]; omega)))
    clear TW_4
    have OW_5 := Lib.hid (OW_4.out.below hb)
    clear OW_4
    have X_5 := Lib.hid (X_4.out.below hb (by first | omega | (simp only [World.size_alloc]; omega) | (simp only [size_drew_]; omega) | (simp only [World.size_alloc, size_drew_]; omega)))
    clear X_4
    have BB_5 := Lib.hid (BB_4.out.trans (hb.mono (by first | omega | (simp only [World.size_alloc]; omega) | (simp only [size_drew_]; omega) | (simp only [World.size_alloc, size_drew_]; omega))))
    clear BB_4
    have TG_5 := Lib.hid (Rw.new ho)
    clear ho
    have s5 := hb.size
    clear hb
    have A_6 := Lib.hid (A_5.out.below (((Below.refl w5.heap.size w5).alloc (Nat.le_refl _) (.cells #[.int .i64 x, .int .i64 m, .int .i64 t, .bool d, .bool e] 28)).mono (by first | omega | (simp only [World.size_alloc]; omega) | (simp only [size_drew_]; omega) | (simp only [World.size_alloc, size_drew_]; omega))))
    clear A_5
    have TW_6 := Lib.hid (TW_5.out.below ((Below.refl w5.heap.size w5).alloc (Nat.le_refl _) (.cells #[.int .i64 x, .int .i64 m, .int .i64 t, .bool d, .bool e] 28)) (by first | omega | (simp only [World.size_alloc]; omega) | (simp only [size_drew_]; omega) | (simp only [World.size_alloc, size_drew_]; omega)))
    clear TW_5
    have OW_6 := Lib.hid (OW_5.out.alloc (.cells #[.int .i64 x, .int .i64 m, .int .i64 t, .bool d, .bool e] 28))
    clear OW_5
    have X_6 := Lib.hid (X_5.out.below ((Below.refl w5.heap.size w5).alloc (Nat.le_refl _) (.cells #[.int .i64 x, .int .i64 m, .int .i64 t, .bool d, .bool e] 28)) (by first | omega | (simp only [World.size_alloc]; omega) | (simp only [size_drew_]; omega) | (simp only [World.size_alloc, size_drew_]; omega)))
    clear X_5
    have TG_6 := Lib.hid (TG_5.out.below ((Below.refl w5.heap.size w5).alloc (Nat.le_refl _) (.cells #[.int .i64 x, .int .i64 m, .int .i64 t, .bool d, .bool e] 28)) (by first | omega | (simp only [World.size_alloc]; omega) | (simp only [size_drew_]; omega) | (simp only [World.size_alloc, size_drew_]; omega)))
    clear TG_5
    have BB_6 := Lib.hid (BB_5.out.alloc (by first | omega | (simp only [World.size_alloc]; omega) | (simp only [size_drew_]; omega) | (simp only [World.size_alloc, size_drew_]; omega)) (.cells #[.int .i64 x, .int .i64 m, .int .i64 t, .bool d, .bool e] 28))
    clear BB_5
    have OG_6 := Lib.hid (Blk.new w5 28 #[.int .i64 x, .int .i64 m, .int .i64 t, .bool d, .bool e])
    have qOG_6 := OG_6.out.cell
    have qOW_6 := OW_6.out.cell
    go_wp2_with fail
    refine (eqSource_any ⟨x, m, t, d, e⟩ _).mono ?_
    rintro e w7 ⟨rfl, hb⟩
    clear qOG_6 qOW_6
    have A_7 := Lib.hid (A_6.out.below (hb.mono (by first | omega | (simp only [World.size_alloc]; omega) | (simp only [size_drew_]; omega) | (simp only [World.size_alloc, size_drew_]; omega))))
    clear A_6
    have TW_7 := Lib.hid (TW_6.out.below hb (by first | omega | (simp only [World.size_alloc]; omega) | (simp only [size_drew_]; omega) | (simp only [World.size_alloc, size_drew_]; omega)))
    clear TW_6
    have OW_7 := Lib.hid (OW_6.out.below hb)
    clear OW_6
    have X_7 := Lib.hid (X_6.out.below hb (by first | omega | (simp only [World.size_alloc]; omega) | (simp only [size_drew_]; omega) | (simp only [World.size_alloc, size_drew_]; omega)))
    clear X_6
    have TG_7 := Lib.hid (TG_6.out.below hb (by first | omega | (simp only [World.size_alloc]; omega) | (simp only [size_drew_]; omega) | (simp only [World.size_alloc, size_drew_]; omega)))
    clear TG_6
    have OG_7 := Lib.hid (OG_6.out.below hb)
    clear OG_6
    have BB_7 := Lib.hid (BB_6.out.trans (hb.mono (by first | omega | (simp only [World.size_alloc]; omega) | (simp only [size_drew_]; omega) | (simp only [World.size_alloc, size_drew_]; omega))))
    clear BB_6
    have s7 := hb.size
    simp only [World.size_alloc] at s7
    clear hb
    go_wp2_with fail
    refine (eqInts_b _ _ _ _ _ _ TS _ _ _ TG_7.out.nums TW_7.out.nums rfl rfl).mono ?_
    rintro e w8 ⟨rfl, hb⟩
    have A_8 := Lib.hid (A_7.out.below (hb.mono (by first | omega | (simp only [World.size_alloc]; omega) | (simp only [size_drew_]; omega) | (simp only [World.size_alloc, size_drew_]; omega))))
    clear A_7
    have TW_8 := Lib.hid (TW_7.out.below hb (by first | omega | (simp only [World.size_alloc]; omega) | (simp only [size_drew_]; omega) | (simp only [World.size_alloc, size_drew_]; omega)))
    clear TW_7
    have OW_8 := Lib.hid (OW_7.out.below hb)
    clear OW_7
    have X_8 := Lib.hid (X_7.out.below hb (by first | omega | (simp only [World.size_alloc]; omega) | (simp only [size_drew_]; omega) | (simp only [World.size_alloc, size_drew_]; omega)))
    clear X_7
    have TG_8 := Lib.hid (TG_7.out.below hb (by first | omega | (simp only [World.size_alloc]; omega) | (simp only [size_drew_]; omega) | (simp only [World.size_alloc, size_drew_]; omega)))
    clear TG_7
    have OG_8 := Lib.hid (OG_7.out.below hb)
    clear OG_7
    have BB_8 := Lib.hid (BB_7.out.trans (hb.mono (by first | omega | (simp only [World.size_alloc]; omega) | (simp only [size_drew_]; omega) | (simp only [World.size_alloc, size_drew_]; omega))))
    clear BB_7
    have s8 := hb.size
    clear hb
    go_wp2_with fail
    refine (toGrid_any a _ c ess _ _ A_8.out rfl (by first | omega | (simp only [World.size_alloc]; omega) | (simp only [size_drew_]; omega) | (simp only [World.size_alloc, size_drew_]; omega)) hfit).mono ?_
    rintro e w9 ⟨a9, c9, rfl, ho, hb⟩
    have A_9 := Lib.hid (A_8.out.below (hb.mono (by first | omega | (simp only [World.size_alloc]; omega) | (simp only [size_drew_]; omega) | (simp only [World.size_alloc, size_drew_]; omega))))
    clear A_8
    have TW_9 := Lib.hid (TW_8.out.below hb (by first | omega | (simp only [World.size_alloc]; omega) | (simp only [size_drew_]; omega) | (simp only [World.size_alloc, size_drew_]; omega)))
    clear TW_8
    have OW_9 := Lib.hid (OW_8.out.below hb)
    clear OW_8
    have X_9 := Lib.hid (X_8.out.below hb (by first | omega | (simp only [World.size_alloc]; omega) | (simp only [size_drew_]; omega) | (simp only [World.size_alloc, size_drew_]; omega)))
    clear X_8
    have TG_9 := Lib.hid (TG_8.out.below hb (by first | omega | (simp only [World.size_alloc]; omega) | (simp only [size_drew_]; omega) | (simp only [World.size_alloc, size_drew_]; omega)))
    clear TG_8
    have OG_9 := Lib.hid (OG_8.out.below hb)
    clear OG_8
    have BB_9 := Lib.hid (BB_8.out.trans (hb.mono (by first | omega | (simp only [World.size_alloc]; omega) | (simp only [size_drew_]; omega) | (simp only [World.size_alloc, size_drew_]; omega))))
    clear BB_8
    have Z_9 := Lib.hid ho
    clear ho
    have s9 := hb.size
    clear hb
    go_wp2_with fail
    refine (eqGrid_any _ _ _ _ _ _ ess _ _ _ X_9.out.grid Z_9.out.grid rfl rfl (Nat.le_refl _) (Nat.le_refl _)).mono ?_
    rintro e w10 ⟨rfl, hb⟩
    have A_10 := Lib.hid (A_9.out.below (hb.mono (by first | omega | (simp only [World.size_alloc]; omega) | (simp only [size_drew_]; omega) | (simp only [World.size_alloc, size_drew_]; omega))))
    clear A_9
    have TW_10 := Lib.hid (TW_9.out.below hb (by first | omega | (simp only [World.size_alloc]; omega) | (simp only [size_drew_]; omega) | (simp only [World.size_alloc, size_drew_]; omega)))
    clear TW_9
    have OW_10 := Lib.hid (OW_9.out.below hb)
    clear OW_9
    have X_10 := Lib.hid (X_9.out.below hb (by first | omega | (simp only [World.size_alloc]; omega) | (simp only [size_drew_]; omega) | (simp only [World.size_alloc, size_drew_]; omega)))
    clear X_9
    have TG_10 := Lib.hid (TG_9.out.below hb (by first | omega | (simp only [World.size_alloc]; omega) | (simp only [size_drew_]; omega) | (simp only [World.size_alloc, size_drew_]; omega)))
    clear TG_9
    have OG_10 := Lib.hid (OG_9.out.below hb)
    clear OG_9
    have Z_10 := Lib.hid (Z_9.out.below hb (by first | omega | (simp only [World.size_alloc]; omega) | (simp only [size_drew_]; omega) | (simp only [World.size_alloc, size_drew_]; omega)))
    clear Z_9
    have BB_10 := Lib.hid (BB_9.out.trans (hb.mono (by first | omega | (simp only [World.size_alloc]; omega) | (simp only [size_drew_]; omega) | (simp only [World.size_alloc, size_drew_]; omega))))
    clear BB_9
    have s10 := hb.size
    clear hb
    clear Z_10
    go_wp2_with fail
    refine (markGrid_m _ _ _ ess _ _ _ X_10.out rfl (by first | omega | (simp only [World.size_alloc]; omega) | (simp only [size_drew_]; omega) | (simp only [World.size_alloc, size_drew_]; omega)) hfit).mono ?_
    rintro e w11 ⟨rfl, hm⟩
    have A_11 := Lib.hid (A_10.out.below ((hm.below (by first | omega | (simp only [World.size_alloc]; omega) | (simp only [size_drew_]; omega) | (simp only [World.size_alloc, size_drew_]; omega))).mono (by first | omega | (simp only [World.size_alloc]; omega) | (simp only [size_drew_]; omega) | (simp only [World.size_alloc, size_drew_]; omega))))
    clear A_10
    have TW_11 := Lib.hid (TW_10.out.span hm (by first | omega | (simp only [World.size_alloc]; omega) | (simp only [size_drew_]; omega) | (simp only [World.size_alloc, size_drew_]; omega)))
    clear TW_10
    have OW_11 := Lib.hid (OW_10.out.span hm (by first | omega | (simp only [World.size_alloc]; omega) | (simp only [size_drew_]; omega) | (simp only [World.size_alloc, size_drew_]; omega)))
    clear OW_10
    have TG_11 := Lib.hid (TG_10.out.span hm (by first | omega | (simp only [World.size_alloc]; omega) | (simp only [size_drew_]; omega) | (simp only [World.size_alloc, size_drew_]; omega)))
    clear TG_10
    have OG_11 := Lib.hid (OG_10.out.span hm (by first | omega | (simp only [World.size_alloc]; omega) | (simp only [size_drew_]; omega) | (simp only [World.size_alloc, size_drew_]; omega)))
    clear OG_10
    have BB_11 := Lib.hid (BB_10.out.trans ((hm.below (by first | omega | (simp only [World.size_alloc]; omega) | (simp only [size_drew_]; omega) | (simp only [World.size_alloc, size_drew_]; omega))).mono (by first | omega | (simp only [World.size_alloc]; omega) | (simp only [size_drew_]; omega) | (simp only [World.size_alloc, size_drew_]; omega))))
    clear BB_10
    clear X_10
    have s11 := hm.size
    clear hm
    have qOG_11 := OG_11.out.cell
    have qOW_11 := OW_11.out.cell
    go_wp2_with fail
    refine (eqSource_any ⟨x, m, t, d, e⟩ _).mono ?_
    rintro e w12 ⟨rfl, hb⟩
    clear qOG_11 qOW_11
    have A_12 := Lib.hid (A_11.out.below (hb.mono (by first | omega | (simp only [World.size_alloc]; omega) | (simp only [size_drew_]; omega) | (simp only [World.size_alloc, size_drew_]; omega))))
    clear A_11
    have TW_12 := Lib.hid (TW_11.out.below hb (by first | omega | (simp only [World.size_alloc]; omega) | (simp only [size_drew_]; omega) | (simp only [World.size_alloc, size_drew_]; omega)))
    clear TW_11
    have OW_12 := Lib.hid (OW_11.out.below hb)
    clear OW_11
    have TG_12 := Lib.hid (TG_11.out.below hb (by first | omega | (simp only [World.size_alloc]; omega) | (simp only [size_drew_]; omega) | (simp only [World.size_alloc, size_drew_]; omega)))
    clear TG_11
    have OG_12 := Lib.hid (OG_11.out.below hb)
    clear OG_11
    have BB_12 := Lib.hid (BB_11.out.trans (hb.mono (by first | omega | (simp only [World.size_alloc]; omega) | (simp only [size_drew_]; omega) | (simp only [World.size_alloc, size_drew_]; omega))))
    clear BB_11
    have s12 := hb.size
    clear hb
    go_wp2_with fail
    refine (eqInts_b _ _ _ _ _ _ TS _ _ _ TG_12.out.nums TW_12.out.nums rfl rfl).mono ?_
    rintro e w13 ⟨rfl, hb⟩
    have A_13 := Lib.hid (A_12.out.below (hb.mono (by first | omega | (simp only [World.size_alloc]; omega) | (simp only [size_drew_]; omega) | (simp only [World.size_alloc, size_drew_]; omega))))
    clear A_12
    have TW_13 := Lib.hid (TW_12.out.below hb (by first | omega | (simp only [World.size_alloc]; omega) | (simp only [size_drew_]; omega) | (simp only [World.size_alloc, size_drew_]; omega)))
    clear TW_12
    have OW_13 := Lib.hid (OW_12.out.below hb)
    clear OW_12
    have TG_13 := Lib.hid (TG_12.out.below hb (by first | omega | (simp only [World.size_alloc]; omega) | (simp only [size_drew_]; omega) | (simp only [World.size_alloc, size_drew_]; omega)))
    clear TG_12
    have OG_13 := Lib.hid (OG_12.out.below hb)
    clear OG_12
    have BB_13 := Lib.hid (BB_12.out.trans (hb.mono (by first | omega | (simp only [World.size_alloc]; omega) | (simp only [size_drew_]; omega) | (simp only [World.size_alloc, size_drew_]; omega))))
    clear BB_12
    have s13 := hb.size
    clear hb
    go_wp2_with fail
    refine (markInts_m _ _ _ 1 _ TS _ _ TG_13.out.own rfl rfl (by first | omega | (simp only [World.size_alloc]; omega) | (simp only [size_drew_]; omega) | (simp only [World.size_alloc, size_drew_]; omega)) (by omega) (by omega)).mono ?_
    rintro e w14 ⟨rfl, hm⟩
    have hb := hm.below
    have TG_14 := Lib.hid (Rw.mk hm.own TG_13.out.up)
    have A_14 := Lib.hid (A_13.out.below (hb.mono (by first | omega | (simp only [World.size_alloc]; omega) | (simp only [size_drew_]; omega) | (simp only [World.size_alloc, size_drew_]; omega))))
    clear A_13
    have TW_14 := Lib.hid (TW_13.out.other TG_13.out hm.grown (by first | omega | (simp only [World.size_alloc]; omega) | (simp only [size_drew_]; omega) | (simp only [World.size_alloc, size_drew_]; omega)))
    clear TW_13
    have OW_14 := Lib.hid (OW_13.out.far TG_13.out hm.grown (by first | omega | (simp only [World.size_alloc]; omega) | (simp only [size_drew_]; omega) | (simp only [World.size_alloc, size_drew_]; omega)))
    clear OW_13
    have OG_14 := Lib.hid (OG_13.out.far TG_13.out hm.grown (by first | omega | (simp only [World.size_alloc]; omega) | (simp only [size_drew_]; omega) | (simp only [World.size_alloc, size_drew_]; omega)))
    clear OG_13
    have BB_14 := Lib.hid (BB_13.out.trans (hb.mono (by first | omega | (simp only [World.size_alloc]; omega) | (simp only [size_drew_]; omega) | (simp only [World.size_alloc, size_drew_]; omega))))
    clear BB_13
    clear TG_13
    have s14 := hb.size
    clear hb hm
    go_wp2_with fail
    refine (heldInts_m _ _ _ 1 _ _ _ TG_14.out.nums rfl (by omega) (by omega)).mono ?_
    rintro e w15 ⟨rfl, hb⟩
    have A_15 := Lib.hid (A_14.out.below (hb.mono (by first | omega | (simp only [World.size_alloc]; omega) | (simp only [size_drew_]; omega) | (simp only [World.size_alloc, size_drew_]; omega))))
    clear A_14
    have TW_15 := Lib.hid (TW_14.out.below hb (by first | omega | (simp only [World.size_alloc]; omega) | (simp only [size_drew_]; omega) | (simp only [World.size_alloc, size_drew_]; omega)))
    clear TW_14
    have OW_15 := Lib.hid (OW_14.out.below hb)
    clear OW_14
    have TG_15 := Lib.hid (TG_14.out.below hb (by first | omega | (simp only [World.size_alloc]; omega) | (simp only [size_drew_]; omega) | (simp only [World.size_alloc, size_drew_]; omega)))
    clear TG_14
    have OG_15 := Lib.hid (OG_14.out.below hb)
    clear OG_14
    have BB_15 := Lib.hid (BB_14.out.trans (hb.mono (by first | omega | (simp only [World.size_alloc]; omega) | (simp only [size_drew_]; omega) | (simp only [World.size_alloc, size_drew_]; omega))))
    clear BB_14
    have s15 := hb.size
    clear hb
    go_wp2_with fail
    refine (toGrid_any a _ c ess _ _ A_15.out rfl (by first | omega | (simp only [World.size_alloc]; omega) | (simp only [size_drew_]; omega) | (simp only [World.size_alloc, size_drew_]; omega)) hfit).mono ?_
    rintro e w16 ⟨a16, c16, rfl, ho, hb⟩
    have A_16 := Lib.hid (A_15.out.below (hb.mono (by first | omega | (simp only [World.size_alloc]; omega) | (simp only [size_drew_]; omega) | (simp only [World.size_alloc, size_drew_]; omega))))
    clear A_15
    have TW_16 := Lib.hid (TW_15.out.below hb (by first | omega | (simp only [World.size_alloc]; omega) | (simp only [size_drew_]; omega) | (simp only [World.size_alloc, size_drew_]; omega)))
    clear TW_15
    have OW_16 := Lib.hid (OW_15.out.below hb)
    clear OW_15
    have TG_16 := Lib.hid (TG_15.out.below hb (by first | omega | (simp only [World.size_alloc]; omega) | (simp only [size_drew_]; omega) | (simp only [World.size_alloc, size_drew_]; omega)))
    clear TG_15
    have OG_16 := Lib.hid (OG_15.out.below hb)
    clear OG_15
    have BB_16 := Lib.hid (BB_15.out.trans (hb.mono (by first | omega | (simp only [World.size_alloc]; omega) | (simp only [size_drew_]; omega) | (simp only [World.size_alloc, size_drew_]; omega))))
    clear BB_15
    have X2_16 := Lib.hid ho
    clear ho
    have s16 := hb.size
    clear hb
    go_wp2_with fail
    refine (IP.out _ _ _ X2_16.out.grid).mono ?_
    rintro e w17 ⟨a17, c17, rfl, ho, hb⟩
    have A_17 := Lib.hid (A_16.out.below (hb.mono (by first | omega | (simp only [World.size_alloc]; omega) | (simp only [size_drew_]; omega) | (simp only [World.size_alloc, size_drew_]; omega))))
    clear A_16
    have TW_17 := Lib.hid (TW_16.out.below hb (by first | omega | (simp only [World.size_alloc]; omega) | (simp only [size_drew_]; omega) | (simp only [World.size_alloc, size_drew_]; omega)))
    clear TW_16
    have OW_17 := Lib.hid (OW_16.out.below hb)
    clear OW_16
    have TG_17 := Lib.hid (TG_16.out.below hb (by first | omega | (simp only [World.size_alloc]; omega) | (simp only [size_drew_]; omega) | (simp only [World.size_alloc, size_drew_]; omega)))
    clear TG_16
    have OG_17 := Lib.hid (OG_16.out.below hb)
    clear OG_16
    have X2_17 := Lib.hid (X2_16.out.below hb (by first | omega | (simp only [World.size_alloc]; omega) | (simp only [size_drew_]; omega) | (simp only [World.size_alloc, size_drew_]; omega)))
    clear X2_16
    have BB_17 := Lib.hid (BB_16.out.trans (hb.mono (by first | omega | (simp only [World.size_alloc]; omega) | (simp only [size_drew_]; omega) | (simp only [World.size_alloc, size_drew_]; omega))))
    clear BB_16
    have TH_17 := Lib.hid (Rw.new ho)
    clear ho
    have s17 := hb.size
    clear hb
    clear X2_17
    have A_18 := Lib.hid (A_17.out.below (((Below.refl w17.heap.size w17).alloc (Nat.le_refl _) (.cells #[.int .i64 x, .int .i64 m, .int .i64 t, .bool d, .bool e] 28)).mono (by first | omega | (simp only [World.size_alloc]; omega) | (simp only [size_drew_]; omega) | (simp only [World.size_alloc, size_drew_]; omega))))
    clear A_17
    have TW_18 := Lib.hid (TW_17.out.below ((Below.refl w17.heap.size w17).alloc (Nat.le_refl _) (.cells #[.int .i64 x, .int .i64 m, .int .i64 t, .bool d, .bool e] 28)) (by first | omega | (simp only [World.size_alloc]; omega) | (simp only [size_drew_]; omega) | (simp only [World.size_alloc, size_drew_]; omega)))
    clear TW_17
    have OW_18 := Lib.hid (OW_17.out.alloc (.cells #[.int .i64 x, .int .i64 m, .int .i64 t, .bool d, .bool e] 28))
    clear OW_17
    have TG_18 := Lib.hid (TG_17.out.below ((Below.refl w17.heap.size w17).alloc (Nat.le_refl _) (.cells #[.int .i64 x, .int .i64 m, .int .i64 t, .bool d, .bool e] 28)) (by first | omega | (simp only [World.size_alloc]; omega) | (simp only [size_drew_]; omega) | (simp only [World.size_alloc, size_drew_]; omega)))
    clear TG_17
    have OG_18 := Lib.hid (OG_17.out.alloc (.cells #[.int .i64 x, .int .i64 m, .int .i64 t, .bool d, .bool e] 28))
    clear OG_17
    have TH_18 := Lib.hid (TH_17.out.below ((Below.refl w17.heap.size w17).alloc (Nat.le_refl _) (.cells #[.int .i64 x, .int .i64 m, .int .i64 t, .bool d, .bool e] 28)) (by first | omega | (simp only [World.size_alloc]; omega) | (simp only [size_drew_]; omega) | (simp only [World.size_alloc, size_drew_]; omega)))
    clear TH_17
    have BB_18 := Lib.hid (BB_17.out.alloc (by first | omega | (simp only [World.size_alloc]; omega) | (simp only [size_drew_]; omega) | (simp only [World.size_alloc, size_drew_]; omega)) (.cells #[.int .i64 x, .int .i64 m, .int .i64 t, .bool d, .bool e] 28))
    clear BB_17
    have OH_18 := Lib.hid (Blk.new w17 28 #[.int .i64 x, .int .i64 m, .int .i64 t, .bool d, .bool e])
    have qOH_18 := OH_18.out.cell
    have qOW_18 := OW_18.out.cell
    go_wp2_with fail
    refine (eqSource_any ⟨x, m, t, d, e⟩ _).mono ?_
    rintro e w19 ⟨rfl, hb⟩
    clear qOH_18 qOW_18
    have A_19 := Lib.hid (A_18.out.below (hb.mono (by first | omega | (simp only [World.size_alloc]; omega) | (simp only [size_drew_]; omega) | (simp only [World.size_alloc, size_drew_]; omega))))
    clear A_18
    have TW_19 := Lib.hid (TW_18.out.below hb (by first | omega | (simp only [World.size_alloc]; omega) | (simp only [size_drew_]; omega) | (simp only [World.size_alloc, size_drew_]; omega)))
    clear TW_18
    have OW_19 := Lib.hid (OW_18.out.below hb)
    clear OW_18
    have TG_19 := Lib.hid (TG_18.out.below hb (by first | omega | (simp only [World.size_alloc]; omega) | (simp only [size_drew_]; omega) | (simp only [World.size_alloc, size_drew_]; omega)))
    clear TG_18
    have OG_19 := Lib.hid (OG_18.out.below hb)
    clear OG_18
    have TH_19 := Lib.hid (TH_18.out.below hb (by first | omega | (simp only [World.size_alloc]; omega) | (simp only [size_drew_]; omega) | (simp only [World.size_alloc, size_drew_]; omega)))
    clear TH_18
    have OH_19 := Lib.hid (OH_18.out.below hb)
    clear OH_18
    have BB_19 := Lib.hid (BB_18.out.trans (hb.mono (by first | omega | (simp only [World.size_alloc]; omega) | (simp only [size_drew_]; omega) | (simp only [World.size_alloc, size_drew_]; omega))))
    clear BB_18
    have s19 := hb.size
    simp only [World.size_alloc] at s19
    clear hb
    go_wp2_with fail
    refine (eqInts_b _ _ _ _ _ _ TS _ _ _ TH_19.out.nums TW_19.out.nums rfl rfl).mono ?_
    rintro e w20 ⟨rfl, hb⟩
    have A_20 := Lib.hid (A_19.out.below (hb.mono (by first | omega | (simp only [World.size_alloc]; omega) | (simp only [size_drew_]; omega) | (simp only [World.size_alloc, size_drew_]; omega))))
    clear A_19
    have TW_20 := Lib.hid (TW_19.out.below hb (by first | omega | (simp only [World.size_alloc]; omega) | (simp only [size_drew_]; omega) | (simp only [World.size_alloc, size_drew_]; omega)))
    clear TW_19
    have OW_20 := Lib.hid (OW_19.out.below hb)
    clear OW_19
    have TG_20 := Lib.hid (TG_19.out.below hb (by first | omega | (simp only [World.size_alloc]; omega) | (simp only [size_drew_]; omega) | (simp only [World.size_alloc, size_drew_]; omega)))
    clear TG_19
    have OG_20 := Lib.hid (OG_19.out.below hb)
    clear OG_19
    have TH_20 := Lib.hid (TH_19.out.below hb (by first | omega | (simp only [World.size_alloc]; omega) | (simp only [size_drew_]; omega) | (simp only [World.size_alloc, size_drew_]; omega)))
    clear TH_19
    have OH_20 := Lib.hid (OH_19.out.below hb)
    clear OH_19
    have BB_20 := Lib.hid (BB_19.out.trans (hb.mono (by first | omega | (simp only [World.size_alloc]; omega) | (simp only [size_drew_]; omega) | (simp only [World.size_alloc, size_drew_]; omega))))
    clear BB_19
    have s20 := hb.size
    clear hb
    go_wp2_with fail
    refine (heldInts_m _ _ _ 1 _ _ _ TG_20.out.nums rfl (by omega) (by omega)).mono ?_
    rintro e w21 ⟨rfl, hb⟩
    have A_21 := Lib.hid (A_20.out.below (hb.mono (by first | omega | (simp only [World.size_alloc]; omega) | (simp only [size_drew_]; omega) | (simp only [World.size_alloc, size_drew_]; omega))))
    clear A_20
    have TW_21 := Lib.hid (TW_20.out.below hb (by first | omega | (simp only [World.size_alloc]; omega) | (simp only [size_drew_]; omega) | (simp only [World.size_alloc, size_drew_]; omega)))
    clear TW_20
    have OW_21 := Lib.hid (OW_20.out.below hb)
    clear OW_20
    have TG_21 := Lib.hid (TG_20.out.below hb (by first | omega | (simp only [World.size_alloc]; omega) | (simp only [size_drew_]; omega) | (simp only [World.size_alloc, size_drew_]; omega)))
    clear TG_20
    have OG_21 := Lib.hid (OG_20.out.below hb)
    clear OG_20
    have TH_21 := Lib.hid (TH_20.out.below hb (by first | omega | (simp only [World.size_alloc]; omega) | (simp only [size_drew_]; omega) | (simp only [World.size_alloc, size_drew_]; omega)))
    clear TH_20
    have OH_21 := Lib.hid (OH_20.out.below hb)
    clear OH_20
    have BB_21 := Lib.hid (BB_20.out.trans (hb.mono (by first | omega | (simp only [World.size_alloc]; omega) | (simp only [size_drew_]; omega) | (simp only [World.size_alloc, size_drew_]; omega))))
    clear BB_20
    have s21 := hb.size
    clear hb
    go_wp2
    go_ret
    exact ⟨rfl, BB_21.out⟩

set_option maxRecDepth 100000 in
theorem lifted (os : Os) (started : os.Started) (H : Type) (enc : TypeId × Value → H) :
    ReturnsInHanded {} Try.checked os 11 .any (Rows.fnExactPlaySourceSpec.pre6 enc Try.prog Try.f11 Rows.fnExactPlaySourceRow.domain false) (Rows.fnExactPlaySourceSpec.post enc Try.prog Try.f11 false true false false) := by
  refine returnsInHanded_of_change (C := Try.checked) own started (by kernel_rfl) Try.func11
    (ChangeSpec.witness6 (enc := enc) (C := Try.checked) false ⟨#[], #[.int .i64 0, .int .i64 0, .slice none 0 0], []⟩ 8 (by kernel_rfl) (by kernel_rfl) (by kernel_rfl) (by kernel_rfl)) ?_
  intro W base args ds gs before hval0 hW hcnd _
  have hval : ∀ (j : Nat) t v, Try.f11.params[j]? = some t → args[j]? = some v → Value.okWide Try.prog W .any base t v := hval0
  have hW' := hW
  obtain ⟨p, q, hA0, hV, rfl, hfz, hnd⟩ := hW
  have hA : DataW.TrodAll enc Try.prog W 0 (fun _ => true) true Try.f11.params.toList args.toList ds p := hA0
  rw [Try.params11] at hA hval
  obtain ⟨v0, vs0, d0, ds0, p0, q0, hargs, rfl, rfl, h0, r0⟩ := trodAll_cons hA
  obtain ⟨v1, vs1, d1, ds1, p1, q1, rfl, rfl, rfl, h1, r1⟩ := trodAll_cons r0
  obtain ⟨v2, vs2, d2, ds2, p2, q2, rfl, rfl, rfl, h2, r2⟩ := trodAll_cons r1
  obtain ⟨rfl, rfl, rfl⟩ := trodAll_nil r2
  obtain rfl : args = #[v0, v1, v2] := by cases args; simp_all
  obtain ⟨rfl, rfl⟩ := trodVars_none hV
  have lt0 : ∀ x ∈ p0, x.block < W.heap.size := by obtain ⟨m, hm⟩ := h0; exact DataW.trod_lt m _ _ _ hm
  obtain ⟨x0, rfl, hx0⟩ := arg_int (hval 0 3 v0 rfl rfl) h0
  have lt1 : ∀ x ∈ p1, x.block < W.heap.size := by obtain ⟨m, hm⟩ := h1; exact DataW.trod_lt m _ _ _ hm
  obtain ⟨x1, rfl, hx1⟩ := arg_int (hval 1 3 v1 rfl rfl) h1
  have lt2 : ∀ x ∈ p2, x.block < W.heap.size := by obtain ⟨m, hm⟩ := h2; exact DataW.trod_lt m _ _ _ hm
  obtain ⟨a2, n2, c2, rfl, ess2, hn2, hs2⟩ := arg_grid (hval 2 24 v2 rfl rfl) h2
  clear hA0 hval0
  refine (walk W x0 hx0 x1 hx1 a2 n2 c2 ess2 hn2 hs2).mono fun e W' ⟨he, bel⟩ => ?_
  subst he
  exact ⟨_, rfl, _, _, _, [], _, [], hW', trodAll_mk1 (shut_bool Try.underlying4 _), (trodAll_cons_mk (Below.trod laidOut (by kernel_rfl) (of_decide_eq_true (by kernel_rfl)) h0 bel lt0) (trodAll_cons_mk (Below.trod laidOut (by kernel_rfl) (of_decide_eq_true (by kernel_rfl)) h1 bel lt1) (trodAll_cons_mk (Below.trod laidOut (by kernel_rfl) (of_decide_eq_true (by kernel_rfl)) h2 bel lt2) trodAll_mk0))), rfl, bel.frame _, fun h => by cases h⟩

theorem over : Rows.fnExactPlaySourceRow.holds Try.pinned (OpenSpec.ofChange Rows.fnExactPlaySourceSpec) :=
  OpenClaim.holds_of_wide 11 Try.f11 rfl rfl rfl rfl rfl rfl rfl ⟨rfl, rfl, rfl, rfl, rfl⟩ rfl rfl rfl rfl rfl (by kernel_rfl) Try.func11 (by kernel_rfl)
    (of_decide_eq_true (by kernel_rfl)) (by unfold Func.isWrapper; first | (rw [if_pos (by decide +kernel)]; kernel_rfl) | (rw [if_neg (by decide +kernel)]; exact ⟨rfl, rfl⟩))
    (fun os started H enc _ => lifted os started H enc)

theorem proved : Rows.FnExactPlaySourceSaid := over
#print axioms proved
end Go.Proofs.Ytpigollgjpkflaa.fnExactPlaySource
