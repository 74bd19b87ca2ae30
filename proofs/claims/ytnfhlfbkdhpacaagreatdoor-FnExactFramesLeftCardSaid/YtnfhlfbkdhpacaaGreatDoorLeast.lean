/- Contract of the reader's leastBody, and of the frame that it is. -/
import Derived.Test.YtnfhlfbkdhpacaaGreatDoorJoint1
import Derived.Test.YtnfhlfbkdhpacaaGreatDoorImplPut
namespace Go.Proofs.YtnfhlfbkdhpacaaGreatDoor
open Go.RowKit

/-- A body came out; the reader stands elsewhere, its fault as it was. -/
def LeastPost (r : Nat) (v : Value) (F : Value) (w : World) (e : Ending) (w' : World) : Prop :=
  ∃ a n c ys, e = .returned v ∧ Rd w' r a n c ys F ∧ w.grownBy w' (some r)

set_option maxRecDepth 100000 in
set_option maxHeartbeats 2000000 in
theorem least_event (r : Nat) (a : Option Addr) (n c : Nat) (xs : List Int) (F : Value) (w : World) (hr : Rd w r a n c xs F) (hx : IsB xs) (h9 : numL 1 xs = 9) :
    Calls Tryz.prog 157 #[.pointer (some ⟨r, 0, none⟩)] w (LeastPost r (.iface 251 (.agg #[.int .i64 (numL 2 (xs.drop 2)), .int .i64 (numL 3 (xs.drop 4)), .int .i64 (numL 3 (xs.drop 7) - 1000000)])) F w) := by
  have HX := Lib.hid hx
  have HR := Lib.hid hr
  have H1 := Lib.hid (fun M hM => number_any r a n c 1 xs F w hr hx (by omega) (M := M) hM)
  rw [h9] at H1
  have B2 := num2_bd (hx.drop 2)
  have B4 := num3_bd (hx.drop 4)
  have B7 := num3_bd (hx.drop 7)
  clear hx hr h9
  go_enter Tryz.func157, Tryz.ntmps157
  go_wp2_with fail
  refine (H1.out _ rfl).mono ?_
  rintro e w1 ⟨a1, n1, c1, rfl, hr1, hg1⟩
  have R1 := Lib.hid hr1
  have G1 := Lib.hid hg1
  clear hr1 hg1
  go_wp2_with fail
  refine (number_any r _ _ _ 1 (xs.drop 1) F _ R1.out (HX.out.drop 1) (by omega) rfl).mono ?_
  rintro e w2 ⟨a2, n2, c2, rfl, hr2, hg2⟩
  rw [List.drop_drop] at hr2
  have R2 := Lib.hid hr2
  have G2 := Lib.hid (grown_trans G1.out hg2)
  clear hr2 hg2
  go_wp2_with fail
  refine (number_any r _ _ _ 2 (xs.drop (1 + 1)) F _ R2.out (HX.out.drop _) (by omega) rfl).mono ?_
  rintro e w3 ⟨a3, n3, c3, rfl, hr3, hg3⟩
  rw [List.drop_drop] at hr3
  have R3 := Lib.hid hr3
  have G3 := Lib.hid (grown_trans G2.out hg3)
  clear hr3 hg3
  go_wp2_with fail
  refine (number_any r _ _ _ 3 (xs.drop (1 + 1 + 2)) F _ R3.out (HX.out.drop _) (by omega) rfl).mono ?_
  rintro e w4 ⟨a4, n4, c4, rfl, hr4, hg4⟩
  rw [List.drop_drop] at hr4
  have R4 := Lib.hid hr4
  have G4 := Lib.hid (grown_trans G3.out hg4)
  clear hr4 hg4
  go_wp2_with fail
  refine (number_any r _ _ _ 3 (xs.drop (1 + 1 + 2 + 3)) F _ R4.out (HX.out.drop _) (by omega) rfl).mono ?_
  rintro e w5 ⟨a5, n5, c5, rfl, hr5, hg5⟩
  have HP : Hid (LeastPost r (.iface 251 (.agg #[.int .i64 (numL 2 (xs.drop 2)), .int .i64 (numL 3 (xs.drop 4)), .int .i64 (numL 3 (xs.drop 7) - 1000000)])) F w (.returned (.iface 251 (.agg #[.int .i64 (numL 2 (xs.drop 2)), .int .i64 (numL 3 (xs.drop 4)), .int .i64 (numL 3 (xs.drop 7) - 1000000)]))) w5) := ⟨_, _, _, _, rfl, hr5, grown_trans G4.out hg5⟩
  clear hr5 hg5
  go_wp2
  go_ret
  exact HP.out
set_option maxRecDepth 100000 in
set_option maxHeartbeats 2000000 in
theorem least_mark (r : Nat) (a : Option Addr) (n c : Nat) (xs : List Int) (F : Value) (w : World) (hr : Rd w r a n c xs F) (hx : IsB xs) (h4 : numL 1 xs = 4) :
    Calls Tryz.prog 157 #[.pointer (some ⟨r, 0, none⟩)] w (LeastPost r (.iface 253 (.agg #[.int .i64 (numL 3 (xs.drop 2))])) F w) := by
  have HX := Lib.hid hx
  have HR := Lib.hid hr
  have H1 := Lib.hid (fun M hM => number_any r a n c 1 xs F w hr hx (by omega) (M := M) hM)
  rw [h4] at H1
  have B2 := num3_bd (hx.drop 2)
  clear h4
  clear hx hr
  go_enter Tryz.func157, Tryz.ntmps157
  go_wp2_with fail
  refine (H1.out _ rfl).mono ?_
  rintro e w1 ⟨a1, n1, c1, rfl, hr1, hg1⟩
  have R1 := Lib.hid hr1
  have G1 := Lib.hid hg1
  clear hr1 hg1
  go_wp2_with fail
  refine (number_any r _ _ _ 1 (xs.drop 1) F _ R1.out (HX.out.drop 1) (by omega) rfl).mono ?_
  rintro e w2 ⟨a2, n2, c2, rfl, hr2, hg2⟩
  rw [List.drop_drop] at hr2
  have R2 := Lib.hid hr2
  have G2 := Lib.hid (grown_trans G1.out hg2)
  clear hr2 hg2
  go_wp2_with fail
  refine (number_any r _ _ _ 3 (xs.drop (1 + 1)) F _ R2.out (HX.out.drop _) (by omega) rfl).mono ?_
  rintro e w3 ⟨a3, n3, c3, rfl, hr3, hg3⟩
  have HP : Hid (LeastPost r (.iface 253 (.agg #[.int .i64 (numL 3 (xs.drop 2))])) F w (.returned (.iface 253 (.agg #[.int .i64 (numL 3 (xs.drop 2))]))) w3) := ⟨_, _, _, _, rfl, hr3, grown_trans G2.out hg3⟩
  clear hr3 hg3
  go_wp2
  go_ret
  exact HP.out
set_option maxRecDepth 100000 in
set_option maxHeartbeats 2000000 in
theorem least_bye (r : Nat) (a : Option Addr) (n c : Nat) (xs : List Int) (F : Value) (w : World) (hr : Rd w r a n c xs F) (hx : IsB xs) (h1 : numL 1 xs = 1) :
    Calls Tryz.prog 157 #[.pointer (some ⟨r, 0, none⟩)] w (LeastPost r (.iface 254 (.agg #[])) F w) := by
  have HX := Lib.hid hx
  have HR := Lib.hid hr
  have H1 := Lib.hid (fun M hM => number_any r a n c 1 xs F w hr hx (by omega) (M := M) hM)
  rw [h1] at H1
  clear h1
  clear hx hr
  go_enter Tryz.func157, Tryz.ntmps157
  go_wp2_with fail
  refine (H1.out _ rfl).mono ?_
  rintro e w1 ⟨a1, n1, c1, rfl, hr1, hg1⟩
  have R1 := Lib.hid hr1
  have G1 := Lib.hid hg1
  clear hr1 hg1
  go_wp2_with fail
  refine (number_any r _ _ _ 1 (xs.drop 1) F _ R1.out (HX.out.drop 1) (by omega) rfl).mono ?_
  rintro e w2 ⟨a2, n2, c2, rfl, hr2, hg2⟩
  have HP : Hid (LeastPost r (.iface 254 (.agg #[])) F w (.returned (.iface 254 (.agg #[]))) w2) := ⟨_, _, _, _, rfl, hr2, grown_trans G1.out hg2⟩
  clear hr2 hg2
  go_wp2
  go_ret
  exact HP.out
set_option maxRecDepth 100000 in
set_option maxHeartbeats 2000000 in
theorem least_none (r : Nat) (a : Option Addr) (n c : Nat) (xs : List Int) (F : Value) (w : World) (hr : Rd w r a n c xs F) (hx : IsB xs) (h9 : (numL 1 xs == 9) = false) (h4 : (numL 1 xs == 4) = false) (h1 : (numL 1 xs == 1) = false) :
    Calls Tryz.prog 157 #[.pointer (some ⟨r, 0, none⟩)] w (LeastPost r .nilIface F w) := by
  have HX := Lib.hid hx
  have HR := Lib.hid hr
  have H1 := Lib.hid (fun M hM => number_any r a n c 1 xs F w hr hx (by omega) (M := M) hM)
  clear hx hr
  go_enter Tryz.func157, Tryz.ntmps157
  go_wp2_with fail
  refine (H1.out _ rfl).mono ?_
  rintro e w1 ⟨a1, n1, c1, rfl, hr1, hg1⟩
  have R1 := Lib.hid hr1
  have G1 := Lib.hid hg1
  clear hr1 hg1
  go_wp2_with fail
  refine (number_any r _ _ _ 1 (xs.drop 1) F _ R1.out (HX.out.drop 1) (by omega) rfl).mono ?_
  rintro e w2 ⟨a2, n2, c2, rfl, hr2, hg2⟩
  have HP : Hid (LeastPost r .nilIface F w (.returned .nilIface) w2) := ⟨_, _, _, _, rfl, hr2, grown_trans G1.out hg2⟩
  clear hr2 hg2
  go_wp2
  go_ret
  exact HP.out

end Go.Proofs.YtnfhlfbkdhpacaaGreatDoor
