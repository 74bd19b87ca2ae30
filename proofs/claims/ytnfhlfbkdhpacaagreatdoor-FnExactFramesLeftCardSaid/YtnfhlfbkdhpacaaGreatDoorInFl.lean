/- InFlight: how many events stand in an engine's queues, on impl's and on spec's side. -/
import Derived.Test.YtnfhlfbkdhpacaaGreatDoorEngS
import Derived.Laws.OwnMore
namespace Go.Proofs.YtnfhlfbkdhpacaaGreatDoor
open Go.RowKit

/-- The cells of an engine's value. -/
def evL (E : En) (p : Pl) : List Value := [.int .i64 E.s0, .int .i64 E.s1, .int .i64 E.s2, .int .i64 E.s3, .int .i64 E.s4, .int .i64 E.s5, .int .i64 E.s6, .int .i64 E.s7, .int .i64 E.s8, .int .i64 E.now, .int .i64 E.mode, .slice p.a0 E.cs.length p.c0, .slice p.a1 E.inq.length p.c1, .slice p.a2 E.qs.length p.c2, .slice p.a3 E.sh.length p.c3, .slice p.a4 E.out.length p.c4, .int .i64 E.mark, .slice p.a5 E.sent.length p.c5, .int .i64 E.t0, .int .i64 E.t1, .int .i64 E.t2, .int .i64 E.t3, .int .i64 E.t4, .int .i64 E.t5]
def qIsEv (S : Mq) : Bool := S.kd == 1
def qevN (l : List Mq) : Nat := (l.filter qIsEv).length
def qevT (ls : List (List Mq)) : Nat → Nat
  | 0 => 0
  | j + 1 => qevT ls j + qevN (rel [] ls j)
def inFl (E : En) : Int := ((qevN E.inq + qevT E.qs E.qs.length : Nat) : Int)
theorem qevN_le (l : List Mq) : qevN l ≤ l.length := List.length_filter_le _ _
theorem qevN_take_ev {l : List Mq} {j : Nat} (hj : j < l.length) (h : (qel l j).kd = 1) : qevN (l.take (j + 1)) = qevN (l.take j) + 1 := by
  unfold qevN
  rw [qel_take hj, List.filter_append]
  simp [qIsEv, h]
theorem qevN_take_no {l : List Mq} {j : Nat} (hj : j < l.length) (h : ¬ (qel l j).kd = 1) : qevN (l.take (j + 1)) = qevN (l.take j) := by
  unfold qevN
  rw [qel_take hj, List.filter_append]
  simp [qIsEv, h]
theorem qevN_take_le (l : List Mq) (j : Nat) : qevN (l.take j) ≤ l.length := Nat.le_trans (qevN_le _) (by simp; omega)
theorem qevT_le (ls : List (List Mq)) (j : Nat) : qevT ls j ≤ totH hdMq ([] : List Mq) ls j := by
  induction j with
  | zero => exact Nat.le_refl _
  | succ j ih =>
    have : qevN (rel [] ls j) ≤ (rel [] ls j).length := qevN_le _
    show qevT ls j + qevN (rel [] ls j) ≤ totH hdMq ([] : List Mq) ls j + (rel [] ls j).length
    omega
theorem qevT_le_all {ls : List (List Mq)} {j : Nat} (hj : j ≤ ls.length) : qevT ls j ≤ totH hdMq ([] : List Mq) ls ls.length := Nat.le_trans (qevT_le ls j) (totH_le hj)
theorem qevT_row {ls : List (List Mq)} {j : Nat} (hj : j < ls.length) : qevT ls j + (rel [] ls j).length ≤ totH hdMq ([] : List Mq) ls ls.length := by
  have h1 := qevT_le ls j
  have h2 := totH_le (H := hdMq) (d := ([] : List Mq)) (l := ls) (show j + 1 ≤ ls.length from hj)
  have h3 : totH hdMq ([] : List Mq) ls (j + 1) = totH hdMq ([] : List Mq) ls j + (rel [] ls j).length := rfl
  omega
end Go.Proofs.YtnfhlfbkdhpacaaGreatDoor
