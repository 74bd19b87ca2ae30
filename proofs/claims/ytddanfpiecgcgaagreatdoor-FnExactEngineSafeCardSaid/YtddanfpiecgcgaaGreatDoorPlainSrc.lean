/- Plain: a source of chapter 4 and what is done to it. No program. -/
import Derived.Test.YtddanfpiecgcgaaGreatDoorTick1
namespace Go.Proofs.YtddanfpiecgcgaaGreatDoor

/-- A source: the latest time seen (x), its mark (m), when something came from it last (s), idle (i), open (o). -/
structure Src where
  x : Int
  m : Int
  s : Int
  i : Bool
  o : Bool

def isMk (t : Int) : Bool := inB t (-1) 1000000
def isTm (t : Int) : Bool := inB t 0 1000000
def sOk (S : Src) : Bool := isMk S.x && (isMk S.m && tickB S.s)
theorem sOk_bd {S : Src} (h : sOk S = true) : -1 ≤ S.x ∧ S.x ≤ 1000000 ∧ -1 ≤ S.m ∧ S.m ≤ 1000000 ∧ 0 ≤ S.s ∧ S.s ≤ 1000000000 := by
  simp only [sOk, isMk, Bool.and_eq_true] at h
  obtain ⟨h1, h2, h3⟩ := h
  have := inB_bd h1
  have := inB_bd h2
  have := tickB_bd h3
  omega
/-- It may be heard at 'now'. -/
def hearB (S : Src) (now : Int) : Bool := sOk S && (S.o && inB now S.s 1000000000)
def evOk (S : Src) (late t now : Int) : Bool := hearB S now && (isTm late && isTm t)
def mkOk (S : Src) (t now : Int) : Bool := hearB S now && isTm t
def ttOk (S : Src) (after now : Int) : Bool := sOk S && ((S.o && !S.i) && dueB S.s after now)
def clOk (S : Src) : Bool := sOk S && S.o
def evT (S : Src) (late t now : Int) : Src := if evOk S late t now = true then ⟨max S.x t, max S.m (max S.x t - late - 1), now, false, S.o⟩ else S
def mkT (S : Src) (t now : Int) : Src := if mkOk S t now = true then ⟨S.x, max S.m t, now, false, S.o⟩ else S
def ttT (S : Src) (after now : Int) : Src := if ttOk S after now = true then ⟨S.x, S.m, S.s, true, S.o⟩ else S
def clT (S : Src) : Src := if clOk S = true then ⟨S.x, S.m, S.s, false, false⟩ else S
def newT (now : Int) : Src := if tickB now = true then ⟨-1, -1, now, false, true⟩ else ⟨0, 0, 0, false, false⟩
theorem evT_no {S : Src} {late t now : Int} (h : evOk S late t now = false) : evT S late t now = S := by simp [evT, h]
theorem evT_yes {S : Src} {late t now : Int} (h : evOk S late t now = true) : evT S late t now = ⟨max S.x t, max S.m (max S.x t - late - 1), now, false, S.o⟩ := by simp [evT, h]
theorem mkT_no {S : Src} {t now : Int} (h : mkOk S t now = false) : mkT S t now = S := by simp [mkT, h]
theorem mkT_yes {S : Src} {t now : Int} (h : mkOk S t now = true) : mkT S t now = ⟨S.x, max S.m t, now, false, S.o⟩ := by simp [mkT, h]
theorem ttT_no {S : Src} {a now : Int} (h : ttOk S a now = false) : ttT S a now = S := by simp [ttT, h]
theorem ttT_yes {S : Src} {a now : Int} (h : ttOk S a now = true) : ttT S a now = ⟨S.x, S.m, S.s, true, S.o⟩ := by simp [ttT, h]
theorem clT_no {S : Src} (h : clOk S = false) : clT S = S := by simp [clT, h]
theorem clT_yes {S : Src} (h : clOk S = true) : clT S = ⟨S.x, S.m, S.s, false, false⟩ := by simp [clT, h]
theorem dueB_bd {f a n : Int} (h : dueB f a n = true) : tickB f = true ∧ tickB a = true ∧ tickB n = true := by
  refine ⟨?_, ?_, ?_⟩
  · cases k : tickB f with
    | false => rw [dueB_no1 k] at h; cases h
    | true => rfl
  · cases k : tickB a with
    | false => rw [dueB_no2 k] at h; cases h
    | true => rfl
  · cases k : tickB n with
    | false => rw [dueB_no3 k] at h; cases h
    | true => rfl
end Go.Proofs.YtddanfpiecgcgaaGreatDoor
