/- A row of aggs of the call's own under way: its list turns, all else stays. No program's text. -/
import Derived.Test.YtchbmnpajnlijaaPutA
import Derived.Test.YtchbmnpajnlijaaStab
import Derived.Test.YtchbmnpajnlijaaWin4
import Derived.Deep.RegionHeld3
import Derived.StillTailTactics
import Derived.Deep.LoopGhost
import Derived.Deep.QuietTactic
import Derived.BigQuiet
namespace Go.Proofs.Ytchbmnpajnlijaa
open Go.RowKit Stab

theorem swoA : Swo aheadA := by
  refine ⟨fun a b h => ?_, fun a b c h k => ?_⟩
  · unfold aheadA at *
    simp only [decide_eq_true_eq, decide_eq_false_iff_not] at *
    omega
  · unfold aheadA at *
    simp only [decide_eq_false_iff_not] at *
    omega
theorem ael_app {P Q : List Ag} {x : Ag} {i : Nat} (h : i = P.length) : ael (P ++ x :: Q) i = x := by
  subst h
  simp [ael, rel, List.getD_eq_getElem?_getD]
/-- A row under way. -/
structure Rt (T : TypeId) (g c lo n : Nat) (w W : World) (L : List Ag) : Prop where
  own : W.ownsRow lo T 6 (.slice (some ⟨g, 0, none⟩) n c) n (flatA L)
  grown : w.grownBy W (some g)
section
variable {T : TypeId} {g c lo n : Nat} {w W W' : World} {L L' : List Ag}
theorem Rt.len (h : Rt T g c lo n w W L) : n = L.length := ownR_len aC_len (by omega) h.own
theorem Rt.start (h : w.ownsRow lo T 6 (.slice (some ⟨g, 0, none⟩) n c) n (flatA L)) : Rt T g c lo n w w L := ⟨h, grown_drewN w 0 _⟩
theorem Rt.drew (h : Rt T g c lo n w W L) : Rt T g c lo n w W.drew L := ⟨h.own, grown_trans h.grown (grown_drewN W 1 _)⟩
theorem Rt.drewN (h : Rt T g c lo n w W L) (k : Nat) : Rt T g c lo n w (W.drewN k) L := ⟨h.own, grown_trans h.grown (grown_drewN W k _)⟩
theorem grown_any (h : Below w.heap.size w W) (r : Option Nat) : w.grownBy W r := ⟨h.os, h.tape, h.output, h.size, fun k hk _ => h.block k hk⟩
theorem Rt.below (h : Rt T g c lo n w W L) (hb : Below W.heap.size W W') : Rt T g c lo n w W' L := ⟨owns_below h.own hb, grown_trans h.grown (grown_any hb _)⟩
theorem Rt.trans (h : Rt T g c lo n w W L) (k : Rt T g c lo n W W' L') : Rt T g c lo n w W' L' := ⟨k.own, grown_trans h.grown k.grown⟩
theorem Rt.lt (h : Rt T g c lo n w W L) : g < W.heap.size := (h.own.lt g rfl).2
theorem Rt.cap (h : Rt T g c lo n w W L) : n ≤ c ∧ c ≤ 9223372036854775807 := ownR_cap h.own
theorem there_ownA {j : Nat} {l : List Ag} (h : w.ownsRow lo T 6 (.slice (some ⟨g, 0, none⟩) n c) n (flatA l)) (hj : j < l.length) : w.there g (j * 6) 6 := fun q hq => by
  have hn : n = l.length := ownR_len aC_len (by omega) h
  refine ⟨?_, h.frozenAt (j * 6 + q)⟩
  rw [h.cellAt (j * 6 + q) (by omega)]
  simp [flatA_len]
  omega
theorem setCells_putA (W : World) (g o : Nat) (u0 u1 u2 u3 u4 u5 : Int) : W.setCells g o [.int .i64 u0, .int .i64 u1, .int .i64 u2, .int .i64 u3, .int .i64 u4, .int .i64 u5] = putAg W g o u0 u1 u2 u3 u4 u5 := by
  simp only [World.setCells, putAg, Nat.add_assoc]
/-- A row behind a swap. -/
theorem Rt.swap (h : Rt T g c lo n w W L) {i j : Nat} (h1 : i < L.length) (h2 : j < L.length) : Rt T g c lo n w (putAg (putAg W g (i * 6) (ael L j).win (ael L j).key (ael L j).cnt (ael L j).sum (ael L j).mn (ael L j).mx) g (j * 6) (ael L i).win (ael L i).key (ael L i).cnt (ael L i).sum (ael L i).mn (ael L i).mx) (swp aD L i j) := by
  have a := putAg_own h.own h1 (ael L j).win (ael L j).key (ael L j).cnt (ael L j).sum (ael L j).mn (ael L j).mx
  have b := putAg_own a.1 (show j < (L.set i (ael L j)).length by simpa using h2) (ael L i).win (ael L i).key (ael L i).cnt (ael L i).sum (ael L i).mn (ael L i).mx
  exact ⟨b.1, grown_trans (grown_trans h.grown a.2) b.2⟩
end
end Go.Proofs.Ytchbmnpajnlijaa
