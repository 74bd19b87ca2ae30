/- Plain: the searches of a merge, and what it leaves. (made by tools/mkstab.py) -/
import Derived.Test.YtchbmnpajnlijaaStab3
namespace Go.Proofs.Ytchbmnpajnlijaa
open Go.RowKit Stab
/-- What a merge leaves. -/
def Merged (T : TypeId) (g c lo n : Nat) (P X Y S : List Ag) (w w' : World) : Prop := ∃ Z, StS aheadA Z (X ++ Y) ∧ Rt T g c lo n w w' (P ++ Z ++ S)
/-- The search for where x goes, from the left. -/
structure Lo1 (L : List Ag) (x : Ag) (m b i j : Nat) : Prop where
  mi : m ≤ i
  ij : i ≤ j
  jb : j ≤ b
  left : ∀ t, m ≤ t → t < i → aheadA (ael L t) x = true
  right : ∀ t, j ≤ t → t < b → aheadA (ael L t) x = false
theorem Lo1.up {L : List Ag} {x : Ag} {m b i j h : Nat} (s : Lo1 L x m b i j) (hs : SrtOn aheadA (ael L) m b) (h1 : i ≤ h) (h2 : h < j) (hx : aheadA (ael L h) x = true) : Lo1 L x m b (h + 1) j :=
  ⟨by have := s.mi; omega, by omega, s.jb, fun t t1 t2 => swoA.less' (hs.le swoA t1 (by omega) (by have := s.jb; omega)) hx, s.right⟩
theorem Lo1.down {L : List Ag} {x : Ag} {m b i j h : Nat} (s : Lo1 L x m b i j) (hs : SrtOn aheadA (ael L) m b) (h1 : i ≤ h) (h2 : h < j) (hx : aheadA (ael L h) x = false) : Lo1 L x m b i h :=
  ⟨s.mi, h1, by have := s.jb; omega, s.left, fun t t1 t2 => swoA.trans _ _ _ (hs.le swoA (by have := s.mi; omega) t1 t2) hx⟩
/-- The search for where y goes, from the right. -/
structure Hi1 (L : List Ag) (y : Ag) (a m i j : Nat) : Prop where
  ai : a ≤ i
  ij : i ≤ j
  jm : j ≤ m
  left : ∀ t, a ≤ t → t < i → aheadA y (ael L t) = false
  right : ∀ t, j ≤ t → t < m → aheadA y (ael L t) = true
theorem Hi1.up {L : List Ag} {y : Ag} {a m i j h : Nat} (s : Hi1 L y a m i j) (hs : SrtOn aheadA (ael L) a m) (h1 : i ≤ h) (h2 : h < j) (hy : aheadA y (ael L h) = false) : Hi1 L y a m (h + 1) j :=
  ⟨by have := s.ai; omega, by omega, s.jm, fun t t1 t2 => swoA.trans _ _ _ hy (hs.le swoA t1 (by omega) (by have := s.jm; omega)), s.right⟩
theorem Hi1.down {L : List Ag} {y : Ag} {a m i j h : Nat} (s : Hi1 L y a m i j) (hs : SrtOn aheadA (ael L) a m) (h1 : i ≤ h) (h2 : h < j) (hy : aheadA y (ael L h) = true) : Hi1 L y a m i h :=
  ⟨s.ai, h1, by have := s.jm; omega, s.left, fun t t1 t2 => swoA.less hy (hs.le swoA (by have := s.ai; omega) t1 t2)⟩
theorem srtOn_mid {P X R L : List Ag} (hL : L = P ++ X ++ R) (h : Srt aheadA X) {a b : Nat} (ha : a = P.length) (hb : b = P.length + X.length) : SrtOn aheadA (ael L) a b := by
  subst hL ha hb
  exact srtOn_of aD h
theorem ael_mid {P X R L : List Ag} (hL : L = P ++ X ++ R) {t : Nat} (ht : t < X.length) : ael L (P.length + t) = ael X t := by
  subst hL
  simp only [ael, rel, List.getD_eq_getElem?_getD]
  rw [List.append_assoc, List.getElem?_append_right (by omega), List.getElem?_append_left (by omega)]
  simp
theorem mem_ael {X : List Ag} {x : Ag} (h : x ∈ X) : ∃ t, t < X.length ∧ ael X t = x := by
  obtain ⟨k, hk, rfl⟩ := List.mem_iff_getElem.1 h
  exact ⟨k, hk, rel_lt aD hk⟩
theorem ael_take_lt {X : List Ag} {k t : Nat} (h : t < k) : ael (X.take k) t = ael X t := by
  simp only [ael, rel, List.getD_eq_getElem?_getD, List.getElem?_take_of_lt h]
theorem ael_drop {X : List Ag} {k t : Nat} : ael (X.drop k) t = ael X (k + t) := by
  simp only [ael, rel, List.getD_eq_getElem?_getD, List.getElem?_drop]

end Go.Proofs.Ytchbmnpajnlijaa
