/- Plain: a frame as bytes. No program. -/
import Derived.Test.YtkconbmgljmpfaaDoorPlainFrame
import Derived.Test.YtkconbmgljmpfaaDoorPlainWide
import Derived.Test.YtkconbmgljmpfaaDoorPlainCheck
namespace Go.Proofs.YtkconbmgljmpfaaDoor

def bodyL (k y t v : Int) : List Int := if k = 1 then (([1] ++ wide 2 y) ++ wide 3 t) ++ wide 3 (v + 1000000) else if k = 2 then [2] ++ wide 3 t else [3]
theorem bodyL_event (y t v : Int) : bodyL 1 y t v = (([1] ++ wide 2 y) ++ wide 3 t) ++ wide 3 (v + 1000000) := by simp [bodyL]
theorem bodyL_mark (y t v : Int) : bodyL 2 y t v = [2] ++ wide 3 t := by simp [bodyL]
theorem bodyL_bye (y t v : Int) : bodyL 3 y t v = [3] := by simp [bodyL]
theorem bodyL_isB (k y t v : Int) : IsB (bodyL k y t v) := by
  unfold bodyL
  split
  · exact (((IsB.one (by omega) (by omega)).append (wide_isB _ _)).append (wide_isB _ _)).append (wide_isB _ _)
  · split
    · exact (IsB.one (by omega) (by omega)).append (wide_isB _ _)
    · exact IsB.one (by omega) (by omega)
theorem bodyL_len (k y t v : Int) : (bodyL k y t v).length ≤ 9 ∧ 1 ≤ (bodyL k y t v).length := by
  unfold bodyL
  split
  · simp [wide_len]
  · split
    · simp [wide_len]
    · simp
def putL (k y t v : Int) : List Int := if fOk k y t v = true then ([((bodyL k y t v).length : Int)] ++ bodyL k y t v) ++ wide 4 (crc (bodyL k y t v)) else []
theorem putL_no {k y t v : Int} (h : fOk k y t v = false) : putL k y t v = [] := by unfold putL; simp [h]
theorem putL_yes {k y t v : Int} (h : fOk k y t v = true) : putL k y t v = ([((bodyL k y t v).length : Int)] ++ bodyL k y t v) ++ wide 4 (crc (bodyL k y t v)) := by unfold putL; rw [if_pos h]
theorem putL_len (k y t v : Int) : (putL k y t v).length ≤ 14 := by
  unfold putL
  split
  · have := bodyL_len k y t v
    simp [wide_len]; omega
  · simp
theorem putL_isB (k y t v : Int) : IsB (putL k y t v) := by
  unfold putL
  split
  · have := bodyL_len k y t v
    exact ((IsB.one (by omega) (by omega)).append (bodyL_isB k y t v)).append (wide_isB _ _)
  · exact IsB.nil
theorem wide_one {x : Int} (h0 : 0 ≤ x) (h1 : x ≤ 255) : wide 1 x = [x] := by
  simp [wide]
  omega
/-- What is known of a frame's numbers. -/
theorem fOk_bd {k y t v : Int} (h : fOk k y t v = true) : (k = 1 ∧ 0 ≤ y ∧ y ≤ 65535 ∧ 0 ≤ t ∧ t ≤ 1000000 ∧ -1000000 ≤ v ∧ v ≤ 1000000) ∨ (k = 2 ∧ y = 0 ∧ 0 ≤ t ∧ t ≤ 1000000 ∧ v = 0) ∨ (k = 3 ∧ y = 0 ∧ t = 0 ∧ v = 0) := by
  unfold fOk inB at h
  simp at h
  omega

end Go.Proofs.YtkconbmgljmpfaaDoor
