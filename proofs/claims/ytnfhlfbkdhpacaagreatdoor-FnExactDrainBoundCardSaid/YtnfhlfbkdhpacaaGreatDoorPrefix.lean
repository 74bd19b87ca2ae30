/- Contract of bytes.HasPrefix over slices that read as lists of bytes. -/
import Derived.Test.YtnfhlfbkdhpacaaGreatDoorShelf
import Derived.Test.YtnfhlfbkdhpacaaGreatDoorJoint1
import Derived.Shelf.Bytes.SlSmallAll
namespace Go.Proofs.YtnfhlfbkdhpacaaGreatDoor
open Go.RowKit

theorem ofNat_inj {x y : Int} (hx : 0 ≤ x ∧ x ≤ 255) (hy : 0 ≤ y ∧ y ≤ 255) : (UInt8.ofNat x.toNat == UInt8.ofNat y.toNat) = (x == y) := by
  rw [Bool.eq_iff_iff, beq_iff_eq, beq_iff_eq]
  constructor
  · intro h
    have h2 := congrArg UInt8.toNat h
    simp only [UInt8.toNat_ofNat'] at h2
    omega
  · intro h; rw [h]
theorem prefix_bytes : ∀ (ys xs : List Int), IsB ys → IsB xs → (Lib.bytesOf ys).isPrefixOf (Lib.bytesOf xs) = ys.isPrefixOf xs
  | [], _, _, _ => by simp [Lib.bytesOf]
  | _ :: _, [], _, _ => by simp [Lib.bytesOf, List.isPrefixOf]
  | y :: ys, x :: xs, hy, hx => by
    have ih := prefix_bytes ys xs (fun z hz => hy z (by simp [hz])) (fun z hz => hx z (by simp [hz]))
    unfold Lib.bytesOf at ih ⊢
    simp only [List.map_cons, List.isPrefixOf]
    rw [ih, ofNat_inj (hy y (by simp)) (hx x (by simp))]

theorem bytesIn_of {w : World} {hi c n : Nat} {a : Option Addr} {xs : List Int} (h : Nums .u8 w hi a c xs) (hn : xs.length = n) : Lib.BytesIn w a n xs := by
  subst hn
  rcases h.lies with h0 | ⟨b, off, rfl, _, hc⟩
  · subst h0; exact Lib.BytesIn.nil _ _ _
  · refine Lib.BytesIn.of_cells fun i hi => ?_
    have e : (⟨b, off, none⟩ : Addr).add i = ⟨b, off + i, none⟩ := by
      by_cases h0 : i = 0
      · subst h0; rfl
      · simp [Addr.add, h0]
    rw [e]
    exact hc i hi
theorem hasPrefix_any (a b : Option Addr) (n m c d : Nat) (xs ys : List Int) (h1 h2 : Nat) (w : World) (hr : Nums .u8 w h1 a c xs) (hs : Nums .u8 w h2 b d ys) (hn : n = xs.length) (hm : m = ys.length) (hx : IsB xs) (hy : IsB ys) :
    Calls Tryz.prog 159 #[.slice a n c, .slice b m d] w fun e w' => e = .returned (.bool (ys.isPrefixOf xs)) ∧ w = w' := by
  have h := Any.bytes_HasPrefix_all Tryz.laysnb116 a b n c m d xs ys w hn.symm hm.symm (by have := hr.cap; omega) (bytesIn_of hr hn.symm) (bytesIn_of hs hm.symm)
  refine h.mono ?_
  rintro e w' ⟨he, hw⟩
  exact ⟨by rw [he]; unfold Lib.hasPrefix; rw [prefix_bytes ys xs hy hx], hw.symm⟩

end Go.Proofs.YtnfhlfbkdhpacaaGreatDoor
