/- What an argument that is a frame is as a value, out of its reading. -/
import Derived.Test.YtnnpppdgkbmieaaOpenShard
namespace Go.Proofs.Ytnnpppdgkbmieaa
open Go.ChangeShapes Go.WideShapes Go.ChangeAt Go.RowKit Go.Joins Go.Deep

theorem cellsFrame : Try.prog.cellsOf 26 = 4 := by kernel_rfl
set_option maxRecDepth 100000 in
/-- An argument that is a frame. -/
theorem arg_frame {H : Type} {enc : TypeId × Value → H} {W : World} {base : Nat} {v : Value} {d : DataW H} {p : List MemPlace} (hv : Value.okWide Try.prog W .any base 26 v)
    (h : DataW.Trod enc Try.prog W 0 (fun _ => true) true 26 v d p) : ∃ k y t u : Int, v = (.agg #[.int .i64 k, .int .i64 y, .int .i64 t, .int .i64 u]) := by
  obtain ⟨v0, v1, v2, v3, y0, y1, y2, y3, n, rfl, _, _, h0, h1, h2, h3⟩ := open_agg4 Try.underlying26 (by kernel_rfl) cellsFrame hv h
  obtain ⟨k, e0, _⟩ := DataW.trod_int Try.underlying3 h0
  obtain ⟨y, e1, _⟩ := DataW.trod_int Try.underlying3 h1
  obtain ⟨t, e2, _⟩ := DataW.trod_int Try.underlying3 h2
  obtain ⟨u, e3, _⟩ := DataW.trod_int Try.underlying3 h3
  simp at e0 e1 e2 e3
  subst e0 e1 e2 e3
  exact ⟨k, y, t, u, rfl⟩
end Go.Proofs.Ytnnpppdgkbmieaa
