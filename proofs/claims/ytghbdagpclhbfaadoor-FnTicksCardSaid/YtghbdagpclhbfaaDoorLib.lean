/- What this seat uses of the standard library, as contracts at its own translation: Itoa, Repeat, Replace, Atoi. -/
import Derived.Test.YtghbdagpclhbfaaDoorShelf
import Derived.Test.YtghbdagpclhbfaaDoorPlainNum
import Derived.Lib.AppendIntMem
import Derived.Lib.SmallJoins
import Derived.WalkKit
import Derived.ProofKit
import Derived.Below
namespace Go.Proofs.YtghbdagpclhbfaaDoor
open Go.RowKit

/-- The library's table of powers of ten, as the row lists it. -/
def Pow (w : World) : Prop := Lib.TabIs Tryd.prog w "internal/strconv.uint64pow10" .u64 Lib.pow10Tab
theorem gPow : Tryd.prog.globalNamed "internal/strconv.uint64pow10" = some 5 := by kernel_rfl
theorem Pow.below {w w' : World} (h : Pow w) (hb : Below w.heap.size w w') : Pow w' := Go.Joins.tab_stays gPow h hb (Nat.le_refl _)

theorem itoa_any (n : Int) (h0 : -9223372036854775808 ≤ n) (h1 : n ≤ 9223372036854775807) (w : World) (ht : Pow w) :
    Calls Tryd.prog 46 #[.int .i64 n] w fun e w' => e = .returned (.string (str (Lib.itoa n))) ∧ Below w.heap.size w w' :=
  (Any.strconv_Itoa Tryd.laysM171 n h0 h1 w ht).mono fun e w' ⟨he, k, os, hw⟩ => ⟨he, by rw [hw]; exact Lib.below_grow _ _ (Nat.le_refl _) _ _⟩

theorem repeat_any (l : List UInt8) (n : Int) (h0 : 0 ≤ n) (h1 : n ≤ 1000) (hl : l.length ≤ 1000) (w : World) :
    Calls Tryd.prog 47 #[.string (str l), .int .i64 n] w fun e w' => e = .returned (.string (str (Lib.repeatL l n.toNat))) ∧ Below w.heap.size w w' := by
  obtain ⟨c, rfl⟩ := Int.eq_ofNat_of_zero_le h0
  refine (Any.strings_Repeat Tryd.lays105 Tryd.Builder_Extra_105 (str l) c w (by omega) ?_).mono fun e w' ⟨he, hb⟩ => ⟨?_, hb⟩
  · rw [str_size]
    have := Nat.mul_le_mul hl (show c ≤ 1000 by omega)
    omega
  · rw [he, str_data]; rfl

/-- The library's switch for long texts holds some int. -/
def MaxLen (w : World) : Prop := ∃ m, w.cell? ⟨2, 0, none⟩ = some (.int .i64 m)
theorem maxLen_of {w : World} (h : w.ShapedOpen Tryd.prog) : MaxLen w := Tryd.laysM154.s1_3 w h
theorem MaxLen.below {w w' : World} (h : MaxLen w) (hb : Below w.heap.size w w') : MaxLen w' := by
  obtain ⟨m, hm⟩ := h
  exact ⟨m, (hb.cell (p := ⟨2, 0, none⟩) (block_lt_of_cell hm)).trans hm⟩
theorem replace_any (l old new : List UInt8) (n : Int) (hl : l.length ≤ 4294967280) (h1 : 1 ≤ old.length) (h2 : new = []) (w : World) (hsh : MaxLen w) :
    Calls Tryd.prog 29 #[.string (str l), .string (str old), .string (str new), .int .i64 n] w fun e w' => e = .returned (.string (str (Lib.replace l old new n))) ∧ Below w.heap.size w w' := by
  subst h2
  obtain ⟨m, hm⟩ := hsh
  refine (Any.strings_Replace { Tryd.laysM154 with } Tryd.Builder_Extra_M154 (str l) (str old) (str []) n m w (by rw [str_size]; omega) hm (by rw [str_size]; exact h1) ?_).mono fun e w' ⟨he, hb⟩ => ⟨?_, hb⟩
  · rw [str_size, str_size]; simp; omega
  · rw [he, str_data, str_data, str_data]; rfl

/-- The two errors that strconv hands back are not nil. -/
structure Errs (w : World) : Prop where
  syn : ∃ tp p, w.var? Tryd.prog "strconv.ErrSyntax" = some #[.iface tp p]
  ran : ∃ tp p, w.var? Tryd.prog "strconv.ErrRange" = some #[.iface tp p]
theorem gSyn : Tryd.prog.globalNamed "strconv.ErrSyntax" = some 0 := by kernel_rfl
theorem gRan : Tryd.prog.globalNamed "strconv.ErrRange" = some 1 := by kernel_rfl
theorem var_below {g : Nat} {w w' : World} {n : String} {cs : Array Value} (hg : Tryd.prog.globalNamed n = some g) (h : w.var? Tryd.prog n = some cs) (hb : Below w.heap.size w w') : w'.var? Tryd.prog n = some cs := by
  unfold World.var? at h ⊢
  simp only [hg, Option.bind_some] at h ⊢
  have hlt : g < w.heap.size := by
    rcases Nat.lt_or_ge g w.heap.size with h' | h'
    · exact h'
    · simp [Array.getElem?_eq_none h'] at h
  rw [hb.block g hlt]
  exact h
theorem Errs.below {w w' : World} (h : Errs w) (hb : Below w.heap.size w w') : Errs w' := by
  obtain ⟨⟨a, b, h1⟩, ⟨c, d, h2⟩⟩ := h
  exact ⟨⟨a, b, var_below gSyn h1 hb⟩, ⟨c, d, var_below gRan h2 hb⟩⟩

/-- What Atoi ends in: the number and no error, or an error that is not nil. -/
def AtoiPost (l : List UInt8) (w : World) (e : Ending) (w' : World) : Prop :=
  ((∃ v, Lib.atoiAll l = .ok v ∧ e = .returned (.tuple #[.int .i64 v, .nilIface])) ∨ ((∀ v, Lib.atoiAll l ≠ .ok v) ∧ ∃ v t p, e = .returned (.tuple #[.int .i64 v, .iface t p]))) ∧ Below w.heap.size w w'
theorem atoi_any (l : List UInt8) (hl : l.length ≤ 1048576) (w : World) (he : Errs w) : Calls Tryd.prog 28 #[.string (str l)] w (AtoiPost l w) := by
  obtain ⟨⟨a, b, h1⟩, ⟨c, d, h2⟩⟩ := he
  have hd : (str l).data.toList = l := str_data l
  cases h : Lib.atoiAll l with
  | ok v =>
    refine (Any.strconv_Atoi_ok Tryd.laysC172 (str l) (by rw [str_size]; omega) v (by rw [hd]; exact h) w).mono fun e w' ⟨he, hw⟩ => ⟨.inl ⟨v, h, he⟩, ?_⟩
    rcases hw with rfl | ⟨t, rfl⟩
    · exact Below.refl _ _
    · exact ⟨rfl, rfl, rfl, by rw [Lib.bytesWorld_size]; omega, fun k hk => Lib.bytesWorld_at_old _ _ _ _ hk⟩
  | range =>
    refine (Any.strconv_Atoi_range_var Tryd.laysC172 (str l) (by rw [str_size]; omega) (by rw [hd]; exact h) c d w h2).mono fun e w' ⟨N, he, _, _, hb⟩ => ⟨.inr ⟨fun v hv => ?_, _, _, _, he⟩, hb⟩
    rw [h] at hv; cases hv
  | _ =>
    refine (Any.strconv_Atoi_syntax_var Tryd.laysC172 (str l) (by rw [str_size]; omega) (by rw [hd]; exact h) a b w h1).mono fun e w' ⟨N, he, _, _, hb⟩ => ⟨.inr ⟨fun v hv => ?_, _, _, _, he⟩, hb⟩
    rw [h] at hv; cases hv

end Go.Proofs.YtghbdagpclhbfaaDoor
