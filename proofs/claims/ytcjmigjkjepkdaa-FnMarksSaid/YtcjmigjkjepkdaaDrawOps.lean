/- The draws of a link's ops: a number and a list of ops, up to their bounds alone. -/
import Derived.Test.YtcjmigjkjepkdaaDraw
import Derived.Test.YtcjmigjkjepkdaaRing1
namespace Go.Proofs.Ytcjmigjkjepkdaa
open Go.RowKit

theorem Bytes.below_ {w w' : World} {p : Nat} {a : Option Addr} {len : Nat} (h : Bytes w p a len) (hb : Below p w w') : Bytes w' p a len :=
  ⟨h.small, h.lies.imp id fun ⟨b, off, ha, hlt, hc⟩ => ⟨b, off, ha, hlt, fun i hi => by
    obtain ⟨x, h0, h1, hx⟩ := hc i hi
    exact ⟨x, h0, h1, (hb.cell (p := ⟨b, off + i, none⟩) hlt).trans hx⟩⟩⟩
theorem Cur.below_ {w w' : World} {p : Nat} {a : Option Addr} {len cap : Nat} (h : Cur w p a len cap) (hb : Below (p + 1) w w') : Cur w' p a len cap := by
  have hblk : w'.heap[p]? = w.heap[p]? := hb.block p (by omega)
  obtain ⟨hlt, hby, h0, ⟨i, hi0, hi1, h1⟩, ⟨x, hx0, hx1, h2⟩, f1, f2⟩ := h
  exact ⟨Nat.lt_of_lt_of_le hlt hb.size, hby.below_ (hb.mono (Nat.le_succ _)), (World.cell?_of_block hblk).trans h0, ⟨i, hi0, hi1, (World.cell?_of_block hblk).trans h1⟩, ⟨x, hx0, hx1, (World.cell?_of_block hblk).trans h2⟩,
    (World.frozen?_of_block hblk).trans f1, (World.frozen?_of_block hblk).trans f2⟩
theorem grown_keeps {w w' : World} {p lo n : Nat} {T : TypeId} {v : Value} {xs : List Value} (h : w.ownsRow lo T 1 v n xs) (hg : w.grownBy w' (some p)) (hp : p < lo) : w'.ownsRow lo T 1 v n xs :=
  h.kept hg (by cases ho : v.ownBlock with
    | none => exact .inl rfl
    | some g => right; intro e; injection e with e; have := (h.lt g ho).1; omega)
theorem grown_below_ {w w' : World} {B p : Nat} (h : w.grownBy w' (some p)) (hp : B ≤ p) (hB : B ≤ w.heap.size) : Below B w w' := ⟨h.os, h.tape, h.output, h.size, fun k hk => h.block k (by omega) (fun e => by injection e with e; omega)⟩

theorem size40_any (a : Option Addr) (len cap : Nat) (w : World) (hl : len ≤ 1048576) :
    Calls Try.prog 19 #[.slice a len cap, .int .i64 40] w fun e w' => (∃ s : Int, e = .returned (.int .i64 s) ∧ 2 ≤ s ∧ s ≤ 40) ∧ w = w' := by
  have hd : 0 ≤ ((len : Int) / 16) ∧ ((len : Int) / 16) ≤ 65536 := by omega
  by_cases h : 40 < 2 + (len : Int) / 16
  · go_enter Try.func19, Try.ntmps19
    go_wp2
    go_ret
    exact ⟨⟨_, rfl, by omega, by omega⟩, rfl⟩
  · go_enter Try.func19, Try.ntmps19
    go_wp2
    go_ret
    exact ⟨⟨_, rfl, by omega, by omega⟩, rfl⟩

/-- A number and a list of ops, of the call's own. -/
def OpsPost (w : World) (e : Ending) (w' : World) : Prop :=
  ∃ (x : Int) (ops : List Int) (a : Option Addr) (c : Nat), e = .returned (.tuple #[.int .i64 x, .slice a ops.length c]) ∧ ops.length ≤ 301 ∧ w'.ownsRow w.heap.size 3 1 (.slice a ops.length c) ops.length (ops.map (Value.int .i64)) ∧ Below w.heap.size w w'
theorem row_cells {w : World} {b : Nat} {T : TypeId} {xs : List Int} {cs : Array Value} (hb : Blk w b T cs) (hcs : cs = (xs.map (Value.int .i64)).toArray) : ∀ i, i < xs.length → w.cell? ⟨b, i, none⟩ = some (.int .i64 (el xs i)) := by
  intro i hi
  subst hcs
  rw [hb.cell i]
  have := el_cell .i64 xs i hi
  simpa using this
end Go.Proofs.Ytcjmigjkjepkdaa
