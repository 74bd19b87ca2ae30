/- Several texts of this proof in one: Plain, Mem, PlainFrame, PlainWide, PlainCheck, PlainPut, PlainTake, Row, ByteS, Mark, PlainDec, Recs, Head, Head2. -/
import Derived.WalkKit
import Derived.Below
import Derived.Laws.MakeOwn
import Derived.Lib.Hide
import Derived.Laws.OwnMore
import Derived.OwnWalk
import Derived.WalkSmall
import Derived.Test.YtfneipdlihbbjabGreatDoorTick1
import Derived.Laws.BitsAllLaws
import Derived.Laws.BitsLemmas
import Derived.Test.YtfneipdlihbbjabGreatDoorProg
import Derived.ProofKit
import Derived.Deep.OwnRows
import Derived.Deep.QuietTactic
import Derived.BigQuiet
import Derived.Deep.MidRow
/- Plain facts on lists and cells: no program. What a slice of ints reads as, how its copy is filled cell by cell, folds over a list's beginning. -/
namespace Go.Proofs.YtfneipdlihbbjabGreatDoor
open Go.RowKit

/-- Element i of a list of numbers, 0 behind its end (a name of its own: the walk leaves it as it stands). -/
def el (xs : List Int) (i : Nat) : Int := xs.getD i 0

/-- What a slice value of ints reads as: its numbers, where they lie. -/
structure Row (w : World) (a : Option Addr) (len : Nat) (xs : List Int) : Prop where
  size : xs.length = len
  lies : len = 0 ∨ ∃ b off, a = some ⟨b, off, none⟩ ∧ b < w.heap.size ∧ ∀ i, i < len → w.cell? ⟨b, off + i, none⟩ = some (.int .i64 (el xs i))

theorem Row.below {w w' : World} {a : Option Addr} {len : Nat} {xs : List Int} (h : Row w a len xs) (hb : Below w.heap.size w w') : Row w' a len xs :=
  ⟨h.size, h.lies.imp id fun ⟨b, off, ha, hlt, hc⟩ => ⟨b, off, ha, Nat.lt_of_lt_of_le hlt hb.size, fun i hi => (hb.cell (p := ⟨b, off + i, none⟩) hlt).trans (hc i hi)⟩⟩

/-- The cells of the copy behind k rounds. -/
def part (xs : List Int) (k : Nat) : Array Value := ((xs.take k).map (Value.int .i64) ++ List.replicate (xs.length - k) (Value.int .i64 0)).toArray
def full (xs : List Int) : Array Value := (xs.map (Value.int .i64)).toArray

theorem part_size (xs : List Int) (k : Nat) (hk : k ≤ xs.length) : (part xs k).size = xs.length := by
  simp only [part, List.size_toArray, List.length_append, List.length_map, List.length_take, List.length_replicate]; omega
theorem part_full (xs : List Int) : part xs xs.length = full xs := by simp [part, full]
theorem part_zero (xs : List Int) : madeCells #[Value.int .i64 0] xs.length = part xs 0 := by
  apply Array.ext
  · rw [size_madeCells, part_size _ _ (Nat.zero_le _)]
  · intro i h1 h2
    simp [madeCells, part]
    rw [Nat.mod_one]
    rfl
theorem part_here (xs : List Int) (k : Nat) (hk : k < xs.length) : (part xs k)[k]? = some (.int .i64 0) := by
  simp only [part, List.getElem?_toArray]
  rw [List.getElem?_append_right (by simp; omega)]
  simp only [List.length_map, List.length_take]
  rw [List.getElem?_replicate, if_pos (by omega)]
theorem part_step (xs : List Int) (k : Nat) (hk : k < xs.length) : (part xs k).setIfInBounds k (.int .i64 (el xs k)) = part xs (k + 1) := by
  apply Array.ext_getElem?
  intro i
  rw [Array.getElem?_setIfInBounds, part_size _ _ (by omega)]
  simp only [part, List.getElem?_toArray]
  by_cases h : k = i
  · subst h
    rw [if_pos rfl, if_pos hk, List.getElem?_append_left (by simp; omega)]
    simp [el, List.getD, hk]
  · rw [if_neg h]
    by_cases h2 : i < k
    · rw [List.getElem?_append_left (by simp; omega), List.getElem?_append_left (by simp; omega)]
      simp only [List.getElem?_map, List.getElem?_take]
      rw [if_pos h2, if_pos (by omega)]
    · rw [List.getElem?_append_right (by simp; omega), List.getElem?_append_right (by simp; omega)]
      simp only [List.length_map, List.length_take, List.getElem?_replicate]
      by_cases h3 : i < xs.length
      · rw [if_pos (by omega), if_pos (by omega)]
      · rw [if_neg (by omega), if_neg (by omega)]
theorem full_at (xs : List Int) (i : Nat) (hi : i < xs.length) : (full xs)[i]? = some (.int .i64 (el xs i)) := by
  simp [full, el, List.getD, hi]

/-- The copy reads as the list. -/
theorem Row.copy (w : World) (xs : List Int) (t : TypeId) : Row (w.alloc (.cells (full xs) t)) (some ⟨w.heap.size, 0, none⟩) xs.length xs :=
  ⟨rfl, .inr ⟨_, 0, rfl, by simp, fun i hi => by rw [Nat.zero_add, World.cell?_alloc_at _ _ _ _ rfl]; exact full_at xs i hi⟩⟩

/-- A fold over a list's first k numbers. -/
def foldTo {β : Type} (f : β → Int → β) (b : β) (xs : List Int) (k : Nat) : β := (xs.take k).foldl f b
theorem foldTo_zero {β : Type} (f : β → Int → β) (b : β) (xs : List Int) : foldTo f b xs 0 = b := rfl
theorem foldTo_succ {β : Type} (f : β → Int → β) (b : β) (xs : List Int) (k : Nat) (hk : k < xs.length) : foldTo f b xs (k + 1) = f (foldTo f b xs k) (el xs k) := by
  unfold foldTo
  rw [List.take_succ_eq_append_getElem hk, List.foldl_append]
  simp [el, List.getD, hk]

end Go.Proofs.YtfneipdlihbbjabGreatDoor

/- Plain facts on memory: a slice of numbers that reads as a list (Nums), rows of the call's own (ownsRow) and how both are carried from world to world. No program. -/
namespace Go.Proofs.YtfneipdlihbbjabGreatDoor
open Go.RowKit

def IsB (xs : List Int) : Prop := ∀ x ∈ xs, 0 ≤ x ∧ x ≤ 255
theorem el_bd {xs : List Int} (h : IsB xs) (i : Nat) : 0 ≤ el xs i ∧ el xs i ≤ 255 := by
  unfold el
  by_cases hi : i < xs.length
  · have e : xs.getD i 0 = xs[i] := by simp [List.getD, hi]
    rw [e]; exact h _ (List.getElem_mem hi)
  · have e : xs.getD i 0 = 0 := by simp [List.getD, Nat.le_of_not_lt hi]
    rw [e]; omega
theorem IsB.append {xs ys : List Int} (h : IsB xs) (k : IsB ys) : IsB (xs ++ ys) := fun x hx => by
  rcases List.mem_append.1 hx with hx | hx
  · exact h x hx
  · exact k x hx
theorem IsB.take {xs : List Int} (h : IsB xs) (n : Nat) : IsB (xs.take n) := fun x hx => h x (List.mem_of_mem_take hx)
theorem IsB.drop {xs : List Int} (h : IsB xs) (n : Nat) : IsB (xs.drop n) := fun x hx => h x (List.mem_of_mem_drop hx)
theorem IsB.nil : IsB [] := fun _ h => absurd h (by simp)
theorem IsB.one {x : Int} (h0 : 0 ≤ x) (h1 : x ≤ 255) : IsB [x] := fun y hy => by simp at hy; subst hy; exact ⟨h0, h1⟩
theorem el_take (xs : List Int) (k : Nat) (hk : k < xs.length) : xs.take (k + 1) = xs.take k ++ [el xs k] := by
  rw [List.take_succ_eq_append_getElem hk]; simp [el, List.getD, hk]
theorem el_cell (k : IntKind) (xs : List Int) (i : Nat) (hi : i < xs.length) : (xs.map (Value.int k))[i]? = some (.int k (el xs i)) := by
  simp [el, List.getD, hi]

/-- A slice of numbers of kind k, at or behind which nothing of interest lies from block hi on, reads as xs. -/
structure Nums (k : IntKind) (w : World) (hi : Nat) (a : Option Addr) (c : Nat) (xs : List Int) : Prop where
  cap : xs.length ≤ c
  big : c ≤ 9223372036854775807
  lies : xs = [] ∨ ∃ b off, a = some ⟨b, off, none⟩ ∧ b < hi ∧ ∀ i, i < xs.length → w.cell? ⟨b, off + i, none⟩ = some (.int k (el xs i))

section
variable {k : IntKind} {w w' : World} {hi hi' : Nat} {a : Option Addr} {c : Nat} {xs : List Int}
theorem Nums.below (h : Nums k w hi a c xs) (hb : Below hi w w') : Nums k w' hi a c xs :=
  ⟨h.cap, h.big, h.lies.imp id fun ⟨b, off, ha, hlt, hc⟩ => ⟨b, off, ha, hlt, fun i hi' => (hb.cell (p := ⟨b, off + i, none⟩) hlt).trans (hc i hi')⟩⟩
theorem Nums.more (h : Nums k w hi a c xs) (hh : hi ≤ hi') : Nums k w hi' a c xs :=
  ⟨h.cap, h.big, h.lies.imp id fun ⟨b, off, ha, hlt, hc⟩ => ⟨b, off, ha, Nat.lt_of_lt_of_le hlt hh, hc⟩⟩
theorem Nums.grown (h : Nums k w hi a c xs) (hh : hi ≤ w.heap.size) {row : Option Nat} (hg : w.grownBy w' row) (hr : ∀ g, row = some g → hi ≤ g) : Nums k w' hi a c xs :=
  ⟨h.cap, h.big, h.lies.imp id fun ⟨b, off, ha, hlt, hc⟩ => ⟨b, off, ha, hlt, fun i hi' => (World.cell?_of_block (a := ⟨b, off + i, none⟩) (hg.block b (by omega) (fun e => by have := hr _ e.symm; omega))).trans (hc i hi')⟩⟩
theorem Nums.none_ (k : IntKind) (w : World) (hi : Nat) : Nums k w hi none 0 [] := ⟨Nat.le_refl _, by omega, .inl rfl⟩
/-- The slice from m on. -/
theorem Nums.drop (h : Nums k w hi a c xs) (m : Nat) (hm : m ≤ xs.length) : Nums k w hi (if c = m then a else a.map (·.add (m * 1))) (c - m) (xs.drop m) := by
  have hcap := h.cap
  refine ⟨by simp; omega, by have := h.big; omega, ?_⟩
  by_cases he : xs.drop m = []
  · exact .inl he
  · have hlt : m < xs.length := by
      rcases Nat.lt_or_ge m xs.length with h | h
      · exact h
      · exact absurd (List.drop_eq_nil_iff.2 h) he
    rcases h.lies with h0 | ⟨b, off, rfl, hlt', hc⟩
    · subst h0; simp at hlt
    · refine .inr ⟨b, off + m, ?_, hlt', fun i hi' => ?_⟩
      · rw [if_neg (by omega)]
        simp only [Option.map, Addr.add, Nat.mul_one]
        by_cases h0 : m = 0
        · subst h0; simp
        · simp [h0]
      · have e : el (xs.drop m) i = el xs (m + i) := by simp [el, List.getD]
        rw [e, Nat.add_assoc]
        exact hc _ (by simp at hi'; omega)
/-- The slice up to m (its capacity may shrink to c'). -/
theorem Nums.take (h : Nums k w hi a c xs) (m c' : Nat) (hm : m ≤ xs.length) (hc' : m ≤ c') (hcc : c' ≤ c) : Nums k w hi a c' (xs.take m) := by
  refine ⟨by simp; omega, by have := h.big; omega, ?_⟩
  rcases h.lies with h0 | ⟨b, off, rfl, hlt', hc⟩
  · subst h0; exact .inl (by simp)
  · refine .inr ⟨b, off, rfl, hlt', fun i hi' => ?_⟩
    have hi2 : i < m := by simp at hi'; omega
    have e : el (xs.take m) i = el xs i := by simp [el, List.getD, hi2]
    rw [e]
    exact hc _ (by omega)
end

theorem grown_setCell (w : World) (p o : Nat) (v : Value) : w.grownBy (w.setCell ⟨p, o, none⟩ v) (some p) :=
  ⟨rfl, rfl, rfl, by simp, fun k _ hne => Below.heap_setCell _ _ _ _ (fun e => hne (by rw [e]))⟩
theorem grown_drewN (w : World) (n : Nat) (row : Option Nat) : w.grownBy (w.drewN n) row := ⟨rfl, rfl, rfl, Nat.le_refl _, fun _ _ _ => rfl⟩
theorem grown_trans {a b c : World} {row : Option Nat} (h : a.grownBy b row) (k : b.grownBy c row) : a.grownBy c row :=
  ⟨k.os.trans h.os, k.tape.trans h.tape, k.output.trans h.output, Nat.le_trans h.size k.size, fun i hi hne => (k.block i (Nat.lt_of_lt_of_le hi h.size) hne).trans (h.block i hi hne)⟩
theorem grown_alloc (w : World) (o : Obj) (row : Option Nat) : w.grownBy (w.alloc o) row := World.grownBy_alloc w o row
/-- A row of the call's own from lo on has grown. -/
theorem below_own {w w' : World} {lo : Nat} {T : TypeId} {sz n : Nat} {v : Value} {xs : List Value} (h : w.ownsRow lo T sz v n xs) (hg : w.grownBy w' v.ownBlock) (hlo : lo ≤ w.heap.size) : Below lo w w' :=
  ⟨hg.os, hg.tape, hg.output, hg.size, fun k hk => hg.block k (by omega) (fun e => by have := (h.lt k e.symm).1; omega)⟩
theorem grown_below {w w' : World} (h : Below w.heap.size w w') : w.grownBy w' none := ⟨h.os, h.tape, h.output, h.size, fun k hk _ => h.block k hk⟩
theorem below_grown {w w' : World} (h : w.grownBy w' none) : Below w.heap.size w w' := ⟨h.os, h.tape, h.output, h.size, fun k hk => h.block k hk (by simp)⟩
theorem below_grown_own {w w' : World} {B p : Nat} (h : w.grownBy w' (some p)) (hp : B ≤ p) (hB : B ≤ w.heap.size) : Below B w w' := ⟨h.os, h.tape, h.output, h.size, fun k hk => h.block k (by omega) (fun e => by injection e with e; omega)⟩

section
variable {w w' : World} {lo lo' : Nat} {T : TypeId} {sz : Nat} {v : Value} {n : Nat} {xs : List Value}
theorem owns_below (h : w.ownsRow lo T sz v n xs) (hb : Below w.heap.size w w') : w'.ownsRow lo T sz v n xs := h.kept (grown_below hb) (by cases hv : v.ownBlock <;> simp)
theorem owns_less (h : w.ownsRow lo T sz v n xs) (hl : lo' ≤ lo) : w.ownsRow lo' T sz v n xs :=
  ⟨h.1, h.2.imp id fun ⟨g, cap, cur, hv, hb, r⟩ => ⟨g, cap, cur, hv, by omega, r⟩⟩
theorem owns_drewN (h : w.ownsRow lo T sz v n xs) (m : Nat) : (w.drewN m).ownsRow lo T sz v n xs := h
/-- Its shape. -/
theorem owns_shape (h : w.ownsRow lo T sz v n xs) : ∃ a c, v = .slice a n c := by
  rcases h.2 with ⟨rfl, rfl⟩ | ⟨g, cap, cur, rfl, _⟩
  · exact ⟨_, _, rfl⟩
  · exact ⟨_, _, rfl⟩
end

/-- A row of one number, just built. -/
theorem own_one (W : World) (T : TypeId) (k : IntKind) (x : Int) (b lo : Nat) (hb : b = W.heap.size) (hlo : lo ≤ b) : (W.alloc (.cells #[.int k x] T)).ownsRow lo T 1 (.slice (some ⟨b, 0, none⟩) 1 1) 1 ([x].map (Value.int k)) := by
  subst hb
  exact World.ownsRow_lit (e := T) (size := 1) W #[.int k x] 1 hlo (by unfold maxLen; omega) (by simp)
/-- A row of the call's own reads as its list. -/
theorem Nums.of_own {k : IntKind} {w : World} {lo : Nat} {T : TypeId} {a : Option Addr} {n c : Nat} {xs : List Int} (h : w.ownsRow lo T 1 (.slice a n c) n (xs.map (Value.int k))) : n = xs.length ∧ Nums k w w.heap.size a c xs := by
  have hn : n = xs.length := by simpa using h.1.symm
  refine ⟨hn, ?_⟩
  subst hn
  rcases h.2 with ⟨hv, h0⟩ | ⟨g, cap, cur, hv, hlo, hh, hnc, hcm, hcs, htake⟩
  · simp only [Value.slice.injEq] at hv
    obtain ⟨rfl, hl, rfl⟩ := hv
    have : xs = [] := List.length_eq_zero_iff.1 hl
    subst this
    exact Nums.none_ _ _ _
  · simp only [Value.slice.injEq, true_and] at hv
    obtain ⟨rfl, rfl⟩ := hv
    unfold maxLen at hcm
    refine ⟨hnc, by omega, .inr ⟨g, 0, rfl, (Array.getElem?_eq_some_iff.1 hh).1, fun i hi => ?_⟩⟩
    rw [Nat.zero_add, h.cellAt i (by omega)]
    exact el_cell _ _ _ hi

/-- A call that hands back a new row of numbers: its memory is the call's own, of what was there nothing has turned. -/
def FreshNums (T : TypeId) (k : IntKind) (xs : List Int) (w : World) (e : Ending) (w' : World) : Prop :=
  ∃ a c, e = .returned (.slice a xs.length c) ∧ w'.ownsRow w.heap.size T 1 (.slice a xs.length c) xs.length (xs.map (Value.int k)) ∧ Below w.heap.size w w'

/-- A call that hands back a row of its own from block lo on; below lo nothing has turned. -/
def OwnNums (T : TypeId) (k : IntKind) (lo : Nat) (xs : List Int) (w : World) (e : Ending) (w' : World) : Prop :=
  ∃ a c, e = .returned (.slice a xs.length c) ∧ w'.ownsRow lo T 1 (.slice a xs.length c) xs.length (xs.map (Value.int k)) ∧ Below lo w w'
theorem OwnNums.fresh {T : TypeId} {k : IntKind} {xs : List Int} {w w' : World} {e : Ending} (h : OwnNums T k w.heap.size xs w e w') : FreshNums T k xs w e w' := h
theorem fresh_as {T : TypeId} {k : IntKind} {xs : List Int} {w w' : World} {a : Option Addr} {n m c : Nat} (h : FreshNums T k xs w (.returned (.slice a n c)) w') (hm : n = m) : FreshNums T k xs w (.returned (.slice a m c)) w' := hm ▸ h
theorem map_snoc (k : IntKind) (xs : List Int) (x : Int) : (xs ++ [x]).map (Value.int k) = xs.map (Value.int k) ++ [.int k x] := by simp

/-- The marks that a caller writes. -/
def marks (m : Nat) (n : Nat) : List Int := (List.range n).map fun i : Nat => ((m : Int) + (i : Int)) % 256
theorem marks_len (m n : Nat) : (marks m n).length = n := by simp [marks]
theorem marks_el (m n i : Nat) (hi : i < n) : el (marks m n) i = ((m : Int) + (i : Int)) % 256 := by simp [marks, el, List.getD, hi]
theorem marks_isB (m n : Nat) : IsB (marks m n) := fun x hx => by
  simp only [marks, List.mem_map] at hx
  obtain ⟨i, _, rfl⟩ := hx
  omega
/-- The row behind k marks. -/
def markTo (m : Nat) (xs : List Int) (j : Nat) : List Int := (marks m j) ++ xs.drop j
theorem markTo_zero (m : Nat) (xs : List Int) : markTo m xs 0 = xs := by simp [markTo, marks]
theorem markTo_len (m : Nat) (xs : List Int) (j : Nat) (hj : j ≤ xs.length) : (markTo m xs j).length = xs.length := by simp [markTo, marks_len]; omega
theorem markTo_all (m : Nat) (xs : List Int) : markTo m xs xs.length = marks m xs.length := by simp [markTo]
theorem markTo_step (m : Nat) (xs : List Int) (j : Nat) (hj : j < xs.length) : (markTo m xs j).set j (((m : Int) + (j : Int)) % 256) = markTo m xs (j + 1) := by
  unfold markTo
  rw [List.set_append_right _ _ (by rw [marks_len]; exact Nat.le_refl _), marks_len, Nat.sub_self]
  rw [List.drop_eq_getElem_cons hj, List.set_cons_zero]
  simp [marks, List.range_succ]
theorem markTo_here (m : Nat) (xs : List Int) (j : Nat) : el (markTo m xs j) j = el xs j := by
  unfold markTo el
  rw [List.getD_eq_getElem?_getD, List.getElem?_append_right (by rw [marks_len]; exact Nat.le_refl _), marks_len, Nat.sub_self]
  simp [List.getD]

theorem ret_int {k : IntKind} {a b : Int} (h : a = b) : Ending.returned (.int k a) = .returned (.int k b) := by rw [h]
theorem below_next {a b c : World} (h : Below a.heap.size a b) (k : Below b.heap.size b c) : Below a.heap.size a c := h.trans (k.mono h.size)

/-- A block that is known whole. -/
def Blk (w : World) (g : Nat) (t : TypeId) (cs : Array Value) : Prop := w.heap[g]? = some (.cells cs t (0, 0))
section
variable {w w' : World} {g : Nat} {t : TypeId} {cs : Array Value}
theorem Blk.lt (h : Blk w g t cs) : g < w.heap.size := (Array.getElem?_eq_some_iff.1 h).1
theorem Blk.cell (h : Blk w g t cs) (i : Nat) : w.cell? ⟨g, i, none⟩ = cs[i]? := cell_of_row w g i cs t (0, 0) h
theorem Blk.frozen (h : Blk w g t cs) (i : Nat) : w.frozen? ⟨g, i, none⟩ = false := frozen_of_row w g i cs t h
theorem Blk.new (w : World) (t : TypeId) (cs : Array Value) : Blk (w.alloc (.cells cs t)) w.heap.size t cs := heap_alloc_new w _
theorem Blk.below (h : Blk w g t cs) (hb : Below w.heap.size w w') : Blk w' g t cs := (hb.block g h.lt).trans h
theorem Blk.belowB {B : Nat} (h : Blk w g t cs) (hb : Below B w w') (hg : g < B) : Blk w' g t cs := (hb.block g hg).trans h
theorem Blk.grown (h : Blk w g t cs) {row : Option Nat} (hb : w.grownBy w' row) (hg : some g ≠ row) : Blk w' g t cs := (hb.block g h.lt hg).trans h
theorem Blk.drew (h : Blk w g t cs) : Blk w.drew g t cs := h
theorem Blk.alloc (h : Blk w g t cs) (o : Obj) : Blk (w.alloc o) g t cs := (Below.heap_alloc w o g h.lt).trans h
end

/-- The cells of a copy behind j rounds, of whatever kind. -/
def partK (k : IntKind) (xs : List Int) (j : Nat) : Array Value := ((xs.take j).map (Value.int k) ++ List.replicate (xs.length - j) (Value.int k 0)).toArray
def fullK (k : IntKind) (xs : List Int) : Array Value := (xs.map (Value.int k)).toArray
theorem partK_size (k : IntKind) (xs : List Int) (j : Nat) (hj : j ≤ xs.length) : (partK k xs j).size = xs.length := by
  simp only [partK, List.size_toArray, List.length_append, List.length_map, List.length_take, List.length_replicate]; omega
theorem partK_full (k : IntKind) (xs : List Int) : partK k xs xs.length = fullK k xs := by simp [partK, fullK]
theorem partK_zero (k : IntKind) (xs : List Int) : madeCells #[Value.int k 0] xs.length = partK k xs 0 := by
  apply Array.ext
  · rw [size_madeCells, partK_size _ _ _ (Nat.zero_le _)]
  · intro i h1 h2
    simp [madeCells, partK]
    rw [Nat.mod_one]
    rfl
theorem partK_here (k : IntKind) (xs : List Int) (j : Nat) (hj : j < xs.length) : (partK k xs j)[j]? = some (.int k 0) := by
  simp only [partK, List.getElem?_toArray]
  rw [List.getElem?_append_right (by simp; omega)]
  simp only [List.length_map, List.length_take]
  rw [List.getElem?_replicate, if_pos (by omega)]
theorem partK_step (k : IntKind) (xs : List Int) (j : Nat) (hj : j < xs.length) : (partK k xs j).setIfInBounds j (.int k (el xs j)) = partK k xs (j + 1) := by
  apply Array.ext_getElem?
  intro i
  rw [Array.getElem?_setIfInBounds, partK_size _ _ _ (by omega)]
  simp only [partK, List.getElem?_toArray]
  by_cases h : j = i
  · subst h
    rw [if_pos rfl, if_pos hj, List.getElem?_append_left (by simp; omega)]
    simp [el, List.getD, hj]
  · rw [if_neg h]
    by_cases h2 : i < j
    · rw [List.getElem?_append_left (by simp; omega), List.getElem?_append_left (by simp; omega)]
      simp only [List.getElem?_map, List.getElem?_take]
      rw [if_pos h2, if_pos (by omega)]
    · rw [List.getElem?_append_right (by simp; omega), List.getElem?_append_right (by simp; omega)]
      simp only [List.length_map, List.length_take, List.getElem?_replicate]
      by_cases h3 : i < xs.length
      · rw [if_pos (by omega), if_pos (by omega)]
      · rw [if_neg (by omega), if_neg (by omega)]
/-- A copy just made. -/
theorem fresh_copy (T : TypeId) (k : IntKind) (xs : List Int) (w : World) (hm : xs.length ≤ maxLen) :
    FreshNums T k xs w (.returned (.slice (some ⟨w.heap.size, 0, none⟩) xs.length xs.length)) (w.alloc (.cells (fullK k xs) T)) :=
  ⟨_, _, rfl, by have := World.ownsRow_lit (e := T) (size := 1) (base := w.heap.size) w (fullK k xs) xs.length (Nat.le_refl _) hm (by simp [fullK]); simpa [fullK] using this, (Below.refl _ _).alloc (Nat.le_refl _) _⟩

end Go.Proofs.YtfneipdlihbbjabGreatDoor

/- Plain: what a frame is, no program. -/
namespace Go.Proofs.YtfneipdlihbbjabGreatDoor

def fOk (k y t v : Int) : Bool := (k == 1 && inB y 0 65535 && inB t 0 1000000 && inB v (-1000000) 1000000) || (k == 2 && y == 0 && inB t 0 1000000 && v == 0) || (k == 3 && y == 0 && t == 0 && v == 0)
theorem fOk_event (y t v : Int) : fOk 1 y t v = (inB y 0 65535 && inB t 0 1000000 && inB v (-1000000) 1000000) := by simp [fOk]
theorem fOk_mark (y t v : Int) : fOk 2 y t v = (y == 0 && inB t 0 1000000 && v == 0) := by simp [fOk]
theorem fOk_bye (y t v : Int) : fOk 3 y t v = (y == 0 && t == 0 && v == 0) := by simp [fOk]
theorem fOk_none {k : Int} (y t v : Int) (h1 : (k == 1) = false) (h2 : (k == 2) = false) (h3 : (k == 3) = false) : fOk k y t v = false := by simp [fOk, h1, h2, h3]

end Go.Proofs.YtfneipdlihbbjabGreatDoor

/- Plain: a number in so many bytes, the greatest first. No program. -/
namespace Go.Proofs.YtfneipdlihbbjabGreatDoor

def wide : Nat → Int → List Int
  | 0, _ => []
  | n + 1, x => (x / ((256 ^ n : Nat) : Int) % 256) :: wide n x
theorem wide_len (n : Nat) (x : Int) : (wide n x).length = n := by induction n with | zero => rfl | succ n ih => simp [wide, ih]
theorem wide_isB (n : Nat) (x : Int) : IsB (wide n x) := by
  induction n with
  | zero => exact IsB.nil
  | succ n ih =>
    intro y hy
    simp only [wide, List.mem_cons] at hy
    rcases hy with rfl | hy
    · omega
    · exact ih y hy

theorem wide_drop (n : Nat) (x : Int) (j : Nat) (hj : j ≤ n) : (wide n x).drop j = wide (n - j) x := by
  induction j generalizing n with
  | zero => rfl
  | succ j ih =>
    obtain ⟨m, rfl⟩ : ∃ m, n = m + 1 := ⟨n - 1, by omega⟩
    simp only [wide, List.drop_succ_cons, Nat.add_sub_add_right]
    exact ih m (by omega)
/-- One byte more: i of them are still to come. -/
theorem wide_take (x : Int) (j i : Nat) : (wide (j + (i + 1)) x).take (j + 1) = (wide (j + (i + 1)) x).take j ++ [x / ((256 ^ i : Nat) : Int) % 256] := by
  rw [List.take_add_one]
  congr 1
  have h : (wide (j + (i + 1)) x)[j]? = ((wide (j + (i + 1)) x).drop j)[0]? := by simp
  rw [h, wide_drop _ _ _ (by omega), show j + (i + 1) - j = i + 1 from by omega]
  rfl
theorem wide_take0 (x : Int) (j : Nat) : (wide (j + 1) x).take (j + 1) = (wide (j + 1) x).take j ++ [x % 256] := by
  have h := wide_take x j 0
  simpa using h
theorem wide_take1 (x : Int) (j : Nat) : (wide (j + 2) x).take (j + 1) = (wide (j + 2) x).take j ++ [x / 256 % 256] := wide_take x j 1
theorem wide_take2 (x : Int) (j : Nat) : (wide (j + 3) x).take (j + 1) = (wide (j + 3) x).take j ++ [x / 65536 % 256] := wide_take x j 2
theorem wide_take3 (x : Int) (j : Nat) : (wide (j + 4) x).take (j + 1) = (wide (j + 4) x).take j ++ [x / 16777216 % 256] := wide_take x j 3
theorem wide_at0 {n j : Nat} (x : Int) (h : j + 1 = n) : (wide n x).take (j + 1) = (wide n x).take j ++ [x % 256] := by subst h; exact wide_take0 x j
theorem wide_at1 {n j : Nat} (x : Int) (h : j + 2 = n) : (wide n x).take (j + 1) = (wide n x).take j ++ [x / 256 % 256] := by subst h; exact wide_take1 x j
theorem wide_at2 {n j : Nat} (x : Int) (h : j + 3 = n) : (wide n x).take (j + 1) = (wide n x).take j ++ [x / 65536 % 256] := by subst h; exact wide_take2 x j
theorem wide_at3 {n j : Nat} (x : Int) (h : j + 4 = n) : (wide n x).take (j + 1) = (wide n x).take j ++ [x / 16777216 % 256] := by subst h; exact wide_take3 x j
theorem wide_top {n j : Nat} {x : Int} (h0 : 0 ≤ x) (h1 : x ≤ 4294967295) (h : j + 4 = n) : (wide n x).take (j + 1) = (wide n x).take j ++ [x / 16777216] := by
  rw [wide_at3 x h, Int.emod_eq_of_lt (show 0 ≤ x / 16777216 by omega) (show x / 16777216 < 256 by omega)]
theorem and_byte {q : Int} (h0 : 0 ≤ q) (h1 : q ≤ 4294967295) : bits .and .i64 q 255 = q % 256 := by
  obtain ⟨x, rfl⟩ := Int.eq_ofNat_of_zero_le h0
  show IntKind.i64.wrap ((BitVec.ofInt 64 (x : Int) &&& BitVec.ofInt 64 255).toNat : Int) = _
  rw [BitVec.toNat_and, BitVec.ofInt_natCast, BitVec.toNat_ofNat, Nat.mod_eq_of_lt (show x < 2 ^ 64 by omega)]
  have e : (BitVec.ofInt 64 255).toNat = 255 := by decide
  rw [e, Nat.and_two_pow_sub_one_eq_mod x 8, IntKind.wrap_i64]
  omega

end Go.Proofs.YtfneipdlihbbjabGreatDoor

/- Plain: the remainder that is written behind a body. No program. -/
namespace Go.Proofs.YtfneipdlihbbjabGreatDoor

def xorI (a b : Int) : Int := ((a.toNat ^^^ b.toNat : Nat) : Int)
theorem xorI_bd {a b : Int} (h0 : 0 ≤ a) (h1 : a ≤ 4294967295) (k0 : 0 ≤ b) (k1 : b ≤ 4294967295) : 0 ≤ xorI a b ∧ xorI a b ≤ 4294967295 := by
  have h : a.toNat ^^^ b.toNat < 2 ^ 32 := Nat.xor_lt_two_pow (by omega) (by omega)
  unfold xorI
  omega
theorem ofInt_i64 (a : Nat) (ha : a < 9223372036854775808) : (BitVec.ofInt 64 (a : Int)).toNat = a := by
  rw [BitVec.ofInt_natCast, BitVec.toNat_ofNat]; exact Nat.mod_eq_of_lt (by omega)
theorem xor_i64 {a b : Int} (h0 : 0 ≤ a) (h1 : a ≤ 4294967295) (k0 : 0 ≤ b) (k1 : b ≤ 4294967295) : bits .xor .i64 a b = xorI a b := by
  obtain ⟨x, rfl⟩ := Int.eq_ofNat_of_zero_le h0
  obtain ⟨y, rfl⟩ := Int.eq_ofNat_of_zero_le k0
  have hx : x ^^^ y < 2 ^ 32 := Nat.xor_lt_two_pow (by omega) (by omega)
  show IntKind.i64.wrap ((BitVec.ofInt 64 (x : Int) ^^^ BitVec.ofInt 64 (y : Int)).toNat : Int) = ((x ^^^ y : Nat) : Int)
  rw [BitVec.toNat_xor, ofInt_i64 x (by omega), ofInt_i64 y (by omega), IntKind.wrap_i64]
  omega
theorem xor_u32 {a b : Int} (h0 : 0 ≤ a) (h1 : a ≤ 4294967295) (k0 : 0 ≤ b) (k1 : b ≤ 4294967295) : bits .xor .u32 a b = xorI a b :=
  u32_xor a b h0 (by omega) k0 (by omega)
theorem and1_u32 {a : Int} (h0 : 0 ≤ a) (h1 : a ≤ 4294967295) : bits .and .u32 a 1 = a % 2 := by
  rw [u32_and a 1 h0 (by omega) (by omega) (by omega)]
  have e : a.toNat &&& (1 : Int).toNat = a.toNat % 2 := nat_mask1 a.toNat
  rw [e]
  omega

theorem not_u32 {a : Int} (h0 : 0 ≤ a) (h1 : a ≤ 4294967295) : bits .xor .u32 IntKind.u32.max a = 4294967295 - a := by
  obtain ⟨x, rfl⟩ := Int.eq_ofNat_of_zero_le h0
  show IntKind.u32.wrap ((BitVec.ofInt 32 IntKind.u32.max ^^^ BitVec.ofInt 32 (x : Int)).toNat : Int) = _
  have e : BitVec.ofInt 32 IntKind.u32.max = BitVec.allOnes 32 := by decide
  rw [e, BitVec.allOnes_xor, BitVec.toNat_not, ofInt_u32 x (by omega), IntKind.wrap_u32']
  omega

/-- One bit, so many bits, one byte. -/
def crcBit (c : Int) : Int := if c % 2 = 1 then xorI (c / 2) 3988292384 else c / 2
def crcBits (c : Int) : Nat → Int
  | 0 => c
  | j + 1 => crcBit (crcBits c j)
theorem crcBit_bd {c : Int} (h0 : 0 ≤ c) (h1 : c ≤ 4294967295) : 0 ≤ crcBit c ∧ crcBit c ≤ 4294967295 := by
  unfold crcBit
  split
  · exact xorI_bd (by omega) (by omega) (by omega) (by omega)
  · omega
theorem crcBits_bd {c : Int} (h0 : 0 ≤ c) (h1 : c ≤ 4294967295) (j : Nat) : 0 ≤ crcBits c j ∧ crcBits c j ≤ 4294967295 := by
  induction j with
  | zero => exact ⟨h0, h1⟩
  | succ j ih => exact crcBit_bd ih.1 ih.2
theorem crcBit_odd {c : Int} (h : (c % 2 == 1) = true) : crcBit c = xorI (c / 2) 3988292384 := by unfold crcBit; rw [if_pos (by simpa using h)]
theorem crcBit_even {c : Int} (h : (c % 2 == 1) = false) : crcBit c = c / 2 := by unfold crcBit; rw [if_neg (by simpa using h)]
def crcByte (c x : Int) : Int := crcBits (xorI c x) 8
theorem crcByte_bd {c x : Int} (h0 : 0 ≤ c) (h1 : c ≤ 4294967295) (k0 : 0 ≤ x) (k1 : x ≤ 255) : 0 ≤ crcByte c x ∧ crcByte c x ≤ 4294967295 :=
  crcBits_bd (xorI_bd h0 h1 k0 (by omega)).1 (xorI_bd h0 h1 k0 (by omega)).2 8
def crcTo (xs : List Int) (k : Nat) : Int := foldTo crcByte 4294967295 xs k
theorem crcTo_zero (xs : List Int) : crcTo xs 0 = 4294967295 := rfl
theorem crcTo_succ (xs : List Int) (k : Nat) (hk : k < xs.length) : crcTo xs (k + 1) = crcByte (crcTo xs k) (el xs k) := foldTo_succ _ _ _ _ hk
theorem crcTo_bd {xs : List Int} (h : IsB xs) (k : Nat) (hk : k ≤ xs.length) : 0 ≤ crcTo xs k ∧ crcTo xs k ≤ 4294967295 := by
  induction k with
  | zero => rw [crcTo_zero]; omega
  | succ k ih =>
    rw [crcTo_succ _ _ (by omega)]
    have h1 := ih (by omega)
    exact crcByte_bd h1.1 h1.2 (el_bd h k).1 (el_bd h k).2
def crc (xs : List Int) : Int := 4294967295 - crcTo xs xs.length
theorem crc_bd {xs : List Int} (h : IsB xs) : 0 ≤ crc xs ∧ crc xs ≤ 4294967295 := by
  have := crcTo_bd h xs.length (Nat.le_refl _)
  unfold crc; omega

end Go.Proofs.YtfneipdlihbbjabGreatDoor

/- Plain: a frame as bytes. No program. -/
namespace Go.Proofs.YtfneipdlihbbjabGreatDoor

def bodyL (k y t v : Int) : List Int := if k = 1 then (([1] ++ wide 2 y) ++ wide 3 t) ++ wide 3 (v + 1000000) else if k = 2 then [2] ++ wide 3 t else [3]
theorem bodyL_event (y t v : Int) : bodyL 1 y t v = (([1] ++ wide 2 y) ++ wide 3 t) ++ wide 3 (v + 1000000) := by simp [bodyL]
theorem bodyL_mark (y t v : Int) : bodyL 2 y t v = [2] ++ wide 3 t := by simp [bodyL]
theorem bodyL_bye (y t v : Int) : bodyL 3 y t v = [3] := by simp [bodyL]
theorem bodyL_isB (k y t v : Int) : IsB (bodyL k y t v) := by
  unfold bodyL
  split
  · exact (((IsB.one (by omega) (by omega)).append (wide_isB _ _)).append (wide_isB _ _)).append (wide_isB _ _)
  · split
    · exact (IsB.one (by omega) (by omega)).append (wide_isB _ _)
    · exact IsB.one (by omega) (by omega)
theorem bodyL_len (k y t v : Int) : (bodyL k y t v).length ≤ 9 ∧ 1 ≤ (bodyL k y t v).length := by
  unfold bodyL
  split
  · simp [wide_len]
  · split
    · simp [wide_len]
    · simp
def putL (k y t v : Int) : List Int := if fOk k y t v = true then ([((bodyL k y t v).length : Int)] ++ bodyL k y t v) ++ wide 4 (crc (bodyL k y t v)) else []
theorem putL_no {k y t v : Int} (h : fOk k y t v = false) : putL k y t v = [] := by unfold putL; simp [h]
theorem putL_yes {k y t v : Int} (h : fOk k y t v = true) : putL k y t v = ([((bodyL k y t v).length : Int)] ++ bodyL k y t v) ++ wide 4 (crc (bodyL k y t v)) := by unfold putL; rw [if_pos h]
theorem putL_len (k y t v : Int) : (putL k y t v).length ≤ 14 := by
  unfold putL
  split
  · have := bodyL_len k y t v
    simp [wide_len]; omega
  · simp
theorem putL_isB (k y t v : Int) : IsB (putL k y t v) := by
  unfold putL
  split
  · have := bodyL_len k y t v
    exact ((IsB.one (by omega) (by omega)).append (bodyL_isB k y t v)).append (wide_isB _ _)
  · exact IsB.nil
theorem wide_one {x : Int} (h0 : 0 ≤ x) (h1 : x ≤ 255) : wide 1 x = [x] := by
  simp [wide]
  omega
/-- What is known of a frame's numbers. -/
theorem fOk_bd {k y t v : Int} (h : fOk k y t v = true) : (k = 1 ∧ 0 ≤ y ∧ y ≤ 65535 ∧ 0 ≤ t ∧ t ≤ 1000000 ∧ -1000000 ≤ v ∧ v ≤ 1000000) ∨ (k = 2 ∧ y = 0 ∧ 0 ≤ t ∧ t ≤ 1000000 ∧ v = 0) ∨ (k = 3 ∧ y = 0 ∧ t = 0 ∧ v = 0) := by
  unfold fOk inB at h
  simp at h
  omega

end Go.Proofs.YtfneipdlihbbjabGreatDoor

/- Plain: frames read from the front of bytes. No program. -/
namespace Go.Proofs.YtfneipdlihbbjabGreatDoor

/-- Bytes as a number, the greatest first. -/
def readL (xs : List Int) : Int := xs.foldl (fun x b => x * 256 + b) 0
theorem readL_snoc (xs : List Int) (b : Int) : readL (xs ++ [b]) = readL xs * 256 + b := by simp [readL]
theorem readL_acc (ys : List Int) : ∀ (acc : Int) (m : Nat), IsB ys → 0 ≤ acc → acc < ((256 ^ m : Nat) : Int) → 0 ≤ ys.foldl (fun x b => x * 256 + b) acc ∧ ys.foldl (fun x b => x * 256 + b) acc < ((256 ^ (m + ys.length) : Nat) : Int) := by
  induction ys with
  | nil => intro acc m _ h0 h1; exact ⟨h0, h1⟩
  | cons b ys ih =>
    intro acc m hy h0 h1
    have hb := hy b (by simp)
    have e : m + (b :: ys).length = (m + 1) + ys.length := by simp; omega
    rw [e, List.foldl_cons]
    refine ih _ (m + 1) (fun x hx => hy x (by simp [hx])) (by omega) ?_
    rw [Nat.pow_succ]
    omega
theorem readL_bd {xs : List Int} (h : IsB xs) (n : Nat) (hn : xs.length ≤ n) : 0 ≤ readL xs ∧ readL xs < ((256 ^ n : Nat) : Int) := by
  have h1 := readL_acc xs 0 0 h (by omega) (by simp)
  refine ⟨h1.1, Int.lt_of_lt_of_le h1.2 ?_⟩
  exact_mod_cast Nat.pow_le_pow_right (by omega) (by omega)
/-- A number of so many bytes; what is not there counts as noughts. -/
def numL (n : Nat) (xs : List Int) : Int := readL (xs.take n) * ((256 ^ (n - min n xs.length) : Nat) : Int)
theorem numL_bd {xs : List Int} (h : IsB xs) (n : Nat) : 0 ≤ numL n xs ∧ numL n xs < ((256 ^ n : Nat) : Int) := by
  have h1 := readL_bd (h.take n) (min n xs.length) (by rw [List.length_take]; exact Nat.le_refl _)
  have h2 : 256 ^ n = 256 ^ (min n xs.length) * 256 ^ (n - min n xs.length) := by rw [← Nat.pow_add]; congr 1; omega
  have h3 : (0 : Int) < ((256 ^ (n - min n xs.length) : Nat) : Int) := by exact_mod_cast Nat.pow_pos (by omega)
  unfold numL
  refine ⟨Int.mul_nonneg h1.1 (Int.le_of_lt h3), ?_⟩
  rw [h2, Int.natCast_mul]
  exact Int.mul_lt_mul_of_pos_right h1.2 h3
theorem num1_bd {xs : List Int} (h : IsB xs) : 0 ≤ numL 1 xs ∧ numL 1 xs ≤ 255 := by
  have := numL_bd h 1
  have e : ((256 ^ 1 : Nat) : Int) = 256 := by decide
  omega
theorem num2_bd {xs : List Int} (h : IsB xs) : 0 ≤ numL 2 xs ∧ numL 2 xs ≤ 65535 := by
  have := numL_bd h 2
  have e : ((256 ^ 2 : Nat) : Int) = 65536 := by decide
  omega
theorem num3_bd {xs : List Int} (h : IsB xs) : 0 ≤ numL 3 xs ∧ numL 3 xs ≤ 16777215 := by
  have := numL_bd h 3
  have e : ((256 ^ 3 : Nat) : Int) = 16777216 := by decide
  omega

/-- The least frame that bytes allow: its kind, key, time, value. -/
def f0K (xs : List Int) : Int := if numL 1 xs = 9 then 1 else if numL 1 xs = 4 then 2 else if numL 1 xs = 1 then 3 else 0
def f0Y (xs : List Int) : Int := if numL 1 xs = 9 then numL 2 (xs.drop 2) else 0
def f0T (xs : List Int) : Int := if numL 1 xs = 9 then numL 3 (xs.drop 4) else if numL 1 xs = 4 then numL 3 (xs.drop 2) else 0
def f0V (xs : List Int) : Int := if numL 1 xs = 9 then numL 3 (xs.drop 7) - 1000000 else 0
/-- That frame as bytes; nothing where it is none. -/
def put0 (xs : List Int) : List Int := putL (f0K xs) (f0Y xs) (f0T xs) (f0V xs)
/-- A frame stands in front; it may still come. -/
def tkHere (xs : List Int) : Bool := decide (0 < (put0 xs).length) && (put0 xs).isPrefixOf xs
def tkMore (xs : List Int) : Bool := xs.isPrefixOf (put0 xs)

end Go.Proofs.YtfneipdlihbbjabGreatDoor

/- Rows of the call's own with the bounds between which their blocks lie; how they are carried. No program. -/
namespace Go.Proofs.YtfneipdlihbbjabGreatDoor
open Go.RowKit

/-- A row of the call's own whose block, where it has one, lies in lo .. up - 1. -/
structure Rw (T : TypeId) (sz lo up : Nat) (a : Option Addr) (n c : Nat) (xs : List Value) (w : World) : Prop where
  own : w.ownsRow lo T sz (.slice a n c) n xs
  up : ∀ k, (Value.slice a n c).ownBlock = some k → k < up

section
variable {T : TypeId} {sz lo up n c : Nat} {a : Option Addr} {xs : List Value} {w w' : World}
theorem Rw.new (h : w.ownsRow lo T sz (.slice a n c) n xs) : Rw T sz lo w.heap.size a n c xs w := ⟨h, fun k hk => (h.lt k hk).2⟩
theorem Rw.below {B : Nat} (h : Rw T sz lo up a n c xs w) (hb : Below B w w') (hB : up ≤ B) : Rw T sz lo up a n c xs w' := by
  refine ⟨⟨h.own.1, ?_⟩, h.up⟩
  rcases h.own.2 with h2 | ⟨g, cap, cur, hv, hg, hh, r⟩
  · exact .inl h2
  · have hk := h.up g (by rw [hv]; rfl)
    exact .inr ⟨g, cap, cur, hv, hg, by rw [hb.block g (by omega)]; exact hh, r⟩
/-- It stays where a row of other blocks is written. -/
theorem Rw.other {T1 : TypeId} {sz1 lo1 up1 n1 c1 : Nat} {a1 : Option Addr} {ys : List Value} {w1 : World} (h : Rw T sz lo up a n c xs w) (h1 : Rw T1 sz1 lo1 up1 a1 n1 c1 ys w1) (hg : w.grownBy w' (Value.slice a1 n1 c1).ownBlock) (hd : up ≤ lo1 ∨ up1 ≤ lo) : Rw T sz lo up a n c xs w' := by
  refine ⟨h.own.kept hg ?_, h.up⟩
  by_cases hv : (Value.slice a n c).ownBlock = none
  · exact .inl hv
  · refine .inr fun e => ?_
    obtain ⟨k, hk⟩ := Option.ne_none_iff_exists'.1 hv
    have h2 := (h.own.lt k hk).1
    have h3 := h.up k hk
    have h4 := (h1.own.lt k (by rw [← e, hk])).1
    have h5 := h1.up k (by rw [← e, hk])
    omega
theorem Rw.nums {k : IntKind} {ys : List Int} (h : Rw T 1 lo up a n c (ys.map (Value.int k)) w) : Nums k w w.heap.size a c ys := (Nums.of_own h.own).2
theorem Rw.len {k : IntKind} {ys : List Int} (h : Rw T 1 lo up a n c (ys.map (Value.int k)) w) : n = ys.length := (Nums.of_own h.own).1
theorem Blk.far {g : Nat} {t : TypeId} {cs : Array Value} {T1 : TypeId} {sz1 lo1 up1 n1 c1 : Nat} {a1 : Option Addr} {ys : List Value} {w1 : World} (h : Blk w g t cs) (h1 : Rw T1 sz1 lo1 up1 a1 n1 c1 ys w1) (hg : w.grownBy w' (Value.slice a1 n1 c1).ownBlock) (hd : g < lo1 ∨ up1 ≤ g) : Blk w' g t cs :=
  h.grown hg fun e => by
    have h4 := (h1.own.lt g e.symm).1
    have h5 := h1.up g e.symm
    omega
end

end Go.Proofs.YtfneipdlihbbjabGreatDoor

/- Contracts of the laws' own helpers over slices of bytes: the copy, the comparison, the marks and what is held. The slice reads as a list (Nums), at most 1048576 long. -/
namespace Go.Proofs.YtfneipdlihbbjabGreatDoor
open Go.RowKit

theorem infoU8 : (Tryz.prog.info? 5).map (fun i => (i.zero, i.size, i.bytes)) = some (some (.int .u8 0), 1, 1) := by kernel_rfl

set_option maxHeartbeats 400000 in
theorem toBytes_any (a : Option Addr) (n c : Nat) (xs : List Int) (hi : Nat) (w : World) (hr : Nums .u8 w hi a c xs) (hn : n = xs.length) (hB : hi ≤ w.heap.size) (hlen : xs.length ≤ 1048576) :
    Calls Tryz.prog 69 #[.slice a n c] w (FreshNums 5 .u8 xs w) := by
  subst hn
  have HF := Lib.hid (fresh_copy 5 .u8 xs w (by unfold maxLen; omega))
  have hmk := fun W => run_make_row' (P := Tryz.prog) 55 5 (.int .u8 0) 1 Tryz.underlying55 infoU8 rfl .i64 .i64 xs.length (by omega) (by omega) W
  rw [partK_zero] at hmk
  have hc1 := hr.cap
  have hc2 := hr.big
  rcases hr.lies with h0 | ⟨b, off, rfl, hb, hc⟩
  · subst h0
    have hmk0 : ∀ W, (Instr.makeSlice 55 (.int .i64 0) (.int .i64 0)).run Tryz.prog W = .ok (.slice (some ⟨W.heap.size, 0, none⟩) 0 0) (W.alloc (.cells (fullK .u8 []) 5)) := hmk
    clear hmk hr
    go_enter Tryz.func69, Tryz.ntmps69
    go_wp2
    go_loopw [4] (fun i wr => i = .int .i64 0 ∧ wr = w.alloc (.cells (fullK .u8 []) 5)) (fun i _ => 0 - (intOf i).toNat)
    case atStart => exact ⟨rfl, rfl⟩
    case round =>
      obtain ⟨rfl, rfl⟩ := hrel
      go_wp2
      go_ret
      exact HF.out
  · have HC := Lib.hid hc
    clear hc hr
    go_enter Tryz.func69, Tryz.ntmps69
    go_wp2
    go_loopw [4] (fun i wr => ∃ k : Nat, k ≤ xs.length ∧ i = .int .i64 k ∧ wr = w.alloc (.cells (partK .u8 xs k) 5)) (fun i _ => xs.length - (intOf i).toNat)
    case atStart => exact ⟨0, Nat.zero_le _, rfl, rfl⟩
    case round =>
      obtain ⟨k, hk, rfl, rfl⟩ := hrel
      by_cases hlt : k < xs.length
      · have hck := HC.out k hlt
        have hph := partK_here .u8 xs k hlt
        have hps := partK_step .u8 xs k hlt
        have hbw : b < w.heap.size := by omega
        go_wp2
        go_roundw
        case rel => exact ⟨k + 1, by omega, by go_num, rfl⟩
        case measure => simp [intOf]; omega
      · obtain rfl : k = xs.length := by omega
        go_wp2
        go_ret
        rw [partK_full]
        exact HF.out

set_option maxHeartbeats 400000 in
theorem eqBytes_any (a b : Option Addr) (n m ca cb : Nat) (xs : List Int) (ha hb : Nat) (w : World) (h1 : Nums .u8 w ha a ca xs) (h2 : Nums .u8 w hb b cb xs) (hn : n = xs.length) (hm : m = xs.length) :
    Calls Tryz.prog 76 #[.slice a n ca, .slice b m cb] w fun e w' => e = .returned (.bool true) ∧ ∃ n, w' = w.drewN n := by
  subst hn
  subst hm
  have hc1 := h1.cap
  have hc2 := h1.big
  have hc3 := h2.cap
  by_cases h0 : xs = []
  · subst h0
    clear h1 h2
    go_enter Tryz.func76, Tryz.ntmps76
    go_wp2
    go_loopw [5] (fun i wr => i = .int .i64 0 ∧ wr = w) (fun i _ => 0 - (intOf i).toNat)
    case atStart => exact ⟨rfl, rfl⟩
    case round =>
      obtain ⟨rfl, rfl⟩ := hrel
      go_wp2
      go_ret
      exact ⟨rfl, 0, rfl⟩
  · rcases h1.lies with hl | ⟨b1, o1, rfl, hb1, hk1⟩
    · exact absurd hl h0
    rcases h2.lies with hl | ⟨b2, o2, rfl, hb2, hk2⟩
    · exact absurd hl h0
    have H1 := Lib.hid hk1
    have H2 := Lib.hid hk2
    clear hk1 hk2 h1 h2 h0
    go_enter Tryz.func76, Tryz.ntmps76
    go_wp2
    go_loopw [5] (fun i wr => ∃ k n : Nat, k ≤ xs.length ∧ i = .int .i64 k ∧ wr = w.drewN n) (fun i _ => xs.length - (intOf i).toNat)
    case atStart => exact ⟨0, 0, Nat.zero_le _, rfl, rfl⟩
    case round =>
      obtain ⟨k, n, hk, rfl, rfl⟩ := hrel
      by_cases hlt : k < xs.length
      · have hk1 := H1.out k hlt
        have hk2 := H2.out k hlt
        have hlt' : (k : Int) < (xs.length : Int) := by omega
        go_wp2
        go_quiet (fail)
        go_wp2
        go_roundw
        case rel => exact ⟨k + 1, _, by omega, by go_num, rfl⟩
        case measure => simp [intOf]; omega
      · obtain rfl : k = xs.length := by omega
        go_wp2
        go_ret
        exact ⟨rfl, n, rfl⟩

/-- What marking a row does: its numbers are the marks; of the rest nothing has turned. -/
def MarkPost (T : TypeId) (k : IntKind) (lo : Nat) (a : Option Addr) (c m n : Nat) (w : World) (e : Ending) (w' : World) : Prop :=
  e = .returned (.int .i64 ((m + n : Nat) : Int)) ∧ w'.ownsRow lo T 1 (.slice a n c) n ((marks m n).map (Value.int k)) ∧ w.grownBy w' (Value.slice a n c).ownBlock



theorem szBytes_any (a : Option Addr) (n c : Nat) (left : Int) (w : World) (hl0 : 0 ≤ left) (hl1 : left ≤ 1048576) (hn : n ≤ 9223372036854775807) :
    Calls Tryz.prog 64 #[.slice a n c, .int .i64 left] w fun e w' => e = .returned (.int .i64 (if left - (n : Int) < 0 then -1 else left - (n : Int))) ∧ w = w' := by
  by_cases h : left - (n : Int) < 0
  · rw [if_pos h]
    go_enter Tryz.func64, Tryz.ntmps64
    go_wp2
    go_ret
    exact ⟨rfl, rfl⟩
  · rw [if_neg h]
    go_enter Tryz.func64, Tryz.ntmps64
    go_wp2
    go_ret
    exact ⟨rfl, rfl⟩

end Go.Proofs.YtfneipdlihbbjabGreatDoor

/- The marks once more, their number as whatever integer; what lies apart from a row stays. -/
namespace Go.Proofs.YtfneipdlihbbjabGreatDoor
open Go.RowKit

/-- Marking leaves all that lies below the row's own base, and every row of another block. -/
structure Marked (T : TypeId) (lo : Nat) (a : Option Addr) (c m n : Nat) (w w' : World) : Prop where
  own : w'.ownsRow lo T 1 (.slice a n c) n ((marks m n).map (Value.int .u8))
  below : Below lo w w'
  grown : w.grownBy w' (Value.slice a n c).ownBlock
/-- Behind draws. -/
theorem below_trans0 {B : Nat} {w w' : World} {n : Nat} (h : Below B (w.drewN n) w') : Below B w w' := (below_drewN (Below.refl B w) n).trans h
/-- A row whose blocks lie from B on stays where a row with a block below B is written. -/
theorem owns_apart {w w1 w' : World} {lo lo1 : Nat} {T T1 : TypeId} {sz sz1 n n1 : Nat} {v v1 : Value} {xs xs1 : List Value} (h : w.ownsRow lo T sz v n xs) (h1 : w1.ownsRow lo1 T1 sz1 v1 n1 xs1) (hB : w1.heap.size ≤ lo) (hg : w.grownBy w' v1.ownBlock) : w'.ownsRow lo T sz v n xs := by
  refine h.kept hg ?_
  by_cases hv : v.ownBlock = none
  · exact .inl hv
  · refine .inr fun e => ?_
    obtain ⟨k, hk⟩ := Option.ne_none_iff_exists'.1 hv
    have h2 := (h.lt k hk).1
    have h3 := (h1.lt k (by rw [← e, hk])).2
    omega
theorem Rw.marked {T : TypeId} {lo up : Nat} {a : Option Addr} {c m n : Nat} {ys : List Value} {w1 w w' : World} (h : Rw T 1 lo up a n c ys w1) (hm : Marked T lo a c m n w w') : Rw T 1 lo up a n c ((marks m n).map (Value.int .u8)) w' := ⟨hm.own, h.up⟩
theorem Nums.of_marks {T : TypeId} {lo : Nat} {a : Option Addr} {c m n : Nat} {w w' : World} (h : Marked T lo a c m n w w') : Nums .u8 w' w'.heap.size a c (marks m n) := (Nums.of_own h.own).2

end Go.Proofs.YtfneipdlihbbjabGreatDoor

/- Plain: when a decoder is one. No program. -/
namespace Go.Proofs.YtfneipdlihbbjabGreatDoor
open Go.RowKit

def dOk (n : Nat) (b : Bool) : Bool := decide (n ≤ 400) && (!b || decide (n = 0))
theorem dOk_long {n : Nat} {b : Bool} (h : ¬ n ≤ 400) : dOk n b = false := by simp [dOk, h]
theorem dOk_good {n : Nat} (h : n ≤ 400) : dOk n false = true := by simp [dOk, h]
theorem dOk_bad0 : dOk 0 true = true := by simp [dOk]
theorem dOk_bad {n : Nat} (h0 : n ≠ 0) : dOk n true = false := by simp [dOk, h0]

/-- A decoder in memory of the call's own. -/
def FreshDec (T : TypeId) (xs : List Int) (b : Bool) (w : World) (e : Ending) (w' : World) : Prop :=
  ∃ a c, e = .returned (.agg #[.slice a xs.length c, .bool b]) ∧ w'.ownsRow w.heap.size T 1 (.slice a xs.length c) xs.length (xs.map (Value.int .u8)) ∧ Below w.heap.size w w'

end Go.Proofs.YtfneipdlihbbjabGreatDoor

/- Rows of records of one size, whatever the record: how they read, as an argument's row and as a row of the call's own; marks written through them. No program. -/
namespace Go.Proofs.YtfneipdlihbbjabGreatDoor
open Go.RowKit

section
variable {α : Type} (enc : α → List Value) (sz : Nat) (d : α)
/-- The cells of a list of records. -/
def flatR (l : List α) : List Value := l.flatMap enc
theorem flatR_nil : flatR enc ([] : List α) = [] := rfl
theorem flatR_cons (x : α) (l : List α) : flatR enc (x :: l) = enc x ++ flatR enc l := rfl
theorem flatR_append (l m : List α) : flatR enc (l ++ m) = flatR enc l ++ flatR enc m := by simp [flatR]
theorem flatR_snoc (l : List α) (x : α) : flatR enc (l ++ [x]) = flatR enc l ++ enc x := by simp [flatR]
theorem flatR_len (hsz : ∀ x, (enc x).length = sz) (l : List α) : (flatR enc l).length = l.length * sz := by
  induction l with
  | nil => simp [flatR]
  | cons x l ih => rw [flatR_cons, List.length_append, ih, hsz, List.length_cons, Nat.succ_mul]; omega
/-- The record at i. -/
def rel (l : List α) (i : Nat) : α := l.getD i d
theorem rel_lt {l : List α} {i : Nat} (hi : i < l.length) : rel d l i = l[i] := by simp [rel, List.getD, hi]
theorem rel_cons_succ (x : α) (l : List α) (i : Nat) : rel d (x :: l) (i + 1) = rel d l i := by simp [rel]
theorem rel_take {l : List α} {i : Nat} (hi : i < l.length) : l.take (i + 1) = l.take i ++ [rel d l i] := by
  rw [List.take_succ_eq_append_getElem hi, rel_lt d hi]
theorem rel_drop {l : List α} {i : Nat} (hi : i < l.length) : l.drop i = rel d l i :: l.drop (i + 1) := by
  rw [List.drop_eq_getElem_cons hi, rel_lt d hi]
theorem rel_map {β : Type} (f : α → β) (e : β) {l : List α} {i : Nat} (hi : i < l.length) : rel e (l.map f) i = f (rel d l i) := by simp [rel, List.getD, hi]
theorem flatR_at (hsz : ∀ x, (enc x).length = sz) (l : List α) (i q : Nat) (hi : i < l.length) (hq : q < sz) : (flatR enc l)[i * sz + q]? = (enc (rel d l i))[q]? := by
  induction l generalizing i with
  | nil => simp at hi
  | cons x l ih =>
    rw [flatR_cons]
    cases i with
    | zero => rw [Nat.zero_mul, Nat.zero_add, List.getElem?_append_left (by rw [hsz]; exact hq)]; simp [rel]
    | succ i =>
      rw [List.getElem?_append_right (by rw [hsz, Nat.succ_mul]; omega), hsz, rel_cons_succ, show (i + 1) * sz + q - sz = i * sz + q by rw [Nat.succ_mul]; omega]
      exact ih i (by simpa using hi)

/-- A slice of records, all below block hi, reads as l. -/
structure Recs (w : World) (hi : Nat) (a : Option Addr) (c : Nat) (l : List α) : Prop where
  cap : l.length ≤ c
  big : c ≤ 9223372036854775807
  lies : l = [] ∨ ∃ b off, a = some ⟨b, off, none⟩ ∧ b < hi ∧ ∀ i, i < l.length → ∀ q, q < sz → w.cell? ⟨b, off + i * sz + q, none⟩ = (enc (rel d l i))[q]?
end
section
variable {α : Type} {enc : α → List Value} {sz : Nat} {d : α} {w w' : World} {hi hi' c : Nat} {a : Option Addr} {l : List α}
theorem Recs.below (h : Recs enc sz d w hi a c l) (hb : Below hi w w') : Recs enc sz d w' hi a c l :=
  ⟨h.cap, h.big, h.lies.imp id fun ⟨b, off, ha, hlt, hc⟩ => ⟨b, off, ha, hlt, fun i hi' q hq => (hb.cell (p := ⟨b, off + i * sz + q, none⟩) hlt).trans (hc i hi' q hq)⟩⟩
theorem Recs.more (h : Recs enc sz d w hi a c l) (hh : hi ≤ hi') : Recs enc sz d w hi' a c l :=
  ⟨h.cap, h.big, h.lies.imp id fun ⟨b, off, ha, hlt, hc⟩ => ⟨b, off, ha, Nat.lt_of_lt_of_le hlt hh, hc⟩⟩
theorem Recs.none_ (w : World) (hi : Nat) : Recs enc sz d w hi none 0 [] := ⟨Nat.le_refl _, by omega, .inl rfl⟩
theorem Recs.cells (h : Recs enc sz d w hi a c l) (hne : 0 < l.length) : ∃ b off, a = some ⟨b, off, none⟩ ∧ b < hi ∧ ∀ i, i < l.length → ∀ q, q < sz → w.cell? ⟨b, off + i * sz + q, none⟩ = (enc (rel d l i))[q]? :=
  h.lies.resolve_left (by intro h; subst h; simp at hne)
/-- A row of the call's own: its length, its capacity's bounds, where it lies. -/
theorem ownR_len {T : TypeId} {lo n : Nat} (hsz : ∀ x, (enc x).length = sz) (h0 : 0 < sz) (h : w.ownsRow lo T sz (.slice a n c) n (flatR enc l)) : n = l.length := by
  have h1 := h.1
  rw [flatR_len enc sz hsz] at h1
  exact (Nat.eq_of_mul_eq_mul_right h0 h1).symm
theorem ownR_cap {T : TypeId} {lo n : Nat} {xs : List Value} (h : w.ownsRow lo T sz (.slice a n c) n xs) : n ≤ c ∧ c ≤ 9223372036854775807 := by
  rcases h.2 with ⟨hv, h1⟩ | ⟨g, cap, cur, hv, hlo, hh, h1, h2, _⟩
  · simp only [Value.slice.injEq] at hv
    omega
  · simp only [Value.slice.injEq] at hv
    unfold maxLen at h2
    omega
theorem ownR_block {T : TypeId} {lo n : Nat} {xs : List Value} (h : w.ownsRow lo T sz (.slice a n c) n xs) (hn : 1 ≤ n) : ∃ g, a = some ⟨g, 0, none⟩ ∧ lo ≤ g ∧ g < w.heap.size := by
  rcases h.2 with ⟨hv, h1⟩ | ⟨g, cap, cur, hv, hlo, hh, _⟩
  · omega
  · simp only [Value.slice.injEq] at hv
    exact ⟨g, hv.1, hlo, (Array.getElem?_eq_some_iff.1 hh).1⟩
theorem Recs.of_own {T : TypeId} {lo n : Nat} (hsz : ∀ x, (enc x).length = sz) (h0 : 0 < sz) (h : w.ownsRow lo T sz (.slice a n c) n (flatR enc l)) : Recs enc sz d w w.heap.size a c l := by
  have hn := ownR_len hsz h0 h
  subst hn
  have hc := ownR_cap h
  refine ⟨hc.1, hc.2, ?_⟩
  rcases Nat.eq_zero_or_pos l.length with h1 | h1
  · exact .inl (List.length_eq_zero_iff.1 h1)
  · obtain ⟨g, rfl, hg, hlt⟩ := ownR_block h h1
    refine .inr ⟨g, 0, rfl, hlt, fun i hi q hq => ?_⟩
    rw [Nat.zero_add, h.cellAt (i * sz + q) (by
      have := Nat.mul_le_mul_right sz (show i + 1 ≤ l.length from hi)
      rw [Nat.succ_mul] at this
      omega)]
    exact flatR_at enc sz d hsz l i q hi hq
theorem Rw.recs {T : TypeId} {lo up n : Nat} (hsz : ∀ x, (enc x).length = sz) (h0 : 0 < sz) (h : Rw T sz lo up a n c (flatR enc l) w) : Recs enc sz d w w.heap.size a c l := Recs.of_own hsz h0 h.own
/-- The records from m on. -/
theorem Recs.drop (h : Recs enc sz d w hi a c l) (m : Nat) (hm : m ≤ l.length) : Recs enc sz d w hi (if c = m then a else a.map (·.add (m * sz))) (c - m) (l.drop m) := by
  have hcap := h.cap
  refine ⟨by simp; omega, by have := h.big; omega, ?_⟩
  by_cases he : m = l.length
  · exact .inl (by subst he; simp)
  · obtain ⟨b, off, rfl, hlt', hc⟩ := h.cells (by omega)
    refine .inr ⟨b, off + m * sz, ?_, hlt', fun i hi' q hq => ?_⟩
    · rw [if_neg (by omega)]
      simp only [Option.map, Addr.add]
      by_cases h0 : m * sz = 0
      · simp [h0]
      · simp [h0]
    · have e : rel d (l.drop m) i = rel d l (m + i) := by simp [rel, List.getD]
      rw [e]
      have := hc (m + i) (by simp at hi'; omega) q hq
      rw [Nat.add_mul] at this
      rw [← this]
      congr 2
      omega
/-- The records up to m (the capacity may shrink to c'). -/
theorem Recs.take {c' : Nat} (h : Recs enc sz d w hi a c l) (m : Nat) (hm : m ≤ l.length) (hc' : m ≤ c') (hcc : c' ≤ c) : Recs enc sz d w hi a c' (l.take m) := by
  refine ⟨by simp; omega, by have := h.big; omega, ?_⟩
  rcases Nat.eq_zero_or_pos m with rfl | h0
  · exact .inl (by simp)
  · obtain ⟨b, off, rfl, hlt', hc⟩ := h.cells (by omega)
    refine .inr ⟨b, off, rfl, hlt', fun i hi' q hq => ?_⟩
    have hi2 : i < m := by simp at hi'; omega
    have e : rel d (l.take m) i = rel d l i := by simp [rel, List.getD, hi2]
    rw [e]
    exact hc i (by omega) q hq
end
section
/-- Marking a row leaves all that lies below the row's own base, and every row of another block. -/
structure MarkedR (T : TypeId) (sz lo : Nat) (a : Option Addr) (c n : Nat) (xs : List Value) (w w' : World) : Prop where
  own : w'.ownsRow lo T sz (.slice a n c) n xs
  below : Below lo w w'
  grown : w.grownBy w' (Value.slice a n c).ownBlock
theorem Blk.put_ {w : World} {g : Nat} {t : TypeId} {cs : Array Value} (h : Blk w g t cs) (i : Nat) (u : Value) : Blk (w.setCell ⟨g, i, none⟩ u) g t (cs.setIfInBounds i u) := by
  unfold Blk at h ⊢
  simp [World.setCell, Array.getElem?_modify, h]
/-- A call that hands back a row of records of its own. -/
def FreshR {α : Type} (enc : α → List Value) (T : TypeId) (sz : Nat) (l : List α) (w : World) (e : Ending) (w' : World) : Prop :=
  ∃ a c, e = .returned (.slice a l.length c) ∧ w'.ownsRow w.heap.size T sz (.slice a l.length c) l.length (flatR enc l) ∧ Below w.heap.size w w'
end
end Go.Proofs.YtfneipdlihbbjabGreatDoor

/- Rows of records that begin with a slice: how they read, and copies of the call's own. No program. -/
namespace Go.Proofs.YtfneipdlihbbjabGreatDoor
open Go.RowKit

/-- How a record that begins with a slice reads: the slice's length, the cells behind it, what the slice holds below block hi, and the same as a row of the call's own. -/
structure Hd (α : Type) where
  ln : α → Nat
  tail : α → List Value
  rd : World → Nat → α → Option Addr → Nat → Prop
  ow : World → Nat → α → Option Addr → Nat → Prop
  rd_below : ∀ {w w' : World} {hi : Nat} {x : α} {a : Option Addr} {c : Nat}, rd w hi x a c → Below hi w w' → rd w' hi x a c
  rd_more : ∀ {w : World} {hi hi' : Nat} {x : α} {a : Option Addr} {c : Nat}, rd w hi x a c → hi ≤ hi' → rd w hi' x a c
  ow_rd : ∀ {w : World} {lo : Nat} {x : α} {a : Option Addr} {c : Nat}, ow w lo x a c → rd w w.heap.size x a c
  ow_below : ∀ {w w' : World} {lo : Nat} {x : α} {a : Option Addr} {c : Nat}, ow w lo x a c → Below w.heap.size w w' → ow w' lo x a c
  ow_set : ∀ {w : World} {lo : Nat} {x : α} {a : Option Addr} {c : Nat} {p : Addr} (v : Value), ow w lo x a c → p.block < lo → ow (w.setCell p v) lo x a c
  ow_less : ∀ {w : World} {lo lo' : Nat} {x : α} {a : Option Addr} {c : Nat}, ow w lo x a c → lo' ≤ lo → ow w lo' x a c

section
variable {α : Type} (H : Hd α) (k : Nat) (d : α)
/-- A slice of such records, all below block hi, reads as l. -/
structure HRow (w : World) (hi : Nat) (a : Option Addr) (c : Nat) (l : List α) : Prop where
  cap : l.length ≤ c
  big : c ≤ 9223372036854775807
  lies : l = [] ∨ ∃ b off, a = some ⟨b, off, none⟩ ∧ b < hi ∧ ∀ i, i < l.length → ∃ ai ci, w.cell? ⟨b, off + i * k, none⟩ = some (.slice ai (H.ln (rel d l i)) ci) ∧
    (∀ q, q + 1 < k → w.cell? ⟨b, off + i * k + (q + 1), none⟩ = (H.tail (rel d l i))[q]?) ∧ H.rd w hi (rel d l i) ai ci
/-- The same in memory of the call's own, from block lo on. -/
structure HOwn (T : TypeId) (w : World) (lo : Nat) (a : Option Addr) (c : Nat) (l : List α) : Prop where
  cap : l.length ≤ c
  big : c ≤ 9223372036854775807
  lies : l = [] ∨ ∃ b CS, a = some ⟨b, 0, none⟩ ∧ lo ≤ b ∧ Blk w b T CS ∧ ∀ i, i < l.length → ∃ ai ci, CS[i * k]? = some (.slice ai (H.ln (rel d l i)) ci) ∧
    (∀ q, q + 1 < k → CS[i * k + (q + 1)]? = (H.tail (rel d l i))[q]?) ∧ H.ow w lo (rel d l i) ai ci
/-- The first j records have been copied into block g. -/
structure HCop (T : TypeId) (g : Nat) (l : List α) (j : Nat) (w : World) : Prop where
  ex : ∃ CS, Blk w g T CS ∧ CS.size = l.length * k ∧ ∀ i, i < j → ∃ ai ci, CS[i * k]? = some (.slice ai (H.ln (rel d l i)) ci) ∧
    (∀ q, q + 1 < k → CS[i * k + (q + 1)]? = (H.tail (rel d l i))[q]?) ∧ H.ow w (g + 1) (rel d l i) ai ci
/-- What the slices of the first j records hold together. -/
def totH (l : List α) : Nat → Nat
  | 0 => 0
  | j + 1 => totH l j + H.ln (rel d l j)
/-- A call that hands back a copy of such a row. -/
def FreshH (T : TypeId) (l : List α) (w : World) (e : Ending) (w' : World) : Prop :=
  ∃ a c, e = .returned (.slice a l.length c) ∧ HOwn H k d T w' w.heap.size a c l ∧ Below w.heap.size w w'
end
section
variable {α : Type} {H : Hd α} {k : Nat} {d : α} {w w' : World} {hi hi' lo lo' c g : Nat} {T : TypeId} {a : Option Addr} {l : List α}
theorem totH_le {i j : Nat} (h : i ≤ j) : totH H d l i ≤ totH H d l j := by
  induction j with
  | zero => obtain rfl : i = 0 := by omega
            exact Nat.le_refl _
  | succ j ih =>
    rcases Nat.lt_or_ge i (j + 1) with h1 | h1
    · have := ih (by omega); simp only [totH]; omega
    · obtain rfl : i = j + 1 := by omega
      exact Nat.le_refl _
theorem head_le {i j : Nat} (h : i < j) : H.ln (rel d l i) ≤ totH H d l j := by
  have := totH_le (H := H) (d := d) (l := l) (show i + 1 ≤ j by omega)
  simp only [totH] at this
  omega
theorem HRow.below (h : HRow H k d w hi a c l) (hb : Below hi w w') : HRow H k d w' hi a c l :=
  ⟨h.cap, h.big, h.lies.imp id fun ⟨b, off, ha, hlt, hc⟩ => ⟨b, off, ha, hlt, fun i hi2 => by
    obtain ⟨ai, ci, h1, h2, h3⟩ := hc i hi2
    exact ⟨ai, ci, (hb.cell (p := ⟨b, off + i * k, none⟩) hlt).trans h1, fun q hq => (hb.cell (p := ⟨b, off + i * k + (q + 1), none⟩) hlt).trans (h2 q hq), H.rd_below h3 hb⟩⟩⟩
theorem HRow.more (h : HRow H k d w hi a c l) (hh : hi ≤ hi') : HRow H k d w hi' a c l :=
  ⟨h.cap, h.big, h.lies.imp id fun ⟨b, off, ha, hlt, hc⟩ => ⟨b, off, ha, by omega, fun i hi2 => by
    obtain ⟨ai, ci, h1, h2, h3⟩ := hc i hi2
    exact ⟨ai, ci, h1, h2, H.rd_more h3 hh⟩⟩⟩
theorem HRow.none_ (w : World) (hi : Nat) : HRow H k d w hi none 0 [] := ⟨Nat.le_refl _, by omega, .inl rfl⟩
theorem HRow.cells (h : HRow H k d w hi a c l) (hne : 0 < l.length) : ∃ b off, a = some ⟨b, off, none⟩ ∧ b < hi ∧ ∀ i, i < l.length → ∃ ai ci, w.cell? ⟨b, off + i * k, none⟩ = some (.slice ai (H.ln (rel d l i)) ci) ∧
    (∀ q, q + 1 < k → w.cell? ⟨b, off + i * k + (q + 1), none⟩ = (H.tail (rel d l i))[q]?) ∧ H.rd w hi (rel d l i) ai ci :=
  h.lies.resolve_left (by intro h; subst h; simp at hne)
theorem HOwn.row (h : HOwn H k d T w lo a c l) : HRow H k d w w.heap.size a c l :=
  ⟨h.cap, h.big, h.lies.imp id fun ⟨b, CS, ha, hlo, hB, hc⟩ => ⟨b, 0, ha, hB.lt, fun i hi2 => by
    obtain ⟨ai, ci, h1, h2, h3⟩ := hc i hi2
    exact ⟨ai, ci, by rw [Nat.zero_add, hB.cell]; exact h1, fun q hq => by rw [Nat.zero_add, hB.cell]; exact h2 q hq, H.ow_rd h3⟩⟩⟩
theorem HOwn.below (h : HOwn H k d T w lo a c l) (hb : Below w.heap.size w w') : HOwn H k d T w' lo a c l :=
  ⟨h.cap, h.big, h.lies.imp id fun ⟨b, CS, ha, hlo, hB, hc⟩ => ⟨b, CS, ha, hlo, hB.below hb, fun i hi2 => by
    obtain ⟨ai, ci, h1, h2, h3⟩ := hc i hi2
    exact ⟨ai, ci, h1, h2, H.ow_below h3 hb⟩⟩⟩
theorem HOwn.set (h : HOwn H k d T w lo a c l) {p : Addr} (hp : p.block < lo) (v : Value) : HOwn H k d T (w.setCell p v) lo a c l :=
  ⟨h.cap, h.big, h.lies.imp id fun ⟨b, CS, ha, hlo, hB, hc⟩ => ⟨b, CS, ha, hlo, (Below.heap_setCell w p v b (by omega)).trans hB, fun i hi2 => by
    obtain ⟨ai, ci, h1, h2, h3⟩ := hc i hi2
    exact ⟨ai, ci, h1, h2, H.ow_set v h3 hp⟩⟩⟩
theorem HOwn.less (h : HOwn H k d T w lo a c l) (hh : lo' ≤ lo) : HOwn H k d T w lo' a c l :=
  ⟨h.cap, h.big, h.lies.imp id fun ⟨b, CS, ha, hlo, hB, hc⟩ => ⟨b, CS, ha, by omega, hB, fun i hi2 => by
    obtain ⟨ai, ci, h1, h2, h3⟩ := hc i hi2
    exact ⟨ai, ci, h1, h2, H.ow_less h3 hh⟩⟩⟩
theorem HCop.start {CS : Array Value} (hB : Blk w g T CS) (hs : CS.size = l.length * k) : HCop H k d T g l 0 w := ⟨CS, hB, hs, fun i hi => by omega⟩
theorem HCop.below {j : Nat} (h : HCop H k d T g l j w) (hb : Below w.heap.size w w') : HCop H k d T g l j w' := by
  obtain ⟨CS, hB, hs, hc⟩ := h.ex
  refine ⟨CS, hB.below hb, hs, fun i hi => ?_⟩
  obtain ⟨ai, ci, h1, h2, h3⟩ := hc i hi
  exact ⟨ai, ci, h1, h2, H.ow_below h3 hb⟩
theorem HCop.done (h : HCop H k d T g l l.length w) (hl : l.length ≤ 1048576) (hlo : lo ≤ g) : HOwn H k d T w lo (some ⟨g, 0, none⟩) l.length l := by
  obtain ⟨CS, hB, hs, hc⟩ := h.ex
  refine ⟨Nat.le_refl _, by omega, .inr ⟨g, CS, rfl, hlo, hB, fun i hi => ?_⟩⟩
  obtain ⟨ai, ci, h1, h2, h3⟩ := hc i hi
  exact ⟨ai, ci, h1, h2, H.ow_less h3 (by omega)⟩
theorem hblk_far {t : TypeId} {cs : Array Value} (h : Blk w g t cs) {p : Addr} (hp : g ≠ p.block) (u : Value) : Blk (w.setCell p u) g t cs := (Below.heap_setCell w p u g hp).trans h
/-- Cells that are set from o on. -/
def setFrom (CS : Array Value) (o : Nat) : List Value → Array Value
  | [] => CS
  | v :: vs => setFrom (CS.setIfInBounds o v) (o + 1) vs
theorem setFrom_size (vs : List Value) : ∀ (CS : Array Value) (o : Nat), (setFrom CS o vs).size = CS.size := by
  induction vs with
  | nil => intro CS o; rfl
  | cons v vs ih => intro CS o; rw [setFrom, ih]; simp
theorem setFrom_out (vs : List Value) : ∀ (CS : Array Value) (o i : Nat), (i < o ∨ o + vs.length ≤ i) → (setFrom CS o vs)[i]? = CS[i]? := by
  induction vs with
  | nil => intro CS o i _; rfl
  | cons v vs ih =>
    intro CS o i h
    simp only [List.length_cons] at h
    rw [setFrom, ih _ _ _ (by omega), Array.getElem?_setIfInBounds_ne (by omega)]
theorem setFrom_in (vs : List Value) : ∀ (CS : Array Value) (o q : Nat), q < vs.length → o + q < CS.size → (setFrom CS o vs)[o + q]? = vs[q]? := by
  induction vs with
  | nil => intro CS o q h; simp at h
  | cons v vs ih =>
    intro CS o q h hs
    rw [setFrom]
    cases q with
    | zero =>
      rw [setFrom_out _ _ _ _ (by omega)]
      simp [show o < CS.size by omega]
    | succ q =>
      rw [show o + (q + 1) = o + 1 + q by omega, ih _ _ _ (by simpa using h) (by simp; omega)]
      simp
theorem blk_setCells (vs : List Value) : ∀ {w : World} {CS : Array Value} (o : Nat), Blk w g T CS → Blk (w.setCells g o vs) g T (setFrom CS o vs) := by
  induction vs with
  | nil => intro w CS o h; exact h
  | cons v vs ih =>
    intro w CS o h
    exact ih (o + 1) (Blk.put_ h o v)
theorem ow_setCells (vs : List Value) : ∀ {w : World} {x : α} {ai : Option Addr} {ci : Nat} (o : Nat), H.ow w (g + 1) x ai ci → H.ow (w.setCells g o vs) (g + 1) x ai ci := by
  induction vs with
  | nil => intro w x ai ci o h; exact h
  | cons v vs ih =>
    intro w x ai ci o h
    exact ih (o + 1) (H.ow_set v h (show g < g + 1 by omega))
theorem below_setCells (vs : List Value) {B : Nat} (hB : B ≤ g) : ∀ {w0 w : World} (o : Nat), Below B w0 w → Below B w0 (w.setCells g o vs) := by
  induction vs with
  | nil => intro w0 w o h; exact h
  | cons v vs ih =>
    intro w0 w o h
    exact ih (o + 1) (h.setCell (p := ⟨g, o, none⟩) hB v)
theorem size_setCells (vs : List Value) : ∀ {w : World} (o : Nat), (w.setCells g o vs).heap.size = w.heap.size := by
  induction vs with
  | nil => intro w o; rfl
  | cons v vs ih =>
    intro w o
    exact (ih (o + 1)).trans (by simp [World.setCell])
theorem far_setCells (vs : List Value) {b : Nat} {cs : Array Value} (hb : b ≠ g) : ∀ {w : World} (o : Nat), Blk w b T cs → Blk (w.setCells g o vs) b T cs := by
  induction vs with
  | nil => intro w o h; exact h
  | cons v vs ih =>
    intro w o h
    exact ih (o + 1) (hblk_far h (p := ⟨g, o, none⟩) hb v)
theorem blk_there {cs : Array Value} {n o : Nat} (h : Blk w g T cs) (hn : o + n ≤ cs.size) : w.there g o n := fun j hj => by
  refine ⟨?_, h.frozen _⟩
  rw [h.cell]
  simp
  omega
theorem HOwn.setCells (vs : List Value) (hg : g < lo) : ∀ {w : World} (o : Nat), HOwn H k d T w lo a c l → HOwn H k d T (w.setCells g o vs) lo a c l := by
  induction vs with
  | nil => intro w o h; exact h
  | cons v vs ih =>
    intro w o h
    exact ih (o + 1) (h.set (p := ⟨g, o, none⟩) hg v)
/-- One record more. -/
theorem HCop.step {j : Nat} {ai : Option Addr} {ci : Nat} (h : HCop H k d T g l j w) (hk : 0 < k) (ht : (H.tail (rel d l j)).length + 1 = k) (hj : j < l.length) (ho : H.ow w (g + 1) (rel d l j) ai ci) :
    HCop H k d T g l (j + 1) (w.setCells g (j * k) (.slice ai (H.ln (rel d l j)) ci :: H.tail (rel d l j))) := by
  obtain ⟨CS, hB, hs, hc⟩ := h.ex
  have hjk : j * k + k ≤ CS.size := by
    have := Nat.mul_le_mul_right k (show j + 1 ≤ l.length from hj)
    rw [Nat.succ_mul] at this
    omega
  refine ⟨_, blk_setCells _ _ hB, by rw [setFrom_size, hs], fun i hi => ?_⟩
  by_cases he : i = j
  · subst he
    refine ⟨ai, ci, ?_, fun q hq => ?_, ow_setCells _ _ ho⟩
    · have := setFrom_in (.slice ai (H.ln (rel d l i)) ci :: H.tail (rel d l i)) CS (i * k) 0 (by simp) (by omega)
      simpa using this
    · have := setFrom_in (.slice ai (H.ln (rel d l i)) ci :: H.tail (rel d l i)) CS (i * k) (q + 1) (by simp; omega) (by omega)
      simpa using this
  · have hik : i * k + k ≤ j * k := by
      have := Nat.mul_le_mul_right k (show i + 1 ≤ j by omega)
      rw [Nat.succ_mul] at this
      omega
    obtain ⟨a1, c1, h1, h2, h3⟩ := hc i (by omega)
    exact ⟨a1, c1, by rw [setFrom_out _ _ _ _ (by omega)]; exact h1, fun q hq => by rw [setFrom_out _ _ _ _ (by omega)]; exact h2 q hq, ow_setCells _ _ h3⟩
end
end Go.Proofs.YtfneipdlihbbjabGreatDoor

/- What a block holds behind a store of several cells, as a list. No program. -/
namespace Go.Proofs.YtfneipdlihbbjabGreatDoor
open Go.RowKit

theorem setFrom_list (vs : List Value) (CS : Array Value) (o : Nat) (h : o + vs.length ≤ CS.size) : setFrom CS o vs = (CS.toList.take o ++ vs ++ CS.toList.drop (o + vs.length)).toArray := by
  have hl : (CS.toList.take o).length = o := by simp; omega
  apply Array.ext_getElem?
  intro i
  have e : (CS.toList.take o ++ vs ++ CS.toList.drop (o + vs.length)).toArray[i]? = (CS.toList.take o ++ vs ++ CS.toList.drop (o + vs.length))[i]? := by simp only [List.getElem?_toArray]
  rw [e]
  clear e
  rcases Nat.lt_or_ge i o with h1 | h1
  · rw [setFrom_out _ _ _ _ (.inl h1), List.getElem?_append_left (by simp; omega), List.getElem?_append_left (by omega), List.getElem?_take_of_lt h1, Array.getElem?_toList]
  · rcases Nat.lt_or_ge i (o + vs.length) with h2 | h2
    · obtain ⟨q, rfl⟩ : ∃ q, i = o + q := ⟨i - o, by omega⟩
      rw [setFrom_in _ _ _ _ (by omega) (by omega), List.getElem?_append_left (by simp; omega), List.getElem?_append_right (by omega), hl, Nat.add_sub_cancel_left]
    · rw [setFrom_out _ _ _ _ (.inr h2), List.getElem?_append_right (by simp; omega), List.getElem?_drop, Array.getElem?_toList]
      congr 1
      simp
      omega
theorem blk_setL {w : World} {g : Nat} {T : TypeId} {CS : List Value} (vs : List Value) (o : Nat) (h : Blk w g T CS.toArray) (ho : o + vs.length ≤ CS.length) : Blk (w.setCells g o vs) g T (CS.take o ++ vs ++ CS.drop (o + vs.length)).toArray := by
  have z := blk_setCells vs o h
  rw [setFrom_list _ _ _ (by simpa using ho)] at z
  exact z
/-- A store of several cells, its world by a letter. -/
theorem wpList_store_to {P : Program} {ops : Array Oper} {rest : List Oper} {op : Oper} {a : Act} {w W : World} {Q : Exit → Act → World → Prop} (hgd : op.guard = none) (ty : TypeId) (x y : Operand) (ho : op.op = .store ty x y)
    (b o : Nat) (cells : Array Value) (hx : a.eval x = .pointer (some ⟨b, o, none⟩)) (hy : a.eval y = .agg cells)
    (ht : w.there b o cells.size) (hi : (P.info? ty).map (·.size) = some cells.size) (h1 : cells.all (·.oneCell') = true) (hW : w.setCells b o cells.toList = W)
    (h : wpList P ops Q rest (a.put op.dst undef) W) : wpList P ops Q (op :: rest) a w := by
  subst hW
  exact wpList_store_mid hgd ty x y ho b o cells hx hy ht hi h1 h
end Go.Proofs.YtfneipdlihbbjabGreatDoor
