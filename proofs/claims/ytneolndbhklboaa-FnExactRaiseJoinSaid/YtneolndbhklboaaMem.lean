/- Plain facts on memory: a slice of numbers that reads as a list (Nums), rows of the call's own (ownsRow) and how both are carried from world to world. No program. -/
import Derived.Test.YtneolndbhklboaaPlain
import Derived.Laws.OwnMore
import Derived.OwnWalk
import Derived.WalkSmall
namespace Go.Proofs.Ytneolndbhklboaa
open Go.RowKit

def IsB (xs : List Int) : Prop := ∀ x ∈ xs, 0 ≤ x ∧ x ≤ 255
theorem el_bd {xs : List Int} (h : IsB xs) (i : Nat) : 0 ≤ el xs i ∧ el xs i ≤ 255 := by
  unfold el
  by_cases hi : i < xs.length
  · have e : xs.getD i 0 = xs[i] := by simp [List.getD, hi]
    rw [e]; exact h _ (List.getElem_mem hi)
  · have e : xs.getD i 0 = 0 := by simp [List.getD, Nat.le_of_not_lt hi]
    rw [e]; omega
theorem IsB.append {xs ys : List Int} (h : IsB xs) (k : IsB ys) : IsB (xs ++ ys) := fun x hx => by
  rcases List.mem_append.1 hx with hx | hx
  · exact h x hx
  · exact k x hx
theorem IsB.take {xs : List Int} (h : IsB xs) (n : Nat) : IsB (xs.take n) := fun x hx => h x (List.mem_of_mem_take hx)
theorem IsB.drop {xs : List Int} (h : IsB xs) (n : Nat) : IsB (xs.drop n) := fun x hx => h x (List.mem_of_mem_drop hx)
theorem IsB.nil : IsB [] := fun _ h => absurd h (by simp)
theorem IsB.one {x : Int} (h0 : 0 ≤ x) (h1 : x ≤ 255) : IsB [x] := fun y hy => by simp at hy; subst hy; exact ⟨h0, h1⟩
theorem el_take (xs : List Int) (k : Nat) (hk : k < xs.length) : xs.take (k + 1) = xs.take k ++ [el xs k] := by
  rw [List.take_succ_eq_append_getElem hk]; simp [el, List.getD, hk]
theorem el_cell (k : IntKind) (xs : List Int) (i : Nat) (hi : i < xs.length) : (xs.map (Value.int k))[i]? = some (.int k (el xs i)) := by
  simp [el, List.getD, hi]

/-- A slice of numbers of kind k, at or behind which nothing of interest lies from block hi on, reads as xs. -/
structure Nums (k : IntKind) (w : World) (hi : Nat) (a : Option Addr) (c : Nat) (xs : List Int) : Prop where
  cap : xs.length ≤ c
  big : c ≤ 9223372036854775807
  lies : xs = [] ∨ ∃ b off, a = some ⟨b, off, none⟩ ∧ b < hi ∧ ∀ i, i < xs.length → w.cell? ⟨b, off + i, none⟩ = some (.int k (el xs i))

section
variable {k : IntKind} {w w' : World} {hi hi' : Nat} {a : Option Addr} {c : Nat} {xs : List Int}
theorem Nums.below (h : Nums k w hi a c xs) (hb : Below hi w w') : Nums k w' hi a c xs :=
  ⟨h.cap, h.big, h.lies.imp id fun ⟨b, off, ha, hlt, hc⟩ => ⟨b, off, ha, hlt, fun i hi' => (hb.cell (p := ⟨b, off + i, none⟩) hlt).trans (hc i hi')⟩⟩
theorem Nums.more (h : Nums k w hi a c xs) (hh : hi ≤ hi') : Nums k w hi' a c xs :=
  ⟨h.cap, h.big, h.lies.imp id fun ⟨b, off, ha, hlt, hc⟩ => ⟨b, off, ha, Nat.lt_of_lt_of_le hlt hh, hc⟩⟩
theorem Nums.grown (h : Nums k w hi a c xs) (hh : hi ≤ w.heap.size) {row : Option Nat} (hg : w.grownBy w' row) (hr : ∀ g, row = some g → hi ≤ g) : Nums k w' hi a c xs :=
  ⟨h.cap, h.big, h.lies.imp id fun ⟨b, off, ha, hlt, hc⟩ => ⟨b, off, ha, hlt, fun i hi' => (World.cell?_of_block (a := ⟨b, off + i, none⟩) (hg.block b (by omega) (fun e => by have := hr _ e.symm; omega))).trans (hc i hi')⟩⟩
theorem Nums.none_ (k : IntKind) (w : World) (hi : Nat) : Nums k w hi none 0 [] := ⟨Nat.le_refl _, by omega, .inl rfl⟩
/-- The slice from m on. -/
theorem Nums.drop (h : Nums k w hi a c xs) (m : Nat) (hm : m ≤ xs.length) : Nums k w hi (if c = m then a else a.map (·.add (m * 1))) (c - m) (xs.drop m) := by
  have hcap := h.cap
  refine ⟨by simp; omega, by have := h.big; omega, ?_⟩
  by_cases he : xs.drop m = []
  · exact .inl he
  · have hlt : m < xs.length := by
      rcases Nat.lt_or_ge m xs.length with h | h
      · exact h
      · exact absurd (List.drop_eq_nil_iff.2 h) he
    rcases h.lies with h0 | ⟨b, off, rfl, hlt', hc⟩
    · subst h0; simp at hlt
    · refine .inr ⟨b, off + m, ?_, hlt', fun i hi' => ?_⟩
      · rw [if_neg (by omega)]
        simp only [Option.map, Addr.add, Nat.mul_one]
        by_cases h0 : m = 0
        · subst h0; simp
        · simp [h0]
      · have e : el (xs.drop m) i = el xs (m + i) := by simp [el, List.getD]
        rw [e, Nat.add_assoc]
        exact hc _ (by simp at hi'; omega)
/-- The slice up to m (its capacity may shrink to c'). -/
theorem Nums.take (h : Nums k w hi a c xs) (m c' : Nat) (hm : m ≤ xs.length) (hc' : m ≤ c') (hcc : c' ≤ c) : Nums k w hi a c' (xs.take m) := by
  refine ⟨by simp; omega, by have := h.big; omega, ?_⟩
  rcases h.lies with h0 | ⟨b, off, rfl, hlt', hc⟩
  · subst h0; exact .inl (by simp)
  · refine .inr ⟨b, off, rfl, hlt', fun i hi' => ?_⟩
    have hi2 : i < m := by simp at hi'; omega
    have e : el (xs.take m) i = el xs i := by simp [el, List.getD, hi2]
    rw [e]
    exact hc _ (by omega)
end

theorem grown_setCell (w : World) (p o : Nat) (v : Value) : w.grownBy (w.setCell ⟨p, o, none⟩ v) (some p) :=
  ⟨rfl, rfl, rfl, by simp, fun k _ hne => Below.heap_setCell _ _ _ _ (fun e => hne (by rw [e]))⟩
theorem grown_drewN (w : World) (n : Nat) (row : Option Nat) : w.grownBy (w.drewN n) row := ⟨rfl, rfl, rfl, Nat.le_refl _, fun _ _ _ => rfl⟩
theorem grown_trans {a b c : World} {row : Option Nat} (h : a.grownBy b row) (k : b.grownBy c row) : a.grownBy c row :=
  ⟨k.os.trans h.os, k.tape.trans h.tape, k.output.trans h.output, Nat.le_trans h.size k.size, fun i hi hne => (k.block i (Nat.lt_of_lt_of_le hi h.size) hne).trans (h.block i hi hne)⟩
theorem grown_alloc (w : World) (o : Obj) (row : Option Nat) : w.grownBy (w.alloc o) row := World.grownBy_alloc w o row
/-- A row of the call's own from lo on has grown. -/
theorem below_own {w w' : World} {lo : Nat} {T : TypeId} {sz n : Nat} {v : Value} {xs : List Value} (h : w.ownsRow lo T sz v n xs) (hg : w.grownBy w' v.ownBlock) (hlo : lo ≤ w.heap.size) : Below lo w w' :=
  ⟨hg.os, hg.tape, hg.output, hg.size, fun k hk => hg.block k (by omega) (fun e => by have := (h.lt k e.symm).1; omega)⟩
theorem grown_below {w w' : World} (h : Below w.heap.size w w') : w.grownBy w' none := ⟨h.os, h.tape, h.output, h.size, fun k hk _ => h.block k hk⟩
theorem below_grown {w w' : World} (h : w.grownBy w' none) : Below w.heap.size w w' := ⟨h.os, h.tape, h.output, h.size, fun k hk => h.block k hk (by simp)⟩
theorem below_grown_own {w w' : World} {B p : Nat} (h : w.grownBy w' (some p)) (hp : B ≤ p) (hB : B ≤ w.heap.size) : Below B w w' := ⟨h.os, h.tape, h.output, h.size, fun k hk => h.block k (by omega) (fun e => by injection e with e; omega)⟩

section
variable {w w' : World} {lo lo' : Nat} {T : TypeId} {sz : Nat} {v : Value} {n : Nat} {xs : List Value}
theorem owns_below (h : w.ownsRow lo T sz v n xs) (hb : Below w.heap.size w w') : w'.ownsRow lo T sz v n xs := h.kept (grown_below hb) (by cases hv : v.ownBlock <;> simp)
theorem owns_less (h : w.ownsRow lo T sz v n xs) (hl : lo' ≤ lo) : w.ownsRow lo' T sz v n xs :=
  ⟨h.1, h.2.imp id fun ⟨g, cap, cur, hv, hb, r⟩ => ⟨g, cap, cur, hv, by omega, r⟩⟩
theorem owns_drewN (h : w.ownsRow lo T sz v n xs) (m : Nat) : (w.drewN m).ownsRow lo T sz v n xs := h
/-- Its shape. -/
theorem owns_shape (h : w.ownsRow lo T sz v n xs) : ∃ a c, v = .slice a n c := by
  rcases h.2 with ⟨rfl, rfl⟩ | ⟨g, cap, cur, rfl, _⟩
  · exact ⟨_, _, rfl⟩
  · exact ⟨_, _, rfl⟩
end

/-- A row of one number, just built. -/
theorem own_one (W : World) (T : TypeId) (k : IntKind) (x : Int) (b lo : Nat) (hb : b = W.heap.size) (hlo : lo ≤ b) : (W.alloc (.cells #[.int k x] T)).ownsRow lo T 1 (.slice (some ⟨b, 0, none⟩) 1 1) 1 ([x].map (Value.int k)) := by
  subst hb
  exact World.ownsRow_lit (e := T) (size := 1) W #[.int k x] 1 hlo (by unfold maxLen; omega) (by simp)
/-- A row of the call's own reads as its list. -/
theorem Nums.of_own {k : IntKind} {w : World} {lo : Nat} {T : TypeId} {a : Option Addr} {n c : Nat} {xs : List Int} (h : w.ownsRow lo T 1 (.slice a n c) n (xs.map (Value.int k))) : n = xs.length ∧ Nums k w w.heap.size a c xs := by
  have hn : n = xs.length := by simpa using h.1.symm
  refine ⟨hn, ?_⟩
  subst hn
  rcases h.2 with ⟨hv, h0⟩ | ⟨g, cap, cur, hv, hlo, hh, hnc, hcm, hcs, htake⟩
  · simp only [Value.slice.injEq] at hv
    obtain ⟨rfl, hl, rfl⟩ := hv
    have : xs = [] := List.length_eq_zero_iff.1 hl
    subst this
    exact Nums.none_ _ _ _
  · simp only [Value.slice.injEq, true_and] at hv
    obtain ⟨rfl, rfl⟩ := hv
    unfold maxLen at hcm
    refine ⟨hnc, by omega, .inr ⟨g, 0, rfl, (Array.getElem?_eq_some_iff.1 hh).1, fun i hi => ?_⟩⟩
    rw [Nat.zero_add, h.cellAt i (by omega)]
    exact el_cell _ _ _ hi

/-- A call that hands back a new row of numbers: its memory is the call's own, of what was there nothing has turned. -/
def FreshNums (T : TypeId) (k : IntKind) (xs : List Int) (w : World) (e : Ending) (w' : World) : Prop :=
  ∃ a c, e = .returned (.slice a xs.length c) ∧ w'.ownsRow w.heap.size T 1 (.slice a xs.length c) xs.length (xs.map (Value.int k)) ∧ Below w.heap.size w w'

/-- A call that hands back a row of its own from block lo on; below lo nothing has turned. -/
def OwnNums (T : TypeId) (k : IntKind) (lo : Nat) (xs : List Int) (w : World) (e : Ending) (w' : World) : Prop :=
  ∃ a c, e = .returned (.slice a xs.length c) ∧ w'.ownsRow lo T 1 (.slice a xs.length c) xs.length (xs.map (Value.int k)) ∧ Below lo w w'
theorem OwnNums.fresh {T : TypeId} {k : IntKind} {xs : List Int} {w w' : World} {e : Ending} (h : OwnNums T k w.heap.size xs w e w') : FreshNums T k xs w e w' := h
theorem fresh_as {T : TypeId} {k : IntKind} {xs : List Int} {w w' : World} {a : Option Addr} {n m c : Nat} (h : FreshNums T k xs w (.returned (.slice a n c)) w') (hm : n = m) : FreshNums T k xs w (.returned (.slice a m c)) w' := hm ▸ h
theorem map_snoc (k : IntKind) (xs : List Int) (x : Int) : (xs ++ [x]).map (Value.int k) = xs.map (Value.int k) ++ [.int k x] := by simp

/-- The marks that a caller writes. -/
def marks (m : Nat) (n : Nat) : List Int := (List.range n).map fun i : Nat => ((m : Int) + (i : Int)) % 256
theorem marks_len (m n : Nat) : (marks m n).length = n := by simp [marks]
theorem marks_el (m n i : Nat) (hi : i < n) : el (marks m n) i = ((m : Int) + (i : Int)) % 256 := by simp [marks, el, List.getD, hi]
theorem marks_isB (m n : Nat) : IsB (marks m n) := fun x hx => by
  simp only [marks, List.mem_map] at hx
  obtain ⟨i, _, rfl⟩ := hx
  omega
/-- The row behind k marks. -/
def markTo (m : Nat) (xs : List Int) (j : Nat) : List Int := (marks m j) ++ xs.drop j
theorem markTo_zero (m : Nat) (xs : List Int) : markTo m xs 0 = xs := by simp [markTo, marks]
theorem markTo_len (m : Nat) (xs : List Int) (j : Nat) (hj : j ≤ xs.length) : (markTo m xs j).length = xs.length := by simp [markTo, marks_len]; omega
theorem markTo_all (m : Nat) (xs : List Int) : markTo m xs xs.length = marks m xs.length := by simp [markTo]
theorem markTo_step (m : Nat) (xs : List Int) (j : Nat) (hj : j < xs.length) : (markTo m xs j).set j (((m : Int) + (j : Int)) % 256) = markTo m xs (j + 1) := by
  unfold markTo
  rw [List.set_append_right _ _ (by rw [marks_len]; exact Nat.le_refl _), marks_len, Nat.sub_self]
  rw [List.drop_eq_getElem_cons hj, List.set_cons_zero]
  simp [marks, List.range_succ]
theorem markTo_here (m : Nat) (xs : List Int) (j : Nat) : el (markTo m xs j) j = el xs j := by
  unfold markTo el
  rw [List.getD_eq_getElem?_getD, List.getElem?_append_right (by rw [marks_len]; exact Nat.le_refl _), marks_len, Nat.sub_self]
  simp [List.getD]

theorem ret_int {k : IntKind} {a b : Int} (h : a = b) : Ending.returned (.int k a) = .returned (.int k b) := by rw [h]
theorem below_next {a b c : World} (h : Below a.heap.size a b) (k : Below b.heap.size b c) : Below a.heap.size a c := h.trans (k.mono h.size)

/-- A block that is known whole. -/
def Blk (w : World) (g : Nat) (t : TypeId) (cs : Array Value) : Prop := w.heap[g]? = some (.cells cs t (0, 0))
section
variable {w w' : World} {g : Nat} {t : TypeId} {cs : Array Value}
theorem Blk.lt (h : Blk w g t cs) : g < w.heap.size := (Array.getElem?_eq_some_iff.1 h).1
theorem Blk.cell (h : Blk w g t cs) (i : Nat) : w.cell? ⟨g, i, none⟩ = cs[i]? := cell_of_row w g i cs t (0, 0) h
theorem Blk.frozen (h : Blk w g t cs) (i : Nat) : w.frozen? ⟨g, i, none⟩ = false := frozen_of_row w g i cs t h
theorem Blk.new (w : World) (t : TypeId) (cs : Array Value) : Blk (w.alloc (.cells cs t)) w.heap.size t cs := heap_alloc_new w _
theorem Blk.below (h : Blk w g t cs) (hb : Below w.heap.size w w') : Blk w' g t cs := (hb.block g h.lt).trans h
theorem Blk.belowB {B : Nat} (h : Blk w g t cs) (hb : Below B w w') (hg : g < B) : Blk w' g t cs := (hb.block g hg).trans h
theorem Blk.grown (h : Blk w g t cs) {row : Option Nat} (hb : w.grownBy w' row) (hg : some g ≠ row) : Blk w' g t cs := (hb.block g h.lt hg).trans h
theorem Blk.drew (h : Blk w g t cs) : Blk w.drew g t cs := h
theorem Blk.alloc (h : Blk w g t cs) (o : Obj) : Blk (w.alloc o) g t cs := (Below.heap_alloc w o g h.lt).trans h
end

/-- The cells of a copy behind j rounds, of whatever kind. -/
def partK (k : IntKind) (xs : List Int) (j : Nat) : Array Value := ((xs.take j).map (Value.int k) ++ List.replicate (xs.length - j) (Value.int k 0)).toArray
def fullK (k : IntKind) (xs : List Int) : Array Value := (xs.map (Value.int k)).toArray
theorem partK_size (k : IntKind) (xs : List Int) (j : Nat) (hj : j ≤ xs.length) : (partK k xs j).size = xs.length := by
  simp only [partK, List.size_toArray, List.length_append, List.length_map, List.length_take, List.length_replicate]; omega
theorem partK_full (k : IntKind) (xs : List Int) : partK k xs xs.length = fullK k xs := by simp [partK, fullK]
theorem partK_zero (k : IntKind) (xs : List Int) : madeCells #[Value.int k 0] xs.length = partK k xs 0 := by
  apply Array.ext
  · rw [size_madeCells, partK_size _ _ _ (Nat.zero_le _)]
  · intro i h1 h2
    simp [madeCells, partK]
    rw [Nat.mod_one]
    rfl
theorem partK_here (k : IntKind) (xs : List Int) (j : Nat) (hj : j < xs.length) : (partK k xs j)[j]? = some (.int k 0) := by
  simp only [partK, List.getElem?_toArray]
  rw [List.getElem?_append_right (by simp; omega)]
  simp only [List.length_map, List.length_take]
  rw [List.getElem?_replicate, if_pos (by omega)]
theorem partK_step (k : IntKind) (xs : List Int) (j : Nat) (hj : j < xs.length) : (partK k xs j).setIfInBounds j (.int k (el xs j)) = partK k xs (j + 1) := by
  apply Array.ext_getElem?
  intro i
  rw [Array.getElem?_setIfInBounds, partK_size _ _ _ (by omega)]
  simp only [partK, List.getElem?_toArray]
  by_cases h : j = i
  · subst h
    rw [if_pos rfl, if_pos hj, List.getElem?_append_left (by simp; omega)]
    simp [el, List.getD, hj]
  · rw [if_neg h]
    by_cases h2 : i < j
    · rw [List.getElem?_append_left (by simp; omega), List.getElem?_append_left (by simp; omega)]
      simp only [List.getElem?_map, List.getElem?_take]
      rw [if_pos h2, if_pos (by omega)]
    · rw [List.getElem?_append_right (by simp; omega), List.getElem?_append_right (by simp; omega)]
      simp only [List.length_map, List.length_take, List.getElem?_replicate]
      by_cases h3 : i < xs.length
      · rw [if_pos (by omega), if_pos (by omega)]
      · rw [if_neg (by omega), if_neg (by omega)]
/-- A copy just made. -/
theorem fresh_copy (T : TypeId) (k : IntKind) (xs : List Int) (w : World) (hm : xs.length ≤ maxLen) :
    FreshNums T k xs w (.returned (.slice (some ⟨w.heap.size, 0, none⟩) xs.length xs.length)) (w.alloc (.cells (fullK k xs) T)) :=
  ⟨_, _, rfl, by have := World.ownsRow_lit (e := T) (size := 1) (base := w.heap.size) w (fullK k xs) xs.length (Nat.le_refl _) hm (by simp [fullK]); simpa [fullK] using this, (Below.refl _ _).alloc (Nat.le_refl _) _⟩

end Go.Proofs.Ytneolndbhklboaa
