/- Chapter 11: sessions that lie one behind the other in memory, each leading to the next. No program's text. -/
import Derived.Test.YtchbmnpajnlijaaCal1
namespace Go.Proofs.Ytchbmnpajnlijaa
open Go.RowKit
/-- Where a list of nodes begins; tl behind the last one. -/
def headV (tl : Value) : List Nat → Value
  | [] => tl
  | b :: _ => .pointer (some ⟨b, 0, none⟩)
def nodeC (s : Ss) (nx : Value) : Array Value := #[.int .i64 s.ky, .int .i64 s.fr, .int .i64 s.tt, .int .i64 s.ct, .int .i64 s.sm, nx]
/-- Nodes that hold sessions; the last one leads to tl. -/
def Seg (T : TypeId) (W : World) (tl : Value) : List Nat → List Ss → Prop
  | [], [] => True
  | b :: bs, s :: ss => Blk W b T (nodeC s (headV tl bs)) ∧ Seg T W tl bs ss
  | _, _ => False
def nel (bs : List Nat) (i : Nat) : Nat := bs.getD i 0
section
variable {T : TypeId} {W W' : World} {tl : Value}
theorem Seg.len : ∀ {bs : List Nat} {ss : List Ss}, Seg T W tl bs ss → bs.length = ss.length
  | [], [], _ => rfl
  | b :: bs, s :: ss, h => by simp [Seg.len h.2]
  | [], _ :: _, h => h.elim
  | _ :: _, [], h => h.elim
theorem Seg.kept : ∀ {bs : List Nat} {ss : List Ss}, Seg T W tl bs ss → (∀ b, b ∈ bs → W'.heap[b]? = W.heap[b]?) → Seg T W' tl bs ss
  | [], [], _, _ => trivial
  | b :: bs, s :: ss, h, k => ⟨(k b (by simp)).trans h.1, Seg.kept h.2 fun x hx => k x (by simp [hx])⟩
  | [], _ :: _, h, _ => h.elim
  | _ :: _, [], h, _ => h.elim
theorem Seg.lt : ∀ {bs : List Nat} {ss : List Ss}, Seg T W tl bs ss → ∀ b, b ∈ bs → b < W.heap.size
  | [], [], _, b, hb => by cases hb
  | x :: bs, s :: ss, h, b, hb => by
    rcases List.mem_cons.1 hb with rfl | hb
    · exact h.1.lt
    · exact Seg.lt h.2 b hb
  | [], _ :: _, h, _, _ => h.elim
  | _ :: _, [], h, _, _ => h.elim
theorem Seg.at_ : ∀ {bs : List Nat} {ss : List Ss}, Seg T W tl bs ss → ∀ i, i < ss.length → Blk W (nel bs i) T (nodeC (zel ss i) (headV tl (bs.drop (i + 1))))
  | [], [], _, i, hi => by simp at hi
  | b :: bs, s :: ss, h, 0, _ => h.1
  | b :: bs, s :: ss, h, i + 1, hi => Seg.at_ h.2 i (by simpa using hi)
  | [], _ :: _, h, _, _ => h.elim
  | _ :: _, [], h, _, _ => h.elim
theorem headV_drop {bs : List Nat} {i : Nat} (hi : i < bs.length) : headV tl (bs.drop i) = .pointer (some ⟨nel bs i, 0, none⟩) := by
  rw [List.drop_eq_getElem_cons hi]
  simp [headV, nel, List.getD, hi]
theorem headV_end {bs : List Nat} : headV tl (bs.drop bs.length) = tl := by simp [headV]
theorem nel_mem {bs : List Nat} {i : Nat} (hi : i < bs.length) : nel bs i ∈ bs := by
  rw [show nel bs i = bs[i] by simp [nel, List.getD, hi]]
  exact List.getElem_mem hi
theorem Seg.split : ∀ {bs : List Nat} {s1 s2 : List Ss}, Seg T W tl bs (s1 ++ s2) → Seg T W (headV tl (bs.drop s1.length)) (bs.take s1.length) s1 ∧ Seg T W tl (bs.drop s1.length) s2
  | bs, [], s2, h => ⟨trivial, h⟩
  | b :: bs, s :: s1, s2, h => by
    obtain ⟨k1, k2⟩ := Seg.split (s1 := s1) h.2
    refine ⟨⟨?_, k1⟩, k2⟩
    have hb := h.1
    have e : headV tl bs = headV (headV tl ((b :: bs).drop (s :: s1).length)) (bs.take s1.length) := by
      cases bs with
      | nil => simp [headV]
      | cons c bs =>
        cases s1 with
        | nil => simp [headV]
        | cons => simp [headV]
    rw [e] at hb
    exact hb
  | [], _ :: _, _, h => h.elim
theorem Seg.join : ∀ {b1 b2 : List Nat} {s1 s2 : List Ss}, Seg T W (headV tl b2) b1 s1 → Seg T W tl b2 s2 → Seg T W tl (b1 ++ b2) (s1 ++ s2)
  | [], b2, [], s2, _, h => h
  | b :: b1, b2, s :: s1, s2, h, k => by
    refine ⟨?_, Seg.join h.2 k⟩
    have hb := h.1
    have e : headV (headV tl b2) b1 = headV tl (b1 ++ b2) := by cases b1 <;> rfl
    rw [e] at hb
    exact hb
  | [], _, _ :: _, _, h, _ => h.elim
  | _ :: _, _, [], _, h, _ => h.elim
theorem put_next {b : Nat} {s : Ss} {nx v : Value} (h : Blk W b T (nodeC s nx)) : Blk (W.setCell ⟨b, 5, none⟩ v) b T (nodeC s v) := by
  simpa [nodeC] using h.put_ 5 v
/-- The last node led elsewhere. -/
theorem Seg.turn {v : Value} : ∀ {bs : List Nat} {ss : List Ss}, Seg T W tl bs ss → bs.Nodup → ∀ n, bs.length = n + 1 → Seg T (W.setCell ⟨nel bs n, 5, none⟩ v) v bs ss
  | [b], [s], h, _, 0, _ => ⟨put_next h.1, trivial⟩
  | b :: c :: bs, s :: d :: ss, h, hn, n + 1, hl => by
    have hc := List.nodup_cons.1 hn
    have e : nel (b :: c :: bs) (n + 1) = nel (c :: bs) n := rfl
    have hl2 : (c :: bs).length = n + 1 := by simpa using hl
    have hm : nel (c :: bs) n ∈ c :: bs := nel_mem (by omega)
    rw [e]
    refine ⟨?_, Seg.turn h.2 hc.2 n hl2⟩
    have hb : Blk W b T (nodeC s (headV tl (c :: bs))) := h.1
    exact hb.far_ (p := ⟨nel (c :: bs) n, 5, none⟩) (fun e2 => hc.1 (by rw [show b = nel (c :: bs) n from e2]; exact hm)) v
  | [], [], _, _, n, hl => by simp at hl
  | [], _ :: _, h, _, _, _ => h.elim
  | _ :: _, [], h, _, _, _ => h.elim
  | [_], _ :: _ :: _, h, _, _, _ => h.2.elim
  | _ :: _ :: _, [_], h, _, _, _ => h.2.elim
  | [_], [_], _, _, n + 1, hl => by simp at hl
  | _ :: _ :: _, _ :: _ :: _, _, _, 0, hl => by simp at hl
/-- Where the place before the i-th node is kept. -/
def placeA (sb : Nat) (bs : List Nat) : Nat → Addr
  | 0 => ⟨sb, 0, none⟩
  | i + 1 => ⟨nel bs i, 5, none⟩
theorem Seg.place {sb i : Nat} {bs : List Nat} {ss : List Ss} {U : TypeId} (h : Seg T W tl bs ss) (hs : Blk W sb U #[headV tl bs]) (hi : i ≤ ss.length) : W.cell? (placeA sb bs i) = some (headV tl (bs.drop i)) := by
  cases i with
  | zero => rw [List.drop_zero]; exact hs.cell 0
  | succ i => exact (h.at_ i (by omega)).cell 5
end
/-- Nothing but the blocks told, and new ones, has turned. -/
structure Only (bl : List Nat) (w w' : World) : Prop where
  os : w'.os = w.os
  tape : w'.tape = w.tape
  output : w'.output = w.output
  size : w.heap.size ≤ w'.heap.size
  block : ∀ j, j < w.heap.size → j ∉ bl → w'.heap[j]? = w.heap[j]?
section
variable {bl bm : List Nat} {w w1 w2 : World}
theorem Only.refl (w : World) : Only bl w w := ⟨rfl, rfl, rfl, Nat.le_refl _, fun _ _ _ => rfl⟩
theorem Only.of_below (h : Below w.heap.size w w1) : Only bl w w1 := ⟨h.os, h.tape, h.output, h.size, fun j hj _ => h.block j hj⟩
theorem Only.trans (h : Only bl w w1) (k : Only bl w1 w2) : Only bl w w2 := ⟨k.os.trans h.os, k.tape.trans h.tape, k.output.trans h.output, Nat.le_trans h.size k.size, fun j hj hn => (k.block j (Nat.lt_of_lt_of_le hj h.size) hn).trans (h.block j hj hn)⟩
/-- The later step may turn blocks that the first world did not have. -/
theorem Only.new (h : Only bl w w1) (k : Only bm w1 w2) (hb : ∀ b, b ∈ bm → b ∈ bl ∨ w.heap.size ≤ b) : Only bl w w2 :=
  ⟨k.os.trans h.os, k.tape.trans h.tape, k.output.trans h.output, Nat.le_trans h.size k.size, fun j hj hn => (k.block j (Nat.lt_of_lt_of_le hj h.size) (fun hm => by rcases hb j hm with e | e; exact hn e; omega)).trans (h.block j hj hn)⟩
theorem Only.mono (h : Only bl w w1) (hb : ∀ b, b ∈ bl → b ∈ bm) : Only bm w w1 := ⟨h.os, h.tape, h.output, h.size, fun j hj hn => h.block j hj (fun e => hn (hb j e))⟩
theorem Only.of_grown {g : Nat} (h : w.grownBy w1 (some g)) : Only [g] w w1 := ⟨h.os, h.tape, h.output, h.size, fun j hj hn => h.block j hj (fun e => hn (by injection e with e; simp [e]))⟩
theorem Only.set (w : World) (g i : Nat) (v : Value) : Only [g] w (w.setCell ⟨g, i, none⟩ v) := Only.of_grown (grown_setCell w g i v)
theorem Only.below (h : Only bl w w1) {B : Nat} (hB : B ≤ w.heap.size) (hb : ∀ b, b ∈ bl → B ≤ b) : Below B w w1 := ⟨h.os, h.tape, h.output, h.size, fun j hj => h.block j (by omega) (fun e => by have := hb j e; omega)⟩
theorem Only.blk {g : Nat} {t : TypeId} {cs : Array Value} (h : Only bl w w1) (k : Blk w g t cs) (hg : g ∉ bl) : Blk w1 g t cs := (h.block g k.lt hg).trans k
theorem Only.grown1 {g : Nat} (h : Only [g] w w1) : w.grownBy w1 (some g) := ⟨h.os, h.tape, h.output, h.size, fun j hj hn => h.block j hj (fun e => hn (by simp at e; rw [e]))⟩
end
end Go.Proofs.Ytchbmnpajnlijaa
