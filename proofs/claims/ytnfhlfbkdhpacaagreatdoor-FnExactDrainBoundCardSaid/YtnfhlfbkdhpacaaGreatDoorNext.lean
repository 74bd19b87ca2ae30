/- Contract of the reader's next. -/
import Derived.Test.YtnfhlfbkdhpacaaGreatDoorLeast
import Derived.Test.YtnfhlfbkdhpacaaGreatDoorPrefix
import Derived.Test.YtnfhlfbkdhpacaaGreatDoorJoint1
import Derived.ChangeSame
namespace Go.Proofs.YtnfhlfbkdhpacaaGreatDoor
open Go.RowKit

/-- The least body that bytes allow, as a value. -/
def bodyVal (xs : List Int) : Value := if numL 1 xs = 9 then .iface 251 (.agg #[.int .i64 (numL 2 (xs.drop 2)), .int .i64 (numL 3 (xs.drop 4)), .int .i64 (numL 3 (xs.drop 7) - 1000000)]) else if numL 1 xs = 4 then .iface 253 (.agg #[.int .i64 (numL 3 (xs.drop 2))]) else if numL 1 xs = 1 then .iface 254 (.agg #[]) else .nilIface
theorem least_any (r : Nat) (a : Option Addr) (n c : Nat) (xs : List Int) (F : Value) (w : World) (hr : Rd w r a n c xs F) (hx : IsB xs) :
    Calls Tryz.prog 157 #[.pointer (some ⟨r, 0, none⟩)] w (LeastPost r (bodyVal xs) F w) := by
  unfold bodyVal
  by_cases h9 : numL 1 xs = 9
  · rw [if_pos h9]; exact least_event r a n c xs F w hr hx h9
  · rw [if_neg h9]
    by_cases h4 : numL 1 xs = 4
    · rw [if_pos h4]; exact least_mark r a n c xs F w hr hx h4
    · rw [if_neg h4]
      by_cases h1 : numL 1 xs = 1
      · rw [if_pos h1]; exact least_bye r a n c xs F w hr hx h1
      · rw [if_neg h1]; exact least_none r a n c xs F w hr hx (by simp [h9]) (by simp [h4]) (by simp [h1])
theorem frameOf_val (xs : List Int) (w : World) :
    Calls Tryz.prog 156 #[bodyVal xs] w fun e w' => e = .returned (.agg #[.int .i64 ((f0K xs)), .int .i64 ((f0Y xs)), .int .i64 ((f0T xs)), .int .i64 ((f0V xs))]) ∧ Below w.heap.size w w' := by
  unfold bodyVal f0K f0Y f0T f0V
  by_cases h9 : numL 1 xs = 9
  · simp only [if_pos h9]; exact frameOf_event _ _ _ w
  · simp only [if_neg h9]
    by_cases h4 : numL 1 xs = 4
    · simp only [if_pos h4]; exact frameOf_mark _ w
    · simp only [if_neg h4]
      by_cases h1 : numL 1 xs = 1
      · simp only [if_pos h1]; exact frameOf_bye w
      · simp only [if_neg h1]; exact frameOf_none w

/-- The program's two faults, as start-up laid them, below block B. -/
structure Flt (w : World) (B : Nat) (aB aS : Addr) : Prop where
  bent : w.cell? ⟨2, 0, none⟩ = some (.iface 363 (.pointer (some aB)))
  short : w.cell? ⟨1, 0, none⟩ = some (.iface 363 (.pointer (some aS)))
  ne : aB ≠ aS
  rows : (∃ cb tb, w.heap[aB.block]? = some (.cells cb tb (0, 0))) ∧ ∃ cs ts, w.heap[aS.block]? = some (.cells cs ts (0, 0))
  low : (2 < B ∧ 1 < B) ∧ aB.block < B ∧ aS.block < B
theorem Flt.below {w w' : World} {B : Nat} {aB aS : Addr} (h : Flt w B aB aS) (hb : Below B w w') : Flt w' B aB aS := by
  obtain ⟨h1, h2, h3, ⟨⟨cb, tb, h4⟩, ⟨cs, ts, h5⟩⟩, h6, h7, h8⟩ := h
  exact ⟨(hb.cell (p := ⟨2, 0, none⟩) (show 2 < B by omega)).trans h1, (hb.cell (p := ⟨1, 0, none⟩) (show 1 < B by omega)).trans h2, h3, ⟨⟨cb, tb, (hb.block _ h7).trans h4⟩, ⟨cs, ts, (hb.block _ h8).trans h5⟩⟩, h6, h7, h8⟩
theorem only_set {a w : World} {g : Nat} (h : a.grownBy w (some g)) {p : Addr} (hp : p.block = g ∨ a.heap.size ≤ p.block) (u : Value) : a.grownBy (w.setCell p u) (some g) :=
  ⟨h.os, h.tape, h.output, by simpa [World.setCell] using h.size, fun i hi hne => (Below.heap_setCell w p u i (by
    rintro rfl
    rcases hp with hp | hp
    · exact hne (by rw [hp])
    · omega)).trans (h.block i hi hne)⟩
theorem only_below {a w w' : World} {row : Option Nat} (h : a.grownBy w row) (hb : Below w.heap.size w w') : a.grownBy w' row :=
  ⟨hb.os.trans h.os, hb.tape.trans h.tape, hb.output.trans h.output, Nat.le_trans h.size hb.size, fun i hi hne => (hb.block i (Nat.lt_of_lt_of_le hi h.size)).trans (h.block i hi hne)⟩
theorem Blk.farN_ {w : World} {g : Nat} {t : TypeId} {cs : Array Value} (h : Blk w g t cs) {p : Addr} (hp : g ≠ p.block) (u : Value) : Blk (w.setCell p u) g t cs := (Below.heap_setCell w p u g hp).trans h

section
variable {w a0 : World} {r k : Nat} {s F u v0 v1 v2 v3 : Value} {T : TypeId}
theorem five_blk (h : Blk w r T #[s, F]) (hk : r ≠ k) : Blk (((((w.setCell ⟨r, 0, none⟩ u).setCell ⟨k, 0, none⟩ v0).setCell ⟨k, 1, none⟩ v1).setCell ⟨k, 2, none⟩ v2).setCell ⟨k, 3, none⟩ v3) r T #[u, F] :=
  ((((h.set_ 0 u).farN_ hk _).farN_ hk _).farN_ hk _).farN_ hk _
theorem five_below (hk : r ≤ k) : Below r w (((((w.setCell ⟨r, 0, none⟩ u).setCell ⟨k, 0, none⟩ v0).setCell ⟨k, 1, none⟩ v1).setCell ⟨k, 2, none⟩ v2).setCell ⟨k, 3, none⟩ v3) :=
  (((((Below.refl r w).setCell (p := ⟨r, 0, none⟩) (Nat.le_refl _) u).setCell (p := ⟨k, 0, none⟩) hk v0).setCell (p := ⟨k, 1, none⟩) hk v1).setCell (p := ⟨k, 2, none⟩) hk v2).setCell (p := ⟨k, 3, none⟩) hk v3
theorem five_grown (h : a0.grownBy w (some r)) (hk : a0.heap.size ≤ k) : a0.grownBy (((((w.setCell ⟨r, 0, none⟩ u).setCell ⟨k, 0, none⟩ v0).setCell ⟨k, 1, none⟩ v1).setCell ⟨k, 2, none⟩ v2).setCell ⟨k, 3, none⟩ v3) (some r) :=
  only_set (only_set (only_set (only_set (only_set h (p := ⟨r, 0, none⟩) (.inl rfl) u) (p := ⟨k, 0, none⟩) (.inr hk) v0) (p := ⟨k, 1, none⟩) (.inr hk) v1) (p := ⟨k, 2, none⟩) (.inr hk) v2) (p := ⟨k, 3, none⟩) (.inr hk) v3
end

theorem Nums.none_any {w : World} {hi : Nat} {xs : List Int} (a : Option Addr) (h : xs = []) : Nums .u8 w hi a 0 xs := by
  subst h; exact ⟨Nat.le_refl _, by omega, .inl rfl⟩
theorem Nums.shrink {w : World} {hi c : Nat} {a : Option Addr} {xs : List Int} (h : Nums .u8 w hi a c xs) : Nums .u8 w hi a xs.length xs := by
  have := h.take xs.length xs.length (Nat.le_refl _) (Nat.le_refl _) h.cap
  rwa [List.take_length] at this
theorem Nums.drop_ne {w : World} {hi c m : Nat} {a : Option Addr} {xs : List Int} (h : Nums .u8 w hi a c xs) (hm : m ≤ xs.length) (hne : ¬ c = m) : Nums .u8 w hi (Option.map (fun x => x.add m) a) (c - m) (xs.drop m) := by
  have := h.drop m hm
  rw [if_neg hne] at this
  simpa only [Nat.mul_one] using this

theorem Nums.own_keep {k : IntKind} {w w' : World} {lo : Nat} {T : TypeId} {a : Option Addr} {n c : Nat} {xs : List Int} (h : w.ownsRow lo T 1 (.slice a n c) n (xs.map (Value.int k))) (hh : ∀ i, lo ≤ i → w'.heap[i]? = w.heap[i]?) : Nums k w' w.heap.size a c xs := by
  have hN := (Nums.of_own h).2
  rcases h.2 with ⟨hv, h0⟩ | ⟨g, cap, cur, hv, hlo, hr⟩
  · have hn := (Nums.of_own h).1
    simp only [Value.slice.injEq] at hv
    obtain ⟨rfl, hl, rfl⟩ := hv
    have : xs = [] := List.length_eq_zero_iff.1 (by omega)
    subst this
    exact Nums.none_ _ _ _
  · simp only [Value.slice.injEq, true_and] at hv
    obtain ⟨ha, hc⟩ := hv
    refine ⟨hN.cap, hN.big, hN.lies.imp id fun ⟨b, off, ha2, hlt, hcell⟩ => ⟨b, off, ha2, hlt, fun i hi => ?_⟩⟩
    have e := ha.symm.trans ha2
    simp at e
    have hb : lo ≤ b := by omega
    exact (World.cell?_of_block (a := ⟨b, off + i, none⟩) (hh b hb)).trans (hcell i hi)
theorem set2_keep {w : World} {r lo : Nat} (hr : r < lo) (u v : Value) (i : Nat) (hi : lo ≤ i) : ((w.setCell ⟨r, 0, none⟩ u).setCell ⟨r, 1, none⟩ v).heap[i]? = w.heap[i]? :=
  (Below.heap_setCell _ ⟨r, 1, none⟩ _ _ (fun e => by simp at e; omega)).trans (Below.heap_setCell _ ⟨r, 0, none⟩ _ _ (fun e => by simp at e; omega))
theorem set2_below {w : World} {r : Nat} {u v : Value} : Below r w ((w.setCell ⟨r, 0, none⟩ u).setCell ⟨r, 1, none⟩ v) := ((Below.refl r w).setCell (p := ⟨r, 0, none⟩) (Nat.le_refl _) u).setCell (p := ⟨r, 1, none⟩) (Nat.le_refl _) v
theorem rd_fault {w : World} {r : Nat} {s F u f : Value} (hb : Blk w r 173 #[s, F]) : Blk ((w.setCell ⟨r, 0, none⟩ u).setCell ⟨r, 1, none⟩ f) r 173 #[u, f] := (hb.set_ 0 u).set_ 1 f

/-- What next answers: the frame that stands in front, or a fault. -/
def NextPost (r : Nat) (xs : List Int) (aB aS : Addr) (w : World) (e : Ending) (w' : World) : Prop :=
  w.grownBy w' (some r) ∧ ∃ a n c,
    (tkHere xs = true ∧ e = .returned (.agg #[.int .i64 ((f0K xs)), .int .i64 ((f0Y xs)), .int .i64 ((f0T xs)), .int .i64 ((f0V xs))]) ∧ Rd w' r a n c (xs.drop (put0 xs).length) .nilIface) ∨
    (tkHere xs = false ∧ tkMore xs = true ∧ e = .returned (.agg #[.int .i64 0, .int .i64 0, .int .i64 0, .int .i64 0]) ∧ Rd w' r a n c xs (.iface 363 (.pointer (some aS)))) ∨
    (tkHere xs = false ∧ tkMore xs = false ∧ e = .returned (.agg #[.int .i64 0, .int .i64 0, .int .i64 0, .int .i64 0]) ∧ Rd w' r a n c xs (.iface 363 (.pointer (some aB))))

section
variable {w0 w : World} {r k : Nat} {cs : Array Value} {v0 v1 v2 v3 : Value} {T : TypeId}
theorem four_blk (h : Blk w r T cs) (hk : r ≠ k) : Blk ((((w.setCell ⟨k, 0, none⟩ v0).setCell ⟨k, 1, none⟩ v1).setCell ⟨k, 2, none⟩ v2).setCell ⟨k, 3, none⟩ v3) r T cs :=
  (((h.farN_ hk _).farN_ hk _).farN_ hk _).farN_ hk _
theorem four_below (h : Below r w0 w) (hk : r ≤ k) : Below r w0 ((((w.setCell ⟨k, 0, none⟩ v0).setCell ⟨k, 1, none⟩ v1).setCell ⟨k, 2, none⟩ v2).setCell ⟨k, 3, none⟩ v3) :=
  (((h.setCell (p := ⟨k, 0, none⟩) hk v0).setCell (p := ⟨k, 1, none⟩) hk v1).setCell (p := ⟨k, 2, none⟩) hk v2).setCell (p := ⟨k, 3, none⟩) hk v3
theorem four_grown (h : w0.grownBy w (some r)) (hk : w0.heap.size ≤ k) : w0.grownBy ((((w.setCell ⟨k, 0, none⟩ v0).setCell ⟨k, 1, none⟩ v1).setCell ⟨k, 2, none⟩ v2).setCell ⟨k, 3, none⟩ v3) (some r) :=
  only_set (only_set (only_set (only_set h (p := ⟨k, 0, none⟩) (.inr hk) v0) (p := ⟨k, 1, none⟩) (.inr hk) v1) (p := ⟨k, 2, none⟩) (.inr hk) v2) (p := ⟨k, 3, none⟩) (.inr hk) v3
end
theorem next_bent {r n c : Nat} {a : Option Addr} {xs : List Int} {aB aS : Addr} {w w' : World} (hh : tkHere xs = false) (hm : tkMore xs = false) (hg : w.grownBy w' (some r)) (hb : Blk w' r 173 #[.slice a n c, .iface 363 (.pointer (some aB))]) (hn : Nums .u8 w' r a c xs) (hl : n = xs.length) : NextPost r xs aB aS w (.returned (.agg #[.int .i64 0, .int .i64 0, .int .i64 0, .int .i64 0])) w' :=
  ⟨hg, a, n, c, .inr (.inr ⟨hh, hm, rfl, hb, hn, hl⟩)⟩
theorem next_short {r n c : Nat} {a : Option Addr} {xs : List Int} {aB aS : Addr} {w w' : World} (hh : tkHere xs = false) (hm : tkMore xs = true) (hg : w.grownBy w' (some r)) (hb : Blk w' r 173 #[.slice a n c, .iface 363 (.pointer (some aS))]) (hn : Nums .u8 w' r a c xs) (hl : n = xs.length) : NextPost r xs aB aS w (.returned (.agg #[.int .i64 0, .int .i64 0, .int .i64 0, .int .i64 0])) w' :=
  ⟨hg, a, n, c, .inr (.inl ⟨hh, hm, rfl, hb, hn, hl⟩)⟩

set_option maxRecDepth 100000 in
set_option maxHeartbeats 4000000 in
theorem next_here (r : Nat) (a : Option Addr) (n c : Nat) (xs : List Int) (aB aS : Addr) (w : World) (hr : Rd w r a n c xs .nilIface) (hx : IsB xs) (hlen : 0 < (put0 xs).length) (hp : (put0 xs).isPrefixOf xs = true) :
    Calls Tryz.prog 107 #[.pointer (some ⟨r, 0, none⟩)] w (NextPost r xs aB aS w) := by
  have HX := Lib.hid hx
  have HH : Hid (tkHere xs = true) := by unfold tkHere; rw [hp, decide_eq_true hlen]; rfl
  have HPB := Lib.hid (putL_isB (f0K xs) (f0Y xs) (f0T xs) (f0V xs))
  have hr0 := hr.blk.lt
  have HR0 := Lib.hid hr
  have hcap := hr.nums.cap
  have hbig := hr.nums.big
  have hn := hr.len
  subst hn
  have q0 := hr.blk.cell
  have al := (Below.refl w.heap.size w).alloc (Nat.le_refl _) (.cells #[.int .i64 0, .int .i64 0, .int .i64 0, .int .i64 0] 97)
  have HR := Lib.hid (show Rd (w.alloc (.cells #[.int .i64 0, .int .i64 0, .int .i64 0, .int .i64 0] 97)) r a xs.length c xs .nilIface from ⟨hr.blk.alloc _, hr.nums.below (al.mono (by omega)), rfl⟩)
  have G0 := Lib.hid (grown_alloc w (.cells #[.int .i64 0, .int .i64 0, .int .i64 0, .int .i64 0] 97) (some r))
  have K0 := Lib.hid (Blk.new w 97 #[.int .i64 0, .int .i64 0, .int .i64 0, .int .i64 0])
  clear hr hx al
  go_enter Tryz.func107, Tryz.ntmps107
  go_wp2_with fail
  refine (least_any r a _ c xs _ _ HR.out HX.out).mono ?_
  rintro e w1 ⟨a1, n1, c1, ys, rfl, hr1, hg1⟩
  have G1 := Lib.hid (grown_trans G0.out hg1)
  have R1 := Lib.hid hr1.blk
  have K1 := Lib.hid (K0.out.grown hg1 (by simp; omega))
  clear hr1 hg1 q0
  go_wp2_with fail
  refine (frameOf_val xs _).mono ?_
  rintro e w2 ⟨rfl, hb⟩
  have G2 := Lib.hid (only_below G1.out hb)
  have R2 := Lib.hid ((R1.out.below hb).alloc (.cells #[.int .i64 (f0K xs), .int .i64 (f0Y xs), .int .i64 (f0T xs), .int .i64 (f0V xs)] 97))
  have K2 := Lib.hid ((K1.out.below hb).alloc (.cells #[.int .i64 (f0K xs), .int .i64 (f0Y xs), .int .i64 (f0T xs), .int .i64 (f0V xs)] 97))
  have F2 := Lib.hid (Blk.new w2 97 #[.int .i64 (f0K xs), .int .i64 (f0Y xs), .int .i64 (f0T xs), .int .i64 (f0V xs)])
  have G2a := Lib.hid (grown_trans G2.out (grown_alloc w2 (.cells #[.int .i64 (f0K xs), .int .i64 (f0Y xs), .int .i64 (f0T xs), .int .i64 (f0V xs)] 97) (some r)))
  have s2 := G2.out.size
  clear hb
  go_wp2_with fail
  refine (implPut_any (f0K xs) (f0Y xs) (f0T xs) (f0V xs) _).mono ?_
  rintro e w3 ⟨a3, c3, rfl, ho, hb⟩
  have G3 := Lib.hid (only_below G2a.out hb)
  have R3 := Lib.hid (R2.out.below hb)
  have K3 := Lib.hid (K2.out.below hb)
  have F3 := Lib.hid (F2.out.below hb)
  have N3 := Lib.hid (Nums.of_own ho).2
  have O3 := Lib.hid ho
  have X3 := Lib.hid (HR0.out.nums.below (below_grown_own G3.out (Nat.le_refl _) (by omega)))
  have qr := R3.out.cell
  have fr := R3.out.frozen
  have qk := K3.out.cell
  have fk := K3.out.frozen
  have qf := F3.out.cell
  clear ho hb
  have HEQ : Hid (putL (f0K xs) (f0Y xs) (f0T xs) (f0V xs) = put0 xs) := rfl
  rw [HEQ.out] at N3 HPB ⊢
  have hle : (put0 xs).length ≤ xs.length := (List.isPrefixOf_iff_prefix.1 hp).length_le
  have HPR := Lib.hid hp
  clear hp
  go_wp2_with fail
  refine (hasPrefix_any a a3 _ _ c c3 xs (put0 xs) _ _ _ X3.out N3.out rfl rfl HX.out HPB.out).mono ?_
  rintro e w' ⟨rfl, rfl⟩
  rw [HPR.out]
  go_wp2
  · rename_i h
    have HP := Lib.hid (show NextPost r xs aB aS w (.returned (.agg #[.int .i64 ((f0K xs)), .int .i64 ((f0Y xs)), .int .i64 ((f0T xs)), .int .i64 ((f0V xs))])) (((((w3.setCell ⟨r, 0, none⟩ (.slice a 0 0)).setCell ⟨w.heap.size, 0, none⟩ (.int .i64 (f0K xs))).setCell ⟨w.heap.size, 1, none⟩ (.int .i64 (f0Y xs))).setCell ⟨w.heap.size, 2, none⟩ (.int .i64 (f0T xs))).setCell ⟨w.heap.size, 3, none⟩ (.int .i64 (f0V xs))) from
      ⟨five_grown G3.out (Nat.le_refl _), a, 0, 0, .inl ⟨HH.out, rfl, five_blk R3.out (by omega), (Nums.none_any a (by rw [List.drop_eq_nil_iff]; omega)), by rw [List.length_drop]; omega⟩⟩)
    exact bodyPost_ret (v := (.agg #[.int .i64 ((f0K xs)), .int .i64 ((f0Y xs)), .int .i64 ((f0T xs)), .int .i64 ((f0V xs))])) (by simp [results, Tryz.results107, go_sem, qk]) rfl HP.out
  · rename_i h
    have HP := Lib.hid (show NextPost r xs aB aS w (.returned (.agg #[.int .i64 ((f0K xs)), .int .i64 ((f0Y xs)), .int .i64 ((f0T xs)), .int .i64 ((f0V xs))])) (((((w3.setCell ⟨r, 0, none⟩ (.slice (Option.map (fun x => x.add (put0 xs).length) a) (xs.length - (put0 xs).length) (xs.length - (put0 xs).length))).setCell ⟨w.heap.size, 0, none⟩ (.int .i64 (f0K xs))).setCell ⟨w.heap.size, 1, none⟩ (.int .i64 (f0Y xs))).setCell ⟨w.heap.size, 2, none⟩ (.int .i64 (f0T xs))).setCell ⟨w.heap.size, 3, none⟩ (.int .i64 (f0V xs))) from
      ⟨five_grown G3.out (Nat.le_refl _), _, _, _, .inl ⟨HH.out, rfl, five_blk R3.out (by omega), Nums.drop_ne (X3.out.shrink) hle h |>.below (five_below (by omega)), by rw [List.length_drop]⟩⟩)
    exact bodyPost_ret (v := (.agg #[.int .i64 ((f0K xs)), .int .i64 ((f0Y xs)), .int .i64 ((f0T xs)), .int .i64 ((f0V xs))])) (by simp [results, Tryz.results107, go_sem, qk]) rfl HP.out
set_option maxRecDepth 100000 in
set_option maxHeartbeats 4000000 in
theorem next_not (r : Nat) (a : Option Addr) (n c : Nat) (xs : List Int) (m : Bool) (aB aS : Addr) (w : World) (hr : Rd w r a n c xs .nilIface) (hx : IsB xs) (hf : Flt w r aB aS) (hlen : 0 < (put0 xs).length) (hp : (put0 xs).isPrefixOf xs = false) (hm : tkMore xs = m) :
    Calls Tryz.prog 107 #[.pointer (some ⟨r, 0, none⟩)] w (NextPost r xs aB aS w) := by
  have HX := Lib.hid hx
  have HH : Hid (tkHere xs = false) := by unfold tkHere; rw [hp, Bool.and_false]; exact Lib.hid rfl
  have HM := Lib.hid hm
  have HPB := Lib.hid (putL_isB (f0K xs) (f0Y xs) (f0T xs) (f0V xs))
  have hr0 := hr.blk.lt
  have HR0 := Lib.hid hr
  have hcap := hr.nums.cap
  have hbig := hr.nums.big
  have hn := hr.len
  subst hn
  have q0 := hr.blk.cell
  have al := (Below.refl w.heap.size w).alloc (Nat.le_refl _) (.cells #[.int .i64 0, .int .i64 0, .int .i64 0, .int .i64 0] 97)
  have HR := Lib.hid (show Rd (w.alloc (.cells #[.int .i64 0, .int .i64 0, .int .i64 0, .int .i64 0] 97)) r a xs.length c xs .nilIface from ⟨hr.blk.alloc _, hr.nums.below (al.mono (by omega)), rfl⟩)
  have G0 := Lib.hid (grown_alloc w (.cells #[.int .i64 0, .int .i64 0, .int .i64 0, .int .i64 0] 97) (some r))
  have K0 := Lib.hid (Blk.new w 97 #[.int .i64 0, .int .i64 0, .int .i64 0, .int .i64 0])
  clear hr hx al
  go_enter Tryz.func107, Tryz.ntmps107
  go_wp2_with fail
  refine (least_any r a _ c xs _ _ HR.out HX.out).mono ?_
  rintro e w1 ⟨a1, n1, c1, ys, rfl, hr1, hg1⟩
  have G1 := Lib.hid (grown_trans G0.out hg1)
  have R1 := Lib.hid hr1.blk
  have K1 := Lib.hid (K0.out.grown hg1 (by simp; omega))
  clear hr1 hg1 q0
  go_wp2_with fail
  refine (frameOf_val xs _).mono ?_
  rintro e w2 ⟨rfl, hb⟩
  have G2 := Lib.hid (only_below G1.out hb)
  have R2 := Lib.hid ((R1.out.below hb).alloc (.cells #[.int .i64 (f0K xs), .int .i64 (f0Y xs), .int .i64 (f0T xs), .int .i64 (f0V xs)] 97))
  have K2 := Lib.hid ((K1.out.below hb).alloc (.cells #[.int .i64 (f0K xs), .int .i64 (f0Y xs), .int .i64 (f0T xs), .int .i64 (f0V xs)] 97))
  have F2 := Lib.hid (Blk.new w2 97 #[.int .i64 (f0K xs), .int .i64 (f0Y xs), .int .i64 (f0T xs), .int .i64 (f0V xs)])
  have G2a := Lib.hid (grown_trans G2.out (grown_alloc w2 (.cells #[.int .i64 (f0K xs), .int .i64 (f0Y xs), .int .i64 (f0T xs), .int .i64 (f0V xs)] 97) (some r)))
  have s2 := G2.out.size
  clear hb
  go_wp2_with fail
  refine (implPut_any (f0K xs) (f0Y xs) (f0T xs) (f0V xs) _).mono ?_
  rintro e w3 ⟨a3, c3, rfl, ho, hb⟩
  have G3 := Lib.hid (only_below G2a.out hb)
  have R3 := Lib.hid (R2.out.below hb)
  have K3 := Lib.hid (K2.out.below hb)
  have F3 := Lib.hid (F2.out.below hb)
  have N3 := Lib.hid (Nums.of_own ho).2
  have O3 := Lib.hid ho
  have X3 := Lib.hid (HR0.out.nums.below (below_grown_own G3.out (Nat.le_refl _) (by omega)))
  have qr := R3.out.cell
  have fr := R3.out.frozen
  have qk := K3.out.cell
  have fk := K3.out.frozen
  have qf := F3.out.cell
  clear ho hb
  have HEQ : Hid (putL (f0K xs) (f0Y xs) (f0T xs) (f0V xs) = put0 xs) := rfl
  rw [HEQ.out] at N3 HPB ⊢
  have HPR := Lib.hid hp
  clear hp
  have FT := Lib.hid (hf.below (below_grown_own G3.out (Nat.le_refl _) (by omega)))
  obtain ⟨fl, fl2⟩ := FT.out.low.1
  have r0 : ¬ r = 0 := by omega
  have r1 : ¬ r = 1 := by omega
  have gB := FT.out.bent
  have gS := FT.out.short
  clear hf
  go_wp2_with fail
  refine (hasPrefix_any a a3 _ _ c c3 xs (put0 xs) _ _ _ X3.out N3.out rfl rfl HX.out HPB.out).mono ?_
  rintro e w' ⟨rfl, rfl⟩
  rw [HPR.out]
  go_wp2_with fail
  refine (hasPrefix_any a3 a _ _ c3 c (put0 xs) xs _ _ _ (Nums.own_keep O3.out (set2_keep (by simp; omega) _ _)) (X3.out.below set2_below) rfl rfl HPB.out HX.out).mono ?_
  rintro e w' ⟨rfl, rfl⟩
  have HM2 : xs.isPrefixOf (put0 xs) = m := HM.out
  rw [HM2]
  clear HM2
  cases m
  · go_wp2
    exact bodyPost_ret (v := (.agg #[.int .i64 0, .int .i64 0, .int .i64 0, .int .i64 0])) (by simp [results, Tryz.results107, go_sem, qk]) rfl (next_bent HH.out HM.out (four_grown (only_set (only_set G3.out (p := ⟨r, 0, none⟩) (.inl rfl) _) (p := ⟨r, 1, none⟩) (.inl rfl) _) (Nat.le_refl _)) (four_blk (rd_fault R3.out) (by omega)) (X3.out.below (four_below set2_below (by omega))) rfl)
  · go_wp2
    exact bodyPost_ret (v := (.agg #[.int .i64 0, .int .i64 0, .int .i64 0, .int .i64 0])) (by simp [results, Tryz.results107, go_sem, qk]) rfl (next_short HH.out HM.out (four_grown (only_set (only_set (only_set G3.out (p := ⟨r, 0, none⟩) (.inl rfl) _) (p := ⟨r, 1, none⟩) (.inl rfl) _) (p := ⟨r, 1, none⟩) (.inl rfl) _) (Nat.le_refl _)) (four_blk ((rd_fault R3.out).set_ 1 _) (by omega)) (X3.out.below (four_below (set2_below.setCell (p := ⟨r, 1, none⟩) (Nat.le_refl _) _) (by omega))) rfl)
set_option maxRecDepth 100000 in
set_option maxHeartbeats 4000000 in
theorem next_no (r : Nat) (a : Option Addr) (n c : Nat) (xs : List Int) (m : Bool) (aB aS : Addr) (w : World) (hr : Rd w r a n c xs .nilIface) (hx : IsB xs) (hf : Flt w r aB aS) (hlen : put0 xs = []) (hm : tkMore xs = m) :
    Calls Tryz.prog 107 #[.pointer (some ⟨r, 0, none⟩)] w (NextPost r xs aB aS w) := by
  have HX := Lib.hid hx
  have HH : Hid (tkHere xs = false) := by unfold tkHere; rw [hlen]; rfl
  have HM := Lib.hid hm
  have HPB := Lib.hid (putL_isB (f0K xs) (f0Y xs) (f0T xs) (f0V xs))
  have hr0 := hr.blk.lt
  have HR0 := Lib.hid hr
  have hcap := hr.nums.cap
  have hbig := hr.nums.big
  have hn := hr.len
  subst hn
  have q0 := hr.blk.cell
  have al := (Below.refl w.heap.size w).alloc (Nat.le_refl _) (.cells #[.int .i64 0, .int .i64 0, .int .i64 0, .int .i64 0] 97)
  have HR := Lib.hid (show Rd (w.alloc (.cells #[.int .i64 0, .int .i64 0, .int .i64 0, .int .i64 0] 97)) r a xs.length c xs .nilIface from ⟨hr.blk.alloc _, hr.nums.below (al.mono (by omega)), rfl⟩)
  have G0 := Lib.hid (grown_alloc w (.cells #[.int .i64 0, .int .i64 0, .int .i64 0, .int .i64 0] 97) (some r))
  have K0 := Lib.hid (Blk.new w 97 #[.int .i64 0, .int .i64 0, .int .i64 0, .int .i64 0])
  clear hr hx al
  go_enter Tryz.func107, Tryz.ntmps107
  go_wp2_with fail
  refine (least_any r a _ c xs _ _ HR.out HX.out).mono ?_
  rintro e w1 ⟨a1, n1, c1, ys, rfl, hr1, hg1⟩
  have G1 := Lib.hid (grown_trans G0.out hg1)
  have R1 := Lib.hid hr1.blk
  have K1 := Lib.hid (K0.out.grown hg1 (by simp; omega))
  clear hr1 hg1 q0
  go_wp2_with fail
  refine (frameOf_val xs _).mono ?_
  rintro e w2 ⟨rfl, hb⟩
  have G2 := Lib.hid (only_below G1.out hb)
  have R2 := Lib.hid ((R1.out.below hb).alloc (.cells #[.int .i64 (f0K xs), .int .i64 (f0Y xs), .int .i64 (f0T xs), .int .i64 (f0V xs)] 97))
  have K2 := Lib.hid ((K1.out.below hb).alloc (.cells #[.int .i64 (f0K xs), .int .i64 (f0Y xs), .int .i64 (f0T xs), .int .i64 (f0V xs)] 97))
  have F2 := Lib.hid (Blk.new w2 97 #[.int .i64 (f0K xs), .int .i64 (f0Y xs), .int .i64 (f0T xs), .int .i64 (f0V xs)])
  have G2a := Lib.hid (grown_trans G2.out (grown_alloc w2 (.cells #[.int .i64 (f0K xs), .int .i64 (f0Y xs), .int .i64 (f0T xs), .int .i64 (f0V xs)] 97) (some r)))
  have s2 := G2.out.size
  clear hb
  go_wp2_with fail
  refine (implPut_any (f0K xs) (f0Y xs) (f0T xs) (f0V xs) _).mono ?_
  rintro e w3 ⟨a3, c3, rfl, ho, hb⟩
  have G3 := Lib.hid (only_below G2a.out hb)
  have R3 := Lib.hid (R2.out.below hb)
  have K3 := Lib.hid (K2.out.below hb)
  have F3 := Lib.hid (F2.out.below hb)
  have N3 := Lib.hid (Nums.of_own ho).2
  have O3 := Lib.hid ho
  have X3 := Lib.hid (HR0.out.nums.below (below_grown_own G3.out (Nat.le_refl _) (by omega)))
  have qr := R3.out.cell
  have fr := R3.out.frozen
  have qk := K3.out.cell
  have fk := K3.out.frozen
  have qf := F3.out.cell
  clear ho hb
  have HEQ : Hid (putL (f0K xs) (f0Y xs) (f0T xs) (f0V xs) = put0 xs) := rfl
  rw [HEQ.out] at N3 HPB ⊢
  have HL := Lib.hid hlen
  have FT := Lib.hid (hf.below (below_grown_own G3.out (Nat.le_refl _) (by omega)))
  obtain ⟨fl, fl2⟩ := FT.out.low.1
  have r0 : ¬ r = 0 := by omega
  have r1 : ¬ r = 1 := by omega
  have gB := FT.out.bent
  have gS := FT.out.short
  clear hf
  rw [show (put0 xs).length = 0 by rw [HL.out]; rfl]
  go_wp2_with fail
  refine (hasPrefix_any a3 a _ _ c3 c (put0 xs) xs _ _ _ (Nums.own_keep O3.out (set2_keep (by simp; omega) _ _)) (X3.out.below set2_below) (by rw [HL.out]; rfl) rfl HPB.out HX.out).mono ?_
  rintro e w' ⟨rfl, rfl⟩
  have HM2 : xs.isPrefixOf (put0 xs) = m := HM.out
  rw [HM2]
  clear HM2
  cases m
  · go_wp2
    exact bodyPost_ret (v := (.agg #[.int .i64 0, .int .i64 0, .int .i64 0, .int .i64 0])) (by simp [results, Tryz.results107, go_sem, qk]) rfl (next_bent HH.out HM.out (four_grown (only_set (only_set G3.out (p := ⟨r, 0, none⟩) (.inl rfl) _) (p := ⟨r, 1, none⟩) (.inl rfl) _) (Nat.le_refl _)) (four_blk (rd_fault R3.out) (by omega)) (X3.out.below (four_below set2_below (by omega))) rfl)
  · go_wp2
    exact bodyPost_ret (v := (.agg #[.int .i64 0, .int .i64 0, .int .i64 0, .int .i64 0])) (by simp [results, Tryz.results107, go_sem, qk]) rfl (next_short HH.out HM.out (four_grown (only_set (only_set (only_set G3.out (p := ⟨r, 0, none⟩) (.inl rfl) _) (p := ⟨r, 1, none⟩) (.inl rfl) _) (p := ⟨r, 1, none⟩) (.inl rfl) _) (Nat.le_refl _)) (four_blk ((rd_fault R3.out).set_ 1 _) (by omega)) (X3.out.below (four_below (set2_below.setCell (p := ⟨r, 1, none⟩) (Nat.le_refl _) _) (by omega))) rfl)
theorem next_any (r : Nat) (a : Option Addr) (n c : Nat) (xs : List Int) (aB aS : Addr) (w : World) (hr : Rd w r a n c xs .nilIface) (hx : IsB xs) (hf : Flt w r aB aS) :
    Calls Tryz.prog 107 #[.pointer (some ⟨r, 0, none⟩)] w (NextPost r xs aB aS w) := by
  rcases Nat.eq_zero_or_pos (put0 xs).length with h0 | h0
  · exact next_no r a n c xs _ aB aS w hr hx hf (List.length_eq_zero_iff.1 h0) rfl
  · cases hp : (put0 xs).isPrefixOf xs with
    | true => exact next_here r a n c xs aB aS w hr hx h0 hp
    | false => exact next_not r a n c xs _ aB aS w hr hx hf h0 hp rfl

end Go.Proofs.YtnfhlfbkdhpacaaGreatDoor
