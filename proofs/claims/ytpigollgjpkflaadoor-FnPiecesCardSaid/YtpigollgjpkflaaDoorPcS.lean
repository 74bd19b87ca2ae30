/- What stands while a decoder is fed with pieces: the decoder, its bytes, the frames told, the cuts. -/
import Derived.Test.YtpigollgjpkflaaDoorDrawBytes
import Derived.Test.YtpigollgjpkflaaDoorFramesS
import Derived.Test.YtpigollgjpkflaaDoorAllImpl
namespace Go.Proofs.YtpigollgjpkflaaDoor
open Go.ChangeShapes Go.WideShapes Go.ChangeAt Go.RowKit

theorem own_ne {w : World} {lo1 lo2 s1 s2 n1 n2 : Nat} {T1 T2 : TypeId} {v1 v2 : Value} {xs1 xs2 : List Value} (hT : T1 ≠ T2) (h1 : w.ownsRow lo1 T1 s1 v1 n1 xs1) (h2 : w.ownsRow lo2 T2 s2 v2 n2 xs2) : v1.ownBlock = none ∨ v1.ownBlock ≠ v2.ownBlock := by
  rcases h1.2 with ⟨rfl, _⟩ | ⟨g, cap, cur, rfl, _, hh, _⟩
  · exact .inl rfl
  · right
    intro e
    rcases h2.2 with ⟨rfl, _⟩ | ⟨g2, cap2, cur2, rfl, _, hh2, _⟩
    · cases e
    · injection e with e
      simp only at e
      subst e
      rw [hh] at hh2
      injection hh2 with hh2
      injection hh2 with _ h3 _
      exact hT h3
theorem blk_ne {w : World} {C lo s n : Nat} {T1 T2 : TypeId} {cs : Array Value} {v : Value} {xs : List Value} (hT : T1 ≠ T2) (h1 : Blk w C T1 cs) (h2 : w.ownsRow lo T2 s v n xs) : some C ≠ v.ownBlock := by
  rcases h2.2 with ⟨rfl, _⟩ | ⟨g2, cap2, cur2, rfl, _, hh2, _⟩
  · intro e; cases e
  · intro e
    injection e with e
    simp only at e
    subst e
    have hh : w.heap[C]? = some (.cells cs T1 (0, 0)) := h1
    rw [hh] at hh2
    injection hh2 with hh2
    injection hh2 with _ h3 _
    exact hT h3
/-- The state between the steps. -/
structure Pc (D C c0 c1 L : Nat) (ga : Option Addr) (gc : Nat) (acc : List Fr) (da : Option Addr) (dc : Nat) (ys : List Int) (bad : Bool) (w4 W : World) : Prop where
  dec : Blk W D 30 #[.slice da ys.length dc, .bool bad]
  row : W.ownsRow (D + 1) 5 1 (.slice da ys.length dc) ys.length (ys.map (Value.int .u8))
  got : W.ownsRow (D + 1) 36 4 (.slice ga acc.length gc) acc.length (flatF acc)
  cut : Blk W C 3 #[.int .i64 (c0 : Int), .int .i64 (c1 : Int), .int .i64 (L : Int)]
  bel : Below D w4 W
  lt : D < C
section
variable {D C c0 c1 L gc dc : Nat} {ga da : Option Addr} {acc : List Fr} {ys : List Int} {bad : Bool} {w4 W W' : World}
theorem Pc.calm (h : Pc D C c0 c1 L ga gc acc da dc ys bad w4 W) (hb : Below W.heap.size W W') : Pc D C c0 c1 L ga gc acc da dc ys bad w4 W' :=
  ⟨h.dec.below hb, owns_below h.row hb, owns_below h.got hb, h.cut.below hb, h.bel.trans (hb.mono (Nat.le_of_lt h.dec.lt)), h.lt⟩
theorem Pc.alloc_ (h : Pc D C c0 c1 L ga gc acc da dc ys bad w4 W) (o : Obj) : Pc D C c0 c1 L ga gc acc da dc ys bad w4 (W.alloc o) := h.calm ((Below.refl _ _).alloc (Nat.le_refl _) o)
theorem Pc.drew_ (h : Pc D C c0 c1 L ga gc acc da dc ys bad w4 W) : Pc D C c0 c1 L ga gc acc da dc ys bad w4 W.drew := h.calm (Below.refl _ _).drew
theorem Pc.stored {a5 : Option Addr} {c5 : Nat} {zs : List Int} {bad2 : Bool} (h : Pc D C c0 c1 L ga gc acc da dc ys bad w4 W) (hn : W.ownsRow (D + 1) 5 1 (.slice a5 zs.length c5) zs.length (zs.map (Value.int .u8))) :
    Pc D C c0 c1 L ga gc acc a5 c5 zs bad2 w4 ((W.setCell ⟨D, 0, none⟩ (.slice a5 zs.length c5)).setCell ⟨D, 1, none⟩ (.bool bad2)) := by
  have hlt := h.lt
  refine ⟨?_, ownsRow_setCell_below (ownsRow_setCell_below hn (Nat.lt_succ_self D) _) (Nat.lt_succ_self D) _, ownsRow_setCell_below (ownsRow_setCell_below h.got (Nat.lt_succ_self D) _) (Nat.lt_succ_self D) _, ?_, (h.bel.setCell (p := ⟨D, 0, none⟩) (Nat.le_refl _) _).setCell (p := ⟨D, 1, none⟩) (Nat.le_refl _) _, h.lt⟩
  · have hh := h.dec
    unfold Blk at hh ⊢
    simp [World.setCell, Array.getElem?_modify, hh]
  · have hh := h.cut
    unfold Blk at hh ⊢
    have hne : ¬ D = C := by omega
    simp [World.setCell, Array.getElem?_modify, hh, hne]
theorem Pc.more {ga2 : Option Addr} {gc2 : Nat} {acc2 : List Fr} (h : Pc D C c0 c1 L ga gc acc da dc ys bad w4 W) (hg : W.grownBy W' (Value.slice ga acc.length gc).ownBlock) (ho : W'.ownsRow (D + 1) 36 4 (.slice ga2 acc2.length gc2) acc2.length (flatF acc2)) :
    Pc D C c0 c1 L ga2 gc2 acc2 da dc ys bad w4 W' := by
  have hb : Below (D + 1) W W' := below_own h.got hg h.dec.lt
  refine ⟨h.dec.belowB hb (Nat.lt_succ_self _), h.row.kept hg (own_ne (by decide) h.row h.got), ho, ?_, h.bel.trans (hb.mono (Nat.le_succ _)), h.lt⟩
  exact (hg.block C h.cut.lt (blk_ne (by decide) h.cut h.got)).trans h.cut
theorem Pc.cutAt (h : Pc D C c0 c1 L ga gc acc da dc ys bad w4 W) (k : Nat) (hk : k < 3) : W.cell? ⟨C, k, none⟩ = some (.int .i64 (([c0, c1, L].getD k 0 : Nat) : Int)) := by
  rw [h.cut.cell k]
  have : k = 0 ∨ k = 1 ∨ k = 2 := by omega
  rcases this with rfl | rfl | rfl <;> rfl
end
theorem pc_start (w4 : World) (c0 c1 L : Nat) : Pc w4.heap.size (w4.heap.size + 2) c0 c1 L (some ⟨w4.heap.size + 1, 0, none⟩) 0 [] none 0 [] false w4 ((((w4.alloc (.cells #[.slice none 0 0, .bool false] 30)).alloc (.cells #[] 36)).drew).alloc (.cells #[.int .i64 c0, .int .i64 c1, .int .i64 L] 3)) := by
  have hm := World.ownsRow_made (e := 36) (size := 4) (base := w4.heap.size + 1) (w4.alloc (.cells #[.slice none 0 0, .bool false] 30)) #[] 0 (by simp) (by unfold maxLen; omega) (by simp)
  simp only [World.size_alloc] at hm
  have hc := Blk.new (((w4.alloc (.cells #[.slice none 0 0, .bool false] 30)).alloc (.cells #[] 36)).drew) 3 #[.int .i64 c0, .int .i64 c1, .int .i64 L]
  have e : (((w4.alloc (.cells #[.slice none 0 0, .bool false] 30)).alloc (.cells #[] 36)).drew).heap.size = w4.heap.size + 2 := by simp
  rw [e] at hc
  refine ⟨?_, World.ownsRow_nil _ _ _ _, (hm.drew).alloc _, hc, ?_, by omega⟩
  · exact (((Blk.new w4 30 #[.slice none 0 0, .bool false]).alloc _).below (Below.refl _ _).drew).alloc _
  · exact ((((Below.refl w4.heap.size w4).alloc (Nat.le_refl _) _).alloc (by simp) _).drew).alloc (by simp; omega) _
theorem Blk.setOther {w : World} {b : Nat} {T : TypeId} {cs : Array Value} (h : Blk w b T cs) {p : Addr} (hp : p.block ≠ b) (v : Value) : Blk (w.setCell p v) b T cs := by
  unfold Blk at h ⊢
  simp [World.setCell, Array.getElem?_modify, h, hp]
/-- Another decoder's block is written. -/
theorem Pc.setNext {D C c0 c1 L gc dc G i : Nat} {ga da : Option Addr} {acc : List Fr} {ys : List Int} {bad : Bool} {w4 W : World} {cs : Array Value} (h : Pc D C c0 c1 L ga gc acc da dc ys bad w4 W) (hk : Blk W G 30 cs) (hG : D < G) (v : Value) :
    Pc D C c0 c1 L ga gc acc da dc ys bad w4 (W.setCell ⟨G, i, none⟩ v) := by
  have hC : G ≠ C := by
    intro e
    subst e
    have h1 := h.cut
    unfold Blk at h1 hk
    rw [hk] at h1
    injection h1 with h1
    injection h1 with _ h2
    exact absurd h2 (by decide)
  refine ⟨h.dec.setOther (p := ⟨G, i, none⟩) (by simp; omega) v, h.row.kept (grown_setCell _ _ _ _) ?_, h.got.kept (grown_setCell _ _ _ _) ?_, h.cut.setOther (p := ⟨G, i, none⟩) (by simpa using hC) v, h.bel.setCell (p := ⟨G, i, none⟩) (by simp; omega) v, h.lt⟩
  · exact .inr (fun e => blk_ne (by decide) hk h.row e.symm)
  · exact .inr (fun e => blk_ne (by decide) hk h.got e.symm)
theorem Blk.setD {w : World} {g : Nat} {t : TypeId} {cs : Array Value} (h : Blk w g t cs) (i : Nat) (u : Value) : Blk (w.setCell ⟨g, i, none⟩ u) g t (cs.setIfInBounds i u) := by
  unfold Blk at h ⊢
  simp [World.setCell, Array.getElem?_modify, h]
/-- A byte of the code, the same in every later world. -/
theorem at_det (i : Nat) (a : Option Addr) (len cap : Nat) (B : Nat) (w : World) (hi : i ≤ 2) (hb : Bytes w B a len) :
    ∃ x : Int, 0 ≤ x ∧ x ≤ 255 ∧ ∀ W : World, Below B w W → Calls Tryd.prog 9 #[.slice a len cap, .int .i64 (i : Int)] W fun e w' => e = .returned (.int .i64 x) ∧ W = w' := by
  have hs := hb.small
  by_cases h : i < len
  · obtain ⟨b, off, rfl, hbB, hc⟩ := hb.lies.resolve_left (by omega)
    obtain ⟨x, h0, h1, hx0⟩ := hc i h
    refine ⟨x, h0, h1, fun W hW => ?_⟩
    have hx := (hW.cell (p := ⟨b, off + i, none⟩) hbB).trans hx0
    have hw : IntKind.i64.wrap x = x := IntWalk.i64_in _ (by omega)
    have h' : (i : Int) < (len : Int) := by omega
    clear hc hb hx0 hW
    go_enter Tryd.func9, Tryd.ntmps9
    go_wp2
    go_ret
    exact ⟨rfl, rfl⟩
  · have h' : ¬ ((i : Int) < (len : Int)) := by omega
    clear hb
    have e1 : 0 ≤ ((i : Int) * 13 + (len : Int) * 5) % 256 ∧ ((i : Int) * 13 + (len : Int) * 5) % 256 ≤ 255 := by omega
    have w1 : IntKind.i64.wrap ((i : Int) * 13) = (i : Int) * 13 := IntWalk.i64_in _ (by omega)
    have w2 : IntKind.i64.wrap ((len : Int) * 5) = (len : Int) * 5 := IntWalk.i64_in _ (by omega)
    have w3 : IntKind.i64.wrap ((i : Int) * 13 + (len : Int) * 5) = (i : Int) * 13 + (len : Int) * 5 := IntWalk.i64_in _ (by omega)
    have w4 : ((i : Int) * 13 + (len : Int) * 5).tmod 256 = ((i : Int) * 13 + (len : Int) * 5) % 256 := Int.tmod_eq_emod_of_nonneg (by omega)
    have w5 : IntKind.i64.wrap (((i : Int) * 13 + (len : Int) * 5) % 256) = ((i : Int) * 13 + (len : Int) * 5) % 256 := IntWalk.i64_in _ (by omega)
    refine ⟨_, e1.1, e1.2, fun W hW => ?_⟩
    clear hW e1
    go_enter Tryd.func9, Tryd.ntmps9
    go_wp2
    go_ret
    exact ⟨rfl, rfl⟩
end Go.Proofs.YtpigollgjpkflaaDoor
