/- Contract of spec.PlayLink. -/
import Derived.Test.YtkconbmgljmpfaaLink3
import Derived.Test.YtkconbmgljmpfaaRing5
import Derived.Test.YtkconbmgljmpfaaRing6
import Derived.Deep.AppendLies
namespace Go.Proofs.Ytkconbmgljmpfaa
open Go.RowKit

theorem FreshRingOk.at_ {T : TypeId} {ys : List Int} {hd ct : Int} {ok : Bool} {w w' : World} {e : Ending} {n : Nat} (h : FreshRingOk T ys hd ct ok w e w') (hn : ys.length = n) (n1 : 1 ≤ n) :
    ∃ g c, e = .returned (.tuple #[.agg #[.slice (some ⟨g, 0, none⟩) n c, .int .i64 hd, .int .i64 ct], .bool ok]) ∧ w.heap.size ≤ g ∧ w'.ownsRow w.heap.size T 1 (.slice (some ⟨g, 0, none⟩) n c) n (ys.map (Value.int .i64)) ∧ Below w.heap.size w w' := by
  subst hn
  obtain ⟨a, c, he, ho, hb⟩ := h
  obtain ⟨g, rfl, hg, _⟩ := own_block ho n1
  exact ⟨g, c, he, hg, ho, hb⟩
theorem FreshRingX.at_ {T : TypeId} {ys : List Int} {hd ct x : Int} {ok : Bool} {w w' : World} {e : Ending} {n : Nat} (h : FreshRingX T ys hd ct x ok w e w') (hn : ys.length = n) (n1 : 1 ≤ n) :
    ∃ g c, e = .returned (.tuple #[.agg #[.slice (some ⟨g, 0, none⟩) n c, .int .i64 hd, .int .i64 ct], .int .i64 x, .bool ok]) ∧ w.heap.size ≤ g ∧ w'.ownsRow w.heap.size T 1 (.slice (some ⟨g, 0, none⟩) n c) n (ys.map (Value.int .i64)) ∧ Below w.heap.size w w' := by
  subst hn
  obtain ⟨a, c, he, ho, hb⟩ := h
  obtain ⟨g, rfl, hg, _⟩ := own_block ho n1
  exact ⟨g, c, he, hg, ho, hb⟩
theorem spend_link {n k : Nat} (hn : n ≤ 20) (hk : k < n) : spendH ((n : Int) - (k : Int)) k = (n : Int) - (k : Int) - 1 ∧ spendO ((n : Int) - (k : Int)) k = (k : Int) + 1 ∧ spendOk ((n : Int) - (k : Int)) k = true := by
  have h : spendOk ((n : Int) - (k : Int)) k = true := by
    unfold spendOk
    rw [Bool.and_eq_true, cOk_iff, decide_eq_true_eq]; omega
  exact ⟨(spend_good h).1, (spend_good h).2, h⟩
theorem spend_full {n k : Nat} (hk : ¬ k < n) (hk2 : k ≤ n) : spendH ((n : Int) - (k : Int)) k = (n : Int) - (k : Int) ∧ spendO ((n : Int) - (k : Int)) k = (k : Int) ∧ spendOk ((n : Int) - (k : Int)) k = false := by
  have h : spendOk ((n : Int) - (k : Int)) k = false := by
    unfold spendOk
    rw [Bool.and_eq_false_iff]; right; rw [decide_eq_false_iff_not]; omega
  exact ⟨(spend_bad h).1, (spend_bad h).2, h⟩
theorem back_link {n k : Nat} (hn : n ≤ 20) (h0 : 0 < k) (hk : k ≤ n) : backH ((n : Int) - (k : Int)) k = (n : Int) - (k : Int) + 1 ∧ backO ((n : Int) - (k : Int)) k = (k : Int) - 1 ∧ backOk ((n : Int) - (k : Int)) k = true := by
  have h : backOk ((n : Int) - (k : Int)) k = true := by
    unfold backOk
    rw [Bool.and_eq_true, cOk_iff, decide_eq_true_eq]; omega
  exact ⟨(back_good h).1, (back_good h).2, h⟩
/-- A row and a block of another element type lie apart. -/
theorem row_blk_ne {w : World} {base g n sz : Nat} {e t : TypeId} {v : Value} {xs : List Value} {cs : Array Value} (h : w.ownsRow base e sz v n xs) (hg : Blk w g t cs) (hne : e ≠ t) : v.ownBlock ≠ some g := by
  rcases h.2 with ⟨rfl, _⟩ | ⟨g', cap, cur, rfl, _, hh, _⟩
  · simp [Value.ownBlock]
  · intro he
    have : g = g' := by simpa [Value.ownBlock] using he.symm
    subst this
    unfold Blk at hg
    rw [hh] at hg
    injection hg with hg
    injection hg with _ ht
    exact hne ht

theorem news_at {W : World} {T : TypeId} {v : Value} {B : Nat} (hB : W.heap.size = B) : ∀ (j : Nat) (u : Value), [v][j]? = some u → (W.alloc (.cells #[v] T)).cell? ((⟨B, 0, none⟩ : Addr).add j) = some u := by
  subst hB; exact cell_one_newI _ _ _
/-- All that is known between two ops. -/
structure Sk (n G r rc : Nat) (xs : List Int) (p k h o : Int) (tb tc m : Nat) (ts : List Int) (w W : World) : Prop where
  ring : Blk W G 28 #[.slice (some ⟨r, 0, none⟩) n rc, .int .i64 p, .int .i64 k]
  cred : Blk W (G + 1) 30 #[.int .i64 h, .int .i64 o]
  own : W.ownsRow (w.heap.size + 2) 3 1 (.slice (some ⟨r, 0, none⟩) n rc) n (xs.map (Value.int .i64))
  told : W.ownsRow (w.heap.size + 2) 3 1 (.slice (some ⟨tb, 0, none⟩) m tc) m (ts.map (Value.int .i64))
  ne : r ≠ tb
  k4 : Blk W w.heap.size 28 #[.slice none 0 0, .int .i64 0, .int .i64 0]
  k5 : Blk W (w.heap.size + 1) 30 #[.int .i64 0, .int .i64 0]
  bel : Below w.heap.size w W
  lt : w.heap.size + 1 < G
section
variable {n G r rc tb tc m : Nat} {xs ts : List Int} {p k h o : Int} {w W W' : World}
theorem Sk.keep (s : Sk n G r rc xs p k h o tb tc m ts w W) (hb : Below W.heap.size W W') : Sk n G r rc xs p k h o tb tc m ts w W' :=
  ⟨s.ring.below hb, s.cred.below hb, owns_below s.own hb, owns_below s.told hb, s.ne, s.k4.below hb, s.k5.below hb, s.bel.trans (hb.mono s.bel.size), s.lt⟩
theorem Sk.setCred (s : Sk n G r rc xs p k h o tb tc m ts w W) (h' o' : Int) : Sk n G r rc xs p k h' o' tb tc m ts w ((W.setCell ⟨G + 1, 0, none⟩ (.int .i64 h')).setCell ⟨G + 1, 1, none⟩ (.int .i64 o')) := by
  have e1 := row_blk_ne s.own s.cred (by decide)
  have e2 := row_blk_ne s.told s.cred (by decide)
  have hl := s.lt
  have hb := s.bel
  exact ⟨(s.ring.far_ (p := ⟨G + 1, 0, none⟩) (by simp) _).far_ (p := ⟨G + 1, 1, none⟩) (by simp) _, (s.cred.set_ 0 _).set_ 1 _, (s.own.kept (grown_setCell _ _ _ _) (.inr e1)).kept (grown_setCell _ _ _ _) (.inr e1), (s.told.kept (grown_setCell _ _ _ _) (.inr e2)).kept (grown_setCell _ _ _ _) (.inr e2), s.ne,
    (s.k4.far_ (p := ⟨G + 1, 0, none⟩) (by simp; omega) _).far_ (p := ⟨G + 1, 1, none⟩) (by simp; omega) _, (s.k5.far_ (p := ⟨G + 1, 0, none⟩) (by simp; omega) _).far_ (p := ⟨G + 1, 1, none⟩) (by simp; omega) _,
    (hb.setCell (p := ⟨G + 1, 0, none⟩) (by simp; omega) _).setCell (p := ⟨G + 1, 1, none⟩) (by simp; omega) _, hl⟩
theorem Sk.setRing (s : Sk n G r rc xs p k h o tb tc m ts w W) {r' rc' lo : Nat} {xs' : List Int} {p' k' : Int} (ho : W.ownsRow lo 3 1 (.slice (some ⟨r', 0, none⟩) n rc') n (xs'.map (Value.int .i64))) (hlo : w.heap.size + 2 ≤ lo) (hne : r' ≠ tb) :
    Sk n G r' rc' xs' p' k' h o tb tc m ts w (((W.setCell ⟨G, 0, none⟩ (.slice (some ⟨r', 0, none⟩) n rc')).setCell ⟨G, 1, none⟩ (.int .i64 p')).setCell ⟨G, 2, none⟩ (.int .i64 k')) := by
  have e1 := row_blk_ne ho s.ring (by decide)
  have e2 := row_blk_ne s.told s.ring (by decide)
  have hl := s.lt
  have hb := s.bel
  exact ⟨((s.ring.set_ 0 _).set_ 1 _).set_ 2 _, ((s.cred.far_ (p := ⟨G, 0, none⟩) (by simp) _).far_ (p := ⟨G, 1, none⟩) (by simp) _).far_ (p := ⟨G, 2, none⟩) (by simp) _,
    owns_less (((ho.kept (grown_setCell _ _ _ _) (.inr e1)).kept (grown_setCell _ _ _ _) (.inr e1)).kept (grown_setCell _ _ _ _) (.inr e1)) hlo, ((s.told.kept (grown_setCell _ _ _ _) (.inr e2)).kept (grown_setCell _ _ _ _) (.inr e2)).kept (grown_setCell _ _ _ _) (.inr e2), hne,
    ((s.k4.far_ (p := ⟨G, 0, none⟩) (by simp; omega) _).far_ (p := ⟨G, 1, none⟩) (by simp; omega) _).far_ (p := ⟨G, 2, none⟩) (by simp; omega) _, ((s.k5.far_ (p := ⟨G, 0, none⟩) (by simp; omega) _).far_ (p := ⟨G, 1, none⟩) (by simp; omega) _).far_ (p := ⟨G, 2, none⟩) (by simp; omega) _,
    ((hb.setCell (p := ⟨G, 0, none⟩) (by simp; omega) _).setCell (p := ⟨G, 1, none⟩) (by simp; omega) _).setCell (p := ⟨G, 2, none⟩) (by simp; omega) _, hl⟩
theorem Sk.more (s : Sk n G r rc xs p k h o tb tc m ts w W) {tb' tc' : Nat} {X : Int} {ob : Obj} (ho : W'.ownsRow (w.heap.size + 2) 3 1 (.slice (some ⟨tb', 0, none⟩) (m + 1) tc') (m + 1) (ts.map (Value.int .i64) ++ [.int .i64 X])) (hg : (W.alloc ob).grownBy W' (Value.slice (some ⟨tb, 0, none⟩) m tc).ownBlock)
    (hat : (Value.slice (some ⟨tb, 0, none⟩) m tc).ownBlock = some tb' ∨ tb' = (W.alloc ob).heap.size) : Sk n G r rc xs p k h o tb' tc' (m + 1) (ts ++ [X]) w W' := by
  have s1 := s.keep ((Below.refl W.heap.size W).alloc (Nat.le_refl _) ob)
  have e2 := row_blk_ne s1.told s1.ring (by decide)
  have e3 := row_blk_ne s1.told s1.cred (by decide)
  have hr := (s1.own.lt r rfl).2
  have hl := s.lt
  have ht := (s1.told.lt tb rfl).1
  refine ⟨s1.ring.grown hg (fun e => e2 e.symm), s1.cred.grown hg (fun e => e3 e.symm), s1.own.kept hg (.inr (fun e => s.ne (by injection e))), by rw [List.map_append]; exact ho, ?_, s1.k4.grown hg (fun e => by have e' : some w.heap.size = some tb := e; injection e' with e'; omega), s1.k5.grown hg (fun e => by have e' : some (w.heap.size + 1) = some tb := e; injection e' with e'; omega), s1.bel.trans (below_grown_own (show (W.alloc ob).grownBy W' (some tb) from hg) (by omega) s1.bel.size), hl⟩
  rcases hat with h1 | h1
  · have h1' : some tb = some tb' := h1
    injection h1' with h1'
    rw [← h1']; exact s.ne
  · rw [h1]; omega
end
/-- A ring, a credit and a list, of the call's own. -/
def PlayResS (T : TypeId) (xs : List Int) (p k h o : Int) (ts : List Int) (w : World) (e : Ending) (w' : World) : Prop :=
  ∃ a c a2 c2, e = .returned (.tuple #[.agg #[.slice a xs.length c, .int .i64 p, .int .i64 k], .agg #[.int .i64 h, .int .i64 o], .slice a2 ts.length c2]) ∧
    w'.ownsRow w.heap.size T 1 (.slice a xs.length c) xs.length (xs.map (Value.int .i64)) ∧ w'.ownsRow w.heap.size T 1 (.slice a2 ts.length c2) ts.length (ts.map (Value.int .i64)) ∧ Below w.heap.size w w'
theorem PlayRes.weak {T : TypeId} {xs ts : List Int} {p k h o : Int} {w w' : World} {e : Ending} (hh : PlayRes T xs p k h o ts w e w') : PlayResS T xs p k h o ts w e w' := by
  obtain ⟨a, c, a2, c2, t, he, h1, h2, h3, h4, h5⟩ := hh
  exact ⟨a, c, a2, c2, he, h3.own, owns_less h4 h1, h5⟩
theorem PlayResS.as {T : TypeId} {xs xs' ts ts' : List Int} {p k h o p' k' h' o' : Int} {w w' : World} {e : Ending} (hh : PlayResS T xs p k h o ts w e w') (e1 : xs' = xs) (e2 : p' = p) (e3 : k' = k) (e4 : h' = h) (e5 : o' = o) (e6 : ts' = ts) : PlayResS T xs' p' k' h' o' ts' w e w' := by
  subst e1 e2 e3 e4 e5 e6; exact hh
theorem Sk.stored {n G r rc tb tc m : Nat} {xs ts : List Int} {p k h o : Int} {w W : World} (s : Sk n G r rc xs p k h o tb tc m ts w W) (hn : n = xs.length) (hm : m = ts.length) :
    PlayResS 3 xs p k h o ts w (.returned (.tuple #[.agg #[.slice (some ⟨r, 0, none⟩) n rc, .int .i64 p, .int .i64 k], .agg #[.int .i64 h, .int .i64 o], .slice (some ⟨tb, 0, none⟩) m tc])) (((((W.setCell ⟨w.heap.size, 0, none⟩ (.slice (some ⟨r, 0, none⟩) n rc)).setCell ⟨w.heap.size, 1, none⟩ (.int .i64 p)).setCell ⟨w.heap.size, 2, none⟩ (.int .i64 k)).setCell ⟨w.heap.size + 1, 0, none⟩ (.int .i64 h)).setCell ⟨w.heap.size + 1, 1, none⟩ (.int .i64 o)) := by
  subst hn hm
  have hb := s.bel
  have q : ∀ {T : TypeId} {v : Value} {l : Nat} {ys : List Value}, W.ownsRow (w.heap.size + 2) T 1 v l ys → ∀ (u0 u1 u2 u3 u4 : Value), (((((W.setCell ⟨w.heap.size, 0, none⟩ u0).setCell ⟨w.heap.size, 1, none⟩ u1).setCell ⟨w.heap.size, 2, none⟩ u2).setCell ⟨w.heap.size + 1, 0, none⟩ u3).setCell ⟨w.heap.size + 1, 1, none⟩ u4).ownsRow w.heap.size T 1 v l ys := fun ho u0 u1 u2 u3 u4 =>
    owns_less (ownsRow_setCell_below (ownsRow_setCell_below (ownsRow_setCell_below (ownsRow_setCell_below (ownsRow_setCell_below ho (show w.heap.size < w.heap.size + 2 by omega) _) (show w.heap.size < w.heap.size + 2 by omega) _) (show w.heap.size < w.heap.size + 2 by omega) _) (show w.heap.size + 1 < w.heap.size + 2 by omega) _) (show w.heap.size + 1 < w.heap.size + 2 by omega) _) (by omega)
  exact ⟨_, _, _, _, rfl, q s.own _ _ _ _ _, q s.told _ _ _ _ _, ((((hb.setCell (p := ⟨w.heap.size, 0, none⟩) (Nat.le_refl _) _).setCell (p := ⟨w.heap.size, 1, none⟩) (Nat.le_refl _) _).setCell (p := ⟨w.heap.size, 2, none⟩) (Nat.le_refl _) _).setCell (p := ⟨w.heap.size + 1, 0, none⟩) (Nat.le_succ _) _).setCell (p := ⟨w.heap.size + 1, 1, none⟩) (Nat.le_succ _) _⟩

set_option maxHeartbeats 4000000 in
set_option maxRecDepth 100000 in
theorem specPlay_yes (n : Nat) (a : Option Addr) (c : Nat) (ops : List Int) (hi : Nat) (w : World) (hr : Nums .i64 w hi a c ops) (hB : hi ≤ w.heap.size) (n1 : 1 ≤ n) (n2 : n ≤ 20) (h300 : ops.length ≤ 300) :
    Calls Try.prog 12 #[.int .i64 (n : Int), .slice a ops.length c] w (PlayResS 3 (plS n ops ops.length).xs (plS n ops ops.length).p (plS n ops ops.length).k ((n : Int) - (plS n ops ops.length).k) (plS n ops ops.length).k (plT n ops ops.length) w) := by
  obtain ⟨i0, hi0, hz0, hz1, hz2⟩ := info_parts infoI64
  have hcap := hr.cap
  have hbig := hr.big
  have b1 := (Below.refl w.heap.size w).alloc (Nat.le_refl _) (.cells #[.slice none 0 0, .int .i64 0, .int .i64 0] 28)
  have b2 := b1.alloc (by simp) (.cells #[.int .i64 0, .int .i64 0] 30)
  have K4 := Lib.hid ((Blk.new w 28 #[.slice none 0 0, .int .i64 0, .int .i64 0]).alloc (.cells #[.int .i64 0, .int .i64 0] 30))
  have k5 := Blk.new (w.alloc (.cells #[.slice none 0 0, .int .i64 0, .int .i64 0] 28)) 30 #[.int .i64 0, .int .i64 0]
  simp only [World.size_alloc] at k5
  have K5 := Lib.hid k5
  have HOPS : Hid (∀ (W : World), Below w.heap.size w W → Nums .i64 W hi a c ops) := Lib.hid (fun W h => hr.below (h.mono hB))
  have B2 := Lib.hid b2
  clear hr b1 b2 k5
  have HNW : Hid (∀ W, Calls Try.prog 24 #[.int .i64 (n : Int)] W (FreshRingOk 3 (List.replicate n 0) 0 0 true W)) := fun W => by
    have hc := inB_yes (x := (n : Int)) (a := 1) (b := 20) (by omega) (by omega)
    have h := specNew_any (n : Int) W
    rw [newL_yes hc, hc] at h
    exact h
  have hlt300 : ¬ (300 < ops.length) := by omega
  have HPI := Lib.hid (plS_in n ops n1 n2)
  have HS0 := Lib.hid (plS_zero n ops)
  have HSS := Lib.hid (plS_succ n ops)
  have HTS := Lib.hid (plT_succ n ops)
  have HTL := Lib.hid (plT_len n ops)
  have HT0 := Lib.hid (plT_zero n ops)
  go_enter Try.func12, Try.ntmps12
  go_wp2_with fail
  refine (HNW.out _).mono ?_
  rintro e w1 hh
  obtain ⟨r, rc, rfl, hr0, ho, hb⟩ := hh.at_ List.length_replicate n1
  have s1 := hb.size
  simp only [World.size_alloc] at s1 ho hr0
  have SK0 : Hid (Sk n w1.heap.size r rc (List.replicate n 0) 0 0 (n : Int) 0 (w1.heap.size + 1 + 1) 0 0 [] w (((w1.alloc (.cells #[.slice (some ⟨r, 0, none⟩) n rc, .int .i64 0, .int .i64 0] 28)).alloc (.cells #[.int .i64 (n : Int), .int .i64 0] 30)).alloc (.cells #[] 3))) := by
    have g0 := (Blk.new w1 28 #[.slice (some ⟨r, 0, none⟩) n rc, .int .i64 0, .int .i64 0]).alloc (.cells #[.int .i64 (n : Int), .int .i64 0] 30)
    have g1 := Blk.new (w1.alloc (.cells #[.slice (some ⟨r, 0, none⟩) n rc, .int .i64 0, .int .i64 0] 28)) 30 #[.int .i64 (n : Int), .int .i64 0]
    have t0 := World.ownsRow_made (e := 3) (size := 1) (base := w.heap.size + 2) ((w1.alloc (.cells #[.slice (some ⟨r, 0, none⟩) n rc, .int .i64 0, .int .i64 0] 28)).alloc (.cells #[.int .i64 (n : Int), .int .i64 0] 30)) #[] 0 (by simp; omega) (by unfold maxLen; omega) (by simp)
    simp only [World.size_alloc] at g1 t0
    have hlt := (ho.lt r rfl).2
    exact ⟨g0.alloc _, g1.alloc _, ((ho.alloc _).alloc _).alloc _, t0, by omega, (((K4.out.below hb).alloc _).alloc _).alloc _, (((K5.out.below hb).alloc _).alloc _).alloc _,
      (((B2.out.trans (hb.mono (by simp; omega))).alloc (by omega) _).alloc (by simp; omega) _).alloc (by simp; omega) _, by omega⟩
  clear ho hb
  go_wp2
  go_loopw [10, 11, 12, 13, 14, 15, 16, 17] (fun t i _ _ _ _ _ _ wr => ∃ (j r rc tb tc : Nat), j ≤ ops.length ∧ i = .int .i64 j ∧ t = .slice (some ⟨tb, 0, none⟩) j tc ∧ Sk n w1.heap.size r rc (plS n ops j).xs (plS n ops j).p (plS n ops j).k ((n : Int) - (plS n ops j).k) (plS n ops j).k tb tc j (plT n ops j) w wr)
    (fun _ i _ _ _ _ _ _ _ => ops.length - (intOf i).toNat)
  case atStart => exact ⟨0, r, rc, _, _, Nat.zero_le _, rfl, rfl, by rw [HS0.out, HT0.out, show (n : Int) - ((0 : Nat) : Int) = n by omega]; exact SK0.out⟩
  case round =>
    obtain ⟨j, r, rc, tb, tc, hj, rfl, rfl, hsk⟩ := hrel
    have hsz := hsk.bel.size
    by_cases hlt : j < ops.length
    · have hN := HOPS.out _ hsk.bel
      obtain ⟨b, off, rfl, hbh, hcell⟩ := hN.lies.resolve_left (by intro h; subst h; simp at hlt)
      have hck := hcell j hlt
      have hbb : b < w.heap.size := by omega
      have HOP : Hid (∀ (W : World), Below w.heap.size w W → W.cell? ⟨b, off + j, none⟩ = some (.int .i64 (el ops j))) := Lib.hid (fun W h => by
        obtain ⟨b', off', he, hb', hc'⟩ := (HOPS.out _ h).lies.resolve_left (by intro h; subst h; simp at hlt)
        injection he with he
        injection he with e1 e2
        subst e1 e2
        exact hc' j hlt)
      have HPJ := Lib.hid (HPI.out j (by omega))
      have hS := HSS.out j hlt
      have hT := Lib.hid (HTS.out j)
      obtain ⟨xs, p, k, hs⟩ : ∃ xs p k, plS n ops j = ⟨xs, p, k⟩ := ⟨_, _, _, rfl⟩
      rw [hs] at HPJ hS hT hsk
      simp only at hsk
      obtain ⟨hl, hp, hk, hok⟩ := HPJ.out
      simp only at hl hp hk hok
      have HSK := Lib.hid hsk
      have qr := hsk.ring.cell
      have qc := hsk.cred.cell
      have fr := hsk.ring.frozen
      have fc := hsk.cred.frozen
      have lr := hsk.ring.lt
      have lc := hsk.cred.lt
      clear hsk hN hcell
      generalize el ops j = op at hck HOP hS hT
      by_cases h0 : 0 ≤ op
      · have HSP := Lib.hid (fun W => specSpend_any ((n : Int) - (k : Int)) (k : Int) W)
        by_cases hf : k < n
        · rw [(spend_link n2 hf).1, (spend_link n2 hf).2.1, (spend_link n2 hf).2.2] at HSP
          have hto : plTold ⟨xs, p, k⟩ op = 1 := by simp [plTold, h0, hl, hf]
          have hst : plStep ⟨xs, p, k⟩ op = ⟨xs.set ((p + k) % xs.length) op, p, k + 1⟩ := by simp [plStep, h0, hl, hf]
          rw [hto] at hT
          rw [hst] at hS
          clear hto hst
          have HPU : Hid (∀ (W : World), Nums .i64 W W.heap.size (some ⟨r, 0, none⟩) rc xs → Calls Try.prog 28 #[.agg #[.slice (some ⟨r, 0, none⟩) n rc, .int .i64 (p : Int), .int .i64 (k : Int)], .int .i64 op] W (FreshRingOk 3 (xs.set ((p + k) % xs.length) op) p ((k : Int) + 1) true W)) := Lib.hid (fun W h1 => by
            have h := specPush_any (some ⟨r, 0, none⟩) n rc p k op xs _ W h1 hl.symm (Nat.le_refl _) (by omega)
            rw [(push_at op hok).1, (push_at op hok).2.1, (push_at op hok).2.2, if_pos (by omega), if_pos (by omega), decide_eq_true (by omega)] at h
            exact h)
          have hxl : (xs.set ((p + k) % xs.length) op).length = n := by simp [hl]
          generalize xs.set ((p + k) % xs.length) op = ys at HPU hxl hS
          have HYL := Lib.hid hxl
          clear hxl
          go_wp2_with fail
          refine (HSP.out _).mono ?_
          rintro e w3 ⟨rfl, hb⟩
          have SK3 := Lib.hid ((HSK.out.keep hb).keep ((Below.refl w3.heap.size w3).alloc (Nat.le_refl _) (.cells #[.int .i64 ((n : Int) - (k : Int) - 1), .int .i64 ((k : Int) + 1)] 30)))
          have k13 := Blk.new w3 30 #[.int .i64 ((n : Int) - (k : Int) - 1), .int .i64 ((k : Int) + 1)]
          have q13 := k13.cell
          have qc3 := SK3.out.cred.cell
          have fc3 := SK3.out.cred.frozen
          have SK4 := Lib.hid (SK3.out.setCred ((n : Int) - (k : Int) - 1) ((k : Int) + 1))
          have SK4d := Lib.hid (SK4.out.keep (Below.refl _ (((w3.alloc (.cells #[.int .i64 ((n : Int) - (k : Int) - 1), .int .i64 ((k : Int) + 1)] 30)).setCell ⟨w1.heap.size + 1, 0, none⟩ (.int .i64 ((n : Int) - (k : Int) - 1))).setCell ⟨w1.heap.size + 1, 1, none⟩ (.int .i64 ((k : Int) + 1)))).drew)
          have qr4 := SK4.out.ring.cell
          have hck4 := HOP.out _ SK4.out.bel
          clear hb qr qc fr fc hck k13
          go_wp2_with fail
          go_region_with (go_at_call 28; refine (HPU.out (World.drew (((w3.alloc (.cells #[.int .i64 ((n : Int) - (k : Int) - 1), .int .i64 ((k : Int) + 1)] 30)).setCell ⟨w1.heap.size + 1, 0, none⟩ (.int .i64 ((n : Int) - (k : Int) - 1))).setCell ⟨w1.heap.size + 1, 1, none⟩ (.int .i64 ((k : Int) + 1)))) (Nums.of_own SK4d.out.own).2).mono ?_; rintro e w6 hh; obtain ⟨r6, rc6, rfl, hr6, ho6, hb6⟩ := hh.at_ HYL.out n1; have SK6 := SK4d.out.keep hb6; have q6 := SK6.ring.cell; have f6 := SK6.ring.frozen; have l6 := SK6.ring.lt; have HK := Lib.hid (SK6.setRing (p' := (p : Int)) (k' := (k : Int) + 1) ho6 (by have h1 := SK4d.out.ring.lt; have h2 := SK4d.out.lt; omega) (by have h1 := (SK4d.out.told.lt tb rfl).2; omega)); clear hr6 ho6 hb6 SK6)
          all_goals
            clear q13 qc3 fc3 qr4 hck4
            have e9 : plS n ops (j + 1) = ⟨ys, p, k + 1⟩ := hS
            have HS9 := Lib.hid e9
            clear e9
            go_wp2_with (at_builtin; refine wpList_append_lies _ rfl _ _ 24 rfl (w.heap.size + 2) 3 i0 (.int .i64 0) 1 8 Try.underlying24 hi0 hz0 hz1 hz2 rfl (by decide) _ _ _ rfl (HK.out.told.alloc _) ⟨_, 0, none⟩ 1 1 [.int .i64 1] rfl rfl (news_at (by simp)) (one_i64 _) (by decide) ?c3 ?c4 ?c5 _ rfl ?_)
            case c3 => unfold maxLen; omega
            case c4 => omega
            case c5 => have h1 := HK.out.bel.size; have h2 := HK.out.ring.lt; have h3 := HK.out.lt; simp at h1 h2 ⊢; omega
            intro tb' tc' w9 hown hg hat hlt9
            have HK9 := Lib.hid (HK.out.more hown hg (hat.imp id (fun e => by rw [e]; simp)))
            rw [← hT.out] at HK9
            clear hown hg hat
            go_wp2
            go_roundw
            case rel => exact ⟨j + 1, r6, rc6, tb', tc', by omega, by go_num, rfl, by rw [HS9.out]; dsimp only; rw [show ((k + 1 : Nat) : Int) = (k : Int) + 1 by omega, show (n : Int) - ((k : Int) + 1) = (n : Int) - (k : Int) - 1 by omega]; exact HK9.out⟩
            case measure => simp [intOf]; omega
        · rw [(spend_full hf hk).1, (spend_full hf hk).2.1, (spend_full hf hk).2.2] at HSP
          have hto : plTold ⟨xs, p, k⟩ op = 0 := by simp [plTold, h0, hl, hf]
          have hst : plStep ⟨xs, p, k⟩ op = ⟨xs, p, k⟩ := by simp [plStep, h0, hl, hf]
          rw [hto] at hT
          rw [hst] at hS
          clear hto hst
          go_wp2_with fail
          refine (HSP.out _).mono ?_
          rintro e w3 ⟨rfl, hb⟩
          have HK := Lib.hid ((HSK.out.keep hb).keep ((Below.refl w3.heap.size w3).alloc (Nat.le_refl _) (.cells #[.int .i64 ((n : Int) - (k : Int)), .int .i64 (k : Int)] 30)))
          clear hb qr qc fr fc hck
          have e9 : plS n ops (j + 1) = ⟨xs, p, k⟩ := hS
          have HS9 := Lib.hid e9
          clear e9
          go_wp2_with (at_builtin; refine wpList_append_lies _ rfl _ _ 24 rfl (w.heap.size + 2) 3 i0 (.int .i64 0) 1 8 Try.underlying24 hi0 hz0 hz1 hz2 rfl (by decide) _ _ _ rfl (HK.out.told.alloc _) ⟨_, 0, none⟩ 1 1 [.int .i64 0] rfl rfl (news_at (by simp)) (one_i64 _) (by decide) ?c3 ?c4 ?c5 _ rfl ?_)
          case c3 => unfold maxLen; omega
          case c4 => omega
          case c5 => have h1 := HK.out.bel.size; have h2 := HK.out.ring.lt; have h3 := HK.out.lt; simp at h1 h2 ⊢; omega
          intro tb' tc' w9 hown hg hat hlt9
          have HK9 := Lib.hid (HK.out.more hown hg (hat.imp id (fun e => by rw [e]; simp)))
          rw [← hT.out] at HK9
          clear hown hg hat
          go_wp2
          go_roundw
          case rel => exact ⟨j + 1, r, rc, tb', tc', by omega, by go_num, rfl, by rw [HS9.out]; dsimp only; exact HK9.out⟩
          case measure => simp [intOf]; omega
      · have h0' : op < 0 := by omega
        by_cases hf : 0 < k
        · have HPO : Hid (∀ (W : World), Nums .i64 W W.heap.size (some ⟨r, 0, none⟩) rc xs → Calls Try.prog 30 #[.agg #[.slice (some ⟨r, 0, none⟩) n rc, .int .i64 (p : Int), .int .i64 (k : Int)]] W (FreshRingX 3 (xs.set p 0) (((p + 1) % xs.length : Nat) : Int) ((k : Int) - 1) (el xs p) true W)) := Lib.hid (fun W h1 => by
            have h := specPop_any (some ⟨r, 0, none⟩) n rc p k xs _ W h1 hl.symm (Nat.le_refl _) (by omega)
            rw [(pop_at hok).1, (pop_at hok).2.1, (pop_at hok).2.2.1, (pop_at hok).2.2.2.1, (pop_at hok).2.2.2.2, if_pos hf, if_pos hf, if_pos hf, if_pos hf, decide_eq_true hf] at h
            exact h)
          have hto : plTold ⟨xs, p, k⟩ op = el xs p := by simp [plTold, h0, hf]
          have hst : plStep ⟨xs, p, k⟩ op = ⟨xs.set p 0, (p + 1) % xs.length, k - 1⟩ := by simp [plStep, h0, hf]
          rw [hto] at hT
          rw [hst] at hS
          clear hto hst
          have hxl : (xs.set p 0).length = n := by simp [hl]
          generalize xs.set p 0 = ys at HPO hxl hS
          generalize (p + 1) % xs.length = M at HPO hS
          generalize el xs p = X at HPO hT
          have HYL := Lib.hid hxl
          clear hxl
          have HBK := Lib.hid (fun W => specBack_any ((n : Int) - (k : Int)) (k : Int) W)
          rw [(back_link n2 hf hk).1, (back_link n2 hf hk).2.1, (back_link n2 hf hk).2.2] at HBK
          go_wp2_with fail
          refine (HPO.out _ (Nums.of_own HSK.out.own).2).mono ?_
          rintro e w3 hh
          obtain ⟨g3, c3, rfl, hg3, ho3, hb⟩ := hh.at_ HYL.out n1
          have SK3 := Lib.hid ((HSK.out.keep hb).keep ((Below.refl w3.heap.size w3).alloc (Nat.le_refl _) (.cells #[.slice (some ⟨g3, 0, none⟩) n c3, .int .i64 (M : Int), .int .i64 ((k : Int) - 1)] 28)))
          have k15 := Blk.new w3 28 #[.slice (some ⟨g3, 0, none⟩) n c3, .int .i64 (M : Int), .int .i64 ((k : Int) - 1)]
          have q15 := k15.cell
          have q3 := SK3.out.ring.cell
          have f3 := SK3.out.ring.frozen
          have SK4 := Lib.hid (SK3.out.setRing (p' := (M : Int)) (k' := (k : Int) - 1) (ho3.alloc (.cells #[.slice (some ⟨g3, 0, none⟩) n c3, .int .i64 (M : Int), .int .i64 ((k : Int) - 1)] 28)) (by have h1 := HSK.out.ring.lt; have h2 := HSK.out.lt; omega) (by have h1 := (HSK.out.told.lt tb rfl).2; omega))
          have qc4 := SK4.out.cred.cell
          clear hb ho3 hg3 qr qc fr fc hck k15
          go_wp2_with fail
          refine (HBK.out _).mono ?_
          rintro e w5 ⟨rfl, hb⟩
          have SK5 := SK4.out.keep hb
          have qc5 := SK5.cred.cell
          have fc5 := SK5.cred.frozen
          have HK := Lib.hid (SK5.setCred ((n : Int) - (k : Int) + 1) ((k : Int) - 1))
          clear hb SK5 q15 q3 f3 qc4
          have e9 : plS n ops (j + 1) = ⟨ys, M, k - 1⟩ := hS
          have HS9 := Lib.hid e9
          clear e9
          go_wp2_with (at_builtin; refine wpList_append_lies _ rfl _ _ 24 rfl (w.heap.size + 2) 3 i0 (.int .i64 0) 1 8 Try.underlying24 hi0 hz0 hz1 hz2 rfl (by decide) _ _ _ rfl (HK.out.told.alloc _) ⟨_, 0, none⟩ 1 1 [.int .i64 X] rfl rfl (news_at (by simp)) (one_i64 _) (by decide) ?c3 ?c4 ?c5 _ rfl ?_)
          case c3 => unfold maxLen; omega
          case c4 => omega
          case c5 => have h1 := HK.out.bel.size; have h2 := HK.out.ring.lt; have h3 := HK.out.lt; simp at h1 h2 ⊢; omega
          intro tb' tc' w9 hown hg hat hlt9
          have HK9 := Lib.hid (HK.out.more hown hg (hat.imp id (fun e => by rw [e]; simp)))
          rw [← hT.out] at HK9
          clear hown hg hat
          go_wp2
          go_roundw
          case rel => exact ⟨j + 1, g3, c3, tb', tc', by omega, by go_num, rfl, by rw [HS9.out]; dsimp only; rw [show ((k - 1 : Nat) : Int) = (k : Int) - 1 by omega, show (n : Int) - ((k : Int) - 1) = (n : Int) - (k : Int) + 1 by omega]; exact HK9.out⟩
          case measure => simp [intOf]; omega
        · obtain rfl : k = 0 := by omega
          have HPO : Hid (∀ (W : World), Nums .i64 W W.heap.size (some ⟨r, 0, none⟩) rc xs → Calls Try.prog 30 #[.agg #[.slice (some ⟨r, 0, none⟩) n rc, .int .i64 (p : Int), .int .i64 0]] W (FreshRingX 3 xs p 0 0 false W)) := Lib.hid (fun W h1 => by
            have h := specPop_any (some ⟨r, 0, none⟩) n rc p ((0 : Nat) : Int) xs _ W h1 hl.symm (Nat.le_refl _) (by omega)
            rw [(pop_at hok).1, (pop_at hok).2.1, (pop_at hok).2.2.1, (pop_at hok).2.2.2.1, (pop_at hok).2.2.2.2, if_neg hf, if_neg hf, if_neg hf, if_neg hf, decide_eq_false hf] at h
            exact h)
          have hto : plTold ⟨xs, p, 0⟩ op = -1 := by simp [plTold, h0]
          have hst : plStep ⟨xs, p, 0⟩ op = ⟨xs, p, 0⟩ := by simp [plStep, h0]
          rw [hto] at hT
          rw [hst] at hS
          clear hto hst
          have HYL := Lib.hid hl
          go_wp2_with fail
          refine (HPO.out _ (Nums.of_own HSK.out.own).2).mono ?_
          rintro e w3 hh
          obtain ⟨g3, c3, rfl, hg3, ho3, hb⟩ := hh.at_ HYL.out n1
          have HK := Lib.hid ((HSK.out.keep hb).keep ((Below.refl w3.heap.size w3).alloc (Nat.le_refl _) (.cells #[.slice (some ⟨g3, 0, none⟩) n c3, .int .i64 (p : Int), .int .i64 0] 28)))
          clear hb ho3 hg3 qr qc fr fc hck
          have e9 : plS n ops (j + 1) = ⟨xs, p, 0⟩ := hS
          have HS9 := Lib.hid e9
          clear e9
          go_wp2_with (at_builtin; refine wpList_append_lies _ rfl _ _ 24 rfl (w.heap.size + 2) 3 i0 (.int .i64 0) 1 8 Try.underlying24 hi0 hz0 hz1 hz2 rfl (by decide) _ _ _ rfl (HK.out.told.alloc _) ⟨_, 0, none⟩ 1 1 [.int .i64 (-1)] rfl rfl (news_at (by simp)) (one_i64 _) (by decide) ?c3 ?c4 ?c5 _ rfl ?_)
          case c3 => unfold maxLen; omega
          case c4 => omega
          case c5 => have h1 := HK.out.bel.size; have h2 := HK.out.ring.lt; have h3 := HK.out.lt; simp at h1 h2 ⊢; omega
          intro tb' tc' w9 hown hg hat hlt9
          have HK9 := Lib.hid (HK.out.more hown hg (hat.imp id (fun e => by rw [e]; simp)))
          rw [← hT.out] at HK9
          clear hown hg hat
          go_wp2
          go_roundw
          case rel => exact ⟨j + 1, r, rc, tb', tc', by omega, by go_num, rfl, by rw [HS9.out]; dsimp only; exact HK9.out⟩
          case measure => simp [intOf]; omega
    · obtain rfl : j = ops.length := by omega
      have HPE := Lib.hid (HPI.out ops.length (Nat.le_refl _))
      obtain ⟨s, hs⟩ : ∃ s, s = plS n ops ops.length := ⟨_, rfl⟩
      obtain ⟨ts, hts⟩ : ∃ ts, ts = plT n ops ops.length := ⟨_, rfl⟩
      rw [← hs, ← hts] at hsk
      rw [← hs] at HPE
      have htl : ops.length = ts.length := by rw [hts, HTL.out]
      obtain ⟨home, hhome⟩ : ∃ home, home = (n : Int) - (s.k : Int) := ⟨_, rfl⟩
      rw [← hhome] at hsk
      have HSE := Lib.hid hs
      have HTE := Lib.hid hts
      have HHE := Lib.hid hhome
      have HTL2 := Lib.hid htl
      clear hs hts hhome htl
      have SKd := Lib.hid (hsk.keep (Below.refl _ wr).drew)
      have q1 := hsk.ring.cell
      have q2 := hsk.cred.cell
      have q4 := hsk.k4.cell
      have q5 := hsk.k5.cell
      have f4 := hsk.k4.frozen
      have f5 := hsk.k5.frozen
      have l1 := hsk.ring.lt
      have l2 := hsk.cred.lt
      have l0 := hsk.lt
      have HP : Hid (PlayResS 3 (plS n ops ops.length).xs (plS n ops ops.length).p (plS n ops ops.length).k ((n : Int) - (plS n ops ops.length).k) (plS n ops ops.length).k (plT n ops ops.length) w (.returned (.tuple #[.agg #[.slice (some ⟨r, 0, none⟩) n rc, .int .i64 (s.p : Int), .int .i64 (s.k : Int)], .agg #[.int .i64 home, .int .i64 (s.k : Int)], .slice (some ⟨tb, 0, none⟩) ops.length tc])) (((((wr.drew.setCell ⟨w.heap.size, 0, none⟩ (.slice (some ⟨r, 0, none⟩) n rc)).setCell ⟨w.heap.size, 1, none⟩ (.int .i64 (s.p : Int))).setCell ⟨w.heap.size, 2, none⟩ (.int .i64 (s.k : Int))).setCell ⟨w.heap.size + 1, 0, none⟩ (.int .i64 home)).setCell ⟨w.heap.size + 1, 1, none⟩ (.int .i64 (s.k : Int)))) :=
        Lib.hid ((SKd.out.stored HPE.out.len.symm HTL2.out).as (by rw [HSE.out]) (by rw [HSE.out]) (by rw [HSE.out]) (by rw [HHE.out, HSE.out]) (by rw [HSE.out]) HTE.out.symm)
      clear hsk
      go_wp2_with fail
      go_region_with (fail)
      all_goals
        go_wp2
        exact bodyPost_ret (v := .tuple #[.agg #[.slice (some ⟨r, 0, none⟩) n rc, .int .i64 (s.p : Int), .int .i64 (s.k : Int)], .agg #[.int .i64 home, .int .i64 (s.k : Int)], .slice (some ⟨tb, 0, none⟩) ops.length tc]) (by simp [results, Try.results12, go_sem, q4, q5]) rfl HP.out
end Go.Proofs.Ytkconbmgljmpfaa
