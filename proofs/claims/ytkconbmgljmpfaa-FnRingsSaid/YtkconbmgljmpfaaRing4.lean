/- Contracts of PushRing and PopRing, on impl's and on spec's side. -/
import Derived.Test.YtkconbmgljmpfaaPush
namespace Go.Proofs.Ytkconbmgljmpfaa
open Go.RowKit

/-- A ring and whether, its length given apart. -/
theorem FreshRingOk.of {T : TypeId} {ys : List Int} {hd ct : Int} {ok : Bool} {w w' : World} {a : Option Addr} {n c : Nat} (hn : n = ys.length) (ho : w'.ownsRow w.heap.size T 1 (.slice a n c) n (ys.map (Value.int .i64))) (hb : Below w.heap.size w w') :
    FreshRingOk T ys hd ct ok w (.returned (.tuple #[.agg #[.slice a n c, .int .i64 hd, .int .i64 ct], .bool ok])) w' := by
  subst hn; exact ⟨a, c, rfl, ho, hb⟩
theorem push_no {xs : List Int} {hd ct : Int} (x : Int) (h : rOk xs hd ct = false) : pushL xs hd ct x = xs ∧ pushC xs hd ct = ct ∧ pushOk xs hd ct = false := by simp [pushL, pushC, pushOk, h]
theorem push_at {xs : List Int} {p k : Nat} (x : Int) (h : rOk xs p k = true) : pushL xs p k x = (if k < xs.length then xs.set ((p + k) % xs.length) x else xs) ∧ pushC xs p k = (if k < xs.length then (k : Int) + 1 else k) ∧ pushOk xs p k = decide (k < xs.length) := by
  have e : pushOk xs p k = decide (k < xs.length) := by simp [pushOk, h]
  refine ⟨?_, ?_, e⟩
  · unfold pushL; rw [e]; by_cases hk : k < xs.length <;> simp [hk]; rfl
  · unfold pushC; rw [e]; by_cases hk : k < xs.length <;> simp [hk]

theorem ringok_stored {T : TypeId} {ys : List Int} {a : Option Addr} {n c lo g : Nat} {hd ct : Int} {ok : Bool} {w w1 : World} (hn : n = ys.length) (ho : w1.ownsRow lo T 1 (.slice a n c) n (ys.map (Value.int .i64))) (hb : Below w.heap.size w w1) (hlo : w.heap.size ≤ g ∧ g < lo) :
    FreshRingOk T ys hd ct ok w (.returned (.tuple #[.agg #[.slice a n c, .int .i64 hd, .int .i64 ct], .bool ok])) (((w1.setCell ⟨g, 0, none⟩ (.slice a n c)).setCell ⟨g, 1, none⟩ (.int .i64 hd)).setCell ⟨g, 2, none⟩ (.int .i64 ct)) :=
  FreshRingOk.of hn (owns_less (ownsRow_setCell_below (ownsRow_setCell_below (ownsRow_setCell_below ho (show g < lo by omega) _) (show g < lo by omega) _) (show g < lo by omega) _) (by omega)) (((hb.setCell (p := ⟨g, 0, none⟩) hlo.1 _).setCell (p := ⟨g, 1, none⟩) hlo.1 _).setCell (p := ⟨g, 2, none⟩) hlo.1 _)

set_option maxHeartbeats 4000000 in
set_option maxRecDepth 100000 in
theorem implPush_any (a : Option Addr) (n c : Nat) (hd ct x : Int) (xs : List Int) (hi : Nat) (w : World) (hr : Nums .i64 w hi a c xs) (hn : n = xs.length) (hB : hi ≤ w.heap.size) (hlen : xs.length ≤ 1048576) :
    Calls Try.prog 29 #[.agg #[.slice a n c, .int .i64 hd, .int .i64 ct], .int .i64 x] w (FreshRingOk 3 (pushL xs hd ct x) hd (pushC xs hd ct) (pushOk xs hd ct) w) := by
  subst hn
  have b1 := (Below.refl w.heap.size w).alloc (Nat.le_refl _) (.cells #[.slice a xs.length c, .int .i64 hd, .int .i64 ct] 28)
  have b2 := b1.alloc (by simp) (.cells #[.slice none 0 0, .int .i64 0, .int .i64 0] 28)
  have HN := Lib.hid (hr.below (b2.mono hB))
  have k1 := Blk.new (w.alloc (.cells #[.slice a xs.length c, .int .i64 hd, .int .i64 ct] 28)) 28 #[.slice none 0 0, .int .i64 0, .int .i64 0]
  simp only [World.size_alloc] at k1
  have K1 := Lib.hid k1
  have B2 := Lib.hid b2
  clear hr b1 b2 k1
  have HR : Hid (∀ (W : World) (a1 : Option Addr) (c1 : Nat), Nums .i64 W W.heap.size a1 c1 xs → Calls Try.prog 50 #[.agg #[.slice a1 xs.length c1, .int .i64 hd, .int .i64 ct]] W fun e w' => e = .returned (.bool (rOk xs hd ct)) ∧ Below W.heap.size W w') := fun W a1 c1 h1 => ringOk_any a1 _ c1 hd ct xs _ W h1 rfl (Nat.le_refl _) hlen
  cases hk : rOk xs hd ct with
  | false =>
    rw [(push_no x hk).1, (push_no x hk).2.1, (push_no x hk).2.2]
    rw [hk] at HR
    go_enter Try.func29, Try.ntmps29
    go_wp2_with fail
    refine (ringOf_any a _ c hd ct xs hi _ HN.out rfl (by simp; omega) hlen).mono ?_
    rintro e w1 ⟨a1, c1, rfl, ho, hb⟩
    have B3 := Lib.hid (B2.out.trans (hb.mono (by simp; omega)))
    have KK1 := Lib.hid ((K1.out.below hb).alloc (.cells #[.slice a1 xs.length c1, .int .i64 hd, .int .i64 ct] 64))
    simp only [World.size_alloc] at ho
    have O1 := Lib.hid (Rw.new ho)
    have s1 := B3.out.size
    have Q1 := Lib.hid (Blk.new w1 64 #[.slice a1 xs.length c1, .int .i64 hd, .int .i64 ct])
    have O2 := Lib.hid (O1.out.below ((Below.refl _ w1).alloc (Nat.le_refl _) (.cells #[.slice a1 xs.length c1, .int .i64 hd, .int .i64 ct] 64)) (Nat.le_refl _))
    have B4 := Lib.hid (B3.out.alloc s1 (.cells #[.slice a1 xs.length c1, .int .i64 hd, .int .i64 ct] 64))
    clear ho hb
    go_wp2_with fail
    refine (HR.out _ _ _ O2.out.nums).mono ?_
    rintro e w2 ⟨rfl, hb⟩
    have KK2 := Lib.hid (KK1.out.below hb)
    have Q2 := Lib.hid (Q1.out.below hb)
    have O3 := Lib.hid (O2.out.below hb (by simp))
    have B5 := Lib.hid (B4.out.trans (hb.mono (by simp; omega)))
    have q2 := Q2.out.cell
    have s3 := hb.size
    simp only [World.size_alloc] at s3
    clear hb
    go_wp2_with fail
    refine (ringFace_any a1 _ c1 hd ct _).mono ?_
    rintro e w3 ⟨rfl, hb⟩
    have k3 := KK2.out.below hb
    have q3 := k3.cell
    have f3 := k3.frozen
    have s2 := B5.out.size
    have HP : Hid (FreshRingOk 3 xs hd ct false w (.returned (.tuple #[.agg #[.slice a1 xs.length c1, .int .i64 hd, .int .i64 ct], .bool false])) (((w3.setCell ⟨w.heap.size + 1, 0, none⟩ (.slice a1 xs.length c1)).setCell ⟨w.heap.size + 1, 1, none⟩ (.int .i64 hd)).setCell ⟨w.heap.size + 1, 2, none⟩ (.int .i64 ct))) :=
      ringok_stored rfl (O3.out.below hb (by omega)).own (B5.out.trans (hb.mono s2)) (by omega)
    clear hb k3 q2
    go_wp2
    exact bodyPost_ret (v := .tuple #[.agg #[.slice a1 xs.length c1, .int .i64 hd, .int .i64 ct], .bool false]) (by simp [results, Try.results29, go_sem, q3]) rfl HP.out
  | true =>
    obtain ⟨p, k, rfl, rfl, n1, n2, hp, hq⟩ := rOk_bd hk
    rw [(push_at x hk).1, (push_at x hk).2.1, (push_at x hk).2.2]
    rw [hk] at HR
    have hml : (p + k) % xs.length < xs.length := Nat.mod_lt _ (by omega)
    have HL : Hid (xs.length = (if k < xs.length then xs.set ((p + k) % xs.length) x else xs).length) := Lib.hid (by split <;> simp)
    have HPU : Hid (∀ (q : Nat) (T : TypeId) (cs : Array Value) (lo : Nat) (a : Option Addr) (c : Nat) (W : World), Blk W q T cs → cs[0]? = some (.slice a xs.length c) → cs[1]? = some (.int .i64 (p : Int)) → cs[2]? = some (.int .i64 (k : Int)) → W.ownsRow lo 3 1 (.slice a xs.length c) xs.length (xs.map (Value.int .i64)) → (Value.slice a xs.length c).ownBlock ≠ some q →
        Calls Try.prog 59 #[.pointer (some ⟨q, 0, none⟩), .int .i64 x] W (PushPost q T cs lo a c xs (if k < xs.length then xs.set ((p + k) % xs.length) x else xs) (if k < xs.length then (k : Int) + 1 else k) (decide (k < xs.length)) W)) :=
      fun q T cs lo a c W h1 h2 h3 h4 h5 h6 => push_any q T cs lo a c p k x xs W h1 h2 h3 h4 h5 h6 n1 n2 hp hq
    generalize (if k < xs.length then xs.set ((p + k) % xs.length) x else xs) = ys at HL HPU
    generalize (if k < xs.length then (k : Int) + 1 else (k : Int)) = ct at HPU
    generalize decide (k < xs.length) = ok at HPU
    go_enter Try.func29, Try.ntmps29
    go_wp2_with fail
    refine (ringOf_any a _ c p k xs hi _ HN.out rfl (by simp; omega) hlen).mono ?_
    rintro e w1 ⟨a1, c1, rfl, ho, hb⟩
    have B3 := Lib.hid (B2.out.trans (hb.mono (by simp; omega)))
    have KK1 := Lib.hid ((K1.out.below hb).alloc (.cells #[.slice a1 xs.length c1, .int .i64 (p : Int), .int .i64 (k : Int)] 64))
    simp only [World.size_alloc] at ho
    have O1 := Lib.hid (Rw.new ho)
    have s0 := hb.size
    simp only [World.size_alloc] at s0
    have s1 := B3.out.size
    have Q1 := Lib.hid (Blk.new w1 64 #[.slice a1 xs.length c1, .int .i64 (p : Int), .int .i64 (k : Int)])
    have O2 := Lib.hid (O1.out.below ((Below.refl _ w1).alloc (Nat.le_refl _) (.cells #[.slice a1 xs.length c1, .int .i64 (p : Int), .int .i64 (k : Int)] 64)) (Nat.le_refl _))
    have B4 := Lib.hid (B3.out.alloc s1 (.cells #[.slice a1 xs.length c1, .int .i64 (p : Int), .int .i64 (k : Int)] 64))
    clear ho hb
    go_wp2_with fail
    refine (HR.out _ _ _ O2.out.nums).mono ?_
    rintro e w2 ⟨rfl, hb⟩
    have KK2 := Lib.hid (KK1.out.below hb)
    have Q2 := Lib.hid (Q1.out.below hb)
    have O3 := Lib.hid (O2.out.below hb (by simp))
    have B5 := Lib.hid (B4.out.trans (hb.mono (by simp; omega)))
    clear hb
    go_wp2_with fail
    refine (HPU.out _ _ _ _ _ _ _ Q2.out rfl rfl rfl O3.out.own (fun e => by have := O3.out.up _ e; omega)).mono ?_
    rintro e w3 ⟨rfl, hbk, ho, ht⟩
    have q3 := hbk.cell
    have KK3 := Lib.hid (KK2.out.two ht (by omega) (fun e => by have := (O3.out.own.lt _ e.symm).1; omega))
    have B6 := Lib.hid (B5.out.trans (ht.below s1 (fun g e => by have := (O3.out.own.lt _ e).1; omega) B5.out.size))
    have O4 := Lib.hid ho
    clear hbk ho ht
    go_wp2_with fail
    refine (ringFace_any a1 _ c1 p ct _).mono ?_
    rintro e w4 ⟨rfl, hb⟩
    have k3 := KK3.out.below hb
    have q3' := k3.cell
    have f3 := k3.frozen
    have HP : Hid (FreshRingOk 3 ys p ct ok w (.returned (.tuple #[.agg #[.slice a1 xs.length c1, .int .i64 (p : Int), .int .i64 ct], .bool ok])) (((w4.setCell ⟨w.heap.size + 1, 0, none⟩ (.slice a1 xs.length c1)).setCell ⟨w.heap.size + 1, 1, none⟩ (.int .i64 (p : Int))).setCell ⟨w.heap.size + 1, 2, none⟩ (.int .i64 ct))) :=
      ringok_stored HL.out (owns_below O4.out hb) (B6.out.trans (hb.mono B6.out.size)) (by omega)
    clear hb k3 q3
    go_wp2
    exact bodyPost_ret (v := .tuple #[.agg #[.slice a1 xs.length c1, .int .i64 (p : Int), .int .i64 ct], .bool ok]) (by simp [results, Try.results29, go_sem, q3']) rfl HP.out

/-- A ring, a number and whether: of the call's own memory. -/
def FreshRingX (T : TypeId) (xs : List Int) (hd ct x : Int) (ok : Bool) (w : World) (e : Ending) (w' : World) : Prop :=
  ∃ a c, e = .returned (.tuple #[.agg #[.slice a xs.length c, .int .i64 hd, .int .i64 ct], .int .i64 x, .bool ok]) ∧ w'.ownsRow w.heap.size T 1 (.slice a xs.length c) xs.length (xs.map (Value.int .i64)) ∧ Below w.heap.size w w'
theorem ringx_stored {T : TypeId} {ys : List Int} {a : Option Addr} {n c lo g : Nat} {hd ct x : Int} {ok : Bool} {w w1 : World} (hn : n = ys.length) (ho : w1.ownsRow lo T 1 (.slice a n c) n (ys.map (Value.int .i64))) (hb : Below w.heap.size w w1) (hlo : w.heap.size ≤ g ∧ g < lo) :
    FreshRingX T ys hd ct x ok w (.returned (.tuple #[.agg #[.slice a n c, .int .i64 hd, .int .i64 ct], .int .i64 x, .bool ok])) (((w1.setCell ⟨g, 0, none⟩ (.slice a n c)).setCell ⟨g, 1, none⟩ (.int .i64 hd)).setCell ⟨g, 2, none⟩ (.int .i64 ct)) := by
  subst hn
  exact ⟨a, c, rfl, owns_less (ownsRow_setCell_below (ownsRow_setCell_below (ownsRow_setCell_below ho (show g < lo by omega) _) (show g < lo by omega) _) (show g < lo by omega) _) (by omega), ((hb.setCell (p := ⟨g, 0, none⟩) hlo.1 _).setCell (p := ⟨g, 1, none⟩) hlo.1 _).setCell (p := ⟨g, 2, none⟩) hlo.1 _⟩
theorem pop_no {xs : List Int} {hd ct : Int} (h : rOk xs hd ct = false) : popL xs hd ct = xs ∧ popH xs hd ct = hd ∧ popC xs hd ct = ct ∧ popX xs hd ct = 0 ∧ popOk xs hd ct = false := by simp [popL, popH, popC, popX, popOk, h]
theorem pop_at {xs : List Int} {p k : Nat} (h : rOk xs p k = true) : popL xs p k = (if 0 < k then xs.set p 0 else xs) ∧ popH xs p k = (if 0 < k then (((p + 1) % xs.length : Nat) : Int) else p) ∧ popC xs p k = (if 0 < k then (k : Int) - 1 else k) ∧ popX xs p k = (if 0 < k then el xs p else 0) ∧ popOk xs p k = decide (0 < k) := by
  have e : popOk xs p k = decide (0 < k) := by simp [popOk, h]
  refine ⟨?_, ?_, ?_, ?_, e⟩
  · unfold popL; rw [e]; by_cases hk : 0 < k <;> simp [hk]
  · unfold popH; rw [e]; by_cases hk : 0 < k <;> simp [hk]
  · unfold popC; rw [e]; by_cases hk : 0 < k <;> simp [hk]
  · unfold popX; rw [e]; by_cases hk : 0 < k <;> simp [hk]

set_option maxHeartbeats 4000000 in
set_option maxRecDepth 100000 in
theorem implPop_any (a : Option Addr) (n c : Nat) (hd ct : Int) (xs : List Int) (hi : Nat) (w : World) (hr : Nums .i64 w hi a c xs) (hn : n = xs.length) (hB : hi ≤ w.heap.size) (hlen : xs.length ≤ 1048576) :
    Calls Try.prog 31 #[.agg #[.slice a n c, .int .i64 hd, .int .i64 ct]] w (FreshRingX 3 (popL xs hd ct) (popH xs hd ct) (popC xs hd ct) (popX xs hd ct) (popOk xs hd ct) w) := by
  subst hn
  have b1 := (Below.refl w.heap.size w).alloc (Nat.le_refl _) (.cells #[.slice a xs.length c, .int .i64 hd, .int .i64 ct] 28)
  have b2 := b1.alloc (by simp) (.cells #[.slice none 0 0, .int .i64 0, .int .i64 0] 28)
  have HN := Lib.hid (hr.below (b2.mono hB))
  have k1 := Blk.new (w.alloc (.cells #[.slice a xs.length c, .int .i64 hd, .int .i64 ct] 28)) 28 #[.slice none 0 0, .int .i64 0, .int .i64 0]
  simp only [World.size_alloc] at k1
  have K1 := Lib.hid k1
  have B2 := Lib.hid b2
  clear hr b1 b2 k1
  have HR : Hid (∀ (W : World) (a1 : Option Addr) (c1 : Nat), Nums .i64 W W.heap.size a1 c1 xs → Calls Try.prog 50 #[.agg #[.slice a1 xs.length c1, .int .i64 hd, .int .i64 ct]] W fun e w' => e = .returned (.bool (rOk xs hd ct)) ∧ Below W.heap.size W w') := fun W a1 c1 h1 => ringOk_any a1 _ c1 hd ct xs _ W h1 rfl (Nat.le_refl _) hlen
  cases hk : rOk xs hd ct with
  | false =>
    rw [(pop_no hk).1, (pop_no hk).2.1, (pop_no hk).2.2.1, (pop_no hk).2.2.2.1, (pop_no hk).2.2.2.2]
    rw [hk] at HR
    go_enter Try.func31, Try.ntmps31
    go_wp2_with fail
    refine (ringOf_any a _ c hd ct xs hi _ HN.out rfl (by simp; omega) hlen).mono ?_
    rintro e w1 ⟨a1, c1, rfl, ho, hb⟩
    have B3 := Lib.hid (B2.out.trans (hb.mono (by simp; omega)))
    have KK1 := Lib.hid ((K1.out.below hb).alloc (.cells #[.slice a1 xs.length c1, .int .i64 hd, .int .i64 ct] 64))
    simp only [World.size_alloc] at ho
    have O1 := Lib.hid (Rw.new ho)
    have s1 := B3.out.size
    have Q1 := Lib.hid (Blk.new w1 64 #[.slice a1 xs.length c1, .int .i64 hd, .int .i64 ct])
    have O2 := Lib.hid (O1.out.below ((Below.refl _ w1).alloc (Nat.le_refl _) (.cells #[.slice a1 xs.length c1, .int .i64 hd, .int .i64 ct] 64)) (Nat.le_refl _))
    have B4 := Lib.hid (B3.out.alloc s1 (.cells #[.slice a1 xs.length c1, .int .i64 hd, .int .i64 ct] 64))
    clear ho hb
    go_wp2_with fail
    refine (HR.out _ _ _ O2.out.nums).mono ?_
    rintro e w2 ⟨rfl, hb⟩
    have KK2 := Lib.hid (KK1.out.below hb)
    have Q2 := Lib.hid (Q1.out.below hb)
    have O3 := Lib.hid (O2.out.below hb (by simp))
    have B5 := Lib.hid (B4.out.trans (hb.mono (by simp; omega)))
    have q2 := Q2.out.cell
    have s3 := hb.size
    simp only [World.size_alloc] at s3
    clear hb
    go_wp2_with fail
    refine (ringFace_any a1 _ c1 hd ct _).mono ?_
    rintro e w3 ⟨rfl, hb⟩
    have k3 := KK2.out.below hb
    have q3 := k3.cell
    have f3 := k3.frozen
    have s2 := B5.out.size
    have HP : Hid (FreshRingX 3 xs hd ct 0 false w (.returned (.tuple #[.agg #[.slice a1 xs.length c1, .int .i64 hd, .int .i64 ct], .int .i64 0, .bool false])) (((w3.setCell ⟨w.heap.size + 1, 0, none⟩ (.slice a1 xs.length c1)).setCell ⟨w.heap.size + 1, 1, none⟩ (.int .i64 hd)).setCell ⟨w.heap.size + 1, 2, none⟩ (.int .i64 ct))) :=
      ringx_stored rfl (O3.out.below hb (by omega)).own (B5.out.trans (hb.mono s2)) (by omega)
    clear hb k3 q2
    go_wp2
    exact bodyPost_ret (v := .tuple #[.agg #[.slice a1 xs.length c1, .int .i64 hd, .int .i64 ct], .int .i64 0, .bool false]) (by simp [results, Try.results31, go_sem, q3]) rfl HP.out
  | true =>
    obtain ⟨p, k, rfl, rfl, n1, n2, hp, hq⟩ := rOk_bd hk
    rw [(pop_at hk).1, (pop_at hk).2.1, (pop_at hk).2.2.1, (pop_at hk).2.2.2.1, (pop_at hk).2.2.2.2]
    rw [hk] at HR
    have HL : Hid (xs.length = (if 0 < k then xs.set p 0 else xs).length) := Lib.hid (by split <;> simp)
    have HPU : Hid (∀ (q : Nat) (T : TypeId) (cs : Array Value) (lo : Nat) (a : Option Addr) (c : Nat) (W : World), Blk W q T cs → cs[0]? = some (.slice a xs.length c) → cs[1]? = some (.int .i64 (p : Int)) → cs[2]? = some (.int .i64 (k : Int)) → W.ownsRow lo 3 1 (.slice a xs.length c) xs.length (xs.map (Value.int .i64)) → (Value.slice a xs.length c).ownBlock ≠ some q →
        Calls Try.prog 60 #[.pointer (some ⟨q, 0, none⟩)] W (PopPost q T cs lo a c xs (if 0 < k then xs.set p 0 else xs) (if 0 < k then (((p + 1) % xs.length : Nat) : Int) else p) (if 0 < k then (k : Int) - 1 else k) (if 0 < k then el xs p else 0) (decide (0 < k)) W)) :=
      fun q T cs lo a c W h1 h2 h3 h4 h5 h6 => pop_any q T cs lo a c p k xs W h1 h2 h3 h4 h5 h6 n1 n2 hp hq
    generalize (if 0 < k then xs.set p 0 else xs) = ys at HL HPU
    generalize (if 0 < k then (((p + 1) % xs.length : Nat) : Int) else (p : Int)) = hd at HPU
    generalize (if 0 < k then (k : Int) - 1 else (k : Int)) = ct at HPU
    generalize (if 0 < k then el xs p else 0) = x at HPU
    generalize decide (0 < k) = ok at HPU
    go_enter Try.func31, Try.ntmps31
    go_wp2_with fail
    refine (ringOf_any a _ c p k xs hi _ HN.out rfl (by simp; omega) hlen).mono ?_
    rintro e w1 ⟨a1, c1, rfl, ho, hb⟩
    have B3 := Lib.hid (B2.out.trans (hb.mono (by simp; omega)))
    have KK1 := Lib.hid ((K1.out.below hb).alloc (.cells #[.slice a1 xs.length c1, .int .i64 (p : Int), .int .i64 (k : Int)] 64))
    simp only [World.size_alloc] at ho
    have O1 := Lib.hid (Rw.new ho)
    have s0 := hb.size
    simp only [World.size_alloc] at s0
    have s1 := B3.out.size
    have Q1 := Lib.hid (Blk.new w1 64 #[.slice a1 xs.length c1, .int .i64 (p : Int), .int .i64 (k : Int)])
    have O2 := Lib.hid (O1.out.below ((Below.refl _ w1).alloc (Nat.le_refl _) (.cells #[.slice a1 xs.length c1, .int .i64 (p : Int), .int .i64 (k : Int)] 64)) (Nat.le_refl _))
    have B4 := Lib.hid (B3.out.alloc s1 (.cells #[.slice a1 xs.length c1, .int .i64 (p : Int), .int .i64 (k : Int)] 64))
    clear ho hb
    go_wp2_with fail
    refine (HR.out _ _ _ O2.out.nums).mono ?_
    rintro e w2 ⟨rfl, hb⟩
    have KK2 := Lib.hid (KK1.out.below hb)
    have Q2 := Lib.hid (Q1.out.below hb)
    have O3 := Lib.hid (O2.out.below hb (by simp))
    have B5 := Lib.hid (B4.out.trans (hb.mono (by simp; omega)))
    clear hb
    go_wp2_with fail
    refine (HPU.out _ _ _ _ _ _ _ Q2.out rfl rfl rfl O3.out.own (fun e => by have := O3.out.up _ e; omega)).mono ?_
    rintro e w3 ⟨rfl, hbk, ho, ht⟩
    have q3 := hbk.cell
    have KK3 := Lib.hid (KK2.out.two ht (by omega) (fun e => by have := (O3.out.own.lt _ e.symm).1; omega))
    have B6 := Lib.hid (B5.out.trans (ht.below s1 (fun g e => by have := (O3.out.own.lt _ e).1; omega) B5.out.size))
    have O4 := Lib.hid ho
    clear hbk ho ht
    go_wp2_with fail
    refine (ringFace_any a1 _ c1 hd ct _).mono ?_
    rintro e w4 ⟨rfl, hb⟩
    have k3 := KK3.out.below hb
    have q3' := k3.cell
    have f3 := k3.frozen
    have HP : Hid (FreshRingX 3 ys hd ct x ok w (.returned (.tuple #[.agg #[.slice a1 xs.length c1, .int .i64 hd, .int .i64 ct], .int .i64 x, .bool ok])) (((w4.setCell ⟨w.heap.size + 1, 0, none⟩ (.slice a1 xs.length c1)).setCell ⟨w.heap.size + 1, 1, none⟩ (.int .i64 hd)).setCell ⟨w.heap.size + 1, 2, none⟩ (.int .i64 ct))) :=
      ringx_stored HL.out (owns_below O4.out hb) (B6.out.trans (hb.mono B6.out.size)) (by omega)
    clear hb k3 q3
    go_wp2
    exact bodyPost_ret (v := .tuple #[.agg #[.slice a1 xs.length c1, .int .i64 hd, .int .i64 ct], .int .i64 x, .bool ok]) (by simp [results, Try.results31, go_sem, q3']) rfl HP.out

end Go.Proofs.Ytkconbmgljmpfaa
