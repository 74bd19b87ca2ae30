/- Contract of impl.TakeNext. -/
import Derived.Test.YtnfhlfbkdhpacaaGreatDoorTakeImpl
import Derived.Test.YtnfhlfbkdhpacaaGreatDoorFeed
namespace Go.Proofs.YtnfhlfbkdhpacaaGreatDoor
open Go.RowKit

def zeroF : Value := (.agg #[.int .i64 0, .int .i64 0, .int .i64 0, .int .i64 0])
/-- What TakeNext answers: what is left, whether it is bad, the frame, the code. -/
def nxGood (xs : List Int) (b : Bool) : Bool := dOk xs.length b && !b
structure Nx where
  left : List Int
  bad : Bool
  k : Int
  y : Int
  t : Int
  v : Int
  code : Int
def nx (xs : List Int) (b : Bool) : Nx :=
  if nxGood xs b = true then (if tkHere xs = true then ⟨xs.drop (put0 xs).length, false, f0K xs, f0Y xs, f0T xs, f0V xs, 0⟩ else if tkMore xs = true then ⟨xs, false, 0, 0, 0, 0, 1⟩ else ⟨[], true, 0, 0, 0, 0, 2⟩)
  else ⟨xs, b, 0, 0, 0, 0, 2⟩
theorem nx_bad {xs : List Int} {b : Bool} (h : nxGood xs b = false) : nx xs b = ⟨xs, b, 0, 0, 0, 0, 2⟩ := by simp [nx, h]
theorem nx_here {xs : List Int} {b : Bool} (h : nxGood xs b = true) (h1 : tkHere xs = true) : nx xs b = ⟨xs.drop (put0 xs).length, false, f0K xs, f0Y xs, f0T xs, f0V xs, 0⟩ := by simp [nx, h, h1]
theorem nx_more {xs : List Int} {b : Bool} (h : nxGood xs b = true) (h1 : tkHere xs = false) (h2 : tkMore xs = true) : nx xs b = ⟨xs, false, 0, 0, 0, 0, 1⟩ := by simp [nx, h, h1, h2]
theorem nx_bent {xs : List Int} {b : Bool} (h : nxGood xs b = true) (h1 : tkHere xs = false) (h2 : tkMore xs = false) : nx xs b = ⟨[], true, 0, 0, 0, 0, 2⟩ := by simp [nx, h, h1, h2]
theorem nx_len (xs : List Int) (b : Bool) : (nx xs b).left.length ≤ xs.length := by
  unfold nx
  split
  · split
    · simp
    · split
      · simp
      · simp
  · simp
/-- A decoder, a frame and a code, in memory of the call's own. -/
def NextRes (r : Nx) (w : World) (e : Ending) (w' : World) : Prop :=
  ∃ a c, e = .returned (.tuple #[.agg #[.slice a r.left.length c, .bool r.bad], (.agg #[.int .i64 r.k, .int .i64 r.y, .int .i64 r.t, .int .i64 r.v]), .int .i64 r.code]) ∧ w'.ownsRow w.heap.size 5 1 (.slice a r.left.length c) r.left.length (r.left.map (Value.int .u8)) ∧ Below w.heap.size w w'
theorem nx_stored {ys : List Int} {a : Option Addr} {c lo g m n : Nat} {b : Bool} {k y t v C : Int} {w w1 : World} (hm : m = ys.length) (ho : w1.ownsRow lo 5 1 (.slice a m c) m (ys.map (Value.int .u8))) (hb : Below w.heap.size w w1) (hg : w.heap.size ≤ g) (hl : g < lo) (hn : w.heap.size ≤ n) (hl2 : n < lo) :
    NextRes ⟨ys, b, k, y, t, v, C⟩ w (.returned (.tuple #[.agg #[.slice a m c, .bool b], (.agg #[.int .i64 k, .int .i64 y, .int .i64 t, .int .i64 v]), .int .i64 C])) ((((((w1.setCell ⟨g, 0, none⟩ (.slice a m c)).setCell ⟨g, 1, none⟩ (.bool b)).setCell ⟨n, 0, none⟩ (.int .i64 k)).setCell ⟨n, 1, none⟩ (.int .i64 y)).setCell ⟨n, 2, none⟩ (.int .i64 t)).setCell ⟨n, 3, none⟩ (.int .i64 v)) := by
  subst hm
  exact ⟨a, c, rfl, owns_less (ownsRow_setCell_below (ownsRow_setCell_below (ownsRow_setCell_below (ownsRow_setCell_below (ownsRow_setCell_below (ownsRow_setCell_below ho hl _) hl _) hl2 _) hl2 _) hl2 _) hl2 _) (by omega),
    (((((hb.setCell (p := ⟨g, 0, none⟩) hg _).setCell (p := ⟨g, 1, none⟩) hg _).setCell (p := ⟨n, 0, none⟩) hn _).setCell (p := ⟨n, 1, none⟩) hn _).setCell (p := ⟨n, 2, none⟩) hn _).setCell (p := ⟨n, 3, none⟩) hn _⟩
theorem NextRes.drew {r : Nx} {w w' : World} {e : Ending} (h : NextRes r w e w') : NextRes r w e w'.drew := by
  obtain ⟨a, c, he, ho, hb⟩ := h
  exact ⟨a, c, he, ho, hb.drew⟩
theorem NextRes.as {r s : Nx} {w w' : World} {e : Ending} (h : NextRes r w e w') (hs : s = r) : NextRes s w e w' := hs ▸ h
/-- .. a decoder without bytes. -/
theorem nx_stored0 {g n : Nat} {b : Bool} {k y t v C : Int} {w w1 : World} (hb : Below w.heap.size w w1) (hg : w.heap.size ≤ g) (hn : w.heap.size ≤ n) :
    NextRes ⟨[], b, k, y, t, v, C⟩ w (.returned (.tuple #[.agg #[.slice none 0 0, .bool b], (.agg #[.int .i64 k, .int .i64 y, .int .i64 t, .int .i64 v]), .int .i64 C])) ((((((w1.setCell ⟨g, 0, none⟩ (.slice none 0 0)).setCell ⟨g, 1, none⟩ (.bool b)).setCell ⟨n, 0, none⟩ (.int .i64 k)).setCell ⟨n, 1, none⟩ (.int .i64 y)).setCell ⟨n, 2, none⟩ (.int .i64 t)).setCell ⟨n, 3, none⟩ (.int .i64 v)) :=
  ⟨none, 0, rfl, World.ownsRow_nil _ _ _ _, (((((hb.setCell (p := ⟨g, 0, none⟩) hg _).setCell (p := ⟨g, 1, none⟩) hg _).setCell (p := ⟨n, 0, none⟩) hn _).setCell (p := ⟨n, 1, none⟩) hn _).setCell (p := ⟨n, 2, none⟩) hn _).setCell (p := ⟨n, 3, none⟩) hn _⟩

set_option maxRecDepth 100000 in
set_option maxHeartbeats 4000000 in
theorem implNext_any (hi : Nat) (a : Option Addr) (n c : Nat) (b : Bool) (xs : List Int) (aB aS : Addr) (w : World) (hN : Nums .u8 w hi a c xs) (hn : n = xs.length) (hh : hi ≤ w.heap.size) (hx : IsB xs) (hlen : xs.length ≤ 1048576) (hf : Flt w w.heap.size aB aS) :
    Calls Tryz.prog 64 #[.agg #[.slice a n c, .bool b]] w (NextRes (nx xs b) w) := by
  subst hn
  have HX := Lib.hid hx
  have hcap := hN.cap
  have hbig := hN.big
  have b1 := (Below.refl w.heap.size w).alloc (Nat.le_refl _) (.cells #[.slice a xs.length c, .bool b] 91)
  have b2 := b1.alloc (by simp) (.cells #[.slice none 0 0, .bool false] 91)
  have b3 := b2.alloc (by simp; omega) (.cells #[.int .i64 0, .int .i64 0, .int .i64 0, .int .i64 0] 97)
  have HN := Lib.hid ((hN.more hh).below b3)
  have HF := Lib.hid (hf.below b3)
  have K0 := Lib.hid (((Blk.new w 91 #[.slice a xs.length c, .bool b]).alloc (.cells #[.slice none 0 0, .bool false] 91)).alloc (.cells #[.int .i64 0, .int .i64 0, .int .i64 0, .int .i64 0] 97))
  have k1 := (Blk.new (w.alloc (.cells #[.slice a xs.length c, .bool b] 91)) 91 #[.slice none 0 0, .bool false]).alloc (.cells #[.int .i64 0, .int .i64 0, .int .i64 0, .int .i64 0] 97)
  have k2 := Blk.new ((w.alloc (.cells #[.slice a xs.length c, .bool b] 91)).alloc (.cells #[.slice none 0 0, .bool false] 91)) 97 #[.int .i64 0, .int .i64 0, .int .i64 0, .int .i64 0]
  simp only [World.size_alloc] at k1 k2
  have K1 := Lib.hid k1
  have K2 := Lib.hid k2
  have B3 := Lib.hid b3
  clear hx hN hf b1 b2 b3 k1 k2
  have HD := Lib.hid (fun W => implDecOk_any a xs.length c b W (by omega))
  have hgd : nxGood xs b = (dOk xs.length b && !b) := rfl
  cases hk : dOk xs.length b with
  | false =>
    rw [nx_bad (by rw [hgd, hk]; rfl)]
    rw [hk] at HD
    clear hk hgd
    go_enter Tryz.func64, Tryz.ntmps64
    go_wp2_with fail
    refine (HD.out _).mono ?_
    rintro e w1 ⟨rfl, hb⟩
    have k0 := K0.out.below hb
    have q0 := k0.cell
    have KK1 := Lib.hid (K1.out.below hb)
    have KK2 := Lib.hid (K2.out.below hb)
    have N1 := Lib.hid (HN.out.below (hb.mono (by simp; omega)))
    have B4 := Lib.hid (B3.out.trans (hb.mono (by simp; omega)))
    have s1 := hb.size
    simp only [World.size_alloc] at s1
    clear hb k0
    go_wp2_with fail
    refine (copied_any a _ c b xs _ _ N1.out rfl (by omega) (by omega)).mono ?_
    rintro e w2 ⟨a2, c2, rfl, ho, hb⟩
    have k1 := KK1.out.below hb
    have k2 := KK2.out.below hb
    have q1 := k1.cell
    have f1 := k1.frozen
    have q2 := k2.cell
    have f2 := k2.frozen
    have HP := Lib.hid (nx_stored (b := b) (k := 0) (y := 0) (t := 0) (v := 0) (C := 2) rfl ho (B4.out.trans (hb.mono (by omega))) (show w.heap.size ≤ w.heap.size + 1 by omega) (by omega) (show w.heap.size ≤ w.heap.size + 1 + 1 by omega) (by omega))
    clear ho hb k1 k2 q0
    go_wp2
    exact bodyPost_ret (v := .tuple #[.agg #[.slice a2 xs.length c2, .bool b], (.agg #[.int .i64 0, .int .i64 0, .int .i64 0, .int .i64 0]), .int .i64 2]) (by simp [results, Tryz.results64, go_sem, q1, q2]) rfl HP.out
  | true =>
    rw [hk] at HD
    cases b with
    | true =>
      rw [nx_bad (by rw [hgd, hk]; rfl)]
      clear hk hgd
      go_enter Tryz.func64, Tryz.ntmps64
      go_wp2_with fail
      refine (HD.out _).mono ?_
      rintro e w1 ⟨rfl, hb⟩
      have k0 := K0.out.below hb
      have q0 := k0.cell
      have KK1 := Lib.hid (K1.out.below hb)
      have KK2 := Lib.hid (K2.out.below hb)
      have N1 := Lib.hid (HN.out.below (hb.mono (by simp; omega)))
      have B4 := Lib.hid (B3.out.trans (hb.mono (by simp; omega)))
      have s1 := hb.size
      simp only [World.size_alloc] at s1
      clear hb k0
      go_wp2_with fail
      refine (copied_any a _ c true xs _ _ N1.out rfl (by omega) (by omega)).mono ?_
      rintro e w2 ⟨a2, c2, rfl, ho, hb⟩
      have k1 := KK1.out.below hb
      have k2 := KK2.out.below hb
      have q1 := k1.cell
      have f1 := k1.frozen
      have q2 := k2.cell
      have f2 := k2.frozen
      have HP := Lib.hid (nx_stored (b := true) (k := 0) (y := 0) (t := 0) (v := 0) (C := 2) rfl ho (B4.out.trans (hb.mono (by omega))) (show w.heap.size ≤ w.heap.size + 1 by omega) (by omega) (show w.heap.size ≤ w.heap.size + 1 + 1 by omega) (by omega))
      clear ho hb k1 k2 q0
      go_wp2
      exact bodyPost_ret (v := .tuple #[.agg #[.slice a2 xs.length c2, .bool true], (.agg #[.int .i64 0, .int .i64 0, .int .i64 0, .int .i64 0]), .int .i64 2]) (by simp [results, Tryz.results64, go_sem, q1, q2]) rfl HP.out
    | false =>
      have hg : nxGood xs false = true := by rw [hgd, hk]; rfl
      have HG := Lib.hid hg
      clear hk hgd hg
      go_enter Tryz.func64, Tryz.ntmps64
      go_wp2_with fail
      refine (HD.out _).mono ?_
      rintro e w1 ⟨rfl, hb⟩
      have k0 := K0.out.below hb
      have q0 := k0.cell
      have s1 := hb.size
      simp only [World.size_alloc] at s1
      have KK0 := Lib.hid (k0.alloc (.cells #[.slice a xs.length c, .nilIface] 173))
      have KK1 := Lib.hid ((K1.out.below hb).alloc (.cells #[.slice a xs.length c, .nilIface] 173))
      have KK2 := Lib.hid ((K2.out.below hb).alloc (.cells #[.slice a xs.length c, .nilIface] 173))
      have be := (Below.refl w.heap.size w1).alloc (by omega) (.cells #[.slice a xs.length c, .nilIface] 173)
      have hb' := hb.mono (show w.heap.size ≤ _ by simp; omega)
      have N1 := Lib.hid ((HN.out.below hb').below be)
      have F1 := Lib.hid (((HF.out.below hb').below be).more (show w.heap.size ≤ w1.heap.size by omega))
      have B4 := Lib.hid (B3.out.trans (hb'.trans be))
      have R1 := Lib.hid (show Rd (w1.alloc (.cells #[.slice a xs.length c, .nilIface] 173)) w1.heap.size a xs.length c xs .nilIface from ⟨Blk.new _ _ _, N1.out.more (by omega), rfl⟩)
      clear hb k0 hb' be
      go_wp2_with fail
      refine (next_any _ _ _ _ xs aB aS _ R1.out HX.out F1.out).mono ?_
      rintro e w2 ⟨hgr, a2, n2, c2, hcase⟩
      have G2 := Lib.hid (below_grown_own hgr (Nat.le_refl w1.heap.size) (by simp))
      have s2 := G2.out.size
      simp only [World.size_alloc] at s2
      have B5 := Lib.hid (B4.out.trans (G2.out.mono (by omega)))
      have L0 := Lib.hid (KK0.out.belowB G2.out (by omega))
      have L1 := Lib.hid (KK1.out.belowB G2.out (by omega))
      have L2 := Lib.hid (KK2.out.belowB G2.out (by omega))
      have F2 := Lib.hid (F1.out.below G2.out)
      have N2 := Lib.hid (N1.out.below (G2.out.mono (by omega)))
      clear hgr q0
      rcases hcase with ⟨hh1, rfl, hr1⟩ | ⟨hh1, hm1, rfl, hr1⟩ | ⟨hh1, hm1, rfl, hr1⟩
      · have hE := nx_here HG.out hh1
        have hdl : (xs.drop (put0 xs).length).length ≤ 4194304 := by rw [List.length_drop]; omega
        obtain ⟨ys, hys⟩ : ∃ ys, ys = xs.drop (put0 xs).length := ⟨_, rfl⟩
        rw [← hys] at hr1 hE hdl
        have HE := Lib.hid hE
        clear hys hE
        have bf := (Below.refl w2.heap.size w2).alloc (Nat.le_refl _) (.cells #[.int .i64 (f0K xs), .int .i64 (f0Y xs), .int .i64 (f0T xs), .int .i64 (f0V xs)] 97)
        have FF := Lib.hid (F2.out.below (bf.mono (by omega)))
        have gS := FF.out.short
        have gB := FF.out.bent
        have RB := Lib.hid (hr1.blk.alloc (.cells #[.int .i64 (f0K xs), .int .i64 (f0Y xs), .int .i64 (f0T xs), .int .i64 (f0V xs)] 97))
        have RN := Lib.hid (((hr1.nums.below (bf.drew.mono (by omega)))).more (show w1.heap.size ≤ w2.heap.size by omega))
        have RL := Lib.hid hr1.len
        have KF := Lib.hid (Blk.new w2 97 #[.int .i64 (f0K xs), .int .i64 (f0Y xs), .int .i64 (f0T xs), .int .i64 (f0V xs)])
        have M1 := Lib.hid (L1.out.alloc (.cells #[.int .i64 (f0K xs), .int .i64 (f0Y xs), .int .i64 (f0T xs), .int .i64 (f0V xs)] 97))
        have M2 := Lib.hid (L2.out.alloc (.cells #[.int .i64 (f0K xs), .int .i64 (f0Y xs), .int .i64 (f0T xs), .int .i64 (f0V xs)] 97))
        have B6 := Lib.hid (B5.out.trans (bf.mono (by omega)))
        have q := RB.out.cell
        have l1 := hr1.blk.lt
        have qf := KF.out.cell
        clear hr1 bf hh1
        go_wp2_with fail
        refine (is_nil aS _).mono ?_
        rintro e w' ⟨rfl, rfl⟩
        go_wp2_with fail
        refine (is_nil aB _).mono ?_
        rintro e w' ⟨rfl, rfl⟩
        have hsz : w2.heap.size ≤ (w2.alloc (.cells #[.int .i64 (f0K xs), .int .i64 (f0Y xs), .int .i64 (f0T xs), .int .i64 (f0V xs)] 97)).drew.heap.size := by rw [size_drew_, World.size_alloc]; omega
        go_wp2_with fail
        go_region_with (go_at_call 109; refine (clone_any a2 n2 c2 ys w2.heap.size _ RN.out RL.out hsz hdl).mono ?_; rintro e w3 ⟨a3, c3, rfl, ho, hb⟩; have m1 := M1.out.drew.below hb; have m2 := M2.out.drew.below hb; have mf := KF.out.drew.below hb; have mq1 := m1.cell; have mf1 := m1.frozen; have mq2 := m2.cell; have mf2 := m2.frozen; have mqf := mf.cell; have HP := Lib.hid ((nx_stored (b := false) (k := f0K xs) (y := f0Y xs) (t := f0T xs) (v := f0V xs) (C := 0) rfl ho (B6.out.drew.trans (hb.mono (by omega))) (show w.heap.size ≤ w.heap.size + 1 by omega) (by omega) (show w.heap.size ≤ w.heap.size + 1 + 1 by omega) (by omega)).as HE.out); clear ho hb m1 m2 mf)
        all_goals
          go_wp2
          exact bodyPost_ret (v := .tuple #[.agg #[.slice a3 ys.length c3, .bool false], (.agg #[.int .i64 (f0K xs), .int .i64 (f0Y xs), .int .i64 (f0T xs), .int .i64 (f0V xs)]), .int .i64 0]) (by simp [results, Tryz.results64, go_sem, mq1, mq2]) rfl HP.out
      · have HE := Lib.hid (nx_more HG.out hh1 hm1)
        have bf := (Below.refl w2.heap.size w2).alloc (Nat.le_refl _) (.cells #[.int .i64 0, .int .i64 0, .int .i64 0, .int .i64 0] 97)
        have FF := Lib.hid (F2.out.below (bf.mono (by omega)))
        have gS := FF.out.short
        have gB := FF.out.bent
        have RB := Lib.hid (hr1.blk.alloc (.cells #[.int .i64 0, .int .i64 0, .int .i64 0, .int .i64 0] 97))
        have M0 := Lib.hid (L0.out.alloc (.cells #[.int .i64 0, .int .i64 0, .int .i64 0, .int .i64 0] 97))
        have M1 := Lib.hid (L1.out.alloc (.cells #[.int .i64 0, .int .i64 0, .int .i64 0, .int .i64 0] 97))
        have M2 := Lib.hid (L2.out.alloc (.cells #[.int .i64 0, .int .i64 0, .int .i64 0, .int .i64 0] 97))
        have N3 := Lib.hid (N2.out.below (bf.mono (by omega)))
        have B6 := Lib.hid (B5.out.trans (bf.mono (by omega)))
        have q := RB.out.cell
        have l1 := hr1.blk.lt
        have q0 := M0.out.cell
        clear hr1 bf hh1 hm1
        go_wp2_with fail
        refine (is_same aS _).mono ?_
        rintro e w' ⟨rfl, rfl⟩
        go_wp2_with fail
        refine (copied_any a _ c false xs _ _ N3.out rfl (by simp; omega) (by omega)).mono ?_
        rintro e w3 ⟨a3, c3, rfl, ho, hb⟩
        have m1 := M1.out.below hb
        have m2 := M2.out.below hb
        have mq1 := m1.cell
        have mf1 := m1.frozen
        have mq2 := m2.cell
        have mf2 := m2.frozen
        simp only [World.size_alloc] at ho
        have HP := Lib.hid ((nx_stored (b := false) (k := 0) (y := 0) (t := 0) (v := 0) (C := 1) rfl ho (B6.out.trans (hb.mono (by simp; omega))) (show w.heap.size ≤ w.heap.size + 1 by omega) (by omega) (show w.heap.size ≤ w.heap.size + 1 + 1 by omega) (by omega)).as HE.out)
        clear ho hb m1 m2 q0 q gS gB
        go_wp2
        exact bodyPost_ret (v := .tuple #[.agg #[.slice a3 xs.length c3, .bool false], (.agg #[.int .i64 0, .int .i64 0, .int .i64 0, .int .i64 0]), .int .i64 1]) (by simp [results, Tryz.results64, go_sem, mq1, mq2]) rfl HP.out
      · have HE := Lib.hid (nx_bent HG.out hh1 hm1)
        have bf := (Below.refl w2.heap.size w2).alloc (Nat.le_refl _) (.cells #[.int .i64 0, .int .i64 0, .int .i64 0, .int .i64 0] 97)
        have FF := Lib.hid (F2.out.below (bf.mono (by omega)))
        have gS := FF.out.short
        have gB := FF.out.bent
        have RB := Lib.hid (hr1.blk.alloc (.cells #[.int .i64 0, .int .i64 0, .int .i64 0, .int .i64 0] 97))
        have M1 := Lib.hid (L1.out.alloc (.cells #[.int .i64 0, .int .i64 0, .int .i64 0, .int .i64 0] 97))
        have M2 := Lib.hid (L2.out.alloc (.cells #[.int .i64 0, .int .i64 0, .int .i64 0, .int .i64 0] 97))
        have B6 := Lib.hid (B5.out.trans (bf.mono (by omega)))
        have q := RB.out.cell
        have l1 := hr1.blk.lt
        have HP := Lib.hid ((nx_stored0 (b := true) (k := 0) (y := 0) (t := 0) (v := 0) (C := 2) B6.out (show w.heap.size ≤ w.heap.size + 1 by omega) (show w.heap.size ≤ w.heap.size + 1 + 1 by omega)).as HE.out)
        have mq1 := M1.out.cell
        have mf1 := M1.out.frozen
        have mq2 := M2.out.cell
        have mf2 := M2.out.frozen
        clear hr1 bf hh1 hm1
        go_wp2_with fail
        obtain ⟨⟨cb, tb, hcb⟩, ⟨cs, ts, hcs⟩⟩ := FF.out.rows
        refine (is_other aB aS cb cs tb ts _ FF.out.ne hcb hcs).mono ?_
        rintro e w' ⟨rfl, rfl⟩
        go_wp2_with fail
        refine (is_same aB _).mono ?_
        rintro e w' ⟨rfl, rfl⟩
        go_wp2
        exact bodyPost_ret (v := .tuple #[.agg #[.slice none 0 0, .bool true], (.agg #[.int .i64 0, .int .i64 0, .int .i64 0, .int .i64 0]), .int .i64 2]) (by simp [results, Tryz.results64, go_sem, mq1, mq2]) rfl HP.out

end Go.Proofs.YtnfhlfbkdhpacaaGreatDoor
