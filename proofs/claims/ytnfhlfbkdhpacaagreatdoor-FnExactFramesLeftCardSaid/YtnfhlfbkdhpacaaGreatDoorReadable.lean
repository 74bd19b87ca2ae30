/- Readable: whether a connection has a frame, on impl's and on spec's side. (made by tools/mkread.py) -/
import Derived.Test.YtnfhlfbkdhpacaaGreatDoorInFl
import Derived.Test.YtnfhlfbkdhpacaaGreatDoorNextSpec
namespace Go.Proofs.YtnfhlfbkdhpacaaGreatDoor
open Go.RowKit

def rdC (S : Cn) : Bool := nxGood S.l S.bad && ((nx S.l S.bad).code != 1)
def rdb (E : En) (x : Int) : Bool := inB x 0 ((E.cs.length : Int) - 1) && rdC (rel cnD E.cs x.toNat)
/-- The bytes of its connections are bytes. -/
def EnB (E : En) : Prop := ∀ i, i < E.cs.length → ∀ x ∈ (rel cnD E.cs i).l, 0 ≤ x ∧ x ≤ 255
set_option maxHeartbeats 2000000 in
set_option maxRecDepth 100000 in
theorem hasFr_x (xl : List Int) (bad : Bool) (mx mr sn : Int) (idl opn : Bool) (a : Option Addr) (c : Nat) (aB aS : Addr) (w : World) (hN : Nums .u8 w w.heap.size a c xl) (hx : IsB xl) (hl : xl.length ≤ 1048576) (hf : Flt w w.heap.size aB aS) :
    Calls Tryz.prog 63 #[.agg #[.slice a xl.length c, .bool bad, .int .i64 mx, .int .i64 mr, .int .i64 sn, .bool idl, .bool opn]] w fun e w' => e = .returned (.bool (rdC ⟨xl, bad, mx, mr, sn, idl, opn⟩)) ∧ Below w.heap.size w w' := by
  unfold rdC
  simp only
  have hc1 := hN.cap
  have hc2 := hN.big
  cases bad with
  | false =>
    cases hd : dOk xl.length false with
    | false =>
      have b1 := (Below.refl w.heap.size w).alloc (Nat.le_refl _) (.cells #[.slice a xl.length c, .bool false, .int .i64 mx, .int .i64 mr, .int .i64 sn, .bool idl, .bool opn] 95)
      have B1 := Lib.hid b1
      have K1 := Lib.hid (Blk.new w 95 #[.slice a xl.length c, .bool false, .int .i64 mx, .int .i64 mr, .int .i64 sn, .bool idl, .bool opn])
      have HD := Lib.hid (fun W => implDecOk_any a xl.length c false W (by omega))
      rw [hd] at HD
      have hg : nxGood xl false = false := by simp [nxGood, hd]
      rw [hg, Bool.false_and]
      clear b1 hN hf hx hg hd
      go_enter Tryz.func63, Tryz.ntmps63
      go_wp2_with fail
      refine (HD.out _).mono ?_
      rintro e w1 ⟨rfl, hb⟩
      have k2 := K1.out.below hb
      have B2 := Lib.hid (B1.out.trans (hb.mono B1.out.size))
      have q2 := k2.cell
      clear hb
      go_wp2
      go_ret
      exact ⟨rfl, B2.out⟩
    | true =>
      have b1 := (Below.refl w.heap.size w).alloc (Nat.le_refl _) (.cells #[.slice a xl.length c, .bool false, .int .i64 mx, .int .i64 mr, .int .i64 sn, .bool idl, .bool opn] 95)
      have B1 := Lib.hid b1
      have K1 := Lib.hid (Blk.new w 95 #[.slice a xl.length c, .bool false, .int .i64 mx, .int .i64 mr, .int .i64 sn, .bool idl, .bool opn])
      have HD := Lib.hid (fun W => implDecOk_any a xl.length c false W (by omega))
      rw [hd] at HD
      have hg : nxGood xl false = true := by simp [nxGood, hd]
      rw [hg, Bool.true_and]
      have HT : Hid (∀ W : World, Below w.heap.size w W → Calls Tryz.prog 64 #[.agg #[.slice a xl.length c, .bool false]] W (NextRes (nx xl false) W)) := Lib.hid (fun W hb => implNext_any w.heap.size a _ c false xl aB aS W (hN.below hb) rfl hb.size hx hl ((hf.below hb).more hb.size))
      generalize nx xl false = r at HT ⊢
      clear b1 hN hf hx hg hd
      go_enter Tryz.func63, Tryz.ntmps63
      go_wp2_with fail
      refine (HD.out _).mono ?_
      rintro e w1 ⟨rfl, hb⟩
      have k2 := K1.out.below hb
      have B2 := Lib.hid (B1.out.trans (hb.mono B1.out.size))
      have q2 := k2.cell
      clear hb
      go_wp2_with fail
      clear q2
      refine (HT.out _ B2.out).mono ?_
      rintro e w2 ⟨a2, c2, rfl, _, hb⟩
      have B3 := B2.out.trans (hb.mono B2.out.size)
      have BE := Lib.hid fun cs ds : Array Value => (B3.alloc B3.size (.cells cs 91)).alloc (by simp; have := B3.size; omega) (.cells ds 97)
      clear hb B3
      obtain ⟨left, rb, rk, ry, rt, rv, rc⟩ := r
      simp only
      go_wp2
      go_ret
      exact ⟨rfl, BE.out _ _⟩
  | true =>
    cases hd : dOk xl.length true with
    | false =>
      have b1 := (Below.refl w.heap.size w).alloc (Nat.le_refl _) (.cells #[.slice a xl.length c, .bool true, .int .i64 mx, .int .i64 mr, .int .i64 sn, .bool idl, .bool opn] 95)
      have B1 := Lib.hid b1
      have K1 := Lib.hid (Blk.new w 95 #[.slice a xl.length c, .bool true, .int .i64 mx, .int .i64 mr, .int .i64 sn, .bool idl, .bool opn])
      have HD := Lib.hid (fun W => implDecOk_any a xl.length c true W (by omega))
      rw [hd] at HD
      have hg : nxGood xl true = false := by simp [nxGood, hd]
      rw [hg, Bool.false_and]
      clear b1 hN hf hx hg hd
      go_enter Tryz.func63, Tryz.ntmps63
      go_wp2_with fail
      refine (HD.out _).mono ?_
      rintro e w1 ⟨rfl, hb⟩
      have k2 := K1.out.below hb
      have B2 := Lib.hid (B1.out.trans (hb.mono B1.out.size))
      have q2 := k2.cell
      clear hb
      go_wp2
      go_ret
      exact ⟨rfl, B2.out⟩
    | true =>
      have b1 := (Below.refl w.heap.size w).alloc (Nat.le_refl _) (.cells #[.slice a xl.length c, .bool true, .int .i64 mx, .int .i64 mr, .int .i64 sn, .bool idl, .bool opn] 95)
      have B1 := Lib.hid b1
      have K1 := Lib.hid (Blk.new w 95 #[.slice a xl.length c, .bool true, .int .i64 mx, .int .i64 mr, .int .i64 sn, .bool idl, .bool opn])
      have HD := Lib.hid (fun W => implDecOk_any a xl.length c true W (by omega))
      rw [hd] at HD
      have hg : nxGood xl true = false := by simp [nxGood, hd]
      rw [hg, Bool.false_and]
      clear b1 hN hf hx hg hd
      go_enter Tryz.func63, Tryz.ntmps63
      go_wp2_with fail
      refine (HD.out _).mono ?_
      rintro e w1 ⟨rfl, hb⟩
      have k2 := K1.out.below hb
      have B2 := Lib.hid (B1.out.trans (hb.mono B1.out.size))
      have q2 := k2.cell
      clear hb
      go_wp2
      go_ret
      exact ⟨rfl, B2.out⟩
set_option maxHeartbeats 4000000 in
set_option maxRecDepth 100000 in
theorem specRead_any (E : En) (q : Pl) (L : List Value) (x : Int) (w : World) (hL : L = evL E q) (hr : EnR w w.heap.size q E) (hf : EnFits E) (hB : EnB E) :
    Calls Tryz.prog 131 #[.agg L.toArray, .int .i64 x] w fun e w' => e = .returned (.bool (rdb E x)) ∧ Below w.heap.size w w' := by
  have K := Blk.new w 45 L.toArray
  have b1 := (Below.refl w.heap.size w).alloc (Nat.le_refl _) (.cells L.toArray 45)
  have c11 : (w.alloc (.cells L.toArray 45)).cell? ⟨w.heap.size, 11, none⟩ = some (.slice q.a0 E.cs.length q.c0) := by rw [K.cell, hL]; rfl
  unfold EnFits at hf
  unfold rdb
  have f1 : E.cs.length + totH hdCn cnD E.cs E.cs.length ≤ 1048576 := by omega
  have hQ := hr.cs.below b1
  have m3 := hQ.cap
  have m4 := hQ.big
  have B1 := Lib.hid b1
  have K1 := Lib.hid K
  have q11 := c11
  obtain ⟨qa, hqa⟩ : ∃ z, z = q.a0 := ⟨_, rfl⟩
  obtain ⟨qc, hqc⟩ : ∃ z, z = q.c0 := ⟨_, rfl⟩
  unfold EnB at hB
  obtain ⟨cs, hcs⟩ : ∃ z, z = E.cs := ⟨_, rfl⟩
  rw [← hqa, ← hqc, ← hcs] at hQ c11
  rw [← hqc, ← hcs] at m3
  rw [← hqc] at m4
  rw [← hcs] at f1 hB ⊢
  clear q11 hf hr hqa hqc hcs K hL
  have e63 : ((cs.length : Int) - 1) = IntKind.i64.wrap ((cs.length : Int) - 1) := (IntWalk.i64_in _ (by omega)).symm
  cases hin : inB x 0 ((cs.length : Int) - 1) with
  | false =>
    rw [Bool.false_and]
    have HI := Lib.hid (fun W => specIn_any x 0 ((cs.length : Int) - 1) W)
    rw [hin] at HI
    clear hin hQ e63
    go_enter Tryz.func131, Tryz.ntmps131
    go_wp2_with fail
    refine (HI.out _).mono ?_
    rintro e w1 ⟨rfl, rfl⟩
    go_wp2
    go_ret
    exact ⟨rfl, B1.out⟩
  | true =>
    rw [Bool.true_and]
    have HI := Lib.hid (fun W => specIn_any x 0 ((cs.length : Int) - 1) W)
    rw [hin] at HI
    have hin2 : 0 ≤ x ∧ x ≤ (cs.length : Int) - 1 := by simpa [inB] using hin
    obtain ⟨j, rfl⟩ := Int.eq_ofNat_of_zero_le hin2.1
    have hlt : j < cs.length := by omega
    have hlt' : (j : Int) < (cs.length : Int) := by omega
    obtain ⟨b, off, rfl, hbh, hcell⟩ := hQ.cells (by omega)
    obtain ⟨ai, ci, h0, hq, hrd⟩ := hcell j hlt
    have hIB := hB j hlt
    have hln := head_le (H := hdCn) (d := cnD) (l := cs) hlt
    rw [Int.toNat_natCast]
    generalize rel cnD cs j = S at h0 hq hrd hIB hln ⊢
    obtain ⟨xl, bad, mx, mr, sn, idl, opn⟩ := S
    simp only at hIB
    have hrd : Nums .u8 (w.alloc (.cells L.toArray 45)) w.heap.size ai ci xl := hrd
    have hln : xl.length ≤ totH hdCn cnD cs cs.length := hln
    have q0 : (w.alloc (.cells L.toArray 45)).cell? ⟨b, off + j * 7, none⟩ = some (.slice ai xl.length ci) := h0
    have q1 : (w.alloc (.cells L.toArray 45)).cell? ⟨b, off + j * 7 + 1, none⟩ = some (.bool bad) := hq 0 (by omega)
    have q2 : (w.alloc (.cells L.toArray 45)).cell? ⟨b, off + j * 7 + 2, none⟩ = some (.int .i64 mx) := hq 1 (by omega)
    have q3 : (w.alloc (.cells L.toArray 45)).cell? ⟨b, off + j * 7 + 3, none⟩ = some (.int .i64 mr) := hq 2 (by omega)
    have q4 : (w.alloc (.cells L.toArray 45)).cell? ⟨b, off + j * 7 + 4, none⟩ = some (.int .i64 sn) := hq 3 (by omega)
    have q5 : (w.alloc (.cells L.toArray 45)).cell? ⟨b, off + j * 7 + 5, none⟩ = some (.bool idl) := hq 4 (by omega)
    have q6 : (w.alloc (.cells L.toArray 45)).cell? ⟨b, off + j * 7 + 6, none⟩ = some (.bool opn) := hq 5 (by omega)
    have hm1 := hrd.cap
    have hm2 := hrd.big
    have HRD := Lib.hid hrd
    have HIB := Lib.hid (show IsB xl from hIB)
    clear hin hin2 hB hQ hcell h0 hq hrd hIB e63
    have b2 := (Below.refl _ (w.alloc (.cells L.toArray 45))).alloc (Nat.le_refl _) (.cells #[.slice ai xl.length ci, .bool bad] 91)
    have B2 := Lib.hid (B1.out.trans (b2.mono B1.out.size))
    have KD := Lib.hid (Blk.new (w.alloc (.cells L.toArray 45)) 91 #[.slice ai xl.length ci, .bool bad])
    have HT : Hid (∀ W : World, Below w.heap.size (w.alloc (.cells L.toArray 45)) W → Calls Tryz.prog 61 #[.agg #[.slice ai xl.length ci, .bool bad]] W (NextRes (nx xl bad) W)) :=
      Lib.hid (fun W hb => specNext_any w.heap.size ai _ ci bad xl W (HRD.out.below hb) rfl (Nat.le_trans B1.out.size hb.size) HIB.out (by omega))
    have HD := Lib.hid (fun W => specDecOk_any ai xl.length ci bad W (by omega))
    have HB2 := Lib.hid (b2.mono B1.out.size)
    unfold rdC
    simp only
    clear HRD HIB b2
    rcases hg : nxGood xl bad with _ | _
    · -- not good
      rw [Bool.false_and]
      rw [nx_bad hg] at HT
      have hdb : dOk xl.length bad = false ∨ bad = true := by cases bad with | true => exact .inr rfl | false => exact .inl (by simpa [nxGood] using hg)
      by_cases hdk : dOk xl.length bad = true
      · have hbt : bad = true := by rcases hdb with h | h; (rw [h] at hdk; cases hdk); exact h
        subst hbt
        rw [hdk] at HD
        clear hdb hdk hg
        go_enter Tryz.func131, Tryz.ntmps131
        go_wp2_with fail
        refine (HI.out _).mono ?_
        rintro e w1 ⟨rfl, rfl⟩
        go_wp2_with fail
        refine (HT.out _ HB2.out).mono ?_
        rintro e w2 ⟨a2, c2, rfl, _, hb⟩
        have k3 := KD.out.below hb
        simp only [World.size_alloc] at k3
        have B3 := Lib.hid (B2.out.trans (hb.mono B2.out.size))
        clear hb
        simp only
        have s3 := B3.out.size
        have K5 := Lib.hid fun cs ds : Array Value => (k3.alloc (.cells cs 91)).alloc (.cells ds 97)
        have B5 := Lib.hid fun cs ds : Array Value => (B3.out.alloc s3 (.cells cs 91)).alloc (by simp; omega) (.cells ds 97)
        have q7 := fun cs ds => (K5.out cs ds).cell
        clear k3
        go_wp2_with fail
        clear q7
        refine (HD.out _).mono ?_
        rintro e w6 ⟨rfl, hb⟩
        have q8 := ((K5.out _ _).below hb).cell
        have B6 := Lib.hid ((B5.out _ _).trans (hb.mono (B5.out _ _).size))
        clear hb
        go_wp2
        go_ret
        exact ⟨rfl, B6.out⟩
      · have hdf : dOk xl.length bad = false := by simpa using hdk
        rw [hdf] at HD
        clear hdb hdk hg hdf
        go_enter Tryz.func131, Tryz.ntmps131
        go_wp2_with fail
        refine (HI.out _).mono ?_
        rintro e w1 ⟨rfl, rfl⟩
        go_wp2_with fail
        refine (HT.out _ HB2.out).mono ?_
        rintro e w2 ⟨a2, c2, rfl, _, hb⟩
        have k3 := KD.out.below hb
        simp only [World.size_alloc] at k3
        have B3 := Lib.hid (B2.out.trans (hb.mono B2.out.size))
        clear hb
        simp only
        have s3 := B3.out.size
        have K5 := Lib.hid fun cs ds : Array Value => (k3.alloc (.cells cs 91)).alloc (.cells ds 97)
        have B5 := Lib.hid fun cs ds : Array Value => (B3.out.alloc s3 (.cells cs 91)).alloc (by simp; omega) (.cells ds 97)
        have q7 := fun cs ds => (K5.out cs ds).cell
        clear k3
        go_wp2_with fail
        clear q7
        refine (HD.out _).mono ?_
        rintro e w6 ⟨rfl, hb⟩
        have q8 := ((K5.out _ _).below hb).cell
        have B6 := Lib.hid ((B5.out _ _).trans (hb.mono (B5.out _ _).size))
        clear hb
        go_wp2
        go_ret
        exact ⟨rfl, B6.out⟩
    · rw [Bool.true_and]
      have hgd : dOk xl.length bad = true ∧ bad = false := by simpa [nxGood] using hg
      obtain ⟨hd, rfl⟩ := hgd
      rw [hd] at HD
      by_cases h1 : tkHere xl = true
      · -- here
        rw [nx_here hg h1] at HT ⊢
        clear hg hd h1
        go_enter Tryz.func131, Tryz.ntmps131
        go_wp2_with fail
        refine (HI.out _).mono ?_
        rintro e w1 ⟨rfl, rfl⟩
        go_wp2_with fail
        refine (HT.out _ HB2.out).mono ?_
        rintro e w2 ⟨a2, c2, rfl, _, hb⟩
        have k3 := KD.out.below hb
        simp only [World.size_alloc] at k3
        have B3 := Lib.hid (B2.out.trans (hb.mono B2.out.size))
        clear hb
        simp only
        have s3 := B3.out.size
        have K5 := Lib.hid fun cs ds : Array Value => (k3.alloc (.cells cs 91)).alloc (.cells ds 97)
        have B5 := Lib.hid fun cs ds : Array Value => (B3.out.alloc s3 (.cells cs 91)).alloc (by simp; omega) (.cells ds 97)
        have q7 := fun cs ds => (K5.out cs ds).cell
        clear k3
        go_wp2
        go_ret
        exact ⟨rfl, B5.out _ _⟩
      · by_cases h2 : tkMore xl = true
        · -- more
          have h1 : tkHere xl = false := by simpa using h1
          rw [nx_more hg h1 h2] at HT ⊢
          clear hg hd h1 h2
          go_enter Tryz.func131, Tryz.ntmps131
          go_wp2_with fail
          refine (HI.out _).mono ?_
          rintro e w1 ⟨rfl, rfl⟩
          go_wp2_with fail
          refine (HT.out _ HB2.out).mono ?_
          rintro e w2 ⟨a2, c2, rfl, _, hb⟩
          have k3 := KD.out.below hb
          simp only [World.size_alloc] at k3
          have B3 := Lib.hid (B2.out.trans (hb.mono B2.out.size))
          clear hb
          simp only
          have s3 := B3.out.size
          have K5 := Lib.hid fun cs ds : Array Value => (k3.alloc (.cells cs 91)).alloc (.cells ds 97)
          have B5 := Lib.hid fun cs ds : Array Value => (B3.out.alloc s3 (.cells cs 91)).alloc (by simp; omega) (.cells ds 97)
          have q7 := fun cs ds => (K5.out cs ds).cell
          clear k3
          go_wp2
          go_ret
          exact ⟨rfl, B5.out _ _⟩
        · -- bent
          have h1 : tkHere xl = false := by simpa using h1
          have h2 : tkMore xl = false := by simpa using h2
          rw [nx_bent hg h1 h2] at HT ⊢
          clear hg hd h1 h2
          go_enter Tryz.func131, Tryz.ntmps131
          go_wp2_with fail
          refine (HI.out _).mono ?_
          rintro e w1 ⟨rfl, rfl⟩
          go_wp2_with fail
          refine (HT.out _ HB2.out).mono ?_
          rintro e w2 ⟨a2, c2, rfl, _, hb⟩
          have k3 := KD.out.below hb
          simp only [World.size_alloc] at k3
          have B3 := Lib.hid (B2.out.trans (hb.mono B2.out.size))
          clear hb
          simp only
          have s3 := B3.out.size
          have K5 := Lib.hid fun cs ds : Array Value => (k3.alloc (.cells cs 91)).alloc (.cells ds 97)
          have B5 := Lib.hid fun cs ds : Array Value => (B3.out.alloc s3 (.cells cs 91)).alloc (by simp; omega) (.cells ds 97)
          have q7 := fun cs ds => (K5.out cs ds).cell
          clear k3
          go_wp2_with fail
          clear q7
          refine (HD.out _).mono ?_
          rintro e w6 ⟨rfl, hb⟩
          have q8 := ((K5.out _ _).below hb).cell
          have B6 := Lib.hid ((B5.out _ _).trans (hb.mono (B5.out _ _).size))
          clear hb
          go_wp2
          go_ret
          exact ⟨rfl, B6.out⟩
end Go.Proofs.YtnfhlfbkdhpacaaGreatDoor