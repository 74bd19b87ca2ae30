/- The laws' own helpers over slices of slices of ints: the copy, the comparison, the marks. -/
import Derived.Test.YtpigollgjpkflaaRowsS
import Derived.Deep.RegionWith
namespace Go.Proofs.Ytpigollgjpkflaa
open Go.RowKit

theorem infoSl : (Try.prog.info? 29).map (fun i => (i.zero, i.size, i.bytes)) = some (some (.slice none 0 0), 1, 24) := by kernel_rfl
theorem info_partsSl (h : (Try.prog.info? 29).map (fun i => (i.zero, i.size, i.bytes)) = some (some (.slice none 0 0), 1, 24)) : ∃ i0, Try.prog.info? 29 = some i0 ∧ i0.zero = some (.slice none 0 0) ∧ i0.size = 1 ∧ i0.bytes = 24 := by
  cases hi : Try.prog.info? 29 with
  | none => rw [hi] at h; cases h
  | some i => rw [hi] at h; simp at h; exact ⟨i, rfl, h.1, h.2.1, h.2.2⟩

theorem madeSl_size (n : Nat) : (madeCells #[Value.slice none 0 0] n).size = n := by
  rw [size_madeCells]
theorem Blk.set__ {w : World} {g : Nat} {t : TypeId} {cs : Array Value} (h : Blk w g t cs) (i : Nat) (u : Value) : Blk (w.setCell ⟨g, i, none⟩ u) g t (cs.setIfInBounds i u) := by
  unfold Blk at h ⊢
  simp [World.setCell, Array.getElem?_modify, h]

/-- The copy, k rows done. -/
structure Copied (lo : Nat) (g : Nat) (ess : List (List Int)) (k : Nat) (W : World) : Prop where
  ex : ∃ (row : Nat → Option Addr × Nat) (cs : Array Value), Blk W g 29 cs ∧ cs.size = ess.length ∧
    (∀ i, i < k → cs[i]? = some (.slice (row i).1 (ess.getD i []).length (row i).2)) ∧
    (∀ i, i < k → Rw 3 1 lo W.heap.size (row i).1 (ess.getD i []).length (row i).2 ((ess.getD i []).map (Value.int .i64)) W) ∧
    (∀ i j, i < j → j < k → ∀ x, (Value.slice (row i).1 (ess.getD i []).length (row i).2).ownBlock = some x → (Value.slice (row j).1 (ess.getD j []).length (row j).2).ownBlock ≠ some x)
theorem Copied.start {lo g : Nat} {ess : List (List Int)} {W : World} {cs : Array Value} (h : Blk W g 29 cs) (hs : cs.size = ess.length) : Copied lo g ess 0 W :=
  ⟨⟨fun _ => (none, 0), cs, h, hs, fun i hi => absurd hi (by omega), fun i hi => absurd hi (by omega), fun i j _ hj => absurd hj (by omega)⟩⟩
/-- One row more. -/
theorem Copied.step {lo g k : Nat} {ess : List (List Int)} {W W' : World} (h : Copied lo g ess k W) (hk : k < ess.length) (hlo : lo ≤ W.heap.size) {a : Option Addr} {c : Nat}
    (ho : W'.ownsRow W.heap.size 3 1 (.slice a (ess.getD k []).length c) (ess.getD k []).length ((ess.getD k []).map (Value.int .i64))) (hb : Below W.heap.size W W') :
    Copied lo g ess (k + 1) (W'.setCell ⟨g, k, none⟩ (.slice a (ess.getD k []).length c)) := by
  obtain ⟨row, cs, hB, hs, hc, hr, hd⟩ := h.ex
  have hB' := hB.below hb
  have hne : ∀ {lo n c : Nat} {a : Option Addr} {xs : List Value}, W'.ownsRow lo 3 1 (.slice a n c) n xs → (Value.slice a n c).ownBlock ≠ some g := fun h1 => by
    rcases h1.2 with ⟨he, _⟩ | ⟨g', cap, cur, he, _, hh, _⟩
    · rw [he]; simp [Value.ownBlock]
    · rw [he]
      intro e
      have e' : g' = g := by simpa [Value.ownBlock] using e
      subst e'
      unfold Blk at hB'
      rw [hh] at hB'
      injection hB' with hB'
      injection hB' with _ ht
      exact absurd ht (by decide)
  have hset : ∀ {n c lo up : Nat} {b : Option Addr} {xs : List Value} (v : Value), Rw 3 1 lo up b n c xs W' → Rw 3 1 lo up b n c xs (W'.setCell ⟨g, k, none⟩ v) := fun v h1 =>
    ⟨h1.own.kept (grown_setCell _ _ _ _) (.inr (fun e => hne h1.own e)), h1.up⟩
  have hwide : ∀ {n c lo up lo' up' : Nat} {b : Option Addr} {xs : List Value} {V : World}, Rw 3 1 lo up b n c xs V → lo' ≤ lo → up ≤ up' → Rw 3 1 lo' up' b n c xs V := fun h1 h2 h3 =>
    ⟨owns_less h1.own h2, fun x hx => Nat.lt_of_lt_of_le (h1.up x hx) h3⟩
  have hsz : (W'.setCell ⟨g, k, none⟩ (.slice a (ess.getD k []).length c)).heap.size = W'.heap.size := by simp
  refine ⟨⟨fun i => if i = k then (a, c) else row i, cs.setIfInBounds k (.slice a (ess.getD k []).length c), hB'.set__ k _, by simpa using hs, fun i hi => ?_, fun i hi => ?_, fun i j hij hj x hx => ?_⟩⟩
  · by_cases he : i = k
    · subst he
      simp only [if_true]
      rw [Array.getElem?_setIfInBounds_self_of_lt (by omega)]
    · simp only [he, if_false]
      rw [Array.getElem?_setIfInBounds_ne (by omega)]
      exact hc i (by omega)
  · by_cases he : i = k
    · subst he
      simp only [if_true]
      refine hset _ (hwide (Rw.new ho) hlo ?_)
      rw [hsz]; exact Nat.le_refl _
    · simp only [he, if_false]
      refine hset _ (hwide ((hr i (by omega)).below hb (Nat.le_refl _)) (Nat.le_refl _) ?_)
      rw [hsz]; exact hb.size
  · have hik : i ≠ k := by omega
    simp only [hik, if_false] at hx
    by_cases he : j = k
    · subst he
      simp only [if_true]
      intro hy
      have h1 := (hr i (by omega)).up x hx
      have h2 := (ho.lt x hy).1
      omega
    · simp only [he, if_false]
      exact hd i j hij (by omega) x hx
theorem Copied.rows {lo g : Nat} {ess : List (List Int)} {W : World} (h : Copied lo g ess ess.length W) (hg : lo ≤ g) (hb : ess.length ≤ 9223372036854775807) : Rows2 lo W.heap.size (some ⟨g, 0, none⟩) ess.length ess W := by
  obtain ⟨row, cs, hB, hs, hc, hr, hd⟩ := h.ex
  exact ⟨Nat.le_refl _, hb, .inr ⟨g, row, cs, rfl, hg, hB.lt, hB, hc, hr, hd⟩⟩

set_option maxHeartbeats 1000000 in
set_option maxRecDepth 100000 in
theorem toGrid_any (a : Option Addr) (n c : Nat) (ess : List (List Int)) (hi : Nat) (w : World) (hr : Grid w hi a c ess) (hn : n = ess.length) (hB : hi ≤ w.heap.size) (hlen : ess.length + tot ess ess.length ≤ 1048576) :
    Calls Try.prog 40 #[.slice a n c] w (FreshRows ess w) := by
  subst hn
  obtain ⟨CS, hCS⟩ : ∃ CS, CS = madeCells #[Value.slice none 0 0] ess.length := ⟨_, rfl⟩
  have hmk := fun W => run_make_row' (P := Try.prog) 24 29 (.slice none 0 0) 24 Try.underlying24 infoSl rfl .i64 .i64 ess.length (by omega) (by omega) W
  rw [← hCS] at hmk
  have hcs : CS.size = ess.length := by rw [hCS]; exact madeSl_size ess.length
  have hc1 := hr.cap
  have hc2 := hr.big
  have HR := Lib.hid hr
  have C0 := Lib.hid (Copied.start (lo := w.heap.size) (Blk.new w 29 CS) hcs)
  have B0 := Lib.hid ((Below.refl w.heap.size w).alloc (Nat.le_refl _) (.cells CS 29))
  clear hr hCS hcs
  go_enter Try.func40, Try.ntmps40
  go_wp2
  go_loopw [4] (fun i wr => ∃ k : Nat, k ≤ ess.length ∧ i = .int .i64 k ∧ Copied w.heap.size w.heap.size ess k wr ∧ Below w.heap.size w wr) (fun i _ => ess.length - (intOf i).toNat)
  case atStart => exact ⟨0, Nat.zero_le _, rfl, C0.out, B0.out⟩
  case round =>
    obtain ⟨k, hk, rfl, hcp, hb⟩ := hrel
    have hsz := hb.size
    have HB := Lib.hid hb
    have HC := Lib.hid hcp
    by_cases hlt : k < ess.length
    · obtain ⟨b, off, rfl, hbh, hcell⟩ := (HR.out.below (hb.mono hB)).lies.resolve_left (by intro h; subst h; simp at hlt)
      obtain ⟨ai, ci, hck, hN⟩ := hcell k hlt
      have hrl := row_le ess hlt
      have HST := Lib.hid (fun (W' : World) (a : Option Addr) (c : Nat) ho hb => hcp.step (W' := W') hlt hsz (a := a) (c := c) ho hb)
      have HTI := Lib.hid (fun W (h : Nums .i64 W hi ai ci (ess.getD k [])) (hs : hi ≤ W.heap.size) => toInts_n ai _ ci (ess.getD k []) hi W h rfl hs (by omega))
      have HN := Lib.hid hN
      have hl1 := hN.cap
      have hl2 := hN.big
      clear hcell hcp hb hN hrl
      generalize ess.getD k [] = row at hck HST HTI HN hl1
      have hlt' : (k : Int) < (ess.length : Int) := by omega
      go_wp2_with fail
      refine (HTI.out _ HN.out (by omega)).mono ?_
      rintro e w3 ⟨a3, c3, rfl, ho, hb3⟩
      have HS3 := Lib.hid (HST.out w3 a3 c3 ho hb3)
      have HB3 := Lib.hid (HB.out.trans (hb3.mono hsz))
      have s3 := hb3.size
      have hfz : w3.frozen? ⟨w.heap.size, k, none⟩ = false := by
        obtain ⟨rw_, cs, hBk, hs_, _⟩ := HC.out.ex
        exact (hBk.below hb3).frozen k
      have hcl : ∃ v, w3.cell? ⟨w.heap.size, k, none⟩ = some v := by
        obtain ⟨rw_, cs, hBk, hs_, _⟩ := HC.out.ex
        rw [(hBk.below hb3).cell k]
        exact ⟨cs[k]'(by omega), by rw [Array.getElem?_eq_getElem]⟩
      obtain ⟨v0, hcl⟩ := hcl
      clear ho hb3
      go_wp2
      go_roundw
      case rel => exact ⟨k + 1, by omega, by go_num, HS3.out, HB3.out.setCell (p := ⟨w.heap.size, k, none⟩) (Nat.le_refl _) _⟩
      case measure => simp [intOf]; omega
    · obtain rfl : k = ess.length := by omega
      have HP : Hid (FreshRows ess w (.returned (.slice (some ⟨w.heap.size, 0, none⟩) ess.length ess.length)) wr) := ⟨_, _, rfl, hcp.rows (Nat.le_refl _) (by omega), hb⟩
      clear hcp hb
      go_wp2
      go_ret
      exact HP.out

set_option maxHeartbeats 1000000 in
set_option maxRecDepth 100000 in
theorem eqGrid_any (a b : Option Addr) (n m ca cb : Nat) (ess : List (List Int)) (ha hb : Nat) (w : World) (h1 : Grid w ha a ca ess) (h2 : Grid w hb b cb ess) (hn : n = ess.length) (hm : m = ess.length) (hB1 : ha ≤ w.heap.size) (hB2 : hb ≤ w.heap.size) :
    Calls Try.prog 42 #[.slice a n ca, .slice b m cb] w fun e w' => e = .returned (.bool true) ∧ Below w.heap.size w w' := by
  subst hn
  subst hm
  have hc1 := h1.cap
  have hc2 := h1.big
  have hc3 := h2.cap
  have hc4 := h2.big
  have H1 := Lib.hid h1
  have H2 := Lib.hid h2
  clear h1 h2
  go_enter Try.func42, Try.ntmps42
  go_wp2
  go_loopw [5] (fun i wr => ∃ k : Nat, k ≤ ess.length ∧ i = .int .i64 k ∧ Below w.heap.size w wr) (fun i _ => ess.length - (intOf i).toNat)
  case atStart => exact ⟨0, Nat.zero_le _, rfl, Below.refl _ _⟩
  case round =>
    obtain ⟨k, hk, rfl, hbw⟩ := hrel
    have hsz := hbw.size
    have HB := Lib.hid hbw
    by_cases hlt : k < ess.length
    · obtain ⟨b1, off1, rfl, _, hcell1⟩ := (H1.out.below (hbw.mono hB1)).lies.resolve_left (by intro h; subst h; simp at hlt)
      obtain ⟨b2, off2, rfl, _, hcell2⟩ := (H2.out.below (hbw.mono hB2)).lies.resolve_left (by intro h; subst h; simp at hlt)
      obtain ⟨a1, c1, hk1, hN1⟩ := hcell1 k hlt
      obtain ⟨a2, c2, hk2, hN2⟩ := hcell2 k hlt
      have HN1 := Lib.hid hN1
      have HN2 := Lib.hid hN2
      clear hcell1 hcell2 hN1 hN2 hbw
      generalize ess.getD k [] = row at hk1 hk2 HN1 HN2
      have hlt' : (k : Int) < (ess.length : Int) := by omega
      go_wp2_with fail
      go_region_with (go_at_call 41; refine (eqInts_b a1 a2 _ _ c1 c2 row _ _ _ (HN1.out.below (Below.refl _ _).drew) (HN2.out.below (Below.refl _ _).drew) rfl rfl).mono ?_; rintro e w3 ⟨rfl, hb⟩; have HB3 := Lib.hid ((HB.out.drew).trans (hb.mono hsz)); clear hb)
      all_goals
        clear hk1 hk2
        go_wp2
        go_roundw
        case rel => exact ⟨k + 1, by omega, by go_num, HB3.out⟩
        case measure => simp [intOf]; omega
    · obtain rfl : k = ess.length := by omega
      clear hbw
      go_wp2
      go_ret
      exact ⟨rfl, HB.out⟩

/-- The marks: j rows done. -/
structure MarkingG (lo up g : Nat) (row : Nat → Option Addr × Nat) (cs : Array Value) (ess : List (List Int)) (w : World) (j : Nat) (W : World) : Prop where
  blk : Blk W g 29 cs
  rest : ∀ i, j ≤ i → i < ess.length → Rw 3 1 lo up (row i).1 (ess.getD i []).length (row i).2 ((ess.getD i []).map (Value.int .i64)) W
  span : Span lo up w W
theorem MarkingG.step {lo up g j m : Nat} {row : Nat → Option Addr × Nat} {cs : Array Value} {ess : List (List Int)} {w W W' : World} (h : MarkingG lo up g row cs ess w j W) (hj : j < ess.length)
    (hd : ∀ i j, i < j → j < ess.length → ∀ x, (Value.slice (row i).1 (ess.getD i []).length (row i).2).ownBlock = some x → (Value.slice (row j).1 (ess.getD j []).length (row j).2).ownBlock ≠ some x)
    (hm : MarkedI 3 lo (row j).1 (row j).2 m (ess.getD j []).length W W') : MarkingG lo up g row cs ess w (j + 1) W' := by
  have hR := h.rest j (Nat.le_refl _) hj
  have hne : (Value.slice (row j).1 (ess.getD j []).length (row j).2).ownBlock ≠ some g := by
    rcases hR.own.2 with ⟨he, _⟩ | ⟨g', cap, cur, he, _, hh, _⟩
    · rw [he]; simp [Value.ownBlock]
    · rw [he]
      intro e
      have e' : g' = g := by simpa [Value.ownBlock] using e
      subst e'
      have hB := h.blk
      unfold Blk at hB
      rw [hh] at hB
      injection hB with hB
      injection hB with _ ht
      exact absurd ht (by decide)
  refine ⟨h.blk.grown hm.grown (fun e => hne e.symm), fun i hi hin => ?_, ?_⟩
  · have hI := h.rest i (by omega) hin
    refine ⟨hI.own.kept hm.grown ?_, hI.up⟩
    by_cases hv : (Value.slice (row i).1 (ess.getD i []).length (row i).2).ownBlock = none
    · exact .inl hv
    · refine .inr fun e => ?_
      obtain ⟨x, hx⟩ := Option.ne_none_iff_exists'.1 hv
      exact hd j i (by omega) hin x (by rw [← e]; exact hx) hx
  · refine h.span.trans ⟨hm.grown.os, hm.grown.tape, hm.grown.output, hm.grown.size, fun k hk hd2 => hm.grown.block k hk (fun e => ?_)⟩
    have h1 := hR.up k e.symm
    have h2 := (hR.own.lt k e.symm).1
    omega
set_option maxHeartbeats 1000000 in
set_option maxRecDepth 100000 in
theorem markGrid_m (a : Option Addr) (n c : Nat) (ess : List (List Int)) (lo up : Nat) (w : World) (hr : Rows2 lo up a c ess w) (hn : n = ess.length) (hlo : lo ≤ w.heap.size) (hlen : ess.length + tot ess ess.length ≤ 1048576) :
    Calls Try.prog 43 #[.slice a n c, .int .i64 1] w fun e w' => e = .returned (.int .i64 (1 + (tot ess ess.length : Int))) ∧ Span lo up w w' := by
  subst hn
  have hc1 := hr.cap
  have hc2 := hr.big
  rcases hr.lies with h0 | ⟨g, row, cs, rfl, hg, hu, hk, hcs, hrw, hd⟩
  · subst h0
    clear hr
    go_enter Try.func43, Try.ntmps43
    go_wp2
    go_loopw [1, 5] (fun v i wr => v = .int .i64 1 ∧ i = .int .i64 0 ∧ wr = w) (fun _ i _ => 0 - (intOf i).toNat)
    case atStart => exact ⟨rfl, rfl, rfl⟩
    case round =>
      obtain ⟨rfl, rfl, rfl⟩ := hrel
      go_wp2
      go_ret
      exact ⟨rfl, Span.refl _ _ _⟩
  · have M0 : Hid (MarkingG lo up g row cs ess w 0 w) := ⟨hk, fun i _ hi => hrw i hi, Span.refl _ _ _⟩
    have HS := Lib.hid (fun (j m : Nat) (W W' : World) (h : MarkingG lo up g row cs ess w j W) (hj : j < ess.length) (hm : MarkedI 3 lo (row j).1 (row j).2 m (ess.getD j []).length W W') => h.step hj hd hm)
    have HCS := Lib.hid hcs
    clear hr hk hcs hrw hd
    go_enter Try.func43, Try.ntmps43
    go_wp2
    go_loopw [1, 5] (fun v i wr => ∃ j : Nat, j ≤ ess.length ∧ i = .int .i64 j ∧ v = .int .i64 (1 + (tot ess j : Int)) ∧ MarkingG lo up g row cs ess w j wr) (fun _ i _ => ess.length - (intOf i).toNat)
    case atStart => exact ⟨0, Nat.zero_le _, rfl, by simp [tot], M0.out⟩
    case round =>
      obtain ⟨j, hj, rfl, rfl, hM⟩ := hrel
      have hT : tot ess j ≤ tot ess ess.length := tot_le ess hj
      have HM := Lib.hid hM
      by_cases hlt : j < ess.length
      · have hq := hM.blk.cell j
        rw [HCS.out j hlt] at hq
        have hlow := hM.span.size
        have hrl := row_le ess hlt
        have HSJ := Lib.hid (fun m W' hm => HS.out j m wr W' hM hlt hm)
        have HMK := Lib.hid (markInts_m (row j).1 _ (row j).2 (1 + tot ess j) (1 + (tot ess j : Int)) (ess.getD j []) lo wr (hM.rest j (Nat.le_refl _) hlt).own (by omega) rfl (by omega) (by omega) (by omega))
        have HT := Lib.hid (show tot ess (j + 1) = tot ess j + (ess.getD j []).length from rfl)
        have hlt' : (j : Int) < (ess.length : Int) := by omega
        clear hM hlow
        generalize (ess.getD j []).length = rl at hq HSJ HMK HT hrl
        generalize (row j).1 = ra at hq HSJ HMK
        generalize (row j).2 = rc at hq HSJ HMK
        go_wp2_with fail
        refine HMK.out.mono ?_
        rintro e w3 ⟨rfl, hm⟩
        have HS3 := Lib.hid (HSJ.out _ w3 hm)
        clear hm hq
        go_wp2
        go_roundw
        case rel => exact ⟨j + 1, by omega, by go_num, by rw [HT.out]; congr 1; omega, HS3.out⟩
        case measure => simp [intOf]; omega
      · obtain rfl : j = ess.length := by omega
        clear hM
        go_wp2
        go_ret
        exact ⟨rfl, HM.out.span⟩
end Go.Proofs.Ytpigollgjpkflaa
