/- The draws of a stream of frames: some bytes, of bounded length. -/
import Derived.Test.YtpigollgjpkflaaDoorFrHelp
import Derived.Test.YtpigollgjpkflaaDoorSpecPut
import Derived.Test.YtpigollgjpkflaaDoorSpecBytes
namespace Go.Proofs.YtpigollgjpkflaaDoor
open Go.ChangeShapes Go.WideShapes Go.ChangeAt Go.RowKit

theorem Cur.kept_ {w w' : World} {p : Nat} {a : Option Addr} {len cap : Nat} (h : Cur w p a len cap) (hb : Below (p + 1) w w') : Cur w' p a len cap := by
  have hblk : w'.heap[p]? = w.heap[p]? := hb.block p (by omega)
  obtain ⟨hlt, hby, h0, ⟨i, hi0, hi1, h1⟩, ⟨x, hx0, hx1, h2⟩, f1, f2⟩ := h
  exact ⟨Nat.lt_of_lt_of_le hlt hb.size, hby.below_ (hb.mono (Nat.le_succ _)), (World.cell?_of_block hblk).trans h0, ⟨i, hi0, hi1, (World.cell?_of_block hblk).trans h1⟩, ⟨x, hx0, hx1, (World.cell?_of_block hblk).trans h2⟩,
    (World.frozen?_of_block hblk).trans f1, (World.frozen?_of_block hblk).trans f2⟩
/-- A row of bytes of the draw's own, beside the draw's place. -/
structure RowAt (p : Nat) (a : Option Addr) (len cap : Nat) (ba : Option Addr) (bc : Nat) (xs : List Int) (w W : World) : Prop where
  cur : Cur W p a len cap
  own : W.ownsRow (p + 1) 5 1 (.slice ba xs.length bc) xs.length (xs.map (Value.int .u8))
  bel : Below p w W
  le : p ≤ w.heap.size
section
variable {p len cap bc : Nat} {a ba : Option Addr} {xs : List Int} {w W W' : World}
theorem RowAt.draw (h : RowAt p a len cap ba bc xs w W) (hc : Cur W' p a len cap) (hg : W.grownBy W' (some p)) : RowAt p a len cap ba bc xs w W' :=
  ⟨hc, h.own.kept hg (by cases ho : (Value.slice ba xs.length bc).ownBlock with
    | none => exact .inl rfl
    | some g => right; intro e; injection e with e; have := (h.own.lt g ho).1; omega), h.bel.trans (below_grown_own hg (Nat.le_refl _) (Nat.le_of_lt h.cur.lt)), h.le⟩
theorem RowAt.alloc_ (h : RowAt p a len cap ba bc xs w W) (o : Obj) : RowAt p a len cap ba bc xs w (W.alloc o) :=
  ⟨h.cur.alloc_ o, h.own.alloc o, h.bel.alloc (Nat.le_of_lt h.cur.lt) o, h.le⟩
theorem RowAt.calm (h : RowAt p a len cap ba bc xs w W) (hb : Below W.heap.size W W') : RowAt p a len cap ba bc xs w W' :=
  ⟨h.cur.kept_ (hb.mono h.cur.lt), owns_below h.own hb, h.bel.trans (hb.mono (Nat.le_of_lt h.cur.lt)), h.le⟩
theorem RowAt.next {ba2 : Option Addr} {bc2 : Nat} {ys : List Int} (h : RowAt p a len cap ba bc xs w W) (hb : Below (p + 1) W W') (ho : W'.ownsRow (p + 1) 5 1 (.slice ba2 ys.length bc2) ys.length (ys.map (Value.int .u8))) : RowAt p a len cap ba2 bc2 ys w W' :=
  ⟨h.cur.kept_ hb, ho, h.bel.trans (hb.mono (Nat.le_succ _)), h.le⟩
theorem RowAt.off {w0 : World} (h : RowAt p a len cap ba bc xs w W) (hb : Below p w0 w) (hl : p ≤ w0.heap.size) : RowAt p a len cap ba bc xs w0 W := ⟨h.cur, h.own, hb.trans h.bel, hl⟩
end
theorem own_take {w : World} {lo n c m : Nat} {T : TypeId} {a : Option Addr} {xs : List Value} (h : w.ownsRow lo T 1 (.slice a n c) n xs) (hm : m ≤ n) : w.ownsRow lo T 1 (.slice a m c) m (xs.take m) := by
  refine ⟨by have := h.1; rw [List.length_take]; omega, ?_⟩
  rcases h.2 with ⟨hv, h1⟩ | ⟨g, cap, cur, hv, hlo, hh, h1, h2, h3, h4⟩
  · simp only [Value.slice.injEq] at hv
    obtain ⟨rfl, _, rfl⟩ := hv
    exact .inl ⟨by rw [show m = 0 by omega], by omega⟩
  · simp only [Value.slice.injEq] at hv
    obtain ⟨rfl, _, rfl⟩ := hv
    refine .inr ⟨g, c, cur, rfl, hlo, hh, by omega, h2, h3, ?_⟩
    rw [← h4, List.take_take]
    congr 1
    omega
/-- Bytes that were drawn. -/
def RowPost (lim p : Nat) (a : Option Addr) (len cap : Nat) (w : World) (e : Ending) (w' : World) : Prop :=
  ∃ (ba : Option Addr) (bc : Nat) (xs : List Int), e = .returned (.slice ba xs.length bc) ∧ IsB xs ∧ xs.length ≤ lim ∧ RowAt p a len cap ba bc xs w w'
theorem isB_app {xs ys : List Int} (h : IsB xs) (k : IsB ys) : IsB (xs ++ ys) := by
  intro z hz
  rcases List.mem_append.1 hz with h1 | h1
  · exact h z h1
  · exact k z h1
theorem isB_nil : IsB [] := fun _ h => nomatch h
theorem isB_one {x : Int} (h0 : 0 ≤ x) (h1 : x ≤ 255) : IsB [x] := by
  intro z hz
  rw [List.mem_singleton] at hz
  subst hz
  exact ⟨h0, h1⟩
theorem u8_in_ {x : Int} (h0 : 0 ≤ x) (h1 : x ≤ 255) : IntKind.u8.wrap x = x := by
  have e3 : IntKind.u8.wrap x = x % 256 := by simp [IntKind.wrap, IntKind.signed, IntKind.bits]
  rw [e3]; omega
theorem own_block1 {w : World} {lo n c : Nat} {T : TypeId} {a : Option Addr} {xs : List Value} (h : w.ownsRow lo T 1 (.slice a n c) n xs) (hn : 1 ≤ n) : ∃ g, a = some ⟨g, 0, none⟩ ∧ lo ≤ g ∧ g < w.heap.size := by
  rcases h.2 with ⟨hv, h1⟩ | ⟨g, cap, cur, hv, hlo, hh, _⟩
  · omega
  · simp only [Value.slice.injEq] at hv
    exact ⟨g, hv.1, hlo, (Array.getElem?_eq_some_iff.1 hh).1⟩

theorem size12_any (a : Option Addr) (len cap : Nat) (w : World) (hl : len ≤ 1048576) :
    Calls Tryd.prog 16 #[.slice a len cap, .int .i64 12] w fun e w' => (∃ s : Int, e = .returned (.int .i64 s) ∧ 2 ≤ s ∧ s ≤ 12) ∧ w = w' := by
  have hd : 0 ≤ ((len : Int) / 16) ∧ ((len : Int) / 16) ≤ 65536 := by omega
  by_cases h : 12 < 2 + (len : Int) / 16
  · go_enter Tryd.func16, Tryd.ntmps16
    go_wp2
    go_ret
    exact ⟨⟨_, rfl, by omega, by omega⟩, rfl⟩
  · go_enter Tryd.func16, Tryd.ntmps16
    go_wp2
    go_ret
    exact ⟨⟨_, rfl, by omega, by omega⟩, rfl⟩
set_option maxRecDepth 100000 in
set_option maxHeartbeats 4000000 in
theorem drawStream_any (p : Nat) (a : Option Addr) (len cap n : Nat) (hn : n ≤ 12) (w : World) (hc : Cur w p a len cap) :
    Calls Tryd.prog 14 #[.pointer (some ⟨p, 0, none⟩), .int .i64 (n : Int)] w (RowPost 168 p a len cap w) := by
  have R0 : Hid (RowAt p a len cap (some ⟨w.heap.size, 0, none⟩) 0 [] w (w.alloc (.cells #[] 5))) := Lib.hid
    ⟨hc.alloc_ _, World.ownsRow_made w #[] 0 hc.lt (by unfold maxLen; omega) (by simp), (Below.refl _ _).alloc (Nat.le_of_lt hc.lt) _, Nat.le_of_lt hc.lt⟩
  clear hc
  go_enter Tryd.func14, Tryd.ntmps14
  go_wp2
  go_loopw [5, 6] (fun v i wr => ∃ (k : Nat) (ba : Option Addr) (bc : Nat) (xs : List Int), k ≤ n ∧ i = .int .i64 k ∧ v = .slice ba xs.length bc ∧ IsB xs ∧ xs.length ≤ 14 * k ∧ RowAt p a len cap ba bc xs w wr)
    (fun _ i _ => n - (intOf i).toNat)
  case atStart => exact ⟨0, _, _, [], Nat.zero_le _, rfl, rfl, isB_nil, Nat.zero_le _, R0.out⟩
  case round =>
    obtain ⟨k, ba, bc, xs, hk, rfl, rfl, hx, hl, hr⟩ := hrel
    have HR := Lib.hid hr
    have HX := Lib.hid hx
    clear hr hx
    by_cases hlt : k < n
    · have hlt' : (k : Int) < (n : Int) := by omega
      go_wp2_with fail
      refine (drawFrame_any p a len cap _ HR.out.cur).mono ?_
      rintro e u1 ⟨k1, y, t, v, rfl, hc, hg⟩
      have R1 := Lib.hid (HR.out.draw hc hg)
      clear hc hg
      have SP := Lib.hid (fun W => specPut_any k1 y t v W)
      have hlp := putL_len k1 y t v
      have HPX := Lib.hid (putL_isB k1 y t v)
      generalize putL k1 y t v = ys at SP hlp HPX
      go_wp2_with fail
      refine (SP.out _).mono ?_
      rintro e u2 ⟨a2, c2, rfl, ho, hb⟩
      have R2 := Lib.hid (R1.out.calm hb)
      have N2 := Lib.hid (Nums.of_own ho).2
      have M2 := Lib.hid (Nums.of_own R2.out.own).2
      have l2 := R2.out.cur.lt
      clear ho hb
      go_wp2_with fail
      refine (specJoin_any ba a2 _ _ bc c2 xs ys _ _ _ M2.out N2.out rfl rfl (Nat.le_refl _) (Nat.le_refl _) (by omega) (by omega)).mono ?_
      rintro e u3 ⟨a3, c3, rfl, ho, hb⟩
      have R3 := Lib.hid (R2.out.next (hb.mono l2) (owns_less ho l2))
      have hl3 : (xs ++ ys).length ≤ 14 * (k + 1) := by rw [List.length_append]; omega
      have HX3 := Lib.hid (isB_app HX.out HPX.out)
      clear ho hb
      go_wp2
      go_roundw
      case rel => exact ⟨k + 1, a3, c3, xs ++ ys, by omega, by go_num, (by rw [List.length_append]), HX3.out, hl3, R3.out⟩
      case measure => simp [intOf]; omega
    · obtain rfl : k = n := by omega
      have HP : Hid (RowPost 168 p a len cap w (.returned (.slice ba xs.length bc)) wr) := Lib.hid ⟨ba, bc, xs, rfl, HX.out, by omega, HR.out⟩
      go_wp2
      go_ret
      exact HP.out
set_option maxRecDepth 100000 in
set_option maxHeartbeats 4000000 in
theorem bend_any (p : Nat) (a : Option Addr) (len cap : Nat) (ba : Option Addr) (bc : Nat) (xs : List Int) (w0 w : World) (hr : RowAt p a len cap ba bc xs w0 w) (hx : IsB xs) (hl : xs.length ≤ 168) :
    Calls Tryd.prog 18 #[.pointer (some ⟨p, 0, none⟩), .slice ba xs.length bc] w (RowPost 169 p a len cap w0) := by
  obtain ⟨i0, hi0, hz0, hz1, hz2⟩ := info_parts infoU8
  have HR := Lib.hid hr
  have HX := Lib.hid hx
  clear hr hx
  by_cases h0 : xs.length = 0
  · obtain rfl : xs = [] := List.length_eq_zero_iff.1 h0
    simp only [List.length_nil]
    clear h0
    go_enter Tryd.func18, Tryd.ntmps18
    go_wp2_with fail
    refine (below_any p a len cap 256 (by omega) (by omega) _ HR.out.cur).mono ?_
    rintro e u1 ⟨x, rfl, hx0, hx1, hc, hg⟩
    have R1 := Lib.hid (HR.out.draw hc hg)
    have hw := u8_in_ hx0 hx1
    have l1 := hc.lt
    have HP : Hid (RowPost 169 p a len cap w0 (.returned (.slice (some ⟨u1.heap.size, 0, none⟩) 1 1)) (u1.alloc (.cells #[.int .u8 x] 5))) := Lib.hid
      ⟨_, 1, [x], rfl, isB_one hx0 hx1, by simp, R1.out.next ((Below.refl _ _).alloc l1 _) (World.ownsRow_lit (size := 1) u1 #[.int .u8 x] 1 l1 (by unfold maxLen; omega) (by simp))⟩
    clear hc hg
    go_wp2
    go_ret
    exact HP.out
  have h0' : ((xs.length : Int) == 0) = false := by rw [beq_eq_false_iff_ne]; omega
  obtain ⟨b1, rfl, hb1, hb2⟩ := own_block1 HR.out.own (by omega)
  have hcp := (Nums.of_own HR.out.own).2.cap
  have hcb := (Nums.of_own HR.out.own).2.big
  go_enter Tryd.func18, Tryd.ntmps18
  go_wp2_with fail
  refine (below_any p a len cap 3 (by omega) (by omega) _ HR.out.cur).mono ?_
  rintro e u1 ⟨x, rfl, hx0, hx1, hc, hg⟩
  have R1 := Lib.hid (HR.out.draw hc hg)
  clear hc hg
  have hx : x = 0 ∨ x = 1 ∨ x = 2 := by omega
  clear hx0 hx1
  rcases hx with rfl | rfl | rfl
  · go_wp2_with fail
    refine (below_any p a len cap (xs.length : Int) (by omega) (by omega) _ R1.out.cur).mono ?_
    rintro e u2 ⟨x, rfl, hx0, hx1, hc, hg⟩
    have R2 := Lib.hid (R1.out.draw hc hg)
    clear hc hg
    obtain ⟨m, rfl⟩ := Int.eq_ofNat_of_zero_le hx0
    have hm : m ≤ xs.length := by omega
    have hmc : m ≤ bc := by omega
    have HP : Hid (RowPost 169 p a len cap w0 (.returned (.slice (some ⟨b1, 0, none⟩) m bc)) u2) := Lib.hid (by
      have e : (xs.take m).length = m := by rw [List.length_take]; omega
      refine ⟨_, bc, xs.take m, by rw [e], HX.out.take m, by omega, R2.out.cur, ?_, R2.out.bel, R2.out.le⟩
      rw [e, List.map_take]
      exact own_take R2.out.own hm)
    go_wp2
    go_ret
    exact HP.out
  · go_wp2_with fail
    refine (below_any p a len cap (xs.length : Int) (by omega) (by omega) _ R1.out.cur).mono ?_
    rintro e u2 ⟨x, rfl, hx0, hx1, hc, hg⟩
    have R2 := Lib.hid (R1.out.draw hc hg)
    clear hc hg
    obtain ⟨m, rfl⟩ := Int.eq_ofNat_of_zero_le hx0
    have hm : m < xs.length := by omega
    have hmi : (m : Int) < (xs.length : Int) := by omega
    have z1 := (R2.out.own.cellAt m (by omega)).trans (el_cell .u8 xs m hm)
    have z2 := R2.out.own.frozenAt m
    have hel := el_bd HX.out m
    go_wp2_with fail
    go_region_with (go_at_call 15; refine (below_any p a len cap 255 (by omega) (by omega) _ (R2.out.calm (Below.refl _ _).drew).cur).mono ?_; rintro e u3 ⟨y, rfl, hy0, hy1, hc, hg⟩; have R3 := Lib.hid ((R2.out.calm (Below.refl _ _).drew).draw hc hg); clear hc hg; have hwv : IntKind.i64.wrap (1 + y) = 1 + y := IntWalk.i64_in _ (by omega); have hwb : IntKind.u8.wrap (1 + y) = 1 + y := u8_in_ (by omega) (by omega); have z3 := (R3.out.own.cellAt m (by omega)).trans (el_cell .u8 xs m hm); have z4 := R3.out.own.frozenAt m)
    all_goals
      have hxr := xor_u8 hel.1 hel.2 (b := 1 + y) (by omega) (by omega)
      have htu := xor_turned hel.1 hel.2 (b := 1 + y) (by omega) (by omega)
      rw [← hxr] at htu
      clear hxr
      generalize bits BinOp.xor IntKind.u8 (el xs m) (1 + y) = Y at htu ⊢
      have HP : Hid (∀ W : World, RowAt p a len cap (some ⟨b1, 0, none⟩) bc xs w0 W → RowPost 169 p a len cap w0 (.returned (.slice (some ⟨b1, 0, none⟩) xs.length bc)) (W.setCell ⟨b1, m, none⟩ (.int .u8 Y))) := Lib.hid (fun W hW => by
        have st := hW.own.stored m (.int .u8 Y)
        rw [← List.map_set] at st
        have hsl : (xs.set m Y).length = xs.length := List.length_set
        refine ⟨_, bc, xs.set m Y, by rw [hsl], set_isB HX.out m htu.1 htu.2.1, by omega, hW.next ((Below.refl (p + 1) W).setCell (p := ⟨b1, m, none⟩) hb1 (.int .u8 Y)) ?_⟩
        rw [hsl]
        exact st.1)
      go_wp2
      go_ret
      exact HP.out _ R3.out
  · have A1 := Lib.hid (R1.out.alloc_ (.cells #[.int .i64 0, .int .i64 1, .int .i64 4, .int .i64 9, .int .i64 200] 3))
    have R9 := Lib.hid (row_cells (xs := [0, 1, 4, 9, 200]) (Blk.new u1 3 #[.int .i64 0, .int .i64 1, .int .i64 4, .int .i64 9, .int .i64 200]) (by simp))
    have hq := R1.out.cur.lt
    go_wp2_with fail
    refine (pick_any p a len cap u1.heap.size 5 [0, 1, 4, 9, 200] (by simp) (by simp) _ A1.out.cur (by simp) (by omega) R9.out).mono ?_
    rintro e u2 ⟨j, hj, rfl, hc, hg⟩
    have R2 := Lib.hid (A1.out.draw hc hg)
    have hk : 0 ≤ el [0, 1, 4, 9, 200] j ∧ el [0, 1, 4, 9, 200] j ≤ 255 := by
      have : j = 0 ∨ j = 1 ∨ j = 2 ∨ j = 3 ∨ j = 4 := by simp at hj; omega
      rcases this with rfl | rfl | rfl | rfl | rfl <;> decide
    clear hc hg
    generalize el [0, 1, 4, 9, 200] j = X at hk ⊢
    have hw := u8_in_ hk.1 hk.2
    have l2 := R2.out.cur.lt
    go_wp2_with (at_builtin; refine wpList_append_own _ rfl _ _ 22 rfl (p + 1) 5 i0 (.int .u8 0) 1 1 Tryd.underlying22 hi0 hz0 hz1 hz2 rfl (by decide) _ _ _ rfl (R2.out.own.alloc _) ⟨u2.heap.size, 0, none⟩ 1 1 [.int .u8 X] rfl rfl (cell_one_new _ _ _) (one_u8 _) ?c3 ?c4 ?c5 ?_)
    case c3 => unfold maxLen; omega
    case c4 => omega
    case c5 => simp; omega
    intro v' u3 hown' hg _
    obtain ⟨a2, c2, rfl⟩ := owns_shape hown'
    have HP : Hid (RowPost 169 p a len cap w0 (.returned (.slice a2 (xs.length + 1) c2)) u3) := Lib.hid (by
      have e : (xs ++ [X]).length = xs.length + 1 := by simp
      refine ⟨a2, c2, xs ++ [X], by rw [e], isB_app HX.out (isB_one hk.1 hk.2), by omega, R2.out.next (((Below.refl (p + 1) u2).alloc l2 _).trans (below_own (R2.out.own.alloc _) hg (by simp; omega))) ?_⟩
      rw [e, List.map_append]
      exact hown')
    clear hown' hg
    go_wp2
    go_ret
    exact HP.out
/-- Bytes that were drawn, for a law. -/
def AllDraw (w : World) (e : Ending) (w' : World) : Prop :=
  ∃ (ba : Option Addr) (bc : Nat) (xs : List Int), e = .returned (.slice ba xs.length bc) ∧ IsB xs ∧ xs.length ≤ 1000 ∧ Nums .u8 w' w'.heap.size ba bc xs ∧ Below w.heap.size w w'
theorem allDraw_of {p len cap bc : Nat} {a ba : Option Addr} {xs : List Int} {w w1 W : World} (h : RowAt p a len cap ba bc xs w1 W) (hx : IsB xs) (hl : xs.length ≤ 1000) (hb : Below w.heap.size w w1) (hp : w.heap.size ≤ p) : AllDraw w (.returned (.slice ba xs.length bc)) W :=
  ⟨ba, bc, xs, rfl, hx, hl, (Nums.of_own h.own).2, hb.trans (h.bel.mono hp)⟩
def lenB : Value → Nat
  | .slice _ n _ => n
  | _ => 0
set_option maxRecDepth 100000 in
set_option maxHeartbeats 4000000 in
theorem drawAll_any (a : Option Addr) (len cap : Nat) (w : World) (hb : Bytes w w.heap.size a len) :
    Calls Tryd.prog 5 #[.slice a len cap] w (AllDraw w) := by
  obtain ⟨i0, hi0, hz0, hz1, hz2⟩ := info_parts infoU8
  have hsm := hb.small
  have HB := Lib.hid hb
  clear hb
  go_enter Tryd.func5, Tryd.ntmps5
  go_wp2_with fail
  refine (new_any a len cap _ HB.out).mono ?_
  rintro e w1 ⟨p, hp, rfl, hc1, hg1⟩
  have hs1 := hg1.size
  have B1 := Lib.hid (below_grown hg1)
  have C1 := Lib.hid hc1
  have l1 := hc1.lt
  clear hc1 hg1
  go_wp2_with fail
  refine (size12_any a len cap _ hsm).mono ?_
  rintro e w' ⟨⟨s, rfl, hs2, hs12⟩, rfl⟩
  go_wp2_with fail
  refine (below_any p a len cap s (by omega) (by omega) _ C1.out).mono ?_
  rintro e w2 ⟨n, rfl, hn0, hn1, hc, hg⟩
  obtain ⟨n, rfl⟩ := Int.eq_ofNat_of_zero_le hn0
  have C2 := Lib.hid hc
  have B2 := Lib.hid (below_grown_own hg (Nat.le_refl _) (Nat.le_of_lt l1))
  clear hc hg
  go_wp2_with fail
  refine (drawStream_any p a len cap n (by omega) _ C2.out).mono ?_
  rintro e w3 ⟨ba, bc, xs, rfl, hx, hl, hr⟩
  have R3 := Lib.hid (hr.off B2.out (Nat.le_of_lt l1))
  have HX := Lib.hid hx
  clear hx hr
  go_wp2_with fail
  refine (once_any p a len cap 3 (by omega) (by omega) _ R3.out.cur).mono ?_
  rintro e w4 ⟨b1, rfl, hc, hg⟩
  have R4 := Lib.hid (R3.out.draw hc hg)
  clear hc hg R3
  cases b1 with
  | false =>
    go_wp2_with fail
    refine (once_any p a len cap 25 (by omega) (by omega) _ R4.out.cur).mono ?_
    rintro e w5 ⟨b2, rfl, hc, hg⟩
    have R5 := Lib.hid (R4.out.draw hc hg)
    clear hc hg
    cases b2 with
    | false =>
      have HP : Hid (AllDraw w (.returned (.slice ba xs.length bc)) w5) := Lib.hid (allDraw_of R5.out HX.out (by omega) B1.out hp)
      go_wp2
      go_ret
      exact HP.out
    | true =>
      go_wp2
      go_loopw [4] (fun v wr => ∃ (ba : Option Addr) (bc : Nat) (xs : List Int), v = .slice ba xs.length bc ∧ IsB xs ∧ xs.length ≤ 401 ∧ RowAt p a len cap ba bc xs w1 wr) (fun v _ => 402 - lenB v)
      case atStart => exact ⟨ba, bc, xs, rfl, HX.out, by omega, R5.out⟩
      case round =>
        clear R5 HX R4
        obtain ⟨ba, bc, xs, rfl, hx, hl, hr⟩ := hrel
        have HR := Lib.hid hr
        have HX := Lib.hid hx
        clear hr hx
        go_wp2_with fail
        refine (below_any p a len cap 3 (by omega) (by omega) _ HR.out.cur).mono ?_
        rintro e u1 ⟨x, rfl, hx0, hx1, hc, hg⟩
        have R1 := Lib.hid (HR.out.draw hc hg)
        have l1 := hc.lt
        clear hc hg
        have hwx : IntKind.i64.wrap (399 + x) = 399 + x := IntWalk.i64_in _ (by omega)
        by_cases hlt : (xs.length : Int) < 399 + x
        · go_wp2_with (at_builtin; refine wpList_append_own _ rfl _ _ 22 rfl (p + 1) 5 i0 (.int .u8 0) 1 1 Tryd.underlying22 hi0 hz0 hz1 hz2 rfl (by decide) _ _ _ rfl (R1.out.own.alloc _) ⟨u1.heap.size, 0, none⟩ 1 1 [.int .u8 0] rfl rfl (cell_one_new _ _ _) (one_u8 _) ?c3 ?c4 ?c5 ?_)
          case c3 => unfold maxLen; omega
          case c4 => omega
          case c5 => simp; omega
          intro v' u3 hown' hg _
          obtain ⟨a2, c2, rfl⟩ := owns_shape hown'
          have el9 : (xs ++ [0]).length = xs.length + 1 := by simp
          have R3 : Hid (RowAt p a len cap a2 c2 (xs ++ [0]) w1 u3) := Lib.hid (R1.out.next (((Below.refl (p + 1) u1).alloc l1 _).trans (below_own (R1.out.own.alloc _) hg (by simp; omega))) (by rw [el9, List.map_append]; exact hown'))
          have HX3 := Lib.hid (isB_app HX.out (isB_one (Int.le_refl 0) (by omega)))
          clear hown' hg
          go_wp2
          go_roundw
          case rel => exact ⟨a2, c2, xs ++ [0], (by rw [el9]), HX3.out, (by rw [el9]; omega), R3.out⟩
          case measure => simp [lenB]; omega
        · have HP : Hid (AllDraw w (.returned (.slice ba xs.length bc)) u1) := Lib.hid (allDraw_of R1.out HX.out (by omega) B1.out hp)
          go_wp2
          go_ret
          exact HP.out
  | true =>
    go_wp2_with fail
    refine (bend_any p a len cap ba bc xs _ _ R4.out HX.out hl).mono ?_
    rintro e w6 ⟨ba, bc, xs, rfl, hx, hl, hr⟩
    have R6 := Lib.hid hr
    have HX := Lib.hid hx
    clear hx hr
    go_wp2_with fail
    refine (once_any p a len cap 25 (by omega) (by omega) _ R6.out.cur).mono ?_
    rintro e w5 ⟨b2, rfl, hc, hg⟩
    have R5 := Lib.hid (R6.out.draw hc hg)
    clear hc hg
    cases b2 with
    | false =>
      have HP : Hid (AllDraw w (.returned (.slice ba xs.length bc)) w5) := Lib.hid (allDraw_of R5.out HX.out (by omega) B1.out hp)
      go_wp2
      go_ret
      exact HP.out
    | true =>
      go_wp2
      go_loopw [4] (fun v wr => ∃ (ba : Option Addr) (bc : Nat) (xs : List Int), v = .slice ba xs.length bc ∧ IsB xs ∧ xs.length ≤ 401 ∧ RowAt p a len cap ba bc xs w1 wr) (fun v _ => 402 - lenB v)
      case atStart => exact ⟨ba, bc, xs, rfl, HX.out, by omega, R5.out⟩
      case round =>
        clear R5 HX R6
        obtain ⟨ba, bc, xs, rfl, hx, hl, hr⟩ := hrel
        have HR := Lib.hid hr
        have HX := Lib.hid hx
        clear hr hx
        go_wp2_with fail
        refine (below_any p a len cap 3 (by omega) (by omega) _ HR.out.cur).mono ?_
        rintro e u1 ⟨x, rfl, hx0, hx1, hc, hg⟩
        have R1 := Lib.hid (HR.out.draw hc hg)
        have l1 := hc.lt
        clear hc hg
        have hwx : IntKind.i64.wrap (399 + x) = 399 + x := IntWalk.i64_in _ (by omega)
        by_cases hlt : (xs.length : Int) < 399 + x
        · go_wp2_with (at_builtin; refine wpList_append_own _ rfl _ _ 22 rfl (p + 1) 5 i0 (.int .u8 0) 1 1 Tryd.underlying22 hi0 hz0 hz1 hz2 rfl (by decide) _ _ _ rfl (R1.out.own.alloc _) ⟨u1.heap.size, 0, none⟩ 1 1 [.int .u8 0] rfl rfl (cell_one_new _ _ _) (one_u8 _) ?c3 ?c4 ?c5 ?_)
          case c3 => unfold maxLen; omega
          case c4 => omega
          case c5 => simp; omega
          intro v' u3 hown' hg _
          obtain ⟨a2, c2, rfl⟩ := owns_shape hown'
          have el9 : (xs ++ [0]).length = xs.length + 1 := by simp
          have R3 : Hid (RowAt p a len cap a2 c2 (xs ++ [0]) w1 u3) := Lib.hid (R1.out.next (((Below.refl (p + 1) u1).alloc l1 _).trans (below_own (R1.out.own.alloc _) hg (by simp; omega))) (by rw [el9, List.map_append]; exact hown'))
          have HX3 := Lib.hid (isB_app HX.out (isB_one (Int.le_refl 0) (by omega)))
          clear hown' hg
          go_wp2
          go_roundw
          case rel => exact ⟨a2, c2, xs ++ [0], (by rw [el9]), HX3.out, (by rw [el9]; omega), R3.out⟩
          case measure => simp [lenB]; omega
        · have HP : Hid (AllDraw w (.returned (.slice ba xs.length bc)) u1) := Lib.hid (allDraw_of R1.out HX.out (by omega) B1.out hp)
          go_wp2
          go_ret
          exact HP.out
end Go.Proofs.YtpigollgjpkflaaDoor
