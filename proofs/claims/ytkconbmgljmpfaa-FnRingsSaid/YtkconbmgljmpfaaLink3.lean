/- Contract of impl.PlayLink. -/
import Derived.Test.YtkconbmgljmpfaaLink2
import Derived.OwnWalk
namespace Go.Proofs.Ytkconbmgljmpfaa
open Go.RowKit

/-- A ring, a credit and a list, of the call's own; the list lies behind the ring. -/
def PlayRes (T : TypeId) (xs : List Int) (p k h o : Int) (ts : List Int) (w : World) (e : Ending) (w' : World) : Prop :=
  ∃ a c a2 c2 t, e = .returned (.tuple #[.agg #[.slice a xs.length c, .int .i64 p, .int .i64 k], (.agg #[.int .i64 h, .int .i64 o]), .slice a2 ts.length c2]) ∧ w.heap.size ≤ t ∧ t ≤ w'.heap.size ∧
    Rw T 1 w.heap.size t a xs.length c (xs.map (Value.int .i64)) w' ∧ w'.ownsRow t T 1 (.slice a2 ts.length c2) ts.length (ts.map (Value.int .i64)) ∧ Below w.heap.size w w'
theorem Lk.grown {n lo q r g c : Nat} {s : Pl} {w w' : World} {row : Option Nat} (h : Lk n lo q r g c s w) (hg : w.grownBy w' row) (h1 : some q ≠ row) (h2 : some r ≠ row) (h3 : some g ≠ row) : Lk n lo q r g c s w' :=
  ⟨h.blk.grown hg h1, h.cred.grown hg h3, h.own.kept hg (.inr (fun e => h2 e)), h.pl, h.qr, h.qg, h.rg⟩
theorem play_stored {T : TypeId} {ys ts : List Int} {a a2 : Option Addr} {n c m c2 t g lo : Nat} {p k h o : Int} {w w1 : World} (hn : n = ys.length) (hm : m = ts.length) (ho : w1.ownsRow lo T 1 (.slice a n c) n (ys.map (Value.int .i64))) (hup : ∀ x, (Value.slice a n c).ownBlock = some x → x < t) (ho2 : w1.ownsRow t T 1 (.slice a2 m c2) m (ts.map (Value.int .i64)))
    (hb : Below w.heap.size w w1) (h1 : g = w.heap.size) (h2 : lo = w.heap.size + 2) (h3 : lo ≤ t) (h4 : t ≤ w1.heap.size) :
    PlayRes T ys p k h o ts w (.returned (.tuple #[.agg #[.slice a n c, .int .i64 p, .int .i64 k], (.agg #[.int .i64 h, .int .i64 o]), .slice a2 m c2])) (((((w1.setCell ⟨g, 0, none⟩ (.slice a n c)).setCell ⟨g, 1, none⟩ (.int .i64 p)).setCell ⟨g, 2, none⟩ (.int .i64 k)).setCell ⟨g + 1, 0, none⟩ (.int .i64 h)).setCell ⟨g + 1, 1, none⟩ (.int .i64 o)) := by
  subst hn hm h1 h2
  refine ⟨a, c, a2, c2, t, rfl, by omega, by simpa using h4, ⟨?_, hup⟩, ?_, ?_⟩
  · refine owns_less (lo := w.heap.size + 2) ?_ (by omega)
    exact ownsRow_setCell_below (ownsRow_setCell_below (ownsRow_setCell_below (ownsRow_setCell_below (ownsRow_setCell_below ho (show w.heap.size < w.heap.size + 2 by omega) _) (show w.heap.size < w.heap.size + 2 by omega) _) (show w.heap.size < w.heap.size + 2 by omega) _) (show w.heap.size + 1 < w.heap.size + 2 by omega) _) (show w.heap.size + 1 < w.heap.size + 2 by omega) _
  · exact ownsRow_setCell_below (ownsRow_setCell_below (ownsRow_setCell_below (ownsRow_setCell_below (ownsRow_setCell_below ho2 (show w.heap.size < t by omega) _) (show w.heap.size < t by omega) _) (show w.heap.size < t by omega) _) (show w.heap.size + 1 < t by omega) _) (show w.heap.size + 1 < t by omega) _
  · exact ((((hb.setCell (p := ⟨w.heap.size, 0, none⟩) (Nat.le_refl _) _).setCell (p := ⟨w.heap.size, 1, none⟩) (Nat.le_refl _) _).setCell (p := ⟨w.heap.size, 2, none⟩) (Nat.le_refl _) _).setCell (p := ⟨w.heap.size + 1, 0, none⟩) (Nat.le_succ _) _).setCell (p := ⟨w.heap.size + 1, 1, none⟩) (Nat.le_succ _) _

theorem PlayRes.as {T : TypeId} {xs xs' ts ts' : List Int} {p k h o p' k' h' o' : Int} {w w' : World} {e : Ending} (hh : PlayRes T xs p k h o ts w e w') (e1 : xs' = xs) (e2 : p' = p) (e3 : k' = k) (e4 : h' = h) (e5 : o' = o) (e6 : ts' = ts) : PlayRes T xs' p' k' h' o' ts' w e w' := by
  subst e1 e2 e3 e4 e5 e6; exact hh
/-- All that is known of a link that has been played. -/
structure LB (n q r g c : Nat) (s : Pl) (B t m : Nat) (a2 : Option Addr) (c2 : Nat) (ts : List Int) (w W : World) : Prop where
  lk : Lk n (w.heap.size + 2) q r g c s W
  k4 : Blk W w.heap.size 28 #[.slice none 0 0, .int .i64 0, .int .i64 0]
  k5 : Blk W (w.heap.size + 1) 30 #[.int .i64 0, .int .i64 0]
  own : W.ownsRow t 3 1 (.slice a2 m c2) m (ts.map (Value.int .i64))
  bel : Below w.heap.size w W
  size : B ≤ W.heap.size
theorem LB.keep {n q r g c B t m c2 : Nat} {s : Pl} {a2 : Option Addr} {ts : List Int} {w W W' : World} (h : LB n q r g c s B t m a2 c2 ts w W) (hb : Below W.heap.size W W') : LB n q r g c s B t m a2 c2 ts w W' :=
  ⟨h.lk.keep hb, h.k4.below hb, h.k5.below hb, owns_below h.own hb, h.bel.trans (hb.mono h.bel.size), Nat.le_trans h.size hb.size⟩
set_option maxHeartbeats 2000000 in
set_option maxRecDepth 100000 in
theorem implPlay_no (n : Int) (a : Option Addr) (m c : Nat) (ops : List Int) (hi : Nat) (w : World) (hr : Nums .i64 w hi a c ops) (hn : m = ops.length) (hB : hi ≤ w.heap.size) (hlen : ops.length ≤ 1048576) (hok : playOk n ops = false) :
    Calls Try.prog 13 #[.int .i64 n, .slice a m c] w (PlayRes 3 (plEnd n ops).xs (plEnd n ops).p (plEnd n ops).k (plHome n ops) (plEnd n ops).k (plAll n ops) w) := by
  subst hn
  have hcap := hr.cap
  have hbig := hr.big
  have b1 := (Below.refl w.heap.size w).alloc (Nat.le_refl _) (.cells #[.slice none 0 0, .int .i64 0, .int .i64 0] 28)
  have b2 := b1.alloc (by simp) (.cells #[.int .i64 0, .int .i64 0] 30)
  have K4 := Lib.hid ((Blk.new w 28 #[.slice none 0 0, .int .i64 0, .int .i64 0]).alloc (.cells #[.int .i64 0, .int .i64 0] 30))
  have k5 := Blk.new (w.alloc (.cells #[.slice none 0 0, .int .i64 0, .int .i64 0] 28)) 30 #[.int .i64 0, .int .i64 0]
  simp only [World.size_alloc] at k5
  have K5 := Lib.hid k5
  have HN := Lib.hid (hr.below (b2.mono hB))
  have B2 := Lib.hid b2
  clear hr b1 b2 k5
  have HC : Hid (∀ (W : World), Calls Try.prog 44 #[.int .i64 n] W fun e w' => e = .returned (.bool (inB n 1 20)) ∧ W = w') := fun W => isCap_any n W
  rw [(play_no hok).1, (play_no hok).2.1, (play_no hok).2.2]
  have q4 := K4.out.cell
  have f4 := K4.out.frozen
  have q5 := K5.out.cell
  have f5 := K5.out.frozen
  have HP : Hid (PlayRes 3 [] ((0 : Nat) : Int) ((0 : Nat) : Int) 0 ((0 : Nat) : Int) [] w (.returned (.tuple #[.agg #[.slice none 0 0, .int .i64 0, .int .i64 0], .agg #[.int .i64 0, .int .i64 0], .slice none 0 0])) ((w.alloc (.cells #[.slice none 0 0, .int .i64 0, .int .i64 0] 28)).alloc (.cells #[.int .i64 0, .int .i64 0] 30))) :=
    Lib.hid ⟨none, 0, none, 0, w.heap.size, rfl, Nat.le_refl _, B2.out.size, ⟨World.ownsRow_nil _ _ _ _, fun x e => by cases e⟩, World.ownsRow_nil _ _ _ _, B2.out⟩
  cases hc : inB n 1 20 with
  | false =>
    rw [hc] at HC
    clear hc hok
    go_enter Try.func13, Try.ntmps13
    go_wp2_with fail
    refine (HC.out _).mono ?_
    rintro e w' ⟨rfl, rfl⟩
    go_wp2
    exact bodyPost_ret (v := .tuple #[.agg #[.slice none 0 0, .int .i64 0, .int .i64 0], .agg #[.int .i64 0, .int .i64 0], .slice none 0 0]) (by simp [results, Try.results13, go_sem, q4, q5]) rfl HP.out
  | true =>
    have h300 : 300 < ops.length := by
      unfold playOk at hok
      rw [hc, Bool.true_and, decide_eq_false_iff_not] at hok
      omega
    rw [hc] at HC
    clear hc hok
    go_enter Try.func13, Try.ntmps13
    go_wp2_with fail
    refine (HC.out _).mono ?_
    rintro e w' ⟨rfl, rfl⟩
    go_wp2
    exact bodyPost_ret (v := .tuple #[.agg #[.slice none 0 0, .int .i64 0, .int .i64 0], .agg #[.int .i64 0, .int .i64 0], .slice none 0 0]) (by simp [results, Try.results13, go_sem, q4, q5]) rfl HP.out
set_option maxHeartbeats 4000000 in
set_option maxRecDepth 100000 in
theorem implPlay_any (n : Int) (a : Option Addr) (m c : Nat) (ops : List Int) (hi : Nat) (w : World) (hr : Nums .i64 w hi a c ops) (hn : m = ops.length) (hB : hi ≤ w.heap.size) (hlen : ops.length ≤ 1048576) :
    Calls Try.prog 13 #[.int .i64 n, .slice a m c] w (PlayRes 3 (plEnd n ops).xs (plEnd n ops).p (plEnd n ops).k (plHome n ops) (plEnd n ops).k (plAll n ops) w) := by
  subst hn
  obtain ⟨i0, hi0, hz0, hz1, hz2⟩ := info_parts infoI64
  have hcap := hr.cap
  have hbig := hr.big
  have b1 := (Below.refl w.heap.size w).alloc (Nat.le_refl _) (.cells #[.slice none 0 0, .int .i64 0, .int .i64 0] 28)
  have b2 := b1.alloc (by simp) (.cells #[.int .i64 0, .int .i64 0] 30)
  have K4 := Lib.hid ((Blk.new w 28 #[.slice none 0 0, .int .i64 0, .int .i64 0]).alloc (.cells #[.int .i64 0, .int .i64 0] 30))
  have k5 := Blk.new (w.alloc (.cells #[.slice none 0 0, .int .i64 0, .int .i64 0] 28)) 30 #[.int .i64 0, .int .i64 0]
  simp only [World.size_alloc] at k5
  have K5 := Lib.hid k5
  have HN := Lib.hid (hr.below (b2.mono hB))
  have B2 := Lib.hid b2
  have hr0 := hr
  clear hr b1 b2 k5
  have HC : Hid (∀ (W : World), Calls Try.prog 44 #[.int .i64 n] W fun e w' => e = .returned (.bool (inB n 1 20)) ∧ W = w') := fun W => isCap_any n W
  by_cases hok : playOk n ops = true
  · have hok2 := hok
    unfold playOk at hok2
    rw [Bool.and_eq_true, decide_eq_true_eq] at hok2
    have hnb := inB_iff.1 hok2.1
    obtain ⟨n, rfl⟩ : ∃ n' : Nat, n = n' := ⟨n.toNat, by omega⟩
    rw [(play_at hok).1, (play_at hok).2.1, (play_at hok).2.2]
    rw [hok2.1] at HC
    have hlt300 : ¬ (300 < ops.length) := by omega
    have h300 : ops.length ≤ 300 := hok2.2
    have n1 : 1 ≤ n := by omega
    have n2 : n ≤ 20 := by omega
    clear hok hok2 hnb hr0
    have HNL := Lib.hid (fun W => newLink_any n W n1 n2)
    have HPL := Lib.hid (fun W lo q r g c s op h => play_any n lo q r g c s op W h n1 n2)
    have HS0 := Lib.hid (plS_zero n ops)
    have HSS := Lib.hid (plS_succ n ops)
    have HTS := Lib.hid (plT_succ n ops)
    have HTL := Lib.hid (plT_len n ops)
    have HT0 := Lib.hid (plT_zero n ops)
    go_enter Try.func13, Try.ntmps13
    go_wp2_with fail
    refine (HC.out _).mono ?_
    rintro e w' ⟨rfl, rfl⟩
    go_wp2_with fail
    refine (HNL.out _).mono ?_
    rintro e w1 ⟨q, r, g, cr, rfl, hL, hq0, hr0, hg0, hb⟩
    simp only [World.size_alloc] at hL hq0 hr0 hg0
    have L1 := Lib.hid hL
    have KK4 := Lib.hid (K4.out.below hb)
    have KK5 := Lib.hid (K5.out.below hb)
    have N1 := Lib.hid (HN.out.below (hb.mono (by simp; omega)))
    have B3 := Lib.hid (B2.out.trans (hb.mono (by simp; omega)))
    have s1 := hb.size
    simp only [World.size_alloc] at s1
    clear hL hb
    go_wp2_with (at_make; refine wpList_make_own _ rfl _ _ 24 rfl w1.heap.size 3 i0 (.int .i64 0) 1 Try.underlying24 hi0 hz0 hz1 _ _ _ ops.length rfl rfl rfl (by rw [hz2]; omega) (by unfold maxLen; omega) (Nat.le_refl _) ?_)
    intro w2 hO hG
    have L2 := Lib.hid (L1.out.grown hG (by simp) (by simp) (by simp))
    have J4 := Lib.hid (KK4.out.grown hG (by simp))
    have J5 := Lib.hid (KK5.out.grown hG (by simp))
    have s2 := hG.size
    have N2 := Lib.hid (N1.out.below ((below_grown hG).mono (by omega)))
    have B4 := Lib.hid (B3.out.trans ((below_grown hG).mono (by omega)))
    have O2 := Lib.hid hO
    have hlq := L1.out.blk.lt
    have hlg := L1.out.cred.lt
    have hlr := (L1.out.own.lt r rfl).2
    have W2 : Hid (∀ (wr : World), Below (w.heap.size + 2) w2 wr → Nums .i64 wr hi a c ops) := Lib.hid (fun wr h => N2.out.below (h.mono (by omega)))
    clear hO hG
    go_wp2
    go_loopw [8, 10, 28] (fun v o i wr => ∃ (j : Nat) (a' : Option Addr) (c' : Nat), j ≤ ops.length ∧ i = .int .i64 j ∧ v = .slice a' j c' ∧ wr.ownsRow w1.heap.size 3 1 (.slice a' j c') j ((plT n ops j).map (Value.int .i64)) ∧ Lk n (w.heap.size + 2) q r g cr (plS n ops j) wr ∧ Below (w.heap.size + 2) w2 wr)
      (fun _ _ i _ => ops.length - (intOf i).toNat)
    case atStart => exact ⟨0, _, _, Nat.zero_le _, rfl, rfl, by rw [HT0.out]; exact O2.out, by rw [HS0.out]; exact L2.out, Below.refl _ _⟩
    case round =>
      obtain ⟨j, a', c', hj, rfl, rfl, hown, hlk, hb⟩ := hrel
      have hsz := hb.size
      by_cases hlt : j < ops.length
      · have hN := W2.out _ hb
        obtain ⟨b, off, rfl, hbh, hcell⟩ := hN.lies.resolve_left (by intro h; subst h; simp at hlt)
        have hck := hcell j hlt
        have hS := Lib.hid (HSS.out j hlt)
        have hT := Lib.hid (HTS.out j)
        have HPX := Lib.hid (fun W h => HPL.out W (w.heap.size + 2) q r g cr (plS n ops j) (el ops j) h)
        have HL := Lib.hid hlk
        have HO := Lib.hid hown
        have HB := Lib.hid hb
        clear hN hcell hown hlk hb
        generalize plTold (plS n ops j) (el ops j) = X at hT HPX
        go_wp2_with fail
        refine (HPX.out _ HL.out).mono ?_
        rintro e w3 ⟨rfl, hl3, ho3⟩
        have HL3 := Lib.hid hl3
        have O3 := Lib.hid (owns_only HO.out ho3 (fun g' hg' hS3 => by have := (HO.out.lt g' hg').1; rcases hS3 with h | h | h <;> omega))
        have B5 := Lib.hid (HB.out.trans (ho3.below (fun k hk => by rcases hk with h | h | h <;> omega) (by omega)))
        have s3 := ho3.size
        rw [← hS.out] at HL3
        clear hl3 ho3 hck
        go_wp2_with (at_builtin; refine wpList_append_own _ rfl _ _ 24 rfl w1.heap.size 3 i0 (.int .i64 0) 1 8 Try.underlying24 hi0 hz0 hz1 hz2 rfl (by decide) _ _ _ rfl (O3.out.alloc _) ⟨w3.heap.size, 0, none⟩ 1 1 [.int .i64 X] rfl rfl (cell_one_newI _ _ _) (one_i64 _) ?c3 ?c4 ?c5 ?_)
        case c3 => unfold maxLen; omega
        case c4 => omega
        case c5 => simp; omega
        intro v' w5 hown' hg _
        obtain ⟨a2, c2, rfl⟩ := owns_shape hown'
        have HB2 := Lib.hid ((B5.out.alloc (by omega) _).trans ((below_own (O3.out.alloc _) hg (by simp; omega)).mono (by omega)))
        have HL5 := Lib.hid ((HL3.out.keep ((Below.refl w3.heap.size w3).alloc (Nat.le_refl _) _)).grown hg (fun e => by have := (O3.out.lt q e.symm).1; omega) (fun e => by have := (O3.out.lt r e.symm).1; omega) (fun e => by have := (O3.out.lt g e.symm).1; omega))
        have hown2 : w5.ownsRow w1.heap.size 3 1 (.slice a2 (j + 1) c2) (j + 1) ((plT n ops (j + 1)).map (Value.int .i64)) := by rw [hT.out]; simpa using hown'
        have HO2 := Lib.hid hown2
        clear hown' hown2 hg
        go_wp2
        go_roundw
        case rel => exact ⟨j + 1, _, _, by omega, by go_num, rfl, HO2.out, HL5.out, HB2.out⟩
        case measure => simp [intOf]; omega
      · obtain rfl : j = ops.length := by omega
        have hlen0 := hlk.pl.len
        have hpk := hlk.pl.k
        have FC : Hid (∀ W h, Calls Try.prog 48 #[.pointer (some ⟨g, 0, none⟩)] W fun e w' => e = .returned (.agg #[.int .i64 ((n : Int) - ((plS n ops ops.length).k : Int)), .int .i64 ((plS n ops ops.length).k : Int)]) ∧ Below W.heap.size W w') := Lib.hid (fun W (h : Lk n (w.heap.size + 2) q r g cr (plS n ops ops.length) W) => by
          have hf := face_any g (n : Int) ((n : Int) - ((plS n ops ops.length).k : Int)) W h.cred (by omega) (by omega) (by omega)
          rw [show (n : Int) - ((n : Int) - ((plS n ops ops.length).k : Int)) = ((plS n ops ops.length).k : Int) by omega] at hf
          exact hf)
        have tl := HTL.out ops.length
        obtain ⟨s, hs⟩ : ∃ s, s = plS n ops ops.length := ⟨_, rfl⟩
        obtain ⟨ts, hts⟩ : ∃ ts, ts = plT n ops ops.length := ⟨_, rfl⟩
        rw [← hs] at hlk hlen0 hpk FC
        rw [← hts] at hown tl
        have j4 := J4.out.belowB hb (by omega)
        have j5 := J5.out.belowB hb (by omega)
        have hle := hb.size
        obtain ⟨home, hhome⟩ : ∃ home, home = (n : Int) - (s.k : Int) := ⟨_, rfl⟩
        rw [← hhome] at FC
        have HSE := Lib.hid hs
        have HTE := Lib.hid hts
        have HHE := Lib.hid hhome
        have HTL2 := Lib.hid tl
        clear hs hts hhome tl
        have P0 : Hid (LB n q r g cr s w1.heap.size w1.heap.size ops.length a' c' ts w wr.drew) := Lib.hid (LB.keep (W := wr) ⟨hlk, j4, j5, hown, B4.out.trans (hb.mono (by omega)), by omega⟩ (Below.refl _ wr).drew)
        have r4 := j4.cell
        have f4 := j4.frozen
        have r5 := j5.cell
        have f5 := j5.frozen
        have ql := hlk.blk.cell
        have hlk0 := hlk.blk.lt
        clear hlk hown hb j4 j5
        go_wp2_with fail
        go_region_with (first
          | (go_at_call 47; refine (ringFace_any (some ⟨r, 0, none⟩) n cr (s.p : Int) (s.k : Int) _).mono ?_; rintro e wx ⟨rfl, hb⟩; first | (have P2 := Lib.hid (P1.out.keep hb); have ra := P2.out.k4.cell; have fa := P2.out.k4.frozen; have rb := P2.out.k5.cell; have fb := P2.out.k5.frozen; have qb := P2.out.lk.blk.cell; have hz2 := P2.out.lk.blk.lt; clear hb) | (have P1 := Lib.hid (P0.out.keep hb); have rc := P1.out.k4.cell; have fc := P1.out.k4.frozen; have rd := P1.out.k5.cell; have fd := P1.out.k5.frozen; have qd := P1.out.lk.blk.cell; have hz3 := P1.out.lk.blk.lt; clear hb))
          | (go_at_call 48; refine (FC.out _ (by first | exact P1.out.lk | exact P0.out.lk)).mono ?_; rintro e wx ⟨rfl, hb⟩; first | (have P2 := Lib.hid (P1.out.keep hb); have ra := P2.out.k4.cell; have fa := P2.out.k4.frozen; have rb := P2.out.k5.cell; have fb := P2.out.k5.frozen; have qb := P2.out.lk.blk.cell; have hz2 := P2.out.lk.blk.lt; clear hb) | (have P1 := Lib.hid (P0.out.keep hb); have rc := P1.out.k4.cell; have fc := P1.out.k4.frozen; have rd := P1.out.k5.cell; have fd := P1.out.k5.frozen; have qd := P1.out.lk.blk.cell; have hz3 := P1.out.lk.blk.lt; clear hb)))
        all_goals
          have HP : Hid (PlayRes 3 (plS n ops ops.length).xs (plS n ops ops.length).p (plS n ops ops.length).k ((n : Int) - (plS n ops ops.length).k) (plS n ops ops.length).k (plT n ops ops.length) w (.returned (.tuple #[.agg #[.slice (some ⟨r, 0, none⟩) n cr, .int .i64 (s.p : Int), .int .i64 (s.k : Int)], .agg #[.int .i64 home, .int .i64 (s.k : Int)], .slice a' ops.length c'])) (((((wx.setCell ⟨w.heap.size, 0, none⟩ (.slice (some ⟨r, 0, none⟩) n cr)).setCell ⟨w.heap.size, 1, none⟩ (.int .i64 (s.p : Int))).setCell ⟨w.heap.size, 2, none⟩ (.int .i64 (s.k : Int))).setCell ⟨w.heap.size + 1, 0, none⟩ (.int .i64 home)).setCell ⟨w.heap.size + 1, 1, none⟩ (.int .i64 (s.k : Int)))) :=
            Lib.hid ((play_stored (t := w1.heap.size) P2.out.lk.pl.len.symm HTL2.out.symm P2.out.lk.own (fun x e => by have e' : some r = some x := e; injection e' with e'; omega) P2.out.own P2.out.bel rfl rfl (by omega) P2.out.size).as (by rw [HSE.out]) (by rw [HSE.out]) (by rw [HSE.out]) (by rw [HHE.out, HSE.out]) (by rw [HSE.out]) HTE.out.symm)
          go_wp2
          exact bodyPost_ret (v := .tuple #[.agg #[.slice (some ⟨r, 0, none⟩) n cr, .int .i64 (s.p : Int), .int .i64 (s.k : Int)], .agg #[.int .i64 home, .int .i64 (s.k : Int)], .slice a' ops.length c']) (by simp [results, Try.results13, go_sem, ra, rb]) rfl HP.out
  · exact implPlay_no n a ops.length c ops hi w hr0 rfl hB hlen (Bool.eq_false_iff.2 hok)
end Go.Proofs.Ytkconbmgljmpfaa
