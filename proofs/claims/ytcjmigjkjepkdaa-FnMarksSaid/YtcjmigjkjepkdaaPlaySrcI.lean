/- Contract of impl.PlaySource. -/
import Derived.Test.YtcjmigjkjepkdaaPlaySrc
import Derived.OwnWalk
import Derived.Deep.AppendLies
namespace Go.Proofs.Ytcjmigjkjepkdaa
open Go.RowKit

theorem info_i64 (h : (Try.prog.info? 3).map (fun i => (i.zero, i.size, i.bytes)) = some (some (.int .i64 0), 1, 8)) : ∃ i0, Try.prog.info? 3 = some i0 ∧ i0.zero = some (.int .i64 0) ∧ i0.size = 1 ∧ i0.bytes = 8 := by
  cases hi : Try.prog.info? 3 with
  | none => rw [hi] at h; cases h
  | some i => rw [hi] at h; simp at h; exact ⟨i, rfl, h.1, h.2.1, h.2.2⟩
theorem one_i64_ (x : Int) : ∀ u ∈ [Value.int .i64 x], u.oneCell' = true := by intro u hu; simp at hu; subst hu; rfl
theorem news_at_ {W : World} {T : TypeId} {v : Value} {B : Nat} (hB : W.heap.size = B) : ∀ (j : Nat) (u : Value), [v][j]? = some u → (W.alloc (.cells #[v] T)).cell? ((⟨B, 0, none⟩ : Addr).add j) = some u := by
  subst hB
  intro j u hj
  obtain rfl : j = 0 := by
    have := (List.getElem?_eq_some_iff.1 hj).1
    simp at this; exact this
  simp only [List.getElem?_cons_zero, Option.some.injEq] at hj
  subst hj
  simp [Addr.add]
theorem row_blk_ne_ {w : World} {base g n sz : Nat} {e t : TypeId} {v : Value} {xs : List Value} {cs : Array Value} (h : w.ownsRow base e sz v n xs) (hg : Blk w g t cs) (hne : e ≠ t) : v.ownBlock ≠ some g := by
  rcases h.2 with ⟨rfl, _⟩ | ⟨g', cap, cur, rfl, _, hh, _⟩
  · simp [Value.ownBlock]
  · intro he
    have : g = g' := by simpa [Value.ownBlock] using he.symm
    subst this
    unfold Blk at hg
    rw [hh] at hg
    injection hg with hg
    injection hg with _ ht
    exact hne ht

/-- A source and a list of the call's own. -/
def PlayPost (S : Src) (ts : List Int) (w : World) (e : Ending) (w' : World) : Prop :=
  ∃ a c, e = .returned (.tuple #[(.agg #[.int .i64 S.x, .int .i64 S.m, .int .i64 S.s, .bool S.i, .bool S.o]), .slice a ts.length c]) ∧ w'.ownsRow w.heap.size 3 1 (.slice a ts.length c) ts.length (ts.map (Value.int .i64)) ∧ Below w.heap.size w w'
theorem PlayPost.as {S S' : Src} {ts ts' : List Int} {w w' : World} {e : Ending} (h : PlayPost S ts w e w') (e1 : S' = S) (e2 : ts' = ts) : PlayPost S' ts' w e w' := by subst e1 e2; exact h
/-- All that is known between two events: the source in block g, the result's place, what was told. -/
structure Sp (g lo : Nat) (S : Src) (v : Value) (j : Nat) (ts : List Int) (w W : World) : Prop where
  blk : Blk W g 28 #[.int .i64 S.x, .int .i64 S.m, .int .i64 S.s, .bool S.i, .bool S.o]
  res : Blk W w.heap.size 28 #[.int .i64 0, .int .i64 0, .int .i64 0, .bool false, .bool false]
  own : W.ownsRow lo 3 1 v j (ts.map (Value.int .i64))
  bel : Below w.heap.size w W
  lt : w.heap.size < g
  lo1 : w.heap.size < lo
section
variable {g lo j : Nat} {S : Src} {v : Value} {ts : List Int} {w W W' : World}
theorem Sp.keep (s : Sp g lo S v j ts w W) (hb : Below W.heap.size W W') : Sp g lo S v j ts w W' :=
  ⟨s.blk.below hb, s.res.below hb, owns_below s.own hb, s.bel.trans (hb.mono s.bel.size), s.lt, s.lo1⟩
theorem Sp.set (s : Sp g lo S v j ts w W) (x m t : Int) (i o : Bool) : Sp g lo ⟨x, m, t, i, o⟩ v j ts w (((((W.setCell ⟨g, 0, none⟩ (.int .i64 x)).setCell ⟨g, 1, none⟩ (.int .i64 m)).setCell ⟨g, 2, none⟩ (.int .i64 t)).setCell ⟨g, 3, none⟩ (.bool i)).setCell ⟨g, 4, none⟩ (.bool o)) := by
  have e1 := row_blk_ne_ s.own s.blk (by decide)
  have hl := s.lt
  have k := ((((s.own.kept (grown_setCell W g 0 (.int .i64 x)) (.inr e1)).kept (grown_setCell _ g 1 (.int .i64 m)) (.inr e1)).kept (grown_setCell _ g 2 (.int .i64 t)) (.inr e1)).kept (grown_setCell _ g 3 (.bool i)) (.inr e1)).kept (grown_setCell _ g 4 (.bool o)) (.inr e1)
  exact ⟨((((s.blk.set_ 0 _).set_ 1 _).set_ 2 _).set_ 3 _).set_ 4 _,
    ((((s.res.far_ (p := ⟨g, 0, none⟩) (by simp; omega) _).far_ (p := ⟨g, 1, none⟩) (by simp; omega) _).far_ (p := ⟨g, 2, none⟩) (by simp; omega) _).far_ (p := ⟨g, 3, none⟩) (by simp; omega) _).far_ (p := ⟨g, 4, none⟩) (by simp; omega) _,
    k, below_set5 s.bel (by omega) _ _ _ _ _, hl, s.lo1⟩
theorem Sp.more (s : Sp g lo S v j ts w W) {v' : Value} {X : Int} {ob : Obj} (ho : W'.ownsRow lo 3 1 v' (j + 1) (ts.map (Value.int .i64) ++ [.int .i64 X])) (hg : (W.alloc ob).grownBy W' v.ownBlock) : Sp g lo S v' (j + 1) (ts ++ [X]) w W' := by
  have s1 := s.keep ((Below.refl W.heap.size W).alloc (Nat.le_refl _) ob)
  have e1 := row_blk_ne_ s1.own s1.blk (by decide)
  have e2 := row_blk_ne_ s1.own s1.res (by decide)
  have h1 := s1.bel.size
  exact ⟨s1.blk.grown hg (fun e => e1 e.symm), s1.res.grown hg (fun e => e2 e.symm), by rw [List.map_append]; exact ho,
    s1.bel.trans ⟨hg.os, hg.tape, hg.output, hg.size, fun k hk => hg.block k (by omega) (fun e => by have := (s1.own.lt k e.symm).1; have := s.lo1; omega)⟩, s.lt, s.lo1⟩
/-- The end: the source is stored into the result's place. -/
theorem Sp.stored {a : Option Addr} {c : Nat} (s : Sp g lo S (.slice a j c) j ts w W) (hj : j = ts.length) :
    PlayPost S ts w (.returned (.tuple #[(.agg #[.int .i64 S.x, .int .i64 S.m, .int .i64 S.s, .bool S.i, .bool S.o]), .slice a j c])) (((((W.setCell ⟨w.heap.size, 0, none⟩ (.int .i64 S.x)).setCell ⟨w.heap.size, 1, none⟩ (.int .i64 S.m)).setCell ⟨w.heap.size, 2, none⟩ (.int .i64 S.s)).setCell ⟨w.heap.size, 3, none⟩ (.bool S.i)).setCell ⟨w.heap.size, 4, none⟩ (.bool S.o)) := by
  subst hj
  have e1 := row_blk_ne_ s.own s.res (by decide)
  have hl := s.lo1
  have k := ((((s.own.kept (grown_setCell W w.heap.size 0 (.int .i64 S.x)) (.inr e1)).kept (grown_setCell _ w.heap.size 1 (.int .i64 S.m)) (.inr e1)).kept (grown_setCell _ w.heap.size 2 (.int .i64 S.s)) (.inr e1)).kept (grown_setCell _ w.heap.size 3 (.bool S.i)) (.inr e1)).kept (grown_setCell _ w.heap.size 4 (.bool S.o)) (.inr e1)
  exact ⟨a, c, rfl, owns_less k (by omega), below_set5 s.bel (Nat.le_refl _) _ _ _ _ _⟩
end
theorem play_too {w : World} (c0 c1 c2 c3 c4 : Value) : Below w.heap.size w (w.alloc (.cells #[c0, c1, c2, c3, c4] 28)) := (Below.refl _ _).alloc (Nat.le_refl _) _

set_option maxHeartbeats 4000000 in
set_option maxRecDepth 100000 in
theorem implPlayS_any (l af : Int) (a : Option Addr) (n c : Nat) (es : List (List Int)) (hi : Nat) (w : World) (hr : Grid w hi a c es) (hn : n = es.length) (hB : hi ≤ w.heap.size) :
    Calls Try.prog 8 #[.int .i64 l, .int .i64 af, .slice a n c] w (PlayPost (psEnd l af es) (psAll l af es) w) := by
  subst hn
  obtain ⟨i0, hi0, hz0, hz1, hz2⟩ := info_i64 infoI64
  have hc1 := hr.cap
  have hc2 := hr.big
  by_cases h300 : es.length ≤ 300
  · rw [(ps_in h300).1, (ps_in h300).2]
    have hlt300 : ¬ (300 < es.length) := by omega
    have K0 := Lib.hid (Blk.new w 28 #[.int .i64 0, .int .i64 0, .int .i64 0, .bool false, .bool false])
    have B0 := Lib.hid ((Below.refl w.heap.size w).alloc (Nat.le_refl _) (.cells #[.int .i64 0, .int .i64 0, .int .i64 0, .bool false, .bool false] 28))
    have HG := Lib.hid (fun (W : World) (h : Below w.heap.size w W) => hr.below (h.mono hB))
    have HPL := Lib.hid (fun S a' n' c' ev W h hn hB' => play_any S l af a' n' c' ev hi W h hn hB')
    have HNW := Lib.hid (fun W => implNew_any 0 W)
    have HS0 : Hid (psS l af es 0 = ⟨-1, -1, 0, false, true⟩) := newT0
    have HSS : Hid (∀ k, psS l af es (k + 1) = psT l af (es.getD k []) (psS l af es k)) := fun _ => rfl
    have HTS : Hid (∀ k, psL l af es (k + 1) = psL l af es k ++ [psX l af (es.getD k []) (psS l af es k)]) := fun _ => rfl
    have HTL := Lib.hid (psL_len l af es)
    rw [newT0, show tickB 0 = true from tickB_yes (by omega) (by omega)] at HNW
    clear hr
    go_enter Try.func8, Try.ntmps8
    go_wp2_with fail
    refine (HNW.out _).mono ?_
    rintro e w1 ⟨rfl, hb⟩
    have s1 := hb.size
    simp only [World.size_alloc] at s1
    have K1 := Lib.hid (K0.out.below hb)
    have B1 := Lib.hid (B0.out.trans (hb.mono (by simp)))
    clear hb
    go_wp2_with (at_make; refine wpList_make_own _ rfl _ _ 29 rfl (w1.heap.size + 1) 3 i0 (.int .i64 0) 1 Try.underlying29 hi0 hz0 hz1 _ _ _ es.length rfl rfl rfl (by rw [hz2]; omega) (by unfold maxLen; omega) (by simp) ?_)
    intro w2 hO hG
    have SP0 : Hid (Sp w1.heap.size (w1.heap.size + 1) ⟨-1, -1, 0, false, true⟩ (.slice (some ⟨w1.heap.size + 1, 0, none⟩) 0 es.length) 0 [] w w2) :=
      ⟨(Blk.new w1 28 _).grown hG (by simp), (K1.out.alloc _).grown hG (by simp), by simpa using hO, (B1.out.alloc (by omega) _).trans ((below_grown hG).mono (by simp; omega)), by omega, by omega⟩
    have q2 := SP0.out.blk.cell
    clear hO hG
    go_wp2
    go_loopw [10, 12, 13, 14, 28] (fun v _ _ _ i wr => ∃ (j : Nat) (a' : Option Addr) (c' : Nat), j ≤ es.length ∧ i = .int .i64 j ∧ v = .slice a' j c' ∧ Sp w1.heap.size (w1.heap.size + 1) (psS l af es j) (.slice a' j c') j (psL l af es j) w wr)
      (fun _ _ _ _ i _ => es.length - (intOf i).toNat)
    case atStart => exact ⟨0, _, _, Nat.zero_le _, rfl, rfl, by rw [HS0.out]; exact SP0.out⟩
    case round =>
      clear q2
      obtain ⟨j, a', c', hj, rfl, rfl, hsp⟩ := hrel
      have hsz := hsp.bel.size
      by_cases hlt : j < es.length
      · obtain ⟨b, off, rfl, hbh, hcell⟩ := (HG.out _ hsp.bel).lies.resolve_left (by intro h; subst h; simp at hlt)
        obtain ⟨ai, ci, hck, hN⟩ := hcell j hlt
        have HSJ := Lib.hid (HSS.out j)
        have HTJ := Lib.hid (HTS.out j)
        generalize es.getD j [] = ev at hck hN HSJ HTJ
        obtain ⟨S, hS⟩ : ∃ S, S = psS l af es j := ⟨_, rfl⟩
        rw [← hS] at hsp HSJ HTJ
        have HPX := Lib.hid (HPL.out S ai _ ci ev wr hN rfl (by omega))
        have hcap := hN.cap
        clear hcell hN hS
        have hlt' : (j : Int) < (es.length : Int) := by omega
        have HSP := Lib.hid hsp
        have q1 := hsp.blk.cell
        have l1 := hsp.blk.lt
        obtain ⟨x, m, t, i, o⟩ := S
        simp only at q1
        clear hsp
        cases hk : psK l af ev ⟨x, m, t, i, o⟩ with
        | false =>
          rw [psX_no hk] at HTJ
          rw [hk] at HPX
          clear hk
          generalize psT l af ev ⟨x, m, t, i, o⟩ = R at HPX HSJ
          obtain ⟨x', m', t', i', o'⟩ := R
          generalize ev.length = evl at hck HPX hcap
          go_wp2_with fail
          refine HPX.out.mono ?_
          rintro e w3 ⟨rfl, hb⟩
          have SP3 := Lib.hid ((HSP.out.keep hb).keep ((Below.refl w3.heap.size w3).alloc (Nat.le_refl _) (.cells #[.int .i64 x', .int .i64 m', .int .i64 t', .bool i', .bool o'] 28)))
          have q3 := SP3.out.blk.cell
          have f3 := SP3.out.blk.frozen
          have l3 := hb.size
          have SP4 := Lib.hid (SP3.out.set x' m' t' i' o')
          simp only at q3
          clear hb q1 hck
          go_wp2_with (at_builtin; refine wpList_append_own _ rfl _ _ 29 rfl (w1.heap.size + 1) 3 i0 (.int .i64 0) 1 8 Try.underlying29 hi0 hz0 hz1 hz2 rfl (by decide) _ _ _ rfl (SP4.out.own.alloc _) ⟨_, 0, none⟩ 1 1 [.int .i64 (-2)] rfl rfl (news_at_ (by simp)) (one_i64_ _) ?c3 ?c4 ?c5 ?_)
          case c3 => unfold maxLen; omega
          case c4 => omega
          case c5 => simp; omega
          intro v' w9 hown hg _
          obtain ⟨a2, c2, rfl⟩ := owns_shape hown
          have SP9 := Lib.hid (SP4.out.more hown hg)
          clear hown hg q3 f3
          go_wp2
          go_roundw
          case rel => exact ⟨j + 1, a2, c2, by omega, by go_num, rfl, by rw [HSJ.out, HTJ.out]; exact SP9.out⟩
          case measure => simp [intOf]; omega
        | true =>
          rw [psX_yes hk] at HTJ
          rw [hk] at HPX
          clear hk
          generalize psT l af ev ⟨x, m, t, i, o⟩ = R at HPX HSJ HTJ
          obtain ⟨x', m', t', i', o'⟩ := R
          simp only at HTJ
          generalize ev.length = evl at hck HPX hcap
          go_wp2_with fail
          refine HPX.out.mono ?_
          rintro e w3 ⟨rfl, hb⟩
          have SP3 := Lib.hid ((HSP.out.keep hb).keep ((Below.refl w3.heap.size w3).alloc (Nat.le_refl _) (.cells #[.int .i64 x', .int .i64 m', .int .i64 t', .bool i', .bool o'] 28)))
          have q3 := SP3.out.blk.cell
          have f3 := SP3.out.blk.frozen
          have l3 := hb.size
          have SP4 := Lib.hid (SP3.out.set x' m' t' i' o')
          simp only at q3
          clear hb q1 hck
          go_wp2_with (at_builtin; refine wpList_append_own _ rfl _ _ 29 rfl (w1.heap.size + 1) 3 i0 (.int .i64 0) 1 8 Try.underlying29 hi0 hz0 hz1 hz2 rfl (by decide) _ _ _ rfl (SP4.out.own.alloc _) ⟨_, 0, none⟩ 1 1 [.int .i64 m'] rfl rfl (news_at_ (by simp)) (one_i64_ _) ?c3 ?c4 ?c5 ?_)
          case c3 => unfold maxLen; omega
          case c4 => omega
          case c5 => simp; omega
          intro v' w9 hown hg _
          obtain ⟨a2, c2, rfl⟩ := owns_shape hown
          have SP9 := Lib.hid (SP4.out.more hown hg)
          clear hown hg q3 f3
          go_wp2
          go_roundw
          case rel => exact ⟨j + 1, a2, c2, by omega, by go_num, rfl, by rw [HSJ.out, HTJ.out]; exact SP9.out⟩
          case measure => simp [intOf]; omega
      · obtain rfl : j = es.length := by omega
        have hl := HTL.out es.length
        obtain ⟨S, hS⟩ : ∃ S, S = psS l af es es.length := ⟨_, rfl⟩
        obtain ⟨ts, hts⟩ : ∃ ts, ts = psL l af es es.length := ⟨_, rfl⟩
        rw [← hS, ← hts] at hsp
        rw [← hts] at hl
        have HSE := Lib.hid hS
        have HTE := Lib.hid hts
        have q8 := hsp.blk.cell
        have q6 := hsp.res.cell
        have f6 := hsp.res.frozen
        have HP := Lib.hid (hsp.stored hl.symm)
        obtain ⟨x, m, t, i, o⟩ := S
        simp only at q8
        clear hsp hl hS hts
        go_wp2
        exact bodyPost_ret (v := .tuple #[(.agg #[.int .i64 x, .int .i64 m, .int .i64 t, .bool i, .bool o]), .slice a' es.length c']) (by simp [results, Try.results8, go_sem, q6]) rfl (HP.out.as HSE.out.symm HTE.out.symm)
  · rw [(ps_out h300).1, (ps_out h300).2]
    have hgt : 300 < es.length := by omega
    have HP := Lib.hid (fun c0 c1 c2 c3 c4 => play_too (w := w) c0 c1 c2 c3 c4)
    clear hr h300
    go_enter Try.func8, Try.ntmps8
    go_wp2
    exact bodyPost_ret (v := .tuple #[(.agg #[.int .i64 0, .int .i64 0, .int .i64 0, .bool false, .bool false]), .slice none 0 0]) (by simp [results, Try.results8, go_sem]) rfl ⟨none, 0, rfl, World.ownsRow_nil _ _ _ _, HP.out _ _ _ _ _⟩
end Go.Proofs.Ytcjmigjkjepkdaa
