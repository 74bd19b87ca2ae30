/- Contracts of a link's send, receive and play. -/
import Derived.Test.YtkconbmgljmpfaaPush
import Derived.Test.YtkconbmgljmpfaaCred
import Derived.Test.YtkconbmgljmpfaaPlainLink
namespace Go.Proofs.Ytkconbmgljmpfaa
open Go.RowKit

/-- Of all that was there only the blocks of S turn. -/
structure Only (S : Nat → Prop) (w w' : World) : Prop where
  os : w'.os = w.os
  tape : w'.tape = w.tape
  output : w'.output = w.output
  size : w.heap.size ≤ w'.heap.size
  block : ∀ k, k < w.heap.size → ¬ S k → w'.heap[k]? = w.heap[k]?
theorem Only.refl (S : Nat → Prop) (w : World) : Only S w w := ⟨rfl, rfl, rfl, Nat.le_refl _, fun _ _ _ => rfl⟩
theorem Only.trans {S : Nat → Prop} {a b c : World} (h : Only S a b) (k : Only S b c) : Only S a c :=
  ⟨k.os.trans h.os, k.tape.trans h.tape, k.output.trans h.output, Nat.le_trans h.size k.size, fun i hi h1 => (k.block i (Nat.lt_of_lt_of_le hi h.size) h1).trans (h.block i hi h1)⟩
theorem Only.of_below {S : Nat → Prop} {w w' : World} (h : Below w.heap.size w w') : Only S w w' := ⟨h.os, h.tape, h.output, h.size, fun k hk _ => h.block k hk⟩
theorem Only.of_grown {S : Nat → Prop} {w w' : World} {g : Nat} (h : w.grownBy w' (some g)) (hS : S g) : Only S w w' := ⟨h.os, h.tape, h.output, h.size, fun k hk h1 => h.block k hk (fun e => h1 (by injection e with e; subst e; exact hS))⟩
theorem Only.of_two {S : Nat → Prop} {w w' : World} {q r : Nat} (h : Two w w' q (some r)) (hq : S q) (hr : S r) : Only S w w' :=
  ⟨h.os, h.tape, h.output, h.size, fun k hk h1 => h.block k hk (fun e => h1 (by subst e; exact hq)) (fun e => h1 (by injection e with e; subst e; exact hr))⟩
theorem Only.below {S : Nat → Prop} {w w' : World} {B : Nat} (h : Only S w w') (hS : ∀ k, S k → B ≤ k) (hB : B ≤ w.heap.size) : Below B w w' := ⟨h.os, h.tape, h.output, h.size, fun k hk => h.block k (by omega) (fun e => by have := hS k e; omega)⟩
theorem Blk.only {S : Nat → Prop} {w w' : World} {g : Nat} {t : TypeId} {cs : Array Value} (h : Blk w g t cs) (k : Only S w w') (hg : ¬ S g) : Blk w' g t cs := (k.block g h.lt hg).trans h
theorem owns_only {S : Nat → Prop} {w w' : World} {lo n : Nat} {T : TypeId} {sz : Nat} {v : Value} {xs : List Value} (h : w.ownsRow lo T sz v n xs) (k : Only S w w') (hg : ∀ g, v.ownBlock = some g → ¬ S g) : w'.ownsRow lo T sz v n xs := by
  refine ⟨h.1, ?_⟩
  rcases h.2 with h2 | ⟨g, cap, cur, hv, hlo, hh, r⟩
  · exact .inl h2
  · have hlt : g < w.heap.size := (Array.getElem?_eq_some_iff.1 hh).1
    exact .inr ⟨g, cap, cur, hv, hlo, by rw [k.block g hlt (hg g (by rw [hv]; rfl))]; exact hh, r⟩

/-- The three blocks of a link. -/
def S3 (q r g : Nat) : Nat → Prop := fun k => k = q ∨ k = r ∨ k = g
/-- A link as it stands. -/
structure Lk (n lo q r g c : Nat) (s : Pl) (w : World) : Prop where
  blk : Blk w q 67 #[.slice (some ⟨r, 0, none⟩) n c, .int .i64 (s.p : Int), .int .i64 (s.k : Int), .pointer (some ⟨g, 0, none⟩)]
  cred : Blk w g 89 #[.int .i64 (n : Int), .int .i64 ((n : Int) - (s.k : Int))]
  own : w.ownsRow lo 3 1 (.slice (some ⟨r, 0, none⟩) n c) n (s.xs.map (Value.int .i64))
  pl : PlIn n s
  qr : q ≠ r
  qg : q ≠ g
  rg : r ≠ g
theorem Lk.keep {n lo q r g c : Nat} {s : Pl} {w w' : World} (h : Lk n lo q r g c s w) (hb : Below w.heap.size w w') : Lk n lo q r g c s w' := ⟨h.blk.below hb, h.cred.below hb, owns_below h.own hb, h.pl, h.qr, h.qg, h.rg⟩
def LkPost (n lo q r g c : Nat) (s : Pl) (v : Value) (w : World) (e : Ending) (w' : World) : Prop := e = .returned v ∧ Lk n lo q r g c s w' ∧ Only (S3 q r g) w w'

set_option maxHeartbeats 2000000 in
set_option maxRecDepth 100000 in
theorem send_any (n lo q r g c : Nat) (s : Pl) (op : Int) (w : World) (h : Lk n lo q r g c s w) (h0 : 0 ≤ op) (n1 : 1 ≤ n) (n2 : n ≤ 20) :
    Calls Try.prog 65 #[.pointer (some ⟨q, 0, none⟩), .int .i64 op] w (LkPost n lo q r g c (plStep s op) (.bool (decide (s.k < n))) w) := by
  have hpl2 := h.pl.step n1 n2 op
  obtain ⟨blk, cred, own, pl, qr, qg, rg⟩ := h
  obtain ⟨xs, p, k⟩ := s
  obtain ⟨hl, hp, hk, ho⟩ := pl
  simp only at hl hp hk ho blk cred own
  subst hl
  have q0 := blk.cell
  have HB := Lib.hid blk
  have HC := Lib.hid cred
  have HO := Lib.hid own
  have HL2 := Lib.hid hpl2
  have HL1 := Lib.hid (show PlIn xs.length ⟨xs, p, k⟩ from ⟨rfl, hp, hk, ho⟩)
  have hlq := blk.lt
  clear blk cred own hpl2 ho
  have HS := Lib.hid (fun W h => spend_any g (xs.length : Int) ((xs.length : Int) - (k : Int)) W h (by omega) (by omega))
  by_cases hf : k < xs.length
  · rw [spendX_yes (by omega), decide_eq_true (by omega)] at HS
    have hst : plStep ⟨xs, p, k⟩ op = ⟨xs.set ((p + k) % xs.length) op, p, k + 1⟩ := by simp [plStep, h0, hf]
    rw [hst] at HL2 ⊢
    rw [decide_eq_true hf]
    clear hst
    have HPU := Lib.hid (fun W h1 h2 => push_any q 67 #[.slice (some ⟨r, 0, none⟩) xs.length c, .int .i64 (p : Int), .int .i64 (k : Int), .pointer (some ⟨g, 0, none⟩)] lo (some ⟨r, 0, none⟩) c p k op xs W h1 rfl rfl rfl h2 (fun e => qr (by injection e with e; all_goals exact e.symm)) n1 n2 hp hk)
    rw [if_pos hf, if_pos hf, decide_eq_true hf] at HPU
    go_enter Try.func65, Try.ntmps65
    go_wp2_with fail
    refine (HS.out _ HC.out).mono ?_
    rintro e w1 ⟨rfl, hc, hg⟩
    have C1 := Lib.hid hc
    have B1 := HB.out.grown hg (fun e => qg (by injection e))
    have q1 := B1.cell
    have HB1 := Lib.hid B1
    have O1 := Lib.hid (HO.out.kept hg (.inr (fun e => rg (by injection e with e; all_goals exact e.symm))))
    have N1 := Lib.hid (Only.of_grown (S := S3 q r g) hg (.inr (.inr rfl)))
    have hlq1 := B1.lt
    clear hc hg B1 q0
    go_wp2_with fail
    refine (HPU.out _ HB1.out O1.out).mono ?_
    rintro e w2 ⟨rfl, hb, ho, ht⟩
    have HP : Hid (LkPost xs.length lo q r g c ⟨xs.set ((p + k) % xs.length) op, p, k + 1⟩ (.bool true) w (.returned (.bool true)) w2) :=
      ⟨rfl, ⟨by rw [Int.natCast_add]; exact hb, by have := C1.out.two ht (fun e => qg e.symm) (fun e => rg (by injection e with e; all_goals exact e.symm)); rw [show (xs.length : Int) - (k : Int) - 1 = (xs.length : Int) - ((k + 1 : Nat) : Int) by omega] at this; exact this, ho, HL2.out, qr, qg, rg⟩, N1.out.trans (Only.of_two ht (.inl rfl) (.inr (.inl rfl)))⟩
    clear hb ho ht q1
    go_wp2
    go_ret
    exact HP.out
  · rw [spendX_no (by omega), decide_eq_false (by omega)] at HS
    have hst : plStep ⟨xs, p, k⟩ op = ⟨xs, p, k⟩ := by simp [plStep, h0, hf]
    rw [hst]
    rw [decide_eq_false hf]
    clear hst
    go_enter Try.func65, Try.ntmps65
    go_wp2_with fail
    refine (HS.out _ HC.out).mono ?_
    rintro e w1 ⟨rfl, hc, hg⟩
    have HP : Hid (LkPost xs.length lo q r g c ⟨xs, p, k⟩ (.bool false) w (.returned (.bool false)) w1) :=
      ⟨rfl, ⟨HB.out.grown hg (fun e => qg (by injection e)), hc, HO.out.kept hg (.inr (fun e => rg (by injection e with e; all_goals exact e.symm))), HL1.out, qr, qg, rg⟩, Only.of_grown hg (.inr (.inr rfl))⟩
    clear hc hg q0
    go_wp2
    go_ret
    exact HP.out

set_option maxHeartbeats 2000000 in
set_option maxRecDepth 100000 in
theorem receive_any (n lo q r g c : Nat) (s : Pl) (op : Int) (w : World) (h : Lk n lo q r g c s w) (h0 : ¬ 0 ≤ op) (n1 : 1 ≤ n) (n2 : n ≤ 20) :
    Calls Try.prog 64 #[.pointer (some ⟨q, 0, none⟩)] w (LkPost n lo q r g c (plStep s op) (.tuple #[.int .i64 (if 0 < s.k then el s.xs s.p else 0), .bool (decide (0 < s.k))]) w) := by
  have hpl2 := h.pl.step n1 n2 op
  obtain ⟨blk, cred, own, pl, qr, qg, rg⟩ := h
  obtain ⟨xs, p, k⟩ := s
  obtain ⟨hl, hp, hk, ho⟩ := pl
  simp only at hl hp hk ho blk cred own
  subst hl
  have q0 := blk.cell
  have HB := Lib.hid blk
  have HC := Lib.hid cred
  have HO := Lib.hid own
  have HL2 := Lib.hid hpl2
  have HL1 := Lib.hid (show PlIn xs.length ⟨xs, p, k⟩ from ⟨rfl, hp, hk, ho⟩)
  have hlq := blk.lt
  clear blk cred own hpl2 ho
  have HPO := Lib.hid (fun W h1 h2 => pop_any q 67 #[.slice (some ⟨r, 0, none⟩) xs.length c, .int .i64 (p : Int), .int .i64 (k : Int), .pointer (some ⟨g, 0, none⟩)] lo (some ⟨r, 0, none⟩) c p k xs W h1 rfl rfl rfl h2 (fun e => qr (by injection e with e; all_goals exact e.symm)) n1 n2 hp hk)
  have HBA := Lib.hid (fun W h => back_any g (xs.length : Int) ((xs.length : Int) - (k : Int)) W h (by omega) (by omega) (by omega))
  by_cases hf : 0 < k
  · rw [backX_yes (by omega), decide_eq_true (by omega)] at HBA
    have hst : plStep ⟨xs, p, k⟩ op = ⟨xs.set p 0, (p + 1) % xs.length, k - 1⟩ := by simp [plStep, h0, hf]
    rw [hst] at HL2 ⊢
    clear hst
    simp only
    rw [if_pos hf, decide_eq_true hf]
    rw [if_pos hf, if_pos hf, if_pos hf, if_pos hf, decide_eq_true hf] at HPO
    generalize el xs p = X at HPO ⊢
    generalize (p + 1) % xs.length = M at HPO HL2 ⊢
    go_enter Try.func64, Try.ntmps64
    go_wp2_with fail
    refine (HPO.out _ HB.out HO.out).mono ?_
    rintro e w1 ⟨rfl, hb, ho, ht⟩
    have q1 := hb.cell
    have hlq1 := hb.lt
    have HB1 := Lib.hid hb
    have HO1 := Lib.hid ho
    have C1 := Lib.hid (HC.out.two ht (fun e => qg e.symm) (fun e => rg (by injection e with e; all_goals exact e.symm)))
    have N1 := Lib.hid (Only.of_two (S := S3 q r g) ht (.inl rfl) (.inr (.inl rfl)))
    clear hb ho ht q0
    go_wp2_with fail
    refine (HBA.out _ C1.out).mono ?_
    rintro e w2 ⟨rfl, hc, hg⟩
    have HP : Hid (LkPost xs.length lo q r g c ⟨xs.set p 0, M, k - 1⟩ (.tuple #[.int .i64 X, .bool true]) w (.returned (.tuple #[.int .i64 X, .bool true])) w2) :=
      ⟨rfl, ⟨by rw [show ((k - 1 : Nat) : Int) = (k : Int) - 1 by omega]; exact HB1.out.grown hg (fun e => qg (by injection e)), by rw [show (xs.length : Int) - (k : Int) + 1 = (xs.length : Int) - ((k - 1 : Nat) : Int) by omega] at hc; exact hc, HO1.out.kept hg (.inr (fun e => rg (by injection e with e; all_goals exact e.symm))), HL2.out, qr, qg, rg⟩, N1.out.trans (Only.of_grown hg (.inr (.inr rfl)))⟩
    clear hc hg q1
    go_wp2
    exact bodyPost_ret (v := .tuple #[.int .i64 X, .bool true]) (by simp [results, Try.results64, go_sem]) rfl HP.out
  · have hst : plStep ⟨xs, p, k⟩ op = ⟨xs, p, k⟩ := by simp [plStep, h0, hf]
    rw [hst]
    clear hst
    simp only
    rw [if_neg hf, decide_eq_false hf]
    rw [if_neg hf, if_neg hf, if_neg hf, if_neg hf, decide_eq_false hf] at HPO
    go_enter Try.func64, Try.ntmps64
    go_wp2_with fail
    refine (HPO.out _ HB.out HO.out).mono ?_
    rintro e w1 ⟨rfl, hb, ho, ht⟩
    have HP : Hid (LkPost xs.length lo q r g c ⟨xs, p, k⟩ (.tuple #[.int .i64 0, .bool false]) w (.returned (.tuple #[.int .i64 0, .bool false])) w1) :=
      ⟨rfl, ⟨hb, HC.out.two ht (fun e => qg e.symm) (fun e => rg (by injection e with e; all_goals exact e.symm)), ho, HL1.out, qr, qg, rg⟩, Only.of_two ht (.inl rfl) (.inr (.inl rfl))⟩
    clear hb ho ht q0
    go_wp2
    exact bodyPost_ret (v := .tuple #[.int .i64 0, .bool false]) (by simp [results, Try.results64, go_sem]) rfl HP.out

set_option maxHeartbeats 2000000 in
set_option maxRecDepth 100000 in
theorem play_any (n lo q r g c : Nat) (s : Pl) (op : Int) (w : World) (h : Lk n lo q r g c s w) (n1 : 1 ≤ n) (n2 : n ≤ 20) :
    Calls Try.prog 46 #[.pointer (some ⟨q, 0, none⟩), .int .i64 op] w (LkPost n lo q r g c (plStep s op) (.int .i64 (plTold s op)) w) := by
  have hlen := h.pl.len
  have H := Lib.hid h
  clear h
  by_cases h0 : 0 ≤ op
  · have HS := Lib.hid (fun W h => send_any n lo q r g c s op W h h0 n1 n2)
    have hlt : ¬ op < 0 := by omega
    by_cases hf : s.k < n
    · have ht : plTold s op = 1 := by simp [plTold, h0, hlen, hf]
      rw [ht]
      rw [decide_eq_true hf] at HS
      clear ht
      go_enter Try.func46, Try.ntmps46
      go_wp2_with fail
      refine (HS.out _ H.out).mono ?_
      rintro e w1 ⟨rfl, hl, ho⟩
      have HP : Hid (LkPost n lo q r g c (plStep s op) (.int .i64 1) w (.returned (.int .i64 1)) w1) := ⟨rfl, hl, ho⟩
      clear hl ho
      go_wp2
      go_ret
      exact HP.out
    · have ht : plTold s op = 0 := by simp [plTold, h0, hlen, hf]
      rw [ht]
      rw [decide_eq_false hf] at HS
      clear ht
      go_enter Try.func46, Try.ntmps46
      go_wp2_with fail
      refine (HS.out _ H.out).mono ?_
      rintro e w1 ⟨rfl, hl, ho⟩
      have HP : Hid (LkPost n lo q r g c (plStep s op) (.int .i64 0) w (.returned (.int .i64 0)) w1) := ⟨rfl, hl, ho⟩
      clear hl ho
      go_wp2
      go_ret
      exact HP.out
  · have HS := Lib.hid (fun W h => receive_any n lo q r g c s op W h h0 n1 n2)
    have hlt : op < 0 := by omega
    by_cases hf : 0 < s.k
    · have ht : plTold s op = el s.xs s.p := by simp [plTold, h0, hf]
      rw [ht]
      rw [if_pos hf, decide_eq_true hf] at HS
      clear ht
      generalize el s.xs s.p = X at HS ⊢
      go_enter Try.func46, Try.ntmps46
      go_wp2_with fail
      refine (HS.out _ H.out).mono ?_
      rintro e w1 ⟨rfl, hl, ho⟩
      have HP : Hid (LkPost n lo q r g c (plStep s op) (.int .i64 X) w (.returned (.int .i64 X)) w1) := ⟨rfl, hl, ho⟩
      clear hl ho
      go_wp2
      go_ret
      exact HP.out
    · have ht : plTold s op = -1 := by simp [plTold, h0, hf]
      rw [ht]
      rw [if_neg hf, decide_eq_false hf] at HS
      clear ht
      go_enter Try.func46, Try.ntmps46
      go_wp2_with fail
      refine (HS.out _ H.out).mono ?_
      rintro e w1 ⟨rfl, hl, ho⟩
      have HP : Hid (LkPost n lo q r g c (plStep s op) (.int .i64 (-1)) w (.returned (.int .i64 (-1))) w1) := ⟨rfl, hl, ho⟩
      clear hl ho
      go_wp2
      go_ret
      exact HP.out
end Go.Proofs.Ytkconbmgljmpfaa
