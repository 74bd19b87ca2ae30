/- Chapter 11: a calendar in memory: a map that leads, by key, to the sessions of that key. -/
import Derived.Test.YtchbmnpajnlijaaCal3
import Derived.Maps.OwnSet
import Derived.Maps.Views
namespace Go.Proofs.Ytchbmnpajnlijaa
open Go.RowKit Go.Maps
/-- How a pointer to the sessions of a key reads: as its block's number. -/
noncomputable def rpV (v : Value) : Option (DataW Unit × List MemPlace) := by
  classical
  exact if v = .pointer none then some (.nil, []) else if h : ∃ b : Nat, v = .pointer (some ⟨b, 0, none⟩) then some (.lit (.int .i64 (h.choose : Int)), []) else none
theorem rpV_nil : rpV (.pointer none) = some (.nil, []) := by unfold rpV; simp
theorem rpV_ptr (b : Nat) : rpV (.pointer (some ⟨b, 0, none⟩)) = some (.lit (.int .i64 (b : Int)), []) := by
  unfold rpV
  have h : ∃ c : Nat, Value.pointer (some ⟨b, 0, none⟩) = .pointer (some ⟨c, 0, none⟩) := ⟨b, rfl⟩
  rw [if_neg (by simp), dif_pos h]
  have := h.choose_spec
  injection this with this
  injection this with this
  injection this with this
  rw [← this]
theorem rpV_ptr_inv {v : Value} {b : Nat} {ps : List MemPlace} (h : rpV v = some (.lit (.int .i64 (b : Int)), ps)) : v = .pointer (some ⟨b, 0, none⟩) := by
  unfold rpV at h
  split at h
  · cases h
  · split at h
    · rename_i hx
      injection h with h
      injection h with h _
      injection h with h
      injection h with h1 h2
      have e := hx.choose_spec
      have e2 : hx.choose = b := by omega
      rw [e2] at e
      exact e
    · cases h
theorem rpV_nil_inv {v : Value} {ps : List MemPlace} (h : rpV v = some (.nil, ps)) : v = .pointer none := by
  unfold rpV at h
  split at h
  · assumption
  · split at h
    · cases h
    · cases h
structure Ent where
  key : Int
  sb : Nat
  bs : List Nat
  ch : List Ss
def entsB (es : List Ent) : List Nat := es.flatMap fun e => e.sb :: e.bs
def flatE (es : List Ent) : List Ss := es.flatMap fun e => e.ch
def kIn (k : Int) : Lit := .int .i64 k
theorem calKeyed : Keyed Try.prog 3 := int_keyed Try.underlying3
theorem calZero (w : World) : (zeroValue 129).run Try.prog w = .ok (.pointer none) w := by kernel_rfl
theorem kIn_wf {k : Int} (h : 0 ≤ k ∧ k ≤ 65535) : (Lit.int .i64 k).wf = true := by simp [Lit.wf, IntKind.min, IntKind.max, IntKind.signed, IntKind.bits]; omega
theorem kIn_key {k : Int} (h : 0 ≤ k ∧ k ≤ 65535) : keyOf Try.prog 3 (.int .i64 k) = some (kIn k) := keyOf_int_mk Try.underlying3 (kIn_wf h)
theorem kIn_ne {a b : Int} (h : a ≠ b) : kIn a ≠ kIn b := fun e => h (by unfold kIn at e; injection e)
theorem mem_insert {H : Type} {x p : Lit × DataW H} : ∀ {l : List (Lit × DataW H)}, p ∈ DataW.insert x l → p = x ∨ p ∈ l
  | [], h => .inl (List.mem_singleton.1 h)
  | y :: l, h => by
    unfold DataW.insert at h
    split at h
    · rcases List.mem_cons.1 h with h | h
      · exact .inl h
      · exact .inr h
    · rcases List.mem_cons.1 h with h | h
      · exact .inr (by simp [h])
      · rcases mem_insert h with h | h
        · exact .inl h
        · exact .inr (by simp [h])
/-- What the map reads as. -/
structure CalD (es : List Ent) (D : DataW Unit) : Prop where
  lits : ∃ l, D = .map l ∧ ∀ p, p ∈ l → ∃ x, p.1 = kIn x
  yes : ∀ e, e ∈ es → ∀ z, D.atKey (kIn e.key) z = .lit (.int .i64 (e.sb : Int))
  no : ∀ k, (∀ e, e ∈ es → e.key ≠ k) → has D (kIn k) = false
theorem CalD.nil : CalD [] (.map []) := ⟨⟨[], rfl, fun p h => (by cases h)⟩, fun e h => (by cases h), fun _ _ => rfl⟩
theorem CalD.put {E1 E2 : List Ent} {D : DataW Unit} {n : Ent} (h : CalD (E1 ++ E2) D) (hk : ∀ e, e ∈ E1 ++ E2 → e.key ≠ n.key) : CalD (E1 ++ n :: E2) (D.put (kIn n.key) (.lit (.int .i64 (n.sb : Int)))) := by
  obtain ⟨l, rfl, hl⟩ := h.lits
  refine ⟨⟨_, rfl, fun p hp => ?_⟩, fun e he z => ?_, fun k hk2 => ?_⟩
  · rcases mem_insert hp with rfl | hp
    · exact ⟨n.key, rfl⟩
    · exact hl p (List.mem_filter.1 hp).1
  · by_cases hen : e = n
    · subst hen
      exact atKey_put_same ⟨l, rfl⟩ (show WideAt.IsKeyLit (kIn e.key) from trivial) _ _
    · have hm : e ∈ E1 ++ E2 := by
        simp only [List.mem_append, List.mem_cons] at he ⊢
        rcases he with he | he | he
        · exact .inl he
        · exact absurd he hen
        · exact .inr he
      rw [atKey_put_other (kIn_ne (hk e hm))]
      exact h.yes e hm z
  · rw [has_put_other (kIn_ne (fun e => hk2 n (by simp) e.symm))]
    exact h.no k fun e he => hk2 e (by
      simp only [List.mem_append, List.mem_cons] at he ⊢
      rcases he with he | he
      · exact .inl he
      · exact .inr (.inr he))
/-- The same keys, at the same places. -/
theorem CalD.same {E1 E2 : List Ent} {D : DataW Unit} {n m : Ent} (h : CalD (E1 ++ n :: E2) D) (h1 : m.key = n.key) (h2 : m.sb = n.sb) : CalD (E1 ++ m :: E2) D := by
  refine ⟨h.lits, fun e he z => ?_, fun k hk => h.no k fun e he => ?_⟩
  · simp only [List.mem_append, List.mem_cons] at he
    rcases he with he | rfl | he
    · exact h.yes e (by simp [he]) z
    · rw [h1, h2]; exact h.yes n (by simp) z
    · exact h.yes e (by simp [he]) z
  · simp only [List.mem_append, List.mem_cons] at he
    rcases he with he | rfl | he
    · exact hk e (by simp [he])
    · rw [← h1]; exact hk m (by simp)
    · exact hk e (by simp [he])
structure Cal (lo mb : Nat) (es : List Ent) (W : World) : Prop where
  map : ∃ D, W.ownsMap Try.prog 3 rpV mb es.length D ∧ CalD es D
  ent : ∀ e, e ∈ es → Blk W e.sb 132 #[headV (.pointer none) e.bs] ∧ Seg 136 W (.pointer none) e.bs e.ch ∧ (∀ s, s ∈ e.ch → s.ky = e.key) ∧ 0 ≤ e.key ∧ e.key ≤ 65535
  asc : es.Pairwise fun a b => a.key < b.key
  nd : (mb :: entsB es).Nodup
  low : ∀ b, b ∈ entsB es → lo ≤ b
/-- Nothing below lo has turned but one block. -/
structure LowM (lo mb : Nat) (w w' : World) : Prop where
  os : w'.os = w.os
  tape : w'.tape = w.tape
  output : w'.output = w.output
  size : w.heap.size ≤ w'.heap.size
  block : ∀ j, j < lo → j ≠ mb → w'.heap[j]? = w.heap[j]?
theorem LowM.of_below {lo mb : Nat} {w w' : World} (h : Below lo w w') : LowM lo mb w w' := ⟨h.os, h.tape, h.output, h.size, fun j hj _ => h.block j hj⟩
theorem LowM.trans {lo mb : Nat} {w w1 w2 : World} (h : LowM lo mb w w1) (k : LowM lo mb w1 w2) : LowM lo mb w w2 := ⟨k.os.trans h.os, k.tape.trans h.tape, k.output.trans h.output, Nat.le_trans h.size k.size, fun j hj hn => (k.block j hj hn).trans (h.block j hj hn)⟩
theorem LowM.of_grown {lo mb : Nat} {w w' : World} (h : w.grownBy w' (some mb)) (hl : lo ≤ w.heap.size) : LowM lo mb w w' := ⟨h.os, h.tape, h.output, h.size, fun j hj hn => h.block j (by omega) (fun e => hn (by injection e))⟩
theorem LowM.below {lo mb lo2 : Nat} {w w' : World} (h : LowM lo mb w w') (h1 : lo2 ≤ lo) (h2 : lo2 ≤ mb) : Below lo2 w w' := ⟨h.os, h.tape, h.output, h.size, fun j hj => h.block j (by omega) (by omega)⟩
section
variable {lo mb : Nat} {es E1 E2 : List Ent} {W W' : World} {D : DataW Unit}
theorem Cal.lt (h : Cal lo mb es W) : ∀ b, b ∈ mb :: entsB es → b < W.heap.size := fun b hb => by
  rcases List.mem_cons.1 hb with rfl | hb
  · obtain ⟨D, hD, _⟩ := h.map
    exact hD.lt
  · unfold entsB at hb
    obtain ⟨e, he, hb⟩ := List.mem_flatMap.1 hb
    obtain ⟨h1, h2, _⟩ := h.ent e he
    rcases List.mem_cons.1 hb with rfl | hb
    · exact h1.lt
    · exact h2.lt b hb
theorem ownsMap_heap {P : Program} {k : TypeId} {H : Type} {R : Value → Option (DataW H × List MemPlace)} {b n : Nat} {D : DataW H} (h : W.ownsMap P k R b n D) (hb : W'.heap[b]? = W.heap[b]?) : W'.ownsMap P k R b n D := by
  obtain ⟨es, clock, h1, F, hs, hD⟩ := h
  exact ⟨es, clock, hb.trans h1, F, hs, hD⟩
theorem Cal.kept (h : Cal lo mb es W) (hk : ∀ b, b ∈ mb :: entsB es → W'.heap[b]? = W.heap[b]?) : Cal lo mb es W' := by
  obtain ⟨D, hD, hC⟩ := h.map
  refine ⟨⟨D, ownsMap_heap hD (hk mb (by simp)), hC⟩, fun e he => ?_, h.asc, h.nd, h.low⟩
  obtain ⟨h1, h2, h3⟩ := h.ent e he
  have hm : ∀ b, b ∈ e.sb :: e.bs → b ∈ mb :: entsB es := fun b hb => List.mem_cons_of_mem _ (List.mem_flatMap.2 ⟨e, he, hb⟩)
  exact ⟨(hk e.sb (hm _ (by simp))).trans h1, h2.kept fun b hb => hk b (hm b (by simp [hb])), h3⟩
theorem Cal.below (h : Cal lo mb es W) (hb : Below W.heap.size W W') : Cal lo mb es W' := h.kept fun b hm => hb.block b (h.lt b hm)
theorem cal_look_yes {e : Ent} (h : W.ownsMap Try.prog 3 rpV mb es.length D) (hC : CalD es D) (he : e ∈ es) (hk : 0 ≤ e.key ∧ e.key ≤ 65535) : (Instr.lookup 107 (.map (some mb)) (.int .i64 e.key) false).run Try.prog W = .ok (.pointer (some ⟨e.sb, 0, none⟩)) W := by
  obtain ⟨v, ps, hr, hv⟩ := h.lookup calKeyed Try.underlying107 (calZero W) rpV_nil (kIn_key hk)
  rw [hC.yes e he] at hv
  rw [rpV_ptr_inv hv] at hr
  exact hr
theorem cal_look_no {k : Int} (h : W.ownsMap Try.prog 3 rpV mb es.length D) (hC : CalD es D) (hn : ∀ e, e ∈ es → e.key ≠ k) (hk : 0 ≤ k ∧ k ≤ 65535) : (Instr.lookup 107 (.map (some mb)) (.int .i64 k) false).run Try.prog W = .ok (.pointer none) W := by
  obtain ⟨v, ps, hr, hv⟩ := h.lookup calKeyed Try.underlying107 (calZero W) rpV_nil (kIn_key hk)
  rw [atKey_of_not_has (hC.no k hn)] at hv
  rw [rpV_nil_inv hv] at hr
  exact hr
/-- One key more, with no session. -/
theorem Cal.more {k : Int} {nb : Nat} (h : Cal lo mb (E1 ++ E2) W) (hk : 0 ≤ k ∧ k ≤ 65535) (h1 : ∀ e, e ∈ E1 → e.key < k) (h2 : ∀ e, e ∈ E2 → k < e.key) (hn : (E1 ++ E2).length < maxLen) (hb : Blk W nb 132 #[.pointer none]) (hnb : nb ∉ mb :: entsB (E1 ++ E2)) (hlo : lo ≤ nb) :
    ∃ W', (Instr.mapUpdate 107 (.map (some mb)) (.int .i64 k) (.pointer (some ⟨nb, 0, none⟩))).run Try.prog W = .ok () W' ∧ Cal lo mb (E1 ++ ⟨k, nb, [], []⟩ :: E2) W' ∧ W.grownBy W' (some mb) := by
  obtain ⟨D, hD, hC⟩ := h.map
  obtain ⟨W', hr, hD2, hg⟩ := hD.update calKeyed Try.underlying107 hn (kIn_key hk) (rpV_ptr nb)
  refine ⟨W', hr, ?_, hg⟩
  have hnm : ∀ b, b ∈ entsB (E1 ++ E2) → b ≠ mb := fun b hb e => (List.nodup_cons.1 h.nd).1 (e ▸ hb)
  have hkp : ∀ b, b ∈ entsB (E1 ++ E2) → W'.heap[b]? = W.heap[b]? := fun b hb => hg.block b (h.lt b (by simp [hb])) (fun e => hnm b hb (by injection e))
  have hnn : nb ≠ mb ∧ nb ∉ entsB (E1 ++ E2) := by simpa using hnb
  have eB : (entsB (E1 ++ ⟨k, nb, [], []⟩ :: E2)).Perm (nb :: entsB (E1 ++ E2)) := by
    unfold entsB
    simp only [List.flatMap_append, List.flatMap_cons]
    exact List.perm_middle
  refine ⟨⟨_, by
    have e : (E1 ++ (⟨k, nb, [], []⟩ : Ent) :: E2).length = (E1 ++ E2).length + 1 := by simp; omega
    rw [e]; exact hD2, hC.put (n := ⟨k, nb, [], []⟩) fun e he => by
      rcases List.mem_append.1 he with he | he
      · have := h1 e he; show e.key ≠ k; omega
      · have := h2 e he; show e.key ≠ k; omega⟩, fun e he => ?_, ?_, ?_, fun b hb => ?_⟩
  · simp only [List.mem_append, List.mem_cons] at he
    have old : e ∈ E1 ++ E2 → _ := fun hm => by
      obtain ⟨k1, k2, k3⟩ := h.ent e hm
      have hm2 : ∀ b, b ∈ e.sb :: e.bs → b ∈ entsB (E1 ++ E2) := fun b hb => List.mem_flatMap.2 ⟨e, hm, hb⟩
      exact (⟨(hkp e.sb (hm2 _ (by simp))).trans k1, k2.kept fun b hb => hkp b (hm2 b (by simp [hb])), k3⟩ : Blk W' e.sb 132 #[headV (.pointer none) e.bs] ∧ Seg 136 W' (.pointer none) e.bs e.ch ∧ (∀ s, s ∈ e.ch → s.ky = e.key) ∧ 0 ≤ e.key ∧ e.key ≤ 65535)
    rcases he with he | rfl | he
    · exact old (by simp [he])
    · exact ⟨(hg.block nb hb.lt (fun e => hnn.1 (by injection e))).trans hb, trivial, fun s hs => (by cases hs), hk.1, hk.2⟩
    · exact old (by simp [he])
  · have ha := List.pairwise_append.1 h.asc
    exact List.pairwise_append.2 ⟨ha.1, List.pairwise_cons.2 ⟨fun e he => h2 e he, ha.2.1⟩, fun a haa b hb => by
      rcases List.mem_cons.1 hb with rfl | hb
      · exact h1 a haa
      · exact ha.2.2 a haa b hb⟩
  · rw [List.nodup_cons, eB.nodup_iff, List.nodup_cons, eB.mem_iff]
    have := List.nodup_cons.1 h.nd
    exact ⟨by simp; exact ⟨fun e => hnn.1 e.symm, this.1⟩, hnn.2, this.2⟩
  · rcases List.mem_cons.1 (eB.mem_iff.1 hb) with rfl | hb
    · exact hlo
    · exact h.low b hb
/-- The sessions of one key turned. -/
theorem Cal.turn {e : Ent} {wb : Nat} {ch' : List Ss} {bs' : List Nat} (h : Cal lo mb (E1 ++ e :: E2) W) (ho : Only (e.sb :: e.bs) W W') (hb : Blk W' e.sb 132 #[headV (.pointer none) bs']) (hs : Seg 136 W' (.pointer none) bs' ch') (hk : ∀ s, s ∈ ch' → s.ky = e.key)
    (hw : W.heap.size ≤ wb) (hlo : lo ≤ wb) (hbs : ∀ b, b ∈ bs' → b = wb ∨ b ∈ e.bs) (hnd : bs'.Nodup) : Cal lo mb (E1 ++ ⟨e.key, e.sb, bs', ch'⟩ :: E2) W' := by
  obtain ⟨D, hD, hC⟩ := h.map
  have hent := h.ent e (by simp)
  have hnd0 := h.nd
  have hlt := h.lt
  have eB : ∀ x : Ent, entsB (E1 ++ x :: E2) = entsB E1 ++ ((x.sb :: x.bs) ++ entsB E2) := fun x => by unfold entsB; simp
  rw [eB] at hnd0
  obtain ⟨n1, n2⟩ := List.nodup_cons.1 hnd0
  obtain ⟨n3, n4, n5⟩ := List.nodup_append.1 n2
  obtain ⟨n6, n7, n8⟩ := List.nodup_append.1 n4
  have hmb : mb ∉ e.sb :: e.bs := fun hm => n1 (List.mem_append.2 (.inr (List.mem_append.2 (.inl hm))))
  have far : ∀ x, x ∈ E1 ∨ x ∈ E2 → ∀ b, b ∈ x.sb :: x.bs → b ∉ e.sb :: e.bs ∧ b < W.heap.size := fun x hx b hbx => by
    rcases hx with hx | hx
    · have hm : b ∈ entsB E1 := List.mem_flatMap.2 ⟨x, hx, hbx⟩
      exact ⟨fun he => n5 b hm b (List.mem_append.2 (.inl he)) rfl, hlt b (List.mem_cons_of_mem _ (by rw [eB]; exact List.mem_append.2 (.inl hm)))⟩
    · have hm : b ∈ entsB E2 := List.mem_flatMap.2 ⟨x, hx, hbx⟩
      exact ⟨fun he => n8 b he b hm rfl, hlt b (List.mem_cons_of_mem _ (by rw [eB]; exact List.mem_append.2 (.inr (List.mem_append.2 (.inr hm)))))⟩
  have hwn : ∀ b, b ∈ mb :: entsB (E1 ++ e :: E2) → b ≠ wb := fun b hb e9 => by have := hlt b hb; omega
  refine ⟨⟨D, by
    have e1 : (E1 ++ (⟨e.key, e.sb, bs', ch'⟩ : Ent) :: E2).length = (E1 ++ e :: E2).length := by simp
    rw [e1]; exact ownsMap_heap hD (ho.block mb (hlt mb (by simp)) hmb), hC.same rfl rfl⟩, fun x hx => ?_, ?_, ?_, fun b hb2 => ?_⟩
  · simp only [List.mem_append, List.mem_cons] at hx
    have old : x ∈ E1 ∨ x ∈ E2 → _ := fun hm => by
      obtain ⟨k1, k2, k3⟩ := h.ent x (by simp only [List.mem_append, List.mem_cons]; rcases hm with hm | hm; exact .inl hm; exact .inr (.inr hm))
      have hf := far x hm
      exact (⟨(ho.block x.sb (hf _ (by simp)).2 (hf _ (by simp)).1).trans k1, k2.kept fun b hb => ho.block b (hf b (by simp [hb])).2 (hf b (by simp [hb])).1, k3⟩ : Blk W' x.sb 132 #[headV (.pointer none) x.bs] ∧ Seg 136 W' (.pointer none) x.bs x.ch ∧ (∀ s, s ∈ x.ch → s.ky = x.key) ∧ 0 ≤ x.key ∧ x.key ≤ 65535)
    rcases hx with hx | rfl | hx
    · exact old (.inl hx)
    · exact ⟨hb, hs, hk, hent.2.2.2⟩
    · exact old (.inr hx)
  · have ha := List.pairwise_append.1 h.asc
    have hc := List.pairwise_cons.1 ha.2.1
    exact List.pairwise_append.2 ⟨ha.1, List.pairwise_cons.2 ⟨hc.1, hc.2⟩, fun a haa b hb => by
      rcases List.mem_cons.1 hb with rfl | hb
      · exact ha.2.2 a haa e (by simp)
      · exact ha.2.2 a haa b (by simp [hb])⟩
  · have hsub : ∀ b, b ∈ e.sb :: bs' → b = wb ∨ b ∈ e.sb :: e.bs := fun b hb => by
      rcases List.mem_cons.1 hb with rfl | hb
      · exact .inr (by simp)
      · rcases hbs b hb with h9 | h9
        · exact .inl h9
        · exact .inr (by simp [h9])
    have hc6 := List.nodup_cons.1 n6
    rw [eB, List.nodup_cons]
    refine ⟨fun hm => ?_, List.nodup_append.2 ⟨n3, List.nodup_append.2 ⟨List.nodup_cons.2 ⟨fun hm => ?_, hnd⟩, n7, fun a ha b hb e9 => ?_⟩, fun a ha b hb e9 => ?_⟩⟩
    · simp only [List.mem_append] at hm
      rcases hm with hm | hm | hm
      · exact n1 (List.mem_append.2 (.inl hm))
      · rcases hsub mb hm with h9 | h9
        · exact hwn mb (by simp) h9
        · exact hmb h9
      · exact n1 (List.mem_append.2 (.inr (List.mem_append.2 (.inr hm))))
    · rcases hbs e.sb hm with h9 | h9
      · exact hwn e.sb (by rw [eB]; simp) h9
      · exact hc6.1 h9
    · subst e9
      rcases hsub a ha with h9 | h9
      · exact hwn a (by rw [eB]; simp [hb]) h9
      · exact n8 a h9 a hb rfl
    · subst e9
      rcases List.mem_append.1 hb with hb | hb
      · rcases hsub a hb with h9 | h9
        · exact hwn a (by rw [eB]; simp [ha]) h9
        · exact n5 a ha a (List.mem_append.2 (.inl h9)) rfl
      · exact n5 a ha a (List.mem_append.2 (.inr hb)) rfl
  · rw [eB] at hb2
    simp only [List.mem_append, List.mem_cons] at hb2
    rcases hb2 with hb2 | (rfl | hb2) | hb2
    · exact h.low b (by rw [eB]; simp [hb2])
    · exact h.low _ (by rw [eB]; simp)
    · rcases hbs b hb2 with h9 | h9
      · rw [h9]; exact hlo
      · exact h.low b (by rw [eB]; simp [h9])
    · exact h.low b (by rw [eB]; simp [hb2])
end
end Go.Proofs.Ytchbmnpajnlijaa
