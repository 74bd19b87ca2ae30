/- Plain: sorting that keeps the order of what is alike: lists, swaps, rotations, merges. No program. -/
namespace Go.Proofs.Ytchbmnpajnlijaa.Stab
section
variable {α : Type}
/-- A strict weak order. -/
structure Swo (lt : α → α → Bool) : Prop where
  asymm : ∀ a b, lt a b = true → lt b a = false
  trans : ∀ a b c, lt a b = false → lt b c = false → lt a c = false
variable {lt : α → α → Bool}
theorem Swo.irrefl (h : Swo lt) (a : α) : lt a a = false := by
  cases e : lt a a with
  | false => rfl
  | true => rw [h.asymm a a e] at e; cases e
theorem Swo.less (h : Swo lt) {a b c : α} (h1 : lt a b = true) (h2 : lt c b = false) : lt a c = true := by
  cases e : lt a c with
  | true => rfl
  | false => rw [h.trans a c b e h2] at h1; cases h1
theorem Swo.less' (h : Swo lt) {a b c : α} (h1 : lt b a = false) (h2 : lt b c = true) : lt a c = true := by
  cases e : lt a c with
  | true => rfl
  | false => rw [h.trans b a c h1 e] at h2; cases h2
/-- Neither is ahead. -/
def alike (lt : α → α → Bool) (a b : α) : Bool := !lt a b && !lt b a
theorem alike_iff {a b : α} : alike lt a b = true ↔ lt a b = false ∧ lt b a = false := by simp [alike]
theorem Swo.self (h : Swo lt) (a : α) : alike lt a a = true := alike_iff.2 ⟨h.irrefl a, h.irrefl a⟩
/-- No later one is ahead of an earlier. -/
def Srt (lt : α → α → Bool) (l : List α) : Prop := l.Pairwise fun a b => lt b a = false
/-- The same of each kind, in the same order. -/
structure Kin (lt : α → α → Bool) (l m : List α) : Prop where
  len : l.length = m.length
  kin : ∀ c, l.filter (alike lt c) = m.filter (alike lt c)
theorem Kin.refl (l : List α) : Kin lt l l := ⟨rfl, fun _ => rfl⟩
theorem Kin.trans {l m n : List α} (h : Kin lt l m) (k : Kin lt m n) : Kin lt l n := ⟨h.len.trans k.len, fun c => (h.kin c).trans (k.kin c)⟩
theorem Kin.symm {l m : List α} (h : Kin lt l m) : Kin lt m l := ⟨h.len.symm, fun c => (h.kin c).symm⟩
theorem Kin.app {l m l' m' : List α} (h : Kin lt l m) (k : Kin lt l' m') : Kin lt (l ++ l') (m ++ m') := ⟨by simp [h.len, k.len], fun c => by simp [List.filter_append, h.kin c, k.kin c]⟩
theorem Kin.mem (o : Swo lt) {l m : List α} (h : Kin lt l m) {x : α} (hx : x ∈ l) : x ∈ m := by
  have : x ∈ l.filter (alike lt x) := List.mem_filter.2 ⟨hx, o.self x⟩
  rw [h.kin x] at this
  exact (List.mem_filter.1 this).1
theorem not_both (o : Swo lt) {x y c : α} (h : lt y x = true) (h1 : alike lt c x = true) (h2 : alike lt c y = true) : False := by
  have := o.trans y c x (alike_iff.1 h2).2 (alike_iff.1 h1).1
  rw [h] at this
  cases this
/-- Two blocks that are turned, each of the second ahead of each of the first. -/
theorem Kin.turn (o : Swo lt) {U V : List α} (h : ∀ u, u ∈ U → ∀ v, v ∈ V → lt v u = true) : Kin lt (V ++ U) (U ++ V) := ⟨by simp; omega, fun c => by
  simp only [List.filter_append]
  by_cases hu : U.filter (alike lt c) = []
  · simp [hu]
  · have hv : V.filter (alike lt c) = [] := by
      obtain ⟨u, hu⟩ := List.exists_mem_of_ne_nil _ hu
      obtain ⟨hu, hc⟩ := List.mem_filter.1 hu
      refine List.filter_eq_nil_iff.2 fun v hv e => not_both o (h u hu v hv) hc e
    simp [hv]⟩
theorem Kin.in_ {P X Z S : List α} (h : Kin lt Z X) : Kin lt (P ++ Z ++ S) (P ++ X ++ S) := ((Kin.refl P).app h).app (Kin.refl S)
/-- Sorted, and of the same kinds in the same order. -/
structure StS (lt : α → α → Bool) (Z W : List α) : Prop where
  srt : Srt lt Z
  kin : Kin lt Z W
theorem StS.self {Z : List α} (h : Srt lt Z) : StS lt Z Z := ⟨h, Kin.refl _⟩
theorem srt_app {A B : List α} : Srt lt (A ++ B) ↔ Srt lt A ∧ Srt lt B ∧ ∀ a, a ∈ A → ∀ b, b ∈ B → lt b a = false := List.pairwise_append
theorem StS.join (o : Swo lt) {Z1 Z2 X Y : List α} (h : StS lt Z1 X) (k : StS lt Z2 Y) (c : ∀ x, x ∈ X → ∀ y, y ∈ Y → lt y x = false) : StS lt (Z1 ++ Z2) (X ++ Y) :=
  ⟨srt_app.2 ⟨h.srt, k.srt, fun a ha b hb => c a (h.kin.mem o ha) b (k.kin.mem o hb)⟩, h.kin.app k.kin⟩
theorem StS.ins (o : Swo lt) {A B : List α} {x : α} (hs : Srt lt (A ++ B)) (hB : ∀ b, b ∈ B → lt x b = true) (hA : ∀ a, a ∈ A → lt x a = false) : StS lt (A ++ x :: B) ((A ++ B) ++ [x]) := by
  obtain ⟨h1, h2, h3⟩ := srt_app.1 hs
  refine ⟨srt_app.2 ⟨h1, List.pairwise_cons.2 ⟨fun b hb => o.asymm _ _ (hB b hb), h2⟩, fun a ha b hb => ?_⟩, ?_⟩
  · rcases List.mem_cons.1 hb with rfl | hb
    · exact hA a ha
    · exact h3 a ha b hb
  · rw [List.append_assoc]
    exact (Kin.refl A).app (Kin.turn (U := B) (V := [x]) o fun u hu v hv => by
      obtain rfl := List.mem_singleton.1 hv
      exact hB u hu)
theorem StS.insFront (o : Swo lt) {A B : List α} {x : α} (hs : Srt lt (A ++ B)) (hA : ∀ a, a ∈ A → lt a x = true) (hB : ∀ b, b ∈ B → lt b x = false) : StS lt (A ++ x :: B) (x :: (A ++ B)) := by
  obtain ⟨h1, h2, h3⟩ := srt_app.1 hs
  refine ⟨srt_app.2 ⟨h1, List.pairwise_cons.2 ⟨hB, h2⟩, fun a ha b hb => ?_⟩, ?_⟩
  · rcases List.mem_cons.1 hb with rfl | hb
    · exact o.asymm _ _ (hA a ha)
    · exact h3 a ha b hb
  · have := (Kin.turn (lt := lt) (U := [x]) (V := A) o fun u hu v hv => by
      obtain rfl := List.mem_singleton.1 hu
      exact hA v hv).app (Kin.refl B)
    simpa using this
theorem StS.sym (o : Swo lt) {X1 X2 Y1 Y2 Z1 Z2 : List α} (hX : Srt lt (X1 ++ X2)) (hY : Srt lt (Y1 ++ Y2)) (h1 : ∀ x, x ∈ X1 → ∀ y, y ∈ Y2 → lt y x = false) (h2 : ∀ x, x ∈ X2 → ∀ y, y ∈ Y1 → lt y x = true) (k1 : StS lt Z1 (X1 ++ Y1)) (k2 : StS lt Z2 (X2 ++ Y2)) : StS lt (Z1 ++ Z2) ((X1 ++ X2) ++ (Y1 ++ Y2)) := by
  have j := k1.join o k2 (fun x hx y hy => by
    rcases List.mem_append.1 hx with hx | hx <;> rcases List.mem_append.1 hy with hy | hy
    · exact (srt_app.1 hX).2.2 x hx y hy
    · exact h1 x hx y hy
    · exact o.asymm _ _ (h2 y hy x hx)
    · exact (srt_app.1 hY).2.2 x hx y hy)
  refine ⟨j.srt, j.kin.trans ?_⟩
  have := ((Kin.refl X1).app (Kin.turn (lt := lt) (U := X2) (V := Y1) o h2)).app (Kin.refl Y2)
  simpa using this
/-- What is sorted is known by its kinds. -/
theorem srt_unique (o : Swo lt) : ∀ {Z Z' : List α}, Srt lt Z → Srt lt Z' → (∀ c, Z.filter (alike lt c) = Z'.filter (alike lt c)) → Z = Z'
  | [], [], _, _, _ => rfl
  | [], y :: Z', _, _, h => by
    have := h y
    simp [o.self y] at this
  | x :: Z, [], _, _, h => by
    have := h x
    simp [o.self x] at this
  | x :: Z, y :: Z', h1, h2, h => by
    have a1 := List.pairwise_cons.1 h1
    have a2 := List.pairwise_cons.1 h2
    have e : x = y := by
      have m1 : x ∈ (x :: Z).filter (alike lt x) := List.mem_filter.2 ⟨by simp, o.self x⟩
      rw [h x] at m1
      have m2 : y ∈ (y :: Z').filter (alike lt y) := List.mem_filter.2 ⟨by simp, o.self y⟩
      rw [← h y] at m2
      have x1 : lt x y = false := by
        rcases List.mem_cons.1 (List.mem_filter.1 m1).1 with rfl | hm
        · exact o.irrefl _
        · exact a2.1 x hm
      have x2 : lt y x = false := by
        rcases List.mem_cons.1 (List.mem_filter.1 m2).1 with rfl | hm
        · exact o.irrefl _
        · exact a1.1 y hm
      have := h x
      rw [List.filter_cons_of_pos (o.self x), List.filter_cons_of_pos (alike_iff.2 ⟨x1, x2⟩)] at this
      exact (List.cons.inj this).1
    subst e
    congr 1
    refine srt_unique o a1.2 a2.2 fun c => ?_
    have := h c
    by_cases hc : alike lt c x = true
    · rw [List.filter_cons_of_pos hc, List.filter_cons_of_pos hc] at this
      exact (List.cons.inj this).2
    · rw [List.filter_cons_of_neg hc, List.filter_cons_of_neg hc] at this
      exact this
/-- Sorted from a up to b. -/
def SrtOn (lt : α → α → Bool) (g : Nat → α) (a b : Nat) : Prop := ∀ i j, a ≤ i → i < j → j < b → lt (g j) (g i) = false
theorem SrtOn.le (o : Swo lt) {g : Nat → α} {a b : Nat} (h : SrtOn lt g a b) {i j : Nat} (h1 : a ≤ i) (h2 : i ≤ j) (h3 : j < b) : lt (g j) (g i) = false := by
  rcases Nat.lt_or_ge i j with h4 | h4
  · exact h i j h1 h4 h3
  · obtain rfl : i = j := by omega
    exact o.irrefl _
/-- The search of a merge, under way. -/
structure SymI (lt : α → α → Bool) (g : Nat → α) (p s0 r0 s r : Nat) : Prop where
  lo : s0 ≤ s
  le : s ≤ r
  hi : r ≤ r0
  left : s0 < s → lt (g (p + 1 - s)) (g (s - 1)) = false
  right : r < r0 → lt (g (p - r)) (g r) = true
theorem SymI.up {g : Nat → α} {p s0 r0 s r c : Nat} (h : SymI lt g p s0 r0 s r) (h1 : s ≤ c) (h2 : c < r) (hp : c ≤ p) (hc : lt (g (p - c)) (g c) = false) : SymI lt g p s0 r0 (c + 1) r :=
  ⟨by have := h.lo; omega, by omega, h.hi, fun _ => by
    rw [show p + 1 - (c + 1) = p - c by omega]; exact hc, h.right⟩
theorem SymI.down {g : Nat → α} {p s0 r0 s r c : Nat} (h : SymI lt g p s0 r0 s r) (h1 : s ≤ c) (h2 : c < r) (hc : lt (g (p - c)) (g c) = true) : SymI lt g p s0 r0 s c :=
  ⟨h.lo, h1, by have := h.hi; omega, h.left, fun _ => hc⟩
theorem SymI.end_ (o : Swo lt) {g : Nat → α} {a m b mid s0 r0 s : Nat} (hmid : mid = (a + b) / 2) (ham : a < m) (hmb : m < b) (h0 : mid < m ∧ s0 = mid + m - b ∧ r0 = mid ∨ m ≤ mid ∧ s0 = a ∧ r0 = m) (hX : SrtOn lt g a m) (hY : SrtOn lt g m b)
    (h : SymI lt g (mid + m - 1) s0 r0 s s) :
    a ≤ s ∧ s ≤ m ∧ m ≤ mid + m - s ∧ mid + m - s ≤ b ∧ (∀ i, a ≤ i → i < s → ∀ j, mid + m - s ≤ j → j < b → lt (g j) (g i) = false) ∧ (∀ i, s ≤ i → i < m → ∀ j, m ≤ j → j < mid + m - s → lt (g j) (g i) = true) := by
  have l1 := h.lo
  have l2 := h.hi
  refine ⟨by omega, by omega, by omega, by omega, fun i i1 i2 j j1 j2 => ?_, fun i i1 i2 j j1 j2 => ?_⟩
  · have := h.left (by omega)
    rw [show mid + m - 1 + 1 - s = mid + m - s by omega] at this
    exact o.trans _ _ _ (o.trans _ _ _ (hY.le o (i := mid + m - s) (j := j) (by omega) j1 j2) this) (hX.le o i1 (by omega) (by omega))
  · have := h.right (by omega)
    have x1 := hY.le o (i := j) (j := mid + m - 1 - s) (by omega) (by omega) (by omega)
    have x2 := hX.le o (i := s) (j := i) (by omega) (by omega) (by omega)
    exact o.less' x1 (o.less this x2)
/-- What a list holds from a on. -/
theorem srtOn_of (d : α) {P X R : List α} (h : Srt lt X) : SrtOn lt (fun i => (P ++ X ++ R).getD i d) P.length (P.length + X.length) := fun i j h1 h2 h3 => by
  have e : ∀ i, P.length ≤ i → i < P.length + X.length → ∃ _h : i - P.length < X.length, (P ++ X ++ R).getD i d = X[i - P.length] := fun i h1 h2 => ⟨by omega, by
    rw [List.getD_eq_getElem?_getD, List.append_assoc, List.getElem?_append_right h1, List.getElem?_append_left (by omega), List.getElem?_eq_getElem (by omega)]; rfl⟩
  obtain ⟨k1, e1⟩ := e i h1 (by omega)
  obtain ⟨k2, e2⟩ := e j (by omega) h3
  simp only
  rw [e1, e2]
  exact List.pairwise_iff_getElem.1 h _ _ k1 k2 (by omega)
theorem mem_at (d : α) {P X R : List α} {x : α} (h : x ∈ X) : ∃ i, P.length ≤ i ∧ i < P.length + X.length ∧ (P ++ X ++ R).getD i d = x := by
  obtain ⟨k, hk, rfl⟩ := List.mem_iff_getElem.1 h
  refine ⟨P.length + k, by omega, by omega, ?_⟩
  rw [List.getD_eq_getElem?_getD, List.append_assoc, List.getElem?_append_right (by omega), List.getElem?_append_left (by omega), List.getElem?_eq_getElem (by omega)]
  simp
theorem srt_of_on (d : α) {P X R : List α} (h : SrtOn lt (fun i => (P ++ X ++ R).getD i d) P.length (P.length + X.length)) : Srt lt X := by
  refine List.pairwise_iff_getElem.2 fun i j hi hj hij => ?_
  have e : ∀ i (_ : i < X.length), (P ++ X ++ R).getD (P.length + i) d = X[i] := fun i hi => by
    rw [List.getD_eq_getElem?_getD, List.append_assoc, List.getElem?_append_right (by omega), List.getElem?_append_left (by omega), List.getElem?_eq_getElem (by omega)]
    simp
  have := h (P.length + i) (P.length + j) (by omega) (by omega) (by omega)
  simp only [e i hi, e j hj] at this
  exact this
/-- Two places turned. -/
def swp (d : α) (q : List α) (i j : Nat) : List α := (q.set i (q.getD j d)).set j (q.getD i d)
theorem swp_mid (d : α) (A B C : List α) (x y : α) : swp d (A ++ x :: B ++ y :: C) A.length (A.length + 1 + B.length) = A ++ y :: B ++ x :: C := by
  have e1 : (A ++ x :: B ++ y :: C).getD A.length d = x := by simp [List.getD_eq_getElem?_getD]
  have e2 : (A ++ x :: B ++ y :: C).getD (A.length + 1 + B.length) d = y := by
    rw [List.getD_eq_getElem?_getD, List.getElem?_append_right (by simp; omega)]
    simp
    rw [show A.length + 1 + B.length - (A.length + (B.length + 1)) = 0 by omega]; rfl
  unfold swp
  rw [e1, e2, show A ++ x :: B ++ y :: C = A ++ x :: (B ++ y :: C) by simp, List.set_append_right _ _ (Nat.le_refl _), Nat.sub_self, List.set_cons_zero, List.set_append_right _ _ (by omega), show A.length + 1 + B.length - A.length = B.length + 1 by omega, List.set_cons_succ, List.set_append_right _ _ (Nat.le_refl _), Nat.sub_self, List.set_cons_zero]
  simp
theorem swp_next (d : α) (A C : List α) (x y : α) : swp d (A ++ x :: y :: C) A.length (A.length + 1) = A ++ y :: x :: C := by
  have := swp_mid d A [] C x y
  simpa using this
theorem set_same : ∀ (q : List α) (i : Nat) (x y : α), (q.set i x).set i y = q.set i y := fun q i x y => by simp
theorem swp_comm (d : α) (q : List α) (i j : Nat) : swp d q i j = swp d q j i := by
  unfold swp
  by_cases h : i = j
  · subst h; rfl
  · rw [List.set_comm _ _ h]
/-- Two ranges turned, cell by cell. -/
theorem swp_range (d : α) (P X M Y S : List α) (t : Nat) (ht : t < X.length) (hXY : X.length = Y.length) :
    swp d (P ++ (Y.take t ++ X.drop t) ++ M ++ (X.take t ++ Y.drop t) ++ S) (P.length + t) (P.length + X.length + M.length + t) = P ++ (Y.take (t + 1) ++ X.drop (t + 1)) ++ M ++ (X.take (t + 1) ++ Y.drop (t + 1)) ++ S := by
  have ex : X.drop t = X[t] :: X.drop (t + 1) := List.drop_eq_getElem_cons ht
  have ey : Y.drop t = Y[t]'(by omega) :: Y.drop (t + 1) := List.drop_eq_getElem_cons (by omega)
  have tx : X.take (t + 1) = X.take t ++ [X[t]] := List.take_succ_eq_append_getElem ht
  have ty : Y.take (t + 1) = Y.take t ++ [Y[t]'(by omega)] := List.take_succ_eq_append_getElem (by omega)
  rw [ex, ey, tx, ty]
  have := swp_mid d (P ++ Y.take t) (X.drop (t + 1) ++ M ++ X.take t) (Y.drop (t + 1) ++ S) X[t] (Y[t]'(by omega))
  have l1 : (P ++ Y.take t).length = P.length + t := by simp; omega
  have l2 : (P ++ Y.take t).length + 1 + (X.drop (t + 1) ++ M ++ X.take t).length = P.length + X.length + M.length + t := by simp; omega
  rw [l2, l1] at this
  simp only [List.append_assoc, List.cons_append, List.nil_append] at this ⊢
  exact this
/-- Sorted in blocks of s. -/
def Blks (lt : α → α → Bool) (g : Nat → α) (n s : Nat) : Prop := ∀ i j, i < j → j < n → i / s = j / s → lt (g j) (g i) = false
theorem Blks.on {g : Nat → α} {n s : Nat} (h : Blks lt g n s) {k a b : Nat} (ha : k * s ≤ a) (hb : b ≤ (k + 1) * s) (hn : b ≤ n) : SrtOn lt g a b := fun i j h1 h2 h3 => by
  have e1 : i / s = k := Nat.div_eq_of_lt_le (by omega) (by omega)
  have e2 : j / s = k := Nat.div_eq_of_lt_le (by omega) (by omega)
  exact h i j h2 (by omega) (by rw [e1, e2])
end
end Go.Proofs.Ytchbmnpajnlijaa.Stab
