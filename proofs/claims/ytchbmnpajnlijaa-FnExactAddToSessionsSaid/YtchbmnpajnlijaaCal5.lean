/- Chapter 11, impl's side: calendar.list. (made by tools/mkcal5.py) -/
import Derived.Test.YtchbmnpajnlijaaKeys
import Derived.Test.YtchbmnpajnlijaaSessionA
namespace Go.Proofs.Ytchbmnpajnlijaa
open Go.RowKit Go.Maps
def flT (es : List Ent) (i : Nat) : List Ss := flatE (es.take i)
def entD : Ent := ⟨0, 0, [], []⟩
def eel (es : List Ent) (i : Nat) : Ent := es.getD i entD
theorem eel_mem {es : List Ent} {i : Nat} (h : i < es.length) : eel es i ∈ es := by
  rw [show eel es i = es[i] by simp [eel, List.getD, h]]
  exact List.getElem_mem h
theorem flT_step {es : List Ent} {i : Nat} (h : i < es.length) : flT es (i + 1) = flT es i ++ (eel es i).ch := by
  unfold flT flatE
  rw [List.take_succ_eq_append_getElem h, List.flatMap_append, show eel es i = es[i] by simp [eel, List.getD, h]]
  simp
theorem flT_le {es : List Ent} : ∀ i, i ≤ es.length → (flT es i).length ≤ (flatE es).length := fun i _ => by
  unfold flT flatE
  conv => rhs; rw [← List.take_append_drop i es, List.flatMap_append]
  rw [List.length_append]; omega
theorem key_el {es : List Ent} {i : Nat} (h : i < es.length) : el (es.map fun e => e.key) i = (eel es i).key := by simp [el, eel, List.getD, h]
set_option maxHeartbeats 8000000 in
set_option maxRecDepth 100000 in
theorem calList_x (lo mb : Nat) (es : List Ent) (w : World) (hc : Cal lo mb es w) (hlen : es.length ≤ 1048576) (hfl : (flatE es).length ≤ 1048576) :
    Calls Try.prog 93 #[.map (some mb)] w (FreshR zC 33 5 (flatE es) w) := by
  have KX := Lib.hid (keys_x mb w)
  have SX := Lib.hid (sorted_x lo mb es w hc hlen)
  have HC := Lib.hid hc
  have b0 := Lib.hid ((Below.refl w.heap.size w).alloc (Nat.le_refl _) (.cells #[.map (some mb)] 107))
  clear hc
  go_enter Try.func93, Try.ntmps93
  go_wp2_with fail
  refine KX.out.mono ?_
  rintro e w' ⟨rfl, rfl⟩
  go_wp2_with fail
  refine SX.out.mono ?_
  rintro e w2 ⟨a1, c1, rfl, ho, hb⟩
  have NK := Lib.hid (Nums.of_own ho).2
  have B2 := Lib.hid (b0.out.trans (hb.mono (by omega)))
  have hs2 : w.heap.size + 1 ≤ w2.heap.size := by have := hb.size; simp at this; omega
  have ncap := NK.out.cap
  rw [List.length_map] at ncap
  clear ho hb KX SX b0
  go_wp2
  go_loopw [3, 11] (fun ls iv wr => ∃ (i : Nat) (a2 : Option Addr) (n2 c2 : Nat), i ≤ es.length ∧ iv = .int .i64 (i : Int) ∧ ls = .slice a2 n2 c2 ∧ n2 = (flT es i).length ∧ wr.ownsRow w2.heap.size 33 5 (.slice a2 n2 c2) n2 (flatZ (flT es i)) ∧ Below w2.heap.size w2 wr) (fun _ iv _ => es.length - (intOf iv).toNat)
  case atStart => exact ⟨0, none, 0, 0, Nat.zero_le _, rfl, rfl, rfl, World.ownsRow_nil _ _ _ _, Below.refl _ _⟩
  case round =>
    obtain ⟨i, a2, n2, c2, hi, rfl, rfl, hn2, ho, hb⟩ := hrel
    have HN := Lib.hid hn2
    have RO := Lib.hid ho
    have RB := Lib.hid hb
    have hsz := hb.size
    have hle := flT_le i hi
    clear hn2 ho hb
    by_cases hlt : i < es.length
    · have hlt' : (i : Int) < (es.length : Int) := by omega
      have hnn : 0 ≤ (i : Int) := by omega
      obtain ⟨bk, ok, rfl, hbk, hck⟩ := (NK.out.below (RB.out.mono (by omega))).lies.resolve_left (by intro h9; have := congrArg List.length h9; simp at this; rw [this] at hlt; simp at hlt)
      have p0 := hck i (by rw [List.length_map]; exact hlt)
      rw [key_el hlt] at p0
      have CW := HC.out.below (B2.out.trans (RB.out.mono (by omega)))
      have hm := eel_mem hlt
      have h0 := HC.out.ent _ hm
      obtain ⟨h1, h2, h3, h4⟩ := CW.ent _ hm
      obtain ⟨D, hD, hC⟩ := CW.map
      have hl := cal_look_yes hD hC hm h4
      have HST := Lib.hid (flT_step hlt)
      have hlen2 := flT_le (es := es) (i + 1) (by omega)
      rw [HST.out, List.length_append] at hlen2
      have C0 := Lib.hid (h1.cell 0)
      have SG := Lib.hid h0.2.1
      have hbl := h0.2.1.len
      clear hck CW h0 h1 h2 h3 h4 hD hC hm
      generalize eel es i = E at *
      obtain ⟨key, sb, bs, ch⟩ := E
      simp only at p0 hl C0 SG HST hlen2 hbl
      generalize flT es i = FL at *
      obtain ⟨hv, hhv⟩ : ∃ z, Value.pointer z = headV (.pointer none) bs := headV_ptr _
      have HV := Lib.hid hhv
      have c0 : wr.cell? ⟨sb, 0, none⟩ = some (.pointer hv) := C0.out.trans (by rw [hhv]; rfl)
      clear C0 hhv
      go_wp2
      go_loopg [3, 6] ch.length (fun gk ls p wq => ∃ (j : Nat) (a3 : Option Addr) (n3 c3 : Nat), gk + j = ch.length ∧ ls = .slice a3 n3 c3 ∧ p = headV (.pointer none) (bs.drop j) ∧ n3 = (FL ++ ch.take j).length ∧ wq.ownsRow w2.heap.size 33 5 (.slice a3 n3 c3) n3 (flatZ (FL ++ ch.take j)) ∧ Below w2.heap.size w2 wq)
      case atStart => exact ⟨0, a2, n2, c2, rfl, rfl, HV.out, by rw [HN.out]; simp, by simpa using RO.out, RB.out⟩
      case round =>
        obtain ⟨j, a3, n3, c3, hgj, rfl, hp, hn3, ho3, hb3⟩ := hrel
        have HGJ := Lib.hid hgj
        have HN3 := Lib.hid hn3
        have RO3 := Lib.hid ho3
        have RB3 := Lib.hid hb3
        have hsz3 := hb3.size
        clear hgj hn3 ho3 hb3
        by_cases hj : j < ch.length
        · have hjb : j < bs.length := by omega
          rw [headV_drop hjb] at hp
          subst hp
          have kn := SG.out.at_ j hj
          have HT := Lib.hid (zel_take hj)
          obtain ⟨NX, hNX⟩ : ∃ z, Value.pointer z = headV (.pointer none) (bs.drop (j + 1)) := headV_ptr _
          rw [← hNX] at kn
          have HNX := Lib.hid hNX
          have HL3 : n3 ≤ 1048576 := by have := HN3.out; simp at this; omega
          clear hNX
          generalize zel ch j = X at *
          obtain ⟨v0, v1, v2, v3, v4⟩ := X
          generalize nel bs j = b at *
          obtain ⟨a4, c4, w4, hr4, ho4, hb4, _⟩ := appendZ (w := wr) ⟨v0, v1, v2, v3, v4⟩ HN3.out RO3.out RB3.out.size (by omega) 39
          simp only at hr4
          have kw := kn.below (B2.out.trans (RB3.out.mono (by omega)))
          have R4 := Lib.hid hr4
          have z0 : wr.cell? ⟨b, 0, none⟩ = some (.int .i64 v0) := kw.cell 0
          have z1 : wr.cell? ⟨b, 1, none⟩ = some (.int .i64 v1) := kw.cell 1
          have z2 : wr.cell? ⟨b, 2, none⟩ = some (.int .i64 v2) := kw.cell 2
          have z3 : wr.cell? ⟨b, 3, none⟩ = some (.int .i64 v3) := kw.cell 3
          have z4 : wr.cell? ⟨b, 4, none⟩ = some (.int .i64 v4) := kw.cell 4
          have hb5 := RB3.out.trans hb4
          have z5 : w4.cell? ⟨b, 5, none⟩ = some (.pointer NX) := (kn.below (B2.out.trans (hb5.mono (by omega)))).cell 5
          have FIN : Hid (∃ (j' : Nat) (a3 : Option Addr) (n3' c3 : Nat), gk - 1 + j' = ch.length ∧ Value.slice a4 (n3 + 1) c4 = .slice a3 n3' c3 ∧ Value.pointer NX = headV (.pointer none) (bs.drop j') ∧ n3' = (FL ++ ch.take j').length ∧ w4.ownsRow w2.heap.size 33 5 (.slice a3 n3' c3) n3' (flatZ (FL ++ ch.take j')) ∧ Below w2.heap.size w2 w4) := Lib.hid ⟨j + 1, a4, n3 + 1, c4, by have := HGJ.out; omega, rfl, HNX.out, by rw [HT.out, ← List.append_assoc, List.length_append, ← HN3.out]; rfl, by rw [HT.out, ← List.append_assoc]; exact ho4, hb5⟩
          clear kn kw hr4 ho4 hb4 hb5
          go_wp2_with (at_builtin; refine Lib.wpList_append_run _ rfl _ _ _ _ rfl _ _ rfl rfl _ _ R4.out ?_)
          go_roundg (gk - 1)
          case measure => (have := HGJ.out; omega)
          case rel => exact FIN.out
        · obtain rfl : j = ch.length := by have := HGJ.out; omega
          have hd : bs.drop ch.length = [] := by rw [← hbl]; simp
          rw [hd] at hp
          rw [show headV (.pointer none) [] = (.pointer none) from rfl] at hp
          subst hp
          have HN4 := Lib.hid (show n3 = (flT es (i + 1)).length by rw [HST.out]; have := HN3.out; rw [List.take_length] at this; exact this)
          have HO4 := Lib.hid (show wr.ownsRow w2.heap.size 33 5 (.slice a3 n3 c3) n3 (flatZ (flT es (i + 1))) by rw [HST.out]; have := RO3.out; rw [List.take_length] at this; exact this)
          clear hd
          go_wp2
          go_roundw
          case rel => exact ⟨i + 1, a3, n3, c3, by omega, by go_num, rfl, HN4.out, HO4.out, RB3.out⟩
          case measure => simp [intOf]; omega
    · obtain rfl : i = es.length := by omega
      have HZ : Hid (FreshR zC 33 5 (flatE es) w (.returned (.slice a2 n2 c2)) wr) := Lib.hid (by
        have e : flT es es.length = flatE es := by unfold flT; rw [List.take_length]
        have e2 := HN.out
        have o := owns_less RO.out (show w.heap.size ≤ w2.heap.size by omega)
        rw [e] at e2 o
        subst e2
        exact ⟨a2, c2, rfl, o, B2.out.trans (RB.out.mono (by omega))⟩)
      go_wp2
      exact bodyPost_ret (v := .slice a2 n2 c2) (by simp [results, Try.results93, go_sem]) rfl HZ.out
end Go.Proofs.Ytchbmnpajnlijaa
