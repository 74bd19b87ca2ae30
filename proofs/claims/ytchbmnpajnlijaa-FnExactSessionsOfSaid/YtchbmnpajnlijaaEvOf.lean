/- impl's events of a list of frames. (out of XFoldAll: a smaller reach) -/
import Derived.Test.YtchbmnpajnlijaaFmRow
import Derived.Test.YtchbmnpajnlijaaEvAgg
import Derived.LaidEql
import Derived.Lib.LazyBuf
import Derived.Lib.AppendZeros
import Derived.Deep.RegionLaw
namespace Go.Proofs.Ytchbmnpajnlijaa
open Go.RowKit
def evF (F : Fm) : Bool := isEv F.k F.y F.t F.v
theorem filt_yes {L : List Fm} {k : Nat} (hk : k < L.length) (h : evF (qel L k) = true) : (L.take (k + 1)).filter evF = (L.take k).filter evF ++ [qel L k] := by rw [qel_take hk, List.filter_append, List.filter_cons_of_pos h]; rfl
theorem filt_no {L : List Fm} {k : Nat} (hk : k < L.length) (h : evF (qel L k) = false) : (L.take (k + 1)).filter evF = (L.take k).filter evF := by rw [qel_take hk, List.filter_append, List.filter_cons_of_neg (by simp [h])]; simp
theorem info_partsQ {t : TypeId} {z : Value} {a b : Nat} (h : (Try.prog.info? t).map (fun i => (i.zero, i.size, i.bytes)) = some (some z, a, b)) : ∃ i, Try.prog.info? t = some i ∧ i.zero = some z ∧ i.size = a ∧ i.bytes = b := by
  obtain ⟨i, hi, hzz⟩ := Option.map_eq_some_iff.1 h
  simp only [Prod.mk.injEq] at hzz
  exact ⟨i, hi, hzz.1, hzz.2.1, hzz.2.2⟩
theorem newsQ {W : World} {S : Fm} {T : TypeId} {B : Nat} (hB : W.heap.size = B) : ∀ (j : Nat) (u : Value), (qC S)[j]? = some u → (W.alloc (.cells (qC S).toArray T)).cell? ((⟨B, 0, none⟩ : Addr).add j) = some u := by
  subst hB
  intro j u hj
  have hadd : (⟨W.heap.size, 0, none⟩ : Addr).add j = ⟨W.heap.size, j, none⟩ := by unfold Addr.add; split <;> simp_all
  rw [hadd, (Blk.new W T (qC S).toArray).cell j]
  simpa using hj
theorem qC_ones (S : Fm) : ∀ u ∈ qC S, u.oneCell' = true := by
  intro u hu
  simp only [qC, List.mem_cons, List.not_mem_nil, or_false] at hu
  rcases hu with rfl | rfl | rfl | rfl <;> rfl
theorem appendQ {w : World} {lo n c : Nat} {a1 : Option Addr} {l : List Fm} (S : Fm) (ho : w.ownsRow lo 66 4 (.slice a1 n c) n (flatQ l)) (hlo : lo ≤ w.heap.size) (hb : n ≤ 2097152) (ty : TypeId) :
    ∃ a3 c3 w', (Builtin.append_ #[47, 47] ty #[.slice a1 n c, .slice (some ⟨w.heap.size, 0, none⟩) 1 1]).run Try.prog (w.alloc (.cells #[.int .i64 S.k, .int .i64 S.y, .int .i64 S.t, .int .i64 S.v] 66)) = .ok (.slice a3 (n + 1) c3) w' ∧
      w'.ownsRow lo 66 4 (.slice a3 (n + 1) c3) (n + 1) (flatQ (l ++ [S])) ∧ Below lo w w' := by
  obtain ⟨i0, hi0, hz0, hz1, hz2⟩ := info_partsQ infoFrame
  obtain ⟨v', w', hr, h2, h3, _⟩ := run_append_own (P := Try.prog) (w.alloc (.cells (qC S).toArray 66)) lo 47 ty 66 i0 (.agg #[.int .i64 0, .int .i64 0, .int .i64 0, .int .i64 0]) 4 32 Try.underlying47 hi0 hz0 hz1 hz2 rfl (by decide) _ n _ (ho.alloc _) ⟨w.heap.size, 0, none⟩ 1 1 (qC S) rfl (newsQ rfl) (qC_ones S) (by unfold maxLen; omega) (by omega) (by simp; omega)
  obtain ⟨a3, c3, rfl⟩ := owns_shape h2
  refine ⟨a3, c3, w', hr, ?_, ((Below.refl lo w).alloc hlo _).trans (below_own (ho.alloc _) h3 (by simp; omega))⟩
  rw [flatQ_append]
  simpa [flatQ, flatR] using h2
set_option maxHeartbeats 4000000 in
set_option maxRecDepth 100000 in
theorem eventsOf_any (a : Option Addr) (n c : Nat) (L : List Fm) (hi : Nat) (w : World) (hr : Fms w hi a c L) (hn : n = L.length) (hB : hi ≤ w.heap.size) (hlen : L.length ≤ 1048576) :
    Calls Try.prog 72 #[.slice a n c] w (FreshR qC 66 4 (L.filter evF) w) := by
  subst hn
  have m1 := hr.cap
  have m2 := hr.big
  have HR := Lib.hid hr
  clear hr
  go_enter Try.func72, Try.ntmps72
  go_wp2
  go_loopw [3, 8] (fun ls i wr => ∃ (k : Nat) (a2 : Option Addr) (n2 c2 : Nat), k ≤ L.length ∧ i = .int .i64 (k : Int) ∧ ls = .slice a2 n2 c2 ∧ n2 = ((L.take k).filter evF).length ∧ n2 ≤ k ∧ wr.ownsRow w.heap.size 66 4 (.slice a2 n2 c2) n2 (flatQ ((L.take k).filter evF)) ∧ Below w.heap.size w wr) (fun _ i _ => L.length - (intOf i).toNat)
  case atStart => exact ⟨0, _, _, _, Nat.zero_le _, rfl, rfl, by simp, by omega, by simpa [flatQ, flatR] using World.ownsRow_nil _ _ _ _, Below.refl _ _⟩
  case round =>
    obtain ⟨k, a2, n2, c2, hk, rfl, rfl, hn2, hnk, ho, hbr⟩ := hrel
    have HN2 := Lib.hid hn2
    have RO := Lib.hid ho
    have WB := Lib.hid hbr
    have hsz := hbr.size
    clear hn2 ho hbr
    by_cases hlt : k < L.length
    · obtain ⟨b1, off, rfl, hbh, hcell⟩ := Fms.six HR.out (by omega)
      have hbq : b1 < w.heap.size := by omega
      have hlt' : (k : Int) < (L.length : Int) := by omega
      have hnn : 0 ≤ (k : Int) := by omega
      have CK := Lib.hid (hcell k hlt)
      have FY := Lib.hid (fun h => filt_yes hlt h)
      have FN := Lib.hid (fun h => filt_no hlt h)
      have wk : IntKind.i64.wrap ((k : Int) + 1) = ((k + 1 : Nat) : Int) := by rw [show (k : Int) + 1 = ((k + 1 : Nat) : Int) by omega]; exact IntWalk.i64_in _ (by omega)
      clear hcell
      generalize qel L k = X at CK FY FN
      obtain ⟨e0, e1, e2, e3⟩ := X
      simp only at CK
      have CC : Hid (∀ W : World, Below w.heap.size w W → W.cell? ⟨b1, off + k * 4, none⟩ = some (.int .i64 e0) ∧ W.cell? ⟨b1, off + k * 4 + 1, none⟩ = some (.int .i64 e1) ∧ W.cell? ⟨b1, off + k * 4 + 2, none⟩ = some (.int .i64 e2) ∧ W.cell? ⟨b1, off + k * 4 + 3, none⟩ = some (.int .i64 e3)) := Lib.hid (fun W hW => by
        have g1 : ∀ q, W.cell? ⟨b1, q, none⟩ = w.cell? ⟨b1, q, none⟩ := fun q => hW.cell (p := ⟨b1, q, none⟩) (show b1 < w.heap.size by omega)
        simp only [g1]
        exact CK.out)
      clear CK
      obtain ⟨p0, p1, p2, p3⟩ := CC.out wr WB.out
      have KS := Lib.hid (Blk.new wr 66 #[.int .i64 e0, .int .i64 e1, .int .i64 e2, .int .i64 e3])
      have RO := Lib.hid (RO.out.alloc (.cells #[.int .i64 e0, .int .i64 e1, .int .i64 e2, .int .i64 e3] 66))
      have WB := Lib.hid (WB.out.alloc hsz (.cells #[.int .i64 e0, .int .i64 e1, .int .i64 e2, .int .i64 e3] 66))
      have CI := Lib.hid (fun W => isEvent_x e0 e1 e2 e3 W)
      cases hev : isEv e0 e1 e2 e3 with
      | true =>
        have E := Lib.hid (FY.out hev)
        rw [hev] at CI
        clear hev FY FN
        go_wp2_with fail
        refine (CI.out _).mono ?_
        rintro e w2 ⟨rfl, hb⟩
        clear p0 p1 p2 p3
        have RO := Lib.hid (owns_below RO.out hb)
        have WB := Lib.hid (WB.out.trans (hb.mono WB.out.size))
        have KS := Lib.hid (KS.out.below hb)
        have hbk : wr.heap.size < w2.heap.size := KS.out.lt
        clear hb
        have q0 : w2.cell? ⟨wr.heap.size, 0, none⟩ = some (.int .i64 e0) := KS.out.cell 0
        have q1 : w2.cell? ⟨wr.heap.size, 1, none⟩ = some (.int .i64 e1) := KS.out.cell 1
        have q2 : w2.cell? ⟨wr.heap.size, 2, none⟩ = some (.int .i64 e2) := KS.out.cell 2
        have q3 : w2.cell? ⟨wr.heap.size, 3, none⟩ = some (.int .i64 e3) := KS.out.cell 3
        obtain ⟨a3, c3, w9, hr3, ho3, hb3⟩ := appendQ (w := w2) ⟨e0, e1, e2, e3⟩ RO.out WB.out.size (by omega) 47
        simp only at hr3
        have R3 := Lib.hid hr3
        clear hr3
        go_wp2_with (at_builtin; refine Lib.wpList_append_run _ rfl _ _ _ _ rfl _ _ rfl rfl _ _ R3.out ?_)
        have HN3 : Hid (n2 + 1 = ((L.take (k + 1)).filter evF).length) := Lib.hid (by rw [E.out, List.length_append, ← HN2.out]; rfl)
        have RO := Lib.hid (show w9.ownsRow _ _ _ _ _ (flatQ ((L.take (k + 1)).filter evF)) by rw [E.out]; exact ho3)
        have WB := Lib.hid (WB.out.trans hb3)
        clear ho3 hb3 R3 q0 q1 q2 q3
        go_wp2
        go_roundw
        case rel => exact ⟨k + 1, a3, _, c3, by omega, by go_num, rfl, HN3.out, by omega, RO.out, WB.out⟩
        case measure => simp [intOf]; omega
      | false =>
        have E := Lib.hid (FN.out hev)
        rw [hev] at CI
        clear hev FY FN
        go_wp2_with fail
        refine (CI.out _).mono ?_
        rintro e w2 ⟨rfl, hb⟩
        clear p0 p1 p2 p3
        have RO := Lib.hid (owns_below RO.out hb)
        have WB := Lib.hid (WB.out.trans (hb.mono WB.out.size))
        clear hb
        go_wp2
        go_roundw
        case rel => exact ⟨k + 1, a2, n2, c2, by omega, by go_num, rfl, by rw [E.out]; exact HN2.out, by omega, by rw [E.out]; exact RO.out, WB.out⟩
        case measure => simp [intOf]; omega
    · have hlt' : ¬ (k : Int) < (L.length : Int) := by omega
      obtain rfl : k = L.length := by omega
      rw [List.take_length] at HN2 RO
      have FIN : Hid (FreshR qC 66 4 (L.filter evF) w (.returned (.slice a2 n2 c2)) wr) := Lib.hid (by
        have hn2 := HN2.out
        subst hn2
        exact ⟨a2, c2, rfl, RO.out, WB.out⟩)
      clear RO HN2
      go_wp2
      go_ret
      exact FIN.out
end Go.Proofs.Ytchbmnpajnlijaa
