/- Contract of spec.AllFrames. -/
import Derived.Test.YtpigollgjpkflaaDoorAllImpl
import Derived.Test.YtpigollgjpkflaaDoorTakeSpec
namespace Go.Proofs.YtpigollgjpkflaaDoor
open Go.RowKit

def intOf_ : Value → Int
  | .int _ n => n
  | _ => 0
set_option maxRecDepth 100000 in
set_option maxHeartbeats 4000000 in
theorem specAll_any (hi : Nat) (a : Option Addr) (n c : Nat) (xs : List Int) (w : World) (hN : Nums .u8 w hi a c xs) (hn : n = xs.length) (hh : hi ≤ w.heap.size) (hx : IsB xs) :
    Calls Tryd.prog 6 #[.slice a n c] w (FramesRes (af xs).list (af xs).n (af xs).bad w) := by
  subst hn
  obtain ⟨i0, hi0, hz0, hz1, hz2⟩ := info_parts infoFr
  have hcap := hN.cap
  have hbig := hN.big
  by_cases h400 : xs.length ≤ 400
  · have hgt : ¬ (400 < xs.length) := by omega
    have HA := Lib.hid (fun acc rest m (h : AfAt xs acc rest m) (hh : tkHere rest = false) => h.stop hh h400)
    have HX := Lib.hid hx
    have HNW : Hid (∀ (W : World), Below w.heap.size w W → Nums .u8 W w.heap.size a c xs) := Lib.hid (fun W h => (hN.more hh).below h)
    have HTK := Lib.hid (fun W a1 c1 ys h1 hy => specTake_any w.heap.size a1 c1 ys W h1 hy)
    clear hN hx
    go_enter Tryd.func6, Tryd.ntmps6
    go_wp2
    go_loopw [5, 6, 7, 8] (fun l p _ _ wr => ∃ (acc : List Fr) (rest : List Int) (m : Nat) (la : Option Addr) (lc at_ : Nat), AfAt xs acc rest m ∧ l = .slice la acc.length lc ∧ p = .int .i64 at_ ∧ rest = xs.drop at_ ∧ at_ ≤ xs.length ∧ wr.ownsRow w.heap.size 36 4 (.slice la acc.length lc) acc.length (flatF acc) ∧ Below w.heap.size w wr)
      (fun l _ _ _ _ => 401 - lenOf l)
    case atStart => exact ⟨[], xs, _, _, _, 0, AfAt.start xs, rfl, rfl, by simp, Nat.zero_le _, World.ownsRow_made w #[] 0 (Nat.le_refl _) (by unfold maxLen; omega) (by simp), (Below.refl _ _).alloc (Nat.le_refl _) _⟩
    case round =>
      obtain ⟨acc, rest, m, la, lc, at_, hat, rfl, rfl, hre, hle0, hown, hb⟩ := hrel
      have hle := hat.le
      have hsz := hb.size
      have HAT := Lib.hid hat
      have HO := Lib.hid hown
      have HB := Lib.hid hb
      have hxr : IsB rest := by rw [hre]; exact HX.out.drop _
      have HXR := Lib.hid hxr
      have hlen : rest.length = xs.length - at_ := by rw [hre, List.length_drop]
      have HRE := Lib.hid hre
      have hdr := (HNW.out _ hb).drop at_ hle0
      rw [← hre] at hdr
      clear hat hown hxr hb hre
      by_cases hcP : c = at_
      · rw [if_pos hcP] at hdr
        have hdr0 : c - at_ = 0 := by omega
        rw [hdr0] at hdr
        have HDR := Lib.hid hdr
        clear hdr hdr0
        have HTK2 : Hid (∀ (W : World), Nums .u8 W w.heap.size a 0 rest → w.heap.size ≤ W.heap.size → Calls Tryd.prog 19 #[.slice a (xs.length - at_) 0] W (TakePost rest W)) := Lib.hid (fun W h1 h2 => by
          have h := specTake_any w.heap.size a 0 rest W h1 h2 HXR.out
          rw [hlen] at h
          exact h)
        have hA9 := hlen
        cases hh1 : tkHere rest with
        | true =>
          exfalso
          have hpl := here_len hh1
          omega
        | false =>
          cases hm1 : tkMore rest with
          | true =>
            have hE := HA.out _ _ _ HAT.out hh1
            rw [hm1] at hE
            have HT : Hid (∀ (W : World), Nums .u8 W w.heap.size a 0 rest → w.heap.size ≤ W.heap.size → Calls Tryd.prog 19 #[.slice a (xs.length - at_) 0] W fun e w' => e = .returned (.tuple #[(.agg #[.int .i64 0, .int .i64 0, .int .i64 0, .int .i64 0]), .int .i64 0]) ∧ Below W.heap.size W w') := Lib.hid (fun W h1 h2 => by
              have h := HTK2.out W h1 h2
              unfold TakePost at h
              rw [show tkF rest = (.agg #[.int .i64 0, .int .i64 0, .int .i64 0, .int .i64 0]) by simp [tkF, hh1], show tkN rest = 0 by simp [tkN, hh1, hm1]] at h
              exact h)
            have hn9 : (xs.length : Int) - (rest.length : Int) = (at_ : Int) := by omega
            rw [hn9] at hE
            have HE := Lib.hid hE
            clear hE hh1 hm1 hn9
            go_wp2_with fail
            refine (HT.out _ HDR.out hsz).mono ?_
            rintro e w2 ⟨rfl, hb⟩
            have HP : Hid (FramesRes (af xs).list (af xs).n (af xs).bad w (.returned (.tuple #[.slice la acc.length lc, .int .i64 (at_ : Int), .bool false])) (w2.alloc (.cells #[.int .i64 0, .int .i64 0, .int .i64 0, .int .i64 0] 36))) := Lib.hid (by
              rw [HE.out]
              exact ⟨la, lc, rfl, (owns_below HO.out hb).alloc _, (HB.out.trans (hb.mono hsz)).alloc (by have := hb.size; omega) _⟩)
            clear hb
            go_wp2
            exact bodyPost_ret (v := .tuple #[.slice la acc.length lc, .int .i64 (at_ : Int), .bool false]) (by simp [results, Tryd.results6, go_sem]) rfl HP.out
          | false =>
            have hE := HA.out _ _ _ HAT.out hh1
            rw [hm1] at hE
            have HT : Hid (∀ (W : World), Nums .u8 W w.heap.size a 0 rest → w.heap.size ≤ W.heap.size → Calls Tryd.prog 19 #[.slice a (xs.length - at_) 0] W fun e w' => e = .returned (.tuple #[(.agg #[.int .i64 0, .int .i64 0, .int .i64 0, .int .i64 0]), .int .i64 (-1)]) ∧ Below W.heap.size W w') := Lib.hid (fun W h1 h2 => by
              have h := HTK2.out W h1 h2
              unfold TakePost at h
              rw [show tkF rest = (.agg #[.int .i64 0, .int .i64 0, .int .i64 0, .int .i64 0]) by simp [tkF, hh1], show tkN rest = (-1) by simp [tkN, hh1, hm1]] at h
              exact h)
            have hn9 : (xs.length : Int) - (rest.length : Int) = (at_ : Int) := by omega
            rw [hn9] at hE
            have HE := Lib.hid hE
            clear hE hh1 hm1 hn9
            go_wp2_with fail
            refine (HT.out _ HDR.out hsz).mono ?_
            rintro e w2 ⟨rfl, hb⟩
            have HP : Hid (FramesRes (af xs).list (af xs).n (af xs).bad w (.returned (.tuple #[.slice la acc.length lc, .int .i64 (at_ : Int), .bool true])) (w2.alloc (.cells #[.int .i64 0, .int .i64 0, .int .i64 0, .int .i64 0] 36))) := Lib.hid (by
              rw [HE.out]
              exact ⟨la, lc, rfl, (owns_below HO.out hb).alloc _, (HB.out.trans (hb.mono hsz)).alloc (by have := hb.size; omega) _⟩)
            clear hb
            go_wp2
            exact bodyPost_ret (v := .tuple #[.slice la acc.length lc, .int .i64 (at_ : Int), .bool true]) (by simp [results, Tryd.results6, go_sem]) rfl HP.out
      · rw [if_neg hcP, Nat.mul_one] at hdr
        have HDR := Lib.hid hdr
        clear hdr
        have HTK2 : Hid (∀ (W : World), Nums .u8 W w.heap.size (a.map fun x => x.add at_) (c - at_) rest → w.heap.size ≤ W.heap.size → Calls Tryd.prog 19 #[.slice (a.map fun x => x.add at_) (xs.length - at_) (c - at_)] W (TakePost rest W)) := Lib.hid (fun W h1 h2 => by
          have h := specTake_any w.heap.size (a.map fun x => x.add at_) (c - at_) rest W h1 h2 HXR.out
          rw [hlen] at h
          exact h)
        have hA9 := hlen
        cases hh1 : tkHere rest with
        | true =>
          have hpl := here_len hh1
          have A2 := Lib.hid (HAT.out.step hh1)
          have HFS := Lib.hid (flatF_snoc acc (fr0 rest))
          have HRD : Hid (rest.drop (put0 rest).length = xs.drop (at_ + (put0 rest).length)) := Lib.hid (by rw [HRE.out, List.drop_drop])
          have HT : Hid (∀ (W : World), Nums .u8 W w.heap.size (a.map fun x => x.add at_) (c - at_) rest → w.heap.size ≤ W.heap.size → Calls Tryd.prog 19 #[.slice (a.map fun x => x.add at_) (xs.length - at_) (c - at_)] W fun e w' => e = .returned (.tuple #[(.agg #[.int .i64 (f0K rest), .int .i64 (f0Y rest), .int .i64 (f0T rest), .int .i64 (f0V rest)]), .int .i64 ((put0 rest).length : Int)]) ∧ Below W.heap.size W w') := Lib.hid (fun W h1 h2 => by
            have h := HTK2.out W h1 h2
            unfold TakePost at h
            rw [show tkF rest = (.agg #[.int .i64 (f0K rest), .int .i64 (f0Y rest), .int .i64 (f0T rest), .int .i64 (f0V rest)]) by simp [tkF, hh1], show tkN rest = ((put0 rest).length : Int) by simp [tkN, hh1]] at h
            exact h)
          have hfr : (fr0 rest).k = f0K rest ∧ (fr0 rest).y = f0Y rest ∧ (fr0 rest).t = f0T rest ∧ (fr0 rest).v = f0V rest := ⟨rfl, rfl, rfl, rfl⟩
          rw [hfr.1, hfr.2.1, hfr.2.2.1, hfr.2.2.2] at HFS
          clear hh1 hfr
          generalize f0K rest = K at HT HFS
          generalize f0Y rest = Y at HT HFS
          generalize f0T rest = T at HT HFS
          generalize f0V rest = V at HT HFS
          generalize fr0 rest = F0 at A2 HFS
          generalize rest.drop (put0 rest).length = nrest at A2 HRD
          generalize (put0 rest).length = P at HT HRD hpl
          have hP : ¬ ((P : Int) < 0) := by omega
          have hP2 : ((P : Int) == 0) = false := by rw [beq_eq_false_iff_ne]; omega
          go_wp2_with fail
          refine (HT.out _ HDR.out hsz).mono ?_
          rintro e w2 ⟨rfl, hb⟩
          have s2 := hb.size
          have O2 := Lib.hid (owns_below HO.out hb)
          have B2 := Lib.hid (HB.out.trans (hb.mono hsz))
          clear hb
          go_wp2_with (at_builtin; refine wpList_append_own _ rfl _ _ 25 rfl w.heap.size 36 i0 (.agg #[.int .i64 0, .int .i64 0, .int .i64 0, .int .i64 0]) 4 32 Tryd.underlying25 hi0 hz0 hz1 hz2 rfl (by decide) _ _ _ rfl ((O2.out.alloc _).alloc _) ⟨_, 0, none⟩ 1 1 [.int .i64 K, .int .i64 Y, .int .i64 T, .int .i64 V] rfl rfl (news4 (by simp)) (one4 _ _ _ _) ?c3 ?c4 ?c5 ?_)
          case c3 => unfold maxLen; omega
          case c4 => omega
          case c5 => simp; omega
          intro v' w5 hown' hg _
          obtain ⟨la2, lc2, rfl⟩ := owns_shape hown'
          have HB5 := Lib.hid (((B2.out.alloc (by omega) _).alloc (by simp; omega) _).trans (below_own ((O2.out.alloc _).alloc _) hg (by simp; omega)))
          have hl9 : (acc ++ [F0]).length = acc.length + 1 := by simp
          have HO5 : Hid (w5.ownsRow w.heap.size 36 4 (.slice la2 (acc ++ [F0]).length lc2) (acc ++ [F0]).length (flatF (acc ++ [F0]))) := Lib.hid (by rw [hl9, HFS.out]; exact hown')
          have HL9 := Lib.hid hl9
          clear hown' hg hl9
          go_wp2
          go_roundw
          case rel => exact ⟨acc ++ [F0], _, _, la2, lc2, at_ + P, A2.out, by rw [HL9.out], by go_num, HRD.out, by omega, HO5.out, HB5.out⟩
          case measure => simp [lenOf]; omega
        | false =>
          cases hm1 : tkMore rest with
          | true =>
            have hE := HA.out _ _ _ HAT.out hh1
            rw [hm1] at hE
            have HT : Hid (∀ (W : World), Nums .u8 W w.heap.size (a.map fun x => x.add at_) (c - at_) rest → w.heap.size ≤ W.heap.size → Calls Tryd.prog 19 #[.slice (a.map fun x => x.add at_) (xs.length - at_) (c - at_)] W fun e w' => e = .returned (.tuple #[(.agg #[.int .i64 0, .int .i64 0, .int .i64 0, .int .i64 0]), .int .i64 0]) ∧ Below W.heap.size W w') := Lib.hid (fun W h1 h2 => by
              have h := HTK2.out W h1 h2
              unfold TakePost at h
              rw [show tkF rest = (.agg #[.int .i64 0, .int .i64 0, .int .i64 0, .int .i64 0]) by simp [tkF, hh1], show tkN rest = 0 by simp [tkN, hh1, hm1]] at h
              exact h)
            have hn9 : (xs.length : Int) - (rest.length : Int) = (at_ : Int) := by omega
            rw [hn9] at hE
            have HE := Lib.hid hE
            clear hE hh1 hm1 hn9
            go_wp2_with fail
            refine (HT.out _ HDR.out hsz).mono ?_
            rintro e w2 ⟨rfl, hb⟩
            have HP : Hid (FramesRes (af xs).list (af xs).n (af xs).bad w (.returned (.tuple #[.slice la acc.length lc, .int .i64 (at_ : Int), .bool false])) (w2.alloc (.cells #[.int .i64 0, .int .i64 0, .int .i64 0, .int .i64 0] 36))) := Lib.hid (by
              rw [HE.out]
              exact ⟨la, lc, rfl, (owns_below HO.out hb).alloc _, (HB.out.trans (hb.mono hsz)).alloc (by have := hb.size; omega) _⟩)
            clear hb
            go_wp2
            exact bodyPost_ret (v := .tuple #[.slice la acc.length lc, .int .i64 (at_ : Int), .bool false]) (by simp [results, Tryd.results6, go_sem]) rfl HP.out
          | false =>
            have hE := HA.out _ _ _ HAT.out hh1
            rw [hm1] at hE
            have HT : Hid (∀ (W : World), Nums .u8 W w.heap.size (a.map fun x => x.add at_) (c - at_) rest → w.heap.size ≤ W.heap.size → Calls Tryd.prog 19 #[.slice (a.map fun x => x.add at_) (xs.length - at_) (c - at_)] W fun e w' => e = .returned (.tuple #[(.agg #[.int .i64 0, .int .i64 0, .int .i64 0, .int .i64 0]), .int .i64 (-1)]) ∧ Below W.heap.size W w') := Lib.hid (fun W h1 h2 => by
              have h := HTK2.out W h1 h2
              unfold TakePost at h
              rw [show tkF rest = (.agg #[.int .i64 0, .int .i64 0, .int .i64 0, .int .i64 0]) by simp [tkF, hh1], show tkN rest = (-1) by simp [tkN, hh1, hm1]] at h
              exact h)
            have hn9 : (xs.length : Int) - (rest.length : Int) = (at_ : Int) := by omega
            rw [hn9] at hE
            have HE := Lib.hid hE
            clear hE hh1 hm1 hn9
            go_wp2_with fail
            refine (HT.out _ HDR.out hsz).mono ?_
            rintro e w2 ⟨rfl, hb⟩
            have HP : Hid (FramesRes (af xs).list (af xs).n (af xs).bad w (.returned (.tuple #[.slice la acc.length lc, .int .i64 (at_ : Int), .bool true])) (w2.alloc (.cells #[.int .i64 0, .int .i64 0, .int .i64 0, .int .i64 0] 36))) := Lib.hid (by
              rw [HE.out]
              exact ⟨la, lc, rfl, (owns_below HO.out hb).alloc _, (HB.out.trans (hb.mono hsz)).alloc (by have := hb.size; omega) _⟩)
            clear hb
            go_wp2
            exact bodyPost_ret (v := .tuple #[.slice la acc.length lc, .int .i64 (at_ : Int), .bool true]) (by simp [results, Tryd.results6, go_sem]) rfl HP.out
  · have hgt : 400 < xs.length := by omega
    rw [af_big h400]
    have HP : Hid (FramesRes [] 0 true w (.returned (.tuple #[.slice none 0 0, .int .i64 0, .bool true])) w) := ⟨none, 0, rfl, World.ownsRow_nil _ _ _ _, Below.refl _ _⟩
    clear hN hx
    go_enter Tryd.func6, Tryd.ntmps6
    go_wp2
    exact bodyPost_ret (v := .tuple #[.slice none 0 0, .int .i64 0, .bool true]) (by simp [results, Tryd.results6, go_sem]) rfl HP.out
end Go.Proofs.YtpigollgjpkflaaDoor
