/- Contract of impl.AllFrames. -/
import Derived.Test.YtpigollgjpkflaaDoorTakeImpl
import Derived.Test.YtpigollgjpkflaaDoorPlains
import Derived.Test.YtpigollgjpkflaaDoorFrameS
import Derived.BigQuiet
import Derived.Deep.RegionWith
import Derived.Maps.AppendAt
import Derived.OwnWalk
namespace Go.Proofs.YtpigollgjpkflaaDoor
open Go.RowKit

theorem infoFr : (Tryd.prog.info? 36).map (fun i => (i.zero, i.size, i.bytes)) = some (some (.agg #[.int .i64 0, .int .i64 0, .int .i64 0, .int .i64 0]), 4, 32) := by kernel_rfl
/-- A list of frames, a number and whether: of the call's own memory. -/
def FramesRes (L : List Fr) (N : Int) (bad : Bool) (w : World) (e : Ending) (w' : World) : Prop :=
  ∃ a c, e = .returned (.tuple #[.slice a L.length c, .int .i64 N, .bool bad]) ∧ w'.ownsRow w.heap.size 36 4 (.slice a L.length c) L.length (flatF L) ∧ Below w.heap.size w w'
def lenOf : Value → Nat
  | .slice _ n _ => n
  | _ => 0
theorem news4 {W : World} {k y t v : Int} {T : TypeId} {B : Nat} (hB : W.heap.size = B) : ∀ (j : Nat) (u : Value), [Value.int .i64 k, Value.int .i64 y, Value.int .i64 t, Value.int .i64 v][j]? = some u → (W.alloc (.cells #[.int .i64 k, .int .i64 y, .int .i64 t, .int .i64 v] T)).cell? ((⟨B, 0, none⟩ : Addr).add j) = some u := by
  subst hB
  intro j u hj
  have hadd : (⟨W.heap.size, 0, none⟩ : Addr).add j = ⟨W.heap.size, j, none⟩ := by unfold Addr.add; split <;> simp_all
  rw [hadd, (Blk.new W T #[.int .i64 k, .int .i64 y, .int .i64 t, .int .i64 v]).cell j]
  simpa using hj
theorem one4 (k y t v : Int) : ∀ u ∈ [Value.int .i64 k, Value.int .i64 y, Value.int .i64 t, Value.int .i64 v], u.oneCell' = true := by
  intro u hu
  simp at hu
  rcases hu with rfl | rfl | rfl | rfl <;> rfl

theorem Rd.keep {w w' : World} {r n c : Nat} {a : Option Addr} {xs : List Int} {F : Value} (h : Rd w r a n c xs F) (hb : Below (r + 1) w w') : Rd w' r a n c xs F := ⟨h.blk.belowB hb (Nat.lt_succ_self _), h.nums.below (hb.mono (Nat.le_succ _)), h.len⟩
set_option maxRecDepth 100000 in
set_option maxHeartbeats 4000000 in
theorem implAll_any (hi : Nat) (a : Option Addr) (n c : Nat) (xs : List Int) (aB aS : Addr) (w : World) (hN : Nums .u8 w hi a c xs) (hn : n = xs.length) (hh : hi ≤ w.heap.size) (hx : IsB xs) (hf : Flt w w.heap.size aB aS) :
    Calls Tryd.prog 7 #[.slice a n c] w (FramesRes (af xs).list (af xs).n (af xs).bad w) := by
  subst hn
  obtain ⟨i0, hi0, hz0, hz1, hz2⟩ := info_parts infoFr
  have hcap := hN.cap
  have hbig := hN.big
  by_cases h400 : xs.length ≤ 400
  · have hgt : ¬ (400 < xs.length) := by omega
    have HA := Lib.hid (fun acc rest m (h : AfAt xs acc rest m) (hh : tkHere rest = false) => h.stop hh h400)
    have HX := Lib.hid hx
    have b0 := (Below.refl w.heap.size w).alloc (Nat.le_refl _) (.cells #[.slice a xs.length c, .nilIface] 51)
    have R0 := Lib.hid (show Rd (w.alloc (.cells #[.slice a xs.length c, .nilIface] 51)) w.heap.size a xs.length c xs .nilIface from ⟨Blk.new _ _ _, (hN.more hh).below b0, rfl⟩)
    have B0 := Lib.hid b0
    have HF := Lib.hid hf
    have HF2 : Hid (∀ (W : World), Below w.heap.size w W → Flt W w.heap.size aB aS) := Lib.hid (fun W h => hf.below h)
    have hAf := afGo_le
    clear hN hx hf b0 hAf
    go_enter Tryd.func7, Tryd.ntmps7
    go_wp2
    go_loopw [5, 7] (fun l _ wr => ∃ (acc : List Fr) (rest : List Int) (m : Nat) (la : Option Addr) (lc : Nat) (a' : Option Addr) (n' c' : Nat), AfAt xs acc rest m ∧ l = .slice la acc.length lc ∧ wr.ownsRow (w.heap.size + 1) 36 4 (.slice la acc.length lc) acc.length (flatF acc) ∧ Rd wr w.heap.size a' n' c' rest .nilIface ∧ IsB rest ∧ Below w.heap.size w wr)
      (fun l _ _ => 401 - lenOf l)
    case atStart => exact ⟨[], xs, _, none, 0, _, _, _, AfAt.start xs, rfl, World.ownsRow_nil _ _ _ _, R0.out, HX.out, B0.out⟩
    case round =>
      obtain ⟨acc, rest, m, la, lc, a', n', c', hat, rfl, hown, hrd, hxr, hb⟩ := hrel
      have hle := hat.le
      have hsz := hrd.blk.lt
      have HAT := Lib.hid hat
      have HO := Lib.hid hown
      have HR := Lib.hid hrd
      have HXR := Lib.hid hxr
      have HB := Lib.hid hb
      have HFR := Lib.hid (HF2.out _ hb)
      clear hat hown hrd hxr hb
      go_wp2_with fail
      refine (next_any _ _ _ _ rest aB aS _ HR.out HXR.out HFR.out).mono ?_
      rintro e w2 ⟨hgr, a2, n2, c2, hcase⟩
      have O2 := Lib.hid (HO.out.kept hgr (by cases ho : (Value.slice la acc.length lc).ownBlock with
        | none => exact .inl rfl
        | some g => right; intro e; injection e with e; have := (HO.out.lt g ho).1; omega))
      have B2 := Lib.hid (HB.out.trans (below_grown_own hgr (Nat.le_refl _) (by omega)))
      have hsz2 := hgr.size
      clear hgr
      rcases hcase with ⟨hh1, rfl, hr1⟩ | ⟨hh1, hm1, rfl, hr1⟩ | ⟨hh1, hm1, rfl, hr1⟩
      · have R2 := Lib.hid (hr1.blk.alloc (.cells #[.int .i64 (f0K rest), .int .i64 (f0Y rest), .int .i64 (f0T rest), .int .i64 (f0V rest)] 36))
        have q2 := R2.out.cell
        have hl2 := hr1.blk.lt
        have HR1 := Lib.hid hr1
        have A2 := Lib.hid (HAT.out.step hh1)
        have hpl := here_len hh1
        have HX2 := Lib.hid (HXR.out.drop (put0 rest).length)
        have HFS := Lib.hid (flatF_snoc acc (fr0 rest))
        clear hr1 hh1
        go_wp2_with (at_builtin; refine wpList_append_own _ rfl _ _ 25 rfl (w.heap.size + 1) 36 i0 (.agg #[.int .i64 0, .int .i64 0, .int .i64 0, .int .i64 0]) 4 32 Tryd.underlying25 hi0 hz0 hz1 hz2 rfl (by decide) _ _ _ rfl ((O2.out.alloc _).alloc _) ⟨_, 0, none⟩ 1 1 [.int .i64 (f0K rest), .int .i64 (f0Y rest), .int .i64 (f0T rest), .int .i64 (f0V rest)] rfl rfl (news4 (by simp)) (one4 _ _ _ _) ?c3 ?c4 ?c5 ?_)
        case c3 => unfold maxLen; omega
        case c4 => omega
        case c5 => simp; omega
        intro v' w5 hown' hg _
        obtain ⟨la2, lc2, rfl⟩ := owns_shape hown'
        have b5 := (((Below.refl (w.heap.size + 1) w2).alloc (by omega) _).alloc (by simp; omega) _).trans (below_own ((O2.out.alloc _).alloc _) hg (by simp; omega))
        have HR5 := Lib.hid (HR1.out.keep b5)
        have HB5 := Lib.hid (B2.out.trans (b5.mono (by omega)))
        have hl9 : (acc ++ [fr0 rest]).length = acc.length + 1 := by simp
        have HO5 : Hid (w5.ownsRow (w.heap.size + 1) 36 4 (.slice la2 (acc ++ [fr0 rest]).length lc2) (acc ++ [fr0 rest]).length (flatF (acc ++ [fr0 rest]))) := Lib.hid (by rw [hl9, HFS.out]; exact hown')
        have HL9 := Lib.hid hl9
        clear hown' hg b5 hl9 q2
        go_wp2
        go_roundw
        case rel => exact ⟨acc ++ [fr0 rest], _, _, la2, lc2, a2, n2, c2, A2.out, by rw [HL9.out], HO5.out, HR5.out, HX2.out, HB5.out⟩
        case measure => simp [lenOf]; omega
      · have hE := HA.out _ _ _ HAT.out hh1
        rw [hm1] at hE
        have hlen3 := hr1.len
        subst hlen3
        have bf := (Below.refl (w.heap.size + 1) w2).alloc (by omega) (.cells #[.int .i64 0, .int .i64 0, .int .i64 0, .int .i64 0] 36)
        have R3 := hr1.keep bf
        have F3 := HF2.out _ (B2.out.trans (bf.mono (by omega)))
        have q3 := R3.blk.cell
        have hl3 := hr1.blk.lt
        have gB := F3.bent
        obtain ⟨⟨cb, tb, hcb⟩, ⟨cs, ts, hcs⟩⟩ := F3.rows
        have hne := F3.ne
        have HCB := Lib.hid hcb
        have HCS := Lib.hid hcs
        have HP : Hid (∀ k, FramesRes (af xs).list (af xs).n (af xs).bad w (.returned (.tuple #[.slice la acc.length lc, .int .i64 ((xs.length : Int) - (rest.length : Int)), .bool false])) ((w2.alloc (.cells #[.int .i64 0, .int .i64 0, .int .i64 0, .int .i64 0] 36)).drewN k)) := Lib.hid (fun k => by
          rw [hE]
          exact ⟨la, lc, rfl, owns_drewN (owns_less (O2.out.alloc _) (Nat.le_succ _)) k, below_drewN (B2.out.trans (bf.mono (by omega))) k⟩)
        have hwr : IntKind.i64.wrap ((xs.length : Int) - (rest.length : Int)) = (xs.length : Int) - (rest.length : Int) := IntWalk.i64_in _ (by omega)
        clear hr1 bf R3 F3 hE hh1 hm1 hcb hcs
        go_wp2_with fail
        go_region_with (go_at_call 21; refine (is_other aS aB cs cb ts tb (World.drew (w2.alloc (.cells #[.int .i64 0, .int .i64 0, .int .i64 0, .int .i64 0] 36))) (fun e => hne e.symm) HCS.out HCB.out).mono ?_; rintro e w' ⟨rfl, rfl⟩)
        all_goals
          go_wp2
          exact bodyPost_ret (v := .tuple #[.slice la acc.length lc, .int .i64 ((xs.length : Int) - (rest.length : Int)), .bool false]) (by simp [results, Tryd.results7, go_sem]) rfl (HP.out _)
      · have hE := HA.out _ _ _ HAT.out hh1
        rw [hm1] at hE
        have hlen3 := hr1.len
        subst hlen3
        have bf := (Below.refl (w.heap.size + 1) w2).alloc (by omega) (.cells #[.int .i64 0, .int .i64 0, .int .i64 0, .int .i64 0] 36)
        have R3 := hr1.keep bf
        have F3 := HF2.out _ (B2.out.trans (bf.mono (by omega)))
        have q3 := R3.blk.cell
        have hl3 := hr1.blk.lt
        have gB := F3.bent
        obtain ⟨⟨cb, tb, hcb⟩, ⟨cs, ts, hcs⟩⟩ := F3.rows
        have hne := F3.ne
        have HCB := Lib.hid hcb
        have HCS := Lib.hid hcs
        have HP : Hid (∀ k, FramesRes (af xs).list (af xs).n (af xs).bad w (.returned (.tuple #[.slice la acc.length lc, .int .i64 ((xs.length : Int) - (rest.length : Int)), .bool true])) ((w2.alloc (.cells #[.int .i64 0, .int .i64 0, .int .i64 0, .int .i64 0] 36)).drewN k)) := Lib.hid (fun k => by
          rw [hE]
          exact ⟨la, lc, rfl, owns_drewN (owns_less (O2.out.alloc _) (Nat.le_succ _)) k, below_drewN (B2.out.trans (bf.mono (by omega))) k⟩)
        have hwr : IntKind.i64.wrap ((xs.length : Int) - (rest.length : Int)) = (xs.length : Int) - (rest.length : Int) := IntWalk.i64_in _ (by omega)
        clear hr1 bf R3 F3 hE hh1 hm1 hcb hcs
        go_wp2_with fail
        go_region_with (go_at_call 21; refine (is_same aB _).mono ?_; rintro e w' ⟨rfl, rfl⟩)
        all_goals
          go_wp2
          exact bodyPost_ret (v := .tuple #[.slice la acc.length lc, .int .i64 ((xs.length : Int) - (rest.length : Int)), .bool true]) (by simp [results, Tryd.results7, go_sem]) rfl (HP.out _)
  · have hgt : 400 < xs.length := by omega
    rw [af_big h400]
    have HP : Hid (FramesRes [] 0 true w (.returned (.tuple #[.slice none 0 0, .int .i64 0, .bool true])) w) := ⟨none, 0, rfl, World.ownsRow_nil _ _ _ _, Below.refl _ _⟩
    clear hN hx hf
    go_enter Tryd.func7, Tryd.ntmps7
    go_wp2
    exact bodyPost_ret (v := .tuple #[.slice none 0 0, .int .i64 0, .bool true]) (by simp [results, Tryd.results7, go_sem]) rfl HP.out
end Go.Proofs.YtpigollgjpkflaaDoor
