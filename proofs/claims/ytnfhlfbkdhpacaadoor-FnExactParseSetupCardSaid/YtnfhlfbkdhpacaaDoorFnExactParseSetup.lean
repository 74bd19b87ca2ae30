/- impl.ParseSetup answers as spec.ParseSetup at every text of up to 1048576 bytes (beyond, the law says nothing), where the two tables of bounds hold what the program lays, and three tables of Go's library (powers of ten; two of math/bits) what that lays. No other conditions. -/
import Derived.Test.YtnfhlfbkdhpacaaDoorRows
import Derived.Test.YtnfhlfbkdhpacaaDoorCards
import Derived.Test.YtnfhlfbkdhpacaaDoorTie
import Derived.Test.YtnfhlfbkdhpacaaDoorSetT
import Derived.Test.YtnfhlfbkdhpacaaDoorRd2
import Derived.Test.YtnfhlfbkdhpacaaDoorSetEq
import Derived.Lib.LaidTab
import Derived.Lib.LaidU8
import Derived.MakeChecks
import Derived.Test.YtnfhlfbkdhpacaaDoorTabs
import Derived.Test.YtnfhlfbkdhpacaaDoorOpenSetup
import Derived.WalkSmall
import Derived.WalkKit
import Derived.ProofKit
import Derived.OpenShut
import Derived.ChangeMaps5
import Derived.OpenVars
import Derived.Lay
import Derived.Deep.DeepHandedRow
import Derived.ShutString
import Derived.ChangeOld
import Derived.Below
import Derived.Deep.AppendLies
import Derived.Deep.RegionWith
namespace Go.Proofs.YtnfhlfbkdhpacaaDoor.fnExactParseSetup
open Go.ChangeShapes Go.WideShapes Go.ChangeAt Go.RowKit
open Go.ChangeMaps (open_string shut_string)
set_option linter.unusedVariables false

theorem own : ownKnob Tryd.prog.godebug = none := by kernel_rfl
theorem laidOut : laidOutB Tryd.prog = true := by kernel_rfl


set_option maxHeartbeats 4000000 in
set_option maxRecDepth 100000 in
theorem walk (l : List UInt8) (w : World) (ht : Tabs w w.heap.size) (hp : Pow w) : Calls Tryd.prog 4 #[.string (str l)] w fun e w' => e = .returned (.bool true) ∧ Below w.heap.size w w' := by
  by_cases hlen : 1048576 < l.length
  · have hlen' : (1048576 : Int) < (l.length : Int) := by omega
    clear ht hp
    go_enter Tryd.func4, Tryd.ntmps4
    go_wp2
    go_ret
    exact ⟨rfl, Below.refl _ _⟩
  have hle : l.length ≤ 1048576 := by omega
  have hlen' : ¬ (1048576 : Int) < (l.length : Int) := by omega
  have SP := Lib.hid (fun W => specPs_any l hle W)
  have IP : Hid (∀ W, Below w.heap.size w W → Calls Tryd.prog 13 #[.string (str l)] W (PsPost l W)) := Lib.hid (fun W hW => implPs_any l w.heap.size W (ht.below hW) hW.size (fun fs h9 hok V hV => by
    obtain ⟨f0, f1, f2, f3, f4, f5, f6, f7, f8, rfl⟩ : ∃ f0 f1 f2 f3 f4 f5 f6 f7 f8, fs = [f0, f1, f2, f3, f4, f5, f6, f7, f8] := by
      match fs, h9 with
      | [f0, f1, f2, f3, f4, f5, f6, f7, f8], _ => exact ⟨f0, f1, f2, f3, f4, f5, f6, f7, f8, rfl⟩
    have hsh := psT_short rfl hok
    exact fieldsText_x f0 f1 f2 f3 f4 f5 f6 f7 f8 V (hp.below ((hW.trans (hV.mono hW.size)))) (okL_in rfl hok) (by show (psT [f0, f1, f2, f3, f4, f5, f6, f7, f8]).length ≤ _; omega)))
  have MEET : Hid (∀ (W1 W2 : World) (e1 e2 : Ending) (V1 V2 : World), PsPost l W1 e1 V1 → PsPost l W2 e2 V2 → ∃ (a0 a1 a2 a3 a4 a5 a6 a7 a8 : Int) (b : Bool), e1 = .returned (.tuple #[.agg #[.int .i64 a0, .int .i64 a1, .int .i64 a2, .int .i64 a3, .int .i64 a4, .int .i64 a5, .int .i64 a6, .int .i64 a7, .int .i64 a8], .bool b]) ∧ e2 = .returned (.tuple #[.agg #[.int .i64 a0, .int .i64 a1, .int .i64 a2, .int .i64 a3, .int .i64 a4, .int .i64 a5, .int .i64 a6, .int .i64 a7, .int .i64 a8], .bool b]) ∧ Below W1.heap.size W1 V1 ∧ Below W2.heap.size W2 V2) := Lib.hid (fun W1 W2 e1 e2 V1 V2 p1 p2 => by
    obtain ⟨p1, b1⟩ := p1
    obtain ⟨p2, b2⟩ := p2
    rcases p1 with ⟨vs, h9, hk, hl, he⟩ | ⟨hn, he⟩
    · rcases p2 with ⟨us, g9, gk, gl, ge⟩ | ⟨gn, ge⟩
      · obtain rfl := psT_inj h9 g9 (okL_wide h9 hk) (okL_wide g9 gk) (hl.symm.trans gl)
        exact ⟨_, _, _, _, _, _, _, _, _, true, he, ge, b1, b2⟩
      · exact absurd hl (gn vs h9 hk)
    · rcases p2 with ⟨us, g9, gk, gl, ge⟩ | ⟨gn, ge⟩
      · exact absurd gl (hn us g9 gk)
      · exact ⟨0, 0, 0, 0, 0, 0, 0, 0, 0, false, he, ge, b1, b2⟩)
  clear ht hp hlen
  go_enter Tryd.func4, Tryd.ntmps4
  go_wp2_with fail
  refine (SP.out _).mono ?_
  intro e1 w1 p1
  -- impl's answer is the same: it is told ahead of the walk to it
  have MT := Lib.hid (fun W2 e2 V2 p2 => MEET.out _ W2 e1 e2 w1 V2 p1 p2)
  have P1 := Lib.hid p1
  obtain ⟨a0, a1, a2, a3, a4, a5, a6, a7, a8, b, rfl, _, hb, _⟩ := MEET.out _ _ _ _ _ _ p1 p1
  have UNI : Hid (∀ (W2 : World) (e2 : Ending) (V2 : World), PsPost l W2 e2 V2 → e2 = .returned (.tuple #[.agg #[.int .i64 a0, .int .i64 a1, .int .i64 a2, .int .i64 a3, .int .i64 a4, .int .i64 a5, .int .i64 a6, .int .i64 a7, .int .i64 a8], .bool b]) ∧ Below W2.heap.size W2 V2) := Lib.hid (fun W2 e2 V2 p2 => by
    obtain ⟨c0, c1, c2, c3, c4, c5, c6, c7, c8, d, h1, h2, _, h4⟩ := MT.out W2 e2 V2 p2
    rw [← h1] at h2
    exact ⟨h2, h4⟩)
  clear MT P1 p1 MEET SP
  have B1 := Lib.hid hb
  have K1 := Lib.hid (Blk.new w1 25 #[.int .i64 a0, .int .i64 a1, .int .i64 a2, .int .i64 a3, .int .i64 a4, .int .i64 a5, .int .i64 a6, .int .i64 a7, .int .i64 a8])
  have B1a := Lib.hid (B1.out.alloc B1.out.size (.cells #[.int .i64 a0, .int .i64 a1, .int .i64 a2, .int .i64 a3, .int .i64 a4, .int .i64 a5, .int .i64 a6, .int .i64 a7, .int .i64 a8] 25))
  clear hb
  go_wp2_with fail
  refine (IP.out _ B1a.out).mono ?_
  intro e2 w2 p2
  obtain ⟨rfl, hb⟩ := UNI.out _ _ _ p2
  clear p2 UNI IP
  have B2 := Lib.hid (B1a.out.trans (hb.mono B1a.out.size))
  have K2 := Lib.hid (K1.out.below hb)
  have q2 := (K2.out.alloc (.cells #[.int .i64 a0, .int .i64 a1, .int .i64 a2, .int .i64 a3, .int .i64 a4, .int .i64 a5, .int .i64 a6, .int .i64 a7, .int .i64 a8] 25)).cell
  have hR : (b != b) = false := by simp
  clear hb
  go_wp2_with fail
  refine (eqSetup_z a0 a1 a2 a3 a4 a5 a6 a7 a8 _).mono ?_
  rintro e w3 ⟨rfl, hb⟩
  have B3 := Lib.hid ((B2.out.alloc B2.out.size (.cells #[.int .i64 a0, .int .i64 a1, .int .i64 a2, .int .i64 a3, .int .i64 a4, .int .i64 a5, .int .i64 a6, .int .i64 a7, .int .i64 a8] 25)).trans (hb.mono (B2.out.alloc B2.out.size (.cells #[.int .i64 a0, .int .i64 a1, .int .i64 a2, .int .i64 a3, .int .i64 a4, .int .i64 a5, .int .i64 a6, .int .i64 a7, .int .i64 a8] 25)).size))
  clear hb
  go_wp2
  go_ret
  exact ⟨rfl, B3.out⟩

theorem gType : (Tryd.prog.globals[4]?).map (·.type) = some 238 := by kernel_rfl
theorem cellsE : Tryd.prog.cellsOf 228 = 1 := by kernel_rfl
theorem cellsT : Tryd.prog.cellsOf 238 = 20 := by kernel_rfl
theorem powData : (Rows.laid_internal_strconv_uint64pow10 : DataW Unit) = Lib.tabData .u64 Lib.pow10Tab := by kernel_rfl
theorem plainList : (Rows.fnExactParseSetupRow.laid.all fun x => x.2.handleName?.isNone) = true := by kernel_rfl
theorem pow_of {W : World} (h : laidMetH Tryd.prog Rows.fnExactParseSetupRow.laid W) : Pow W := by
  rw [MakeChecks.laidMetH_plain _ _ _ plainList] at h
  have hr : Lib.VarReads Tryd.prog W "internal/strconv.uint64pow10" Rows.laid_internal_strconv_uint64pow10 := Lib.laidMet.reads h (.tail _ (.tail _ (.head _)))
  rw [powData] at hr
  obtain ⟨g', t', cs, fuel, p, hg', ht', hvar, hd⟩ := hr
  obtain rfl := Option.some.inj (gPow.symm.trans hg')
  obtain rfl := Option.some.inj (gType.symm.trans ht')
  unfold Pow Lib.TabIs
  rw [hvar, ← Lib.cells_of_tab Tryd.underlying238 Tryd.underlying228 cellsE cellsT hd]
noncomputable def world (os : Os) : World := World.laidAll Tryd.prog os Rows.fnExactParseSetupRow.laid
theorem world_shaped (os : Os) : ((world os).forCall (fun _ _ => 0) ⟨#[], #[.string ⟨#[]⟩], []⟩).Shaped Tryd.prog := World.shaped_of_ZipB (by kernel_rfl) (by kernel_rfl)
theorem world_laid (os : Os) : laidMetH Tryd.prog Rows.fnExactParseSetupRow.laid ((world os).forCall (fun _ _ => 0) ⟨#[], #[.string ⟨#[]⟩], []⟩).memory := by
  rw [MakeChecks.laidMetH_plain _ _ _ plainList]; exact laidMet_laidAll _ (by kernel_rfl) (by kernel_rfl)

set_option maxRecDepth 100000 in
theorem lifted (os : Os) (started : os.Started) (H : Type) (enc : TypeId × Value → H) (F : Stop.Interp) :
    ReturnsInHanded {} Tryd.checked os 4 .any ((OpenSpec.ofChange Rows.fnExactParseSetupSpec).preRow enc Tryd.prog Tryd.f4 Rows.fnExactParseSetupRow.domain false Rows.fnExactParseSetupRow.laid) (((OpenSpec.ofChange Rows.fnExactParseSetupSpec).at F).post enc Tryd.prog Tryd.f4 false true false false) := by
  refine returnsInHanded_of_row (C := Tryd.checked) (s := OpenSpec.ofChange Rows.fnExactParseSetupSpec) own started (by kernel_rfl) Tryd.func4 ?_ ?_
  · obtain ⟨w, tape, i, h1, h2, h3, h4, ⟨⟨h5, h6⟩, h7⟩, h8⟩ := ChangeSpec.witness_shaped (enc := enc) (C := Tryd.checked) (os := os) (f := 4) (fn := Tryd.f4) (s := Rows.fnExactParseSetupSpec) (conds := Rows.fnExactParseSetupRow.domain) (apart := false) (X := fun w _ => laidMetH Tryd.prog Rows.fnExactParseSetupRow.laid w) false (world os) #[.string ⟨#[]⟩] 8 (World.laidAll_os _ _ _)
      (world_shaped os) (by kernel_rfl) (by kernel_rfl) (by kernel_rfl) (world_laid os)
    exact ⟨w, tape, i, h1, h2, h3, h4, ⟨⟨h5, h6⟩, h7⟩, h8⟩
  intro W base args ds gs before hval0 hW _ _ _ hL hsh _
  have hval : ∀ (j : Nat) t v, Tryd.f4.params[j]? = some t → args[j]? = some v → Value.okWide Tryd.prog W .any base t v := hval0
  have hW' := hW
  obtain ⟨p, q, hA0, hV, rfl, hfz, hnd⟩ := hW
  have hA : DataW.TrodAll enc Tryd.prog W 0 (fun _ => true) true Tryd.f4.params.toList args.toList ds p := hA0
  rw [Tryd.params4] at hA hval
  obtain ⟨v0, vs0, d0, ds0, p0, q0, hargs, rfl, rfl, h0, r0⟩ := trodAll_cons hA
  obtain ⟨rfl, rfl, rfl⟩ := trodAll_nil r0
  obtain rfl : args = #[v0] := by cases args; simp_all
  have hVb := fun W' (bel : Below W.heap.size W W') => Below.trodVars laidOut bel (by kernel_rfl) hV
  obtain ⟨g1, g2, rfl⟩ := vars_two hV
  have htab := tabs_of plainList hL (.tail _ (.tail _ (.tail _ (.head _)))) (.tail _ (.tail _ (.tail _ (.tail _ (.head _)))))
  obtain ⟨s, rfl, rfl, rfl, hs⟩ := open_string Tryd.underlying9 (hval 0 9 v0 rfl rfl) h0
  clear hA0 hval0
  refine (walk s.data.toList W htab (pow_of hL)).mono fun e W' ⟨he, bel⟩ => ?_
  subst he
  exact ⟨_, rfl, _, _, _, [], _, _, hW', trodAll_mk1 (shut_bool Tryd.underlying4 _), (trodAll_cons_mk (shut_string Tryd.underlying9 hs) trodAll_mk0), hVb W' bel, bel.frame _, fun h => by cases h⟩

theorem said : Rows.FnExactParseSetupSaid :=
  OpenClaim.holds_of_cond 4 Tryd.f4 rfl rfl rfl rfl rfl rfl rfl ⟨rfl, rfl, rfl, rfl, rfl⟩ rfl rfl rfl rfl rfl (by kernel_rfl) Tryd.func4 (by kernel_rfl)
    (of_decide_eq_true (by kernel_rfl)) (by unfold Func.isWrapper; first | (rw [if_pos (by decide +kernel)]; kernel_rfl) | (rw [if_neg (by decide +kernel)]; exact ⟨rfl, rfl⟩))
    (fun os started H enc _ F => by rw [OpenClaim.pre_eq_preRow]; exact lifted os started H enc F)

theorem plain (f : FuncId) (fn : Func) (hf : Tryd.pinned.checked.prog.funcNamed "loop.example/g00728/laws.FnExactParseSetup" = some f) (hfn : Tryd.pinned.checked.prog.funcs[f]? = some fn) :
    true = Tryd.pinned.checked.prog.looks [] ∧ ∀ (j : Nat) t, fn.params[j]? = some t → Tryd.pinned.checked.prog.wantsStandIn t = false := by
  obtain rfl : f = 4 := Option.some.inj ((show Tryd.prog.funcNamed "loop.example/g00728/laws.FnExactParseSetup" = some 4 by kernel_rfl).symm.trans hf) |>.symm
  obtain rfl : fn = Tryd.f4 := (Option.some.inj (Tryd.func4.symm.trans hfn)).symm
  refine ⟨by kernel_rfl, fun j t ht => ?_⟩
  rw [Tryd.params4] at ht
  obtain rfl : t = 9 := by simpa using Array.mem_of_getElem? ht
  exact (show Tryd.prog.wantsStandIn 9 = false by kernel_rfl)

theorem card : Rows.FnExactParseSetupCardSaid :=
  Claim7.holds_tied_plain_at .later [] _ _ _ _ said (fun _ h => by cases h) (by kernel_rfl) (fun _ h => by cases h) fnExactParseSetup_row_tie rfl ⟨rfl, rfl⟩ (by kernel_rfl) rfl plain (by kernel_rfl)
#print axioms card
end Go.Proofs.YtnfhlfbkdhpacaaDoor.fnExactParseSetup
