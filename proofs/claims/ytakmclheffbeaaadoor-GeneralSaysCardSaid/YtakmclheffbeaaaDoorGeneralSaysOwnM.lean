/- For any two terms the law GeneralSays answers true: their generalization, how each comes of it, and renaming of variables are what the document says; no argument is changed.; no argument is changed.
   No condition beyond the given statement's own. -/
import Derived.Test.YtakmclheffbeaaaDoorCards
import Derived.Test.YtakmclheffbeaaaDoorTie
import Derived.Test.YtakmclheffbeaaaDoorLs4
import Derived.Test.YtakmclheffbeaaaDoorOpen
import Derived.Test.YtakmclheffbeaaaDoorW81
import Derived.ProofKit
import Derived.OpenShut
import Derived.ShutString
import Derived.ChangeOld
import Derived.Below
import Derived.LaidMore
import Derived.Stop.Joined
import Derived.SevenTiedAt
import Derived.Lib.LaidU8
namespace Go.Proofs.YtakmclheffbeaaaDoor
open Go.ChangeShapes Go.WideShapes Go.ChangeAt Go.RowKit
set_option linter.unusedVariables false

theorem Tryd.own : ownKnob Tryd.prog.godebug = none := by kernel_rfl
theorem Tryd.laidOut : laidOutB Tryd.prog = true := by kernel_rfl

set_option maxRecDepth 100000
theorem Tryd.pow10Var : Tryd.prog.globalNamed "internal/strconv.uint64pow10" = some 0 := by kernel_rfl
theorem Tryd.pow10Type : (Tryd.prog.globals[0]?).map (·.type) = some 126 := by kernel_rfl
theorem Tryd.pow10Cells : Tryd.prog.cellsOf 126 = 20 := by kernel_rfl
theorem Tryd.pow10Elem : Tryd.prog.cellsOf 107 = 1 := by kernel_rfl
/-- What the row's list gives: the library's powers of ten. -/
theorem generalSays_tab {W : World} (h : laidMetH Tryd.prog Rows.generalSaysRow.laid W) : Tb W.heap.size W := by
  have h1 : laidMet Tryd.prog Rows.generalSaysRow.laid W := h
  obtain ⟨g, t, cs, fuel, p, hg, ht, hv, hd⟩ := Lib.laidMet.reads h1 (n := "internal/strconv.uint64pow10") (d := Rows.laid_internal_strconv_uint64pow10) (by simp [Rows.generalSaysRow])
  obtain rfl := Option.some.inj (Tryd.pow10Var.symm.trans hg)
  obtain rfl := Option.some.inj (Tryd.pow10Type.symm.trans ht)
  refine Lib.tabBelow_of_tabIs ?_
  unfold Lib.TabIs
  have hd' : DataW.trod (fun _ => ()) Tryd.prog W 0 (fun _ => true) false fuel 126 cs.toList = some (Lib.tabData .u64 Lib.pow10Tab, p) := hd
  rw [hv, ← Lib.cells_of_tab Tryd.underlying126 Tryd.underlying107 Tryd.pow10Elem Tryd.pow10Cells hd']

/-- The door's own heap meets the condition. -/
theorem generalSays_door (os : Os) (args : Array Value) : laidMetH Tryd.prog Rows.generalSaysRow.laid ((World.doorLaid Tryd.prog 24 os).forCall (fun _ _ => 0) ⟨#[], args, []⟩).memory :=
  laidMetH_of_parts3 (fuel := 8) (laidMet_of_run' 8 (by kernel_rfl) (by kernel_rfl)) (by kernel_rfl) (by kernel_rfl)

theorem generalSays_lifted (os : Os) (started : os.Started) (H : Type) (enc : TypeId × Value → H) :
    ReturnsInHanded {} Tryd.checked os 3 .any (fun w args => (Rows.generalSaysSpec.pre enc Tryd.prog Tryd.f3 Rows.generalSaysRow.domain false w args ∧ laidMetH Tryd.prog Rows.generalSaysRow.laid w) ∧ sizedMet enc Tryd.prog Tryd.f3 (OpenSpec.ofChange Rows.generalSaysSpec) false w args)
      (Rows.generalSaysSpec.post enc Tryd.prog Tryd.f3 false true false false) := by
  refine returnsInHanded_of_change_and (C := Tryd.checked) (X := fun w _ => laidMetH Tryd.prog Rows.generalSaysRow.laid w) (fun _ _ _ hh h => h.of_heap hh) Tryd.own started (by kernel_rfl) Tryd.func3
    (ChangeSpec.witness_shaped (enc := enc) (C := Tryd.checked) (os := os) (X := fun w _ => laidMetH Tryd.prog Rows.generalSaysRow.laid w) false (World.doorLaid Tryd.prog 24 os) #[.agg #[.string ⟨#[]⟩, .slice none 0 0], .agg #[.string ⟨#[]⟩, .slice none 0 0]] 8 rfl (World.shaped_of_RefB (by kernel_rfl) (by kernel_rfl)) (by kernel_rfl) (by kernel_rfl) (by kernel_rfl) (generalSays_door os _)) ?_
  intro W base args ds gs before hval0 hW _ _ hL _
  have hval : ∀ (j : Nat) t v, Tryd.f3.params[j]? = some t → args[j]? = some v → Value.okWide Tryd.prog W .any base t v := hval0
  have hW' := hW
  obtain ⟨p, q, hA0, hV, rfl, hfz, hnd⟩ := hW
  have hA : DataW.TrodAll enc Tryd.prog W 0 (fun _ => true) true Tryd.f3.params.toList args.toList ds p := hA0
  rw [Tryd.params3] at hA hval
  obtain ⟨v0, vs0, d0, ds0, p0, q0, hargs, rfl, rfl, h0, r0⟩ := trodAll_cons hA
  obtain ⟨v1, vs1, d1, ds1, p1, q1, rfl, rfl, rfl, h1, r1⟩ := trodAll_cons r0
  obtain ⟨rfl, rfl, rfl⟩ := trodAll_nil r1
  obtain rfl : args = #[v0, v1] := by cases args; simp_all
  obtain ⟨rfl, rfl⟩ := trodVars_none hV
  have lt0 : ∀ x ∈ p0, x.block < W.heap.size := by obtain ⟨m, hm⟩ := h0; exact DataW.trod_lt m _ _ _ hm
  have lt1 : ∀ x ∈ p1, x.block < W.heap.size := by obtain ⟨m, hm⟩ := h1; exact DataW.trod_lt m _ _ _ hm
  obtain ⟨t0, g0⟩ := open_tv (hval 0 24 v0 rfl rfl) h0
  obtain ⟨t1, g1⟩ := open_tv (hval 1 24 v1 rfl rfl) h1
  clear hA0 hval0
  have hTb := generalSays_tab hL
  have hcall := generalSays_any (hide sortBinds) t0 t1 v0 v1 W _ g0 g1 hTb
  refine hcall.mono fun e W' ⟨he, bel⟩ => ?_
  subst he
  exact ⟨_, rfl, _, _, _, [], _, [], hW', trodAll_mk1 (shut_bool Tryd.underlying4 _), (trodAll_cons_mk (Below.trod Tryd.laidOut (by kernel_rfl) (of_decide_eq_true (by kernel_rfl)) h0 bel lt0) (trodAll_cons_mk (Below.trod Tryd.laidOut (by kernel_rfl) (of_decide_eq_true (by kernel_rfl)) h1 bel lt1) trodAll_mk0)), rfl, bel.frame _, fun h => by cases h⟩

theorem generalSays_holds : Rows.GeneralSaysSaid :=
  OpenClaim.holds_of_wide 3 Tryd.f3 rfl rfl rfl rfl rfl rfl rfl ⟨rfl, rfl, rfl, rfl, rfl⟩ rfl rfl rfl rfl rfl (by kernel_rfl) Tryd.func3 (by kernel_rfl)
    (of_decide_eq_true (by kernel_rfl)) (by unfold Func.isWrapper; first | (rw [if_pos (by decide +kernel)]; kernel_rfl) | (rw [if_neg (by decide +kernel)]; exact ⟨rfl, rfl⟩))
    (fun os started H enc _ => generalSays_lifted os started H enc)

/-- No parameter wants a stand-in; the program's own looks are as the card says. -/
theorem generalSays_plain (g : FuncId) (fn : Func) (hf : Tryd.pinned.checked.prog.funcNamed "metaprune/metaprunelaw.GeneralSays" = some g) (hfn : Tryd.pinned.checked.prog.funcs[g]? = some fn) :
    false = Tryd.pinned.checked.prog.looks [] ∧ ∀ (j : Nat) t, fn.params[j]? = some t → Tryd.pinned.checked.prog.wantsStandIn t = false := by
  obtain rfl : g = 3 := Option.some.inj ((show Tryd.prog.funcNamed "metaprune/metaprunelaw.GeneralSays" = some 3 by kernel_rfl).symm.trans hf) |>.symm
  obtain rfl : fn = Tryd.f3 := (Option.some.inj (Tryd.func3.symm.trans hfn)).symm
  refine ⟨by kernel_rfl, fun j t ht => ?_⟩
  rw [Tryd.params3] at ht
  have hm : t ∈ [24, 24] := by simpa using Array.mem_of_getElem? ht
  have hall : ([24, 24].all fun u => !Tryd.prog.wantsStandIn u) = true := by kernel_rfl
  exact (show Tryd.prog.wantsStandIn t = false by simpa using List.all_eq_true.1 hall t hm)

theorem generalSays_card : Rows.GeneralSaysCardSaid :=
  Claim7.holds_tied_plain_at .later [] _ _ _ _ generalSays_holds (fun _ h => by cases h) (by kernel_rfl) (fun _ h => by cases h) generalSays_row_tie rfl ⟨rfl, rfl⟩ (by kernel_rfl) rfl generalSays_plain (by kernel_rfl)

end Go.Proofs.YtakmclheffbeaaaDoor
