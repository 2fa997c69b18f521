/- TopClasses holds at every call; no argument is changed.
   No condition beyond the given statement's own. -/
import Derived.Test.YtdmaijmglblccaaGreatDoorCards
import Derived.Test.YtdmaijmglblccaaGreatDoorTie
import Derived.Test.YtdmaijmglblccaaGreatDoorKm4
import Derived.Test.YtdmaijmglblccaaGreatDoorOpenR
import Derived.ProofKit
import Derived.OpenShut
import Derived.ShutString
import Derived.ChangeOld
import Derived.Below
import Derived.LaidMore
import Derived.Stop.Joined
import Derived.SevenTiedAt
import Derived.Lib.LaidU8
namespace Go.Proofs.YtdmaijmglblccaaGreatDoor
open Go.ChangeShapes Go.WideShapes Go.ChangeAt Go.RowKit
set_option linter.unusedVariables false

theorem Tryz.own : ownKnob Tryz.prog.godebug = none := by kernel_rfl
theorem Tryz.laidOut : laidOutB Tryz.prog = true := by kernel_rfl

set_option maxRecDepth 100000
theorem Tryz.pow10Var : Tryz.prog.globalNamed "internal/strconv.uint64pow10" = some 0 := by kernel_rfl
theorem Tryz.pow10Type : (Tryz.prog.globals[0]?).map (·.type) = some 155 := by kernel_rfl
theorem Tryz.pow10Cells : Tryz.prog.cellsOf 155 = 20 := by kernel_rfl
theorem Tryz.pow10Elem : Tryz.prog.cellsOf 127 = 1 := by kernel_rfl
/-- What the row's list gives: the library's powers of ten. -/
theorem topClasses_tab {W : World} (h : laidMetH Tryz.prog Rows.topClassesRow.laid W) : Tb W.heap.size W := by
  have h1 : laidMet Tryz.prog Rows.topClassesRow.laid W := h
  obtain ⟨g, t, cs, fuel, p, hg, ht, hv, hd⟩ := Lib.laidMet.reads h1 (n := "internal/strconv.uint64pow10") (d := Rows.laid_internal_strconv_uint64pow10) (by simp [Rows.topClassesRow])
  obtain rfl := Option.some.inj (Tryz.pow10Var.symm.trans hg)
  obtain rfl := Option.some.inj (Tryz.pow10Type.symm.trans ht)
  refine Lib.tabBelow_of_tabIs ?_
  unfold Lib.TabIs
  have hd' : DataW.trod (fun _ => ()) Tryz.prog W 0 (fun _ => true) false fuel 155 cs.toList = some (Lib.tabData .u64 Lib.pow10Tab, p) := hd
  rw [hv, ← Lib.cells_of_tab Tryz.underlying155 Tryz.underlying127 Tryz.pow10Elem Tryz.pow10Cells hd']

/-- The door's own heap meets the condition. -/
theorem topClasses_door (os : Os) (args : Array Value) : laidMetH Tryz.prog Rows.topClassesRow.laid ((World.doorLaid Tryz.prog 24 os).forCall (fun _ _ => 0) ⟨#[], args, []⟩).memory :=
  laidMetH_of_parts3 (fuel := 8) (laidMet_of_run' 8 (by kernel_rfl) (by kernel_rfl)) (by kernel_rfl) (by kernel_rfl)

theorem topClasses_lifted (os : Os) (started : os.Started) (H : Type) (enc : TypeId × Value → H) :
    ReturnsInHanded {} Tryz.checked os 5 .any (fun w args => (Rows.topClassesSpec.pre enc Tryz.prog Tryz.f5 Rows.topClassesRow.domain false w args ∧ laidMetH Tryz.prog Rows.topClassesRow.laid w) ∧ sizedMet enc Tryz.prog Tryz.f5 (OpenSpec.ofChange Rows.topClassesSpec) false w args)
      (Rows.topClassesSpec.post enc Tryz.prog Tryz.f5 false true false false) := by
  refine returnsInHanded_of_change_and (C := Tryz.checked) (X := fun w _ => laidMetH Tryz.prog Rows.topClassesRow.laid w) (fun _ _ _ hh h => h.of_heap hh) Tryz.own started (by kernel_rfl) Tryz.func5
    (ChangeSpec.witness_shaped (enc := enc) (C := Tryz.checked) (os := os) (X := fun w _ => laidMetH Tryz.prog Rows.topClassesRow.laid w) false (World.doorLaid Tryz.prog 24 os) #[.slice none 0 0, .int .i64 0, .int .i64 0] 8 rfl (World.shaped_of_RefB (by kernel_rfl) (by kernel_rfl)) (by kernel_rfl) (by kernel_rfl) (by kernel_rfl) (topClasses_door os _)) ?_
  intro W base args ds gs before hval0 hW _ _ hL _
  have hval : ∀ (j : Nat) t v, Tryz.f5.params[j]? = some t → args[j]? = some v → Value.okWide Tryz.prog W .any base t v := hval0
  have hW' := hW
  obtain ⟨p, q, hA0, hV, rfl, hfz, hnd⟩ := hW
  have hA : DataW.TrodAll enc Tryz.prog W 0 (fun _ => true) true Tryz.f5.params.toList args.toList ds p := hA0
  rw [Tryz.params5] at hA hval
  obtain ⟨v0, vs0, d0, ds0, p0, q0, hargs, rfl, rfl, h0, r0⟩ := trodAll_cons hA
  obtain ⟨v1, vs1, d1, ds1, p1, q1, rfl, rfl, rfl, h1, r1⟩ := trodAll_cons r0
  obtain ⟨v2, vs2, d2, ds2, p2, q2, rfl, rfl, rfl, h2, r2⟩ := trodAll_cons r1
  obtain ⟨rfl, rfl, rfl⟩ := trodAll_nil r2
  obtain rfl : args = #[v0, v1, v2] := by cases args; simp_all
  obtain ⟨rfl, rfl⟩ := trodVars_none hV
  have lt0 : ∀ x ∈ p0, x.block < W.heap.size := by obtain ⟨m, hm⟩ := h0; exact DataW.trod_lt m _ _ _ hm
  have lt1 : ∀ x ∈ p1, x.block < W.heap.size := by obtain ⟨m, hm⟩ := h1; exact DataW.trod_lt m _ _ _ hm
  have lt2 : ∀ x ∈ p2, x.block < W.heap.size := by obtain ⟨m, hm⟩ := h2; exact DataW.trod_lt m _ _ _ hm
  obtain ⟨t0, g0, k0⟩ := open_pvr (hval 0 45 v0 rfl rfl) h0
  obtain ⟨t1, e1, k1⟩ := open_int (hval 1 3 v1 rfl rfl) h1
  obtain ⟨t2, e2, k2⟩ := open_int (hval 2 3 v2 rfl rfl) h2
  clear hA0 hval0
  have hTb := topClasses_tab hL
  have hcall := topClasses_any t0 k0 t1 t2 k1 k2 _ W _ g0 hTb (Nat.le_refl _)
  rw [← e1, ← e2] at hcall
  refine hcall.mono fun e W' ⟨he, bel⟩ => ?_
  subst he
  exact ⟨_, rfl, _, _, _, [], _, [], hW', trodAll_mk1 (shut_bool Tryz.underlying4 _), (trodAll_cons_mk (Below.trod Tryz.laidOut (by kernel_rfl) (of_decide_eq_true (by kernel_rfl)) h0 bel lt0) (trodAll_cons_mk (Below.trod Tryz.laidOut (by kernel_rfl) (of_decide_eq_true (by kernel_rfl)) h1 bel lt1) (trodAll_cons_mk (Below.trod Tryz.laidOut (by kernel_rfl) (of_decide_eq_true (by kernel_rfl)) h2 bel lt2) trodAll_mk0))), rfl, bel.frame _, fun h => by cases h⟩

theorem topClasses_holds : Rows.TopClassesSaid :=
  OpenClaim.holds_of_wide 5 Tryz.f5 rfl rfl rfl rfl rfl rfl rfl ⟨rfl, rfl, rfl, rfl, rfl⟩ rfl rfl rfl rfl rfl (by kernel_rfl) Tryz.func5 (by kernel_rfl)
    (of_decide_eq_true (by kernel_rfl)) (by unfold Func.isWrapper; first | (rw [if_pos (by decide +kernel)]; kernel_rfl) | (rw [if_neg (by decide +kernel)]; exact ⟨rfl, rfl⟩))
    (fun os started H enc _ => topClasses_lifted os started H enc)

/-- No parameter wants a stand-in; the program's own looks are as the card says. -/
theorem topClasses_plain (g : FuncId) (fn : Func) (hf : Tryz.pinned.checked.prog.funcNamed "metaprune/metaprunetop.TopClasses" = some g) (hfn : Tryz.pinned.checked.prog.funcs[g]? = some fn) :
    true = Tryz.pinned.checked.prog.looks [] ∧ ∀ (j : Nat) t, fn.params[j]? = some t → Tryz.pinned.checked.prog.wantsStandIn t = false := by
  obtain rfl : g = 5 := Option.some.inj ((show Tryz.prog.funcNamed "metaprune/metaprunetop.TopClasses" = some 5 by kernel_rfl).symm.trans hf) |>.symm
  obtain rfl : fn = Tryz.f5 := (Option.some.inj (Tryz.func5.symm.trans hfn)).symm
  refine ⟨by kernel_rfl, fun j t ht => ?_⟩
  rw [Tryz.params5] at ht
  have hm : t ∈ [45, 3, 3] := by simpa using Array.mem_of_getElem? ht
  have hall : ([45, 3, 3].all fun u => !Tryz.prog.wantsStandIn u) = true := by kernel_rfl
  exact (show Tryz.prog.wantsStandIn t = false by simpa using List.all_eq_true.1 hall t hm)

theorem topClasses_card : Rows.TopClassesCardSaid :=
  Claim7.holds_tied_plain_at .later [] _ _ _ _ topClasses_holds (fun _ h => by cases h) (by kernel_rfl) (fun _ h => by cases h) topClasses_row_tie rfl ⟨rfl, rfl⟩ (by kernel_rfl) rfl topClasses_plain (by kernel_rfl)

end Go.Proofs.YtdmaijmglblccaaGreatDoor
