import Derived.Test.YtkpkjbfnpocdgaaGreatDoorIf14
import Derived.Test.YtkpkjbfnpocdgaaGreatDoorZBTopSelfOwn
namespace Go.Proofs.YtkpkjbfnpocdgaaGreatDoor
open Go.RowKit
set_option linter.unusedSimpArgs false
set_option linter.unusedVariables false
set_option maxRecDepth 8000
def slfT (x : Lm) : Lm := ⟨2, 0, [⟨3, 0, [⟨3, 0, [⟨2, 0, [⟨2, 0, [⟨1, 1, []⟩]⟩]⟩, ⟨3, 0, [⟨1, 0, []⟩, ⟨1, 0, []⟩]⟩]⟩, x]⟩]⟩
def idT : Lm := ⟨2, 0, [⟨1, 0, []⟩]⟩
theorem varN_ne (p : UInt8) (h : p ≠ 102) (n : Nat) : vrN p n ≠ ⟨#[102]⟩ := by
 intro e
 simp [vrN] at e
 exact h e.1
theorem slf_err {x : Lm} (h : errM 1 0 [x] = 0) : errM 0 0 [slfT x] = 0 := by
 simp [slfT, errM, knE, subsK, mostK, deepK, h]
theorem slf_cs {x : Lm} (h : csL [x] = false) : csL [slfT x] = false := by
 unfold slfT
 rw [csL_one, csL_one, csL_cons, h]
 simp [csL]
theorem slf_size (x : Lm) : sizeM [slfT x] = 9 + sizeM [x] := by
 obtain ⟨k, i, l⟩ := x
 simp [slfT, sizeM]
 omega
theorem slf_eqs (x : Lm) : ∃ r, (tyT 86 (slfT x) [] 0).2.1 = ⟨vrT 86 1, arT (vrT 86 1) (vrT 86 4)⟩ :: r := by
 unfold slfT
 rw [tyT_fun]
 simp only [tyT_app, tyT_fun, tyT_bound]
 simp
theorem slf_run (x : Lm) : uRun false 1 [] (tyT 86 (slfT x) [] 0).2.1 = some (6, []) := by
 obtain ⟨r, hr⟩ := slf_eqs x
 rw [hr, uRun, uNext_cons]
 have e1 : onT [] (vrT 86 1) = vrT 86 1 := by simp [onT, onN, forT, vrT, onL]
 have e2 : onT [] (arT (vrT 86 1) (vrT 86 4)) = arT (vrT 86 1) (vrT 86 4) := by simp [onT, onN, forT, vrT, arT, onL]
 have hv : varB (vrT 86 1).name = true := by show varB (vrN 86 1) = true; rw [varB_vr]; decide
 have hne : (vrT 86 1).name ≠ (arT (vrT 86 1) (vrT 86 4)).name := varN_ne 86 (by decide) 1
 have hin : inB (vrT 86 1).name (varsP [] (preL [arT (vrT 86 1) (vrT 86 4)])) = true := by
  rw [inB_mem1, varsP_two]
  have h1 : (vrT 86 1).name ∈ varsP [] (preL [vrT 86 1]) := by
   show vrN 86 1 ∈ varsP [] (preL [(⟨vrN 86 1, []⟩ : Tm)])
   rw [varsP_one]
   exact vars_mem hv
  obtain ⟨q, hq⟩ := varsP_pre (preL [vrT 86 4]) (varsP [] (preL [vrT 86 1]))
  rw [hq]
  exact List.mem_append_left _ h1
 rw [e1, e2]
 unfold uPair
 rw [if_neg (by rw [vr_size, ar_size, vr_size, vr_size]; omega), if_pos hv, if_neg hne]
 unfold uBind
 rw [if_pos hin]
theorem slf_out {x : Lm} (h1 : errM 1 0 [x] = 0) (h2 : csL [x] = false) (h3 : sizeM [x] ≤ 50) : prE (slfT x) = 0 ∧ prO (slfT x) (6, []) = (11, noY) := by
 have hz := slf_size x
 have hp : prE (slfT x) = 0 := by
  have hl : lamE 0 0 (slfT x) = 0 := by
   unfold lamE
   rw [if_neg (by decide), if_neg (by omega)]
   exact slf_err h1
  unfold prE
  rw [if_pos hl, slf_cs h2]
  rfl
 refine ⟨hp, ?_⟩
 unfold prO
 rw [if_pos hp]
 simp [outI, outY, grtB]
def a0a0 : Ty := ⟨0, [⟨0, []⟩, ⟨0, []⟩]⟩
theorem id_ty : tyT 86 idT [] 0 = (arT (vrT 86 1) (vrT 86 1), [], 1) := by
 unfold idT
 rw [tyT_fun, tyT_bound]
 simp
theorem id_run : uRun false 1 [] (tyT 86 idT [] 0).2.1 = some (0, []) := by
 rw [id_ty]
 rfl
theorem id_out : prE idT = 0 ∧ prO idT (0, []) = (0, a0a0) := by
 have hp : prE idT = 0 := by
  unfold prE lamE idT
  simp [sizeM, errM, knE, subsK, mostK, deepK, csL]
 refine ⟨hp, ?_⟩
 unfold prO
 rw [if_pos hp, id_ty]
 have e2 : onT [] (arT (vrT 86 1) (vrT 86 1)) = arT (vrT 86 1) (vrT 86 1) := by simp [onT, onN, forT, vrT, arT, onL]
 have hv : varB (vrN 86 1) = true := by rw [varB_vr]; decide
 have e3 : varsP [] (preL [arT (vrT 86 1) (vrT 86 1)]) = [vrN 86 1] := by
  rw [varsP_two]
  show varsP (varsP [] (preL [(⟨vrN 86 1, []⟩ : Tm)])) (preL [(⟨vrN 86 1, []⟩ : Tm)]) = _
  have h1 : addV [] (vrN 86 1) = [vrN 86 1] := addV_yes hv (by simp [inB])
  rw [varsP_one, varsP_one, h1, addV_in hv (by rw [inB_mem1]; simp)]
 unfold outI outY
 simp only [grtB, List.any_nil]
 rw [if_neg (by decide), if_neg (by decide), if_neg (by decide), e2, if_neg (by rw [ar_size, vr_size]; omega), e3, ayT_ar]
 show (0, (⟨0, [ayT _ ⟨vrN 86 1, []⟩, ayT _ ⟨vrN 86 1, []⟩]⟩ : Ty)) = _
 rw [ayT_leaf]
 simp [ixB, a0a0]
theorem a0_text : txY a0a0 = [97, 48, 62, 97, 48] := by
 unfold a0a0
 rw [txY_arrow, txY_base]
 have h : Lib.decDigits (0 : Int).toNat = [48] := by
  have := Lib.decDigits_one (i := 0) (by decide)
  simpa using this
 rw [h]
 rfl
theorem a0_may : tyE a0a0 = 0 := by
 unfold tyE a0a0
 simp [sizeY, errY, knY]
end Go.Proofs.YtkpkjbfnpocdgaaGreatDoor
