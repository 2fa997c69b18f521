import Derived.Test.YtbnmlkaejdpigaaGreatDoorOv8
namespace Go.Proofs.YtbnmlkaejdpigaaGreatDoor
open Go.RowKit
set_option linter.unusedSimpArgs false
set_option linter.unusedVariables false
abbrev Rn := Pr × Nat
def crB (U : List Pr → Int × List Bd) (q : Rn × Rn) : Prop := ∃ d ∈ dnT [] [] (apR q.1.1 q.2.1).1.l, ovF U (apR q.1.1 q.2.1) (decide (q.1.2 = q.2.2)) d
def crO (U : List Pr → Int × List Bd) (q : Rn × Rn) : List Pr := ovL U q.1.1 q.2.1 (decide (q.1.2 = q.2.2))
open Classical in
noncomputable def crT (U : List Pr → Int × List Bd) : List (Rn × Rn) → List Pr → Int × List Pr
 | [], out => (0, out)
 | q :: r, out => if crB U q then (8, []) else if 400 < (out ++ crO U q).length then (3, []) else crT U r (out ++ crO U q)
theorem crT_nil (U : List Pr → Int × List Bd) (out : List Pr) : crT U [] out = (0, out) := by rw [crT]
theorem crT_full {U : List Pr → Int × List Bd} {q : Rn × Rn} {r : List (Rn × Rn)} {out : List Pr} (h : crB U q) : crT U (q :: r) out = (8, []) := by rw [crT, if_pos h]
theorem crT_many {U : List Pr → Int × List Bd} {q : Rn × Rn} {r : List (Rn × Rn)} {out : List Pr} (h : ¬ crB U q) (hm : 400 < (out ++ crO U q).length) : crT U (q :: r) out = (3, []) := by rw [crT, if_neg h, if_pos hm]
theorem crT_on {U : List Pr → Int × List Bd} {q : Rn × Rn} {r : List (Rn × Rn)} {out : List Pr} (h : ¬ crB U q) (hm : ¬ 400 < (out ++ crO U q).length) : crT U (q :: r) out = crT U r (out ++ crO U q) := by rw [crT, if_neg h, if_neg hm]
def remZ {α : Type} (Z : List α) (i j : Nat) : List (α × α) := (match Z[i]? with | some o => (Z.drop j).map fun n => (o, n) | none => []) ++ (Z.drop (i + 1)).flatMap fun o => Z.map fun n => (o, n)
theorem remZ_step {α : Type} (Z : List α) (i j : Nat) (hi : i < Z.length) (hj : j < Z.length) : remZ Z i j = (Z[i], Z[j]) :: remZ Z i (j + 1) := by
 unfold remZ
 rw [List.getElem?_eq_getElem hi]
 simp only
 rw [List.drop_eq_getElem_cons hj, List.map_cons, List.cons_append]
theorem remZ_next {α : Type} (Z : List α) (i : Nat) (hi : i < Z.length) : remZ Z i Z.length = remZ Z (i + 1) 0 := by
 unfold remZ
 rw [List.getElem?_eq_getElem hi]
 by_cases h : i + 1 < Z.length
 ·rw [List.getElem?_eq_getElem h]
  simp only [List.drop_length, List.map_nil, List.nil_append, List.drop_zero]
  rw [List.drop_eq_getElem_cons h, List.flatMap_cons]
 ·rw [List.getElem?_eq_none (by omega), List.drop_eq_nil_of_le (by omega : Z.length ≤ i + 1), List.drop_eq_nil_of_le (by omega : Z.length ≤ i + 1 + 1)]
  simp
theorem remZ_end {α : Type} (Z : List α) : remZ Z Z.length 0 = [] := by
 unfold remZ
 rw [List.getElem?_eq_none (Nat.le_refl _), List.drop_eq_nil_of_le (by omega : Z.length ≤ Z.length + 1)]
 rfl
noncomputable def crR (U : List Pr → Int × List Bd) (rs : List Pr) : Int × List Pr := crT U (remZ rs.zipIdx 0 0) []
theorem zi_len (rs : List Pr) : rs.zipIdx.length = rs.length := by simp
theorem zi_at (rs : List Pr) (i : Nat) (h : i < rs.length) : rs.zipIdx[i]'(by simpa using h) = (rs[i], i) := by simp
end Go.Proofs.YtbnmlkaejdpigaaGreatDoor
