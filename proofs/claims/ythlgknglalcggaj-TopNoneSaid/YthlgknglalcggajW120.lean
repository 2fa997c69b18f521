
/- Walks: the fact that the laws at the top ask besides. -/
import Derived.Test.YthlgknglalcggajW114
import Derived.Test.YthlgknglalcggajW35
namespace Go.Proofs.Ythlgknglalcggaj
open Go.RowKit
set_option linter.unusedSimpArgs false
set_option linter.unusedVariables false
set_option maxRecDepth 8000

def fT1 : Tm := ⟨⟨#[102]⟩, [⟨⟨#[97]⟩, []⟩, ⟨⟨#[88]⟩, []⟩]⟩
def fT2 : Tm := ⟨⟨#[102]⟩, [⟨⟨#[89]⟩, []⟩, ⟨⟨#[98]⟩, []⟩]⟩
theorem fact_run : uRun false 4 [] [⟨fT1, fT2⟩] = some (0, [⟨⟨#[88]⟩, ⟨⟨#[98]⟩, []⟩⟩, ⟨⟨#[89]⟩, ⟨⟨#[97]⟩, []⟩⟩]) := by
  have v1 : varB ⟨#[102]⟩ = false := by decide
  have v2 : varB ⟨#[97]⟩ = false := by decide
  have v3 : varB ⟨#[98]⟩ = false := by decide
  have v4 : varB ⟨#[88]⟩ = true := by decide
  have v5 : varB ⟨#[89]⟩ = true := by decide
  have l1 : ltB ⟨#[89]⟩ ⟨#[88]⟩ = false := by unfold ltB; rw [ByteArray.toList_eq, ByteArray.toList_eq]; simp [Op.bytesLess]
  have l2 : ltB ⟨#[88]⟩ ⟨#[89]⟩ = true := by unfold ltB; rw [ByteArray.toList_eq, ByteArray.toList_eq]; simp [Op.bytesLess]
  have w1 : varsP [] [⟨⟨#[97]⟩, []⟩] = [] := by decide
  have w2 : varsP [] [⟨⟨#[98]⟩, []⟩] = [] := by decide
  simp [uRun, uNext, uPair, uBind, onT, onL, onN, fT1, fT2, zipP, sizeL, forT, inB, preL, srtB, insB, putB, v1, v2, v3, v4, v5, l1, l2, w1, w2]
theorem fact_may : pairsE [⟨fT1, fT2⟩] = 0 := by
  have v1 : varB ⟨#[102]⟩ = false := by decide
  have n1 : nameB ⟨#[102]⟩ = true := by decide
  have n2 : nameB ⟨#[97]⟩ = true := by decide
  have n3 : nameB ⟨#[98]⟩ = true := by decide
  have n4 : nameB ⟨#[88]⟩ = true := by decide
  have n5 : nameB ⟨#[89]⟩ = true := by decide
  simp [pairsE, pmT, twoE, mayE, fT1, fT2, sizeL, errL, v1, n1, n2, n3, n4, n5]
theorem fact_rd1 : (rdAll ⟨#[102, 40, 97, 44, 88, 41]⟩).err = 0 ∧ (rdAll ⟨#[102, 40, 97, 44, 88, 41]⟩).t = fT1 := by
  constructor <;> kernel_rfl
theorem fact_rd2 : (rdAll ⟨#[102, 40, 89, 44, 98, 41]⟩).err = 0 ∧ (rdAll ⟨#[102, 40, 89, 44, 98, 41]⟩).t = fT2 := by
  constructor <;> kernel_rfl
theorem qv_one {w : World} {B T : Nat} {l r : Tm} {a1 a2 : Option Addr} {c1 c2 : Nat} (h : Blk w B #[.string l.name, .slice a1 l.args.length c1, .string r.name, .slice a2 r.args.length c2] T) (h1 : Sl w (fun _ => True) a1 l.args) (h2 : Sl w (fun _ => True) a2 r.args) : QV w (fun _ => True) (.slice (some ⟨B, 0, none⟩) 1 1) [⟨l, r⟩] := by
  refine ⟨some ⟨B, 0, none⟩, 1, rfl, by simp, Or.inr ⟨B, 0, rfl, trivial, fun i hi => ?_⟩⟩
  have e : i = 0 := by simp at hi; omega
  subst e
  exact ⟨a1, c1, a2, c2, h.cell 0, h.cell 1, h.cell 2, h.cell 3, h1, h2⟩

end Go.Proofs.Ythlgknglalcggaj
