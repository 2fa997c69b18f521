/- Plain: where steps by i, k and s end well, the end is the only one; a bracket's law follows from steps (towards TopBracket). -/
import Derived.Test.YtcdabjekppddjaaGreatDoorBk2
namespace Go.Proofs.YtcdabjekppddjaaGreatDoor
set_option linter.unusedSimpArgs false
set_option linter.unusedVariables false

theorem CStar.trans {a b c : CT} (h : CStar a b) (h1 : CStar b c) : CStar a c := by
  induction h with
  | refl t => exact h1
  | step h2 _ ih => exact .step h2 (ih h1)
theorem CStar.one {a b : CT} (h : CPar a b) : CStar a b := .step h (.refl _)
theorem CStar.ap {f f' x x' : CT} (h1 : CStar f f') (h2 : CStar x x') : CStar (.ap f x) (.ap f' x') := by
  have e1 : CStar (.ap f x) (.ap f' x) := by
    induction h1 with
    | refl t => exact .refl _
    | step h _ ih => exact .step (.ap h (.refl _)) ih
  have e2 : CStar (.ap f' x) (.ap f' x') := by
    clear e1
    induction h2 with
    | refl t => exact .refl _
    | step h _ ih => exact .step (.ap (.refl _) h) ih
  exact e1.trans e2
end Go.Proofs.YtcdabjekppddjaaGreatDoor
