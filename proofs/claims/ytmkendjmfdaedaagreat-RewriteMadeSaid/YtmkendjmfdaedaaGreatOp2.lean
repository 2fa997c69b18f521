import Derived.Test.YtmkendjmfdaedaaGreatOp1
import Derived.Test.YtmkendjmfdaedaaGreatZRewriteMadeOwn
namespace Go.Proofs.YtmkendjmfdaedaaGreat
open Go.RowKit
set_option linter.unusedSimpArgs false
set_option linter.unusedVariables false
theorem onL_map (s : List Bd) : ∀ l : List Tm, onL s l = l.map (onT s)
 | [] => by simp [onL]
 | t :: l => by rw [onL_cons, onL_map s l]; rfl
def VarsB (s : List Bd) : Prop := ∀ n x, forT s n = some x → varB n = true
theorem on_sym {s : List Bd} (hs : VarsB s) {t : Tm} (h : varB t.name = false) : onT s t = ⟨t.name, t.args.map (onT s)⟩ := by
 obtain ⟨n, l⟩ := t
 have hn : forT s n = none := by
  cases hf : forT s n with
  | none => rfl
  | some x =>
   have := hs n x hf
   rw [show varB n = false from h] at this
   cases this
 rw [onT_deep (Or.inr hn), onL_map]
def Flat (l : List Tm) : Prop := ∀ k ∈ preL l, varB k.name = true → k.args = []
theorem Flat.cons {t : Tm} {r : List Tm} (h : Flat (t :: r)) : Flat [t] ∧ Flat r := by
 have e : preL (t :: r) = preL [t] ++ preL r := preL_app [t] r
 exact ⟨fun k hk => h k (by rw [e]; simp [hk]), fun k hk => h k (by rw [e]; simp [hk])⟩
end Go.Proofs.YtmkendjmfdaedaaGreat
