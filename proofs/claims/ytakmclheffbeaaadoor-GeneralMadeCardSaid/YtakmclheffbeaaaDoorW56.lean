
/- Walks: what stands for variables, in a map; what is looked for there. -/
import Derived.Test.YtakmclheffbeaaaDoorZGeneralMadeOwn
namespace Go.Proofs.YtakmclheffbeaaaDoor
open Go.RowKit
set_option linter.unusedSimpArgs false
set_option linter.unusedVariables false
set_option maxRecDepth 8000

/-- The map's values are the bindings' terms. -/
def PairsL (w : World) (X : Nat → Prop) : List Bd → List (ByteArray × Value) → Prop
  | [], L => L = []
  | d :: r, L => ∃ a c L', L = (d.nm, .agg #[.string d.t.name, .slice a d.t.args.length c]) :: L' ∧ Sl w X a d.t.args ∧ PairsL w X r L'
theorem PairsL.imp {w w' : World} {X Y : Nat → Prop} (hs : ∀ a l, Sl w X a l → Sl w' Y a l) : ∀ {l : List Bd} {L : List (ByteArray × Value)}, PairsL w X l L → PairsL w' Y l L
  | [], L, h => h
  | d :: r, L, h => by obtain ⟨a, c, L', e, h1, h2⟩ := h; exact ⟨a, c, L', e, hs _ _ h1, PairsL.imp hs h2⟩
theorem PairsL.push {w : World} {X : Nat → Prop} {d : Bd} {a : Option Addr} {c : Nat} (hs : Sl w X a d.t.args) : ∀ {l : List Bd} {L : List (ByteArray × Value)}, PairsL w X l L → PairsL w X (l ++ [d]) (L ++ [(d.nm, .agg #[.string d.t.name, .slice a d.t.args.length c])])
  | [], L, h => by
    have e : L = [] := h
    subst e
    exact ⟨a, c, [], rfl, hs, rfl⟩
  | d' :: r, L, h => by obtain ⟨a', c', L', e, h1, h2⟩ := h; subst e; exact ⟨a', c', _, rfl, h1, PairsL.push hs h2⟩
theorem PairsL.get {w : World} {X : Nat → Prop} (n : ByteArray) : ∀ {l : List Bd} {L : List (ByteArray × Value)}, PairsL w X l L → (forT l n = none → mapGet L n = none) ∧ (∀ t, forT l n = some t → ∃ a c, mapGet L n = some (.agg #[.string t.name, .slice a t.args.length c]) ∧ Sl w X a t.args)
  | [], L, h => by
    have e : L = [] := h
    subst e
    exact ⟨fun _ => rfl, fun t h => by simp [forT] at h⟩
  | d :: r, L, h => by
    obtain ⟨a, c, L', rfl, h1, h2⟩ := h
    obtain ⟨g1, g2⟩ := PairsL.get n h2
    by_cases hd : d.nm = n
    · refine ⟨fun h => by simp [forT, hd] at h, fun t h => ?_⟩
      rw [forT, if_pos hd] at h
      cases h
      exact ⟨a, c, by simp [mapGet, hd], h1⟩
    · refine ⟨fun h => ?_, fun t h => ?_⟩
      · rw [forT, if_neg hd] at h
        simp only [mapGet, hd, if_false]
        exact g1 h
      · rw [forT, if_neg hd] at h
        simp only [mapGet, hd, if_false]
        exact g2 t h

end Go.Proofs.YtakmclheffbeaaaDoor
