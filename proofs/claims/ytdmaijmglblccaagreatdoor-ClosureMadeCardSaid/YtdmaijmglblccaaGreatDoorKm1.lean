/- The classes part all terms: a plain text. -/
import Derived.Test.YtdmaijmglblccaaGreatDoorKl22
namespace Go.Proofs.YtdmaijmglblccaaGreatDoor
open Go.RowKit
set_option linter.unusedSimpArgs false
set_option linter.unusedVariables false
set_option maxRecDepth 8000

theorem ClsR.ne {E : List Pr} {S : Tm → Prop} {rows : List (List ByteArray)} (h : ClsR E S rows) : ∀ r ∈ rows, r ≠ [] := fun r hr e => by
  obtain ⟨_, t, ht, hm⟩ := h.row r hr
  have h1 : txB t ∈ r := (hm _).2 ⟨t, ht, .refl _, rfl⟩
  rw [e] at h1
  cases h1
/-- Of one row just if the same. -/
theorem ClsR.same {E : List Pr} {S : Tm → Prop} {rows : List (List ByteArray)} (he : ∀ t, S t → errL [t] = 0) (h : ClsR E S rows) {i k : Nat} (hi : i < rows.length) (hk : k < rows.length) {a b : Tm} (sa : S a) (sb : S b) (ha : txB a ∈ rows[i]) (hb : txB b ∈ rows[k]) : Cg E S a b ↔ i = k := by
  obtain ⟨g1, t, ht, m1⟩ := h.row _ (List.getElem_mem hi)
  obtain ⟨g2, u, hu, m2⟩ := h.row _ (List.getElem_mem hk)
  obtain ⟨a', sa', ca, ea⟩ := (m1 _).1 ha
  obtain ⟨b', sb', cb, eb⟩ := (m2 _).1 hb
  have ea := txB_inj (he _ sa) (he _ sa') ea
  have eb := txB_inj (he _ sb) (he _ sb') eb
  subst ea
  subst eb
  constructor
  · intro hc
    have htu : Cg E S t u := (ca.trans hc).trans cb.sym
    have e : rows[i] = rows[k] := asc_uniq g1 g2 fun s => by
      rw [m1, m2]
      constructor
      · rintro ⟨v, hv, cv, e⟩; exact ⟨v, hv, htu.sym.trans cv, e⟩
      · rintro ⟨v, hv, cv, e⟩; exact ⟨v, hv, htu.trans cv, e⟩
    rcases Nat.lt_trichotomy i k with g | g | g
    · have := List.pairwise_iff_getElem.1 h.asc i k hi hk g
      rw [e] at this
      exact absurd this (lxR_irrefl _)
    · exact g
    · have := List.pairwise_iff_getElem.1 h.asc k i hk hi g
      rw [e] at this
      exact absurd this (lxR_irrefl _)
  · rintro rfl
    have hb2 := (m1 _).1 hb
    obtain ⟨b2, sb2, cb2, e2⟩ := hb2
    have e2 := txB_inj (he _ sb) (he _ sb2) e2
    subst e2
    exact ca.sym.trans cb2
end Go.Proofs.YtdmaijmglblccaaGreatDoor
