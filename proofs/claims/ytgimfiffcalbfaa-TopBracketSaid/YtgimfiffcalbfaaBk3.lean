/- Plain: where steps by i, k and s end well, the end is the only one; a bracket's law follows from steps (towards TopBracket). -/
import Derived.Test.YtgimfiffcalbfaaBk2
namespace Go.Proofs.Ytgimfiffcalbfaa
set_option linter.unusedSimpArgs false
set_option linter.unusedVariables false

theorem leafC_inj {s s' : ByteArray} (h : leafC s = leafC s') : s = s' := by
  cases hc : leafC s' with
  | I => rw [hc] at h; rw [leafC_isI h, leafC_isI hc]
  | K => rw [hc] at h; rw [leafC_isK h, leafC_isK hc]
  | S => rw [hc] at h; rw [leafC_isS h, leafC_isS hc]
  | ap f x => exact absurd hc (leafC_no _ _ _)
  | «at» n =>
    have key : ∀ q, leafC q = .at n → q = n := by
      intro q hq
      unfold leafC at hq
      split at hq
      · cases hq
      · split at hq
        · cases hq
        · split at hq
          · cases hq
          · injection hq
    rw [hc] at h
    rw [key s h, key s' hc]
theorem toC_inj (n : Nat) : ∀ t u : Tm, sizeL [t] ≤ n → isC t = true → isC u = true → toC t = toC u → t = u := by
  induction n with
  | zero => intro t u h; have := size_posC t; omega
  | succ n ih =>
    intro t u h hc hd e
    rcases isC_cases hc with ⟨s, rfl⟩ | ⟨f, x, rfl, h1, h2⟩
    · rcases isC_cases hd with ⟨s', rfl⟩ | ⟨g, y, rfl, k1, k2⟩
      · rw [toC_leaf, toC_leaf] at e; rw [leafC_inj e]
      · rw [toC_leaf, toC_ap k1 k2] at e; exact absurd e (leafC_no _ _ _)
    · rcases isC_cases hd with ⟨s', rfl⟩ | ⟨g, y, rfl, k1, k2⟩
      · rw [toC_leaf, toC_ap h1 h2] at e; exact absurd e.symm (leafC_no _ _ _)
      · rw [toC_ap h1 h2, toC_ap k1 k2] at e
        injection e with e1 e2
        have hs := size_ap f x
        have a1 := size_posC f
        have a2 := size_posC x
        rw [ih f g (by omega) h1 k1 e1, ih x y (by omega) h2 k2 e2]
theorem CStar.trans {a b c : CT} (h : CStar a b) (h1 : CStar b c) : CStar a c := by
  induction h with
  | refl t => exact h1
  | step h2 _ ih => exact .step h2 (ih h1)
theorem CStar.one {a b : CT} (h : CPar a b) : CStar a b := .step h (.refl _)
theorem CStar.ap {f f' x x' : CT} (h1 : CStar f f') (h2 : CStar x x') : CStar (.ap f x) (.ap f' x') := by
  have e1 : CStar (.ap f x) (.ap f' x) := by
    induction h1 with
    | refl t => exact .refl _
    | step h _ ih => exact .step (.ap h (.refl _)) ih
  have e2 : CStar (.ap f' x) (.ap f' x') := by
    clear e1
    induction h2 with
    | refl t => exact .refl _
    | step h _ ih => exact .step (.ap (.refl _) h) ih
  exact e1.trans e2
/-- Where the document's steps end well. -/
theorem end_star : ∀ (k : Nat) (t : Tm), isC t = true → sizeL [t] ≤ 2000 → (endC k t).1 = 0 → isC (endC k t).2.1 = true ∧ CStar (toC t) (toC (endC k t).2.1) ∧ CNorm (toC (endC k t).2.1) := by
  intro k
  induction k with
  | zero =>
    intro t hc hz h
    cases hs : stepN 2001 t with
    | none => rw [endC_none hs]; exact ⟨hc, .refl _, step_norm 2001 t hs (by omega) hc⟩
    | some x => rw [endC_fuel hs] at h; cases h
  | succ k ih =>
    intro t hc hz h
    cases hs : stepN 2001 t with
    | none => rw [endC_none hs]; exact ⟨hc, .refl _, step_norm 2001 t hs (by omega) hc⟩
    | some x =>
      by_cases hx : 2000 < sizeL [x]
      · rw [endC_full hs hx] at h; cases h
      · obtain ⟨e1, e2, _⟩ := endC_on (k := k) hs hx
        rw [e1] at h
        have hcx := stepN_isC 2001 t x hs hc
        obtain ⟨i1, i2, i3⟩ := ih x hcx (by omega) h
        rw [e2]
        exact ⟨i1, .step (step_par 2001 t x hs hc) i2, i3⟩
/-- Two terms that a third one comes to end alike. -/
theorem ends_same {a b : Tm} {k m : Nat} (ha : isC a = true) (hb : isC b = true) (za : sizeL [a] ≤ 2000) (zb : sizeL [b] ≤ 2000) (h : CStar (toC a) (toC b)) (ea : (endC k a).1 = 0) (eb : (endC m b).1 = 0) : (endC k a).2.1 = (endC m b).2.1 := by
  obtain ⟨a1, a2, a3⟩ := end_star k a ha za ea
  obtain ⟨b1, b2, b3⟩ := end_star m b hb zb eb
  exact toC_inj _ _ _ (Nat.le_refl _) a1 b1 (a2.ends (h.trans b2) a3 b3)
#print axioms ends_same
end Go.Proofs.Ytgimfiffcalbfaa
