/- What was bound, in its order, and what stood for each variable at each time: plain. -/
import Derived.Test.YteojdfmdhgnmfaaGreatU3
namespace Go.Proofs.YteojdfmdhgnmfaaGreat
open Go.RowKit
set_option linter.unusedSimpArgs false
set_option linter.unusedVariables false

/-- The bindings that come of binding these, one behind the other. -/
def sAt (h : List (ByteArray × Tm)) : List Bd := h.foldl (fun s p => addS s p.1 p.2) []
theorem sAt_snoc (h : List (ByteArray × Tm)) (p : ByteArray × Tm) : sAt (h ++ [p]) = addS (sAt h) p.1 p.2 := by simp [sAt]
theorem sAt_take {h : List (ByteArray × Tm)} {j : Nat} (hj : j < h.length) : sAt (h.take (j + 1)) = addS (sAt (h.take j)) h[j].1 h[j].2 := by
  rw [List.take_succ_eq_append_getElem hj, sAt_snoc]
/-- A variable may be bound so, behind those bindings. -/
def MayAdd (s : List Bd) (x : ByteArray) (t : Tm) : Prop := varB x = true ∧ (∀ d ∈ s, d.nm ≠ x) ∧ errL [t] = 0 ∧ (∀ e ∈ s, ¬ occL e.nm [t]) ∧ ¬ occL x [t]
def GoodH (h : List (ByteArray × Tm)) : Prop := ∀ j (hj : j < h.length), MayAdd (sAt (h.take j)) h[j].1 h[j].2
theorem goodH_nil : GoodH [] := fun j hj => by simp at hj
theorem GoodH.snoc {h : List (ByteArray × Tm)} (g : GoodH h) {x : ByteArray} {t : Tm} (m : MayAdd (sAt h) x t) : GoodH (h ++ [(x, t)]) := by
  intro j hj
  by_cases e : j < h.length
  · have h1 := g j e
    rw [List.take_append_of_le_length (by omega)]
    rw [List.getElem_append_left e]
    exact h1
  · have e2 : j = h.length := by simp at hj; omega
    subst e2
    rw [List.take_append_of_le_length (by omega), List.take_length]
    simpa using m
theorem GoodH.ok {h : List (ByteArray × Tm)} (g : GoodH h) : ∀ j, j ≤ h.length → OkS (sAt (h.take j))
  | 0, _ => by simpa [sAt] using okS_nil
  | j + 1, hj => by
    rw [sAt_take (by omega)]
    obtain ⟨m1, m2, m3, m4, m5⟩ := g j (by omega)
    exact (g.ok j (by omega)).add m1 m2 m3 m4 m5
theorem GoodH.all {h : List (ByteArray × Tm)} (g : GoodH h) : OkS (sAt h) := by
  have := g.ok h.length (Nat.le_refl _)
  rwa [List.take_length] at this
/-- What was put in earlier may be put in ahead. -/
theorem GoodH.absorb {h : List (ByteArray × Tm)} (g : GoodH h) {i : Nat} : ∀ j, i ≤ j → j ≤ h.length → ∀ L : List Tm, errL L = 0 → onL (sAt (h.take j)) (onL (sAt (h.take i)) L) = onL (sAt (h.take j)) L
  | 0, hi, _, L, he => by
    have e : i = 0 := by omega
    subst e
    exact (g.ok 0 (Nat.zero_le _)).idem he
  | j + 1, hi, hj, L, he => by
    by_cases e : i = j + 1
    · subst e
      exact (g.ok _ hj).idem he
    · have ih := g.absorb (i := i) j (by omega) (by omega) L he
      have o1 := g.ok j (by omega)
      have o2 := g.ok (j + 1) hj
      have hjl2 : j < h.length := by omega
      obtain ⟨m1, m2, _⟩ := g j hjl2
      rw [sAt_take (h := h) (j := j) (by omega)] at o2 ⊢
      rw [add_on o1 m1 m2 o2 _ (errL_on2 (g.ok i (by omega)) L he), add_on o1 m1 m2 o2 L he, ih]
/-- Just those are bound. -/
theorem GoodH.bound {h : List (ByteArray × Tm)} (g : GoodH h) : ∀ j, j ≤ h.length → ∀ y, (∃ d ∈ sAt (h.take j), d.nm = y) ↔ ∃ i, ∃ hi : i < h.length, i < j ∧ h[i].1 = y
  | 0, _, y => by simp [sAt]
  | j + 1, hj, y => by
    have ih := g.bound j (by omega) y
    rw [sAt_take (by omega)]
    have hp := srtB_perm ((sAt (h.take j)).map (putB h[j].1 h[j].2) ++ [⟨h[j].1, h[j].2⟩])
    constructor
    · rintro ⟨d, hd, e⟩
      rcases List.mem_append.1 (hp.subset hd) with hd | hd
      · obtain ⟨d0, h0, rfl⟩ := List.mem_map.1 hd
        obtain ⟨i, hi, h1, h2⟩ := ih.1 ⟨d0, h0, e⟩
        exact ⟨i, hi, by omega, h2⟩
      · have e2 : d = ⟨h[j].1, h[j].2⟩ := by simpa using hd
        rw [e2] at e
        exact ⟨j, by omega, by omega, e⟩
    · rintro ⟨i, hi, h1, h2⟩
      by_cases e : i = j
      · subst e
        exact ⟨⟨h[i].1, h[i].2⟩, hp.symm.subset (by simp), h2⟩
      · obtain ⟨d0, h0, e0⟩ := ih.2 ⟨i, hi, by omega, h2⟩
        exact ⟨putB h[j].1 h[j].2 d0, hp.symm.subset (List.mem_append.2 (Or.inl (List.mem_map.2 ⟨d0, h0, rfl⟩))), e0⟩
/-- No variable is bound twice. -/
theorem GoodH.once {h : List (ByteArray × Tm)} (g : GoodH h) {i j : Nat} (hi : i < h.length) (hj : j < h.length) (e : h[i].1 = h[j].1) : i = j := by
  have key : ∀ a b (ha : a < h.length) (hb : b < h.length), a < b → h[a].1 ≠ h[b].1 := fun a b ha hb hab e => by
    obtain ⟨d, hd, e1⟩ := (g.bound b (by omega) h[a].1).2 ⟨a, ha, hab, rfl⟩
    exact (g b hb).2.1 d hd (e1.trans e)
  rcases Nat.lt_trichotomy i j with h1 | h1 | h1
  · exact absurd e (key i j hi hj h1)
  · exact h1
  · exact absurd e.symm (key j i hj hi h1)
/-- What stood for the i-th variable when j were bound. -/
def stood (h : List (ByteArray × Tm)) (i j : Nat) (hi : i < h.length) : Tm := onT (sAt (h.take j)) ⟨h[i].1, []⟩
theorem onT_absorb {h : List (ByteArray × Tm)} (g : GoodH h) {i j : Nat} (hij : i ≤ j) (hj : j ≤ h.length) {t : Tm} (he : errL [t] = 0) : onT (sAt (h.take j)) (onT (sAt (h.take i)) t) = onT (sAt (h.take j)) t := by
  have h1 := g.absorb j hij hj [t] he
  rw [onL_cons, onL_cons, onL_cons] at h1
  simpa [onL] using h1
/-- What stood for it, with all in it that has been bound since, is what stands for it. -/
theorem stood_on {h : List (ByteArray × Tm)} (g : GoodH h) {i j : Nat} (hi : i < h.length) (hj : j ≤ h.length) (hn : nameB h[i].1 = true) : onT (sAt h) (stood h i j hi) = stood h i h.length hi := by
  have h1 := onT_absorb g hj (Nat.le_refl _) (err_leaf hn)
  unfold stood
  rw [List.take_length] at h1 ⊢
  exact h1
/-- A bound variable that is left in it was bound later. -/
theorem stood_later {h : List (ByteArray × Tm)} (g : GoodH h) {i j k : Nat} (hi : i < h.length) (hj : j ≤ h.length) (hn : nameB h[i].1 = true) (hk : k < h.length) (ho : occL h[k].1 [stood h i j hi]) : j ≤ k := by
  rcases Nat.lt_or_ge k j with h1 | h1
  · obtain ⟨d, hd, e⟩ := (g.bound j hj h[k].1).2 ⟨k, hk, h1, rfl⟩
    have h2 := (g.ok j hj).goneT (err_leaf hn) d hd
    rw [e] at h2
    exact absurd ho h2
  · exact h1
#print axioms stood_on
#print axioms stood_later
end Go.Proofs.YteojdfmdhgnmfaaGreat
