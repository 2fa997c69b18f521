/- The law TopClasses: plain, and memory. -/
import Derived.Test.YtdmaijmglblccaaGreatDoorKm1
import Derived.Test.YtdmaijmglblccaaGreatDoorKl15
import Derived.Test.YtdmaijmglblccaaGreatDoorKl20
import Derived.Test.YtdmaijmglblccaaGreatDoorOp1
import Derived.Test.YtdmaijmglblccaaGreatDoorW151
import Derived.Test.YtdmaijmglblccaaGreatDoorRc2
import Derived.Test.YtdmaijmglblccaaGreatDoorW21
namespace Go.Proofs.YtdmaijmglblccaaGreatDoor
open Go.RowKit
set_option linter.unusedSimpArgs false
set_option linter.unusedVariables false
set_option maxRecDepth 8000

/-- All sides are small terms without variables. -/
def SmP (Z : Nat) (ls : List Pr) : Prop := ls.length ≤ 40 ∧ ∀ p ∈ ls, (sizeL [p.l] ≤ Z ∧ errL [p.l] = 0 ∧ grd p.l) ∧ sizeL [p.r] ≤ Z ∧ errL [p.r] = 0 ∧ grd p.r
theorem may_smK {t : Tm} (h : sizeL [t] ≤ 200) (he : errL [t] = 0) : mayE t = 0 := by unfold mayE; rw [if_neg (by omega)]; exact he
theorem grd_opn {t : Tm} (h : grd t) : opnB t = false := by
  unfold opnB
  rw [List.any_eq_false]
  intro k hk
  rw [h k hk]
  simp
theorem sm_pairs {Z : Nat} {ls : List Pr} (h : SmP Z ls) (hZ : Z ≤ 200) : pairsE ls = 0 := by
  unfold pairsE
  rw [if_neg (by have := h.1; omega)]
  have key : ∀ k, k ≤ ls.length → pmT ls k = 0 := by
    intro k
    induction k with
    | zero => intro _; rfl
    | succ k ih =>
      intro hk
      rw [pmT_next (by omega) (ih (by omega))]
      obtain ⟨⟨h1, h2, _⟩, h3, h4, _⟩ := h.2 ls[k] (List.getElem_mem (by omega))
      unfold twoE
      rw [if_pos (may_smK (by omega) h2)]
      exact may_smK (by omega) h4
  exact key _ (Nat.le_refl _)
theorem sm_grd {Z : Nat} {ls : List Pr} (h : SmP Z ls) (hZ : Z ≤ 200) : grdE ls = 0 := by
  unfold grdE
  rw [if_pos (sm_pairs h hZ), if_neg]
  intro h1
  obtain ⟨p, hp, h2⟩ := List.any_eq_true.1 h1
  obtain ⟨⟨_, _, h3⟩, _, _, h4⟩ := h.2 p hp
  unfold opP at h2
  rw [grd_opn h3, grd_opn h4] at h2
  cases h2
theorem pre_in : ∀ {ls : List Pr} {x : Tm}, x ∈ preL (prT ls) → ∃ p ∈ ls, x ∈ preL [p.l] ∨ x ∈ preL [p.r]
  | [], x, h => by simp [prT, preL] at h
  | p :: r, x, h => by
    have e : preL (prT (p :: r)) = preL [p.l] ++ (preL [p.r] ++ preL (prT r)) := by
      rw [prT, show p.l :: p.r :: prT r = [p.l] ++ ([p.r] ++ prT r) from rfl, preL_append, preL_append]
    rw [e] at h
    rcases List.mem_append.1 h with h | h
    · exact ⟨p, by simp, Or.inl h⟩
    · rcases List.mem_append.1 h with h | h
      · exact ⟨p, by simp, Or.inr h⟩
      · obtain ⟨q, hq, h2⟩ := pre_in h
        exact ⟨q, by simp [hq], h2⟩
theorem pre_transK (l : List Tm) : ∀ {u x : Tm}, u ∈ preL l → x ∈ preL [u] → x ∈ preL l := by
  induction l using Tm.indL with
  | h0 => intro u x h; simp [preL] at h
  | h s a r iha ihr =>
    intro u x hu hx
    have e : preL ((⟨s, a⟩ : Tm) :: r) = ⟨s, a⟩ :: (preL a ++ preL r) := by simp [preL]
    rw [e] at hu ⊢
    rcases List.mem_cons.1 hu with rfl | hu
    · have e2 : preL [(⟨s, a⟩ : Tm)] = ⟨s, a⟩ :: preL a := by simp [preL]
      rw [e2] at hx
      rcases List.mem_cons.1 hx with rfl | hx
      · simp
      · simp [hx]
    · rcases List.mem_append.1 hu with hu | hu
      · have := iha hu hx; simp [this]
      · have := ihr hu hx; simp [this]
theorem pre_errKm (l : List Tm) : ∀ {u : Tm}, errL l = 0 → u ∈ preL l → errL [u] = 0 := by
  induction l using Tm.indL with
  | h0 => intro u _ h; simp [preL] at h
  | h s a r iha ihr =>
    intro u he hu
    have e : preL ((⟨s, a⟩ : Tm) :: r) = ⟨s, a⟩ :: (preL a ++ preL r) := by simp [preL]
    rw [errL_cons] at he
    split at he
    · rename_i h0
      rw [e] at hu
      rcases List.mem_cons.1 hu with rfl | hu
      · exact h0
      · rcases List.mem_append.1 hu with hu | hu
        · exact iha (errL_parts0 h0) hu
        · exact ihr he hu
    · exact absurd he (by assumption)
/-- What is known of each term within. -/
theorem sm_in {Z : Nat} {ls : List Pr} (h : SmP Z ls) {x : Tm} (hx : x ∈ preL (prT ls)) : sizeL [x] ≤ Z ∧ errL [x] = 0 ∧ grd x := by
  obtain ⟨p, hp, h1⟩ := pre_in hx
  obtain ⟨⟨a1, a2, a3⟩, b1, b2, b3⟩ := h.2 p hp
  rcases h1 with h1 | h1
  · exact ⟨by have := pre_sizeK _ h1; omega, pre_errKm [p.l] a2 h1, fun k hk => a3 k (pre_transK _ h1 hk)⟩
  · exact ⟨by have := pre_sizeK _ h1; omega, pre_errKm [p.r] b2 h1, fun k hk => b3 k (pre_transK _ h1 hk)⟩
theorem sm_clo {Z : Nat} {ls : List Pr} (h : SmP Z ls) (hZ : Z ≤ 200) {x : Tm} (hx : x ∈ preL (prT ls)) : cloE x = 0 := by
  obtain ⟨h1, h2, h3⟩ := sm_in h hx
  unfold cloE
  rw [if_pos (may_smK (by omega) h2), grd_opn h3]
  rfl
theorem sm_two {ls : List Pr} {a b : Tm} (ha : a ∈ preL (prT ls)) (hb : b ∈ preL (prT ls)) (x : Tm) : x ∈ preL (prT ls ++ [a, b]) ↔ x ∈ preL (prT ls) := by
  rw [preL_append, show ([a, b] : List Tm) = [a] ++ [b] from rfl, preL_append, List.mem_append, List.mem_append]
  constructor
  · rintro (h | h | h)
    · exact h
    · exact pre_transK _ ha h
    · exact pre_transK _ hb h
  · exact Or.inl
theorem sm_size {Z : Nat} {ls : List Pr} (h0 : SmP Z ls) : sizeL (prT ls) ≤ ls.length * (2 * Z) := by
  have h := h0.2
  clear h0
  induction ls with
  | nil => simp [prT, sizeL]
  | cons p r ih =>
    have ih := ih fun q hq => h q (by simp [hq])
    obtain ⟨⟨a1, _⟩, b1, _⟩ := h p (by simp)
    have e : sizeL (prT (p :: r)) = sizeL [p.l] + (sizeL [p.r] + sizeL (prT r)) := by
      rw [prT, ← preL_length, show p.l :: p.r :: prT r = [p.l] ++ ([p.r] ++ prT r) from rfl, preL_append, preL_append, List.length_append, List.length_append, preL_length, preL_length, preL_length]
    rw [e, List.length_cons, Nat.add_mul]
    omega
/-- A row is put behind a row of one's own. -/
theorem app_rowK {w : World} {N : Nat} {v : Value} {l m : List ByteArray} (h : w.ownsRow N 9 1 v l.length (l.map Value.string)) (hN : N ≤ w.heap.size) (hl : l.length ≤ 100000) (hm0 : m ≠ []) (hm : m.length ≤ 100000) {b o c : Nat} (hc : ∀ i (hi : i < m.length), w.cell? ⟨b, o + i, none⟩ = some (.string m[i])) :
    ∃ g cap w3, (Builtin.append_ #[31, 31] 31 #[v, .slice (some ⟨b, o, none⟩) m.length c]).run Tryz.prog w = .ok (.slice (some ⟨g, 0, none⟩) (l.length + m.length) cap) w3 ∧ w3.ownsRow N 9 1 (.slice (some ⟨g, 0, none⟩) (l.length + m.length) cap) (l ++ m).length ((l ++ m).map Value.string) ∧ Below N w w3 := by
  obtain ⟨i0, hi, hz0, hz1, hz2⟩ := info_parts Tryz.infoStr
  have hp : 0 < m.length := List.length_pos_iff.2 hm0
  obtain ⟨g, cap, w3, hr, ho, hg, hat, _⟩ := run_append_lies (P := Tryz.prog) (w := w) 31 31 N 9 i0 _ 1 16 Tryz.underlying31 hi hz0 hz1 hz2 rfl (by decide) v l.length (l.map Value.string) h ⟨b, o, none⟩ m.length c (m.map Value.string) (by simp) (fun j u hj => by
    rw [List.getElem?_map] at hj
    have hjl : j < m.length := by
      by_cases hj2 : j < m.length
      · exact hj2
      · rw [List.getElem?_eq_none (by omega)] at hj; cases hj
    rw [List.getElem?_eq_getElem hjl] at hj
    cases hj
    have e : (⟨b, o, none⟩ : Addr).add j = ⟨b, o + j, none⟩ := by by_cases h0 : j = 0 <;> simp [Addr.add, h0]
    rw [e]
    exact hc j hjl) (by intro u hu; obtain ⟨s, _, rfl⟩ := List.mem_map.1 hu; rfl) hp (by unfold maxLen; omega) (by omega) hN _ rfl
  have e : (l ++ m).length = l.length + m.length := by simp
  refine ⟨g, cap, w3, hr, by rw [e, List.map_append]; exact ho, ⟨hg.os, hg.tape, hg.output, hg.size, fun k hk => hg.block k (by omega) fun e2 => ?_⟩⟩
  have := (h.lt k e2.symm).1
  omega
end Go.Proofs.YtdmaijmglblccaaGreatDoor
