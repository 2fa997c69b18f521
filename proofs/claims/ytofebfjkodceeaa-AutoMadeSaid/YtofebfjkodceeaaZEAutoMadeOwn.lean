/- Several texts in one. -/
import Derived.Test.YtofebfjkodceeaaZJAutoMadeOwn
import Derived.Test.YtofebfjkodceeaaZAutoMadeOwn
namespace Go.Proofs.Ytofebfjkodceeaa
open Go.RowKit
set_option linter.unusedSimpArgs false
set_option linter.unusedVariables false
structure Rd where
 err : Int
 t : Tm
 pos : Nat
 k : Nat
theorem byteAt_list (s : ByteArray) (j : Nat) (c : UInt8) (h : s.data.toList[j]? = some c) : byteAt s j = (c.toNat : Int) := by
 have hj : j < s.data.toList.length := by
  rcases Nat.lt_or_ge j s.data.toList.length with h' | h'
  ·exact h'
  ·rw [List.getElem?_eq_none h'] at h; cases h
 have hs : j < s.size := by simpa using hj
 unfold byteAt
 rw [dif_pos hs]
 have : s.data.toList[j]? = some s[j] := by
  rw [List.getElem?_eq_getElem hj]; rfl
 rw [this] at h
 cases h
 rfl
theorem size_list (s : ByteArray) : s.size = s.data.toList.length := by simp
theorem name_aln {nm : ByteArray} (h : nameB nm = true) : ∀ c ∈ nm.data.toList, alnB (c.toNat : Int) = true := by
 intro c hc
 obtain ⟨j, hj, hjc⟩ := List.getElem_of_mem hc
 have h2 : alnTo nm nm.size = true := by
  unfold nameB at h
  simp only [Bool.and_eq_true] at h
  exact h.2
 unfold alnTo at h2
 rw [List.all_eq_true] at h2
 have h3 := h2 j (by rw [List.mem_range, size_list]; exact hj)
 rw [byteAt_list nm j c (by rw [List.getElem?_eq_getElem hj, hjc])] at h3
 exact h3
def Behind (post : List UInt8) : Prop := post = [] ∨ ∃ c r, post = c :: r ∧ (c = 41 ∨ c = 44)
def Beh (x : List UInt8) : Prop := x = [] ∨ ∃ c r, x = c :: r ∧ (c = 41 ∨ c = 44 ∨ c = 61)
def Ends (x : List UInt8) : Prop := x = [] ∨ ∃ c r, x = c :: r ∧ alnB (c.toNat : Int) = false
theorem Beh.ends {x : List UInt8} (h : Beh x) : Ends x := by
 rcases h with h | ⟨c, r, e, h⟩
 ·exact Or.inl h
 ·refine Or.inr ⟨c, r, e, ?_⟩
  rcases h with rfl | rfl | rfl <;> decide
theorem name_split : ∀ (n m : List UInt8) {x y : List UInt8}, (∀ c ∈ n, alnB (c.toNat : Int) = true) → (∀ c ∈ m, alnB (c.toNat : Int) = true) → Ends x → Ends y → n ++ x = m ++ y → n = m ∧ x = y
 | [], [], x, y, _, _, _, _, h => ⟨rfl, by simpa using h⟩
 | [], c :: m, x, y, _, hm, hx, _, h => by
  exfalso
  have h : x = c :: (m ++ y) := by simpa using h
  have h1 := hm c (by simp)
  rcases hx with hx | ⟨d, r, e, h2⟩
  ·rw [hx] at h; cases h
  ·rw [e] at h
   injection h with h3 h4
   rw [← h3, h2] at h1
   cases h1
 | c :: n, [], x, y, hn, _, _, hy, h => by
  exfalso
  have h : c :: (n ++ x) = y := by simpa using h
  have h1 := hn c (by simp)
  rcases hy with hy | ⟨d, r, e, h2⟩
  ·rw [hy] at h; cases h
  ·rw [e] at h
   injection h with h3 h4
   rw [h3, h2] at h1
   cases h1
 | c :: n, d :: m, x, y, hn, hm, hx, hy, h => by
  have h : c :: (n ++ x) = d :: (m ++ y) := by simpa using h
  injection h with h1 h2
  obtain ⟨e1, e2⟩ := name_split n m (fun z hz => hn z (by simp [hz])) (fun z hz => hm z (by simp [hz])) hx hy h2
  exact ⟨by rw [h1, e1], e2⟩
theorem errL_parts0 {s : ByteArray} {l : List Tm} (h : errL [(⟨s, l⟩ : Tm)] = 0) : errL l = 0 := by
 simp only [errL] at h
 repeat' split at h
 all_goals first | (cases h; done) | assumption | simp_all
theorem errL_name0 {s : ByteArray} {l : List Tm} (h : errL [(⟨s, l⟩ : Tm)] = 0) : nameB s = true := by
 simp only [errL] at h
 repeat' split at h
 all_goals first | (cases h; done) | assumption | simp_all
def OneT (t : Tm) : Prop := ∀ (u : Tm) (x y : List UInt8), errL [t] = 0 → errL [u] = 0 → Beh x → Beh y → txtL [t] ++ x = txtL [u] ++ y → t = u ∧ x = y
theorem oneL : ∀ (l : List Tm), (∀ t ∈ l, OneT t) → ∀ (k : List Tm) (x y : List UInt8), l ≠ [] → k ≠ [] → errL l = 0 → errL k = 0 → txtL l ++ 41 :: x = txtL k ++ 41 :: y → l = k ∧ x = y
 | [], _, k, x, y, h, _, _, _, _ => absurd rfl h
 | t :: r, hT, [], x, y, _, h, _, _, _ => absurd rfl h
 | t :: r, hT, u :: q, x, y, _, _, he, hf, hh => by
  have e1 : errL [t] = 0 ∧ errL r = 0 := by
   rw [errL_cons] at he
   split at he
   ·rename_i h; exact ⟨h, he⟩
   ·rename_i h; exact absurd he h
  have e2 : errL [u] = 0 ∧ errL q = 0 := by
   rw [errL_cons] at hf
   split at hf
   ·rename_i h; exact ⟨h, hf⟩
   ·rename_i h; exact absurd hf h
  have T := hT t (by simp)
  by_cases hr : r = []
  ·subst hr
   by_cases hq : q = []
   ·subst hq
    obtain ⟨h1, h2⟩ := T u _ _ e1.1 e2.1 (Or.inr ⟨41, x, rfl, by simp⟩) (Or.inr ⟨41, y, rfl, by simp⟩) hh
    injection h2 with _ h2
    exact ⟨by rw [h1], h2⟩
   ·rw [txtL_cons u q hq, List.append_assoc, List.cons_append] at hh
    obtain ⟨_, h2⟩ := T u _ _ e1.1 e2.1 (Or.inr ⟨41, x, rfl, by simp⟩) (Or.inr ⟨44, _, rfl, by simp⟩) hh
    injection h2 with h2 _
    cases h2
  ·rw [txtL_cons t r hr, List.append_assoc, List.cons_append] at hh
   by_cases hq : q = []
   ·subst hq
    obtain ⟨_, h2⟩ := T u _ _ e1.1 e2.1 (Or.inr ⟨44, _, rfl, by simp⟩) (Or.inr ⟨41, y, rfl, by simp⟩) hh
    injection h2 with h2 _
    cases h2
   ·rw [txtL_cons u q hq, List.append_assoc, List.cons_append] at hh
    obtain ⟨h1, h2⟩ := T u _ _ e1.1 e2.1 (Or.inr ⟨44, _, rfl, by simp⟩) (Or.inr ⟨44, _, rfl, by simp⟩) hh
    injection h2 with _ h2
    obtain ⟨h3, h4⟩ := oneL r (fun t ht => hT t (by simp [ht])) q x y hr hq e1.2 e2.2 h2
    exact ⟨by rw [h1, h3], h4⟩
theorem oneT (t : Tm) : OneT t := by
 induction t using Tm.ind with
 | h s l ih =>
  rintro ⟨s', k⟩ x y he hf hx hy hh
  have nm : nameB s = true := errL_name0 he
  have nm' : nameB s' = true := errL_name0 hf
  rw [txtL_one, txtL_one, List.append_assoc, List.append_assoc] at hh
  have ends : ∀ (l : List Tm) (x : List UInt8), Beh x → Ends ((if l.isEmpty = true then [] else 40 :: (txtL l ++ [41])) ++ x) := fun l x hx => by
   by_cases hl : l.isEmpty = true
   ·rw [if_pos hl]; exact hx.ends
   ·rw [if_neg hl]; exact Or.inr ⟨40, _, rfl, by decide⟩
  obtain ⟨h1, h2⟩ := name_split _ _ (name_aln nm) (name_aln nm') (ends l x hx) (ends k y hy) hh
  have hs : s = s' := by
   obtain ⟨⟨a⟩⟩ := s
   obtain ⟨⟨b⟩⟩ := s'
   have : a = b := h1
   rw [this]
  have no40 : ∀ {x z : List UInt8}, Beh x → x ≠ 40 :: z := fun {x z} hx h => by
   rcases hx with hx | ⟨c, r, e, hc⟩
   ·rw [hx] at h; cases h
   ·rw [e] at h
    injection h with h _
    rw [h] at hc
    revert hc
    decide
  have e1 : errL l = 0 := (errL_parts0 he)
  have e2 : errL k = 0 := (errL_parts0 hf)
  cases l with
  | nil =>
   cases k with
   | nil => exact ⟨by rw [hs], by simpa using h2⟩
   | cons u k => exact absurd (by simpa using h2) (no40 (z := txtL (u :: k) ++ 41 :: y) hx)
  | cons t l =>
   cases k with
   | nil => exact absurd (by simpa using h2.symm) (no40 (z := txtL (t :: l) ++ 41 :: x) hy)
   | cons u k =>
    have h3 : txtL (t :: l) ++ 41 :: x = txtL (u :: k) ++ 41 :: y := by simpa using h2
    obtain ⟨h4, h5⟩ := oneL (t :: l) ih (u :: k) x y (by simp) (by simp) e1 e2 h3
    exact ⟨by rw [hs, h4], h5⟩
theorem txt_inj {t u : Tm} (ht : errL [t] = 0) (hu : errL [u] = 0) (h : txtL [t] = txtL [u]) : t = u := (oneT t u [] [] ht hu (Or.inl rfl) (Or.inl rfl) (by rw [h])).1
end Go.Proofs.Ytofebfjkodceeaa
