/- Plain: the first step of a lambda term, and what it becomes at last. -/
import Derived.Test.YtaifameeoipjjaaL20
namespace Go.Proofs.Ytaifameeoipjjaa
open Go.RowKit
set_option linter.unusedSimpArgs false
set_option linter.unusedVariables false
set_option maxRecDepth 8000

/-- What an applied binder becomes. -/
def conT : List Lm → Lm
  | [⟨_, _, [b]⟩, z] => insT z 0 b
  | _ => ⟨0, 0, []⟩
/-- The first that has a step is worked on. -/
def repF (f : Lm → Lm) : List Lm → List Lm
  | [] => []
  | y :: r => if stepM [y] = true then f y :: r else y :: repF f r
/-- Is the step done at this knot? -/
def hereT (inn : Bool) (t : Lm) : Bool := rdxT t && (!inn || !stepM t.subs)
def stpT (inn : Bool) : Nat → Lm → Lm
  | 0, t => t
  | n + 1, ⟨k, x, l⟩ => if hereT inn ⟨k, x, l⟩ = true then conT l else ⟨k, x, repF (stpT inn n) l⟩
/-- What a term becomes at last: an error or none, the term, how many steps. -/
def endM (inn : Bool) : Nat → Lm → Int × Lm × Nat
  | 0, t => if stepM [t] = true then (9, t, 0) else (0, t, 0)
  | k + 1, t => if stepM [t] = true then (if 2000 < sizeM [stpT inn 2001 t] then (8, t, 0) else ((endM inn k (stpT inn 2001 t)).1, (endM inn k (stpT inn 2001 t)).2.1, (endM inn k (stpT inn 2001 t)).2.2 + 1)) else (0, t, 0)
theorem knE_zero {u m k x : Int} {n : Nat} : knE u m k x n = 0 ↔ (1 ≤ k ∧ k ≤ 5) ∧ n = subsK k ∧ 0 ≤ x ∧ x < mostK u m k := by
  unfold knE
  constructor
  · intro h
    split at h
    · cases h
    · split at h
      · cases h
      · split at h
        · cases h
        · omega
  · rintro ⟨h1, h2, h3, h4⟩
    rw [if_neg (by omega), if_neg (by omega), if_neg (by omega)]
theorem err_two0 {u m : Int} {t : Lm} {r : List Lm} : errM u m (t :: r) = 0 ↔ errM u m [t] = 0 ∧ errM u m r = 0 := by
  rw [errM_cons]
  constructor
  · intro h
    split at h
    · rename_i h1; exact ⟨h1, h⟩
    · rename_i h1; exact absurd h h1
  · rintro ⟨h1, h2⟩; rw [if_pos h1]; exact h2
theorem err_one0 {u m k x : Int} {l : List Lm} : errM u m [⟨k, x, l⟩] = 0 ↔ knE u m k x l.length = 0 ∧ errM (deepK u k) m l = 0 := by
  constructor
  · intro h
    by_cases h1 : knE u m k x l.length = 0
    · rw [errM_good h1] at h; exact ⟨h1, h⟩
    · rw [errM_bad h1] at h; exact absurd h h1
  · rintro ⟨h1, h2⟩; rw [errM_good h1]; exact h2
theorem err_all0 {u m : Int} {l : List Lm} : errM u m l = 0 ↔ ∀ t ∈ l, errM u m [t] = 0 := by
  induction l with
  | nil => simp [errM]
  | cons t r ih => rw [err_two0, ih]; simp
theorem sh_of_err (l : List Lm) : ∀ u m, errM u m l = 0 → ShM l := by
  induction l using Lm.indL with
  | h0 => intro _ _ _; exact ShM_nil
  | h k x l r ihl ihr =>
    intro u m h
    obtain ⟨h1, h2⟩ := err_two0.1 h
    obtain ⟨h3, h4⟩ := err_one0.1 h1
    exact (ShM_cons k x l r).2 ⟨(knE_zero.1 h3).2.1, ihl _ _ h4, ihr _ _ h2⟩
theorem hig_len (y d : Int) (l : List Lm) : (higM y d l).length = l.length := by rw [higM_map]; simp
theorem ins_len (z : Lm) (d : Int) (l : List Lm) : (insM z d l).length = l.length := by rw [insM_map]; simp
theorem mostK_ne {u u' m k : Int} (h : k ≠ 1) : mostK u m k = mostK u' m k := by unfold mostK; rw [if_neg h, if_neg h]
/-- What is moved is as good as before. -/
theorem err_hig (m : Int) (l : List Lm) : ∀ u c y : Int, 0 ≤ u → 0 ≤ c → 0 ≤ y → errM (u + c) m l = 0 → errM (u + c + y) m (higM y c l) = 0 := by
  induction l using Lm.indL with
  | h0 => intro u c y _ _ _ _; simp [higM, errM]
  | h k x l r ihl ihr =>
    intro u c y hu hc hy h
    obtain ⟨h1, h2⟩ := err_two0.1 h
    obtain ⟨h3, h4⟩ := err_one0.1 h1
    obtain ⟨a1, a2, a3, a4⟩ := knE_zero.1 h3
    rw [higM]
    refine err_two0.2 ⟨?_, ihr u c y hu hc hy h2⟩
    by_cases hk : k = 1
    · subst hk
      have hl : l = [] := List.length_eq_zero_iff.1 (by rw [a2]; rfl)
      subst hl
      have a5 : x < u + c := by simpa [mostK] using a4
      rw [if_pos rfl]
      split
      · exact err_one0.2 ⟨knE_zero.2 ⟨a1, a2, a3, by show x < mostK _ _ 1; simp [mostK]; omega⟩, by simp [errM]⟩
      · exact err_one0.2 ⟨knE_zero.2 ⟨by omega, rfl, by omega, by show x + y < mostK _ _ 1; simp [mostK]; omega⟩, by simp [errM]⟩
    · rw [if_neg hk]
      refine err_one0.2 ⟨knE_zero.2 ⟨a1, by rw [hig_len]; exact a2, a3, by rw [mostK_ne hk (u' := u + c)]; exact a4⟩, ?_⟩
      by_cases h2 : k = 2
      · subst h2
        have e1 : deepK (u + c + y) 2 = u + (c + 1) + y := by simp [deepK]; omega
        have e2 : deepK c 2 = c + 1 := by simp [deepK]
        have e3 : deepK (u + c) 2 = u + (c + 1) := by simp [deepK]; omega
        rw [e1, e2]
        rw [e3] at h4
        exact ihl u (c + 1) y hu (by omega) hy h4
      · have e1 : ∀ z, deepK z k = z := fun z => by simp [deepK, h2]
        rw [e1, e1]
        rw [e1] at h4
        exact ihl u c y hu hc hy h4
theorem err_higT {m u c y : Int} {t : Lm} (hu : 0 ≤ u) (hc : 0 ≤ c) (hy : 0 ≤ y) (h : errM (u + c) m [t] = 0) : errM (u + c + y) m [higT y c t] = 0 := by
  have := err_hig m [t] u c y hu hc hy h
  rw [higM_map] at this
  exact this
theorem err_ins (m : Int) (z : Lm) (l : List Lm) : ∀ u c : Int, 0 ≤ u → 0 ≤ c → errM u m [z] = 0 → errM (u + c + 1) m l = 0 → errM (u + c) m (insM z c l) = 0 := by
  induction l using Lm.indL with
  | h0 => intro u c _ _ _ _; simp [insM, errM]
  | h k x l r ihl ihr =>
    intro u c hu hc hz h
    obtain ⟨h1, h2⟩ := err_two0.1 h
    obtain ⟨h3, h4⟩ := err_one0.1 h1
    obtain ⟨a1, a2, a3, a4⟩ := knE_zero.1 h3
    rw [insM]
    refine err_two0.2 ⟨?_, ihr u c hu hc hz h2⟩
    by_cases hk : k = 1
    · subst hk
      have hl : l = [] := List.length_eq_zero_iff.1 (by rw [a2]; rfl)
      subst hl
      have a5 : x < u + c + 1 := by simpa [mostK] using a4
      rw [if_pos rfl]
      split
      · exact err_one0.2 ⟨knE_zero.2 ⟨a1, a2, a3, by show x < mostK _ _ 1; simp [mostK]; omega⟩, by simp [errM]⟩
      · split
        · have h9 := err_higT (m := m) (u := u) (c := 0) (y := c) (t := z) hu (by omega) hc (by simpa using hz)
          simpa using h9
        · exact err_one0.2 ⟨knE_zero.2 ⟨by omega, rfl, by omega, by show x - 1 < mostK _ _ 1; simp [mostK]; omega⟩, by simp [errM]⟩
    · rw [if_neg hk]
      refine err_one0.2 ⟨knE_zero.2 ⟨a1, by rw [ins_len]; exact a2, a3, by rw [mostK_ne hk (u' := u + c + 1)]; exact a4⟩, ?_⟩
      by_cases h2 : k = 2
      · subst h2
        have e1 : deepK (u + c) 2 = u + (c + 1) := by simp [deepK]; omega
        have e2 : deepK c 2 = c + 1 := by simp [deepK]
        have e3 : deepK (u + c + 1) 2 = u + (c + 1) + 1 := by simp [deepK]; omega
        rw [e1, e2]
        rw [e3] at h4
        exact ihl u (c + 1) hu (by omega) hz h4
      · have e1 : ∀ z, deepK z k = z := fun z => by simp [deepK, h2]
        rw [e1, e1]
        rw [e1] at h4
        exact ihl u c hu hc hz h4
theorem err_insT {m u : Int} {z t : Lm} (hu : 0 ≤ u) (hz : errM u m [z] = 0) (h : errM (u + 1) m [t] = 0) : errM u m [insT z 0 t] = 0 := by
  have := err_ins m z [t] u 0 hu (by omega) hz (by simpa using h)
  rw [insM_map] at this
  simpa using this
theorem subs_two {t : Lm} {u m : Int} (he : errM u m [t] = 0) (hr : rdxT t = true) : ∃ x i b z, t = ⟨3, x, [⟨2, i, [b]⟩, z]⟩ ∧ errM (u + 1) m [b] = 0 ∧ errM u m [z] = 0 := by
  obtain ⟨k, x, l⟩ := t
  obtain ⟨h3, h4⟩ := err_one0.1 he
  obtain ⟨a1, a2, a3, a4⟩ := knE_zero.1 h3
  unfold rdxT at hr
  simp only [Bool.and_eq_true, decide_eq_true_eq] at hr
  obtain ⟨rfl, hr⟩ := hr
  have a5 : l.length = 2 := by rw [a2]; rfl
  match l, a5 with
  | [⟨k1, i, lb⟩, z], _ =>
    simp only [decide_eq_true_eq] at hr
    subst hr
    have e1 : deepK u 3 = u := by simp [deepK]
    rw [e1] at h4
    obtain ⟨h5, h6⟩ := err_two0.1 h4
    obtain ⟨h7, h8⟩ := err_one0.1 h5
    obtain ⟨b1, b2, b3, b4⟩ := knE_zero.1 h7
    have b5 : lb.length = 1 := by rw [b2]; rfl
    match lb, b5 with
    | [b], _ =>
      have e2 : deepK u 2 = u + 1 := by simp [deepK]
      rw [e2] at h8
      exact ⟨x, i, b, z, rfl, h8, h6⟩
theorem repF_len (f : Lm → Lm) : ∀ l : List Lm, (repF f l).length = l.length
  | [] => rfl
  | y :: r => by
    unfold repF
    split
    · rfl
    · simp [repF_len f r]
/-- What it is, where the first that has a step is the i-th. -/
theorem repF_at (f : Lm → Lm) : ∀ (l : List Lm) (i : Nat) (h : i < l.length), stepM (l.take i) = false → stepM [l[i]] = true → repF f l = l.set i (f l[i])
  | y :: r, 0, h, _, hs => by
    have hs' : stepM [y] = true := hs
    unfold repF
    rw [if_pos hs']; rfl
  | y :: r, i + 1, h, h0, hs => by
    have e : stepM (y :: r.take i) = (stepM [y] || stepM (r.take i)) := stepM_append [y] (r.take i)
    rw [List.take_succ_cons, e, Bool.or_eq_false_iff] at h0
    unfold repF
    rw [if_neg (by rw [h0.1]; simp), repF_at f r i (by simpa using h) h0.2 (by simpa using hs)]
    rfl
theorem repF_none (f : Lm → Lm) : ∀ (l : List Lm), stepM l = false → repF f l = l
  | [], _ => rfl
  | y :: r, h => by
    have e : stepM (y :: r) = (stepM [y] || stepM r) := stepM_append [y] r
    rw [e, Bool.or_eq_false_iff] at h
    unfold repF
    rw [if_neg (by rw [h.1]; simp), repF_none f r h.2]
theorem repF_mem {f : Lm → Lm} : ∀ {l : List Lm} {y : Lm}, y ∈ repF f l → y ∈ l ∨ ∃ z ∈ l, y = f z
  | [], y, h => by simp [repF] at h
  | z :: r, y, h => by
    unfold repF at h
    split at h
    · rcases List.mem_cons.1 h with rfl | h
      · exact Or.inr ⟨z, by simp, rfl⟩
      · exact Or.inl (by simp [h])
    · rcases List.mem_cons.1 h with rfl | h
      · exact Or.inl (by simp)
      · rcases repF_mem h with h | ⟨q, hq, e⟩
        · exact Or.inl (by simp [h])
        · exact Or.inr ⟨q, by simp [hq], e⟩
/-- A step leaves a term as good as it was. -/
theorem err_stp (inn : Bool) (m : Int) (n : Nat) : ∀ (t : Lm) (u : Int), 0 ≤ u → errM u m [t] = 0 → errM u m [stpT inn n t] = 0 := by
  induction n with
  | zero => intro t u _ h; exact h
  | succ n ih =>
    intro t u hu h
    obtain ⟨k, x, l⟩ := t
    rw [stpT]
    split
    · rename_i hh
      unfold hereT at hh
      simp only [Bool.and_eq_true] at hh
      obtain ⟨x', i, b, z, e, h1, h2⟩ := subs_two h hh.1
      cases e
      exact err_insT hu h2 h1
    · obtain ⟨h3, h4⟩ := err_one0.1 h
      refine err_one0.2 ⟨by rw [repF_len]; exact h3, err_all0.2 fun y hy => ?_⟩
      have hd : 0 ≤ deepK u k := by unfold deepK; split <;> omega
      rcases repF_mem hy with hy | ⟨z, hz, rfl⟩
      · exact err_all0.1 h4 y hy
      · exact ih z _ hd (err_all0.1 h4 z hz)
theorem sizeM_one (k x : Int) (l : List Lm) : sizeM [⟨k, x, l⟩] = 1 + sizeM l := by simp [sizeM]
theorem sizeM_posL (t : Lm) : 0 < sizeM [t] := by obtain ⟨k, x, l⟩ := t; rw [sizeM_one]; omega
theorem sizeM_get (l : List Lm) (i : Nat) (h : i < l.length) : sizeM [l[i]] ≤ sizeM l := by
  have h1 := sizeM_append (l.take (i + 1)) (l.drop (i + 1))
  rw [List.take_append_drop, sizeM_take l i h] at h1
  omega
theorem sizeM_set (l : List Lm) (i : Nat) (h : i < l.length) (y : Lm) : sizeM [y] ≤ sizeM (l.set i y) := by
  have h2 : i < (l.set i y).length := by simpa using h
  have := sizeM_get (l.set i y) i h2
  simpa using this
/-- What is handed over at a step: whether it is small; the term, where it is. -/
def FsOk (inn : Bool) (n : Nat) (t : Lm) (x : Lm) (ok : Bool) : Prop := (ok = true → x = stpT inn n t) ∧ (ok = false → 2000 < sizeM [stpT inn n t])
theorem FsOk.up {inn : Bool} {n : Nat} {k x : Int} {l : List Lm} {i : Nat} (h : i < l.length) (hh : hereT inn ⟨k, x, l⟩ = false) (h0 : stepM (l.take i) = false) (h1 : stepM [l[i]] = true) {y : Lm} {ok : Bool} (hf : FsOk inn n l[i] y ok) : FsOk inn (n + 1) ⟨k, x, l⟩ ⟨k, x, l.set i y⟩ ok := by
  have e : stpT inn (n + 1) ⟨k, x, l⟩ = ⟨k, x, l.set i (stpT inn n l[i])⟩ := by
    rw [stpT, if_neg (by rw [hh]; simp), repF_at _ l i h h0 h1]
  refine ⟨fun hk => by rw [e, hf.1 hk], fun hk => ?_⟩
  have := hf.2 hk
  have h3 := sizeM_set l i h (stpT inn n l[i])
  rw [e, sizeM_one]
  omega
theorem FsOk.at {inn : Bool} {n : Nat} {t : Lm} (hh : hereT inn t = true) {y : Lm} {ok : Bool} (h1 : ok = true → y = conT t.subs) (h2 : ok = false → 2000 < sizeM [conT t.subs]) : FsOk inn (n + 1) t y ok := by
  obtain ⟨k, x, l⟩ := t
  have e : stpT inn (n + 1) ⟨k, x, l⟩ = conT l := by rw [stpT, if_pos hh]
  exact ⟨fun h => by rw [e, h1 h], fun h => by rw [e]; exact h2 h⟩
end Go.Proofs.Ytaifameeoipjjaa
