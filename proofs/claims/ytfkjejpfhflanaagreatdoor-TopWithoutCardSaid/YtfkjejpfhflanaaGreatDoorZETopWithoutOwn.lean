/- Several texts in one. -/
import Derived.Test.YtfkjejpfhflanaaGreatDoorL4
import Derived.Test.YtfkjejpfhflanaaGreatDoorZBTopWithoutOwn
import Derived.Test.YtfkjejpfhflanaaGreatDoorZCTopWithoutOwn
import Derived.Ground.SlgnProg
import Derived.Shelf.SlicesE.Clone
import Derived.Deep.RegionLaw

/- Walks: a term is put in for what is bound from outside, as the document says. -/
namespace Go.Proofs.YtfkjejpfhflanaaGreatDoor
open Go.RowKit
set_option linter.unusedSimpArgs false
set_option linter.unusedVariables false
set_option maxRecDepth 8000

end Go.Proofs.YtfkjejpfhflanaaGreatDoor


/- Walks: where a lambda term can step; how often what is bound is used. -/
namespace Go.Proofs.YtfkjejpfhflanaaGreatDoor
open Go.RowKit
set_option linter.unusedSimpArgs false
set_option linter.unusedVariables false
set_option maxRecDepth 8000

theorem ret_boolM {a b : Bool} (h : a = b) : Ending.returned (.bool a) = .returned (.bool b) := by rw [h]
/-- Each knot has as many below it as its kind asks. -/
def ShM : List Lm → Prop
  | [] => True
  | ⟨k, _, l⟩ :: r => l.length = subsK k ∧ ShM l ∧ ShM r
theorem ShM_nil : ShM [] := by simp [ShM]
theorem ShM_cons (k x : Int) (l r : List Lm) : ShM (⟨k, x, l⟩ :: r) ↔ l.length = subsK k ∧ ShM l ∧ ShM r := by simp [ShM]
theorem ShM.at : ∀ {l : List Lm} (k : Nat) (h : k < l.length), ShM l → ShM [l[k]]
  | [], k, h, _ => by simp at h
  | ⟨s, x, l⟩ :: r, 0, h, hb => by
    rw [ShM_cons] at hb
    exact (ShM_cons s x l []).2 ⟨hb.1, hb.2.1, ShM_nil⟩
  | ⟨s, x, l⟩ :: r, k + 1, h, hb => by
    rw [ShM_cons] at hb
    have := ShM.at (l := r) k (by simpa using h) hb.2.2
    simpa using this
/-- Is there a step at this knot? -/
def rdxT (t : Lm) : Bool := decide (t.kind = 3) && (match t.subs with | [] => false | y :: _ => decide (y.kind = 2))
/-- Is there a step somewhere? -/
def stepM : List Lm → Bool
  | [] => false
  | ⟨k, x, l⟩ :: r => rdxT ⟨k, x, l⟩ || stepM l || stepM r
theorem stepM_append (a b : List Lm) : stepM (a ++ b) = (stepM a || stepM b) := by
  induction a with
  | nil => simp [stepM]
  | cons t r ih => obtain ⟨k, x, l⟩ := t; simp only [List.cons_append, stepM, ih, Bool.or_assoc]
theorem stepM_take (l : List Lm) (k : Nat) (h : k < l.length) : stepM (l.take (k + 1)) = (stepM (l.take k) || stepM [l[k]]) := by
  rw [List.take_succ_eq_append_getElem h, stepM_append]
theorem stepM_of {l : List Lm} {k : Nat} (h : k < l.length) (hs : stepM [l[k]] = true) : stepM l = true := by
  have h1 := stepM_append (l.take (k + 1)) (l.drop (k + 1))
  rw [List.take_append_drop, stepM_take l k h, hs] at h1
  simpa using h1
theorem stepM_one (k x : Int) (l : List Lm) : stepM [⟨k, x, l⟩] = (rdxT ⟨k, x, l⟩ || stepM l) := by simp [stepM]
/-- How often what is bound is used. -/
def usesM : Int → List Lm → Nat
  | _, [] => 0
  | i, ⟨k, x, l⟩ :: r => (if k = 1 then (if x = i then 1 else 0) else usesM (deepK i k) l) + usesM i r
theorem usesM_append (i : Int) (a b : List Lm) : usesM i (a ++ b) = usesM i a + usesM i b := by
  induction a with
  | nil => simp [usesM]
  | cons t r ih => obtain ⟨k, x, l⟩ := t; simp only [List.cons_append, usesM, ih]; omega
theorem usesM_take (i : Int) (l : List Lm) (k : Nat) (h : k < l.length) : usesM i (l.take (k + 1)) = usesM i (l.take k) + usesM i [l[k]] := by
  rw [List.take_succ_eq_append_getElem h, usesM_append]
end Go.Proofs.YtfkjejpfhflanaaGreatDoor

/- Plain: the first step of a lambda term, and what it becomes at last. -/
namespace Go.Proofs.YtfkjejpfhflanaaGreatDoor
open Go.RowKit
set_option linter.unusedSimpArgs false
set_option linter.unusedVariables false
set_option maxRecDepth 8000

/-- What an applied binder becomes. -/
def conT : List Lm → Lm
  | [⟨_, _, [b]⟩, z] => insT z 0 b
  | _ => ⟨0, 0, []⟩
/-- The first that has a step is worked on. -/
def repF (f : Lm → Lm) : List Lm → List Lm
  | [] => []
  | y :: r => if stepM [y] = true then f y :: r else y :: repF f r
/-- Is the step done at this knot? -/
def hereT (inn : Bool) (t : Lm) : Bool := rdxT t && (!inn || !stepM t.subs)
def stpT (inn : Bool) : Nat → Lm → Lm
  | 0, t => t
  | n + 1, ⟨k, x, l⟩ => if hereT inn ⟨k, x, l⟩ = true then conT l else ⟨k, x, repF (stpT inn n) l⟩
/-- What a term becomes at last: an error or none, the term, how many steps. -/
def endM (inn : Bool) : Nat → Lm → Int × Lm × Nat
  | 0, t => if stepM [t] = true then (9, t, 0) else (0, t, 0)
  | k + 1, t => if stepM [t] = true then (if 2000 < sizeM [stpT inn 2001 t] then (8, t, 0) else ((endM inn k (stpT inn 2001 t)).1, (endM inn k (stpT inn 2001 t)).2.1, (endM inn k (stpT inn 2001 t)).2.2 + 1)) else (0, t, 0)
theorem knE_zero {u m k x : Int} {n : Nat} : knE u m k x n = 0 ↔ (1 ≤ k ∧ k ≤ 5) ∧ n = subsK k ∧ 0 ≤ x ∧ x < mostK u m k := by
  unfold knE
  constructor
  · intro h
    split at h
    · cases h
    · split at h
      · cases h
      · split at h
        · cases h
        · omega
  · rintro ⟨h1, h2, h3, h4⟩
    rw [if_neg (by omega), if_neg (by omega), if_neg (by omega)]
theorem err_two0 {u m : Int} {t : Lm} {r : List Lm} : errM u m (t :: r) = 0 ↔ errM u m [t] = 0 ∧ errM u m r = 0 := by
  rw [errM_cons]
  constructor
  · intro h
    split at h
    · rename_i h1; exact ⟨h1, h⟩
    · rename_i h1; exact absurd h h1
  · rintro ⟨h1, h2⟩; rw [if_pos h1]; exact h2
theorem err_one0 {u m k x : Int} {l : List Lm} : errM u m [⟨k, x, l⟩] = 0 ↔ knE u m k x l.length = 0 ∧ errM (deepK u k) m l = 0 := by
  constructor
  · intro h
    by_cases h1 : knE u m k x l.length = 0
    · rw [errM_good h1] at h; exact ⟨h1, h⟩
    · rw [errM_bad h1] at h; exact absurd h h1
  · rintro ⟨h1, h2⟩; rw [errM_good h1]; exact h2
theorem err_all0 {u m : Int} {l : List Lm} : errM u m l = 0 ↔ ∀ t ∈ l, errM u m [t] = 0 := by
  induction l with
  | nil => simp [errM]
  | cons t r ih => rw [err_two0, ih]; simp
theorem sh_of_err (l : List Lm) : ∀ u m, errM u m l = 0 → ShM l := by
  induction l using Lm.indL with
  | h0 => intro _ _ _; exact ShM_nil
  | h k x l r ihl ihr =>
    intro u m h
    obtain ⟨h1, h2⟩ := err_two0.1 h
    obtain ⟨h3, h4⟩ := err_one0.1 h1
    exact (ShM_cons k x l r).2 ⟨(knE_zero.1 h3).2.1, ihl _ _ h4, ihr _ _ h2⟩
theorem hig_len (y d : Int) (l : List Lm) : (higM y d l).length = l.length := by rw [higM_map]; simp
theorem ins_len (z : Lm) (d : Int) (l : List Lm) : (insM z d l).length = l.length := by rw [insM_map]; simp
theorem mostK_ne {u u' m k : Int} (h : k ≠ 1) : mostK u m k = mostK u' m k := by unfold mostK; rw [if_neg h, if_neg h]
/-- What is moved is as good as before. -/
theorem err_hig (m : Int) (l : List Lm) : ∀ u c y : Int, 0 ≤ u → 0 ≤ c → 0 ≤ y → errM (u + c) m l = 0 → errM (u + c + y) m (higM y c l) = 0 := by
  induction l using Lm.indL with
  | h0 => intro u c y _ _ _ _; simp [higM, errM]
  | h k x l r ihl ihr =>
    intro u c y hu hc hy h
    obtain ⟨h1, h2⟩ := err_two0.1 h
    obtain ⟨h3, h4⟩ := err_one0.1 h1
    obtain ⟨a1, a2, a3, a4⟩ := knE_zero.1 h3
    rw [higM]
    refine err_two0.2 ⟨?_, ihr u c y hu hc hy h2⟩
    by_cases hk : k = 1
    · subst hk
      have hl : l = [] := List.length_eq_zero_iff.1 (by rw [a2]; rfl)
      subst hl
      have a5 : x < u + c := by simpa [mostK] using a4
      rw [if_pos rfl]
      split
      · exact err_one0.2 ⟨knE_zero.2 ⟨a1, a2, a3, by show x < mostK _ _ 1; simp [mostK]; omega⟩, by simp [errM]⟩
      · exact err_one0.2 ⟨knE_zero.2 ⟨by omega, rfl, by omega, by show x + y < mostK _ _ 1; simp [mostK]; omega⟩, by simp [errM]⟩
    · rw [if_neg hk]
      refine err_one0.2 ⟨knE_zero.2 ⟨a1, by rw [hig_len]; exact a2, a3, by rw [mostK_ne hk (u' := u + c)]; exact a4⟩, ?_⟩
      by_cases h2 : k = 2
      · subst h2
        have e1 : deepK (u + c + y) 2 = u + (c + 1) + y := by simp [deepK]; omega
        have e2 : deepK c 2 = c + 1 := by simp [deepK]
        have e3 : deepK (u + c) 2 = u + (c + 1) := by simp [deepK]; omega
        rw [e1, e2]
        rw [e3] at h4
        exact ihl u (c + 1) y hu (by omega) hy h4
      · have e1 : ∀ z, deepK z k = z := fun z => by simp [deepK, h2]
        rw [e1, e1]
        rw [e1] at h4
        exact ihl u c y hu hc hy h4
theorem err_higT {m u c y : Int} {t : Lm} (hu : 0 ≤ u) (hc : 0 ≤ c) (hy : 0 ≤ y) (h : errM (u + c) m [t] = 0) : errM (u + c + y) m [higT y c t] = 0 := by
  have := err_hig m [t] u c y hu hc hy h
  rw [higM_map] at this
  exact this
theorem err_ins (m : Int) (z : Lm) (l : List Lm) : ∀ u c : Int, 0 ≤ u → 0 ≤ c → errM u m [z] = 0 → errM (u + c + 1) m l = 0 → errM (u + c) m (insM z c l) = 0 := by
  induction l using Lm.indL with
  | h0 => intro u c _ _ _ _; simp [insM, errM]
  | h k x l r ihl ihr =>
    intro u c hu hc hz h
    obtain ⟨h1, h2⟩ := err_two0.1 h
    obtain ⟨h3, h4⟩ := err_one0.1 h1
    obtain ⟨a1, a2, a3, a4⟩ := knE_zero.1 h3
    rw [insM]
    refine err_two0.2 ⟨?_, ihr u c hu hc hz h2⟩
    by_cases hk : k = 1
    · subst hk
      have hl : l = [] := List.length_eq_zero_iff.1 (by rw [a2]; rfl)
      subst hl
      have a5 : x < u + c + 1 := by simpa [mostK] using a4
      rw [if_pos rfl]
      split
      · exact err_one0.2 ⟨knE_zero.2 ⟨a1, a2, a3, by show x < mostK _ _ 1; simp [mostK]; omega⟩, by simp [errM]⟩
      · split
        · have h9 := err_higT (m := m) (u := u) (c := 0) (y := c) (t := z) hu (by omega) hc (by simpa using hz)
          simpa using h9
        · exact err_one0.2 ⟨knE_zero.2 ⟨by omega, rfl, by omega, by show x - 1 < mostK _ _ 1; simp [mostK]; omega⟩, by simp [errM]⟩
    · rw [if_neg hk]
      refine err_one0.2 ⟨knE_zero.2 ⟨a1, by rw [ins_len]; exact a2, a3, by rw [mostK_ne hk (u' := u + c + 1)]; exact a4⟩, ?_⟩
      by_cases h2 : k = 2
      · subst h2
        have e1 : deepK (u + c) 2 = u + (c + 1) := by simp [deepK]; omega
        have e2 : deepK c 2 = c + 1 := by simp [deepK]
        have e3 : deepK (u + c + 1) 2 = u + (c + 1) + 1 := by simp [deepK]; omega
        rw [e1, e2]
        rw [e3] at h4
        exact ihl u (c + 1) hu (by omega) hz h4
      · have e1 : ∀ z, deepK z k = z := fun z => by simp [deepK, h2]
        rw [e1, e1]
        rw [e1] at h4
        exact ihl u c hu hc hz h4
theorem err_insT {m u : Int} {z t : Lm} (hu : 0 ≤ u) (hz : errM u m [z] = 0) (h : errM (u + 1) m [t] = 0) : errM u m [insT z 0 t] = 0 := by
  have := err_ins m z [t] u 0 hu (by omega) hz (by simpa using h)
  rw [insM_map] at this
  simpa using this
theorem subs_two {t : Lm} {u m : Int} (he : errM u m [t] = 0) (hr : rdxT t = true) : ∃ x i b z, t = ⟨3, x, [⟨2, i, [b]⟩, z]⟩ ∧ errM (u + 1) m [b] = 0 ∧ errM u m [z] = 0 := by
  obtain ⟨k, x, l⟩ := t
  obtain ⟨h3, h4⟩ := err_one0.1 he
  obtain ⟨a1, a2, a3, a4⟩ := knE_zero.1 h3
  unfold rdxT at hr
  simp only [Bool.and_eq_true, decide_eq_true_eq] at hr
  obtain ⟨rfl, hr⟩ := hr
  have a5 : l.length = 2 := by rw [a2]; rfl
  match l, a5 with
  | [⟨k1, i, lb⟩, z], _ =>
    simp only [decide_eq_true_eq] at hr
    subst hr
    have e1 : deepK u 3 = u := by simp [deepK]
    rw [e1] at h4
    obtain ⟨h5, h6⟩ := err_two0.1 h4
    obtain ⟨h7, h8⟩ := err_one0.1 h5
    obtain ⟨b1, b2, b3, b4⟩ := knE_zero.1 h7
    have b5 : lb.length = 1 := by rw [b2]; rfl
    match lb, b5 with
    | [b], _ =>
      have e2 : deepK u 2 = u + 1 := by simp [deepK]
      rw [e2] at h8
      exact ⟨x, i, b, z, rfl, h8, h6⟩
theorem repF_len (f : Lm → Lm) : ∀ l : List Lm, (repF f l).length = l.length
  | [] => rfl
  | y :: r => by
    unfold repF
    split
    · rfl
    · simp [repF_len f r]
/-- What it is, where the first that has a step is the i-th. -/
theorem repF_at (f : Lm → Lm) : ∀ (l : List Lm) (i : Nat) (h : i < l.length), stepM (l.take i) = false → stepM [l[i]] = true → repF f l = l.set i (f l[i])
  | y :: r, 0, h, _, hs => by
    have hs' : stepM [y] = true := hs
    unfold repF
    rw [if_pos hs']; rfl
  | y :: r, i + 1, h, h0, hs => by
    have e : stepM (y :: r.take i) = (stepM [y] || stepM (r.take i)) := stepM_append [y] (r.take i)
    rw [List.take_succ_cons, e, Bool.or_eq_false_iff] at h0
    unfold repF
    rw [if_neg (by rw [h0.1]; simp), repF_at f r i (by simpa using h) h0.2 (by simpa using hs)]
    rfl
theorem repF_mem {f : Lm → Lm} : ∀ {l : List Lm} {y : Lm}, y ∈ repF f l → y ∈ l ∨ ∃ z ∈ l, y = f z
  | [], y, h => by simp [repF] at h
  | z :: r, y, h => by
    unfold repF at h
    split at h
    · rcases List.mem_cons.1 h with rfl | h
      · exact Or.inr ⟨z, by simp, rfl⟩
      · exact Or.inl (by simp [h])
    · rcases List.mem_cons.1 h with rfl | h
      · exact Or.inl (by simp)
      · rcases repF_mem h with h | ⟨q, hq, e⟩
        · exact Or.inl (by simp [h])
        · exact Or.inr ⟨q, by simp [hq], e⟩
/-- A step leaves a term as good as it was. -/
theorem err_stp (inn : Bool) (m : Int) (n : Nat) : ∀ (t : Lm) (u : Int), 0 ≤ u → errM u m [t] = 0 → errM u m [stpT inn n t] = 0 := by
  induction n with
  | zero => intro t u _ h; exact h
  | succ n ih =>
    intro t u hu h
    obtain ⟨k, x, l⟩ := t
    rw [stpT]
    split
    · rename_i hh
      unfold hereT at hh
      simp only [Bool.and_eq_true] at hh
      obtain ⟨x', i, b, z, e, h1, h2⟩ := subs_two h hh.1
      cases e
      exact err_insT hu h2 h1
    · obtain ⟨h3, h4⟩ := err_one0.1 h
      refine err_one0.2 ⟨by rw [repF_len]; exact h3, err_all0.2 fun y hy => ?_⟩
      have hd : 0 ≤ deepK u k := by unfold deepK; split <;> omega
      rcases repF_mem hy with hy | ⟨z, hz, rfl⟩
      · exact err_all0.1 h4 y hy
      · exact ih z _ hd (err_all0.1 h4 z hz)
theorem sizeM_one (k x : Int) (l : List Lm) : sizeM [⟨k, x, l⟩] = 1 + sizeM l := by simp [sizeM]
theorem sizeM_posL (t : Lm) : 0 < sizeM [t] := by obtain ⟨k, x, l⟩ := t; rw [sizeM_one]; omega
theorem sizeM_get (l : List Lm) (i : Nat) (h : i < l.length) : sizeM [l[i]] ≤ sizeM l := by
  have h1 := sizeM_append (l.take (i + 1)) (l.drop (i + 1))
  rw [List.take_append_drop, sizeM_take l i h] at h1
  omega
theorem sizeM_set (l : List Lm) (i : Nat) (h : i < l.length) (y : Lm) : sizeM [y] ≤ sizeM (l.set i y) := by
  have h2 : i < (l.set i y).length := by simpa using h
  have := sizeM_get (l.set i y) i h2
  simpa using this
/-- What is handed over at a step: whether it is small; the term, where it is. -/
def FsOk (inn : Bool) (n : Nat) (t : Lm) (x : Lm) (ok : Bool) : Prop := (ok = true → x = stpT inn n t) ∧ (ok = false → 2000 < sizeM [stpT inn n t])
theorem FsOk.up {inn : Bool} {n : Nat} {k x : Int} {l : List Lm} {i : Nat} (h : i < l.length) (hh : hereT inn ⟨k, x, l⟩ = false) (h0 : stepM (l.take i) = false) (h1 : stepM [l[i]] = true) {y : Lm} {ok : Bool} (hf : FsOk inn n l[i] y ok) : FsOk inn (n + 1) ⟨k, x, l⟩ ⟨k, x, l.set i y⟩ ok := by
  have e : stpT inn (n + 1) ⟨k, x, l⟩ = ⟨k, x, l.set i (stpT inn n l[i])⟩ := by
    rw [stpT, if_neg (by rw [hh]; simp), repF_at _ l i h h0 h1]
  refine ⟨fun hk => by rw [e, hf.1 hk], fun hk => ?_⟩
  have := hf.2 hk
  have h3 := sizeM_set l i h (stpT inn n l[i])
  rw [e, sizeM_one]
  omega
theorem FsOk.at {inn : Bool} {n : Nat} {t : Lm} (hh : hereT inn t = true) {y : Lm} {ok : Bool} (h1 : ok = true → y = conT t.subs) (h2 : ok = false → 2000 < sizeM [conT t.subs]) : FsOk inn (n + 1) t y ok := by
  obtain ⟨k, x, l⟩ := t
  have e : stpT inn (n + 1) ⟨k, x, l⟩ = conT l := by rw [stpT, if_pos hh]
  exact ⟨fun h => by rw [e, h1 h], fun h => by rw [e]; exact h2 h⟩
end Go.Proofs.YtfkjejpfhflanaaGreatDoor

/- Lambda terms: the library's Clone at their rows; one who takes the first step that he is handed. -/
namespace Go.Proofs.YtfkjejpfhflanaaGreatDoor
open Go.RowKit Go.Shelf
set_option linter.unusedSimpArgs false
set_option linter.unusedVariables false
set_option maxRecDepth 8000

def clm_ren : Go.Shelf.Ren := ⟨fun | 41 => 97 | n => n, fun | 22 => 23 | 23 => 25 | 4 => 4 | n => n, fun | n => n⟩
theorem clm_lays : Go.Proofs.SlLaysE0.n41 Tryz.prog clm_ren := {
  mixed := by kernel_rfl
  f41 := ⟨Tryz.f97.name, by decide, Tryz.func97.trans (congrArg some (by kernel_rfl))⟩
  t4 := Tryz.underlying4
  a4 := Tryz.isAgg4
  z4 := Tryz.sizeOf4
  v4 := Tryz.zeroValue4
  t22 := Tryz.underlying23
  a22 := Tryz.isAgg23
  z22 := Tryz.sizeOf23
  v22 := Tryz.zeroValue23 }
/-- A row of lambda terms cloned: its cells lie in memory of the call's own. -/
theorem cloneM_any (b off n c : Nat) (news : List Value) (w : World) (hl : news.length = n * 3) (hn : n ≤ 1000000) (hc : ∀ j u, news[j]? = some u → w.cell? ⟨b, off + j, none⟩ = some u) (h1 : ∀ u ∈ news, u.oneCell' = true) :
    Calls Tryz.prog 97 #[.slice (some ⟨b, off, none⟩) n c] w fun e w' => ∃ v', e = .returned v' ∧ w'.ownsRow w.heap.size 25 3 v' n news ∧ v' ≠ .slice none 0 0 ∧ Below w.heap.size w w' := by
  obtain ⟨i0, hi, hz0, hz1, hz2⟩ := info_parts Tryz.infoLam
  exact AnyE.slices_Clone clm_lays i0 _ 3 40 hi hz0 hz1 hz2 rfl (by decide) Tryz.sizeOf25 b off n c news w hl (by unfold maxLen; omega) (by omega) hc h1
theorem rowTM_of_lies {w : World} {X : Nat → Prop} : ∀ (l : List Lm) (b o : Nat), LiesM w X b o l → ∃ xs, RowTM w X l xs ∧ ∀ j u, xs[j]? = some u → w.cell? ⟨b, o + j, none⟩ = some u := by
  intro l
  induction l with
  | nil => intro b o _; exact ⟨[], rfl, by simp⟩
  | cons t r ih =>
    intro b o h
    obtain ⟨s, x, k⟩ := t
    simp only [LiesM] at h
    obtain ⟨hx, h1, h1', ⟨a, c, h2, h3, h4⟩, h5⟩ := h
    obtain ⟨xs, hr, hc⟩ := ih b (o + 3) h5
    refine ⟨.int .i64 s :: .int .i64 x :: .slice a k.length c :: xs, ⟨a, c, xs, rfl, ⟨h3, h4⟩, hr⟩, fun j u hj => ?_⟩
    match j, hj with
    | 0, hj => simp at hj; subst hj; exact h1
    | 1, hj => simp at hj; subst hj; exact h1'
    | 2, hj => simp at hj; subst hj; exact h2
    | j + 3, hj => rw [show o + (j + 3) = o + 3 + j by omega]; exact hc j u (by simpa using hj)
theorem RowTM.one {w : World} {X : Nat → Prop} : ∀ {l : List Lm} {xs : List Value}, RowTM w X l xs → ∀ u ∈ xs, u.oneCell' = true
  | [], xs, h, u, hu => by simp [RowTM] at h; subst h; cases hu
  | t :: l, xs, h, u, hu => by
    obtain ⟨a, c, r, rfl, _, h⟩ := h
    rcases List.mem_cons.1 hu with e | hu
    · subst e; rfl
    · rcases List.mem_cons.1 hu with e | hu
      · subst e; rfl
      · rcases List.mem_cons.1 hu with e | hu
        · subst e; rfl
        · exact RowTM.one h u hu
theorem RowTM.put {w : World} {X : Nat → Prop} {y : Lm} {a : Option Addr} {c : Nat} (hy : SlM w X a y.subs) : ∀ {l : List Lm} {xs : List Value} (k : Nat), RowTM w X l xs → k < l.length → RowTM w X (l.set k y) (((xs.set (k * 3) (.int .i64 y.kind)).set (k * 3 + 1) (.int .i64 y.idx)).set (k * 3 + 2) (.slice a y.subs.length c))
  | [], xs, k, h, hk => by simp at hk
  | t :: l, xs, 0, h, _ => by
    obtain ⟨a', c', r, rfl, h1, h2⟩ := h
    exact ⟨a, c, r, by simp, hy, h2⟩
  | t :: l, xs, k + 1, h, hk => by
    obtain ⟨a', c', r, rfl, h1, h2⟩ := h
    refine ⟨a', c', ((r.set (k * 3) (.int .i64 y.kind)).set (k * 3 + 1) (.int .i64 y.idx)).set (k * 3 + 2) (.slice a y.subs.length c), ?_, h1, RowTM.put hy k h2 (by simpa using hk)⟩
    have e : (k + 1) * 3 = k * 3 + 1 + 1 + 1 := by omega
    have e2 : (k + 1) * 3 + 1 = k * 3 + 1 + 1 + 1 + 1 := by omega
    have e3 : (k + 1) * 3 + 2 = k * 3 + 2 + 1 + 1 + 1 := by omega
    rw [e3, e2, e]
    simp
theorem set3_keep {w : World} {b i O : Nat} {v u u' u'' : Value} (h : w.cell? ⟨b, i, none⟩ = some v) (hn : b ≠ O) : (((w.setCell ⟨O, 0, none⟩ u).setCell ⟨O, 1, none⟩ u').setCell ⟨O, 2, none⟩ u'').cell? ⟨b, i, none⟩ = some v := by
  refine cell_sameM ?_ h
  rw [Below.heap_setCell _ _ _ _ (by simpa using hn), Below.heap_setCell _ _ _ _ (by simpa using hn), Below.heap_setCell _ _ _ _ (by simpa using hn)]
theorem owns_monoM {w : World} {N M e z n : Nat} {v : Value} {xs : List Value} (h : w.ownsRow N e z v n xs) (hM : M ≤ N) : w.ownsRow M e z v n xs :=
  ⟨h.1, h.2.imp id fun ⟨g, cap, cur, h1, h2, h3⟩ => ⟨g, cap, cur, h1, Nat.le_trans hM h2, h3⟩⟩
theorem ownsRow_put3 {w : World} {N e z n G cap O : Nat} {u u' u'' : Value} {xs : List Value} (h : w.ownsRow N e z (.slice (some ⟨G, 0, none⟩) n cap) n xs) (hO : O ≠ G) : (((w.setCell ⟨O, 0, none⟩ u).setCell ⟨O, 1, none⟩ u').setCell ⟨O, 2, none⟩ u'').ownsRow N e z (.slice (some ⟨G, 0, none⟩) n cap) n xs := by
  obtain ⟨hl, h1⟩ := h
  refine ⟨hl, ?_⟩
  rcases h1 with h1 | ⟨g, cap', cur, hv, hg, hh, hr⟩
  · exact Or.inl h1
  · refine Or.inr ⟨g, cap', cur, hv, hg, ?_, hr⟩
    have e : g = G := by simp at hv; exact hv.1.symm
    rw [Below.heap_setCell _ _ _ _ (by simp; omega), Below.heap_setCell _ _ _ _ (by simp; omega), Below.heap_setCell _ _ _ _ (by simp; omega)]
    exact hh
/-- What has been laid. -/
def KpL (W : World) (N : Nat) (k x : Int) (n : Nat) (xs : List Value) (o8 : Value) (wc : World) : Prop :=
  ∃ G O cap : Nat, o8 = .pointer (some ⟨O, 0, none⟩) ∧ N ≤ G ∧ N ≤ O ∧ G ≠ O ∧ Blk wc O #[.int .i64 k, .int .i64 x, .slice (some ⟨G, 0, none⟩) n cap] 25 ∧ wc.ownsRow N 25 3 (.slice (some ⟨G, 0, none⟩) n cap) n xs ∧ Below N W wc
theorem kpL_last {W w1 : World} {N n G cap : Nat} {k x : Int} {xs : List Value} (hN : W.heap.size = N) (hown : w1.ownsRow N 25 3 (.slice (some ⟨G, 0, none⟩) n cap) n xs) (hb : Below N W w1) :
    KpL W N k x n xs (.pointer (some ⟨w1.heap.size, 0, none⟩)) (w1.alloc (.cells #[.int .i64 k, .int .i64 x, .slice (some ⟨G, 0, none⟩) n cap] 25)) := by
  have hl := hown.lt G rfl
  have hs := hb.size
  exact ⟨G, w1.heap.size, cap, rfl, hl.1, by omega, by omega, Blk.new _ _ _, hown.alloc _, hb.alloc (by omega) _⟩
theorem kpL_first {W w1 : World} {N n G cap O : Nat} {k x : Int} {xs : List Value} (hO : N ≤ O) (hB : Blk w1 O #[.int .i64 0, .int .i64 0, .slice none 0 0] 25) (hGO : O < G) (hown : w1.ownsRow N 25 3 (.slice (some ⟨G, 0, none⟩) n cap) n xs) (hb : Below N W w1) :
    KpL W N k x n xs (.pointer (some ⟨O, 0, none⟩)) (((w1.setCell ⟨O, 0, none⟩ (.int .i64 k)).setCell ⟨O, 1, none⟩ (.int .i64 x)).setCell ⟨O, 2, none⟩ (.slice (some ⟨G, 0, none⟩) n cap)) := by
  have hl := hown.lt G rfl
  refine ⟨G, O, cap, rfl, hl.1, hO, by omega, ?_, ownsRow_put3 hown (by omega), ((hb.setCell (by simpa using hO) _).setCell (by simpa using hO) _).setCell (by simpa using hO) _⟩
  have := ((hB.set 0 (.int .i64 k)).set 1 (.int .i64 x)).set 2 (.slice (some ⟨G, 0, none⟩) n cap)
  simpa using this
/-- A row with another at a place. -/
theorem kputM_fin {wc : World} {X : Nat → Prop} {l : List Lm} {k G T : Nat} {xs : List Value} {cur : Array Value} {a9 : Option Addr} {c9 : Nat} {y : Lm} (hXG : ∀ b, X b → b ≠ G) (hk : k < l.length) (hl : l.length ≤ 9223372036854775807) (hrt : RowTM wc X l xs) (hcx : cur.toList.take (l.length * 3) = xs) (GB : Blk wc G cur T) (ht : SlM wc X a9 y.subs) :
    SlM (((wc.setCell ⟨G, k * 3, none⟩ (.int .i64 y.kind)).setCell ⟨G, k * 3 + 1, none⟩ (.int .i64 y.idx)).setCell ⟨G, k * 3 + 2, none⟩ (.slice a9 y.subs.length c9)) (fun b => X b ∨ b = G) (some ⟨G, 0, none⟩) (l.set k y) := by
  have keep : ∀ b, b ≠ G → (((wc.setCell ⟨G, k * 3, none⟩ (.int .i64 y.kind)).setCell ⟨G, k * 3 + 1, none⟩ (.int .i64 y.idx)).setCell ⟨G, k * 3 + 2, none⟩ (.slice a9 y.subs.length c9)).heap[b]? = wc.heap[b]? := fun b h1 => by
    rw [Below.heap_setCell _ _ _ _ (by simpa using h1), Below.heap_setCell _ _ _ _ (by simpa using h1), Below.heap_setCell _ _ _ _ (by simpa using h1)]
  generalize hwF : (((wc.setCell ⟨G, k * 3, none⟩ (.int .i64 y.kind)).setCell ⟨G, k * 3 + 1, none⟩ (.int .i64 y.idx)).setCell ⟨G, k * 3 + 2, none⟩ (.slice a9 y.subs.length c9)) = wF at *
  have h1 : RowTM wF (fun b => X b ∨ b = G) l xs := hrt.imp fun a kk hs => (hs.kept fun b hb2 => keep b (hXG b hb2)).mono fun b hb2 _ => Or.inl hb2
  have h2 : SlM wF (fun b => X b ∨ b = G) a9 y.subs := (ht.kept fun b hb2 => keep b (hXG b hb2)).mono fun b hb2 _ => Or.inl hb2
  have h3 := RowTM.put (c := c9) h2 k h1 hk
  have hBF : Blk wF G (((cur.setIfInBounds (k * 3) (.int .i64 y.kind)).setIfInBounds (k * 3 + 1) (.int .i64 y.idx)).setIfInBounds (k * 3 + 2) (.slice a9 y.subs.length c9)) T := by
    rw [← hwF]
    exact ((GB.set (k * 3) (.int .i64 y.kind)).set (k * 3 + 1) (.int .i64 y.idx)).set (k * 3 + 2) (.slice a9 y.subs.length c9)
  refine ⟨by simpa using hl, Or.inr ⟨G, 0, rfl, liesM_of_row G (Or.inr rfl) _ _ 0 h3 (fun _ _ h => h) fun j u hj => ?_⟩⟩
  rw [Nat.zero_add]
  refine (hBF.cell j).trans ?_
  rw [← hcx, ← List.take_set, ← List.take_set, ← List.take_set, List.getElem?_take] at hj
  split at hj
  · rw [← Array.getElem?_toList]
    simpa using hj
  · cases hj

/-- One who takes is called. -/
def TkAt (y v : Value) (ok : Bool) (W : World) (Post : Ending → World → Prop) : Prop :=
  (∃ T I Y : Nat, y = .func (.func 96) #[] #[.pointer (some ⟨T, 0, none⟩), .pointer (some ⟨I, 0, none⟩), .pointer (some ⟨Y, 0, none⟩)] ∧ Calls Tryz.prog 96 #[v, .bool ok, .pointer (some ⟨T, 0, none⟩), .pointer (some ⟨I, 0, none⟩), .pointer (some ⟨Y, 0, none⟩)] W Post) ∨
  (∃ lp : Nat, y = .func (.yield lp) #[] #[] ∧ ∀ n, YieldAt Fence.wide n Tryz.prog lp #[v, .bool ok] W Post)
/-- He wants just the first that he is handed; it lies in blocks that P lets. -/
def StopAt (y : Value) (P : Nat → Prop) (J : World → Prop) (S : Lm → Bool → World → Prop) : Prop :=
  ∀ (W : World) (v : Value) (x : Lm) (ok : Bool) (Z : Nat → Prop), J W → MV W Z v x → (∀ b, Z b → b < W.heap.size ∧ P b) → TkAt y v ok W fun e W' => e = .returned (.bool false) ∧ S x ok W'
def StopTk (y : Value) (P : Nat → Prop) (J : World → Prop) (S : Lm → Bool → World → Prop) : Prop :=
  (∃ T I Y : Nat, y = .func (.func 96) #[] #[.pointer (some ⟨T, 0, none⟩), .pointer (some ⟨I, 0, none⟩), .pointer (some ⟨Y, 0, none⟩)] ∧
    ∀ (W : World) (v : Value) (x : Lm) (ok : Bool) (Z : Nat → Prop), J W → MV W Z v x → (∀ b, Z b → b < W.heap.size ∧ P b) → Calls Tryz.prog 96 #[v, .bool ok, .pointer (some ⟨T, 0, none⟩), .pointer (some ⟨I, 0, none⟩), .pointer (some ⟨Y, 0, none⟩)] W fun e W' => e = .returned (.bool false) ∧ S x ok W') ∨
  (∃ lp : Nat, y = .func (.yield lp) #[] #[] ∧
    ∀ (W : World) (v : Value) (x : Lm) (ok : Bool) (Z : Nat → Prop), J W → MV W Z v x → (∀ b, Z b → b < W.heap.size ∧ P b) → ∀ n, YieldAt Fence.wide n Tryz.prog lp #[v, .bool ok] W fun e W' => e = .returned (.bool false) ∧ S x ok W')
theorem StopTk.at {y : Value} {P : Nat → Prop} {J : World → Prop} {S : Lm → Bool → World → Prop} (h : StopTk y P J S) : StopAt y P J S := by
  intro W v x ok Z h1 h2 h3
  rcases h with ⟨T, I, Y, e, h⟩ | ⟨lp, e, h⟩
  · exact Or.inl ⟨T, I, Y, e, h W v x ok Z h1 h2 h3⟩
  · exact Or.inr ⟨lp, e, h W v x ok Z h1 h2 h3⟩
def StayJ (J : World → Prop) : Prop := ∀ W W' : World, J W → Below W.heap.size W W' → J W'
/-- What the closure has around it. -/
structure BeS (t : Lm) (a : Option Addr) (c T I Y k : Nat) (y : Value) (X : Nat → Prop) (W : World) : Prop where
  bt : Blk W T #[.int .i64 t.kind, .int .i64 t.idx, .slice a t.subs.length c] 25
  bi : Blk W I #[.int .i64 (k : Int)] 3
  by' : Blk W Y #[y] 82
  sl : SlM W X a t.subs
theorem BeS.later {t : Lm} {a : Option Addr} {c T I Y k : Nat} {y : Value} {X : Nat → Prop} {W W' : World} (h : BeS t a c T I Y k y X W) (hb : Below W.heap.size W W') : BeS t a c T I Y k y X W' :=
  ⟨h.bt.below hb h.bt.lt, h.bi.below hb h.bi.lt, h.by'.below hb h.by'.lt, h.sl.later hb⟩
end Go.Proofs.YtfkjejpfhflanaaGreatDoor

/- Plain: all the steps of a lambda term, as they are handed over; one who takes them all. -/
namespace Go.Proofs.YtfkjejpfhflanaaGreatDoor
open Go.RowKit Go.Shelf
set_option linter.unusedSimpArgs false
set_option linter.unusedVariables false
set_option maxRecDepth 8000

/-- What is handed over: a term, whether it is small; the step itself. -/
abbrev Hnd := Lm × Bool × Lm
def wrpT (k x : Int) (l : List Lm) (i : Nat) (p : Hnd) : Hnd := (⟨k, x, l.set i p.1⟩, p.2.1, ⟨k, x, l.set i p.2.2⟩)
/-- What comes of one that he is handed. -/
def GoPost (J : Tk Hnd) (pre : List Hnd) (p : Hnd) (f : Nat → Prop) (W : World) (e : Ending) (W' : World) : Prop :=
  ∃ s, e = .returned (.bool s) ∧ ∃ f', J (pre ++ [p]) s f' W' ∧ ExQ f W W' ∧ ∀ b, f' b → f b ∨ W.heap.size ≤ b
theorem TkOk.later {α : Type} {J : Tk α} {K : Nat → Prop} (h : TkOk J K) {pre : List α} {s : Bool} {f : Nat → Prop} {W W' : World} (hj : J pre s f W) (hb : Below W.heap.size W W') : J pre s f W' :=
  h.abide hj hb.size fun b hb' => hb.block b (h.inside hj b hb')
theorem SlM.exq {w w' : World} {Q X : Nat → Prop} {a : Option Addr} {l : List Lm} (h : SlM w X a l) (he : ExQ Q w w') (hX : ∀ b, X b → ¬ Q b) : SlM w' X a l :=
  ((h.mono (Y := fun b => X b ∧ b < w.heap.size) fun b h1 h2 => ⟨h1, h2⟩).kept fun b hb => he.block b hb.2 (hX b hb.1)).mono fun b hb _ => hb.1
/-- What the closure keeps, beside what the one who takes keeps. -/
def JC (J : Tk Hnd) (pre0 : List Hnd) (k xi : Int) (l : List Lm) (a : Option Addr) (c T I Y q : Nat) (y : Value) (X : Nat → Prop) : Tk Hnd := fun pre s f W =>
  J (pre0 ++ pre.map (wrpT k xi l q)) s f W ∧ BeS ⟨k, xi, l⟩ a c T I Y q y X W ∧ ¬ f T ∧ ¬ f I ∧ ¬ f Y
def KC (K : Nat → Prop) (T I Y : Nat) (b : Nat) : Prop := K b ∨ b = T ∨ b = I ∨ b = Y
theorem JC.ok {J : Tk Hnd} {K : Nat → Prop} (hJ : TkOk J K) {pre0 : List Hnd} {k xi : Int} {l : List Lm} {a : Option Addr} {c T I Y q : Nat} {y : Value} {X : Nat → Prop} (hX : ∀ b, X b → K b) : TkOk (JC J pre0 k xi l a c T I Y q y X) (KC K T I Y) where
  inside := by
    rintro pre s f W ⟨h1, h2, _⟩ b hb
    rcases hb with hb | hb | rfl | rfl | rfl
    · exact hJ.inside h1 b (Or.inl hb)
    · exact hJ.inside h1 b (Or.inr hb)
    · exact h2.bt.lt
    · exact h2.bi.lt
    · exact h2.by'.lt
  apart := by
    rintro pre s f W ⟨h1, h2, hT, hI, hY⟩ b hb
    rcases hb with hb | rfl | rfl | rfl
    · exact hJ.apart h1 b hb
    · exact hT
    · exact hI
    · exact hY
  abide := by
    rintro pre s f W W' ⟨h1, h2, hT, hI, hY⟩ hs hk
    refine ⟨hJ.abide h1 hs fun b hb => hk b (hb.imp id Or.inl), ⟨?_, ?_, ?_, ?_⟩, hT, hI, hY⟩
    · exact (hk T (Or.inr (Or.inr (Or.inl rfl)))).trans h2.bt
    · exact (hk I (Or.inr (Or.inr (Or.inr (Or.inl rfl))))).trans h2.bi
    · exact (hk Y (Or.inr (Or.inr (Or.inr (Or.inr rfl))))).trans h2.by'
    · exact h2.sl.kept fun b hb => hk b (Or.inr (Or.inl (hX b hb)))
theorem JC.post {J : Tk Hnd} {K : Nat → Prop} (hJ : TkOk J K) {pre0 pre : List Hnd} {p : Hnd} {k xi : Int} {l : List Lm} {a : Option Addr} {c T I Y q : Nat} {y : Value} {X f : Nat → Prop} (hX : ∀ b, X b → K b) {W W1 W' : World} {e : Ending} (h0 : JC J pre0 k xi l a c T I Y q y X pre true f W) (hb : Below W.heap.size W W1) (h : GoPost J (pre0 ++ pre.map (wrpT k xi l q)) (wrpT k xi l q p) f W1 e W') : GoPost (JC J pre0 k xi l a c T I Y q y X) pre p f W e W' := by
  obtain ⟨s, rfl, f', hj, he, hf⟩ := h
  obtain ⟨h1, h2, hT, hI, hY⟩ := h0
  have hz := hb.size
  have h2' := h2.later hb
  have lT := h2.bt.lt
  have lI := h2.bi.lt
  have lY := h2.by'.lt
  refine ⟨s, rfl, f', ⟨by rw [List.map_append, ← List.append_assoc]; exact hj, ⟨h2'.bt.exq he hT, h2'.bi.exq he hI, h2'.by'.exq he hY, h2'.sl.exq he fun b hb' => hJ.apart h1 b (hX b hb')⟩, fun h => ?_, fun h => ?_, fun h => ?_⟩, (ExQ.ofBelow hb).transN he fun b hb' _ => hb', fun b hb' => (hf b hb').imp id fun h => by omega⟩
  · rcases hf _ h with h | h
    · exact hT h
    · omega
  · rcases hf _ h with h | h
    · exact hI h
    · omega
  · rcases hf _ h with h | h
    · exact hY h
    · omega
end Go.Proofs.YtfkjejpfhflanaaGreatDoor

/- Walks: lambda terms made, counted: what stands beside a row; knots for what is bound from outside. -/
namespace Go.Proofs.YtfkjejpfhflanaaGreatDoor
open Go.RowKit
set_option linter.unusedSimpArgs false
set_option linter.unusedVariables false
set_option maxRecDepth 8000

/-- What is bound has nothing below it. -/
def LfM : List Lm → Prop
  | [] => True
  | ⟨k, _, l⟩ :: r => (k = 1 → l = []) ∧ LfM l ∧ LfM r
theorem LfM_nil : LfM [] := by simp [LfM]
theorem LfM_cons (k x : Int) (l r : List Lm) : LfM (⟨k, x, l⟩ :: r) ↔ (k = 1 → l = []) ∧ LfM l ∧ LfM r := by simp [LfM]
theorem LfM.at : ∀ {l : List Lm} (k : Nat) (h : k < l.length), LfM l → LfM [l[k]]
  | [], k, h, _ => by simp at h
  | ⟨s, x, l⟩ :: r, 0, h, hb => by
    rw [LfM_cons] at hb
    exact (LfM_cons s x l []).2 ⟨hb.1, hb.2.1, LfM_nil⟩
  | ⟨s, x, l⟩ :: r, k + 1, h, hb => by
    rw [LfM_cons] at hb
    have := LfM.at (l := r) k (by simpa using h) hb.2.2
    simpa using this
theorem lf_of_err : ∀ (l : List Lm) (u m : Int), errM u m l = 0 → LfM l := by
  intro l
  induction l using Lm.indL with
  | h0 => intros; exact LfM_nil
  | h k x l r ihl ihr =>
    intro u m he
    rw [errM] at he
    split at he
    · rename_i h1
      split at he
      · rename_i h2
        refine (LfM_cons k x l r).2 ⟨fun hk => ?_, ihl (deepK u k) m h2, ihr u m he⟩
        subst hk
        unfold knE at h1
        split at h1
        · cases h1
        · split at h1
          · cases h1
          · rename_i h3
            exact List.length_eq_zero_iff.1 (by simpa [subsK] using h3)
      · rename_i h2; exact absurd he h2
    · rename_i h1; exact absurd he h1

/-- What a counted making of a lambda term gives: all of it, if it is not too great; else the count is below nought. -/
def MkPost (w : World) (F : Nat) (t : Lm) (n : Nat) (e : Ending) (w' : World) : Prop :=
  ∃ (k' x' : Int) (a' : Option Addr) (l' c' : Nat) (m : Int), e = .returned (.agg #[.int .i64 k', .int .i64 x', .slice a' l' c']) ∧ Blk w' F #[.int .i64 m] 109 ∧ Ex F w w' ∧ (sizeM [t] ≤ n → m = (n : Int) - sizeM [t] ∧ k' = t.kind ∧ x' = t.idx ∧ l' = t.subs.length ∧ SlM w' (fun b => w.heap.size ≤ b) a' t.subs) ∧ (n < sizeM [t] → m = -1)

theorem SlM.ex {w w' : World} {F : Nat} {X : Nat → Prop} {a : Option Addr} {l : List Lm} (h : SlM w X a l) (he : Ex F w w') (hX : ∀ b, X b → b ≠ F) : SlM w' X a l :=
  ((h.mono (Y := fun b => X b ∧ b < w.heap.size) fun b h1 h2 => ⟨h1, h2⟩).kept fun b hb => he.block b hb.2 (hX b hb.1)).mono fun b hb _ => hb.1
theorem RowM.ex {w w' : World} {B N T : Nat} {Y : Nat → Prop} {v : Value} {l : List Lm} {xs : List Value} (h : RowM w N T Y v l xs) (he : Ex B w w') (hB : B < N) (hY : ¬ Y B) : RowM w' N T Y v l xs :=
  ⟨h.own.kept (w' := w') (row := some B) ⟨he.os, he.tape, he.output, he.size, fun j hj hn => he.block j hj (fun e => hn (by rw [e]))⟩ (Or.inr (fun e => by have := (h.own.lt B e).1; omega)),
   h.row.imp fun a l hs => ((hs.mono (Y := fun b => (Y b ∨ (N ≤ b ∧ some b ≠ v.ownBlock)) ∧ b < w.heap.size) fun b h1 h2 => ⟨h1, h2⟩).kept fun b hb => he.block b hb.2 (fun e => by
     rcases hb.1 with h1 | h1
     · rw [e] at h1; exact hY h1
     · omega)).mono fun b hb _ => hb.1⟩

theorem mk_end {w W w9 : World} {F R : Nat} {t : Lm} {n : Nat} {k' x' : Int} {a' : Option Addr} {l' c' : Nat} {m : Int} {v0 v1 v2 : Value} (hF : F < w.heap.size) (hR : w.heap.size ≤ R) (hW : R < W.heap.size) (h1 : Blk w9 F #[.int .i64 m] 109) (hx : Ex F w w9) (hy : sizeM [t] ≤ n → m = (n : Int) - sizeM [t] ∧ k' = t.kind ∧ x' = t.idx ∧ l' = t.subs.length ∧ SlM w9 (fun b => W.heap.size ≤ b) a' t.subs) (hn : n < sizeM [t] → m = -1) :
    MkPost w F t n (.returned (.agg #[.int .i64 k', .int .i64 x', .slice a' l' c'])) (((w9.setCell ⟨R, 0, none⟩ v0).setCell ⟨R, 1, none⟩ v1).setCell ⟨R, 2, none⟩ v2) := by
  refine ⟨k', x', a', l', c', m, rfl, ((h1.setOther _ _ (by omega)).setOther _ _ (by omega)).setOther _ _ (by omega), ((hx.setNew (by omega) _ _).setNew (by omega) _ _).setNew (by omega) _ _, fun h => ?_, hn⟩
  obtain ⟨e1, e2, e3, e4, e5⟩ := hy h
  refine ⟨e1, e2, e3, e4, (e5.kept fun b hb => ?_).mono fun b hb _ => by omega⟩
  rw [Below.heap_setCell _ _ _ _ (by simp; omega), Below.heap_setCell _ _ _ _ (by simp; omega), Below.heap_setCell _ _ _ _ (by simp; omega)]

theorem bound_any (F : Nat) (x : Int) (n : Nat) (w : World) (hn : n ≤ 9223372036854775807) (hF : Blk w F #[.int .i64 (n : Int)] 109) :
    Calls Tryz.prog 100 #[.pointer (some ⟨F, 0, none⟩), .int .i64 x] w fun e w' => MkPost w F ⟨1, x, []⟩ n e w' := by
  have hFl := hF.lt
  have f0 : ∀ o, (w.alloc o).cell? ⟨F, 0, none⟩ = some (.int .i64 (n : Int)) := fun o => (hF.alloc o).cell 0
  have ff : ∀ o, (w.alloc o).frozen? ⟨F, 0, none⟩ = false := fun o => (hF.alloc o).frozen 0
  have f0' : w.cell? ⟨F, 0, none⟩ = some (.int .i64 (n : Int)) := hF.cell 0
  have ff' : w.frozen? ⟨F, 0, none⟩ = false := hF.frozen 0
  have hw1 : IntKind.i64.wrap ((n : Int) - 1) = (n : Int) - 1 := by rw [IntKind.wrap_i64]; omega
  have HF := hide hF
  clear hF
  go_enter Tryz.func100, Tryz.ntmps100
  go_wp2_with fail
  refine bodyPost_ret (v := .agg #[.int .i64 1, .int .i64 x, .slice none 0 0]) (by simp [results, Tryz.results100, go_sem, World.cell?_setCell_same, World.cell?_setCell_other]) rfl ?_
  have e1 : sizeM [(⟨1, x, []⟩ : Lm)] = 1 := by simp [sizeM]
  exact ⟨1, x, none, 0, 0, (n : Int) - 1, rfl, (HF.out.set 0 _).alloc _, ((Ex.refl F w).set 0 _).alloc _, fun h => ⟨by rw [e1]; omega, rfl, rfl, rfl, by simp, Or.inl rfl⟩, fun h => by omega⟩

/-- What stands beside the row. -/
def MnSet (w : World) (F O : Nat) (kd ix : Int) (u : Value) (cF : Array Value) (wr : World) : Prop :=
  Ex F w wr ∧ Blk wr (w.heap.size + 1) #[.int .i64 0, .int .i64 0, .slice none 0 0] 25 ∧ Blk wr O #[.int .i64 kd, .int .i64 ix, u] 25 ∧ Blk wr F cF 109 ∧ O < wr.heap.size

theorem mn_set {w wr w1 w3 : World} {F O : Nat} {kd ix : Int} {u v : Value} {cF cF' : Array Value} {o2 : Obj} (hFw : F < w.heap.size) (hO : w.heap.size + 2 ≤ O) (h : MnSet w F O kd ix u cF wr) (hu : ∀ k, u.ownBlock = some k → O + 1 ≤ k)
    (he1 : Ex F wr w1) (hF1 : Blk w1 F cF' 109) (hg : (w1.alloc o2).grownBy w3 u.ownBlock) : MnSet w F O kd ix v cF' (w3.setCell ⟨O, 2, none⟩ v) := by
  obtain ⟨h1, h2, h3, h4, h5⟩ := h
  have hne : ∀ b, b < O + 1 → some b ≠ u.ownBlock := fun b hb e => by have := hu b e.symm; omega
  have hs1 := he1.size
  have hs3 := hg.size
  simp at hs3
  refine ⟨(((h1.trans he1).alloc o2).grown hg (fun k hk => by have := hu k hk; omega)).setNew (by omega) _ _, ?_, ?_, ?_, by simp [World.setCell]; omega⟩
  · exact (((h2.ex he1 (by omega)).alloc o2).grown hg (hne _ (by omega))).setOther _ _ (by omega)
  · exact (((h3.ex he1 (by omega)).alloc o2).grown hg (hne _ (by omega))).set 2 _
  · exact ((hF1.alloc o2).grown hg (hne _ (by omega))).setOther _ _ (by omega)

theorem mn_row {wr w1 w3 : World} {F O : Nat} {u : Value} {L : List Lm} {xs : List Value} {o2 : Obj} {k1 x1 : Int} {a1 : Option Addr} {n1 c1 g cap : Nat} {t : Lm} (hFO : F < O) (hOr : O < wr.heap.size) (hrow : RowM wr (O + 1) 25 (fun _ => False) u L xs)
    (he1 : Ex F wr w1) (ht : MV w1 (fun b => wr.heap.size ≤ b) (.agg #[.int .i64 k1, .int .i64 x1, .slice a1 n1 c1]) t)
    (hown : w3.ownsRow (O + 1) 25 3 (.slice (some ⟨g, 0, none⟩) (L.length + 1) cap) (L.length + 1) (xs ++ [.int .i64 k1, .int .i64 x1, .slice a1 n1 c1])) (hg : (w1.alloc o2).grownBy w3 u.ownBlock) (hat : u.ownBlock = some g ∨ g = (w1.alloc o2).heap.size) :
    RowM (w3.setCell ⟨O, 2, none⟩ (.slice (some ⟨g, 0, none⟩) (L.length + 1) cap)) (O + 1) 25 (fun _ => False) (.slice (some ⟨g, 0, none⟩) (L.length + 1) cap) (L ++ [t]) (xs ++ [.int .i64 k1, .int .i64 x1, .slice a1 n1 c1]) := by
  obtain ⟨wm, hbm, hsm, hem⟩ := he1.mid
  have hrm := hrow.ex hem (by omega) (fun h => h)
  exact (hrm.push (w1 := w1) (w2 := w1.alloc o2) (w3 := w3) (by omega) (fun _ h => h.elim) hbm (ht.mono fun b h _ => Or.inr (by omega)) o2 rfl hown hg hat).setCell (by omega) (fun h => h) _

def MnInv (w : World) (F O : Nat) (kd ix : Int) (L : List Lm) (n : Nat) (i : Value) (wr : World) : Prop :=
  ∃ (k : Nat) (u : Value), k ≤ L.length ∧ i = .int .i64 (k : Int) ∧
    ((∃ (m : Nat) (xs : List Value), (m : Int) = (n : Int) - 1 - sizeM (L.take k) ∧ MnSet w F O kd ix u #[.int .i64 (m : Int)] wr ∧ RowM wr (O + 1) 25 (fun _ => False) u (L.take k) xs) ∨
     (n < 1 + sizeM L ∧ MnSet w F O kd ix u #[.int .i64 (-1)] wr ∧ ∃ a9 l9 c9, u = .slice a9 l9 c9))
end Go.Proofs.YtfkjejpfhflanaaGreatDoor
