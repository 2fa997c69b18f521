/- Plain: what a lambda term develops to. -/
import Derived.Test.YtagidfoiemgfcaaGreatDoorZCTopChurchOwn
namespace Go.Proofs.YtagidfoiemgfcaaGreatDoor
open Go.RowKit
set_option linter.unusedSimpArgs false
set_option linter.unusedVariables false
set_option maxRecDepth 8000

/-- All of a list developed; none where one is too great. -/
def devL (f : Lm → Option Lm) : List Lm → Option (List Lm)
  | [] => some []
  | y :: r => match f y with
    | none => none
    | some z => match devL f r with
      | none => none
      | some q => some (z :: q)
/-- What a knot comes to. -/
def devK (k x : Int) (l l' : List Lm) : Lm := if rdxT ⟨k, x, l⟩ = true then conT l' else ⟨k, x, l'⟩
def devT : Nat → Lm → Option Lm
  | 0, _ => none
  | n + 1, ⟨k, x, l⟩ => match devL (devT n) l with
    | none => none
    | some l' => if 2000 < sizeM [devK k x l l'] then none else some (devK k x l l')
theorem devL_cons (f : Lm → Option Lm) (y : Lm) (r : List Lm) : devL f (y :: r) = match f y with
    | none => none
    | some z => match devL f r with
      | none => none
      | some q => some (z :: q) := rfl
theorem devL_append (f : Lm → Option Lm) : ∀ (a b : List Lm) (a' : List Lm), devL f a = some a' → devL f (a ++ b) = (devL f b).map (a' ++ ·)
  | [], b, a', h => by
    simp [devL] at h
    subst h
    rw [List.nil_append]
    cases devL f b <;> simp
  | y :: r, b, a', h => by
    rw [devL_cons] at h
    rw [List.cons_append, devL_cons]
    cases hy : f y with
    | none => rw [hy] at h; cases h
    | some z =>
      rw [hy] at h
      cases hr : devL f r with
      | none => rw [hr] at h; cases h
      | some q =>
        rw [hr] at h
        simp at h
        subst h
        simp only [devL_append f r b q hr]
        cases devL f b <;> simp
theorem devL_step {f : Lm → Option Lm} {l out : List Lm} {q : Nat} (h : q < l.length) (ho : devL f (l.take q) = some out) {z : Lm} (hz : f l[q] = some z) : devL f (l.take (q + 1)) = some (out ++ [z]) := by
  rw [List.take_succ_eq_append_getElem h, devL_append f _ _ _ ho]
  simp [devL, hz]
theorem devL_stop {f : Lm → Option Lm} {l out : List Lm} {q : Nat} (h : q < l.length) (ho : devL f (l.take q) = some out) (hz : f l[q] = none) : devL f l = none := by
  have e : l = l.take q ++ l[q] :: l.drop (q + 1) := by rw [← List.drop_eq_getElem_cons h, List.take_append_drop]
  rw [e, devL_append f _ _ _ ho]
  simp [devL, hz]
theorem devL_len {f : Lm → Option Lm} : ∀ {l l' : List Lm}, devL f l = some l' → l'.length = l.length
  | [], l', h => by simp [devL] at h; subst h; rfl
  | y :: r, l', h => by
    rw [devL_cons] at h
    cases hy : f y with
    | none => rw [hy] at h; cases h
    | some z =>
      rw [hy] at h
      cases hr : devL f r with
      | none => rw [hr] at h; cases h
      | some q =>
        rw [hr] at h
        simp at h
        subst h
        simp [devL_len hr]
theorem devL_mem {f : Lm → Option Lm} : ∀ {l l' : List Lm}, devL f l = some l' → ∀ z ∈ l', ∃ y ∈ l, f y = some z
  | [], l', h, z, hz => by simp [devL] at h; subst h; cases hz
  | y :: r, l', h, z, hz => by
    rw [devL_cons] at h
    cases hy : f y with
    | none => rw [hy] at h; cases h
    | some z0 =>
      rw [hy] at h
      cases hr : devL f r with
      | none => rw [hr] at h; cases h
      | some q =>
        rw [hr] at h
        simp at h
        subst h
        rcases List.mem_cons.1 hz with rfl | hz
        · exact ⟨y, by simp, hy⟩
        · obtain ⟨y', h1, h2⟩ := devL_mem hr z hz
          exact ⟨y', by simp [h1], h2⟩
theorem devT_succ {n : Nat} {k x : Int} {l l' : List Lm} (h : devL (devT n) l = some l') : devT (n + 1) ⟨k, x, l⟩ = if 2000 < sizeM [devK k x l l'] then none else some (devK k x l l') := by
  rw [devT, h]
theorem devT_none {n : Nat} {k x : Int} {l : List Lm} (h : devL (devT n) l = none) : devT (n + 1) ⟨k, x, l⟩ = none := by
  rw [devT, h]
/-- A binder stays a binder. -/
theorem devT_lam {n : Nat} {x : Int} {b t' : Lm} (h : devT n ⟨2, x, [b]⟩ = some t') : ∃ b', t' = ⟨2, x, [b']⟩ := by
  cases n with
  | zero => simp [devT] at h
  | succ n =>
    cases hl : devL (devT n) [b] with
    | none => rw [devT_none hl] at h; cases h
    | some l' =>
      rw [devT_succ hl] at h
      have h1 := devL_len hl
      split at h
      · cases h
      · have e : devK 2 x [b] l' = ⟨2, x, l'⟩ := by unfold devK rdxT; simp
        rw [e] at h
        obtain ⟨b', rfl⟩ := List.length_eq_one_iff.1 h1
        exact ⟨b', by simpa using h.symm⟩
theorem err_dev (m : Int) (n : Nat) : ∀ (t t' : Lm) (u : Int), 0 ≤ u → errM u m [t] = 0 → devT n t = some t' → errM u m [t'] = 0 ∧ sizeM [t'] ≤ 2000 := by
  induction n with
  | zero => intro t t' u _ _ h; simp [devT] at h
  | succ n ih =>
    rintro ⟨k, x, l⟩ t' u hu he h
    cases hl : devL (devT n) l with
    | none => rw [devT_none hl] at h; cases h
    | some l' =>
      rw [devT_succ hl] at h
      split at h
      · cases h
      · rename_i hz
        simp at h
        subst h
        refine ⟨?_, by omega⟩
        obtain ⟨h3, h4⟩ := err_one0.1 he
        have hd : 0 ≤ deepK u k := by unfold deepK; split <;> omega
        have h5 : errM (deepK u k) m l' = 0 := err_all0.2 fun y hy => by
          obtain ⟨y0, h1, h2⟩ := devL_mem hl y hy
          exact (ih _ _ _ hd (err_all0.1 h4 y0 h1) h2).1
        unfold devK
        split
        · rename_i hr
          obtain ⟨x', i, b, z, e, h1, h2⟩ := subs_two he hr
          cases e
          rw [devL_cons] at hl
          cases hf : devT n ⟨2, i, [b]⟩ with
          | none => rw [hf] at hl; cases hl
          | some f' =>
            rw [hf] at hl
            obtain ⟨b', rfl⟩ := devT_lam hf
            cases hzz : devL (devT n) [z] with
            | none => rw [hzz] at hl; cases hl
            | some lz =>
              rw [hzz] at hl
              obtain ⟨z', rfl⟩ := List.length_eq_one_iff.1 (devL_len hzz)
              simp at hl
              subst hl
              have e3 : deepK u 3 = u := by simp [deepK]
              rw [e3] at h5
              obtain ⟨p1, p2⟩ := err_two0.1 h5
              have e2 : deepK u 2 = u + 1 := by simp [deepK]
              have p3 := (err_one0.1 p1).2
              rw [e2] at p3
              exact err_insT hu p2 p3
        · exact err_one0.2 ⟨by rw [devL_len hl]; exact h3, h5⟩
end Go.Proofs.YtagidfoiemgfcaaGreatDoor
