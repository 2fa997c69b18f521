/- Plain: the first step of a lambda term, and what it becomes at last. -/
import Derived.Test.YtfbligcampbchaaDoorL20
namespace Go.Proofs.YtfbligcampbchaaDoor
open Go.RowKit
set_option linter.unusedSimpArgs false
set_option linter.unusedVariables false
set_option maxRecDepth 8000

/-- What an applied binder becomes. -/
def conT : List Lm → Lm
  | [⟨_, _, [b]⟩, z] => insT z 0 b
  | _ => ⟨0, 0, []⟩
/-- The first that has a step is worked on. -/
def repF (f : Lm → Lm) : List Lm → List Lm
  | [] => []
  | y :: r => if stepM [y] = true then f y :: r else y :: repF f r
/-- Is the step done at this knot? -/
def hereT (inn : Bool) (t : Lm) : Bool := rdxT t && (!inn || !stepM t.subs)
def stpT (inn : Bool) : Nat → Lm → Lm
  | 0, t => t
  | n + 1, ⟨k, x, l⟩ => if hereT inn ⟨k, x, l⟩ = true then conT l else ⟨k, x, repF (stpT inn n) l⟩
theorem knE_zero {u m k x : Int} {n : Nat} : knE u m k x n = 0 ↔ (1 ≤ k ∧ k ≤ 5) ∧ n = subsK k ∧ 0 ≤ x ∧ x < mostK u m k := by
  unfold knE
  constructor
  · intro h
    split at h
    · cases h
    · split at h
      · cases h
      · split at h
        · cases h
        · omega
  · rintro ⟨h1, h2, h3, h4⟩
    rw [if_neg (by omega), if_neg (by omega), if_neg (by omega)]
theorem err_two0 {u m : Int} {t : Lm} {r : List Lm} : errM u m (t :: r) = 0 ↔ errM u m [t] = 0 ∧ errM u m r = 0 := by
  rw [errM_cons]
  constructor
  · intro h
    split at h
    · rename_i h1; exact ⟨h1, h⟩
    · rename_i h1; exact absurd h h1
  · rintro ⟨h1, h2⟩; rw [if_pos h1]; exact h2
theorem err_one0 {u m k x : Int} {l : List Lm} : errM u m [⟨k, x, l⟩] = 0 ↔ knE u m k x l.length = 0 ∧ errM (deepK u k) m l = 0 := by
  constructor
  · intro h
    by_cases h1 : knE u m k x l.length = 0
    · rw [errM_good h1] at h; exact ⟨h1, h⟩
    · rw [errM_bad h1] at h; exact absurd h h1
  · rintro ⟨h1, h2⟩; rw [errM_good h1]; exact h2
theorem sizeM_one (k x : Int) (l : List Lm) : sizeM [⟨k, x, l⟩] = 1 + sizeM l := by simp [sizeM]
/-- What is handed over at a step: whether it is small; the term, where it is. -/
def FsOk (inn : Bool) (n : Nat) (t : Lm) (x : Lm) (ok : Bool) : Prop := (ok = true → x = stpT inn n t) ∧ (ok = false → 2000 < sizeM [stpT inn n t])
theorem FsOk.at {inn : Bool} {n : Nat} {t : Lm} (hh : hereT inn t = true) {y : Lm} {ok : Bool} (h1 : ok = true → y = conT t.subs) (h2 : ok = false → 2000 < sizeM [conT t.subs]) : FsOk inn (n + 1) t y ok := by
  obtain ⟨k, x, l⟩ := t
  have e : stpT inn (n + 1) ⟨k, x, l⟩ = conT l := by rw [stpT, if_pos hh]
  exact ⟨fun h => by rw [e, h1 h], fun h => by rw [e]; exact h2 h⟩
end Go.Proofs.YtfbligcampbchaaDoor
