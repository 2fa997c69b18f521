import Derived.Test.YthnncjgjmohinaaGreatDoorL20
namespace Go.Proofs.YthnncjgjmohinaaGreatDoor
open Go.RowKit
set_option linter.unusedSimpArgs false
set_option linter.unusedVariables false
set_option maxRecDepth 8000
def conT : List Lm → Lm
 | [⟨_, _, [b]⟩, z] => insT z 0 b
 | _ => ⟨0, 0, []⟩
def repF (f : Lm → Lm) : List Lm → List Lm
 | [] => []
 | y :: r => if stepM [y] = true then f y :: r else y :: repF f r
def hereT (inn : Bool) (t : Lm) : Bool := rdxT t && (!inn || !stepM t.subs)
def stpT (inn : Bool) : Nat → Lm → Lm
 | 0, t => t
 | n + 1, ⟨k, x, l⟩ => if hereT inn ⟨k, x, l⟩ = true then conT l else ⟨k, x, repF (stpT inn n) l⟩
theorem knE_zero {u m k x : Int} {n : Nat} : knE u m k x n = 0 ↔ (1 ≤ k ∧ k ≤ 5) ∧ n = subsK k ∧ 0 ≤ x ∧ x < mostK u m k := by
 unfold knE
 constructor
 ·intro h
  split at h
  ·cases h
  ·split at h
   ·cases h
   ·split at h
    ·cases h
    ·omega
 ·rintro ⟨h1, h2, h3, h4⟩
  rw [if_neg (by omega), if_neg (by omega), if_neg (by omega)]
theorem err_two0 {u m : Int} {t : Lm} {r : List Lm} : errM u m (t :: r) = 0 ↔ errM u m [t] = 0 ∧ errM u m r = 0 := by
 rw [errM_cons]
 constructor
 ·intro h
  split at h
  ·rename_i h1; exact ⟨h1, h⟩
  ·rename_i h1; exact absurd h h1
 ·rintro ⟨h1, h2⟩; rw [if_pos h1]; exact h2
theorem err_one0 {u m k x : Int} {l : List Lm} : errM u m [⟨k, x, l⟩] = 0 ↔ knE u m k x l.length = 0 ∧ errM (deepK u k) m l = 0 := by
 constructor
 ·intro h
  by_cases h1 : knE u m k x l.length = 0
  ·rw [errM_good h1] at h; exact ⟨h1, h⟩
  ·rw [errM_bad h1] at h; exact absurd h h1
 ·rintro ⟨h1, h2⟩; rw [errM_good h1]; exact h2
theorem repF_at (f : Lm → Lm) : ∀ (l : List Lm) (i : Nat) (h : i < l.length), stepM (l.take i) = false → stepM [l[i]] = true → repF f l = l.set i (f l[i])
 | y :: r, 0, h, _, hs => by
  have hs' : stepM [y] = true := hs
  unfold repF
  rw [if_pos hs']; rfl
 | y :: r, i + 1, h, h0, hs => by
  have e : stepM (y :: r.take i) = (stepM [y] || stepM (r.take i)) := stepM_append [y] (r.take i)
  rw [List.take_succ_cons, e, Bool.or_eq_false_iff] at h0
  unfold repF
  rw [if_neg (by rw [h0.1]; simp), repF_at f r i (by simpa using h) h0.2 (by simpa using hs)]
  rfl
theorem sizeM_one (k x : Int) (l : List Lm) : sizeM [⟨k, x, l⟩] = 1 + sizeM l := by simp [sizeM]
theorem sizeM_get (l : List Lm) (i : Nat) (h : i < l.length) : sizeM [l[i]] ≤ sizeM l := by
 have h1 := sizeM_append (l.take (i + 1)) (l.drop (i + 1))
 rw [List.take_append_drop, sizeM_take l i h] at h1
 omega
theorem sizeM_set (l : List Lm) (i : Nat) (h : i < l.length) (y : Lm) : sizeM [y] ≤ sizeM (l.set i y) := by
 have h2 : i < (l.set i y).length := by simpa using h
 have := sizeM_get (l.set i y) i h2
 simpa using this
def FsOk (inn : Bool) (n : Nat) (t : Lm) (x : Lm) (ok : Bool) : Prop := (ok = true → x = stpT inn n t) ∧ (ok = false → 2000 < sizeM [stpT inn n t])
theorem FsOk.up {inn : Bool} {n : Nat} {k x : Int} {l : List Lm} {i : Nat} (h : i < l.length) (hh : hereT inn ⟨k, x, l⟩ = false) (h0 : stepM (l.take i) = false) (h1 : stepM [l[i]] = true) {y : Lm} {ok : Bool} (hf : FsOk inn n l[i] y ok) : FsOk inn (n + 1) ⟨k, x, l⟩ ⟨k, x, l.set i y⟩ ok := by
 have e : stpT inn (n + 1) ⟨k, x, l⟩ = ⟨k, x, l.set i (stpT inn n l[i])⟩ := by
  rw [stpT, if_neg (by rw [hh]; simp), repF_at _ l i h h0 h1]
 refine ⟨fun hk => by rw [e, hf.1 hk], fun hk => ?_⟩
 have := hf.2 hk
 have h3 := sizeM_set l i h (stpT inn n l[i])
 rw [e, sizeM_one]
 omega
theorem FsOk.at {inn : Bool} {n : Nat} {t : Lm} (hh : hereT inn t = true) {y : Lm} {ok : Bool} (h1 : ok = true → y = conT t.subs) (h2 : ok = false → 2000 < sizeM [conT t.subs]) : FsOk inn (n + 1) t y ok := by
 obtain ⟨k, x, l⟩ := t
 have e : stpT inn (n + 1) ⟨k, x, l⟩ = conT l := by rw [stpT, if_pos hh]
 exact ⟨fun h => by rw [e, h1 h], fun h => by rw [e]; exact h2 h⟩
end Go.Proofs.YthnncjgjmohinaaGreatDoor
