import Derived.Test.YtbnmlkaejdpigaaGreatDoorZTopLocalOwn
namespace Go.Proofs.YtbnmlkaejdpigaaGreatDoor
open Go.RowKit
set_option linter.unusedSimpArgs false
set_option linter.unusedVariables false
def stopF (s : ByteArray) : Nat → Nat → Nat
 | 0, i => i
 | f + 1, i => if i < s.size ∧ alnB (byteAt s i) = true then stopF s f (i + 1) else i
def stopAt (s : ByteArray) (i : Nat) : Nat := stopF s (s.size - i) i
theorem stopF_ge (s : ByteArray) : ∀ f i, i ≤ stopF s f i
 | 0, i => Nat.le_refl _
 | f + 1, i => by
  unfold stopF; split
  ·have := stopF_ge s f (i + 1); omega
  ·exact Nat.le_refl _
theorem stopF_le (s : ByteArray) : ∀ f i, i ≤ s.size → stopF s f i ≤ s.size
 | 0, i, h => h
 | f + 1, i, h => by
  unfold stopF; split
  ·rename_i hc; exact stopF_le s f (i + 1) hc.1
  ·exact h
theorem stopAt_ge (s : ByteArray) (i : Nat) : i ≤ stopAt s i := stopF_ge s _ i
theorem stopAt_le (s : ByteArray) {i : Nat} (h : i ≤ s.size) : stopAt s i ≤ s.size := stopF_le s _ i h
theorem stopAt_go {s : ByteArray} {i : Nat} (h : i < s.size) (ha : alnB (byteAt s i) = true) : stopAt s i = stopAt s (i + 1) := by
 have e : s.size - i = (s.size - (i + 1)) + 1 := by omega
 unfold stopAt
 rw [e, stopF, if_pos ⟨h, ha⟩]
theorem stopAt_end {s : ByteArray} {i : Nat} (h : ¬ (i < s.size ∧ alnB (byteAt s i) = true)) : stopAt s i = i := by
 unfold stopAt
 cases hf : s.size - i with
 | zero => rfl
 | succ f => rw [stopF, if_neg h]
structure Rd where
 err : Int
 t : Tm
 pos : Nat
 k : Nat
def noRd (e : Int) : Rd := ⟨e, ⟨⟨#[]⟩, []⟩, 0, 0⟩
def rd (s : ByteArray) : Nat → Option (ByteArray × List Tm) → Nat → Nat → Rd
 | 0, _, _, _ => noRd 99
 | f + 1, none, i, k =>
  if stopAt s i = i then noRd (if i = s.size then 13 else 12)
  else if nameB (s.extract i (stopAt s i)) = false then noRd 1
  else if 200 < k + 1 then noRd 3
  else if stopAt s i < s.size ∧ byteAt s (stopAt s i) = 40 then
   if varB (s.extract i (stopAt s i)) = true then noRd 2 else rd s f (some (s.extract i (stopAt s i), [])) (stopAt s i) (k + 1)
  else ⟨0, ⟨s.extract i (stopAt s i), []⟩, stopAt s i, k + 1⟩
 | f + 1, some (nm, acc), i, k =>
  if (rd s f none (i + 1) k).err ≠ 0 then noRd (rd s f none (i + 1) k).err
  else if (rd s f none (i + 1) k).pos = s.size then noRd 13
  else if byteAt s (rd s f none (i + 1) k).pos = 41 then ⟨0, ⟨nm, acc ++ [(rd s f none (i + 1) k).t]⟩, (rd s f none (i + 1) k).pos + 1, (rd s f none (i + 1) k).k⟩
  else if byteAt s (rd s f none (i + 1) k).pos = 44 then rd s f (some (nm, acc ++ [(rd s f none (i + 1) k).t])) (rd s f none (i + 1) k).pos (rd s f none (i + 1) k).k
  else noRd 12
theorem rd_pos (s : ByteArray) : ∀ f m i k, (rd s f m i k).err = 0 → i ≤ s.size → (m.isSome = true → i < s.size) → i < (rd s f m i k).pos ∧ (rd s f m i k).pos ≤ s.size := by
 intro f
 induction f with
 | zero => intro m i k h; simp [rd, noRd] at h
 | succ f ih =>
  intro m i k h hi hm
  match m with
  | none =>
   have h1 := stopAt_ge s i
   have h2 := stopAt_le s (i := i) (by omega)
   unfold rd at h ⊢
   split at h
   ·exfalso; revert h; simp only [noRd]; split <;> omega
   ·rename_i hne
    rw [if_neg hne]
    split at h
    ·exfalso; revert h; simp [noRd]
    ·rename_i h3
     rw [if_neg h3]
     split at h
     ·exfalso; revert h; simp [noRd]
     ·rename_i h4
      rw [if_neg h4]
      split at h
      ·rename_i h5
       rw [if_pos h5]
       split at h
       ·exfalso; revert h; simp [noRd]
       ·rename_i h6
        rw [if_neg h6]
        have := ih _ _ _ h (by omega) (fun _ => h5.1)
        omega
      ·rename_i h5
       rw [if_neg h5]
       exact ⟨by show i < stopAt s i; omega, h2⟩
  | some (nm, acc) =>
   unfold rd at h ⊢
   split at h
   ·rename_i h1
    exact absurd h h1
   ·rename_i h1
    rw [if_neg h1]
    simp only [ne_eq, Decidable.not_not] at h1
    split at h
    ·exfalso; revert h; simp [noRd]
    ·rename_i h2
     rw [if_neg h2]
     have hi2 : i < s.size := hm rfl
     ·have h3 := ih none (i + 1) k h1 (by omega) (fun h => by cases h)
      split at h
      ·rename_i h4
       rw [if_pos h4]
       exact ⟨by show i < (rd s f none (i + 1) k).pos + 1; omega, by show (rd s f none (i + 1) k).pos + 1 ≤ s.size; omega⟩
      ·rename_i h4
       rw [if_neg h4]
       split at h
       ·rename_i h5
        rw [if_pos h5]
        have := ih _ _ _ h (by omega) (fun _ => by omega)
        omega
       ·exfalso; revert h; simp [noRd]
end Go.Proofs.YtbnmlkaejdpigaaGreatDoor
