/- The text of a term. -/
import Derived.Test.YtdencaekailmcaaZTopSomeOwn
namespace Go.Proofs.Ytdencaekailmcaa

/-- The texts of a list of terms, commas between. -/
def txtL : List Tm → List UInt8
  | [] => []
  | ⟨s, l⟩ :: r => s.data.toList ++ (if l.isEmpty = true then [] else 40 :: (txtL l ++ [41])) ++ (if r.isEmpty = true then [] else 44 :: txtL r)

/-- A name, and the first k below it, without the last bracket. -/
def txtTo (s : ByteArray) (l : List Tm) (k : Nat) : List UInt8 := if k = 0 then s.data.toList else s.data.toList ++ 40 :: txtL (l.take k)

theorem txtL_one (s : ByteArray) (l : List Tm) : txtL [(⟨s, l⟩ : Tm)] = s.data.toList ++ (if l.isEmpty = true then [] else 40 :: (txtL l ++ [41])) := by simp [txtL]

theorem txtL_cons (t : Tm) (r : List Tm) (h : r ≠ []) : txtL (t :: r) = txtL [t] ++ 44 :: txtL r := by
  obtain ⟨s, l⟩ := t
  rw [txtL_one]
  have hr : (r.isEmpty = true) = False := by simpa using h
  simp only [txtL, hr, if_false]

theorem txtL_append (a b : List Tm) (ha : a ≠ []) (hb : b ≠ []) : txtL (a ++ b) = txtL a ++ 44 :: txtL b := by
  induction a with
  | nil => exact absurd rfl ha
  | cons t r ih =>
    by_cases hr : r = []
    · subst hr; simpa using txtL_cons t b hb
    · rw [List.cons_append, txtL_cons t (r ++ b) (by simp [hr]), ih hr, txtL_cons t r hr]
      simp

theorem txt_nil (s : ByteArray) : txtL [(⟨s, []⟩ : Tm)] = s.data.toList := by simp [txtL]

theorem txtTo_len (s : ByteArray) (l : List Tm) (k : Nat) (hk : k ≤ l.length) : (txtTo s l k).length ≤ (txtL [(⟨s, l⟩ : Tm)]).length := by
  rw [txtL_one]
  unfold txtTo
  by_cases h0 : k = 0
  · rw [if_pos h0]; simp
  · rw [if_neg h0]
    have hl : l ≠ [] := by intro e; subst e; simp at hk; omega
    rw [if_neg (by simpa using hl)]
    by_cases hd : l.drop k = []
    · have : l.take k = l := by have h2 := List.take_append_drop k l; rw [hd] at h2; simpa using h2
      rw [this]; simp
    · have ht : l.take k ≠ [] := by
        intro e
        have h3 := congrArg List.length e
        rw [List.length_take] at h3
        simp only [List.length_nil] at h3
        have hlp := List.length_pos_iff.2 hl
        omega
      have h2 := txtL_append (l.take k) (l.drop k) ht hd
      rw [List.take_append_drop] at h2
      rw [h2]; simp only [List.length_append, List.length_cons]; omega
end Go.Proofs.Ytdencaekailmcaa
