/- What was written is read again. -/
import Derived.Test.YtdencaekailmcaaPrs
import Derived.Test.YtdencaekailmcaaZTopSomeOwn
namespace Go.Proofs.Ytdencaekailmcaa
open Go.RowKit
set_option linter.unusedSimpArgs false
set_option linter.unusedVariables false

theorem byteAt_list (s : ByteArray) (j : Nat) (c : UInt8) (h : s.data.toList[j]? = some c) : byteAt s j = (c.toNat : Int) := by
  have hj : j < s.data.toList.length := by
    rcases Nat.lt_or_ge j s.data.toList.length with h' | h'
    · exact h'
    · rw [List.getElem?_eq_none h'] at h; cases h
  have hs : j < s.size := by simpa using hj
  unfold byteAt
  rw [dif_pos hs]
  have : s.data.toList[j]? = some s[j] := by
    rw [List.getElem?_eq_getElem hj]; rfl
  rw [this] at h
  cases h
  rfl

theorem size_list (s : ByteArray) : s.size = s.data.toList.length := by simp

/-- The letters of a name are letters or digits. -/
theorem name_aln {nm : ByteArray} (h : nameB nm = true) : ∀ c ∈ nm.data.toList, alnB (c.toNat : Int) = true := by
  intro c hc
  obtain ⟨j, hj, hjc⟩ := List.getElem_of_mem hc
  have h2 : alnTo nm nm.size = true := by
    unfold nameB at h
    simp only [Bool.and_eq_true] at h
    exact h.2
  unfold alnTo at h2
  rw [List.all_eq_true] at h2
  have h3 := h2 j (by rw [List.mem_range, size_list]; exact hj)
  rw [byteAt_list nm j c (by rw [List.getElem?_eq_getElem hj, hjc])] at h3
  exact h3
/-- What may stand behind a term. -/
def Behind (post : List UInt8) : Prop := post = [] ∨ ∃ c r, post = c :: r ∧ (c = 41 ∨ c = 44)

end Go.Proofs.Ytdencaekailmcaa
