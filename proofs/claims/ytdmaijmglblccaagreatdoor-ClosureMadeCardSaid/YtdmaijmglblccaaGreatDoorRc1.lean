/- Plain: all that is reached, text by text; texts in their order. -/
import Derived.Test.YtdmaijmglblccaaGreatDoorZBClosureMadeOwn
import Derived.Test.YtdmaijmglblccaaGreatDoorZClosureMadeOwn
namespace Go.Proofs.YtdmaijmglblccaaGreatDoor
open Go.RowKit
set_option linter.unusedSimpArgs false
set_option linter.unusedVariables false
set_option maxRecDepth 8000

theorem inB_mem8 {x : ByteArray} {l : List ByteArray} : inB x l = true ↔ x ∈ l := by
  unfold inB
  rw [List.any_eq_true]
  constructor
  · rintro ⟨y, hy, e⟩
    have e1 : y.toList = x.toList := eq_of_beq e
    have : y = x := by
      rw [ByteArray.toList_eq, ByteArray.toList_eq] at e1
      obtain ⟨⟨a⟩⟩ := y
      obtain ⟨⟨b⟩⟩ := x
      simpa using e1
    rw [← this]; exact hy
  · intro h
    exact ⟨x, h, by simp⟩
/-- The texts in their order, each once. -/
def AscB (l : List ByteArray) : Prop := l.Pairwise fun a b => ltB a b = true
theorem asc_uniq {l k : List ByteArray} (h1 : AscB l) (h2 : AscB k) (h : ∀ s, s ∈ l ↔ s ∈ k) : l = k := by
  induction l generalizing k with
  | nil =>
    cases k with
    | nil => rfl
    | cons b k => exact absurd ((h b).2 (by simp)) (by simp)
  | cons a l ih =>
    cases k with
    | nil => exact absurd ((h a).1 (by simp)) (by simp)
    | cons b k =>
      obtain ⟨h3, h4⟩ := List.pairwise_cons.1 h1
      obtain ⟨h5, h6⟩ := List.pairwise_cons.1 h2
      have e : a = b := by
        rcases List.mem_cons.1 ((h a).1 (by simp)) with e | e
        · exact e
        · rcases List.mem_cons.1 ((h b).2 (by simp)) with e2 | e2
          · exact e2.symm
          · have := ltB_asymm (h5 a e)
            rw [h3 b e2] at this
            cases this
      subst e
      congr 1
      refine ih h4 h6 fun s => ⟨fun hs => ?_, fun hs => ?_⟩
      · rcases List.mem_cons.1 ((h s).1 (by simp [hs])) with e | e
        · subst e
          have := h3 s hs
          rw [ltB_irrefl] at this
          cases this
        · exact e
      · rcases List.mem_cons.1 ((h s).2 (by simp [hs])) with e | e
        · subst e
          have := h5 s hs
          rw [ltB_irrefl] at this
          cases this
        · exact e
/-- One more text where it belongs. -/
theorem asc_ins {a b : List ByteArray} {x : ByteArray} (h : AscB (a ++ b)) (ha : ∀ y ∈ a, ltB y x = true) (hb : ∀ y ∈ b, ltB x y = true) : AscB (a ++ x :: b) := by
  obtain ⟨h1, h2, h3⟩ := List.pairwise_append.1 h
  refine List.pairwise_append.2 ⟨h1, List.pairwise_cons.2 ⟨hb, h2⟩, fun y hy z hz => ?_⟩
  rcases List.mem_cons.1 hz with rfl | hz
  · exact ha y hy
  · exact h3 y hy z hz
/-- What is sorted, and has no text twice. -/
theorem asc_of_perm {l k : List ByteArray} (hp : k.Perm l) (hn : l.Nodup) (hs : k.Pairwise fun a b => ltB b a = false) : AscB k ∧ ∀ s, s ∈ k ↔ s ∈ l := by
  refine ⟨?_, fun s => hp.mem_iff⟩
  have hk : k.Nodup := hp.nodup_iff.2 hn
  clear hp hn
  induction k with
  | nil => exact List.Pairwise.nil
  | cons a k ih =>
    obtain ⟨h1, h2⟩ := List.pairwise_cons.1 hs
    obtain ⟨h3, h4⟩ := List.nodup_cons.1 hk
    refine List.pairwise_cons.2 ⟨fun b hb => ?_, ih h2 h4⟩
    cases h5 : ltB a b with
    | true => rfl
    | false => exact absurd (ltB_conn h5 (h1 b hb)) fun e => h3 (e ▸ hb)
end Go.Proofs.YtdmaijmglblccaaGreatDoor
