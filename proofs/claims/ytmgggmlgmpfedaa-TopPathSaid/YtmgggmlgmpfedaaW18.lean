
/- Walks: the variables of a term, as the program gathers them. -/
import Derived.Test.YtmgggmlgmpfedaaW17
namespace Go.Proofs.Ytmgggmlgmpfedaa
open Go.RowKit
set_option linter.unusedSimpArgs false
set_option linter.unusedVariables false

theorem Sl.grown {w w' : World} {X : Nat → Prop} {a : Option Addr} {l : List Tm} {r : Option Nat} (h : Sl w X a l) (hg : w.grownBy w' r) (hX : ∀ b, X b → some b ≠ r) : Sl w' X a l := by
  have h1 : Sl w (fun b => X b ∧ b < w.heap.size) a l := h.mono fun b h1 h2 => ⟨h1, h2⟩
  have h2 : Sl w' (fun b => X b ∧ b < w.heap.size) a l := h1.kept fun b hx => hg.block b hx.2 (hX b hx.1)
  exact h2.mono fun b hx _ => hx.1

theorem err_name {s : ByteArray} {l : List Tm} (h : errL [(⟨s, l⟩ : Tm)] = 0) : nameB s = true ∧ errL l = 0 := by
  simp only [errL] at h
  split at h
  · refine ⟨by assumption, ?_⟩
    split at h
    · exact absurd h (by decide)
    · split at h
      · assumption
      · exact h
  · exact absurd h (by decide)

theorem err_mem {l : List Tm} (h : errL l = 0) (k : Nat) (hk : k < l.length) : errL [l[k]] = 0 := by
  induction l generalizing k with
  | nil => simp at hk
  | cons t r ih =>
    rw [errL_cons] at h
    by_cases h0 : errL [t] = 0
    · rw [if_pos h0] at h
      cases k with
      | zero => exact h0
      | succ k => exact ih h k (by simpa using hk)
    · rw [if_neg h0] at h; exact absurd h h0

theorem NamesAt.lv {w0 w1 : World} {B : Nat} {q0 q1 : Value} {acc1 : List ByteArray} (h : NamesAt w0 B q0 acc1 q1 w1) : LV Value.string w1 (fun b => B ≤ b) q1 acc1 := LV.of_own h.1

theorem NamesAt.refl {w : World} {B : Nat} {q : Value} {acc : List ByteArray} (h : w.ownsRow B 9 1 q acc.length (acc.map Value.string)) : NamesAt w B q acc q w :=
  ⟨h, grown_of_below (Below.refl _ _) _, fun _ h => Or.inl h⟩

theorem names_append {w : World} {B : Nat} {q : Value} {acc : List ByteArray} (s : ByteArray) (h : w.ownsRow B 9 1 q acc.length (acc.map Value.string)) (hB : B ≤ w.heap.size) (hn : acc.length ≤ 3000000) (A : Nat) (hA : w.heap.size = A) :
    ∃ q2 w3, (Builtin.append_ #[23, 23] 23 #[q, .slice (some ⟨A, 0, none⟩) 1 1]).run Try.prog (w.alloc (.cells #[.string s] 9)) = .ok q2 w3 ∧ NamesAt w B q (acc ++ [s]) q2 w3 := by
  subst hA
  obtain ⟨i0, hi, hz0, hz1, hz2⟩ := info_parts Try.infoStr
  obtain ⟨g, cap, w3, hr, ho, hg, hat, hlt⟩ := run_append_lies (P := Try.prog) (w := w.alloc (.cells #[.string s] 9)) 23 23 B 9 i0 _ 1 16 Try.underlying23 hi hz0 hz1 hz2 rfl (by decide) q acc.length (acc.map Value.string) (h.alloc _)
    ⟨w.heap.size, 0, none⟩ 1 1 [.string s] rfl (cell_one_new _ _ _) (fun x hx => by simp at hx; subst hx; rfl) (by decide) (by unfold maxLen; omega) (by omega) (by simp; omega) _ rfl
  refine ⟨_, w3, hr, by simpa using ho, ?_, fun k hk => ?_⟩
  · exact grown_trans (grown_of_below ((Below.refl _ _).alloc (Nat.le_refl _) _) q.ownBlock) hg (fun k hk => Or.inl hk)
  · simp [Value.ownBlock] at hk
    subst hk
    rcases hat with e | e
    · exact Or.inl e
    · right; simp at e; omega

theorem names_start {w : World} {B : Nat} {q : Value} {acc : List ByteArray} (h : w.ownsRow B 9 1 q acc.length (acc.map Value.string)) (o : Obj) : NamesAt w B q acc q (w.alloc o) := (NamesAt.refl h).below ((Below.refl _ _).alloc (Nat.le_refl _) o)

/-- The row behind the box of the parameter. -/
theorem names_boxed {w w3 : World} {B : Nat} {q q2 : Value} {acc acc2 : List ByteArray} {o : Obj} (h : w.ownsRow B 9 1 q acc.length (acc.map Value.string)) (h2 : NamesAt (w.alloc o) B q acc2 q2 w3) : NamesAt w B q acc2 q2 w3 := (names_start h o).step h2

end Go.Proofs.Ytmgggmlgmpfedaa
