/- Plain: terms for the unknowns of a lambda term. -/
import Derived.Test.YtaifameeoipjjaaLn1
namespace Go.Proofs.Ytaifameeoipjjaa
open Go.RowKit
set_option linter.unusedSimpArgs false
set_option linter.unusedVariables false
set_option maxRecDepth 8000

/-- Terms for the unknowns. -/
def filM (W : List Lm) : List Lm → List Lm
  | [] => []
  | ⟨k, x, l⟩ :: r => (if k = 5 then (W[x.toNat]?).getD ⟨0, 0, []⟩ else ⟨k, x, filM W l⟩) :: filM W r
def filT (W : List Lm) (t : Lm) : Lm := if t.kind = 5 then (W[t.idx.toNat]?).getD ⟨0, 0, []⟩ else ⟨t.kind, t.idx, filM W t.subs⟩
theorem filM_map (W : List Lm) : ∀ (l : List Lm), filM W l = l.map (filT W)
  | [] => by simp [filM]
  | ⟨k, x, l⟩ :: r => by rw [filM, filM_map W r]; rfl
theorem filM_take (W : List Lm) (l : List Lm) (k : Nat) (h : k < l.length) : filM W (l.take (k + 1)) = filM W (l.take k) ++ [filT W l[k]] := by
  rw [filM_map, filM_map, List.take_succ_eq_append_getElem h, List.map_append]
  rfl
/-- All unknowns are among so many. -/
def UnkM (n : Nat) : List Lm → Prop
  | [] => True
  | ⟨k, x, l⟩ :: r => (k = 5 → 0 ≤ x ∧ x < n) ∧ UnkM n l ∧ UnkM n r
theorem UnkM_nil (n : Nat) : UnkM n [] := by simp [UnkM]
theorem UnkM_cons (n : Nat) (k x : Int) (l r : List Lm) : UnkM n (⟨k, x, l⟩ :: r) ↔ (k = 5 → 0 ≤ x ∧ x < n) ∧ UnkM n l ∧ UnkM n r := by simp [UnkM]
theorem UnkM.at {n : Nat} : ∀ {l : List Lm} (k : Nat) (h : k < l.length), UnkM n l → UnkM n [l[k]]
  | [], k, h, _ => by simp at h
  | ⟨s, x, l⟩ :: r, 0, h, hb => by
    rw [UnkM_cons] at hb
    exact (UnkM_cons n s x l []).2 ⟨hb.1, hb.2.1, UnkM_nil n⟩
  | ⟨s, x, l⟩ :: r, k + 1, h, hb => by
    rw [UnkM_cons] at hb
    have := UnkM.at (l := r) k (by simpa using h) hb.2.2
    simpa using this
theorem unk_of_err (n : Nat) : ∀ (l : List Lm) (u : Int), errM u n l = 0 → UnkM n l := by
  intro l
  induction l using Lm.indL with
  | h0 => intro u _; exact UnkM_nil n
  | h k x l r ihl ihr =>
    intro u h
    obtain ⟨h1, h2⟩ := err_two0.1 h
    obtain ⟨h3, h4⟩ := err_one0.1 h1
    refine (UnkM_cons n k x l r).2 ⟨fun hk => ?_, ihl _ h4, ihr _ h2⟩
    subst hk
    have h5 := knE_zero.1 h3
    have e : mostK u n 5 = n := by simp [mostK]
    rw [e] at h5
    omega
/-- A term in which nothing is bound from outside may stand under any binders. -/
theorem err_deep (m : Int) (l : List Lm) : ∀ u c : Int, u ≤ c → errM u m l = 0 → errM c m l = 0 := by
  induction l using Lm.indL with
  | h0 => intro u c _ _; simp [errM]
  | h k x l r ihl ihr =>
    intro u c huc h
    obtain ⟨h1, h2⟩ := err_two0.1 h
    obtain ⟨h3, h4⟩ := err_one0.1 h1
    refine err_two0.2 ⟨err_one0.2 ⟨?_, ihl _ _ ?_ h4⟩, ihr u c huc h2⟩
    · have h5 := knE_zero.1 h3
      refine knE_zero.2 ⟨h5.1, h5.2.1, h5.2.2.1, ?_⟩
      have h6 := h5.2.2.2
      unfold mostK at h6 ⊢
      split at h6
      · rename_i hk; rw [if_pos hk]; omega
      · rename_i hk; rw [if_neg hk]; exact h6
    · unfold deepK; split <;> omega
/-- With the terms put in it may be. -/
theorem err_fil {W : List Lm} {M : Int} (hW : ∀ z ∈ W, errM 0 M [z] = 0) (l : List Lm) : ∀ u : Int, 0 ≤ u → errM u W.length l = 0 → errM u M (filM W l) = 0 := by
  induction l using Lm.indL with
  | h0 => intro u _ _; simp [filM, errM]
  | h k x l r ihl ihr =>
    intro u hu h
    obtain ⟨h1, h2⟩ := err_two0.1 h
    obtain ⟨h3, h4⟩ := err_one0.1 h1
    have h5 := knE_zero.1 h3
    rw [filM]
    refine err_two0.2 ⟨?_, ihr u hu h2⟩
    by_cases hk : k = 5
    · rw [if_pos hk]
      subst hk
      have e : mostK u W.length 5 = W.length := by simp [mostK]
      rw [e] at h5
      have hx : x.toNat < W.length := by omega
      rw [List.getElem?_eq_getElem hx]
      exact err_deep M _ 0 u hu (hW _ (List.getElem_mem hx))
    · rw [if_neg hk]
      refine err_one0.2 ⟨?_, ihl _ (by unfold deepK; split <;> omega) h4⟩
      refine knE_zero.2 ⟨h5.1, ?_, h5.2.2.1, ?_⟩
      · rw [filM_map]; simpa using h5.2.1
      · have h6 := h5.2.2.2
        unfold mostK at h6 ⊢
        simp only [hk, if_false] at h6 ⊢
        exact h6
theorem err_filT {W : List Lm} {M : Int} (hW : ∀ z ∈ W, errM 0 M [z] = 0) {t : Lm} {u : Int} (hu : 0 ≤ u) (h : errM u W.length [t] = 0) : errM u M [filT W t] = 0 := by
  have := err_fil hW [t] u hu h
  rw [filM_map] at this
  exact this
end Go.Proofs.Ytaifameeoipjjaa
