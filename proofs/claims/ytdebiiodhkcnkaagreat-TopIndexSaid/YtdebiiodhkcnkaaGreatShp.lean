import Derived.Test.YtdebiiodhkcnkaaGreatZTopIndexOwn
namespace Go.Proofs.YtdebiiodhkcnkaaGreat
open Go.RowKit
set_option linter.unusedSimpArgs false
set_option linter.unusedVariables false
def shL : List Tm → List Tm → Bool
 | [], _ => true
 | ⟨s, a⟩ :: r, ts => match ts with
  | [] => false
  | t :: ts' => (varB s || ((s.toList == t.name.toList) && (a.length == t.args.length) && shL a t.args)) && shL r ts'
def shT (p t : Tm) : Bool := varB p.name || ((p.name.toList == t.name.toList) && (p.args.length == t.args.length) && shL p.args t.args)
theorem shL_cons (p t : Tm) (r ts : List Tm) : shL (p :: r) (t :: ts) = (shT p t && shL r ts) := by obtain ⟨s, a⟩ := p; simp only [shL, shT]
theorem shT_deep {s s2 : ByteArray} {l m : List Tm} (hv : varB s = false) : shT ⟨s, l⟩ ⟨s2, m⟩ = ((s.toList == s2.toList) && (l.length == m.length) && shL l m) := by simp [shT, hv]
theorem shT_var {s : ByteArray} {l : List Tm} {t : Tm} (hv : varB s = true) : shT ⟨s, l⟩ t = true := by simp [shT, hv]
theorem shL_iff : ∀ (l m : List Tm), l.length = m.length → (shL l m = true ↔ ∀ k (h : k < l.length) (h2 : k < m.length), shT l[k] m[k] = true)
 | [], m, _ => by simp [shL]
 | _ :: _, [], e => by simp at e
 | p :: r, t :: ts, e => by
  have ih := shL_iff r ts (by simpa using e)
  rw [shL_cons, Bool.and_eq_true, ih]
  refine ⟨fun h k h1 h2 => ?_, fun h => ⟨h 0 (by simp) (by simp), fun k h1 h2 => h (k + 1) (by simpa using h1) (by simpa using h2)⟩⟩
  cases k with
  | zero => exact h.1
  | succ k => exact h.2 k (by simpa using h1) (by simpa using h2)
theorem shL_no {l m : List Tm} {k : Nat} (hlm : l.length = m.length) (h : k < l.length) (h2 : k < m.length) (h0 : shT l[k] m[k] = false) : shL l m = false := by
 cases hs : shL l m with
 | false => rfl
 | true => rw [(shL_iff l m hlm).1 hs k h h2] at h0; cases h0
theorem mtL_unshaped : ∀ (l m : List Tm) (h : List Bd), l.length = m.length → shL l m = false → mtL l m h = none := by
 intro l
 induction l using Tm.indL with
 | h0 => intro m h _ hs; simp [shL] at hs
 | h s a r iha ihr =>
  intro m h hlm hs
  cases m with
  | nil => simp at hlm
  | cons t ts =>
   rw [shL_cons] at hs
   rw [mtL_cons]
   cases h1 : shT ⟨s, a⟩ t with
   | true =>
    rw [h1, Bool.true_and] at hs
    cases mtT ⟨s, a⟩ t h with
    | none => rfl
    | some h' => exact ihr ts h' (by simpa using hlm) hs
   | false =>
    obtain ⟨s2, m2⟩ := t
    have hv : varB s = false := by
     cases hv : varB s with
     | false => rfl
     | true => rw [shT_var hv] at h1; cases h1
    rw [shT_deep hv] at h1
    have e : mtT ⟨s, a⟩ ⟨s2, m2⟩ h = none := by
     cases hn : ((s.toList == s2.toList) && (a.length == m2.length)) with
     | false => exact mtT_off hv hn
     | true =>
      rw [hn, Bool.true_and] at h1
      rw [Bool.and_eq_true] at hn
      have hl : a.length = m2.length := by simpa using hn.2
      rw [mtT_deep hv hn.1 hl]
      exact iha m2 h hl h1
    rw [e]
theorem mtT_unshaped {p t : Tm} (h : List Bd) (hs : shT p t = false) : mtT p t h = none := by
 have := mtL_unshaped [p] [t] h rfl (by rw [shL_cons, hs]; rfl)
 rw [mtL_cons] at this
 cases hm : mtT p t h with
 | none => rfl
 | some h' => rw [hm] at this; simp [mtL] at this
end Go.Proofs.YtdebiiodhkcnkaaGreat
