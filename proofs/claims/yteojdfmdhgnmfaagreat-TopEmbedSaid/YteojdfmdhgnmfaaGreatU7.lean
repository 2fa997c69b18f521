/- Where small terms make both sides one, the steps find what does, and nothing is too great: plain. -/
import Derived.Test.YteojdfmdhgnmfaaGreatU6
namespace Go.Proofs.YteojdfmdhgnmfaaGreat
open Go.RowKit
set_option linter.unusedSimpArgs false
set_option linter.unusedVariables false

theorem on_mem {t : List Bd} {l : List Tm} {x : Tm} (h : x ∈ l) : sizeL [onT t x] ≤ sizeL (onL t l) := by
  induction l with
  | nil => cases h
  | cons a r ih =>
    have hc := size_cons (onT t a) (onL t r)
    rw [onL_cons]
    rcases List.mem_cons.1 h with rfl | h
    · omega
    · have := ih h; omega
theorem run_finds {t : List Bd} (ht : ∀ d ∈ t, varB d.nm = true) {V : List ByteArray} : ∀ (n : Nat) (h : List (ByteArray × Tm)) (l : List Pr) (R : Int × List Bd), UI V h l → Agr t (sAt h) → Uni t l → (∀ p ∈ l, sizeL [onT t p.l] ≤ 2000) → uRun false n (sAt h) l = some R → R.1 = 0 ∧ Agr t R.2
  | 0, h, l, R, u, ha, hu, hz, hr => by cases hr
  | n + 1, h, [], R, u, ha, hu, hz, hr => by
    simp [uRun, uNext] at hr
    subst hr
    exact ⟨rfl, ha⟩
  | n + 1, h, p :: l, R, u, ha, hu, hz, hr => by
    rw [uRun, uNext_cons] at hr
    have ok := u.good.all
    obtain ⟨e1, e2⟩ := u.head
    have hpp : onT t p.l = onT t p.r := hu p (by simp)
    have hp1 := hz p (by simp)
    have hsa : sizeL [onT (sAt h) p.l] ≤ 2000 := by
      have h1 := onT_grow t (onT (sAt h) p.l)
      rw [agr_on ht ok.vars ha e1] at h1
      omega
    have hsb : sizeL [onT (sAt h) p.r] ≤ 2000 := by
      have h1 := onT_grow t (onT (sAt h) p.r)
      rw [agr_on ht ok.vars ha e2, ← hpp] at h1
      omega
    cases hp : uPair false (sAt h) l (onT (sAt h) p.l) (onT (sAt h) p.r) with
    | stop e s' =>
      exfalso
      rcases (step_agr ht u).1 e s' hp with h1 | h1
      · subst h1
        unfold uPair uBind at hp
        rw [if_neg (by omega)] at hp
        repeat' split at hp
        all_goals first | (cases hp; done) | (injection hp with h1 h2; exact absurd h1 (by decide)) | simp_all
      · exact h1 ⟨ha, hpp⟩
    | go s' l' =>
      rw [hp] at hr
      obtain ⟨h', rfl, u', k⟩ := (step_agr ht u).2 s' l' hp
      obtain ⟨ha', hu'⟩ := k.2 ⟨ha, hu⟩
      refine run_finds ht n h' l' R u' ha' hu' (fun q hq => ?_) hr
      have hl' : l' = l ∨ ∃ a b, a = onT (sAt h) p.l ∧ varB a.name = false ∧ l' = zipP a.args b ++ l := by
        unfold uPair uBind at hp
        rw [if_neg (by omega)] at hp
        repeat' split at hp
        all_goals first | (cases hp; done) | (injection hp with h1 h2; first | exact Or.inl h2.symm | exact Or.inr ⟨_, _, rfl, by simp_all, h2.symm⟩)
      rcases hl' with rfl | ⟨a, b, rfl, hva, rfl⟩
      · exact hz q (by simp [hq])
      · rcases List.mem_append.1 hq with hq | hq
        · have hm := (zip_mem hq).1
          have h1 := on_mem (t := t) hm
          have h2 : sizeL [onT t (onT (sAt h) p.l)] = 1 + sizeL (onL t (onT (sAt h) p.l).args) := by
            generalize onT (sAt h) p.l = a at *
            obtain ⟨m, k⟩ := a
            rw [onT_sym2 ht hva]
            simp [sizeL]
          rw [agr_on ht ok.vars ha e1] at h2
          omega
        · exact hz q (by simp [hq])
/-- Found: it makes all one, leaves itself as it is, and nothing of it is too great. -/
theorem run_solves {t : List Bd} (ht : ∀ d ∈ t, varB d.nm = true) (hts : ∀ d ∈ t, sizeL [d.t] ≤ 2000) {V : List ByteArray} {n : Nat} {l : List Pr} {R : Int × List Bd} (u : UI V [] l) (hu : Uni t l) (hz : ∀ p ∈ l, sizeL [onT t p.l] ≤ 2000) (hr : uRun false n [] l = some R) :
    R.1 = 0 ∧ grtB R.2 = false ∧ OkS R.2 ∧ Agr t R.2 ∧ Uni R.2 l := by
  obtain ⟨h0, ha⟩ := run_finds ht n [] l R u (by simp [sAt, Agr]) hu hz hr
  obtain ⟨h', e, g, hn, k, _⟩ := run_agr n [] l R u hr
  have ok : OkS R.2 := by rw [e]; exact g.all
  refine ⟨h0, ?_, ok, ha, ?_⟩
  · unfold grtB
    rw [List.any_eq_false]
    intro d hd hc
    have hc : 2000 < sizeL [d.t] := of_decide_eq_true hc
    have h1 := onT_grow t d.t
    rw [← ha d hd, onT_leaf] at h1
    cases hf : forT t d.nm with
    | none => rw [hf] at h1; simp [sizeL] at h1; omega
    | some x =>
      rw [hf] at h1
      obtain ⟨d', hd', _, e2⟩ := forT_mem hf
      have h2 := hts d' hd'
      rw [e2] at h2
      simp at h1
      omega
  · have hself : Agr R.2 R.2 := fun d hd => by
      rw [onT_some (forT_of ok.1 hd), onT_id (fun e he => ok.2.2 d hd e he)]
    exact ((k h0 R.2 ok.vars).1 hself).2
#print axioms run_solves
end Go.Proofs.YteojdfmdhgnmfaaGreat
