/- The order by paths is a strict order, with all below below, kept by bindings and by what is around, and total without variables: plain. -/
import Derived.Test.YthlgknglalcggacOr4
namespace Go.Proofs.Ythlgknglalcggac
open Go.RowKit
set_option linter.unusedSimpArgs false
set_option linter.unusedVariables false

/-- What it is to be above. -/
theorem path_iff (row : List ByteArray) (a b : Tm) : pathB row a b = true ↔ varB a.name = false ∧ ((∃ x ∈ a.args, x = b ∨ pathB row x b = true) ∨
    (varB b.name = false ∧ gtS row b a = false ∧ (∀ y ∈ b.args, pathB row a y = true) ∧ (gtS row a b = true ∨ ∃ x y, unl a.args b.args = some (x, y) ∧ pathB row x y = true))) := by
  have h1 : ((a.args.any fun x => sameB x b || pathB row x b) = true) ↔ ∃ x ∈ a.args, x = b ∨ pathB row x b = true := by
    rw [List.any_eq_true]
    constructor
    · rintro ⟨x, hx, h⟩
      rw [Bool.or_eq_true, sameB_iff] at h
      exact ⟨x, hx, h⟩
    · rintro ⟨x, hx, h⟩
      exact ⟨x, hx, by rw [Bool.or_eq_true, sameB_iff]; exact h⟩
  have h2 : ((b.args.all fun y => pathB row a y) = true) ↔ ∀ y ∈ b.args, pathB row a y = true := by rw [List.all_eq_true]
  rw [pathB_eq]
  by_cases va : varB a.name = true
  · simp [va]
  · rw [if_neg va]
    have va' : varB a.name = false := by simpa using va
    by_cases hs : (a.args.any fun x => sameB x b || pathB row x b) = true
    · rw [if_pos hs]
      exact ⟨fun _ => ⟨va', Or.inl (h1.1 hs)⟩, fun _ => rfl⟩
    · rw [if_neg hs]
      have hs' : ¬ ∃ x ∈ a.args, x = b ∨ pathB row x b = true := fun h => hs (h1.2 h)
      by_cases vb : varB b.name = true
      · rw [if_pos vb]
        constructor
        · intro h; cases h
        · rintro ⟨_, h | h⟩
          · exact absurd h hs'
          · rw [vb] at h; cases h.1
      · rw [if_neg vb]
        have vb' : varB b.name = false := by simpa using vb
        by_cases gb : gtS row b a = true
        · rw [if_pos gb]
          constructor
          · intro h; cases h
          · rintro ⟨_, h | h⟩
            · exact absurd h hs'
            · rw [gb] at h; cases h.2.1
        · rw [if_neg gb]
          have gb' : gtS row b a = false := by simpa using gb
          by_cases hal : (b.args.all fun y => pathB row a y) = false
          · rw [if_pos hal]
            constructor
            · intro h; cases h
            · rintro ⟨_, h | h⟩
              · exact absurd h hs'
              · rw [h2.2 h.2.2.1] at hal; cases hal
          · rw [if_neg hal]
            have hal' : ∀ y ∈ b.args, pathB row a y = true := h2.1 (by simpa using hal)
            by_cases ga : gtS row a b = true
            · rw [if_pos ga]
              exact ⟨fun _ => ⟨va', Or.inr ⟨vb', gb', hal', Or.inl ga⟩⟩, fun _ => rfl⟩
            · rw [if_neg ga]
              cases hu : unl a.args b.args with
              | none =>
                constructor
                · intro h; cases h
                · rintro ⟨_, h | ⟨_, _, _, h | ⟨x, y, h, _⟩⟩⟩
                  · exact absurd h hs'
                  · exact absurd h ga
                  · cases h
              | some p =>
                obtain ⟨x, y⟩ := p
                constructor
                · intro h
                  exact ⟨va', Or.inr ⟨vb', gb', hal', Or.inr ⟨x, y, rfl, h⟩⟩⟩
                · rintro ⟨_, h | ⟨_, _, _, h | ⟨x', y', h, h'⟩⟩⟩
                  · exact absurd h hs'
                  · exact absurd h ga
                  · cases h; exact h'

theorem path_sub {row : List ByteArray} {a x : Tm} (ha : varB a.name = false) (hx : x ∈ a.args) : pathB row a x = true := (path_iff row a x).2 ⟨ha, Or.inl ⟨x, hx, Or.inl rfl⟩⟩

/-- How two symbols compare, by three numbers. -/
theorem gtS_iff {row : List ByteArray} {a b : Tm} : gtS row a b = true ↔ rankN b.name row < rankN a.name row ∨ (rankN b.name row = rankN a.name row ∧ (ltB b.name a.name = true ∨ (b.name = a.name ∧ b.args.length < a.args.length))) := by
  unfold gtS
  by_cases h1 : rankN a.name row = rankN b.name row
  · rw [if_neg (by simpa using h1)]
    by_cases h2 : a.name = b.name
    · rw [if_neg (by simpa using h2)]
      have h3 : ltB b.name a.name = false := by rw [h2]; exact ltB_irrefl _
      simp [h1, h2, h3, ltB_irrefl]
    · rw [if_pos h2]
      have h3 : b.name ≠ a.name := fun e => h2 e.symm
      simp [h1, h3]
  · rw [if_pos h1]
    have h3 : rankN b.name row ≠ rankN a.name row := fun e => h1 e.symm
    simp [h3]
theorem gtS_irrefl {row : List ByteArray} {a b : Tm} (hn : a.name = b.name) (hl : a.args.length = b.args.length) : gtS row a b = false := by
  cases h : gtS row a b with
  | false => rfl
  | true =>
    rw [gtS_iff, hn, hl] at h
    rcases h with h | ⟨_, h | ⟨_, h⟩⟩
    · omega
    · rw [ltB_irrefl] at h; cases h
    · omega
theorem gtS_trans {row : List ByteArray} {a b c : Tm} (h1 : gtS row a b = true) (h2 : gtS row b c = true) : gtS row a c = true := by
  rw [gtS_iff] at *
  rcases h1 with h1 | ⟨h1, h1'⟩
  · rcases h2 with h2 | ⟨h2, _⟩
    · exact Or.inl (by omega)
    · exact Or.inl (by omega)
  · rcases h2 with h2 | ⟨h2, h2'⟩
    · exact Or.inl (by omega)
    · refine Or.inr ⟨by omega, ?_⟩
      rcases h1' with h1' | ⟨e1, l1⟩
      · rcases h2' with h2' | ⟨e2, l2⟩
        · exact Or.inl (ltB_trans h2' h1')
        · rw [e2]; exact Or.inl h1'
      · rcases h2' with h2' | ⟨e2, l2⟩
        · rw [← e1]; exact Or.inl h2'
        · exact Or.inr ⟨e2.trans e1, by omega⟩

theorem ltB_total {a b : ByteArray} (h : a ≠ b) : ltB a b = true ∨ ltB b a = true := by
  cases h1 : ltB a b with
  | true => exact Or.inl rfl
  | false =>
    cases h2 : ltB b a with
    | true => exact Or.inr rfl
    | false => exact absurd (ltB_conn h1 h2) h
theorem gtS_same {row : List ByteArray} {a b : Tm} (h1 : gtS row a b = false) (h2 : gtS row b a = false) : a.name = b.name ∧ a.args.length = b.args.length := by
  have n1 : ¬ gtS row a b = true := by rw [h1]; simp
  have n2 : ¬ gtS row b a = true := by rw [h2]; simp
  rw [gtS_iff] at n1 n2
  have hr : rankN b.name row = rankN a.name row := by
    rcases Nat.lt_trichotomy (rankN b.name row) (rankN a.name row) with h | h | h
    · exact absurd (Or.inl h) n1
    · exact h
    · exact absurd (Or.inl h) n2
  have hn : a.name = b.name := by
    apply Classical.byContradiction
    intro hne
    rcases ltB_total hne with h | h
    · exact n2 (Or.inr ⟨hr.symm, Or.inl h⟩)
    · exact n1 (Or.inr ⟨hr, Or.inl h⟩)
  refine ⟨hn, ?_⟩
  rcases Nat.lt_trichotomy a.args.length b.args.length with h | h | h
  · exact absurd (Or.inr ⟨hr.symm, Or.inr ⟨hn, h⟩⟩) n2
  · exact h
  · exact absurd (Or.inr ⟨hr, Or.inr ⟨hn.symm, h⟩⟩) n1
/-- At most the same, and greater: greater; but for one symbol. -/
theorem gtS_cases {row : List ByteArray} {a b : Tm} (h : gtS row b a = false) : gtS row a b = true ∨ (a.name = b.name ∧ a.args.length = b.args.length) := by
  cases h1 : gtS row a b with
  | true => exact Or.inl rfl
  | false => exact Or.inr (gtS_same h1 h)
theorem gtS_congr {row : List ByteArray} {a b a' b' : Tm} (h1 : a.name = a'.name) (h2 : a.args.length = a'.args.length) (h3 : b.name = b'.name) (h4 : b.args.length = b'.args.length) : gtS row a b = gtS row a' b' := by
  unfold gtS
  rw [h1, h2, h3, h4]

theorem unl_self : ∀ l : List Tm, unl l l = none
  | [] => rfl
  | t :: l => by rw [unl, if_pos (sameB_iff.2 rfl), unl_self l]
theorem unl_ne : ∀ {a b : List Tm} {x y : Tm}, unl a b = some (x, y) → x ≠ y
  | [], _, x, y, h => by simp [unl] at h
  | _ :: _, [], x, y, h => by simp [unl] at h
  | t :: a, u :: b, x, y, h => by
    rw [unl] at h
    split at h
    · exact unl_ne h
    · rename_i hs
      cases h
      exact fun e => hs (sameB_iff.2 e)
theorem unl_none : ∀ {a b : List Tm}, a.length = b.length → unl a b = none → a = b
  | [], [], _, _ => rfl
  | [], _ :: _, h, _ => by simp at h
  | _ :: _, [], h, _ => by simp at h
  | t :: a, u :: b, h, hu => by
    rw [unl] at hu
    split at hu
    · rename_i hs
      rw [sameB_iff.1 hs, unl_none (by simpa using h) hu]
    · cases hu
theorem unl_swap : ∀ {a b : List Tm} {x y : Tm}, unl a b = some (x, y) → unl b a = some (y, x)
  | [], _, x, y, h => by simp [unl] at h
  | _ :: _, [], x, y, h => by simp [unl] at h
  | t :: a, u :: b, x, y, h => by
    rw [unl] at h
    by_cases e : sameB t u = true
    · rw [if_pos e] at h
      rw [unl, if_pos (sameB_iff.2 (sameB_iff.1 e).symm)]
      exact unl_swap h
    · rw [if_neg e] at h
      cases h
      rw [unl, if_neg fun e' => e (sameB_iff.2 (sameB_iff.1 e').symm)]
/-- Two lists that are first unlike somewhere, and two more: what the outer ones are. -/
theorem unl_two {R : Tm → Tm → Prop} : ∀ {a b c : List Tm} {x y y' z : Tm}, (∀ x ∈ a, ∀ y ∈ b, ∀ z ∈ c, R x y → R y z → R x z ∧ x ≠ z) → a.length = b.length → b.length = c.length → unl a b = some (x, y) → unl b c = some (y', z) → R x y → R y' z → ∃ p q, unl a c = some (p, q) ∧ R p q
  | [], _, _, x, y, y', z, _, _, _, h, _, _, _ => by simp [unl] at h
  | _ :: _, [], _, x, y, y', z, _, _, _, h, _, _, _ => by simp [unl] at h
  | _ :: _, _ :: _, [], x, y, y', z, _, _, _, _, h, _, _ => by simp [unl] at h
  | t :: a, u :: b, v :: c, x, y, y', z, hR, h1, h2, hu, hv, r1, r2 => by
    rw [unl] at hu hv
    by_cases e1 : sameB t u = true
    · rw [if_pos e1] at hu
      rw [sameB_iff] at e1
      subst e1
      by_cases e2 : sameB t v = true
      · rw [if_pos e2] at hv
        rw [unl, if_pos e2]
        exact unl_two (fun x hx y hy z hz => hR x (by simp [hx]) y (by simp [hy]) z (by simp [hz])) (by simpa using h1) (by simpa using h2) hu hv r1 r2
      · rw [if_neg e2] at hv
        cases hv
        rw [unl, if_neg e2]
        exact ⟨_, _, rfl, r2⟩
    · rw [if_neg e1] at hu
      cases hu
      by_cases e2 : sameB u v = true
      · rw [sameB_iff] at e2
        subst e2
        rw [unl, if_neg e1]
        exact ⟨_, _, rfl, r1⟩
      · rw [if_neg e2] at hv
        cases hv
        obtain ⟨h3, h4⟩ := hR _ (by simp) _ (by simp) _ (by simp) r1 r2
        have e3 : ¬ sameB t v = true := fun e => h4 (sameB_iff.1 e)
        rw [unl, if_neg e3]
        exact ⟨_, _, rfl, h3⟩

theorem size_pos (t : Tm) : 0 < sizeL [t] := by
  obtain ⟨s, l⟩ := t
  simp [sizeL]; omega
theorem size_one {s : ByteArray} {l : List Tm} : sizeL [(⟨s, l⟩ : Tm)] = 1 + sizeL l := by simp [sizeL]

/-- The heart: transitive, and none above itself. -/
theorem path_heart (row : List ByteArray) : ∀ n : Nat, (∀ a b c : Tm, sizeL [a] + sizeL [b] + sizeL [c] ≤ n → pathB row a b = true → pathB row b c = true → pathB row a c = true) ∧ (∀ a : Tm, 3 * sizeL [a] ≤ n → pathB row a a = false)
  | 0 => ⟨fun a b c h => by have := size_pos a; omega, fun a h => by have := size_pos a; omega⟩
  | n + 1 => by
    obtain ⟨IT, IR⟩ := path_heart row n
    refine ⟨fun a b c hn hab hbc => ?_, fun a hn => ?_⟩
    · have hab' := (path_iff row a b).1 hab
      have hbc' := (path_iff row b c).1 hbc
      obtain ⟨va, hab'⟩ := hab'
      obtain ⟨vb, hbc'⟩ := hbc'
      rcases hab' with ⟨x, hx, h⟩ | ⟨_, gab, allb, hsym⟩
      · have := size_arg hx
        rcases h with rfl | h
        · exact (path_iff row a c).2 ⟨va, Or.inl ⟨x, hx, Or.inr hbc⟩⟩
        · exact (path_iff row a c).2 ⟨va, Or.inl ⟨x, hx, Or.inr (IT x b c (by omega) h hbc)⟩⟩
      · rcases hbc' with ⟨y, hy, h⟩ | ⟨vc, gbc, allc, hsym'⟩
        · have := size_arg hy
          rcases h with rfl | h
          · exact allb y hy
          · exact IT a y c (by omega) (allb y hy) h
        · have hall : ∀ z ∈ c.args, pathB row a z = true := fun z hz => by
            have := size_arg hz
            exact IT a b z (by omega) hab (allc z hz)
          rcases gtS_cases gab with g1 | ⟨n1, l1⟩
          · have gac : gtS row a c = true := by
              rcases gtS_cases gbc with g2 | ⟨n2, l2⟩
              · exact gtS_trans g1 g2
              · rw [← gtS_congr (a := a) (b := b) rfl rfl n2 l2]; exact g1
            exact (path_iff row a c).2 ⟨va, Or.inr ⟨vc, gtS_asymm gac, hall, Or.inl gac⟩⟩
          · rcases gtS_cases gbc with g2 | ⟨n2, l2⟩
            · have gac : gtS row a c = true := by rw [gtS_congr (a' := b) (b' := c) n1 l1 rfl rfl]; exact g2
              exact (path_iff row a c).2 ⟨va, Or.inr ⟨vc, gtS_asymm gac, hall, Or.inl gac⟩⟩
            · have gca : gtS row c a = false := gtS_irrefl (n2.symm.trans n1.symm) (by omega)
              rcases hsym with h | ⟨x, y, hu, hxy⟩
              · rw [gtS_irrefl n1 l1] at h; cases h
              · rcases hsym' with h | ⟨y', z, hu', hyz⟩
                · rw [gtS_irrefl n2 l2] at h; cases h
                · have key : ∀ x ∈ a.args, ∀ y ∈ b.args, ∀ z ∈ c.args, pathB row x y = true → pathB row y z = true → pathB row x z = true ∧ x ≠ z := by
                    intro x mx y my z mz h1 h2
                    have sx := size_arg mx
                    have sy := size_arg my
                    have sz := size_arg mz
                    have h3 := IT x y z (by omega) h1 h2
                    refine ⟨h3, ?_⟩
                    rintro rfl
                    rcases Nat.le_total (sizeL [x]) (sizeL [y]) with hle | hle
                    · rw [IR x (by omega)] at h3; cases h3
                    · have h4 := IT y x y (by omega) h2 h1
                      rw [IR y (by omega)] at h4; cases h4
                  obtain ⟨p, q, hpq, hR⟩ := unl_two (R := fun u v => pathB row u v = true) key l1 l2 hu hu' hxy hyz
                  exact (path_iff row a c).2 ⟨va, Or.inr ⟨vc, gca, hall, Or.inr ⟨p, q, hpq, hR⟩⟩⟩
    · cases h : pathB row a a with
      | false => rfl
      | true =>
        obtain ⟨va, h⟩ := (path_iff row a a).1 h
        rcases h with ⟨x, hx, h⟩ | ⟨_, _, _, h | ⟨x, y, hu, _⟩⟩
        · have := size_arg hx
          rcases h with rfl | h
          · omega
          · have h1 := IT x a x (by omega) h (path_sub va hx)
            rw [IR x (by omega)] at h1
            exact h1.symm
        · rw [gtS_irrefl rfl rfl] at h; exact h.symm
        · rw [unl_self] at hu; cases hu
theorem path_trans {row : List ByteArray} {a b c : Tm} (h1 : pathB row a b = true) (h2 : pathB row b c = true) : pathB row a c = true := (path_heart row _).1 a b c (Nat.le_refl _) h1 h2
theorem path_irrefl (row : List ByteArray) (a : Tm) : pathB row a a = false := (path_heart row _).2 a (Nat.le_refl _)
theorem path_asymm {row : List ByteArray} {a b : Tm} (h : pathB row a b = true) : pathB row b a = false := by
  cases h1 : pathB row b a with
  | false => rfl
  | true => have := path_trans h h1; rw [path_irrefl] at this; exact this.symm
theorem unl_at : ∀ (p q : List Tm) {a b : Tm}, a ≠ b → unl (p ++ a :: q) (p ++ b :: q) = some (a, b)
  | [], q, a, b, h => by rw [List.nil_append, List.nil_append, unl, if_neg fun e => h (sameB_iff.1 e)]
  | t :: p, q, a, b, h => by rw [List.cons_append, List.cons_append, unl, if_pos (sameB_iff.2 rfl)]; exact unl_at p q h
/-- Kept by what is around. -/
theorem path_ctx {row : List ByteArray} {s : ByteArray} (hs : varB s = false) (p q : List Tm) {a b : Tm} (h : pathB row a b = true) : pathB row ⟨s, p ++ a :: q⟩ ⟨s, p ++ b :: q⟩ = true := by
  have hne : a ≠ b := fun e => by rw [e, path_irrefl] at h; cases h
  refine (path_iff row _ _).2 ⟨hs, Or.inr ⟨hs, gtS_irrefl rfl (by simp), fun y hy => ?_, Or.inr ⟨a, b, unl_at p q hne, h⟩⟩⟩
  have hy' : y ∈ p ++ b :: q := hy
  rw [List.mem_append, List.mem_cons] at hy'
  rcases hy' with hy' | rfl | hy'
  · exact path_sub hs (show y ∈ p ++ a :: q by simp [hy'])
  · exact (path_iff row _ _).2 ⟨hs, Or.inl ⟨a, (show a ∈ p ++ a :: q by simp), Or.inr h⟩⟩
  · exact path_sub hs (show y ∈ p ++ a :: q by simp [hy'])
/-- No variable anywhere. -/
def grd (t : Tm) : Prop := ∀ k ∈ preL [t], varB k.name = false
theorem grd_name {t : Tm} (h : grd t) : varB t.name = false := h t (by obtain ⟨s, l⟩ := t; simp [preL])
theorem pre_arg {t x : Tm} (hx : x ∈ t.args) : ∀ k ∈ preL [x], k ∈ preL [t] := by
  obtain ⟨s, l⟩ := t
  intro k hk
  have e : preL [(⟨s, l⟩ : Tm)] = ⟨s, l⟩ :: (preL l ++ preL []) := by simp [preL]
  obtain ⟨p, q, hpq⟩ := List.append_of_mem (show x ∈ l from hx)
  rw [e, hpq, show p ++ x :: q = p ++ ([x] ++ q) by simp, preL_app, preL_app]
  simp [hk]
theorem grd_arg {t x : Tm} (h : grd t) (hx : x ∈ t.args) : grd x := fun k hk => h k (pre_arg hx k hk)
/-- Of two that are unlike, without variables, one is above the other. -/
theorem path_total (row : List ByteArray) : ∀ (n : Nat) (a b : Tm), sizeL [a] + sizeL [b] ≤ n → grd a → grd b → a = b ∨ pathB row a b = true ∨ pathB row b a = true
  | 0, a, b, h, _, _ => by have := size_pos a; omega
  | n + 1, a, b, h, ga, gb => by
    by_cases h1 : ∃ x ∈ a.args, x = b ∨ pathB row x b = true
    · exact Or.inr (Or.inl ((path_iff row a b).2 ⟨grd_name ga, Or.inl h1⟩))
    by_cases h2 : ∃ y ∈ b.args, y = a ∨ pathB row y a = true
    · exact Or.inr (Or.inr ((path_iff row b a).2 ⟨grd_name gb, Or.inl h2⟩))
    have hb : ∀ x ∈ a.args, pathB row b x = true := fun x hx => by
      have := size_arg hx
      rcases path_total row n x b (by omega) (grd_arg ga hx) gb with e | e | e
      · exact absurd ⟨x, hx, Or.inl e⟩ h1
      · exact absurd ⟨x, hx, Or.inr e⟩ h1
      · exact e
    have ha : ∀ y ∈ b.args, pathB row a y = true := fun y hy => by
      have := size_arg hy
      rcases path_total row n a y (by omega) ga (grd_arg gb hy) with e | e | e
      · exact absurd ⟨y, hy, Or.inl e.symm⟩ h2
      · exact e
      · exact absurd ⟨y, hy, Or.inr e⟩ h2
    cases g1 : gtS row a b with
    | true => exact Or.inr (Or.inl ((path_iff row a b).2 ⟨grd_name ga, Or.inr ⟨grd_name gb, gtS_asymm g1, ha, Or.inl g1⟩⟩))
    | false =>
      cases g2 : gtS row b a with
      | true => exact Or.inr (Or.inr ((path_iff row b a).2 ⟨grd_name gb, Or.inr ⟨grd_name ga, g1, hb, Or.inl g2⟩⟩))
      | false =>
        obtain ⟨hn, hl⟩ := gtS_same g1 g2
        cases hu : unl a.args b.args with
        | none =>
          have := unl_none hl hu
          obtain ⟨s, l⟩ := a
          obtain ⟨s', l'⟩ := b
          simp only at hn this
          exact Or.inl (by rw [hn, this])
        | some p =>
          obtain ⟨x, y⟩ := p
          obtain ⟨mx, my⟩ := unl_mem hu
          have := size_arg mx
          have := size_arg my
          have hne := unl_ne hu
          rcases path_total row n x y (by omega) (grd_arg ga mx) (grd_arg gb my) with e | e | e
          · exact absurd e hne
          · exact Or.inr (Or.inl ((path_iff row a b).2 ⟨grd_name ga, Or.inr ⟨grd_name gb, g2, ha, Or.inr ⟨x, y, hu, e⟩⟩⟩))
          · exact Or.inr (Or.inr ((path_iff row b a).2 ⟨grd_name gb, Or.inr ⟨grd_name ga, g1, hb, Or.inr ⟨y, x, unl_swap hu, e⟩⟩⟩))
#print axioms path_trans
#print axioms path_ctx
#print axioms path_total
end Go.Proofs.Ythlgknglalcggac
