/- The order by paths is kept by bindings; the order by weights is a strict order, kept by bindings and by what is around, total without variables: plain. -/
import Derived.Test.YthlgknglalcggacOp1
import Derived.Test.YthlgknglalcggacOnM
namespace Go.Proofs.Ythlgknglalcggac
open Go.RowKit
set_option linter.unusedSimpArgs false
set_option linter.unusedVariables false

theorem onL_map (s : List Bd) : ∀ l : List Tm, onL s l = l.map (onT s)
  | [] => by simp [onL]
  | t :: l => by rw [onL_cons, onL_map s l]; rfl
/-- Just variables are bound. -/
def VarsB (s : List Bd) : Prop := ∀ n x, forT s n = some x → varB n = true
theorem on_sym {s : List Bd} (hs : VarsB s) {t : Tm} (h : varB t.name = false) : onT s t = ⟨t.name, t.args.map (onT s)⟩ := by
  obtain ⟨n, l⟩ := t
  have hn : forT s n = none := by
    cases hf : forT s n with
    | none => rfl
    | some x =>
      have := hs n x hf
      rw [show varB n = false from h] at this
      cases this
  rw [onT_deep (Or.inr hn), onL_map]
theorem unl_map {f : Tm → Tm} : ∀ {a b : List Tm} {x y : Tm}, unl a b = some (x, y) → f x ≠ f y → unl (a.map f) (b.map f) = some (f x, f y)
  | [], _, x, y, h, _ => by simp [unl] at h
  | _ :: _, [], x, y, h, _ => by simp [unl] at h
  | t :: a, u :: b, x, y, h, hne => by
    rw [unl] at h
    by_cases e : sameB t u = true
    · rw [if_pos e] at h
      rw [sameB_iff] at e
      subst e
      rw [List.map_cons, List.map_cons, unl, if_pos (sameB_iff.2 rfl)]
      exact unl_map h hne
    · rw [if_neg e] at h
      cases h
      rw [List.map_cons, List.map_cons, unl, if_neg fun e' => hne (sameB_iff.1 e')]
/-- Kept by bindings. -/
theorem path_on {row : List ByteArray} {s : List Bd} (hs : VarsB s) : ∀ (n : Nat) (a b : Tm), sizeL [a] + sizeL [b] ≤ n → pathB row a b = true → pathB row (onT s a) (onT s b) = true
  | 0, a, b, h, _ => by have := size_pos a; omega
  | n + 1, a, b, hn, h => by
    obtain ⟨va, h⟩ := (path_iff row a b).1 h
    rw [on_sym hs va]
    rcases h with ⟨x, hx, h⟩ | ⟨vb, gb, all, h⟩
    · refine (path_iff row _ _).2 ⟨va, Or.inl ⟨onT s x, List.mem_map.2 ⟨x, hx, rfl⟩, ?_⟩⟩
      have := size_arg hx
      rcases h with rfl | h
      · exact Or.inl rfl
      · exact Or.inr (path_on hs n x b (by omega) h)
    · rw [on_sym hs vb]
      refine (path_iff row _ _).2 ⟨va, Or.inr ⟨vb, ?_, fun y hy => ?_, ?_⟩⟩
      · rw [← gb]
        exact gtS_congr rfl (by simp) rfl (by simp)
      · obtain ⟨y0, hy0, rfl⟩ := List.mem_map.1 (show y ∈ b.args.map (onT s) from hy)
        have := size_arg hy0
        have h1 := path_on hs n a y0 (by omega) (all y0 hy0)
        rw [on_sym hs va] at h1
        exact h1
      · rcases h with h | ⟨x, y, hu, h⟩
        · refine Or.inl ?_
          rw [← h]
          exact gtS_congr rfl (by simp) rfl (by simp)
        · obtain ⟨mx, my⟩ := unl_mem hu
          have := size_arg mx
          have := size_arg my
          have h1 := path_on hs n x y (by omega) h
          have hne : onT s x ≠ onT s y := fun e => by rw [e, path_irrefl] at h1; cases h1
          exact Or.inr ⟨_, _, unl_map hu hne, h1⟩

/-- What it is to be above, by weights. -/
theorem weight_iff (row : List ByteArray) (a b : Tm) : weightB row a b = true ↔ hasAll a b = true ∧ (sizeL [b] < sizeL [a] ∨ (sizeL [a] = sizeL [b] ∧ varB a.name = false ∧ varB b.name = false ∧
    (gtS row a b = true ∨ (gtS row b a = false ∧ ∃ x y, unl a.args b.args = some (x, y) ∧ weightB row x y = true)))) := by
  rw [weightB_eq]
  by_cases ha : hasAll a b = false
  · simp [ha]
  · have ha' : hasAll a b = true := by simpa using ha
    rw [if_neg ha]
    by_cases hz : sizeL [a] = sizeL [b]
    · rw [if_neg (by simpa using hz)]
      by_cases va : varB a.name = true
      · simp [va, hz]
      · rw [if_neg va]
        have va' : varB a.name = false := by simpa using va
        by_cases vb : varB b.name = true
        · simp [vb, hz]
        · rw [if_neg vb]
          have vb' : varB b.name = false := by simpa using vb
          by_cases ga : gtS row a b = true
          · simp [ga, ha', hz, va', vb']
          · rw [if_neg ga]
            by_cases gb : gtS row b a = true
            · simp [ga, gb, ha', hz, va', vb']
            · rw [if_neg gb]
              have gb' : gtS row b a = false := by simpa using gb
              cases hu : unl a.args b.args with
              | none => simp [ga, gb', ha', hz, va', vb']
              | some p =>
                obtain ⟨x, y⟩ := p
                constructor
                · intro h
                  exact ⟨ha', Or.inr ⟨hz, va', vb', Or.inr ⟨gb', x, y, rfl, h⟩⟩⟩
                · rintro ⟨_, h | ⟨_, _, _, h | ⟨_, x', y', h, h'⟩⟩⟩
                  · omega
                  · exact absurd h ga
                  · cases h; exact h'
    · rw [if_pos hz]
      simp [ha', hz]
theorem weight_irrefl (row : List ByteArray) (a : Tm) : weightB row a a = false := by
  cases h : weightB row a a with
  | false => rfl
  | true =>
    obtain ⟨_, h | ⟨_, _, _, h | ⟨_, x, y, h, _⟩⟩⟩ := (weight_iff row a a).1 h
    · omega
    · rw [gtS_irrefl rfl rfl] at h; exact h.symm
    · rw [unl_self] at h; cases h
theorem hasAll_trans {a b c : Tm} (h1 : hasAll a b = true) (h2 : hasAll b c = true) : hasAll a c = true := by
  rw [hasAll_iff] at *
  exact fun v hv => Nat.le_trans (h2 v hv) (h1 v hv)
theorem weight_trans0 (row : List ByteArray) : ∀ (n : Nat) (a b c : Tm), sizeL [a] ≤ n → weightB row a b = true → weightB row b c = true → weightB row a c = true
  | 0, a, b, c, h, _, _ => by have := size_pos a; omega
  | n + 1, a, b, c, hn, h1, h2 => by
    obtain ⟨p1, h1⟩ := (weight_iff row a b).1 h1
    obtain ⟨p2, h2⟩ := (weight_iff row b c).1 h2
    refine (weight_iff row a c).2 ⟨hasAll_trans p1 p2, ?_⟩
    rcases h1 with h1 | ⟨z1, va, vb, h1⟩
    · rcases h2 with h2 | ⟨z2, _⟩
      · exact Or.inl (by omega)
      · exact Or.inl (by omega)
    · rcases h2 with h2 | ⟨z2, _, vc, h2⟩
      · exact Or.inl (by omega)
      · refine Or.inr ⟨by omega, va, vc, ?_⟩
        have g1 : gtS row a b = true ∨ (a.name = b.name ∧ a.args.length = b.args.length) := by
          rcases h1 with h | ⟨h, _⟩
          · exact Or.inl h
          · exact gtS_cases h
        have g2 : gtS row b c = true ∨ (b.name = c.name ∧ b.args.length = c.args.length) := by
          rcases h2 with h | ⟨h, _⟩
          · exact Or.inl h
          · exact gtS_cases h
        rcases g1 with g1 | ⟨n1, l1⟩
        · rcases g2 with g2 | ⟨n2, l2⟩
          · exact Or.inl (gtS_trans g1 g2)
          · exact Or.inl (by rw [← gtS_congr (a := a) (b := b) rfl rfl n2 l2]; exact g1)
        · rcases g2 with g2 | ⟨n2, l2⟩
          · exact Or.inl (by rw [gtS_congr (a' := b) (b' := c) n1 l1 rfl rfl]; exact g2)
          · rcases h1 with h | ⟨_, x, y, hu, hxy⟩
            · rw [gtS_irrefl n1 l1] at h; cases h
            · rcases h2 with h | ⟨_, y', z, hu', hyz⟩
              · rw [gtS_irrefl n2 l2] at h; cases h
              · obtain ⟨p, q, hpq, hR⟩ := unl_two (R := fun u v => weightB row u v = true) (fun x mx y my z mz h1 h2 => by
                  have := size_arg mx
                  have h3 := weight_trans0 row n x y z (by omega) h1 h2
                  exact ⟨h3, by rintro rfl; rw [weight_irrefl] at h3; cases h3⟩) l1 l2 hu hu' hxy hyz
                exact Or.inr ⟨gtS_irrefl (n2.symm.trans n1.symm) (by omega), p, q, hpq, hR⟩
theorem weight_trans {row : List ByteArray} {a b c : Tm} (h1 : weightB row a b = true) (h2 : weightB row b c = true) : weightB row a c = true := weight_trans0 row _ a b c (Nat.le_refl _) h1 h2
theorem weight_asymm {row : List ByteArray} {a b : Tm} (h : weightB row a b = true) : weightB row b a = false := by
  cases h1 : weightB row b a with
  | false => rfl
  | true => have := weight_trans h h1; rw [weight_irrefl] at this; exact this.symm
theorem oft_app (v : ByteArray) (a b : List Tm) : oftL v (a ++ b) = oftL v a + oftL v b := by
  unfold oftL
  rw [preL_app, List.filter_append, List.length_append]
theorem oft_one (v s : ByteArray) (l : List Tm) : oftL v [(⟨s, l⟩ : Tm)] = (if s = v then 1 else 0) + oftL v l := by
  unfold oftL
  have e : preL [(⟨s, l⟩ : Tm)] = ⟨s, l⟩ :: preL l := by simp [preL]
  rw [e, List.filter_cons]
  by_cases h : s = v
  · simp [h]; omega
  · simp [h]
theorem oft_mid (v s : ByteArray) (p q : List Tm) (a : Tm) : oftL v [(⟨s, p ++ a :: q⟩ : Tm)] = (if s = v then 1 else 0) + oftL v p + oftL v [a] + oftL v q := by
  rw [oft_one, show p ++ a :: q = p ++ ([a] ++ q) by simp, oft_app, oft_app]; omega
theorem size_mid (s : ByteArray) (p q : List Tm) (a : Tm) : sizeL [(⟨s, p ++ a :: q⟩ : Tm)] = 1 + sizeL p + sizeL [a] + sizeL q := by
  rw [size_one, show p ++ a :: q = p ++ ([a] ++ q) by simp, sizeL_append, sizeL_append]; omega
/-- Kept by what is around. -/
theorem weight_ctx {row : List ByteArray} {s : ByteArray} (hs : varB s = false) (p q : List Tm) {a b : Tm} (h : weightB row a b = true) : weightB row ⟨s, p ++ a :: q⟩ ⟨s, p ++ b :: q⟩ = true := by
  have hne : a ≠ b := fun e => by rw [e, weight_irrefl] at h; cases h
  have h' := (weight_iff row a b).1 h
  obtain ⟨p1, h1⟩ := h'
  refine (weight_iff row _ _).2 ⟨(hasAll_iff _ _).2 fun v hv => ?_, ?_⟩
  · have := (hasAll_iff a b).1 p1 v hv
    rw [oft_mid, oft_mid]; omega
  · rw [size_mid, size_mid]
    rcases h1 with h1 | ⟨z, _⟩
    · exact Or.inl (by omega)
    · exact Or.inr ⟨by omega, hs, hs, Or.inr ⟨gtS_irrefl rfl (by simp), a, b, unl_at p q hne, h⟩⟩
theorem weight_sub {row : List ByteArray} {s : ByteArray} (p q : List Tm) (a : Tm) : weightB row ⟨s, p ++ a :: q⟩ a = true := by
  refine (weight_iff row _ _).2 ⟨(hasAll_iff _ _).2 fun v hv => ?_, Or.inl ?_⟩
  · rw [oft_mid]; omega
  · rw [size_mid]; omega
theorem grd_oft {t : Tm} (h : grd t) {v : ByteArray} (hv : varB v = true) : oftL v [t] = 0 := oft_none fun k hk e => by
  have := h k hk
  rw [e, hv] at this; cases this
theorem grd_all {a b : Tm} (hb : grd b) : hasAll a b = true := (hasAll_iff a b).2 fun v hv => by rw [grd_oft hb hv]; exact Nat.zero_le _
theorem weight_total (row : List ByteArray) : ∀ (n : Nat) (a b : Tm), sizeL [a] ≤ n → grd a → grd b → a = b ∨ weightB row a b = true ∨ weightB row b a = true
  | 0, a, b, h, _, _ => by have := size_pos a; omega
  | n + 1, a, b, h, ga, gb => by
    rcases Nat.lt_trichotomy (sizeL [a]) (sizeL [b]) with z | z | z
    · exact Or.inr (Or.inr ((weight_iff row b a).2 ⟨grd_all ga, Or.inl z⟩))
    · cases g1 : gtS row a b with
      | true => exact Or.inr (Or.inl ((weight_iff row a b).2 ⟨grd_all gb, Or.inr ⟨z, grd_name ga, grd_name gb, Or.inl g1⟩⟩))
      | false =>
        cases g2 : gtS row b a with
        | true => exact Or.inr (Or.inr ((weight_iff row b a).2 ⟨grd_all ga, Or.inr ⟨z.symm, grd_name gb, grd_name ga, Or.inl g2⟩⟩))
        | false =>
          obtain ⟨hn, hl⟩ := gtS_same g1 g2
          cases hu : unl a.args b.args with
          | none =>
            have := unl_none hl hu
            obtain ⟨s, l⟩ := a
            obtain ⟨s', l'⟩ := b
            simp only at hn this
            exact Or.inl (by rw [hn, this])
          | some p =>
            obtain ⟨x, y⟩ := p
            obtain ⟨mx, my⟩ := unl_mem hu
            have := size_arg mx
            have hne := unl_ne hu
            rcases weight_total row n x y (by omega) (grd_arg ga mx) (grd_arg gb my) with e | e | e
            · exact absurd e hne
            · exact Or.inr (Or.inl ((weight_iff row a b).2 ⟨grd_all gb, Or.inr ⟨z, grd_name ga, grd_name gb, Or.inr ⟨g2, x, y, hu, e⟩⟩⟩))
            · exact Or.inr (Or.inr ((weight_iff row b a).2 ⟨grd_all ga, Or.inr ⟨z.symm, grd_name gb, grd_name ga, Or.inr ⟨g1, y, x, unl_swap hu, e⟩⟩⟩))
    · exact Or.inr (Or.inl ((weight_iff row a b).2 ⟨grd_all gb, Or.inl z⟩))

/-- How often a name stands in a list. -/
def cnB (v : ByteArray) (L : List ByteArray) : Nat := (L.filter fun u => decide (u = v)).length
theorem cnB_cons (v u : ByteArray) (L : List ByteArray) : cnB v (u :: L) = (if u = v then 1 else 0) + cnB v L := by
  unfold cnB
  rw [List.filter_cons]
  by_cases h : u = v
  · simp [h]; omega
  · simp [h]
theorem cnB_app (v : ByteArray) (L K : List ByteArray) : cnB v (L ++ K) = cnB v L + cnB v K := by
  unfold cnB
  rw [List.filter_append, List.length_append]
theorem cnB_mem {v : ByteArray} {L : List ByteArray} (h : 0 < cnB v L) : v ∈ L := by
  unfold cnB at h
  obtain ⟨x, hx⟩ := List.exists_mem_of_length_pos h
  rw [List.mem_filter] at hx
  have : x = v := by simpa using hx.2
  rw [← this]; exact hx.1
theorem sum_le_of {f : ByteArray → Nat} : ∀ (B A : List ByteArray), (∀ v, cnB v B ≤ cnB v A) → (B.map f).sum ≤ (A.map f).sum
  | [], A, _ => by simp
  | u :: B, A, h => by
    have h1 := h u
    rw [cnB_cons, if_pos rfl] at h1
    obtain ⟨p, q, e⟩ := List.append_of_mem (cnB_mem (v := u) (L := A) (by omega))
    have h2 := sum_le_of (f := f) B (p ++ q) fun v => by
      have h3 := h v
      rw [e, cnB_cons, cnB_app, cnB_cons] at h3
      rw [cnB_app]; omega
    rw [e]
    simp only [List.map_cons, List.sum_cons, List.map_append, List.sum_append] at h2 ⊢
    omega
/-- The variables, as often as they stand. -/
def vlL (l : List Tm) : List ByteArray := ((preL l).map (·.name)).filter varB
theorem vlL_app (a b : List Tm) : vlL (a ++ b) = vlL a ++ vlL b := by
  unfold vlL
  rw [preL_app, List.map_append, List.filter_append]
theorem vlL_one (s : ByteArray) (l : List Tm) : vlL [(⟨s, l⟩ : Tm)] = if varB s = true then s :: vlL l else vlL l := by
  unfold vlL
  have e : preL [(⟨s, l⟩ : Tm)] = ⟨s, l⟩ :: preL l := by simp [preL]
  rw [e, List.map_cons, List.filter_cons]
theorem oft_vl {v : ByteArray} (hv : varB v = true) (l : List Tm) : oftL v l = cnB v (vlL l) := by
  unfold oftL cnB vlL
  rw [List.filter_filter]
  generalize preL l = k
  induction k with
  | nil => rfl
  | cons t k ih =>
    rw [List.filter_cons, List.map_cons, List.filter_cons]
    by_cases h : t.name = v
    · simp [h, hv, ih]
    · simp [h, ih]
theorem all_vl {a b : Tm} (h : hasAll a b = true) (v : ByteArray) : cnB v (vlL [b]) ≤ cnB v (vlL [a]) := by
  by_cases hv : varB v = true
  · rw [← oft_vl hv, ← oft_vl hv]
    exact (hasAll_iff a b).1 h v hv
  · have : cnB v (vlL [b]) = 0 := by
      cases hc : cnB v (vlL [b]) with
      | zero => rfl
      | succ n =>
        have := cnB_mem (v := v) (L := vlL [b]) (by omega)
        unfold vlL at this
        rw [List.mem_filter] at this
        exact absurd this.2 hv
    omega
/-- Variables have none below them. -/
def Flat (l : List Tm) : Prop := ∀ k ∈ preL l, varB k.name = true → k.args = []
theorem Flat.cons {t : Tm} {r : List Tm} (h : Flat (t :: r)) : Flat [t] ∧ Flat r := by
  have e : preL (t :: r) = preL [t] ++ preL r := preL_app [t] r
  exact ⟨fun k hk => h k (by rw [e]; simp [hk]), fun k hk => h k (by rw [e]; simp [hk])⟩
theorem Flat.kids {s : ByteArray} {l : List Tm} (h : Flat [(⟨s, l⟩ : Tm)]) : Flat l := fun k hk => h k (by simp [preL, hk])
/-- How often a variable stands once bindings are put in, and how many knots there are. -/
theorem on_sums {s : List Bd} (hs : VarsB s) {v : ByteArray} (hv : varB v = true) : ∀ l : List Tm, Flat l → oftL v (onL s l) = ((vlL l).map fun u => oftL v [onT s ⟨u, []⟩]).sum ∧ sizeL (onL s l) = sizeL l + ((vlL l).map fun u => sizeL [onT s ⟨u, []⟩] - 1).sum := by
  intro l
  induction l using Tm.indL with
  | h0 => intro _; simp [onL, vlL, preL, oftL, sizeL]
  | h n a r iha ihr =>
    intro hf
    obtain ⟨f1, f2⟩ := hf.cons
    obtain ⟨a1, a2⟩ := iha f1.kids
    obtain ⟨r1, r2⟩ := ihr f2
    have e1 : vlL (⟨n, a⟩ :: r) = vlL [(⟨n, a⟩ : Tm)] ++ vlL r := vlL_app [_] r
    have e2 : sizeL ((⟨n, a⟩ : Tm) :: r) = sizeL [(⟨n, a⟩ : Tm)] + sizeL r := sizeL_append [_] r
    rw [onL_cons, show onT s ⟨n, a⟩ :: onL s r = [onT s ⟨n, a⟩] ++ onL s r from rfl, oft_app, sizeL_append, e1, e2, List.map_append, List.map_append, List.sum_append, List.sum_append, r1, r2]
    by_cases vn : varB n = true
    · have ha : a = [] := f1 ⟨n, a⟩ (by simp [preL]) vn
      subst ha
      have e3 : vlL [(⟨n, []⟩ : Tm)] = [n] := by rw [vlL_one, if_pos vn]; simp [vlL, preL]
      rw [e3]
      have := size_pos (onT s ⟨n, []⟩)
      have e4 : sizeL [(⟨n, []⟩ : Tm)] = 1 := by simp [sizeL]
      simp only [List.map_cons, List.map_nil, List.sum_cons, List.sum_nil]
      omega
    · have vn' : varB n = false := by simpa using vn
      have hne : n ≠ v := fun e => vn (by rw [e]; exact hv)
      have e3 : onT s ⟨n, a⟩ = ⟨n, onL s a⟩ := by rw [on_sym hs (t := ⟨n, a⟩) vn', onL_map]
      rw [e3, oft_one, if_neg hne, vlL_one, if_neg vn, size_one, size_one, a1, a2]
      omega
theorem flat_arg {t x : Tm} (h : Flat [t]) (hx : x ∈ t.args) : Flat [x] := fun k hk => h k (pre_arg hx k hk)
theorem weight_on {row : List ByteArray} {s : List Bd} (hs : VarsB s) : ∀ (n : Nat) (a b : Tm), sizeL [a] ≤ n → Flat [a] → Flat [b] → weightB row a b = true → weightB row (onT s a) (onT s b) = true
  | 0, a, b, h, _, _, _ => by have := size_pos a; omega
  | n + 1, a, b, hn, fa, fb, h => by
    obtain ⟨p, h⟩ := (weight_iff row a b).1 h
    have hc := all_vl p
    have one : ∀ t : Tm, onL s [t] = [onT s t] := fun t => by rw [onL_cons]; simp [onL]
    have hall : hasAll (onT s a) (onT s b) = true := (hasAll_iff _ _).2 fun v hv => by
      have h1 := (on_sums hs hv [a] fa).1
      have h2 := (on_sums hs hv [b] fb).1
      rw [one] at h1 h2
      rw [h1, h2]
      exact sum_le_of _ _ hc
    obtain ⟨v0, hv0⟩ : ∃ v : ByteArray, varB v = true := ⟨⟨#[65]⟩, by decide⟩
    have z1 := (on_sums hs hv0 [a] fa).2
    have z2 := (on_sums hs hv0 [b] fb).2
    rw [one] at z1 z2
    have zz := sum_le_of (f := fun u => sizeL [onT s ⟨u, []⟩] - 1) _ _ hc
    refine (weight_iff row _ _).2 ⟨hall, ?_⟩
    rcases h with h | ⟨z, va, vb, h⟩
    · exact Or.inl (by omega)
    · by_cases hz : sizeL [onT s b] < sizeL [onT s a]
      · exact Or.inl hz
      · refine Or.inr ⟨by omega, ?_⟩
        rw [on_sym hs va, on_sym hs vb]
        refine ⟨va, vb, ?_⟩
        have e1 : ∀ a b : Tm, gtS row ⟨a.name, a.args.map (onT s)⟩ ⟨b.name, b.args.map (onT s)⟩ = gtS row a b := fun a b => gtS_congr rfl (by simp) rfl (by simp)
        rw [e1, e1]
        rcases h with h | ⟨g, x, y, hu, h⟩
        · exact Or.inl h
        · obtain ⟨mx, my⟩ := unl_mem hu
          have := size_arg mx
          have h1 := weight_on hs n x y (by omega) (flat_arg fa mx) (flat_arg fb my) h
          have hne : onT s x ≠ onT s y := fun e => by rw [e, weight_irrefl] at h1; cases h1
          exact Or.inr ⟨g, _, _, unl_map hu hne, h1⟩
#print axioms path_on
#print axioms weight_on
#print axioms weight_ctx
#print axioms weight_total
end Go.Proofs.Ythlgknglalcggac
