/- Several texts in one. -/
import Derived.Test.YteghhdogmdpbpakGreatZTopEmbedOwn
import Derived.Test.YteghhdogmdpbpakGreatOnM
import Derived.WideMake
import Derived.Deep.RegionLaw
import Derived.Sort.Grow
import Derived.Test.YteghhdogmdpbpakGreatRows
import Derived.BigQuiet
import Derived.Deep.RegionHeld
import Derived.Deep.RegionHeld3
import Derived.RegionTactic
import Derived.ChangeAlike
import Derived.WideKeyPair
import Derived.Maps.RangeRun
import Derived.Lib.Builder
import Derived.Lib.AppendStr
import Derived.Deep.AppendSrc
import Derived.Test.YteghhdogmdpbpakGreatShelf
import Derived.Ground.SlgnProg
import Derived.Shelf.SlicesE.Clone
/- The order by paths is kept by bindings; the order by weights is a strict order, kept by bindings and by what is around, total without variables: plain. -/
namespace Go.Proofs.YteghhdogmdpbpakGreat
open Go.RowKit
set_option linter.unusedSimpArgs false
set_option linter.unusedVariables false

theorem onL_map (s : List Bd) : ∀ l : List Tm, onL s l = l.map (onT s)
  | [] => by simp [onL]
  | t :: l => by rw [onL_cons, onL_map s l]; rfl
/-- Just variables are bound. -/
def VarsB (s : List Bd) : Prop := ∀ n x, forT s n = some x → varB n = true
theorem on_sym {s : List Bd} (hs : VarsB s) {t : Tm} (h : varB t.name = false) : onT s t = ⟨t.name, t.args.map (onT s)⟩ := by
  obtain ⟨n, l⟩ := t
  have hn : forT s n = none := by
    cases hf : forT s n with
    | none => rfl
    | some x =>
      have := hs n x hf
      rw [show varB n = false from h] at this
      cases this
  rw [onT_deep (Or.inr hn), onL_map]
theorem unl_map {f : Tm → Tm} : ∀ {a b : List Tm} {x y : Tm}, unl a b = some (x, y) → f x ≠ f y → unl (a.map f) (b.map f) = some (f x, f y)
  | [], _, x, y, h, _ => by simp [unl] at h
  | _ :: _, [], x, y, h, _ => by simp [unl] at h
  | t :: a, u :: b, x, y, h, hne => by
    rw [unl] at h
    by_cases e : sameB t u = true
    · rw [if_pos e] at h
      rw [sameB_iff] at e
      subst e
      rw [List.map_cons, List.map_cons, unl, if_pos (sameB_iff.2 rfl)]
      exact unl_map h hne
    · rw [if_neg e] at h
      cases h
      rw [List.map_cons, List.map_cons, unl, if_neg fun e' => hne (sameB_iff.1 e')]
/-- Kept by bindings. -/
theorem path_on {row : List ByteArray} {s : List Bd} (hs : VarsB s) : ∀ (n : Nat) (a b : Tm), sizeL [a] + sizeL [b] ≤ n → pathB row a b = true → pathB row (onT s a) (onT s b) = true
  | 0, a, b, h, _ => by have := size_pos a; omega
  | n + 1, a, b, hn, h => by
    obtain ⟨va, h⟩ := (path_iff row a b).1 h
    rw [on_sym hs va]
    rcases h with ⟨x, hx, h⟩ | ⟨vb, gb, all, h⟩
    · refine (path_iff row _ _).2 ⟨va, Or.inl ⟨onT s x, List.mem_map.2 ⟨x, hx, rfl⟩, ?_⟩⟩
      have := size_arg hx
      rcases h with rfl | h
      · exact Or.inl rfl
      · exact Or.inr (path_on hs n x b (by omega) h)
    · rw [on_sym hs vb]
      refine (path_iff row _ _).2 ⟨va, Or.inr ⟨vb, ?_, fun y hy => ?_, ?_⟩⟩
      · rw [← gb]
        exact gtS_congr rfl (by simp) rfl (by simp)
      · obtain ⟨y0, hy0, rfl⟩ := List.mem_map.1 (show y ∈ b.args.map (onT s) from hy)
        have := size_arg hy0
        have h1 := path_on hs n a y0 (by omega) (all y0 hy0)
        rw [on_sym hs va] at h1
        exact h1
      · rcases h with h | ⟨x, y, hu, h⟩
        · refine Or.inl ?_
          rw [← h]
          exact gtS_congr rfl (by simp) rfl (by simp)
        · obtain ⟨mx, my⟩ := unl_mem hu
          have := size_arg mx
          have := size_arg my
          have h1 := path_on hs n x y (by omega) h
          have hne : onT s x ≠ onT s y := fun e => by rw [e, path_irrefl] at h1; cases h1
          exact Or.inr ⟨_, _, unl_map hu hne, h1⟩

/-- What it is to be above, by weights. -/
theorem weight_iff (row : List ByteArray) (a b : Tm) : weightB row a b = true ↔ hasAll a b = true ∧ (sizeL [b] < sizeL [a] ∨ (sizeL [a] = sizeL [b] ∧ varB a.name = false ∧ varB b.name = false ∧
    (gtS row a b = true ∨ (gtS row b a = false ∧ ∃ x y, unl a.args b.args = some (x, y) ∧ weightB row x y = true)))) := by
  rw [weightB_eq]
  by_cases ha : hasAll a b = false
  · simp [ha]
  · have ha' : hasAll a b = true := by simpa using ha
    rw [if_neg ha]
    by_cases hz : sizeL [a] = sizeL [b]
    · rw [if_neg (by simpa using hz)]
      by_cases va : varB a.name = true
      · simp [va, hz]
      · rw [if_neg va]
        have va' : varB a.name = false := by simpa using va
        by_cases vb : varB b.name = true
        · simp [vb, hz]
        · rw [if_neg vb]
          have vb' : varB b.name = false := by simpa using vb
          by_cases ga : gtS row a b = true
          · simp [ga, ha', hz, va', vb']
          · rw [if_neg ga]
            by_cases gb : gtS row b a = true
            · simp [ga, gb, ha', hz, va', vb']
            · rw [if_neg gb]
              have gb' : gtS row b a = false := by simpa using gb
              cases hu : unl a.args b.args with
              | none => simp [ga, gb', ha', hz, va', vb']
              | some p =>
                obtain ⟨x, y⟩ := p
                constructor
                · intro h
                  exact ⟨ha', Or.inr ⟨hz, va', vb', Or.inr ⟨gb', x, y, rfl, h⟩⟩⟩
                · rintro ⟨_, h | ⟨_, _, _, h | ⟨_, x', y', h, h'⟩⟩⟩
                  · omega
                  · exact absurd h ga
                  · cases h; exact h'
    · rw [if_pos hz]
      simp [ha', hz]
theorem weight_irrefl (row : List ByteArray) (a : Tm) : weightB row a a = false := by
  cases h : weightB row a a with
  | false => rfl
  | true =>
    obtain ⟨_, h | ⟨_, _, _, h | ⟨_, x, y, h, _⟩⟩⟩ := (weight_iff row a a).1 h
    · omega
    · rw [gtS_irrefl rfl rfl] at h; exact h.symm
    · rw [unl_self] at h; cases h
theorem hasAll_trans {a b c : Tm} (h1 : hasAll a b = true) (h2 : hasAll b c = true) : hasAll a c = true := by
  rw [hasAll_iff] at *
  exact fun v hv => Nat.le_trans (h2 v hv) (h1 v hv)
theorem weight_trans0 (row : List ByteArray) : ∀ (n : Nat) (a b c : Tm), sizeL [a] ≤ n → weightB row a b = true → weightB row b c = true → weightB row a c = true
  | 0, a, b, c, h, _, _ => by have := size_pos a; omega
  | n + 1, a, b, c, hn, h1, h2 => by
    obtain ⟨p1, h1⟩ := (weight_iff row a b).1 h1
    obtain ⟨p2, h2⟩ := (weight_iff row b c).1 h2
    refine (weight_iff row a c).2 ⟨hasAll_trans p1 p2, ?_⟩
    rcases h1 with h1 | ⟨z1, va, vb, h1⟩
    · rcases h2 with h2 | ⟨z2, _⟩
      · exact Or.inl (by omega)
      · exact Or.inl (by omega)
    · rcases h2 with h2 | ⟨z2, _, vc, h2⟩
      · exact Or.inl (by omega)
      · refine Or.inr ⟨by omega, va, vc, ?_⟩
        have g1 : gtS row a b = true ∨ (a.name = b.name ∧ a.args.length = b.args.length) := by
          rcases h1 with h | ⟨h, _⟩
          · exact Or.inl h
          · exact gtS_cases h
        have g2 : gtS row b c = true ∨ (b.name = c.name ∧ b.args.length = c.args.length) := by
          rcases h2 with h | ⟨h, _⟩
          · exact Or.inl h
          · exact gtS_cases h
        rcases g1 with g1 | ⟨n1, l1⟩
        · rcases g2 with g2 | ⟨n2, l2⟩
          · exact Or.inl (gtS_trans g1 g2)
          · exact Or.inl (by rw [← gtS_congr (a := a) (b := b) rfl rfl n2 l2]; exact g1)
        · rcases g2 with g2 | ⟨n2, l2⟩
          · exact Or.inl (by rw [gtS_congr (a' := b) (b' := c) n1 l1 rfl rfl]; exact g2)
          · rcases h1 with h | ⟨_, x, y, hu, hxy⟩
            · rw [gtS_irrefl n1 l1] at h; cases h
            · rcases h2 with h | ⟨_, y', z, hu', hyz⟩
              · rw [gtS_irrefl n2 l2] at h; cases h
              · obtain ⟨p, q, hpq, hR⟩ := unl_two (R := fun u v => weightB row u v = true) (fun x mx y my z mz h1 h2 => by
                  have := size_arg mx
                  have h3 := weight_trans0 row n x y z (by omega) h1 h2
                  exact ⟨h3, by rintro rfl; rw [weight_irrefl] at h3; cases h3⟩) l1 l2 hu hu' hxy hyz
                exact Or.inr ⟨gtS_irrefl (n2.symm.trans n1.symm) (by omega), p, q, hpq, hR⟩
theorem weight_trans {row : List ByteArray} {a b c : Tm} (h1 : weightB row a b = true) (h2 : weightB row b c = true) : weightB row a c = true := weight_trans0 row _ a b c (Nat.le_refl _) h1 h2
theorem weight_asymm {row : List ByteArray} {a b : Tm} (h : weightB row a b = true) : weightB row b a = false := by
  cases h1 : weightB row b a with
  | false => rfl
  | true => have := weight_trans h h1; rw [weight_irrefl] at this; exact this.symm
theorem oft_app (v : ByteArray) (a b : List Tm) : oftL v (a ++ b) = oftL v a + oftL v b := by
  unfold oftL
  rw [preL_app, List.filter_append, List.length_append]
theorem oft_one (v s : ByteArray) (l : List Tm) : oftL v [(⟨s, l⟩ : Tm)] = (if s = v then 1 else 0) + oftL v l := by
  unfold oftL
  have e : preL [(⟨s, l⟩ : Tm)] = ⟨s, l⟩ :: preL l := by simp [preL]
  rw [e, List.filter_cons]
  by_cases h : s = v
  · simp [h]; omega
  · simp [h]
theorem oft_mid (v s : ByteArray) (p q : List Tm) (a : Tm) : oftL v [(⟨s, p ++ a :: q⟩ : Tm)] = (if s = v then 1 else 0) + oftL v p + oftL v [a] + oftL v q := by
  rw [oft_one, show p ++ a :: q = p ++ ([a] ++ q) by simp, oft_app, oft_app]; omega
theorem size_mid (s : ByteArray) (p q : List Tm) (a : Tm) : sizeL [(⟨s, p ++ a :: q⟩ : Tm)] = 1 + sizeL p + sizeL [a] + sizeL q := by
  rw [size_one, show p ++ a :: q = p ++ ([a] ++ q) by simp, sizeL_append, sizeL_append]; omega
/-- Kept by what is around. -/
theorem weight_ctx {row : List ByteArray} {s : ByteArray} (hs : varB s = false) (p q : List Tm) {a b : Tm} (h : weightB row a b = true) : weightB row ⟨s, p ++ a :: q⟩ ⟨s, p ++ b :: q⟩ = true := by
  have hne : a ≠ b := fun e => by rw [e, weight_irrefl] at h; cases h
  have h' := (weight_iff row a b).1 h
  obtain ⟨p1, h1⟩ := h'
  refine (weight_iff row _ _).2 ⟨(hasAll_iff _ _).2 fun v hv => ?_, ?_⟩
  · have := (hasAll_iff a b).1 p1 v hv
    rw [oft_mid, oft_mid]; omega
  · rw [size_mid, size_mid]
    rcases h1 with h1 | ⟨z, _⟩
    · exact Or.inl (by omega)
    · exact Or.inr ⟨by omega, hs, hs, Or.inr ⟨gtS_irrefl rfl (by simp), a, b, unl_at p q hne, h⟩⟩
theorem weight_sub {row : List ByteArray} {s : ByteArray} (p q : List Tm) (a : Tm) : weightB row ⟨s, p ++ a :: q⟩ a = true := by
  refine (weight_iff row _ _).2 ⟨(hasAll_iff _ _).2 fun v hv => ?_, Or.inl ?_⟩
  · rw [oft_mid]; omega
  · rw [size_mid]; omega
theorem grd_oft {t : Tm} (h : grd t) {v : ByteArray} (hv : varB v = true) : oftL v [t] = 0 := oft_none fun k hk e => by
  have := h k hk
  rw [e, hv] at this; cases this
theorem grd_all {a b : Tm} (hb : grd b) : hasAll a b = true := (hasAll_iff a b).2 fun v hv => by rw [grd_oft hb hv]; exact Nat.zero_le _
theorem weight_total (row : List ByteArray) : ∀ (n : Nat) (a b : Tm), sizeL [a] ≤ n → grd a → grd b → a = b ∨ weightB row a b = true ∨ weightB row b a = true
  | 0, a, b, h, _, _ => by have := size_pos a; omega
  | n + 1, a, b, h, ga, gb => by
    rcases Nat.lt_trichotomy (sizeL [a]) (sizeL [b]) with z | z | z
    · exact Or.inr (Or.inr ((weight_iff row b a).2 ⟨grd_all ga, Or.inl z⟩))
    · cases g1 : gtS row a b with
      | true => exact Or.inr (Or.inl ((weight_iff row a b).2 ⟨grd_all gb, Or.inr ⟨z, grd_name ga, grd_name gb, Or.inl g1⟩⟩))
      | false =>
        cases g2 : gtS row b a with
        | true => exact Or.inr (Or.inr ((weight_iff row b a).2 ⟨grd_all ga, Or.inr ⟨z.symm, grd_name gb, grd_name ga, Or.inl g2⟩⟩))
        | false =>
          obtain ⟨hn, hl⟩ := gtS_same g1 g2
          cases hu : unl a.args b.args with
          | none =>
            have := unl_none hl hu
            obtain ⟨s, l⟩ := a
            obtain ⟨s', l'⟩ := b
            simp only at hn this
            exact Or.inl (by rw [hn, this])
          | some p =>
            obtain ⟨x, y⟩ := p
            obtain ⟨mx, my⟩ := unl_mem hu
            have := size_arg mx
            have hne := unl_ne hu
            rcases weight_total row n x y (by omega) (grd_arg ga mx) (grd_arg gb my) with e | e | e
            · exact absurd e hne
            · exact Or.inr (Or.inl ((weight_iff row a b).2 ⟨grd_all gb, Or.inr ⟨z, grd_name ga, grd_name gb, Or.inr ⟨g2, x, y, hu, e⟩⟩⟩))
            · exact Or.inr (Or.inr ((weight_iff row b a).2 ⟨grd_all ga, Or.inr ⟨z.symm, grd_name gb, grd_name ga, Or.inr ⟨g1, y, x, unl_swap hu, e⟩⟩⟩))
    · exact Or.inr (Or.inl ((weight_iff row a b).2 ⟨grd_all gb, Or.inl z⟩))

/-- How often a name stands in a list. -/
def cnB (v : ByteArray) (L : List ByteArray) : Nat := (L.filter fun u => decide (u = v)).length
theorem cnB_cons (v u : ByteArray) (L : List ByteArray) : cnB v (u :: L) = (if u = v then 1 else 0) + cnB v L := by
  unfold cnB
  rw [List.filter_cons]
  by_cases h : u = v
  · simp [h]; omega
  · simp [h]
theorem cnB_app (v : ByteArray) (L K : List ByteArray) : cnB v (L ++ K) = cnB v L + cnB v K := by
  unfold cnB
  rw [List.filter_append, List.length_append]
theorem cnB_mem {v : ByteArray} {L : List ByteArray} (h : 0 < cnB v L) : v ∈ L := by
  unfold cnB at h
  obtain ⟨x, hx⟩ := List.exists_mem_of_length_pos h
  rw [List.mem_filter] at hx
  have : x = v := by simpa using hx.2
  rw [← this]; exact hx.1
theorem sum_le_of {f : ByteArray → Nat} : ∀ (B A : List ByteArray), (∀ v, cnB v B ≤ cnB v A) → (B.map f).sum ≤ (A.map f).sum
  | [], A, _ => by simp
  | u :: B, A, h => by
    have h1 := h u
    rw [cnB_cons, if_pos rfl] at h1
    obtain ⟨p, q, e⟩ := List.append_of_mem (cnB_mem (v := u) (L := A) (by omega))
    have h2 := sum_le_of (f := f) B (p ++ q) fun v => by
      have h3 := h v
      rw [e, cnB_cons, cnB_app, cnB_cons] at h3
      rw [cnB_app]; omega
    rw [e]
    simp only [List.map_cons, List.sum_cons, List.map_append, List.sum_append] at h2 ⊢
    omega
/-- The variables, as often as they stand. -/
def vlL (l : List Tm) : List ByteArray := ((preL l).map (·.name)).filter varB
theorem vlL_app (a b : List Tm) : vlL (a ++ b) = vlL a ++ vlL b := by
  unfold vlL
  rw [preL_app, List.map_append, List.filter_append]
theorem vlL_one (s : ByteArray) (l : List Tm) : vlL [(⟨s, l⟩ : Tm)] = if varB s = true then s :: vlL l else vlL l := by
  unfold vlL
  have e : preL [(⟨s, l⟩ : Tm)] = ⟨s, l⟩ :: preL l := by simp [preL]
  rw [e, List.map_cons, List.filter_cons]
theorem oft_vl {v : ByteArray} (hv : varB v = true) (l : List Tm) : oftL v l = cnB v (vlL l) := by
  unfold oftL cnB vlL
  rw [List.filter_filter]
  generalize preL l = k
  induction k with
  | nil => rfl
  | cons t k ih =>
    rw [List.filter_cons, List.map_cons, List.filter_cons]
    by_cases h : t.name = v
    · simp [h, hv, ih]
    · simp [h, ih]
theorem all_vl {a b : Tm} (h : hasAll a b = true) (v : ByteArray) : cnB v (vlL [b]) ≤ cnB v (vlL [a]) := by
  by_cases hv : varB v = true
  · rw [← oft_vl hv, ← oft_vl hv]
    exact (hasAll_iff a b).1 h v hv
  · have : cnB v (vlL [b]) = 0 := by
      cases hc : cnB v (vlL [b]) with
      | zero => rfl
      | succ n =>
        have := cnB_mem (v := v) (L := vlL [b]) (by omega)
        unfold vlL at this
        rw [List.mem_filter] at this
        exact absurd this.2 hv
    omega
/-- Variables have none below them. -/
def Flat (l : List Tm) : Prop := ∀ k ∈ preL l, varB k.name = true → k.args = []
theorem Flat.cons {t : Tm} {r : List Tm} (h : Flat (t :: r)) : Flat [t] ∧ Flat r := by
  have e : preL (t :: r) = preL [t] ++ preL r := preL_app [t] r
  exact ⟨fun k hk => h k (by rw [e]; simp [hk]), fun k hk => h k (by rw [e]; simp [hk])⟩
theorem Flat.kids {s : ByteArray} {l : List Tm} (h : Flat [(⟨s, l⟩ : Tm)]) : Flat l := fun k hk => h k (by simp [preL, hk])
/-- How often a variable stands once bindings are put in, and how many knots there are. -/
theorem on_sums {s : List Bd} (hs : VarsB s) {v : ByteArray} (hv : varB v = true) : ∀ l : List Tm, Flat l → oftL v (onL s l) = ((vlL l).map fun u => oftL v [onT s ⟨u, []⟩]).sum ∧ sizeL (onL s l) = sizeL l + ((vlL l).map fun u => sizeL [onT s ⟨u, []⟩] - 1).sum := by
  intro l
  induction l using Tm.indL with
  | h0 => intro _; simp [onL, vlL, preL, oftL, sizeL]
  | h n a r iha ihr =>
    intro hf
    obtain ⟨f1, f2⟩ := hf.cons
    obtain ⟨a1, a2⟩ := iha f1.kids
    obtain ⟨r1, r2⟩ := ihr f2
    have e1 : vlL (⟨n, a⟩ :: r) = vlL [(⟨n, a⟩ : Tm)] ++ vlL r := vlL_app [_] r
    have e2 : sizeL ((⟨n, a⟩ : Tm) :: r) = sizeL [(⟨n, a⟩ : Tm)] + sizeL r := sizeL_append [_] r
    rw [onL_cons, show onT s ⟨n, a⟩ :: onL s r = [onT s ⟨n, a⟩] ++ onL s r from rfl, oft_app, sizeL_append, e1, e2, List.map_append, List.map_append, List.sum_append, List.sum_append, r1, r2]
    by_cases vn : varB n = true
    · have ha : a = [] := f1 ⟨n, a⟩ (by simp [preL]) vn
      subst ha
      have e3 : vlL [(⟨n, []⟩ : Tm)] = [n] := by rw [vlL_one, if_pos vn]; simp [vlL, preL]
      rw [e3]
      have := size_pos (onT s ⟨n, []⟩)
      have e4 : sizeL [(⟨n, []⟩ : Tm)] = 1 := by simp [sizeL]
      simp only [List.map_cons, List.map_nil, List.sum_cons, List.sum_nil]
      omega
    · have vn' : varB n = false := by simpa using vn
      have hne : n ≠ v := fun e => vn (by rw [e]; exact hv)
      have e3 : onT s ⟨n, a⟩ = ⟨n, onL s a⟩ := by rw [on_sym hs (t := ⟨n, a⟩) vn', onL_map]
      rw [e3, oft_one, if_neg hne, vlL_one, if_neg vn, size_one, size_one, a1, a2]
      omega
theorem flat_arg {t x : Tm} (h : Flat [t]) (hx : x ∈ t.args) : Flat [x] := fun k hk => h k (pre_arg hx k hk)
theorem weight_on {row : List ByteArray} {s : List Bd} (hs : VarsB s) : ∀ (n : Nat) (a b : Tm), sizeL [a] ≤ n → Flat [a] → Flat [b] → weightB row a b = true → weightB row (onT s a) (onT s b) = true
  | 0, a, b, h, _, _, _ => by have := size_pos a; omega
  | n + 1, a, b, hn, fa, fb, h => by
    obtain ⟨p, h⟩ := (weight_iff row a b).1 h
    have hc := all_vl p
    have one : ∀ t : Tm, onL s [t] = [onT s t] := fun t => by rw [onL_cons]; simp [onL]
    have hall : hasAll (onT s a) (onT s b) = true := (hasAll_iff _ _).2 fun v hv => by
      have h1 := (on_sums hs hv [a] fa).1
      have h2 := (on_sums hs hv [b] fb).1
      rw [one] at h1 h2
      rw [h1, h2]
      exact sum_le_of _ _ hc
    obtain ⟨v0, hv0⟩ : ∃ v : ByteArray, varB v = true := ⟨⟨#[65]⟩, by decide⟩
    have z1 := (on_sums hs hv0 [a] fa).2
    have z2 := (on_sums hs hv0 [b] fb).2
    rw [one] at z1 z2
    have zz := sum_le_of (f := fun u => sizeL [onT s ⟨u, []⟩] - 1) _ _ hc
    refine (weight_iff row _ _).2 ⟨hall, ?_⟩
    rcases h with h | ⟨z, va, vb, h⟩
    · exact Or.inl (by omega)
    · by_cases hz : sizeL [onT s b] < sizeL [onT s a]
      · exact Or.inl hz
      · refine Or.inr ⟨by omega, ?_⟩
        rw [on_sym hs va, on_sym hs vb]
        refine ⟨va, vb, ?_⟩
        have e1 : ∀ a b : Tm, gtS row ⟨a.name, a.args.map (onT s)⟩ ⟨b.name, b.args.map (onT s)⟩ = gtS row a b := fun a b => gtS_congr rfl (by simp) rfl (by simp)
        rw [e1, e1]
        rcases h with h | ⟨g, x, y, hu, h⟩
        · exact Or.inl h
        · obtain ⟨mx, my⟩ := unl_mem hu
          have := size_arg mx
          have h1 := weight_on hs n x y (by omega) (flat_arg fa mx) (flat_arg fb my) h
          have hne : onT s x ≠ onT s y := fun e => by rw [e, weight_irrefl] at h1; cases h1
          exact Or.inr ⟨g, _, _, unl_map hu hne, h1⟩
#print axioms path_on
#print axioms weight_on
#print axioms weight_ctx
#print axioms weight_total
end Go.Proofs.YteghhdogmdpbpakGreat

/- Texts read as terms: what both readers do. -/
namespace Go.Proofs.YteghhdogmdpbpakGreat
open Go.RowKit
set_option linter.unusedSimpArgs false
set_option linter.unusedVariables false

/-- Where the letters and digits from i on end. -/
def stopF (s : ByteArray) : Nat → Nat → Nat
  | 0, i => i
  | f + 1, i => if i < s.size ∧ alnB (byteAt s i) = true then stopF s f (i + 1) else i
def stopAt (s : ByteArray) (i : Nat) : Nat := stopF s (s.size - i) i

theorem stopF_ge (s : ByteArray) : ∀ f i, i ≤ stopF s f i
  | 0, i => Nat.le_refl _
  | f + 1, i => by
    unfold stopF; split
    · have := stopF_ge s f (i + 1); omega
    · exact Nat.le_refl _
theorem stopF_le (s : ByteArray) : ∀ f i, i ≤ s.size → stopF s f i ≤ s.size
  | 0, i, h => h
  | f + 1, i, h => by
    unfold stopF; split
    · rename_i hc; exact stopF_le s f (i + 1) hc.1
    · exact h
theorem stopAt_ge (s : ByteArray) (i : Nat) : i ≤ stopAt s i := stopF_ge s _ i
theorem stopAt_le (s : ByteArray) {i : Nat} (h : i ≤ s.size) : stopAt s i ≤ s.size := stopF_le s _ i h
theorem stopAt_go {s : ByteArray} {i : Nat} (h : i < s.size) (ha : alnB (byteAt s i) = true) : stopAt s i = stopAt s (i + 1) := by
  have e : s.size - i = (s.size - (i + 1)) + 1 := by omega
  unfold stopAt
  rw [e, stopF, if_pos ⟨h, ha⟩]
theorem stopAt_end {s : ByteArray} {i : Nat} (h : ¬ (i < s.size ∧ alnB (byteAt s i) = true)) : stopAt s i = i := by
  unfold stopAt
  cases hf : s.size - i with
  | zero => rfl
  | succ f => rw [stopF, if_neg h]

/-- What reading gives: an error (0: none), a term, where it ended, how many knots there were. -/
structure Rd where
  err : Int
  t : Tm
  pos : Nat
  k : Nat
def noRd (e : Int) : Rd := ⟨e, ⟨⟨#[]⟩, []⟩, 0, 0⟩

/-- A term from i on; or, behind a name and some terms below it, the next one from behind i on. -/
def rd (s : ByteArray) : Nat → Option (ByteArray × List Tm) → Nat → Nat → Rd
  | 0, _, _, _ => noRd 99
  | f + 1, none, i, k =>
    if stopAt s i = i then noRd (if i = s.size then 13 else 12)
    else if nameB (s.extract i (stopAt s i)) = false then noRd 1
    else if 200 < k + 1 then noRd 3
    else if stopAt s i < s.size ∧ byteAt s (stopAt s i) = 40 then
      if varB (s.extract i (stopAt s i)) = true then noRd 2 else rd s f (some (s.extract i (stopAt s i), [])) (stopAt s i) (k + 1)
    else ⟨0, ⟨s.extract i (stopAt s i), []⟩, stopAt s i, k + 1⟩
  | f + 1, some (nm, acc), i, k =>
    if (rd s f none (i + 1) k).err ≠ 0 then noRd (rd s f none (i + 1) k).err
    else if (rd s f none (i + 1) k).pos = s.size then noRd 13
    else if byteAt s (rd s f none (i + 1) k).pos = 41 then ⟨0, ⟨nm, acc ++ [(rd s f none (i + 1) k).t]⟩, (rd s f none (i + 1) k).pos + 1, (rd s f none (i + 1) k).k⟩
    else if byteAt s (rd s f none (i + 1) k).pos = 44 then rd s f (some (nm, acc ++ [(rd s f none (i + 1) k).t])) (rd s f none (i + 1) k).pos (rd s f none (i + 1) k).k
    else noRd 12

theorem noRd_err (e : Int) (h : e ≠ 0) : (noRd e).err ≠ 0 := h

/-- Where it ends lies behind where it began, and within the text. -/
theorem rd_pos (s : ByteArray) : ∀ f m i k, (rd s f m i k).err = 0 → i ≤ s.size → (m.isSome = true → i < s.size) → i < (rd s f m i k).pos ∧ (rd s f m i k).pos ≤ s.size := by
  intro f
  induction f with
  | zero => intro m i k h; simp [rd, noRd] at h
  | succ f ih =>
    intro m i k h hi hm
    match m with
    | none =>
      have h1 := stopAt_ge s i
      have h2 := stopAt_le s (i := i) (by omega)
      unfold rd at h ⊢
      split at h
      · exfalso; revert h; simp only [noRd]; split <;> omega
      · rename_i hne
        rw [if_neg hne]
        split at h
        · exfalso; revert h; simp [noRd]
        · rename_i h3
          rw [if_neg h3]
          split at h
          · exfalso; revert h; simp [noRd]
          · rename_i h4
            rw [if_neg h4]
            split at h
            · rename_i h5
              rw [if_pos h5]
              split at h
              · exfalso; revert h; simp [noRd]
              · rename_i h6
                rw [if_neg h6]
                have := ih _ _ _ h (by omega) (fun _ => h5.1)
                omega
            · rename_i h5
              rw [if_neg h5]
              exact ⟨by show i < stopAt s i; omega, h2⟩
    | some (nm, acc) =>
      unfold rd at h ⊢
      split at h
      · rename_i h1
        exact absurd h h1
      · rename_i h1
        rw [if_neg h1]
        simp only [ne_eq, Decidable.not_not] at h1
        split at h
        · exfalso; revert h; simp [noRd]
        · rename_i h2
          rw [if_neg h2]
          have hi2 : i < s.size := hm rfl
          · have h3 := ih none (i + 1) k h1 (by omega) (fun h => by cases h)
            split at h
            · rename_i h4
              rw [if_pos h4]
              exact ⟨by show i < (rd s f none (i + 1) k).pos + 1; omega, by show (rd s f none (i + 1) k).pos + 1 ≤ s.size; omega⟩
            · rename_i h4
              rw [if_neg h4]
              split at h
              · rename_i h5
                rw [if_pos h5]
                have := ih _ _ _ h (by omega) (fun _ => by omega)
                omega
              · exfalso; revert h; simp [noRd]
end Go.Proofs.YteghhdogmdpbpakGreat

/- The text of a term. -/
namespace Go.Proofs.YteghhdogmdpbpakGreat

/-- The texts of a list of terms, commas between. -/
def txtL : List Tm → List UInt8
  | [] => []
  | ⟨s, l⟩ :: r => s.data.toList ++ (if l.isEmpty = true then [] else 40 :: (txtL l ++ [41])) ++ (if r.isEmpty = true then [] else 44 :: txtL r)

/-- A name, and the first k below it, without the last bracket. -/
def txtTo (s : ByteArray) (l : List Tm) (k : Nat) : List UInt8 := if k = 0 then s.data.toList else s.data.toList ++ 40 :: txtL (l.take k)

theorem txtL_one (s : ByteArray) (l : List Tm) : txtL [(⟨s, l⟩ : Tm)] = s.data.toList ++ (if l.isEmpty = true then [] else 40 :: (txtL l ++ [41])) := by simp [txtL]

theorem txtL_cons (t : Tm) (r : List Tm) (h : r ≠ []) : txtL (t :: r) = txtL [t] ++ 44 :: txtL r := by
  obtain ⟨s, l⟩ := t
  rw [txtL_one]
  have hr : (r.isEmpty = true) = False := by simpa using h
  simp only [txtL, hr, if_false]

theorem txtL_append (a b : List Tm) (ha : a ≠ []) (hb : b ≠ []) : txtL (a ++ b) = txtL a ++ 44 :: txtL b := by
  induction a with
  | nil => exact absurd rfl ha
  | cons t r ih =>
    by_cases hr : r = []
    · subst hr; simpa using txtL_cons t b hb
    · rw [List.cons_append, txtL_cons t (r ++ b) (by simp [hr]), ih hr, txtL_cons t r hr]
      simp

theorem txtTo_zero (s : ByteArray) (l : List Tm) (h : 0 < l.length) : txtTo s l (0 + 1) = txtTo s l 0 ++ ([40] : List UInt8) ++ txtL [l[0]'h] := by
  have h1 : l.take (0 + 1) = l.take 0 ++ [l[0]] := List.take_succ_eq_append_getElem h
  have h2 : l.take 1 = [l[0]] := by simpa using h1
  unfold txtTo
  rw [if_neg (by decide), if_pos rfl, h2]
  simp

theorem txtTo_succ (s : ByteArray) (l : List Tm) (k : Nat) (hk : 0 < k) (h : k < l.length) : txtTo s l (k + 1) = txtTo s l k ++ [44] ++ txtL [l[k]] := by
  have h1 : l.take k ≠ [] := by
    intro e
    have h3 := congrArg List.length e
    rw [List.length_take] at h3
    simp only [List.length_nil] at h3
    omega
  unfold txtTo
  rw [if_neg (by omega), if_neg (by omega), List.take_succ_eq_append_getElem h, txtL_append _ _ h1 (by simp)]
  simp

theorem txtTo_end (s : ByteArray) (l : List Tm) (h : l ≠ []) : txtL [(⟨s, l⟩ : Tm)] = txtTo s l l.length ++ [41] := by
  have hl : l.length ≠ 0 := by intro e; exact h (List.length_eq_zero_iff.1 e)
  rw [txtL_one, if_neg (by simpa using h)]
  simp [txtTo, hl]

theorem txt_nil (s : ByteArray) : txtL [(⟨s, []⟩ : Tm)] = s.data.toList := by simp [txtL]

theorem txtTo_len (s : ByteArray) (l : List Tm) (k : Nat) (hk : k ≤ l.length) : (txtTo s l k).length ≤ (txtL [(⟨s, l⟩ : Tm)]).length := by
  rw [txtL_one]
  unfold txtTo
  by_cases h0 : k = 0
  · rw [if_pos h0]; simp
  · rw [if_neg h0]
    have hl : l ≠ [] := by intro e; subst e; simp at hk; omega
    rw [if_neg (by simpa using hl)]
    by_cases hd : l.drop k = []
    · have : l.take k = l := by have h2 := List.take_append_drop k l; rw [hd] at h2; simpa using h2
      rw [this]; simp
    · have ht : l.take k ≠ [] := by
        intro e
        have h3 := congrArg List.length e
        rw [List.length_take] at h3
        simp only [List.length_nil] at h3
        have hlp := List.length_pos_iff.2 hl
        omega
      have h2 := txtL_append (l.take k) (l.drop k) ht hd
      rw [List.take_append_drop] at h2
      rw [h2]; simp only [List.length_append, List.length_cons]; omega
#print axioms txtTo_len
end Go.Proofs.YteghhdogmdpbpakGreat

/- What was written is read again. -/
namespace Go.Proofs.YteghhdogmdpbpakGreat
open Go.RowKit
set_option linter.unusedSimpArgs false
set_option linter.unusedVariables false

theorem byteAt_list (s : ByteArray) (j : Nat) (c : UInt8) (h : s.data.toList[j]? = some c) : byteAt s j = (c.toNat : Int) := by
  have hj : j < s.data.toList.length := by
    rcases Nat.lt_or_ge j s.data.toList.length with h' | h'
    · exact h'
    · rw [List.getElem?_eq_none h'] at h; cases h
  have hs : j < s.size := by simpa using hj
  unfold byteAt
  rw [dif_pos hs]
  have : s.data.toList[j]? = some s[j] := by
    rw [List.getElem?_eq_getElem hj]; rfl
  rw [this] at h
  cases h
  rfl

theorem size_list (s : ByteArray) : s.size = s.data.toList.length := by simp

/-- The letters of a name are letters or digits. -/
theorem name_aln {nm : ByteArray} (h : nameB nm = true) : ∀ c ∈ nm.data.toList, alnB (c.toNat : Int) = true := by
  intro c hc
  obtain ⟨j, hj, hjc⟩ := List.getElem_of_mem hc
  have h2 : alnTo nm nm.size = true := by
    unfold nameB at h
    simp only [Bool.and_eq_true] at h
    exact h.2
  unfold alnTo at h2
  rw [List.all_eq_true] at h2
  have h3 := h2 j (by rw [List.mem_range, size_list]; exact hj)
  rw [byteAt_list nm j c (by rw [List.getElem?_eq_getElem hj, hjc])] at h3
  exact h3
theorem name_size {nm : ByteArray} (h : nameB nm = true) : 1 ≤ nm.size := by
  unfold nameB at h
  simp only [Bool.and_eq_true, decide_eq_true_eq] at h
  exact h.1.1.1

/-- A name ends where no letter or digit stands. -/
theorem stop_list (s : ByteArray) (rest : List UInt8) (hr : rest = [] ∨ ∃ c r, rest = c :: r ∧ alnB (c.toNat : Int) = false) : ∀ (nm pre : List UInt8), s.data.toList = pre ++ nm ++ rest → (∀ c ∈ nm, alnB (c.toNat : Int) = true) → stopAt s pre.length = pre.length + nm.length
  | [], pre, hL, _ => by
    have hsz : s.size = pre.length + rest.length := by rw [size_list, hL]; simp
    refine stopAt_end fun h => ?_
    rcases hr with rfl | ⟨c, r, rfl, hc⟩
    · simp at hsz; omega
    · have hb := byteAt_list s pre.length c (by rw [hL]; simp)
      rw [hb, hc] at h
      exact absurd h.2 (by simp)
  | a :: nm, pre, hL, ha => by
    have hsz : s.size = pre.length + (a :: nm).length + rest.length := by rw [size_list, hL]; simp; omega
    have hb := byteAt_list s pre.length a (by rw [hL]; simp)
    rw [stopAt_go (by simp at hsz; omega) (by rw [hb]; exact ha a (by simp))]
    have := stop_list s rest hr nm (pre ++ [a]) (by rw [hL]; simp) (fun c hc => ha c (by simp [hc]))
    simp at this
    rw [this]
    simp; omega

theorem ext_list (s nm : ByteArray) (pre rest : List UInt8) (h : s.data.toList = pre ++ nm.data.toList ++ rest) : s.extract pre.length (pre.length + nm.size) = nm := by
  have h1 : (s.extract pre.length (pre.length + nm.size)).data.toList = nm.data.toList := by
    have e : nm.size = nm.data.toList.length := size_list nm
    rw [ByteArray.data_extract, Array.toList_extract, h, e]
    simp [List.extract]
  cases hx : s.extract pre.length (pre.length + nm.size) with
  | mk d =>
    rw [hx] at h1
    cases nm with
    | mk e =>
      congr 1
      exact Array.toList_inj.1 h1

/-- What may stand behind a term. -/
def Behind (post : List UInt8) : Prop := post = [] ∨ ∃ c r, post = c :: r ∧ (c = 41 ∨ c = 44)

theorem rd_txt (s : ByteArray) : ∀ (t : Tm) (F k : Nat) (pre post : List UInt8), errL [t] = 0 → s.data.toList = pre ++ txtL [t] ++ post → Behind post → k + sizeL [t] ≤ 200 → 2 * (s.size - pre.length) + 1 ≤ F →
    rd s F none pre.length k = ⟨0, t, pre.length + (txtL [t]).length, k + sizeL [t]⟩ := by
  intro t
  induction t using Tm.ind with
  | h nm l ih =>
    intro F k pre post he hL hpost hk hF
    obtain ⟨f, rfl⟩ : ∃ f, F = f + 1 := ⟨F - 1, by omega⟩
    have hn : nameB nm = true := by
      cases h : nameB nm with
      | true => rfl
      | false => simp [errL, h] at he
    have hsz : sizeL [(⟨nm, l⟩ : Tm)] = 1 + sizeL l := by simp [sizeL]
    have hn1 := name_size hn
    have haln := name_aln hn
    rw [txtL_one] at hL ⊢
    have hnl : nm.data.toList.length = nm.size := (size_list nm).symm
    by_cases hl : l = []
    · subst hl
      simp only [List.isEmpty_nil, if_true, List.append_nil] at hL ⊢
      have hst : stopAt s pre.length = pre.length + nm.size := by
        rw [← hnl]
        refine stop_list s post ?_ nm.data.toList pre hL haln
        rcases hpost with h | ⟨c, r, h, hc⟩
        · exact Or.inl h
        · exact Or.inr ⟨c, r, h, by rcases hc with rfl | rfl <;> decide⟩
      have hx := ext_list s nm pre post hL
      rw [rd, hst, hx, if_neg (by omega), if_neg (by rw [hn]; simp), if_neg (by omega), if_neg, hnl]
      · simp [sizeL]
      · intro h
        rcases hpost with rfl | ⟨c, r, rfl, hc⟩
        · have : s.size = pre.length + nm.size := by rw [size_list, hL]; simp
          omega
        · have hb := byteAt_list s (pre.length + nm.size) c (by rw [hL, ← hnl]; simp)
          rw [hb] at h
          rcases hc with rfl | rfl
          · exact absurd h.2 (by decide)
          · exact absurd h.2 (by decide)
    · have hle : l.isEmpty = false := by simpa using hl
      rw [hle] at hL ⊢
      simp only [Bool.false_eq_true, if_false] at hL ⊢
      have hlp : 0 < l.length := List.length_pos_iff.2 hl
      have hv : varB nm = false := by
        cases h : varB nm with
        | false => rfl
        | true => simp [errL, hn, h, hlp] at he
      have hel : errL l = 0 := by
        simp only [errL, hn, hv] at he
        by_cases h0 : errL l = 0
        · exact h0
        · simp [h0] at he
      have hL2 : s.data.toList = pre ++ nm.data.toList ++ 40 :: (txtL l ++ 41 :: post) := by rw [hL]; simp
      have hst : stopAt s pre.length = pre.length + nm.size := by
        rw [← hnl]
        exact stop_list s _ (Or.inr ⟨40, _, rfl, by decide⟩) nm.data.toList pre hL2 haln
      have hx := ext_list s nm pre _ hL2
      have hb := byteAt_list s (pre.length + nm.size) 40 (by rw [hL2, ← hnl]; simp)
      have hss : s.size = pre.length + nm.size + 1 + (txtL l).length + 1 + post.length := by rw [size_list, hL2]; simp; omega
      have key : ∀ (r acc : List Tm) (f k : Nat) (pre' : List UInt8) (c : UInt8), r ≠ [] → (∀ t ∈ r, t ∈ l) → errL r = 0 → s.data.toList = pre' ++ c :: (txtL r ++ 41 :: post) → k + sizeL r ≤ 200 → 2 * (s.size - pre'.length) + 2 ≤ f →
          rd s f (some (nm, acc)) pre'.length k = ⟨0, ⟨nm, acc ++ r⟩, pre'.length + 1 + (txtL r).length + 1, k + sizeL r⟩ := by
        intro r
        induction r with
        | nil => intro acc f k pre' c h; exact absurd rfl h
        | cons t r ihr =>
          intro acc f k pre' c _ hmem her hLr hkr hfr
          obtain ⟨f0, rfl⟩ : ∃ f0, f = f0 + 1 := ⟨f - 1, by omega⟩
          have he1 : errL [t] = 0 := by
            rw [errL_cons] at her
            by_cases h0 : errL [t] = 0
            · exact h0
            · rw [if_neg h0] at her; exact absurd her h0
          have he2 : errL r = 0 := by rw [errL_cons, if_pos he1] at her; exact her
          have hsr : sizeL (t :: r) = sizeL [t] + sizeL r := sizeL_append [t] r
          have hlen : (pre' ++ [c]).length = pre'.length + 1 := by simp
          by_cases hr : r = []
          · subst hr
            have hq := ih t (hmem t (by simp)) f0 k (pre' ++ [c]) (41 :: post) he1 (by rw [hLr]; simp) (Or.inr ⟨41, post, rfl, Or.inl rfl⟩) (by omega) (by rw [hlen]; omega)
            rw [hlen] at hq
            have hs2 : s.size = pre'.length + 1 + (txtL [t]).length + 1 + post.length := by rw [size_list, hLr]; simp; omega
            have hb2 := byteAt_list s (pre'.length + 1 + (txtL [t]).length) 41 (by rw [hLr]; rw [show pre'.length + 1 + (txtL [t]).length = pre'.length + (1 + (txtL [t]).length) by omega]; simp [List.getElem?_append_right, Nat.add_comm 1])
            rw [rd, hq]
            simp only [ne_eq, not_true_eq_false, if_false]
            rw [if_neg (by omega), if_pos (by rw [hb2]; rfl)]
          · have htx : txtL (t :: r) = txtL [t] ++ 44 :: txtL r := txtL_cons t r hr
            have hq := ih t (hmem t (by simp)) f0 k (pre' ++ [c]) (44 :: (txtL r ++ 41 :: post)) he1 (by rw [hLr, htx]; simp) (Or.inr ⟨44, _, rfl, Or.inr rfl⟩) (by omega) (by rw [hlen]; omega)
            rw [hlen] at hq
            have hLp : s.data.toList = (pre' ++ c :: txtL [t]) ++ 44 :: (txtL r ++ 41 :: post) := by rw [hLr, htx]; simp
            have hlen2 : (pre' ++ c :: txtL [t]).length = pre'.length + 1 + (txtL [t]).length := by simp; omega
            have hs2 : s.size = pre'.length + 1 + (txtL [t]).length + 1 + (txtL r).length + 1 + post.length := by rw [size_list, hLp]; simp; omega
            have hb2 := byteAt_list s (pre' ++ c :: txtL [t]).length 44 (by rw [hLp]; simp)
            rw [hlen2] at hb2
            have hrec := ihr (acc ++ [t]) f0 (k + sizeL [t]) (pre' ++ c :: txtL [t]) 44 hr (fun x hx => hmem x (by simp [hx])) he2 hLp (by omega) (by rw [hlen2]; omega)
            rw [hlen2] at hrec
            rw [rd, hq]
            simp only [ne_eq, not_true_eq_false, if_false]
            rw [if_neg (by omega), if_neg (by rw [hb2]; decide), if_pos (by rw [hb2]; rfl), hrec, hsr, htx]
            simp
            omega
      have hfin := key l [] f (k + 1) (pre ++ nm.data.toList) 40 hl (fun _ h => h) hel hL2 (by omega) (by simp [hnl]; omega)
      have hplen : (pre ++ nm.data.toList).length = pre.length + nm.size := by simp
      rw [hplen] at hfin
      rw [rd, hst, hx, if_neg (by omega), if_neg (by rw [hn]; simp), if_neg (by omega), if_pos ⟨by omega, by rw [hb]; rfl⟩, if_neg (by rw [hv]; simp), hfin, hsz]
      simp [hnl]
      omega

/-- The whole text. -/
theorem rd_whole (t : Tm) (he : errL [t] = 0) (hk : sizeL [t] ≤ 200) : rd ⟨(txtL [t]).toArray⟩ (2 * (⟨(txtL [t]).toArray⟩ : ByteArray).size + 1) none 0 0 = ⟨0, t, (⟨(txtL [t]).toArray⟩ : ByteArray).size, sizeL [t]⟩ := by
  have hsz : (⟨(txtL [t]).toArray⟩ : ByteArray).size = (txtL [t]).length := by rw [size_list]
  have h := rd_txt ⟨(txtL [t]).toArray⟩ t (2 * (⟨(txtL [t]).toArray⟩ : ByteArray).size + 1) 0 [] [] he (by simp) (Or.inl rfl) (by omega) (by simp)
  simp only [List.length_nil, Nat.zero_add] at h
  rw [h, hsz]
#print axioms rd_whole
end Go.Proofs.YteghhdogmdpbpakGreat

/- No two terms have one text, nor two pairs of terms, with a sign between them: plain. -/
namespace Go.Proofs.YteghhdogmdpbpakGreat
open Go.RowKit
set_option linter.unusedSimpArgs false
set_option linter.unusedVariables false

/-- What may stand behind a term. -/
def Beh (x : List UInt8) : Prop := x = [] ∨ ∃ c r, x = c :: r ∧ (c = 41 ∨ c = 44 ∨ c = 61)
/-- What ends a name. -/
def Ends (x : List UInt8) : Prop := x = [] ∨ ∃ c r, x = c :: r ∧ alnB (c.toNat : Int) = false
theorem Beh.ends {x : List UInt8} (h : Beh x) : Ends x := by
  rcases h with h | ⟨c, r, e, h⟩
  · exact Or.inl h
  · refine Or.inr ⟨c, r, e, ?_⟩
    rcases h with rfl | rfl | rfl <;> decide
theorem name_split : ∀ (n m : List UInt8) {x y : List UInt8}, (∀ c ∈ n, alnB (c.toNat : Int) = true) → (∀ c ∈ m, alnB (c.toNat : Int) = true) → Ends x → Ends y → n ++ x = m ++ y → n = m ∧ x = y
  | [], [], x, y, _, _, _, _, h => ⟨rfl, by simpa using h⟩
  | [], c :: m, x, y, _, hm, hx, _, h => by
    exfalso
    have h : x = c :: (m ++ y) := by simpa using h
    have h1 := hm c (by simp)
    rcases hx with hx | ⟨d, r, e, h2⟩
    · rw [hx] at h; cases h
    · rw [e] at h
      injection h with h3 h4
      rw [← h3, h2] at h1
      cases h1
  | c :: n, [], x, y, hn, _, _, hy, h => by
    exfalso
    have h : c :: (n ++ x) = y := by simpa using h
    have h1 := hn c (by simp)
    rcases hy with hy | ⟨d, r, e, h2⟩
    · rw [hy] at h; cases h
    · rw [e] at h
      injection h with h3 h4
      rw [h3, h2] at h1
      cases h1
  | c :: n, d :: m, x, y, hn, hm, hx, hy, h => by
    have h : c :: (n ++ x) = d :: (m ++ y) := by simpa using h
    injection h with h1 h2
    obtain ⟨e1, e2⟩ := name_split n m (fun z hz => hn z (by simp [hz])) (fun z hz => hm z (by simp [hz])) hx hy h2
    exact ⟨by rw [h1, e1], e2⟩
theorem errL_parts0 {s : ByteArray} {l : List Tm} (h : errL [(⟨s, l⟩ : Tm)] = 0) : errL l = 0 := by
  simp only [errL] at h
  repeat' split at h
  all_goals first | (cases h; done) | assumption | simp_all
theorem errL_name0 {s : ByteArray} {l : List Tm} (h : errL [(⟨s, l⟩ : Tm)] = 0) : nameB s = true := by
  simp only [errL] at h
  repeat' split at h
  all_goals first | (cases h; done) | assumption | simp_all
def OneT (t : Tm) : Prop := ∀ (u : Tm) (x y : List UInt8), errL [t] = 0 → errL [u] = 0 → Beh x → Beh y → txtL [t] ++ x = txtL [u] ++ y → t = u ∧ x = y
theorem oneL : ∀ (l : List Tm), (∀ t ∈ l, OneT t) → ∀ (k : List Tm) (x y : List UInt8), l ≠ [] → k ≠ [] → errL l = 0 → errL k = 0 → txtL l ++ 41 :: x = txtL k ++ 41 :: y → l = k ∧ x = y
  | [], _, k, x, y, h, _, _, _, _ => absurd rfl h
  | t :: r, hT, [], x, y, _, h, _, _, _ => absurd rfl h
  | t :: r, hT, u :: q, x, y, _, _, he, hf, hh => by
    have e1 : errL [t] = 0 ∧ errL r = 0 := by
      rw [errL_cons] at he
      split at he
      · rename_i h; exact ⟨h, he⟩
      · rename_i h; exact absurd he h
    have e2 : errL [u] = 0 ∧ errL q = 0 := by
      rw [errL_cons] at hf
      split at hf
      · rename_i h; exact ⟨h, hf⟩
      · rename_i h; exact absurd hf h
    have T := hT t (by simp)
    by_cases hr : r = []
    · subst hr
      by_cases hq : q = []
      · subst hq
        obtain ⟨h1, h2⟩ := T u _ _ e1.1 e2.1 (Or.inr ⟨41, x, rfl, by simp⟩) (Or.inr ⟨41, y, rfl, by simp⟩) hh
        injection h2 with _ h2
        exact ⟨by rw [h1], h2⟩
      · rw [txtL_cons u q hq, List.append_assoc, List.cons_append] at hh
        obtain ⟨_, h2⟩ := T u _ _ e1.1 e2.1 (Or.inr ⟨41, x, rfl, by simp⟩) (Or.inr ⟨44, _, rfl, by simp⟩) hh
        injection h2 with h2 _
        cases h2
    · rw [txtL_cons t r hr, List.append_assoc, List.cons_append] at hh
      by_cases hq : q = []
      · subst hq
        obtain ⟨_, h2⟩ := T u _ _ e1.1 e2.1 (Or.inr ⟨44, _, rfl, by simp⟩) (Or.inr ⟨41, y, rfl, by simp⟩) hh
        injection h2 with h2 _
        cases h2
      · rw [txtL_cons u q hq, List.append_assoc, List.cons_append] at hh
        obtain ⟨h1, h2⟩ := T u _ _ e1.1 e2.1 (Or.inr ⟨44, _, rfl, by simp⟩) (Or.inr ⟨44, _, rfl, by simp⟩) hh
        injection h2 with _ h2
        obtain ⟨h3, h4⟩ := oneL r (fun t ht => hT t (by simp [ht])) q x y hr hq e1.2 e2.2 h2
        exact ⟨by rw [h1, h3], h4⟩
/-- No two terms have one text. -/
theorem oneT (t : Tm) : OneT t := by
  induction t using Tm.ind with
  | h s l ih =>
    rintro ⟨s', k⟩ x y he hf hx hy hh
    have nm : nameB s = true := errL_name0 he
    have nm' : nameB s' = true := errL_name0 hf
    rw [txtL_one, txtL_one, List.append_assoc, List.append_assoc] at hh
    have ends : ∀ (l : List Tm) (x : List UInt8), Beh x → Ends ((if l.isEmpty = true then [] else 40 :: (txtL l ++ [41])) ++ x) := fun l x hx => by
      by_cases hl : l.isEmpty = true
      · rw [if_pos hl]; exact hx.ends
      · rw [if_neg hl]; exact Or.inr ⟨40, _, rfl, by decide⟩
    obtain ⟨h1, h2⟩ := name_split _ _ (name_aln nm) (name_aln nm') (ends l x hx) (ends k y hy) hh
    have hs : s = s' := by
      obtain ⟨⟨a⟩⟩ := s
      obtain ⟨⟨b⟩⟩ := s'
      have : a = b := h1
      rw [this]
    have no40 : ∀ {x z : List UInt8}, Beh x → x ≠ 40 :: z := fun {x z} hx h => by
      rcases hx with hx | ⟨c, r, e, hc⟩
      · rw [hx] at h; cases h
      · rw [e] at h
        injection h with h _
        rw [h] at hc
        revert hc
        decide
    have e1 : errL l = 0 := (errL_parts0 he)
    have e2 : errL k = 0 := (errL_parts0 hf)
    cases l with
    | nil =>
      cases k with
      | nil => exact ⟨by rw [hs], by simpa using h2⟩
      | cons u k => exact absurd (by simpa using h2) (no40 (z := txtL (u :: k) ++ 41 :: y) hx)
    | cons t l =>
      cases k with
      | nil => exact absurd (by simpa using h2.symm) (no40 (z := txtL (t :: l) ++ 41 :: x) hy)
      | cons u k =>
        have h3 : txtL (t :: l) ++ 41 :: x = txtL (u :: k) ++ 41 :: y := by simpa using h2
        obtain ⟨h4, h5⟩ := oneL (t :: l) ih (u :: k) x y (by simp) (by simp) e1 e2 h3
        exact ⟨by rw [hs, h4], h5⟩
theorem txt_inj {t u : Tm} (ht : errL [t] = 0) (hu : errL [u] = 0) (h : txtL [t] = txtL [u]) : t = u := (oneT t u [] [] ht hu (Or.inl rfl) (Or.inl rfl) (by rw [h])).1
/-- Nor two pairs of terms. -/
theorem key_inj {a b c d : Tm} (ha : errL [a] = 0) (hb : errL [b] = 0) (hc : errL [c] = 0) (hd : errL [d] = 0) (h : txtL [a] ++ 61 :: txtL [b] = txtL [c] ++ 61 :: txtL [d]) : a = c ∧ b = d := by
  obtain ⟨h1, h2⟩ := oneT a c _ _ ha hc (Or.inr ⟨61, _, rfl, by simp⟩) (Or.inr ⟨61, _, rfl, by simp⟩) h
  injection h2 with _ h2
  exact ⟨h1, txt_inj hb hd h2⟩
#print axioms key_inj
end Go.Proofs.YteghhdogmdpbpakGreat

/- Maps by texts, as they lie in memory. -/
namespace Go.Proofs.YteghhdogmdpbpakGreat
open Go.RowKit
set_option linter.unusedSimpArgs false
set_option linter.unusedVariables false

def mapGet : List (ByteArray × Value) → ByteArray → Option Value
  | [], _ => none
  | p :: r, n => if p.1 = n then some p.2 else mapGet r n

/-- The entries' stamps: each below the clock, none twice. -/
def Stamps (es : Array MapEntry) (clk : Nat) : Prop := (∀ x ∈ es.toList, x.born < clk) ∧ (es.toList.map (·.born)).Nodup
/-- The map at r has these keys, in the order in which they came, and what stands for them. -/
def MapAt (w : World) (r : Nat) (L : List (ByteArray × Value)) : Prop :=
  ∃ es clk, w.heap[r]? = some (.map es clk) ∧ es.toList.map (fun e => (e.key, e.val)) = L.map (fun p => (Value.string p.1, p.2)) ∧ Stamps es clk
theorem Stamps.push {es : Array MapEntry} {clk : Nat} (h : Stamps es clk) (k v : Value) : Stamps (es.push { key := k, val := v, born := clk }) (clk + 1) := by
  obtain ⟨h1, h2⟩ := h
  refine ⟨fun x hx => ?_, ?_⟩
  · rw [Array.toList_push, List.mem_append] at hx
    rcases hx with hx | hx
    · have := h1 x hx; omega
    · have e : x = { key := k, val := v, born := clk } := by simpa using hx
      subst e; exact Nat.lt_succ_self _
  · rw [Array.toList_push, List.map_append, List.nodup_append]
    refine ⟨h2, by simp, fun a ha b hb => ?_⟩
    obtain ⟨x, hx, rfl⟩ := List.mem_map.1 ha
    have := h1 x hx
    have e : b = clk := by simpa using hb
    omega
theorem map_born_modify (j : Nat) (k v : Value) : ∀ l : List MapEntry, (l.modify j fun e => { e with key := k, val := v }).map (·.born) = l.map (·.born) := by
  induction j with
  | zero => intro l; cases l <;> simp
  | succ j ih => intro l; cases l with
    | nil => simp
    | cons a r => simp [List.modify_succ_cons, ih r]
theorem Stamps.modify {es : Array MapEntry} {clk : Nat} (h : Stamps es clk) (j : Nat) (k v : Value) : Stamps (es.modify j fun e => { e with key := k, val := v }) clk := by
  obtain ⟨h1, h2⟩ := h
  have e := map_born_modify j k v es.toList
  refine ⟨fun x hx => ?_, by rw [Array.toList_modify, e]; exact h2⟩
  rw [Array.toList_modify] at hx
  have : x.born ∈ es.toList.map (·.born) := by rw [← e]; exact List.mem_map.2 ⟨x, hx, rfl⟩
  obtain ⟨y, hy, hb⟩ := List.mem_map.1 this
  rw [← hb]; exact h1 y hy

theorem MapAt.new (w : World) : MapAt (w.alloc (.map #[] 0)) w.heap.size [] := ⟨#[], 0, heap_alloc_new w _, rfl, by simp [Stamps]⟩
theorem MapAt.lt {w : World} {r : Nat} {L : List (ByteArray × Value)} (h : MapAt w r L) : r < w.heap.size := by
  obtain ⟨es, clk, h, _⟩ := h
  exact (Array.getElem?_eq_some_iff.1 h).1
theorem MapAt.kept {w w' : World} {r : Nat} {L : List (ByteArray × Value)} (h : MapAt w r L) (hk : w'.heap[r]? = w.heap[r]?) : MapAt w' r L := by
  obtain ⟨es, clk, h1, h2⟩ := h
  exact ⟨es, clk, hk.trans h1, h2⟩
theorem MapAt.below {w w' : World} {r B : Nat} {L : List (ByteArray × Value)} (h : MapAt w r L) (hb : Below B w w') (hB : r < B) : MapAt w' r L := h.kept (hb.block r hB)

theorem findNow_map (n : ByteArray) : ∀ (l : List MapEntry) (L : List (ByteArray × Value)) (i : Nat), l.map (fun e => (e.key, e.val)) = L.map (fun p => (Value.string p.1, p.2)) →
    (mapGet L n = none → Instr.findNow .string (.string n) l i = some none) ∧ (∀ v, mapGet L n = some v → ∃ j, Instr.findNow .string (.string n) l i = some (some (j, v)))
  | [], [], i, h => ⟨fun _ => rfl, fun v h => by simp [mapGet] at h⟩
  | [], p :: L, i, h => by simp at h
  | e :: l, [], i, h => by simp at h
  | e :: l, p :: L, i, h => by
    simp only [List.map_cons, List.cons.injEq, Prod.mk.injEq] at h
    obtain ⟨⟨hk, hv⟩, ht⟩ := h
    obtain ⟨ih1, ih2⟩ := findNow_map n l L (i + 1) ht
    by_cases hn : p.1 = n
    · have hs : Instr.sameNow .string (.string n) e.key = some true := by
        rw [hk, hn]
        show some (n == n) = some true
        rw [show (n == n) = true from (MapKept.bytes_beq _ _).2 rfl]
      refine ⟨fun h => by simp [mapGet, hn] at h, fun v h => ⟨i, ?_⟩⟩
      simp only [mapGet, hn, if_true, Option.some.injEq] at h
      simp [Instr.findNow, hs, hv, h]
    · have hs : Instr.sameNow .string (.string n) e.key = some false := by
        rw [hk]
        show some (n == p.1) = some false
        have hb : (n == p.1) = false := by
          cases hh : (n == p.1) with
          | false => rfl
          | true => exact absurd ((MapKept.bytes_beq _ _).1 hh).symm hn
        rw [hb]
      refine ⟨fun h => ?_, fun v h => ?_⟩
      · rw [mapGet, if_neg hn] at h
        simp [Instr.findNow, hs, ih1 h]
      · rw [mapGet, if_neg hn] at h
        obtain ⟨j, hj⟩ := ih2 v h
        exact ⟨j, by simp [Instr.findNow, hs, hj]⟩

theorem run_look {P : Program} {w : World} {T kt et : TypeId} {r : Nat} {L : List (ByteArray × Value)} {z : Value} (hm : P.underlying T = some (.map kt et)) (hk : P.underlying kt = some .string) (hz : (zeroValue et).run P w = .ok z w) (h : MapAt w r L) (n : ByteArray) :
    (Instr.lookup T (.map (some r)) (.string n) true).run P w = .ok (.tuple #[(mapGet L n).getD z, .bool (mapGet L n).isSome]) w := by
  obtain ⟨es, clk, hb, he, hst⟩ := h
  obtain ⟨h1, h2⟩ := findNow_map n es.toList L 0 he
  have hc : ∀ b, (Instr.checkKey b 10000 kt (.string n)).run P w = .ok () w := fun b => MapKept.run_checkKey (k := .string n) hk (by simp [MapKept.IsKey]) b 9999
  cases hg : mapGet L n with
  | none => simp [Instr.lookup, run_underlying hm, MapKept.run_getObj_map hb, hc, MapKept.run_findKey hk (h1 hg), Result.andThen, hz]
  | some v =>
    obtain ⟨j, hj⟩ := h2 v hg
    simp [Instr.lookup, run_underlying hm, MapKept.run_getObj_map hb, hc, MapKept.run_findKey hk hj, Result.andThen]

theorem run_put {P : Program} {w : World} {T kt et : TypeId} {r : Nat} {L : List (ByteArray × Value)} (hm : P.underlying T = some (.map kt et)) (hk : P.underlying kt = some .string) (h : MapAt w r L) (n : ByteArray) (v : Value) (hn : mapGet L n = none) :
    ∃ w', (Instr.mapUpdate T (.map (some r)) (.string n) v).run P w = .ok () w' ∧ MapAt w' r (L ++ [(n, v)]) ∧ w'.heap.size = w.heap.size ∧ w'.os = w.os ∧ w'.tape = w.tape ∧ w'.output = w.output ∧ (∀ b, b ≠ r → w'.heap[b]? = w.heap[b]?) := by
  obtain ⟨es, clk, hb, he, hst⟩ := h
  obtain ⟨h1, h2⟩ := findNow_map n es.toList L 0 he
  have hc : (Instr.checkKey false 10000 kt (.string n)).run P w = .ok () w := MapKept.run_checkKey (k := .string n) hk (by simp [MapKept.IsKey]) false 9999
  have hlt : r < w.heap.size := (Array.getElem?_eq_some_iff.1 hb).1
  refine ⟨{ w with heap := w.heap.setIfInBounds r (.map (es.push { key := .string n, val := v, born := clk }) (clk + 1)) }, ?_, ⟨_, _, (MapKept.heap_set hb).1, by simp [he], hst.push _ _⟩, by simp, rfl, rfl, rfl, fun b hne => (MapKept.heap_set hb).2 b hne⟩
  simp [Instr.mapUpdate, run_underlying hm, MapKept.run_getObj_map hb, hc, MapKept.run_findKey hk (h1 hn), MapKept.run_setObj_map _ hb, Result.andThen]
end Go.Proofs.YteghhdogmdpbpakGreat

/- Walks: a copy of a term. -/
namespace Go.Proofs.YteghhdogmdpbpakGreat
open Go.RowKit
set_option linter.unusedSimpArgs false
set_option linter.unusedVariables false

theorem below3 {w : World} (o1 o2 o3 : Obj) : Below w.heap.size w (((w.alloc o1).alloc o2).alloc o3) := (below2 o1 o2).alloc (by simp; omega) o3

theorem below4 {w : World} (o1 o2 o3 o4 : Obj) : Below w.heap.size w ((((w.alloc o1).alloc o2).alloc o3).alloc o4) := (below3 o1 o2 o3).alloc (by simp; omega) o4

theorem copy_step {w wr w1 w3 : World} {T k : Nat} {u : Value} {l : List Tm} {xs : List Value} {o1 o2 : Obj} {s s' : ByteArray} {a1 : Option Addr} {n1 c1 g cap : Nat} {c0 : Array Value} (hrow : Row wr (w.heap.size + 3) T (fun _ => False) u (l.take k) xs) (hb : Below w.heap.size w wr)
    (h1 : Blk wr (w.heap.size + 1) c0 T) (h2 : Blk wr (w.heap.size + 1 + 1) #[.string s, u] T) (hsz : w.heap.size + 3 ≤ wr.heap.size) (hlt : k < l.length)
    (hb1 : Below (wr.alloc o1).drew.heap.size (wr.alloc o1).drew w1) (ht : TV w1 (fun b => (wr.alloc o1).drew.heap.size ≤ b) (.agg #[.string s', .slice a1 n1 c1]) l[k])
    (hown : w3.ownsRow (w.heap.size + 3) T 2 (.slice (some ⟨g, 0, none⟩) ((l.take k).length + 1) cap) ((l.take k).length + 1) (xs ++ [.string s', .slice a1 n1 c1])) (hg : (w1.alloc o2).grownBy w3 u.ownBlock) (hat : u.ownBlock = some g ∨ g = (w1.alloc o2).heap.size) :
    let w4 := w3.setCell ⟨w.heap.size + 1 + 1, 1, none⟩ (.slice (some ⟨g, 0, none⟩) ((l.take k).length + 1) cap)
    Row w4 (w.heap.size + 3) T (fun _ => False) (.slice (some ⟨g, 0, none⟩) ((l.take k).length + 1) cap) (l.take (k + 1)) (xs ++ [.string s', .slice a1 n1 c1]) ∧ Below w.heap.size w w4 ∧ Blk w4 (w.heap.size + 1) c0 T ∧ Blk w4 (w.heap.size + 1 + 1) #[.string s, .slice (some ⟨g, 0, none⟩) ((l.take k).length + 1) cap] T ∧ w.heap.size + 3 ≤ w4.heap.size := by
  intro w4
  have hbb : Below wr.heap.size wr (wr.alloc o1).drew := ((Below.refl _ _).alloc (Nat.le_refl _) o1).drew
  have hr1 := hrow.below hbb
  have hlt' := hrow.own.lt
  have hs1 := hb1.size
  have hsg := hg.size
  simp at hs1 hsg
  have hp := hr1.push (w1 := w1) (w2 := w1.alloc o2) (w3 := w3) (by simp; omega) (fun _ h => h.elim) hb1 (ht.mono fun b h _ => Or.inr h) o2 rfl hown hg hat
  have hw3 : Below w.heap.size w w3 := (((hb.trans (hbb.mono (by omega))).trans (hb1.mono (by simp; omega))).alloc (by omega) o2).grown hg (by simp; omega) (fun j hj => by have := (hlt' j hj).1; omega)
  have hA : Below w.heap.size w w4 := hw3.setCell (p := ⟨w.heap.size + 1 + 1, 1, none⟩) (by simp; omega) _
  refine ⟨?_, hA, (copy_blk h1 hb1 hg (fun e => by have := (hlt' _ e.symm).1; omega)).setOther _ _ (by omega), ?_, by simp [w4, World.setCell]; omega⟩
  · rw [List.take_succ_eq_append_getElem hlt]
    exact hp.setCell (by omega) (fun h => h) _
  · exact (copy_blk h2 hb1 hg (fun e => by have := (hlt' _ e.symm).1; omega)).set 1 _

set_option maxHeartbeats 1000000 in
theorem copyOf_any (t : Tm) : ∀ (v : Value) (w : World) (X : Nat → Prop), TV w X v t → sizeL [t] ≤ 1000000 →
    Calls Tryz.prog 15 #[v] w fun e w' => ∃ v', e = .returned v' ∧ TV w' (fun b => w.heap.size ≤ b) v' t ∧ Below w.heap.size w w' := by
  induction t using Tm.ind with
  | h s l ih =>
    intro v w X hv hsm
    have IH := hide ih
    clear ih
    obtain ⟨a, c, rfl, hs⟩ := hv
    have hl := hs.1
    have hz : sizeL [(⟨s, l⟩ : Tm)] = 1 + sizeL l := by simp [sizeL]
    rw [hz] at hsm
    clear hz
    have hlen := sizeL_len l
    obtain ⟨i0, hi, hz0, hz1, hz2⟩ := info_parts Tryz.infoTerm
    go_enter Tryz.func15, Tryz.ntmps15
    go_wp2_with fail
    go_loopw [12] (fun i wr => ∃ (k : Nat) (u : Value) (xs : List Value), k ≤ l.length ∧ i = .int .i64 k ∧ Row wr (w.heap.size + 3) 25 (fun _ => False) u (l.take k) xs ∧ Below w.heap.size w wr ∧ Blk wr (w.heap.size + 1) #[.string ⟨#[]⟩, .slice none 0 0] 25 ∧ Blk wr (w.heap.size + 1 + 1) #[.string s, u] 25 ∧ w.heap.size + 3 ≤ wr.heap.size) (fun i wr => l.length - (intOf i).toNat)
    case atStart =>
      refine ⟨0, .slice none 0 0, [], Nat.zero_le _, rfl, Row.start _ _ _ _, below3 _ _ _, ?_, ?_, by simp⟩
      · have := ((Blk.new (w.alloc (.cells #[.string s, .slice a l.length c] 25)) #[.string ⟨#[]⟩, .slice none 0 0] 25)).alloc (.cells #[.string s, .slice none 0 0] 25)
        simpa using this
      · have := Blk.new ((w.alloc (.cells #[.string s, .slice a l.length c] 25)).alloc (.cells #[.string ⟨#[]⟩, .slice none 0 0] 25)) #[.string s, .slice none 0 0] 25
        simpa using this
    case round =>
      obtain ⟨k, u, xs, hk, rfl, hrow, hb, hbl1, hbl2, hsz⟩ := hrel
      have HROW := hide hrow
      have HBL1 := hide hbl1
      have HBL2 := hide hbl2
      have HB := hide hb
      clear hrow hbl1
      by_cases hlt : k < l.length
      · obtain ⟨b, o, a', c', rfl, d0, d1, hx⟩ := hs.get hb (fun _ _ h => h) k hlt
        have hc2 : ∀ o, (wr.alloc o).cell? ⟨w.heap.size + 1 + 1, 1, none⟩ = some u := fun o => (hbl2.alloc o).cell 1
        have HX := hide hx
        have hszk : sizeL [l[k]] ≤ 1000000 := by
          have := sizeL_take l k hlt; have := sizeL_take_le l (k + 1); omega
        clear hbl2 hb hx
        go_wp2_with fail
        go_region_law (first
          | (go_simp; go_at_call 15; refine (IH.out _ (List.getElem_mem hlt) _ _ X (by exact (HX.out.alloc _).later (below_drewN (Below.refl _ _) 1)) hszk).mono ?_; rintro e w1 ⟨v1, rfl, ht1, hb1⟩; obtain ⟨a1, c1, rfl, hs1⟩ := ht1; have hc3 : ∀ o, (w1.alloc o).cell? ⟨w.heap.size + 1 + 1, 1, none⟩ = some u := fun o => ((((HBL2.out.alloc _).drewN 1).below hb1 (by simp; omega)).alloc o).cell 1; have hc4 : w1.cell? ⟨w.heap.size + 1 + 1, 1, none⟩ = some u := (((HBL2.out.alloc _).drewN 1).below hb1 (by simp; omega)).cell 1)
          | (refine step_append_lies _ rfl _ _ 23 rfl (w.heap.size + 3) 25 i0 _ 2 40 Tryz.underlying23 hi hz0 hz1 hz2 rfl (by decide) u (l.take k).length xs rfl (by exact (((HROW.out.below ((Below.refl _ _).alloc (Nat.le_refl _) _)).below (below_drewN (Below.refl _ _) 1)).below hb1).own.alloc _) ⟨w1.heap.size, 0, none⟩ 1 1 [.string l[k].name, .slice a1 l[k].args.length c1] rfl rfl (cell_two_new _ _ _ _) (fun x hx => by simp at hx; rcases hx with rfl | rfl <;> rfl) (by decide) (by unfold maxLen; simp; omega) (by simp; omega) (by have := hb1.size; simp at this ⊢; omega) _ rfl ?_; intro g cap w3 hown3 hgrow3 hat3 hlt3; have hB3 := hide (copy_blk HBL2.out hb1 hgrow3 (HROW.out.ne (Nat.lt_succ_self _))); have hc5 : w3.cell? ⟨w.heap.size + 1 + 1, 1, none⟩ = some u := hB3.out.cell 1; have hf5 := hB3.out.frozen 1))
        all_goals
          have HFIN := hide (copy_step HROW.out HB.out HBL1.out HBL2.out hsz hlt hb1 ⟨a1, c1, rfl, hs1⟩ hown3 hgrow3 hat3)
          clear hown3 hgrow3 hat3 hc2 hc3 hc4
          go_wp2_with fail
          go_roundw
          case rel =>
            have hkl : (l.take k).length = k := by simp; omega
            obtain ⟨r1, r2, r3, r4, r5⟩ := HFIN.out
            simp only [hkl] at r1 r2 r3 r4 r5
            exact ⟨k + 1, _, _, by omega, by go_num, r1, r2, r3, r4, r5⟩
          case measure => simp [intOf]; omega
      · have htk : l.take k = l := List.take_of_length_le (by omega)
        have hc0 := hbl2.cell 0
        have hc1 := hbl2.cell 1
        have hr0 := HBL1.out.cell 0
        have hr1 := HBL1.out.cell 1
        have hrf := HBL1.out.frozen
        obtain ⟨a9, c9, hu9, hsl9⟩ := HROW.out.sl
        rw [htk] at hu9 hsl9
        have HSL := hide hsl9
        subst hu9
        clear hsl9 htk hbl2
        go_wp2_with fail
        refine bodyPost_ret (v := .agg #[.string s, .slice a9 l.length c9]) (by simp [results, Tryz.results15, go_sem, hr0, hr1, World.cell?_setCell_same, World.cell?_setCell_other]) rfl ⟨_, rfl, ?_, ?_⟩
        · refine ⟨a9, c9, rfl, ?_⟩
          have hk9 : Sl wr (fun b => w.heap.size + 3 ≤ b) a9 l := HSL.out.mono fun b h _ => h.elim False.elim id
          exact ((hk9.kept fun b hb => by rw [Below.heap_setCell _ _ _ _ (by simp; omega), Below.heap_setCell _ _ _ _ (by simp; omega)]).mono fun b hb _ => by omega)
        · exact (HB.out.setCell (by simp) _).setCell (by simp) _
#print axioms copyOf_any
end Go.Proofs.YteghhdogmdpbpakGreat


/- Walks: two bindings by their names. -/
namespace Go.Proofs.YteghhdogmdpbpakGreat
open Go.RowKit
set_option linter.unusedSimpArgs false
set_option linter.unusedVariables false
set_option maxRecDepth 8000

/-- How two texts stand to each other. -/
def cmpN (a b : ByteArray) : Int := if ltB a b = true then -1 else if ltB b a = true then 1 else 0
theorem isNaN_any (a : ByteArray) (w : World) : Calls Tryz.prog 92 #[.string a] w fun e w' => e = .returned (.bool false) ∧ w' = w := by
  go_enter Tryz.func92, Tryz.ntmps92
  go_wp2_with fail
  go_ret
  exact ⟨by simp, rfl⟩
theorem compare_any (a b : ByteArray) (w : World) : Calls Tryz.prog 82 #[.string a, .string b] w fun e w' => e = .returned (.int .i64 (cmpN a b)) ∧ w' = w := by
  cases h1 : Op.bytesLess a.toList b.toList with
  | true =>
    have HN : Hid (cmpN a b = -1) := by unfold Hid cmpN ltB; rw [h1]; rfl
    go_enter Tryz.func82, Tryz.ntmps82
    go_wp2_with (go_at_call 92; refine (isNaN_any _ _).mono ?_; rintro e w' ⟨rfl, rfl⟩)
    go_ret
    exact ⟨by rw [HN.out]; rfl, rfl⟩
  | false =>
    by_cases he : a = b
    · have HN : Hid (cmpN a b = 0) := by unfold Hid cmpN ltB; rw [h1, he, bl_irrefl]; rfl
      have h2 : (a.toList == b.toList) = true := bytes_yes he
      clear he
      go_enter Tryz.func82, Tryz.ntmps82
      go_wp2_with (go_at_call 92; refine (isNaN_any _ _).mono ?_; rintro e w' ⟨rfl, rfl⟩)
      go_ret
      exact ⟨by rw [HN.out]; rfl, rfl⟩
    · have HN : Hid (cmpN a b = 1) := by
        unfold Hid cmpN
        have h3 : ltB b a = true := by
          cases h : ltB b a with
          | true => rfl
          | false => exact absurd (ltB_conn h1 h) he
        rw [if_neg (by unfold ltB; rw [h1]; simp), if_pos h3]
      have h2 : (a.toList == b.toList) = false := bytes_no he
      clear he
      go_enter Tryz.func82, Tryz.ntmps82
      go_wp2_with (go_at_call 92; refine (isNaN_any _ _).mono ?_; rintro e w' ⟨rfl, rfl⟩)
      go_ret
      exact ⟨by rw [HN.out]; rfl, rfl⟩
open Go.Sort in
#print axioms compare_any
end Go.Proofs.YteghhdogmdpbpakGreat

/- Maps of numbers and of ranks, and how two symbols compare: plain. -/
namespace Go.Proofs.YteghhdogmdpbpakGreat
open Go.RowKit
set_option linter.unusedSimpArgs false
set_option linter.unusedVariables false

def txtB (t : Tm) : ByteArray := ⟨(txtL [t]).toArray⟩
theorem txtB_inj {t u : Tm} (ht : errL [t] = 0) (hu : errL [u] = 0) (h : txtB t = txtB u) : t = u := by
  refine txt_inj ht hu ?_
  unfold txtB at h
  have h1 : (txtL [t]).toArray = (txtL [u]).toArray := by injection h
  simpa using congrArg Array.toList h1
/-- The map from texts to numbers. -/
def numL : Nat → List Tm → List (ByteArray × Value)
  | _, [] => []
  | i, t :: S => (txtB t, .int .i64 i) :: numL (i + 1) S
theorem numL_len : ∀ (S : List Tm) (i : Nat), (numL i S).length = S.length
  | [], i => rfl
  | t :: S, i => by simp [numL, numL_len S]
theorem numL_push : ∀ (S : List Tm) (t : Tm) (i : Nat), numL i (S ++ [t]) = numL i S ++ [(txtB t, .int .i64 (i + S.length))]
  | [], t, i => by simp [numL]
  | x :: S, t, i => by
    rw [List.cons_append, numL, numL, numL_push S t (i + 1), List.cons_append]
    simp only [List.length_cons]
    rw [show (((i + 1 : Nat) : Int) + (S.length : Int)) = (i : Int) + ((S.length + 1 : Nat) : Int) by omega]
theorem numL_get {t : Tm} (ht : errL [t] = 0) : ∀ (S : List Tm) (i : Nat), (∀ x ∈ S, errL [x] = 0) → mapGet (numL i S) (txtB t) = if numT t S < S.length then some (.int .i64 (i + numT t S)) else none
  | [], i, _ => by simp [numL, mapGet, numT]
  | x :: S, i, h => by
    rw [numL, mapGet, numT]
    by_cases hs : sameB x t = true
    · have e := sameB_iff.1 hs
      subst e
      simp [hs]
    · have hne : txtB x ≠ txtB t := fun e => hs (sameB_iff.2 (txtB_inj (h x (by simp)) ht e))
      rw [if_neg hne, if_neg hs, numL_get ht S (i + 1) fun y hy => h y (by simp [hy])]
      simp only [List.length_cons]
      by_cases hl : numT t S < S.length
      · rw [if_pos hl, if_pos (by omega)]
        congr 2
        omega
      · rw [if_neg hl, if_neg (by omega)]
/-- The map from names to ranks. -/
def rkL : Nat → List ByteArray → List (ByteArray × Value)
  | _, [] => []
  | i, n :: r => (n, .int .i64 (i + 1)) :: rkL (i + 1) r
theorem rkL_push : ∀ (r : List ByteArray) (n : ByteArray) (i : Nat), rkL i (r ++ [n]) = rkL i r ++ [(n, .int .i64 (i + r.length + 1))]
  | [], n, i => by simp [rkL]
  | x :: r, n, i => by
    rw [List.cons_append, rkL, rkL, rkL_push r n (i + 1), List.cons_append]
    simp only [List.length_cons]
    rw [show (((i + 1 : Nat) : Int) + (r.length : Int) + 1) = (i : Int) + ((r.length + 1 : Nat) : Int) + 1 by omega]
theorem rkL_get (n : ByteArray) : ∀ (r : List ByteArray) (i : Nat), mapGet (rkL i r) n = if rankN n r = 0 then none else some (.int .i64 (i + rankN n r))
  | [], i => by simp [rkL, mapGet, rankN]
  | x :: r, i => by
    rw [rkL, mapGet, rankN]
    by_cases h : x = n
    · simp [h]
    · rw [if_neg h, if_neg h, rkL_get n r (i + 1)]
      cases rankN n r with
      | zero => simp
      | succ k =>
        simp only [Nat.add_eq_zero_iff]
        rw [if_neg (by omega), if_neg (by omega)]
        congr 2
        omega
theorem rank_none {n : ByteArray} : ∀ {r : List ByteArray}, n ∉ r → rankN n r = 0
  | [], _ => rfl
  | x :: r, h => by
    rw [List.mem_cons, not_or] at h
    rw [rankN, if_neg fun e => h.1 e.symm, rank_none h.2]
theorem rank_le (n : ByteArray) : ∀ r : List ByteArray, rankN n r ≤ r.length
  | [] => by simp [rankN]
  | x :: r => by
    rw [rankN]
    have := rank_le n r
    split
    · simp
    · split
      · simp
      · rename_i k hk
        rw [hk] at this
        simp; omega
theorem rkL_at (n : ByteArray) (r : List ByteArray) : (mapGet (rkL 0 r) n).getD (.int .i64 0) = .int .i64 (rankN n r) := by
  rw [rkL_get]
  by_cases h : rankN n r = 0
  · rw [if_pos h, h]; rfl
  · rw [if_neg h]; simp
/-- How two numbers stand to each other. -/
def cmpI (a b : Int) : Int := if a < b then -1 else if b < a then 1 else 0
/-- How two symbols do. -/
def cmpS (row : List ByteArray) (a b : Tm) : Int :=
  if cmpI (rankN a.name row) (rankN b.name row) ≠ 0 then cmpI (rankN a.name row) (rankN b.name row)
  else if cmpN a.name b.name ≠ 0 then cmpN a.name b.name
  else cmpI a.args.length b.args.length
theorem cmpN_zero {a b : ByteArray} : cmpN a b = 0 ↔ a = b := by
  unfold cmpN
  constructor
  · intro h
    cases h1 : ltB a b with
    | true => rw [h1] at h; simp at h
    | false =>
      cases h2 : ltB b a with
      | true => rw [h1, h2] at h; simp at h
      | false => exact ltB_conn h1 h2
  · rintro rfl
    simp [ltB_irrefl]
/-- Greater, less, or the same. -/
theorem cmpS_cases (row : List ByteArray) (a b : Tm) : (gtS row a b = true ∧ cmpS row a b = 1) ∨ (gtS row b a = true ∧ cmpS row a b = -1) ∨ (gtS row a b = false ∧ gtS row b a = false ∧ cmpS row a b = 0) := by
  unfold cmpS
  by_cases h1 : rankN a.name row = rankN b.name row
  · have c1 : cmpI (rankN a.name row) (rankN b.name row) = 0 := by unfold cmpI; rw [h1]; simp
    rw [if_neg (by simp [c1])]
    by_cases h2 : a.name = b.name
    · have c2 : cmpN a.name b.name = 0 := cmpN_zero.2 h2
      rw [if_neg (by simp [c2])]
      have g : ∀ x y : Tm, rankN x.name row = rankN y.name row → x.name = y.name → gtS row x y = decide (y.args.length < x.args.length) := fun x y hr hn => by
        unfold gtS
        rw [if_neg (by simpa using hr), if_neg (by simpa using hn)]
      rw [g a b h1 h2, g b a h1.symm h2.symm]
      unfold cmpI
      rcases Nat.lt_trichotomy a.args.length b.args.length with h | h | h
      · refine Or.inr (Or.inl ⟨by simpa using h, ?_⟩)
        rw [if_pos (by omega)]
      · refine Or.inr (Or.inr ⟨by simp; omega, by simp; omega, ?_⟩)
        rw [if_neg (by omega), if_neg (by omega)]
      · refine Or.inl ⟨by simpa using h, ?_⟩
        rw [if_neg (by omega), if_pos (by omega)]
    · have c2 : cmpN a.name b.name ≠ 0 := fun e => h2 (cmpN_zero.1 e)
      rw [if_pos c2]
      have g : ∀ x y : Tm, rankN x.name row = rankN y.name row → x.name ≠ y.name → gtS row x y = ltB y.name x.name := fun x y hr hn => by
        unfold gtS
        rw [if_neg (by simpa using hr), if_pos hn]
      rw [g a b h1 h2, g b a h1.symm (fun e => h2 e.symm)]
      unfold cmpN
      cases l1 : ltB a.name b.name with
      | true => exact Or.inr (Or.inl ⟨rfl, by simp⟩)
      | false =>
        cases l2 : ltB b.name a.name with
        | true => exact Or.inl ⟨rfl, by simp⟩
        | false => exact absurd (ltB_conn l1 l2) h2
  · have g : ∀ x y : Tm, rankN x.name row ≠ rankN y.name row → gtS row x y = decide (rankN y.name row < rankN x.name row) := fun x y hr => by
      unfold gtS
      rw [if_pos hr]
    rw [g a b h1, g b a (fun e => h1 e.symm)]
    unfold cmpI
    rcases Nat.lt_trichotomy (rankN a.name row) (rankN b.name row) with h | h | h
    · refine Or.inr (Or.inl ⟨by simpa using h, ?_⟩)
      have e : ((rankN a.name row : Nat) : Int) < ((rankN b.name row : Nat) : Int) := by omega
      simp only [if_pos e]
      simp
    · exact absurd h h1
    · refine Or.inl ⟨by simpa using h, ?_⟩
      have e1 : ¬ ((rankN a.name row : Nat) : Int) < ((rankN b.name row : Nat) : Int) := by omega
      have e2 : ((rankN b.name row : Nat) : Int) < ((rankN a.name row : Nat) : Int) := by omega
      simp only [if_neg e1, if_pos e2]
      simp
#print axioms numL_get
#print axioms cmpS_cases
end Go.Proofs.YteghhdogmdpbpakGreat

/- Terms that are told by numbers, as they lie in memory: four cells each. -/
namespace Go.Proofs.YteghhdogmdpbpakGreat
open Go.RowKit
set_option linter.unusedSimpArgs false
set_option linter.unusedVariables false

/-- A list of numbered terms lies in a row of cells, four each, in blocks that X lets. -/
def ILies (w : World) (X : Nat → Prop) (S : List Tm) : Nat → Nat → List Tm → Prop
  | _, _, [] => True
  | b, o, ⟨s, l⟩ :: r => X b ∧ (⟨s, l⟩ : Tm) ∈ S ∧ w.cell? ⟨b, o, none⟩ = some (.string s) ∧
      (∃ a c, w.cell? ⟨b, o + 1, none⟩ = some (.slice a l.length c) ∧ l.length ≤ 9223372036854775807 ∧ (l = [] ∨ ∃ b' o', a = some ⟨b', o', none⟩ ∧ ILies w X S b' o' l)) ∧
      w.cell? ⟨b, o + 2, none⟩ = some (.int .i64 (numT ⟨s, l⟩ S)) ∧ w.cell? ⟨b, o + 3, none⟩ = some (.int .i64 (sizeL [⟨s, l⟩])) ∧ ILies w X S b (o + 4) r

/-- What a slice of numbered terms holds. -/
def ISl (w : World) (X : Nat → Prop) (S : List Tm) (a : Option Addr) (l : List Tm) : Prop := l.length ≤ 9223372036854775807 ∧ (l = [] ∨ ∃ b o, a = some ⟨b, o, none⟩ ∧ ILies w X S b o l)

/-- What a numbered term's value holds. -/
def IV (w : World) (X : Nat → Prop) (S : List Tm) (v : Value) (t : Tm) : Prop := t ∈ S ∧ ∃ a c, v = .agg #[.string t.name, .slice a t.args.length c, .int .i64 (numT t S), .int .i64 (sizeL [t])] ∧ ISl w X S a t.args

theorem ilies_kept {w w' : World} {X : Nat → Prop} {S : List Tm} (h : ∀ b, X b → w'.heap[b]? = w.heap[b]?) (l : List Tm) : ∀ b o, ILies w X S b o l → ILies w' X S b o l := by
  induction l using Tm.indL with
  | h0 => intro b o _; simp [ILies]
  | h s l r ihl ihr =>
    intro b o hl
    simp only [ILies] at hl ⊢
    obtain ⟨hx, hm, h1, ⟨a, c, h2, h2', h3⟩, h5, h6, h4⟩ := hl
    have e := fun o => World.cell?_of_block (w := w) (w' := w') (a := ⟨b, o, none⟩) (h b hx)
    refine ⟨hx, hm, by rw [e]; exact h1, ⟨a, c, by rw [e]; exact h2, h2', ?_⟩, by rw [e]; exact h5, by rw [e]; exact h6, ihr _ _ h4⟩
    rcases h3 with h3 | ⟨b', o', h3, h5⟩
    · exact Or.inl h3
    · exact Or.inr ⟨b', o', h3, ihl _ _ h5⟩

theorem ilies_mono {w : World} {X Y : Nat → Prop} {S : List Tm} (h : ∀ b, X b → b < w.heap.size → Y b) (l : List Tm) : ∀ b o, ILies w X S b o l → ILies w Y S b o l := by
  induction l using Tm.indL with
  | h0 => intro b o _; simp [ILies]
  | h s l r ihl ihr =>
    intro b o hl
    simp only [ILies] at hl ⊢
    obtain ⟨hx, hm, h1, ⟨a, c, h2, h2', h3⟩, h5, h6, h4⟩ := hl
    have hb : b < w.heap.size := by
      apply Classical.byContradiction
      intro hn
      have e : w.heap[b]? = none := Array.getElem?_eq_none (by omega)
      simp [World.cell?, e] at h1
    refine ⟨h b hx hb, hm, h1, ⟨a, c, h2, h2', ?_⟩, h5, h6, ihr _ _ h4⟩
    rcases h3 with h3 | ⟨b', o', h3, h5⟩
    · exact Or.inl h3
    · exact Or.inr ⟨b', o', h3, ihl _ _ h5⟩

theorem ilies_more {w : World} {X : Nat → Prop} {S : List Tm} (R : List Tm) (l : List Tm) : ∀ b o, ILies w X S b o l → ILies w X (S ++ R) b o l := by
  induction l using Tm.indL with
  | h0 => intro b o _; simp [ILies]
  | h s l r ihl ihr =>
    intro b o hl
    simp only [ILies] at hl ⊢
    obtain ⟨hx, hm, h1, ⟨a, c, h2, h2', h3⟩, h5, h6, h4⟩ := hl
    refine ⟨hx, List.mem_append_left _ hm, h1, ⟨a, c, h2, h2', ?_⟩, by rw [numT_more R hm]; exact h5, h6, ihr _ _ h4⟩
    rcases h3 with h3 | ⟨b', o', h3, h5⟩
    · exact Or.inl h3
    · exact Or.inr ⟨b', o', h3, ihl _ _ h5⟩

theorem ISl.kept {w w' : World} {X : Nat → Prop} {S : List Tm} {a : Option Addr} {l : List Tm} (h : ISl w X S a l) (hk : ∀ b, X b → w'.heap[b]? = w.heap[b]?) : ISl w' X S a l := by
  obtain ⟨hl, h⟩ := h
  refine ⟨hl, ?_⟩
  rcases h with h | ⟨b, o, e, h⟩
  · exact Or.inl h
  · exact Or.inr ⟨b, o, e, ilies_kept hk _ _ _ h⟩
theorem ISl.mono {w : World} {X Y : Nat → Prop} {S : List Tm} {a : Option Addr} {l : List Tm} (h : ISl w X S a l) (hk : ∀ b, X b → b < w.heap.size → Y b) : ISl w Y S a l := by
  obtain ⟨hl, h⟩ := h
  refine ⟨hl, ?_⟩
  rcases h with h | ⟨b, o, e, h⟩
  · exact Or.inl h
  · exact Or.inr ⟨b, o, e, ilies_mono hk _ _ _ h⟩
theorem ISl.more {w : World} {X : Nat → Prop} {S : List Tm} {a : Option Addr} {l : List Tm} (h : ISl w X S a l) (R : List Tm) : ISl w X (S ++ R) a l := by
  obtain ⟨hl, h⟩ := h
  refine ⟨hl, ?_⟩
  rcases h with h | ⟨b, o, e, h⟩
  · exact Or.inl h
  · exact Or.inr ⟨b, o, e, ilies_more R _ _ _ h⟩
theorem ISl.below {w w' : World} {X : Nat → Prop} {S : List Tm} {a : Option Addr} {l : List Tm} {B : Nat} (h : ISl w X S a l) (hb : Below B w w') (hX : ∀ b, X b → b < w.heap.size → b < B) : ISl w' X S a l := by
  have h1 : ISl w (fun b => X b ∧ b < B) S a l := h.mono fun b hx hs => ⟨hx, hX b hx hs⟩
  have h2 : ISl w' (fun b => X b ∧ b < B) S a l := h1.kept fun b hx => hb.block b hx.2
  exact h2.mono fun b hx _ => hx.1
theorem ISl.later {w w' : World} {X : Nat → Prop} {S : List Tm} {a : Option Addr} {l : List Tm} (h : ISl w X S a l) (hb : Below w.heap.size w w') : ISl w' X S a l := h.below hb (fun _ _ h => h)
theorem IV.kept {w w' : World} {X : Nat → Prop} {S : List Tm} {v : Value} {t : Tm} (h : IV w X S v t) (hk : ∀ b, X b → w'.heap[b]? = w.heap[b]?) : IV w' X S v t := by
  obtain ⟨hm, a, c, e, h⟩ := h
  exact ⟨hm, a, c, e, h.kept hk⟩
theorem IV.mono {w : World} {X Y : Nat → Prop} {S : List Tm} {v : Value} {t : Tm} (h : IV w X S v t) (hk : ∀ b, X b → b < w.heap.size → Y b) : IV w Y S v t := by
  obtain ⟨hm, a, c, e, h⟩ := h
  exact ⟨hm, a, c, e, h.mono hk⟩
theorem IV.more {w : World} {X : Nat → Prop} {S : List Tm} {v : Value} {t : Tm} (h : IV w X S v t) (R : List Tm) : IV w X (S ++ R) v t := by
  obtain ⟨hm, a, c, e, h⟩ := h
  exact ⟨List.mem_append_left _ hm, a, c, by rw [numT_more R hm]; exact e, h.more R⟩
theorem IV.later {w w' : World} {X : Nat → Prop} {S : List Tm} {v : Value} {t : Tm} (h : IV w X S v t) (hb : Below w.heap.size w w') : IV w' X S v t := by
  obtain ⟨hm, a, c, e, h⟩ := h
  exact ⟨hm, a, c, e, h.later hb⟩
theorem IV.alloc {w : World} {X : Nat → Prop} {S : List Tm} {v : Value} {t : Tm} (h : IV w X S v t) (o : Obj) : IV (w.alloc o) X S v t := h.later ((Below.refl _ _).alloc (Nat.le_refl _) o)

/-- One of a row. -/
theorem ilies_get {w : World} {X : Nat → Prop} {S : List Tm} : ∀ (l : List Tm) (b o : Nat), ILies w X S b o l → ∀ i (h : i < l.length),
    X b ∧ l[i] ∈ S ∧ w.cell? ⟨b, o + i * 4, none⟩ = some (.string l[i].name) ∧ w.cell? ⟨b, o + i * 4 + 2, none⟩ = some (.int .i64 (numT l[i] S)) ∧ w.cell? ⟨b, o + i * 4 + 3, none⟩ = some (.int .i64 (sizeL [l[i]])) ∧
      ∃ a c, w.cell? ⟨b, o + i * 4 + 1, none⟩ = some (.slice a l[i].args.length c) ∧ ISl w X S a l[i].args := by
  intro l
  induction l with
  | nil => intro b o _ i h; simp at h
  | cons t r ih =>
    intro b o hl i h
    obtain ⟨s, k⟩ := t
    simp only [ILies] at hl
    obtain ⟨hx, hm, h1, ⟨a, c, h2, h3⟩, h5, h6, h4⟩ := hl
    cases i with
    | zero => exact ⟨hx, hm, h1, h5, h6, a, c, h2, h3⟩
    | succ i =>
      have := ih b (o + 4) h4 i (by simpa using h)
      simp only [List.getElem_cons_succ]
      rw [show o + (i + 1) * 4 = o + 4 + i * 4 by omega]
      exact this

/-- One of a slice, in a later world. -/
theorem ISl.get {w wr : World} {X : Nat → Prop} {S : List Tm} {a : Option Addr} {l : List Tm} {B : Nat} (h : ISl w X S a l) (hb : Below B w wr) (hX : ∀ b, X b → b < w.heap.size → b < B) (k : Nat) (hk : k < l.length) :
    ∃ b o a' c', a = some ⟨b, o, none⟩ ∧ wr.cell? ⟨b, o + k * 4, none⟩ = some (.string l[k].name) ∧ wr.cell? ⟨b, o + k * 4 + 1, none⟩ = some (.slice a' l[k].args.length c') ∧ wr.cell? ⟨b, o + k * 4 + 2, none⟩ = some (.int .i64 (numT l[k] S)) ∧ wr.cell? ⟨b, o + k * 4 + 3, none⟩ = some (.int .i64 (sizeL [l[k]])) ∧
      IV wr X S (.agg #[.string l[k].name, .slice a' l[k].args.length c', .int .i64 (numT l[k] S), .int .i64 (sizeL [l[k]])]) l[k] := by
  have h' := h.below hb hX
  obtain ⟨_, h1⟩ := h'
  rcases h1 with h1 | ⟨b, o, e, h1⟩
  · subst h1; simp at hk
  · obtain ⟨_, hm, h2, h5, h6, a', c', h3, h4⟩ := ilies_get _ _ _ h1 k hk
    exact ⟨b, o, a', c', e, h2, h3, h5, h6, hm, a', c', rfl, h4⟩

/-- These cells are these numbered terms. -/
def RowI (w : World) (X : Nat → Prop) (S : List Tm) : List Tm → List Value → Prop
  | [], xs => xs = []
  | t :: l, xs => t ∈ S ∧ ∃ a c r, xs = .string t.name :: .slice a t.args.length c :: .int .i64 (numT t S) :: .int .i64 (sizeL [t]) :: r ∧ ISl w X S a t.args ∧ RowI w X S l r

theorem RowI.append {w : World} {X : Nat → Prop} {S : List Tm} : ∀ {l k : List Tm} {xs ys : List Value}, RowI w X S l xs → RowI w X S k ys → RowI w X S (l ++ k) (xs ++ ys)
  | [], k, xs, ys, h, h' => by simp [RowI] at h; subst h; simpa using h'
  | t :: l, k, xs, ys, h, h' => by
    obtain ⟨hm, a, c, r, rfl, hs, h⟩ := h
    exact ⟨hm, a, c, r ++ ys, rfl, hs, RowI.append h h'⟩
theorem RowI.imp {w w' : World} {X Y : Nat → Prop} {S : List Tm} (hs : ∀ a l, ISl w X S a l → ISl w' Y S a l) : ∀ {l : List Tm} {xs : List Value}, RowI w X S l xs → RowI w' Y S l xs
  | [], xs, h => h
  | t :: l, xs, h => by
    obtain ⟨hm, a, c, r, e, h1, h⟩ := h
    exact ⟨hm, a, c, r, e, hs _ _ h1, RowI.imp hs h⟩
theorem RowI.more {w : World} {X : Nat → Prop} {S : List Tm} (R : List Tm) : ∀ {l : List Tm} {xs : List Value}, RowI w X S l xs → RowI w X (S ++ R) l xs
  | [], xs, h => h
  | t :: l, xs, h => by
    obtain ⟨hm, a, c, r, e, h1, h⟩ := h
    exact ⟨List.mem_append_left _ hm, a, c, r, by rw [numT_more R hm]; exact e, h1.more R, RowI.more R h⟩

theorem ilies_of_row {w w' : World} {X Y : Nat → Prop} {S : List Tm} (b : Nat) (hb : Y b) : ∀ (l : List Tm) (xs : List Value) (o : Nat), RowI w X S l xs → (∀ a k, ISl w X S a k → ISl w' Y S a k) → (∀ j u, xs[j]? = some u → w'.cell? ⟨b, o + j, none⟩ = some u) → ILies w' Y S b o l := by
  intro l
  induction l with
  | nil => intro xs o _ _ _; simp [ILies]
  | cons t r ih =>
    intro xs o h hs hc
    obtain ⟨s, k⟩ := t
    obtain ⟨hm, a, c, r', rfl, h1, h2⟩ := h
    simp only [ILies]
    obtain ⟨h3, h4⟩ := hs _ _ h1
    refine ⟨hb, hm, hc 0 _ rfl, ⟨a, c, hc 1 _ rfl, h3, h4⟩, hc 2 _ rfl, hc 3 _ rfl, ih r' (o + 4) h2 hs fun j u hj => ?_⟩
    have := hc (j + 4) u (by simpa using hj)
    rwa [show o + (j + 4) = o + 4 + j by omega] at this

/-- The row so far. -/
structure IRow (w : World) (N : Nat) (T : Nat) (S : List Tm) (v : Value) (l : List Tm) (xs : List Value) : Prop where
  own : w.ownsRow N T 4 v l.length xs
  row : RowI w (fun b => N ≤ b ∧ some b ≠ v.ownBlock) S l xs

theorem IRow.start (w : World) (N T : Nat) (S : List Tm) : IRow w N T S (.slice none 0 0) [] [] := ⟨World.ownsRow_nil w N T 4, rfl⟩
theorem IRow.more {w : World} {N T : Nat} {S : List Tm} {v : Value} {l : List Tm} {xs : List Value} (h : IRow w N T S v l xs) (R : List Tm) : IRow w N T (S ++ R) v l xs := ⟨h.own, h.row.more R⟩
theorem IRow.ne {w : World} {N T : Nat} {S : List Tm} {v : Value} {l : List Tm} {xs : List Value} (h : IRow w N T S v l xs) {b : Nat} (hb : b < N) : some b ≠ v.ownBlock := fun e => by
  have := (h.own.lt b e.symm).1; omega
/-- What changes no block from N on leaves the row. -/
theorem IRow.kept {w w' : World} {N T : Nat} {S : List Tm} {v : Value} {l : List Tm} {xs : List Value} (h : IRow w N T S v l xs) (hk : ∀ b, N ≤ b → b < w.heap.size → w'.heap[b]? = w.heap[b]?) (hs : w.heap.size ≤ w'.heap.size) (ho : w'.os = w.os) (ht : w'.tape = w.tape) (hp : w'.output = w.output) : IRow w' N T S v l xs := by
  obtain ⟨hown, hrow⟩ := h
  have hlt := hown.lt
  refine ⟨?_, ?_⟩
  · obtain ⟨h0, h1⟩ := hown
    refine ⟨h0, ?_⟩
    rcases h1 with h1 | ⟨g, cap, cur, hv, hg, hh, hr⟩
    · exact Or.inl h1
    · subst hv
      have := (hlt g rfl).2
      exact Or.inr ⟨g, cap, cur, rfl, hg, (hk g hg this).trans hh, hr⟩
  · refine hrow.imp fun a k hs' => ?_
    have h1 : ISl w (fun b => (N ≤ b ∧ some b ≠ v.ownBlock) ∧ b < w.heap.size) S a k := hs'.mono fun b h1 h2 => ⟨h1, h2⟩
    exact (h1.kept fun b hb => hk b hb.1.1 hb.2).mono fun b hb _ => hb.1
theorem IRow.sl {w : World} {N T : Nat} {S : List Tm} {v : Value} {l : List Tm} {xs : List Value} (h : IRow w N T S v l xs) : ∃ a c, v = .slice a l.length c ∧ ISl w (fun b => N ≤ b) S a l := by
  have hml : l.length ≤ 9223372036854775807 := by
    rcases h.own.2 with ⟨_, h0⟩ | ⟨g, cap, cur, _, _, _, h1, h2, _⟩
    · omega
    · unfold maxLen at h2; omega
  by_cases h0 : 0 < l.length
  · obtain ⟨g, cap, rfl, hg, hlt, hc⟩ := owned_val h.own h0
    exact ⟨_, _, rfl, hml, Or.inr ⟨g, 0, rfl, ilies_of_row g hg l xs 0 h.row (fun a k hs => hs.mono fun b hb _ => hb.1) (fun j u hj => by simpa using hc j u hj)⟩⟩
  · have e : l = [] := List.length_eq_zero_iff.1 (by omega)
    subst e
    rcases h.own.2 with ⟨hv, _⟩ | ⟨g, cap, cur, hv, _⟩
    · exact ⟨none, 0, hv, hml, Or.inl rfl⟩
    · exact ⟨_, _, hv, hml, Or.inl rfl⟩
/-- One more: its cells have been laid into a block of their own, and appended. -/
theorem IRow.push {w1 w2 w3 : World} {N T : Nat} {S : List Tm} {v : Value} {l : List Tm} {xs : List Value} (h : IRow w1 N T S v l xs) {M : Nat} (hN : N ≤ M) {t : Tm} {a : Option Addr} {c : Nat}
    (hM : ∀ b, some b = v.ownBlock → b < M)
    (ht : IV w1 (fun b => M ≤ b) S (.agg #[.string t.name, .slice a t.args.length c, .int .i64 (numT t S), .int .i64 (sizeL [t])]) t) (o : Obj) (hw2 : w2 = w1.alloc o) {g cap : Nat}
    (hown : w3.ownsRow N T 4 (.slice (some ⟨g, 0, none⟩) (l.length + 1) cap) (l.length + 1) (xs ++ [.string t.name, .slice a t.args.length c, .int .i64 (numT t S), .int .i64 (sizeL [t])])) (hg : w2.grownBy w3 v.ownBlock) (hg1 : v.ownBlock = some g ∨ g = w2.heap.size) :
    IRow w3 N T S (.slice (some ⟨g, 0, none⟩) (l.length + 1) cap) (l ++ [t]) (xs ++ [.string t.name, .slice a t.args.length c, .int .i64 (numT t S), .int .i64 (sizeL [t])]) := by
  subst hw2
  have hlt := h.own.lt
  refine ⟨by simpa using hown, ?_⟩
  have hgN : N ≤ g ∨ True := Or.inr trivial
  have hsz : (w1.alloc o).heap.size = w1.heap.size + 1 := by simp
  refine RowI.append (h.row.imp fun a' k' hs => ?_) ?_
  · have h1 : ISl w1 (fun b => (N ≤ b ∧ some b ≠ v.ownBlock) ∧ b < w1.heap.size) S a' k' := hs.mono fun b h1 h2 => ⟨h1, h2⟩
    have h2 : ISl w3 (fun b => (N ≤ b ∧ some b ≠ v.ownBlock) ∧ b < w1.heap.size) S a' k' := h1.kept fun b hx => by
      rw [hg.block b (by omega) hx.1.2, Below.heap_alloc _ _ _ hx.2]
    refine h2.mono fun b hx _ => ⟨hx.1.1, fun e => ?_⟩
    simp [Value.ownBlock] at e
    rcases hg1 with e' | e'
    · exact hx.1.2 (by rw [e', e])
    · omega
  · obtain ⟨hm, a2, c2, e, hs⟩ := ht
    simp at e
    obtain ⟨rfl, rfl⟩ := e
    refine ⟨hm, a, c, [], rfl, ?_, rfl⟩
    have h1 : ISl w1 (fun b => M ≤ b ∧ b < w1.heap.size) S a t.args := hs.mono fun b h1 h2 => ⟨h1, h2⟩
    have h2 : ISl w3 (fun b => M ≤ b ∧ b < w1.heap.size) S a t.args := h1.kept fun b hx => by
      have hne : some b ≠ v.ownBlock := fun e => by have := hM b e; omega
      rw [hg.block b (by omega) hne, Below.heap_alloc _ _ _ hx.2]
    refine h2.mono fun b hx _ => ⟨by omega, fun e => ?_⟩
    simp [Value.ownBlock] at e
    rcases hg1 with e' | e'
    · have := hM g e'.symm; omega
    · omega
/-- A store into a block ahead of the row's. -/
theorem IRow.setCell {w : World} {N T : Nat} {S : List Tm} {v : Value} {l : List Tm} {xs : List Value} (h : IRow w N T S v l xs) {b i : Nat} (hb : b < N) (u : Value) : IRow (w.setCell ⟨b, i, none⟩ u) N T S v l xs :=
  ⟨ownsRow_setCell_below h.own (by simpa using hb) u, h.row.imp fun a k hs => hs.kept fun c hc => Below.heap_setCell _ _ _ _ (by simp; omega)⟩
#print axioms IRow.push
#print axioms IRow.sl
end Go.Proofs.YteghhdogmdpbpakGreat

/- Maps by texts: looked into, and set where the key is there. -/
namespace Go.Proofs.YteghhdogmdpbpakGreat
open Go.RowKit
set_option linter.unusedSimpArgs false
set_option linter.unusedVariables false

/-- What stands for a key is another. -/
def setAt : List (ByteArray × Value) → ByteArray → Value → List (ByteArray × Value)
  | [], _, _ => []
  | p :: r, n, v => if p.1 = n then (p.1, v) :: r else p :: setAt r n v
theorem mapGet_setAt (n : ByteArray) (v : Value) : ∀ L : List (ByteArray × Value), mapGet (setAt L n v) n = (mapGet L n).map fun _ => v
  | [] => rfl
  | p :: r => by
    by_cases h : p.1 = n
    · simp [setAt, mapGet, h]
    · simp [setAt, mapGet, h, mapGet_setAt n v r]
theorem mapGet_append (n : ByteArray) (q : ByteArray × Value) : ∀ L : List (ByteArray × Value), mapGet L n = none → mapGet (L ++ [q]) n = if q.1 = n then some q.2 else none
  | [], _ => by simp [mapGet]
  | p :: r, h => by
    by_cases hp : p.1 = n
    · simp [mapGet, hp] at h
    · rw [mapGet, if_neg hp] at h
      rw [List.cons_append, mapGet, if_neg hp]
      exact mapGet_append n q r h

theorem findNow_set (n : ByteArray) (x : Value) : ∀ (l : List MapEntry) (L : List (ByteArray × Value)) (i : Nat) (v : Value), l.map (fun e => (e.key, e.val)) = L.map (fun p => (Value.string p.1, p.2)) → mapGet L n = some v →
    ∃ j e, Instr.findNow .string (.string n) l i = some (some (i + j, v)) ∧ l[j]? = some e ∧ e.key = .string n ∧ (l.modify j fun e => { e with key := .string n, val := x }).map (fun e => (e.key, e.val)) = (setAt L n x).map (fun p => (Value.string p.1, p.2))
  | [], [], i, v, h, hv => by simp [mapGet] at hv
  | [], p :: L, i, v, h, hv => by simp at h
  | e :: l, [], i, v, h, hv => by simp at h
  | e :: l, p :: L, i, v, h, hv => by
    simp only [List.map_cons, List.cons.injEq, Prod.mk.injEq] at h
    obtain ⟨⟨hk, he⟩, ht⟩ := h
    by_cases hn : p.1 = n
    · have hs : Instr.sameNow .string (.string n) e.key = some true := by
        rw [hk, hn]
        show some (n == n) = some true
        rw [show (n == n) = true from (MapKept.bytes_beq _ _).2 rfl]
      simp only [mapGet, hn, if_true, Option.some.injEq] at hv
      refine ⟨0, e, by simp [Instr.findNow, hs, he, hv], rfl, by rw [hk, hn], ?_⟩
      simp [setAt, hn, ht]
    · have hs : Instr.sameNow .string (.string n) e.key = some false := by
        rw [hk]
        show some (n == p.1) = some false
        have hb : (n == p.1) = false := by
          cases hh : (n == p.1) with
          | false => rfl
          | true => exact absurd ((MapKept.bytes_beq _ _).1 hh).symm hn
        rw [hb]
      rw [mapGet, if_neg hn] at hv
      obtain ⟨j, e', h1, h2, h3, h4⟩ := findNow_set n x l L (i + 1) v ht hv
      refine ⟨j + 1, e', by simp [Instr.findNow, hs, h1]; omega, by simpa using h2, h3, ?_⟩
      rw [setAt, if_neg hn]
      simp [List.modify_succ_cons, h4, hk, he]

theorem run_look1 {P : Program} {w : World} {T kt et : TypeId} {r : Nat} {L : List (ByteArray × Value)} {z : Value} (hm : P.underlying T = some (.map kt et)) (hk : P.underlying kt = some .string) (hz : (zeroValue et).run P w = .ok z w) (h : MapAt w r L) (n : ByteArray) :
    (Instr.lookup T (.map (some r)) (.string n) false).run P w = .ok ((mapGet L n).getD z) w := by
  obtain ⟨es, clk, hb, he, hstm⟩ := h
  obtain ⟨h1, h2⟩ := findNow_map n es.toList L 0 he
  have hc : ∀ b, (Instr.checkKey b 10000 kt (.string n)).run P w = .ok () w := fun b => MapKept.run_checkKey (k := .string n) hk (by simp [MapKept.IsKey]) b 9999
  cases hg : mapGet L n with
  | none => simp [Instr.lookup, run_underlying hm, MapKept.run_getObj_map hb, hc, MapKept.run_findKey hk (h1 hg), Result.andThen, hz]
  | some v =>
    obtain ⟨j, hj⟩ := h2 v hg
    simp [Instr.lookup, run_underlying hm, MapKept.run_getObj_map hb, hc, MapKept.run_findKey hk hj, Result.andThen]

theorem run_set {P : Program} {w : World} {T kt et : TypeId} {r : Nat} {L : List (ByteArray × Value)} (hm : P.underlying T = some (.map kt et)) (hk : P.underlying kt = some .string) (h : MapAt w r L) (n : ByteArray) (v old : Value) (hn : mapGet L n = some old) :
    ∃ w', (Instr.mapUpdate T (.map (some r)) (.string n) v).run P w = .ok () w' ∧ MapAt w' r (setAt L n v) ∧ w'.heap.size = w.heap.size ∧ w'.os = w.os ∧ w'.tape = w.tape ∧ w'.output = w.output ∧ (∀ b, b ≠ r → w'.heap[b]? = w.heap[b]?) := by
  obtain ⟨es, clk, hb, he, hstm⟩ := h
  obtain ⟨j, e0, h1, h2, h3, h4⟩ := findNow_set n v es.toList L 0 old he hn
  have hc : (Instr.checkKey false 10000 kt (.string n)).run P w = .ok () w := MapKept.run_checkKey (k := .string n) hk (by simp [MapKept.IsKey]) false 9999
  have hj : es[j]? = some e0 := by simpa using h2
  rw [Nat.zero_add] at h1
  have hst : (Instr.keyThatStays (.string n) (.string n)).run P w = .ok (.string n) w := MapKept.run_keyThatStays (d := .string) (by simp [MapKept.IsKey])
  refine ⟨{ w with heap := w.heap.setIfInBounds r (.map (es.modify j fun e => { e with key := .string n, val := v }) clk) }, ?_, ⟨_, _, (MapKept.heap_set hb).1, by rw [Array.toList_modify]; exact h4, hstm.modify _ _ _⟩, by simp, rfl, rfl, rfl, fun b hne => (MapKept.heap_set hb).2 b hne⟩
  simp [Instr.mapUpdate, run_underlying hm, MapKept.run_getObj_map hb, hc, MapKept.run_findKey hk h1, hj, h3, hst, MapKept.run_setObj_map _ hb, Result.andThen]
end Go.Proofs.YteghhdogmdpbpakGreat

/- Lists of things of one cell each. -/
namespace Go.Proofs.YteghhdogmdpbpakGreat
open Go.RowKit
set_option linter.unusedSimpArgs false
set_option linter.unusedVariables false

/-- A list in memory, a cell each. -/
def LV {α : Type} (f : α → Value) (w : World) (X : Nat → Prop) (v : Value) (l : List α) : Prop :=
  ∃ a c, v = .slice a l.length c ∧ (l.length ≤ 9223372036854775807 ∧ l.length ≤ c) ∧ (l = [] ∨ ∃ b o, a = some ⟨b, o, none⟩ ∧ X b ∧ ∀ i (h : i < l.length), w.cell? ⟨b, o + i, none⟩ = some (f l[i]))

theorem LV.kept {α : Type} {f : α → Value} {w w' : World} {X : Nat → Prop} {v : Value} {l : List α} (h : LV f w X v l) (hk : ∀ b, X b → w'.heap[b]? = w.heap[b]?) : LV f w' X v l := by
  obtain ⟨a, c, e, hl, h⟩ := h
  refine ⟨a, c, e, hl, ?_⟩
  rcases h with h | ⟨b, o, e, hx, h⟩
  · exact Or.inl h
  · exact Or.inr ⟨b, o, e, hx, fun i hi => by rw [World.cell?_of_block (hk b hx)]; exact h i hi⟩

theorem LV.mono {α : Type} {f : α → Value} {w : World} {X Y : Nat → Prop} {v : Value} {l : List α} (h : LV f w X v l) (hk : ∀ b, X b → b < w.heap.size → Y b) : LV f w Y v l := by
  obtain ⟨a, c, e, hl, h⟩ := h
  refine ⟨a, c, e, hl, ?_⟩
  rcases h with h | ⟨b, o, e, hx, h⟩
  · exact Or.inl h
  · by_cases h0 : l = []
    · exact Or.inl h0
    · have hp : 0 < l.length := List.length_pos_iff.2 h0
      exact Or.inr ⟨b, o, e, hk b hx (World.block_lt_of_cell? w _ (h 0 hp)), h⟩

theorem LV.below {α : Type} {f : α → Value} {w w' : World} {X : Nat → Prop} {v : Value} {l : List α} {B : Nat} (h : LV f w X v l) (hb : Below B w w') (hX : ∀ b, X b → b < w.heap.size → b < B) : LV f w' X v l := by
  have h1 : LV f w (fun b => X b ∧ b < B) v l := h.mono fun b hx hs => ⟨hx, hX b hx hs⟩
  have h2 : LV f w' (fun b => X b ∧ b < B) v l := h1.kept fun b hx => hb.block b hx.2
  exact h2.mono fun b hx _ => hx.1

theorem LV.later {α : Type} {f : α → Value} {w w' : World} {X : Nat → Prop} {v : Value} {l : List α} (h : LV f w X v l) (hb : Below w.heap.size w w') : LV f w' X v l := h.below hb (fun _ _ h => h)
theorem LV.alloc {α : Type} {f : α → Value} {w : World} {X : Nat → Prop} {v : Value} {l : List α} (h : LV f w X v l) (o : Obj) : LV f (w.alloc o) X v l := h.later ((Below.refl _ _).alloc (Nat.le_refl _) o)

/-- Out of a row that a call owns. -/
theorem LV.of_own {α : Type} {f : α → Value} {w : World} {N T : Nat} {v : Value} {l : List α} (h : w.ownsRow N T 1 v l.length (l.map f)) : LV f w (fun b => N ≤ b) v l := by
  have h' := h
  obtain ⟨_, h1⟩ := h
  rcases h1 with ⟨rfl, h0⟩ | ⟨g, cap, cur, hv, hg, hh, hnc, hcm, _⟩
  · have e : l = [] := List.length_eq_zero_iff.1 h0
    subst e
    exact ⟨none, 0, rfl, by simp, Or.inl rfl⟩
  · unfold maxLen at hcm
    refine ⟨some ⟨g, 0, none⟩, cap, hv, ⟨by omega, hnc⟩, ?_⟩
    by_cases h0 : l = []
    · exact Or.inl h0
    · have hp : 0 < l.length := List.length_pos_iff.2 h0
      obtain ⟨g2, cap2, hv2, _, _, hc⟩ := owned_val h' hp
      rw [hv] at hv2
      simp at hv2
      obtain ⟨rfl, rfl⟩ := hv2
      exact Or.inr ⟨g, 0, rfl, hg, fun i hi => by rw [Nat.zero_add]; exact hc i _ (by simp [hi])⟩
#print axioms LV.of_own
end Go.Proofs.YteghhdogmdpbpakGreat


/- Walks: lists that are the same; whether a text is in a list. -/
namespace Go.Proofs.YteghhdogmdpbpakGreat
open Go.RowKit
set_option linter.unusedSimpArgs false
set_option linter.unusedVariables false

/-- Is a text in a list? -/
def inB (x : ByteArray) (l : List ByteArray) : Bool := l.any fun y => y.toList == x.toList
theorem inB_take {x : ByteArray} {l : List ByteArray} {k : Nat} (h : k < l.length) (h0 : inB x (l.take k) = false) (h1 : (l[k].toList == x.toList) = false) : inB x (l.take (k + 1)) = false := by
  unfold inB at *
  rw [List.take_succ_eq_append_getElem h, List.any_append, h0]
  simpa using h1
theorem inB_yes {x : ByteArray} {l : List ByteArray} {k : Nat} (h : k < l.length) (h1 : (l[k].toList == x.toList) = true) : inB x l = true := by
  unfold inB
  rw [List.any_eq_true]
  exact ⟨l[k], List.getElem_mem h, h1⟩

end Go.Proofs.YteghhdogmdpbpakGreat


/- Walks: the variables of a term, each once. -/
namespace Go.Proofs.YteghhdogmdpbpakGreat
open Go.RowKit
set_option linter.unusedSimpArgs false
set_option linter.unusedVariables false

theorem Tryz.infoStr : (Tryz.prog.info? 9).map (fun i => (i.zero, i.size, i.bytes)) = some (some (.string ByteArray.empty), 1, 16) := by kernel_rfl

theorem beq_comm' (a b : ByteArray) : (a.toList == b.toList) = (b.toList == a.toList) := by
  rw [Bool.eq_iff_iff]; simp; exact eq_comm

set_option maxHeartbeats 400000 in
theorem index_any (x : ByteArray) (l : List ByteArray) (v : Value) (w : World) (X : Nat → Prop) (hv : LV Value.string w X v l) :
    Calls Tryz.prog 64 #[v, .string x] w fun e w' => (∃ n : Int, e = .returned (.int .i64 n) ∧ decide (0 ≤ n) = inB x l) ∧ w' = w := by
  obtain ⟨a, c, rfl, ⟨hl, _⟩, h1⟩ := hv
  go_enter Tryz.func64, Tryz.ntmps64
  go_wp2_with fail
  go_loop [8] (fun i => ∃ k : Nat, k ≤ l.length ∧ i = .int .i64 k ∧ inB x (l.take k) = false) (fun i => l.length - (intOf i).toNat)
  case atStart => exact ⟨0, Nat.zero_le _, rfl, by simp [inB]⟩
  case round =>
    obtain ⟨k, hk, rfl, ha⟩ := hrel
    have HA := hide ha
    clear ha
    by_cases hlt : k < l.length
    · obtain ⟨b, o, rfl, _, hc⟩ := h1.resolve_left (fun h => by rw [h] at hlt; simp at hlt)
      have d1 := hc k hlt
      clear hc h1
      cases hq : (x.toList == l[k].toList) with
      | true =>
        have HQ := hide (inB_yes hlt (by rw [beq_comm']; exact hq))
        go_wp2_with fail
        go_ret
        exact ⟨⟨k, rfl, by rw [HQ.out]; simp⟩, rfl⟩
      | false =>
        have HQ := hide (inB_take hlt HA.out (by rw [beq_comm']; exact hq))
        go_wp2_with fail
        go_round
        case rel => exact ⟨k + 1, by omega, by go_num, HQ.out⟩
        case measure => simp [intOf]; omega
    · have htk : l.take k = l := List.take_of_length_le (by omega)
      have HF : Hid (false = inB x l) := by unfold Hid; rw [← HA.out, htk]
      go_wp2_with fail
      go_ret
      exact ⟨⟨-1, rfl, by rw [← HF.out]; decide⟩, rfl⟩

set_option maxHeartbeats 400000 in
theorem contains_any (x : ByteArray) (l : List ByteArray) (v : Value) (w : World) (X : Nat → Prop) (hv : LV Value.string w X v l) :
    Calls Tryz.prog 47 #[v, .string x] w fun e w' => e = .returned (.bool (inB x l)) ∧ w' = w := by
  have HV := hide hv
  clear hv
  go_enter Tryz.func47, Tryz.ntmps47
  go_wp2_with fail
  refine (index_any x l _ _ X HV.out).mono ?_
  rintro e w1 ⟨⟨n, rfl, hn⟩, rfl⟩
  have HN := hide hn
  clear hn
  go_wp2_with fail
  go_ret
  exact ⟨ret_bool HN.out, rfl⟩

/-- A variable more. -/
def addV (acc : List ByteArray) (s : ByteArray) : List ByteArray := if (varB s && !inB s acc) = true then acc ++ [s] else acc
/-- The variables of knots, as they come. -/
def varsP (acc : List ByteArray) (ks : List Tm) : List ByteArray := ks.foldl (fun acc k => addV acc k.name) acc

theorem addV_yes {acc : List ByteArray} {s : ByteArray} (h : varB s = true) (h2 : inB s acc = false) : addV acc s = acc ++ [s] := by simp [addV, h, h2]
theorem addV_in {acc : List ByteArray} {s : ByteArray} (h : varB s = true) (h2 : inB s acc = true) : addV acc s = acc := by simp [addV, h, h2]
theorem addV_no {acc : List ByteArray} {s : ByteArray} (h : varB s = false) : addV acc s = acc := by simp [addV, h]
theorem addV_len (acc : List ByteArray) (s : ByteArray) : (addV acc s).length ≤ acc.length + 1 := by
  unfold addV; split <;> simp
theorem varsP_append (acc : List ByteArray) (a b : List Tm) : varsP acc (a ++ b) = varsP (varsP acc a) b := by simp [varsP, List.foldl_append]
theorem varsP_len (ks : List Tm) : ∀ acc, (varsP acc ks).length ≤ acc.length + ks.length := by
  induction ks with
  | nil => intro acc; simp [varsP]
  | cons k r ih => intro acc; have := ih (addV acc k.name); have h2 := addV_len acc k.name; simp only [varsP, List.foldl_cons, List.length_cons] at *; omega
theorem varsP_take (acc : List ByteArray) (ks : List Tm) (k : Nat) (h : k < ks.length) : varsP acc (ks.take (k + 1)) = addV (varsP acc (ks.take k)) ks[k].name := by
  rw [List.take_succ_eq_append_getElem h, varsP_append]; rfl

theorem grown_trans {w w1 w2 : World} {r r1 : Option Nat} (h : w.grownBy w1 r) (h1 : w1.grownBy w2 r1) (hr : ∀ k, r1 = some k → r = some k ∨ w.heap.size ≤ k) : w.grownBy w2 r :=
  ⟨h1.os.trans h.os, h1.tape.trans h.tape, h1.output.trans h.output, Nat.le_trans h.size h1.size, fun k hk hne => (h1.block k (Nat.lt_of_lt_of_le hk h.size) (fun e => by
    rcases hr k e.symm with h2 | h2
    · exact hne h2.symm
    · omega)).trans (h.block k hk hne)⟩

theorem grown_of_below {w w' : World} (hb : Below w.heap.size w w') (r : Option Nat) : w.grownBy w' r := ⟨hb.os, hb.tape, hb.output, hb.size, fun k hk _ => hb.block k hk⟩

theorem TV.grown {w w' : World} {X : Nat → Prop} {v : Value} {t : Tm} {r : Option Nat} (h : TV w X v t) (hg : w.grownBy w' r) (hX : ∀ b, X b → some b ≠ r) : TV w' X v t := by
  have h1 : TV w (fun b => X b ∧ b < w.heap.size) v t := h.mono fun b h1 h2 => ⟨h1, h2⟩
  have h2 : TV w' (fun b => X b ∧ b < w.heap.size) v t := h1.kept fun b hx => hg.block b hx.2 (hX b hx.1)
  exact h2.mono fun b hx _ => hx.1

/-- What stays true of a row of texts while it is added to. -/
def NamesAt (w0 : World) (B : Nat) (q0 : Value) (acc : List ByteArray) (q : Value) (wr : World) : Prop :=
  wr.ownsRow B 9 1 q acc.length (acc.map Value.string) ∧ w0.grownBy wr q0.ownBlock ∧ (∀ k, q.ownBlock = some k → q0.ownBlock = some k ∨ w0.heap.size ≤ k)

theorem NamesAt.step {w0 w1 w2 : World} {B : Nat} {q0 q1 q2 : Value} {acc1 acc2 : List ByteArray} (h1 : NamesAt w0 B q0 acc1 q1 w1) (h2 : NamesAt w1 B q1 acc2 q2 w2) : NamesAt w0 B q0 acc2 q2 w2 := by
  refine ⟨h2.1, grown_trans h1.2.1 h2.2.1 h1.2.2, fun k hk => ?_⟩
  rcases h2.2.2 k hk with h | h
  · exact h1.2.2 k h
  · exact Or.inr (Nat.le_trans h1.2.1.size h)

theorem NamesAt.below {w0 w1 w2 : World} {B : Nat} {q0 q1 : Value} {acc1 : List ByteArray} (h1 : NamesAt w0 B q0 acc1 q1 w1) (hb : Below w1.heap.size w1 w2) : NamesAt w0 B q0 acc1 q1 w2 :=
  ⟨h1.1.kept (w' := w2) (row := none) ⟨hb.os, hb.tape, hb.output, hb.size, fun j hj _ => hb.block j hj⟩ (by rcases Option.eq_none_or_eq_some (Value.ownBlock q1) with h | ⟨x, h⟩; exact Or.inl h; exact Or.inr (by rw [h]; simp)),
   grown_trans h1.2.1 (grown_of_below hb q1.ownBlock) h1.2.2, h1.2.2⟩
#print axioms NamesAt.step
end Go.Proofs.YteghhdogmdpbpakGreat

/- But for one block the world is as it was. -/
namespace Go.Proofs.YteghhdogmdpbpakGreat
open Go.RowKit
set_option linter.unusedSimpArgs false
set_option linter.unusedVariables false
set_option maxRecDepth 8000

/-- But for block B the world is as it was. -/
structure Ex (B : Nat) (w w' : World) : Prop where
  os : w'.os = w.os
  tape : w'.tape = w.tape
  output : w'.output = w.output
  size : w.heap.size ≤ w'.heap.size
  block : ∀ k, k < w.heap.size → k ≠ B → w'.heap[k]? = w.heap[k]?
theorem Ex.refl (B : Nat) (w : World) : Ex B w w := ⟨rfl, rfl, rfl, Nat.le_refl _, fun _ _ _ => rfl⟩
theorem Ex.trans {B : Nat} {a b c : World} (h : Ex B a b) (k : Ex B b c) : Ex B a c :=
  ⟨k.os.trans h.os, k.tape.trans h.tape, k.output.trans h.output, Nat.le_trans h.size k.size, fun i hi hn => (k.block i (Nat.lt_of_lt_of_le hi h.size) hn).trans (h.block i hi hn)⟩
theorem Ex.drewN {B : Nat} {a w : World} (h : Ex B a w) (n : Nat) : Ex B a (w.drewN n) := ⟨h.os, h.tape, h.output, h.size, h.block⟩
theorem Ex.drew {B : Nat} {a w : World} (h : Ex B a w) : Ex B a w.drew := ⟨h.os, h.tape, h.output, h.size, h.block⟩
theorem Ex.set {B : Nat} {a w : World} (h : Ex B a w) (i : Nat) (v : Value) : Ex B a (w.setCell ⟨B, i, none⟩ v) :=
  ⟨h.os, h.tape, h.output, by simpa [World.setCell] using h.size, fun k hk hn => (Below.heap_setCell _ _ _ _ (by simpa using hn)).trans (h.block k hk hn)⟩

theorem Ex.alloc {B : Nat} {a w : World} (h : Ex B a w) (o : Obj) : Ex B a (w.alloc o) :=
  ⟨h.os, h.tape, h.output, by have := h.size; simp; omega, fun k hk hn => (Below.heap_alloc _ _ _ (Nat.lt_of_lt_of_le hk h.size)).trans (h.block k hk hn)⟩

theorem Blk.ex {w w' : World} {B b T : Nat} {cs : Array Value} (h : Blk w b cs T) (he : Ex B w w') (hne : b ≠ B) : Blk w' b cs T := by
  unfold Blk at *
  rw [he.block b (Blk.lt h) hne]; exact h
theorem Ex.mid {B : Nat} {w w1 : World} (h : Ex B w w1) : ∃ wm, Below wm.heap.size wm w1 ∧ wm.heap.size = w.heap.size ∧ Ex B w wm := by
  by_cases hB : B < w.heap.size
  · have hB1 : B < w1.heap.size := Nat.lt_of_lt_of_le hB h.size
    refine ⟨{ w with heap := w.heap.setIfInBounds B w1.heap[B] }, ⟨h.os, h.tape, h.output, by simpa using h.size, fun k hk => ?_⟩, by simp, ⟨rfl, rfl, rfl, by simp, fun k hk hn => ?_⟩⟩
    · simp at hk
      by_cases e : k = B
      · subst e
        simp [Array.getElem?_setIfInBounds, hB, hB1]
      · rw [h.block k hk e]
        simp [Array.getElem?_setIfInBounds, Ne.symm e]
    · simp [Array.getElem?_setIfInBounds, Ne.symm hn]
  · exact ⟨w, ⟨h.os, h.tape, h.output, h.size, fun k hk => h.block k hk (by omega)⟩, rfl, Ex.refl _ _⟩

theorem Row.ex {w w' : World} {B N T : Nat} {Y : Nat → Prop} {v : Value} {l : List Tm} {xs : List Value} (h : Row w N T Y v l xs) (he : Ex B w w') (hB : B < N) (hY : ¬ Y B) : Row w' N T Y v l xs :=
  ⟨h.own.kept (w' := w') (row := some B) ⟨he.os, he.tape, he.output, he.size, fun j hj hn => he.block j hj (fun e => hn (by rw [e]))⟩ (Or.inr (fun e => by have := (h.own.lt B e).1; omega)),
   h.row.imp fun a l hs => ((hs.mono (Y := fun b => (Y b ∨ (N ≤ b ∧ some b ≠ v.ownBlock)) ∧ b < w.heap.size) fun b h1 h2 => ⟨h1, h2⟩).kept fun b hb => he.block b hb.2 (fun e => by
     rcases hb.1 with h1 | h1
     · rw [e] at h1; exact hY h1
     · omega)).mono fun b hb _ => hb.1⟩

theorem Ex.grown {B : Nat} {a w w' : World} {row : Option Nat} (h : Ex B a w) (hg : w.grownBy w' row) (hr : ∀ k, row = some k → a.heap.size ≤ k) : Ex B a w' :=
  ⟨hg.os.trans h.os, hg.tape.trans h.tape, hg.output.trans h.output, Nat.le_trans h.size hg.size, fun k hk hn => (hg.block k (Nat.lt_of_lt_of_le hk h.size) (fun e => by have := hr k e.symm; omega)).trans (h.block k hk hn)⟩
theorem Ex.setNew {B : Nat} {a w : World} (h : Ex B a w) {b : Nat} (hb : a.heap.size ≤ b) (i : Nat) (v : Value) : Ex B a (w.setCell ⟨b, i, none⟩ v) :=
  ⟨h.os, h.tape, h.output, by simpa [World.setCell] using h.size, fun k hk hn => (Below.heap_setCell _ _ _ _ (by simp; omega)).trans (h.block k hk hn)⟩

end Go.Proofs.YteghhdogmdpbpakGreat

/- But for some blocks the world is as it was. -/
namespace Go.Proofs.YteghhdogmdpbpakGreat
open Go.RowKit
set_option linter.unusedSimpArgs false
set_option linter.unusedVariables false
set_option maxRecDepth 8000

/-- But for the blocks that Q names the world is as it was. -/
structure ExQ (Q : Nat → Prop) (w w' : World) : Prop where
  os : w'.os = w.os
  tape : w'.tape = w.tape
  output : w'.output = w.output
  size : w.heap.size ≤ w'.heap.size
  block : ∀ k, k < w.heap.size → ¬ Q k → w'.heap[k]? = w.heap[k]?
theorem ExQ.refl (Q : Nat → Prop) (w : World) : ExQ Q w w := ⟨rfl, rfl, rfl, Nat.le_refl _, fun _ _ _ => rfl⟩
theorem ExQ.trans {Q : Nat → Prop} {a b c : World} (h : ExQ Q a b) (k : ExQ Q b c) : ExQ Q a c :=
  ⟨k.os.trans h.os, k.tape.trans h.tape, k.output.trans h.output, Nat.le_trans h.size k.size, fun i hi hn => (k.block i (Nat.lt_of_lt_of_le hi h.size) hn).trans (h.block i hi hn)⟩
/-- One behind the other, the second naming blocks that the first world had not. -/
theorem ExQ.transN {Q R : Nat → Prop} {a b c : World} (h : ExQ Q a b) (k : ExQ R b c) (hR : ∀ i, R i → i < a.heap.size → Q i) : ExQ Q a c :=
  ⟨k.os.trans h.os, k.tape.trans h.tape, k.output.trans h.output, Nat.le_trans h.size k.size, fun i hi hn => (k.block i (Nat.lt_of_lt_of_le hi h.size) (fun hr => hn (hR i hr hi))).trans (h.block i hi hn)⟩
theorem ExQ.mono {Q R : Nat → Prop} {a b : World} (h : ExQ Q a b) (hR : ∀ i, Q i → i < a.heap.size → R i) : ExQ R a b := ⟨h.os, h.tape, h.output, h.size, fun i hi hn => h.block i hi (fun hq => hn (hR i hq hi))⟩
theorem ExQ.drewN {Q : Nat → Prop} {a w : World} (h : ExQ Q a w) (n : Nat) : ExQ Q a (w.drewN n) := ⟨h.os, h.tape, h.output, h.size, h.block⟩
theorem ExQ.drew {Q : Nat → Prop} {a w : World} (h : ExQ Q a w) : ExQ Q a w.drew := ⟨h.os, h.tape, h.output, h.size, h.block⟩
theorem ExQ.set {Q : Nat → Prop} {a w : World} (h : ExQ Q a w) {B : Nat} (hB : Q B) (i : Nat) (v : Value) : ExQ Q a (w.setCell ⟨B, i, none⟩ v) :=
  ⟨h.os, h.tape, h.output, by simpa [World.setCell] using h.size, fun k hk hn => (Below.heap_setCell _ _ _ _ (by simp; intro e; subst e; exact hn hB)).trans (h.block k hk hn)⟩
theorem ExQ.alloc {Q : Nat → Prop} {a w : World} (h : ExQ Q a w) (o : Obj) : ExQ Q a (w.alloc o) :=
  ⟨h.os, h.tape, h.output, by have := h.size; simp; omega, fun k hk hn => (Below.heap_alloc _ _ _ (Nat.lt_of_lt_of_le hk h.size)).trans (h.block k hk hn)⟩
theorem ExQ.grown {Q : Nat → Prop} {a w w' : World} {row : Option Nat} (h : ExQ Q a w) (hg : w.grownBy w' row) (hr : ∀ k, row = some k → a.heap.size ≤ k ∨ Q k) : ExQ Q a w' :=
  ⟨hg.os.trans h.os, hg.tape.trans h.tape, hg.output.trans h.output, Nat.le_trans h.size hg.size, fun k hk hn => (hg.block k (Nat.lt_of_lt_of_le hk h.size) (fun e => by rcases hr k e.symm with h1 | h1; omega; exact hn h1)).trans (h.block k hk hn)⟩
theorem ExQ.setNew {Q : Nat → Prop} {a w : World} (h : ExQ Q a w) {b : Nat} (hb : a.heap.size ≤ b) (i : Nat) (v : Value) : ExQ Q a (w.setCell ⟨b, i, none⟩ v) :=
  ⟨h.os, h.tape, h.output, by simpa [World.setCell] using h.size, fun k hk hn => (Below.heap_setCell _ _ _ _ (by simp; omega)).trans (h.block k hk hn)⟩
theorem ExQ.ofBelow {Q : Nat → Prop} {w w' : World} (h : Below w.heap.size w w') : ExQ Q w w' := ⟨h.os, h.tape, h.output, h.size, fun k hk _ => h.block k hk⟩
theorem ExQ.ofEx {Q : Nat → Prop} {B : Nat} {w w' : World} (h : Ex B w w') (hB : Q B) : ExQ Q w w' := ⟨h.os, h.tape, h.output, h.size, fun k hk hn => h.block k hk (fun e => hn (by rw [e]; exact hB))⟩
theorem ExQ.below {Q : Nat → Prop} {w w' : World} {B : Nat} (h : ExQ Q w w') (hB : B ≤ w.heap.size) (hQ : ∀ b, Q b → B ≤ b) : Below B w w' :=
  ⟨h.os, h.tape, h.output, h.size, fun k hk => h.block k (by omega) (fun hq => by have := hQ k hq; omega)⟩
theorem Blk.exq {w w' : World} {Q : Nat → Prop} {b T : Nat} {cs : Array Value} (h : Blk w b cs T) (he : ExQ Q w w') (hne : ¬ Q b) : Blk w' b cs T := by
  unfold Blk at *
  rw [he.block b (Blk.lt h) hne]; exact h
theorem Sl.exq {w w' : World} {Q X : Nat → Prop} {a : Option Addr} {l : List Tm} (h : Sl w X a l) (he : ExQ Q w w') (hX : ∀ b, X b → ¬ Q b) : Sl w' X a l :=
  ((h.mono (Y := fun b => X b ∧ b < w.heap.size) fun b h1 h2 => ⟨h1, h2⟩).kept fun b hb => he.block b hb.2 (hX b hb.1)).mono fun b hb _ => hb.1
theorem ExQ.mid {Q : Nat → Prop} {w w1 : World} (h : ExQ Q w w1) : ∃ wm, Below wm.heap.size wm w1 ∧ wm.heap.size = w.heap.size ∧ ExQ Q w wm := by
  have hs := h.size
  have hz : (w1.heap.extract 0 w.heap.size).size = w.heap.size := by simp; omega
  refine ⟨{ w1 with heap := w1.heap.extract 0 w.heap.size }, ⟨rfl, rfl, rfl, by simp; omega, fun k hk => ?_⟩, hz, ⟨h.os, h.tape, h.output, by simp [hz], fun k hk hn => ?_⟩⟩
  · have hk2 : k < w.heap.size := by simp at hk; omega
    simp [Array.getElem?_extract, hk2]
    omega
  · rw [← h.block k hk hn]
    simp [Array.getElem?_extract, hk]
    omega
theorem ownsRow_at {w w' : World} {base e size n : Nat} {v : Value} {xs : List Value} (h : w.ownsRow base e size v n xs) (hk : ∀ g, v.ownBlock = some g → w'.heap[g]? = w.heap[g]?) : w'.ownsRow base e size v n xs := by
  obtain ⟨hl, h1⟩ := h
  refine ⟨hl, ?_⟩
  rcases h1 with h1 | ⟨g, cap, cur, hv, hg, hh, hr⟩
  · exact Or.inl h1
  · refine Or.inr ⟨g, cap, cur, hv, hg, ?_, hr⟩
    rw [hk g (by rw [hv]; rfl)]
    exact hh
theorem Row.exq {w w' : World} {Q : Nat → Prop} {N T : Nat} {Y : Nat → Prop} {v : Value} {l : List Tm} {xs : List Value} (h : Row w N T Y v l xs) (he : ExQ Q w w') (hQ : ∀ b, Q b → b < N) (hY : ∀ b, Q b → ¬ Y b) : Row w' N T Y v l xs :=
  ⟨ownsRow_at h.own fun g hg => he.block g (h.own.lt g hg).2 (fun hq => by have := hQ g hq; have := (h.own.lt g hg).1; omega),
   h.row.imp fun a l hs => hs.exq he fun b hb hq => by
     rcases hb with h1 | h1
     · exact hY b hq h1
     · have := hQ b hq; omega⟩
theorem BRow.exq {w w' : World} {Q : Nat → Prop} {N : Nat} {Y : Nat → Prop} {v : Value} {cs : List Bc} (h : BRow w N Y v cs) (he : ExQ Q w w') (hQ : ∀ b, Q b → b < N) (hY : ∀ b, Q b → ¬ Y b) : BRow w' N Y v cs :=
  ⟨ownsRow_at h.own fun g hg => he.block g (h.own.lt g hg).2 (fun hq => by have := hQ g hq; have := (h.own.lt g hg).1; omega),
   fun x hx => (h.row x hx).exq he fun b hb hq => by
     rcases hb with h1 | h1
     · exact hY b hq h1
     · have := hQ b hq; omega⟩
#print axioms Row.exq
#print axioms BRow.exq
end Go.Proofs.YteghhdogmdpbpakGreat

/- Walks: ranks in a map; how two symbols compare. -/
namespace Go.Proofs.YteghhdogmdpbpakGreat
open Go.RowKit
set_option linter.unusedSimpArgs false
set_option linter.unusedVariables false
set_option maxRecDepth 8000

/-- No name twice. -/
def OnceN (row : List ByteArray) : Prop := ∀ k (h : k < row.length), row[k] ∉ row.take k
def RkInv (w : World) (row : List ByteArray) (v : Value) (wr : World) : Prop := ∃ k : Nat, v = .int .i64 (k : Int) ∧ k ≤ row.length ∧ MapAt wr w.heap.size (rkL 0 (row.take k)) ∧ Below w.heap.size w wr

set_option maxHeartbeats 1000000 in
theorem ranksOf_any (row : List ByteArray) (ho : OnceN row) (u : Value) (w : World) (X : Nat → Prop) (hu : LV Value.string w X u row) :
    Calls Tryz.prog 33 #[u] w fun e w' => e = .returned (.map (some w.heap.size)) ∧ MapAt w' w.heap.size (rkL 0 row) ∧ Below w.heap.size w w' := by
  obtain ⟨a, c, rfl, ⟨hl, _⟩, hu⟩ := hu
  have hmm := @run_makeMap Tryz.prog
  go_enter Tryz.func33, Tryz.ntmps33
  go_wp2_with fail
  go_loopw [9] (fun v wr => RkInv w row v wr) (fun v wr => row.length - (intOf v).toNat)
  case atStart => exact ⟨0, rfl, Nat.zero_le _, MapAt.new w, (Below.refl _ _).alloc (Nat.le_refl _) _⟩
  case round =>
    obtain ⟨k, rfl, hk, hM, hb⟩ := hrel
    by_cases hlt : k < row.length
    · obtain ⟨b, o, rfl, hX, hc⟩ := hu.resolve_left (fun h => by rw [h] at hlt; simp at hlt)
      have hlt2 : (k : Int) < (row.length : Int) := by omega
      have d0 : wr.cell? ⟨b, o + k, none⟩ = some (.string row[k]) := by
        have h1 := hc k hlt
        have h2 := cell_lt h1
        rw [← h1]; exact hb.cell (p := ⟨b, o + k, none⟩) h2
      have hno : mapGet (rkL 0 (row.take k)) row[k] = none := by rw [rkL_get, rank_none (ho k hlt)]; rfl
      have htk : rkL 0 (row.take (k + 1)) = rkL 0 (row.take k) ++ [(row[k], .int .i64 ((k : Int) + 1))] := by
        rw [List.take_succ_eq_append_getElem hlt, rkL_push]
        simp [List.length_take, Nat.min_eq_left (Nat.le_of_lt hlt)]
      have HTK := hide htk
      clear htk hc
      generalize row[k] = d at *
      obtain ⟨w2, hrun, hM2, hz2, ho2, ht2, hu2, hk2⟩ := run_put (P := Tryz.prog) Tryz.underlying69 Tryz.underlying9 hM d (.int .i64 ((k : Int) + 1)) hno
      have HM2 := hide hM2
      have HB2 : Hid (Below w.heap.size w w2) := ⟨ho2.trans hb.os, ht2.trans hb.tape, hu2.trans hb.output, by rw [hz2]; exact hb.size, fun j hj => (hk2 j (by omega)).trans (hb.block j hj)⟩
      clear hM2 hz2 ho2 ht2 hu2 hk2 hno hM hb
      go_wp2_with fail
      go_roundw
      case rel => exact ⟨k + 1, by go_num, by omega, by rw [HTK.out]; exact HM2.out, HB2.out⟩
      case measure => simp [intOf]; omega
    · have htk : row.take k = row := List.take_of_length_le (by omega)
      rw [htk] at hM
      go_wp2_with fail
      go_ret
      exact ⟨rfl, hM, hb⟩

theorem isNaNI_any (a : Int) (w : World) : Calls Tryz.prog 91 #[.int .i64 a] w fun e w' => e = .returned (.bool false) ∧ w' = w := by
  go_enter Tryz.func91, Tryz.ntmps91
  go_wp2_with fail
  go_ret
  exact ⟨by simp, rfl⟩
theorem compareI_any (a b : Int) (w : World) : Calls Tryz.prog 81 #[.int .i64 a, .int .i64 b] w fun e w' => e = .returned (.int .i64 (cmpI a b)) ∧ w' = w := by
  by_cases h1 : a < b
  · have HN : Hid (cmpI a b = -1) := by unfold Hid cmpI; rw [if_pos h1]
    go_enter Tryz.func81, Tryz.ntmps81
    go_wp2_with (go_at_call 91; refine (isNaNI_any _ _).mono ?_; rintro e w' ⟨rfl, rfl⟩)
    go_ret
    exact ⟨by rw [HN.out]; rfl, rfl⟩
  · by_cases h2 : b < a
    · have HN : Hid (cmpI a b = 1) := by unfold Hid cmpI; rw [if_neg h1, if_pos h2]
      go_enter Tryz.func81, Tryz.ntmps81
      go_wp2_with (go_at_call 91; refine (isNaNI_any _ _).mono ?_; rintro e w' ⟨rfl, rfl⟩)
      go_ret
      exact ⟨by rw [HN.out]; rfl, rfl⟩
    · have HN : Hid (cmpI a b = 0) := by unfold Hid cmpI; rw [if_neg h1, if_neg h2]
      go_enter Tryz.func81, Tryz.ntmps81
      go_wp2_with (go_at_call 91; refine (isNaNI_any _ _).mono ?_; rintro e w' ⟨rfl, rfl⟩)
      go_ret
      exact ⟨by rw [HN.out]; rfl, rfl⟩

/-- The first that isn't 0. -/
def orI (l : List Int) : Int := (l.find? fun z => decide (z ≠ 0)).getD 0
theorem orI_take {l : List Int} {k : Nat} (hk : k < l.length) (h : ∀ z ∈ l.take k, z = 0) (hz : l[k] ≠ 0) : orI l = l[k] := by
  induction l generalizing k with
  | nil => simp at hk
  | cons x l ih =>
    cases k with
    | zero => simp only [List.getElem_cons_zero] at hz ⊢; simp [orI, hz]
    | succ k =>
      have hx : x = 0 := h x (by simp)
      subst hx
      have := ih (k := k) (by simpa using hk) (fun z hz' => h z (by simp [hz'])) (by simpa using hz)
      simp only [List.getElem_cons_succ]
      rw [← this]
      simp [orI]
theorem orI_none {l : List Int} (h : ∀ z ∈ l, z = 0) : orI l = 0 := by
  induction l with
  | nil => rfl
  | cons x l ih =>
    have hx : x = 0 := h x (by simp)
    subst hx
    have h1 := ih fun z hz => h z (by simp [hz])
    unfold orI at h1 ⊢
    rw [List.find?_cons_of_neg (by simp)]
    exact h1
set_option maxHeartbeats 1000000 in
theorem or_any (l : List Int) (v : Value) (w : World) (X : Nat → Prop) (hv : LV (fun z => .int .i64 z) w X v l) :
    Calls Tryz.prog 80 #[v] w fun e w' => e = .returned (.int .i64 (orI l)) ∧ Below w.heap.size w w' := by
  obtain ⟨a, c, rfl, ⟨hl, _⟩, hu⟩ := hv
  go_enter Tryz.func80, Tryz.ntmps80
  go_wp2_with fail
  go_loopw [8] (fun i wr => ∃ k n : Nat, k ≤ l.length ∧ i = .int .i64 k ∧ wr = w.drewN n ∧ ∀ z ∈ l.take k, z = 0) (fun i wr => l.length - (intOf i).toNat)
  case atStart => exact ⟨0, 0, Nat.zero_le _, rfl, rfl, by simp⟩
  case round =>
    obtain ⟨k, n, hk, rfl, rfl, hz⟩ := hrel
    by_cases hlt : k < l.length
    · obtain ⟨b, o, rfl, hX, hc⟩ := hu.resolve_left (fun h => by rw [h] at hlt; simp at hlt)
      have d0 : (w.drewN n).cell? ⟨b, o + k, none⟩ = some (.int .i64 l[k]) := hc k hlt
      have hlt2 : (k : Int) < (l.length : Int) := by omega
      by_cases h0 : l[k] = 0
      · have htk : ∀ z ∈ l.take (k + 1), z = 0 := by
          rw [List.take_succ_eq_append_getElem hlt, h0]
          intro z hz'
          rw [List.mem_append] at hz'
          rcases hz' with h | h
          · exact hz z h
          · simpa using h
        have HTK := hide htk
        clear htk hc
        rw [h0] at d0
        go_wp2_with fail
        go_roundw
        case rel => exact ⟨k + 1, _, by omega, by go_num, rfl, HTK.out⟩
        case measure => simp [intOf]; omega
      · have HO := hide (orI_take hlt hz h0)
        have h0' : (l[k] == 0) = false := by simpa using h0
        clear hc
        go_wp2_with fail
        go_ret
        exact ⟨by rw [HO.out]; rfl, below_drewN (Below.refl _ _) _⟩
    · have htk : l.take k = l := List.take_of_length_le (by omega)
      rw [htk] at hz
      have HO := hide (orI_none hz)
      go_wp2_with fail
      go_ret
      exact ⟨by rw [HO.out]; rfl, below_drewN (Below.refl _ _) _⟩
#print axioms ranksOf_any
#print axioms compareI_any
#print axioms or_any
end Go.Proofs.YteghhdogmdpbpakGreat

/- Walks: how two symbols compare. -/
namespace Go.Proofs.YteghhdogmdpbpakGreat
open Go.RowKit
set_option linter.unusedSimpArgs false
set_option linter.unusedVariables false
set_option maxRecDepth 8000

def CmpS (row : List ByteArray) (a b : Tm) (aa : Option Addr) (ca : Nat) (ab : Option Addr) (cb : Nat) (r : Nat) (w w' : World) : Prop :=
  w'.cell? ⟨w.heap.size, 0, none⟩ = some (.string a.name) ∧ w'.cell? ⟨w.heap.size, 1, none⟩ = some (.slice aa a.args.length ca) ∧ w'.cell? ⟨w.heap.size + 1, 0, none⟩ = some (.string b.name) ∧ w'.cell? ⟨w.heap.size + 1, 1, none⟩ = some (.slice ab b.args.length cb) ∧
  MapAt w' r (rkL 0 row) ∧ Below w.heap.size w w'
theorem CmpS.later {row : List ByteArray} {a b : Tm} {aa ab : Option Addr} {ca cb r : Nat} {w w1 w2 : World} (h : CmpS row a b aa ca ab cb r w w1) (hb : Below w1.heap.size w1 w2) : CmpS row a b aa ca ab cb r w w2 := by
  obtain ⟨h1, h2, h3, h4, h5, h6⟩ := h
  exact ⟨(hb.cell (p := ⟨w.heap.size, 0, none⟩) (cell_lt h1)).trans h1, (hb.cell (p := ⟨w.heap.size, 1, none⟩) (cell_lt h2)).trans h2, (hb.cell (p := ⟨w.heap.size + 1, 0, none⟩) (cell_lt h3)).trans h3, (hb.cell (p := ⟨w.heap.size + 1, 1, none⟩) (cell_lt h4)).trans h4, h5.below hb h5.lt, h6.trans (hb.mono h6.size)⟩
theorem look_rank {row : List ByteArray} {w : World} {r : Nat} (h : MapAt w r (rkL 0 row)) (n : ByteArray) : (Instr.lookup 69 (.map (some r)) (.string n) false).run Tryz.prog w = .ok (.int .i64 (rankN n row)) w := by
  rw [run_look1 (P := Tryz.prog) Tryz.underlying69 Tryz.underlying9 (Tryz.zeroValue3 w) h n, rkL_at]
theorem orI_three (row : List ByteArray) (a b : Tm) : orI [cmpI (rankN a.name row) (rankN b.name row), cmpN a.name b.name, cmpI a.args.length b.args.length] = cmpS row a b := by
  unfold orI cmpS
  by_cases h1 : cmpI (rankN a.name row) (rankN b.name row) = 0
  · by_cases h2 : cmpN a.name b.name = 0
    · by_cases h3 : cmpI a.args.length b.args.length = 0
      · simp [h1, h2, h3]
      · simp [h1, h2, h3]
    · simp [h1, h2]
  · simp [h1]
set_option maxHeartbeats 2000000 in
theorem compareR_any (row : List ByteArray) (S : List Tm) (a b : Tm) (r : Nat) (va vb : Value) (w : World) (X : Nat → Prop) (hM : MapAt w r (rkL 0 row)) (ha : IV w X S va a) (hb : IV w X S vb b) :
    Calls Tryz.prog 68 #[.map (some r), va, vb] w fun e w' => e = .returned (.int .i64 (cmpS row a b)) ∧ Below w.heap.size w w' := by
  obtain ⟨_, aa, ca, rfl, hsa⟩ := ha
  obtain ⟨_, ab, cb, rfl, hsb⟩ := hb
  have hla := hsa.1
  have hlb := hsb.1
  clear hsa hsb
  have hz : ∀ w', (zeroValue 3).run Tryz.prog w' = .ok (.int .i64 0) w' := fun w' => Tryz.zeroValue3 w'
  have HS0 : Hid (CmpS row a b aa ca ab cb r w (((w.alloc (.cells #[.string a.name, .slice aa a.args.length ca, .int .i64 (numT a S), .int .i64 (sizeL [a])] 76)).alloc (.cells #[.string b.name, .slice ab b.args.length cb, .int .i64 (numT b S), .int .i64 (sizeL [b])] 76)).drew)) := by
    have k1 := (Blk.new w #[.string a.name, .slice aa a.args.length ca, .int .i64 (numT a S), .int .i64 (sizeL [a])] 76).alloc (.cells #[.string b.name, .slice ab b.args.length cb, .int .i64 (numT b S), .int .i64 (sizeL [b])] 76)
    have k2 := Blk.new (w.alloc (.cells #[.string a.name, .slice aa a.args.length ca, .int .i64 (numT a S), .int .i64 (sizeL [a])] 76)) #[.string b.name, .slice ab b.args.length cb, .int .i64 (numT b S), .int .i64 (sizeL [b])] 76
    have hB := ((Below.refl w.heap.size w).alloc (Nat.le_refl _) (.cells #[.string a.name, .slice aa a.args.length ca, .int .i64 (numT a S), .int .i64 (sizeL [a])] 76)).alloc (by simp) (.cells #[.string b.name, .slice ab b.args.length cb, .int .i64 (numT b S), .int .i64 (sizeL [b])] 76)
    have e1 : (w.alloc (.cells #[.string a.name, .slice aa a.args.length ca, .int .i64 (numT a S), .int .i64 (sizeL [a])] 76)).heap.size = w.heap.size + 1 := by simp
    rw [e1] at k2
    have hM2 := hM.below hB hM.lt
    generalize (w.alloc (.cells #[.string a.name, .slice aa a.args.length ca, .int .i64 (numT a S), .int .i64 (sizeL [a])] 76)).alloc (.cells #[.string b.name, .slice ab b.args.length cb, .int .i64 (numT b S), .int .i64 (sizeL [b])] 76) = w2 at *
    exact ⟨k1.cell 0, k1.cell 1, k2.cell 0, k2.cell 1, hM2, below_drewN hB 1⟩
  clear hM
  go_enter Tryz.func68, Tryz.ntmps68
  go_wp2_with fail
  refine wp_region_held_drew (S := CmpS row a b aa ca ab cb r w) (by kernel_rfl) HS0.out (fun hHeld => ?_)
  refine wpAnyH_take (i := 0) (v := ?_) rfl (by kernel_rfl) (by kernel_rfl) (by kernel_rfl) (fun _ _ _ h => h) (Or.inl ⟨by rfl, ?_⟩) (by assumption) ?_
  rotate_left
  · intro w' hSw
    obtain ⟨k1, k2, k3, k4, k5, k6⟩ := hSw
    have la := look_rank k5 a.name
    have lb := look_rank k5 b.name
    go_simp <;> with_reducible rfl
  try simp only [Act.put, List.setIfInBounds_toArray, List.set_cons_zero, List.set_cons_succ, List.getElem_toArray, List.getElem_cons_succ, List.getElem_cons_zero]
  refine wpAnyH_take (i := 1) (v := ?_) rfl (by kernel_rfl) (by kernel_rfl) (by kernel_rfl) (fun _ _ _ h => h) (Or.inl ⟨by rfl, ?_⟩) (by assumption) ?_
  rotate_left
  · intro w' hSw
    obtain ⟨k1, k2, k3, k4, k5, k6⟩ := hSw
    have la := look_rank k5 a.name
    have lb := look_rank k5 b.name
    go_simp <;> with_reducible rfl
  try simp only [Act.put, List.setIfInBounds_toArray, List.set_cons_zero, List.set_cons_succ, List.getElem_toArray, List.getElem_cons_succ, List.getElem_cons_zero]
  refine wpAnyH_take (i := 2) (v := ?_) rfl (by kernel_rfl) (by kernel_rfl) (by kernel_rfl) (fun _ _ _ h => h) (Or.inl ⟨by rfl, ?_⟩) (by assumption) ?_
  rotate_left
  · intro w' hSw
    obtain ⟨k1, k2, k3, k4, k5, k6⟩ := hSw
    have la := look_rank k5 a.name
    have lb := look_rank k5 b.name
    go_simp <;> with_reducible rfl
  try simp only [Act.put, List.setIfInBounds_toArray, List.set_cons_zero, List.set_cons_succ, List.getElem_toArray, List.getElem_cons_succ, List.getElem_cons_zero]
  refine wpAnyH_take (i := 3) (v := ?_) rfl (by kernel_rfl) (by kernel_rfl) (by kernel_rfl) (fun _ _ _ h => h) (Or.inl ⟨by rfl, ?_⟩) (by assumption) ?_
  rotate_left
  · intro w' hSw
    obtain ⟨k1, k2, k3, k4, k5, k6⟩ := hSw
    have la := look_rank k5 a.name
    have lb := look_rank k5 b.name
    go_simp <;> with_reducible rfl
  try simp only [Act.put, List.setIfInBounds_toArray, List.set_cons_zero, List.set_cons_succ, List.getElem_toArray, List.getElem_cons_succ, List.getElem_cons_zero]
  refine wpAnyH_take (i := 4) (v := ?_) rfl (by kernel_rfl) (by kernel_rfl) (by kernel_rfl) (fun _ _ _ h => h) (Or.inl ⟨by rfl, ?_⟩) (by assumption) ?_
  rotate_left
  · intro w' hSw
    obtain ⟨k1, k2, k3, k4, k5, k6⟩ := hSw
    have la := look_rank k5 a.name
    have lb := look_rank k5 b.name
    go_simp <;> with_reducible rfl
  try simp only [Act.put, List.setIfInBounds_toArray, List.set_cons_zero, List.set_cons_succ, List.getElem_toArray, List.getElem_cons_succ, List.getElem_cons_zero]
  refine wpAnyH_take (i := 5) (v := ?_) rfl (by kernel_rfl) (by kernel_rfl) (by kernel_rfl) (fun _ _ _ h => h) (Or.inl ⟨by rfl, ?_⟩) (by assumption) ?_
  rotate_left
  · intro w' hSw
    obtain ⟨k1, k2, k3, k4, k5, k6⟩ := hSw
    have la := look_rank k5 a.name
    have lb := look_rank k5 b.name
    go_simp <;> with_reducible rfl
  try simp only [Act.put, List.setIfInBounds_toArray, List.set_cons_zero, List.set_cons_succ, List.getElem_toArray, List.getElem_cons_succ, List.getElem_cons_zero]
  refine wpAnyH_take (i := 6) (v := ?_) rfl (by kernel_rfl) (by kernel_rfl) (by kernel_rfl) (fun _ _ _ h => h) (Or.inl ⟨by rfl, ?_⟩) (by assumption) ?_
  rotate_left
  · intro w' hSw
    obtain ⟨k1, k2, k3, k4, k5, k6⟩ := hSw
    have la := look_rank k5 a.name
    have lb := look_rank k5 b.name
    go_simp <;> with_reducible rfl
  try simp only [Act.put, List.setIfInBounds_toArray, List.set_cons_zero, List.set_cons_succ, List.getElem_toArray, List.getElem_cons_succ, List.getElem_cons_zero]
  refine wpAnyH_take (i := 7) (v := ?_) rfl (by kernel_rfl) (by kernel_rfl) (by kernel_rfl) (fun _ _ _ h => h) (Or.inl ⟨by rfl, ?_⟩) (by assumption) ?_
  rotate_left
  · intro w' hSw
    obtain ⟨k1, k2, k3, k4, k5, k6⟩ := hSw
    have la := look_rank k5 a.name
    have lb := look_rank k5 b.name
    go_simp <;> with_reducible rfl
  try simp only [Act.put, List.setIfInBounds_toArray, List.set_cons_zero, List.set_cons_succ, List.getElem_toArray, List.getElem_cons_succ, List.getElem_cons_zero]
  refine wpAnyH_take (i := 9) (v := ?_) rfl (by kernel_rfl) (by kernel_rfl) (by kernel_rfl) (fun _ _ _ h => h) (Or.inl ⟨by rfl, ?_⟩) (by assumption) ?_
  rotate_left
  · intro w' hSw
    obtain ⟨k1, k2, k3, k4, k5, k6⟩ := hSw
    have la := look_rank k5 a.name
    have lb := look_rank k5 b.name
    go_simp <;> with_reducible rfl
  try simp only [Act.put, List.setIfInBounds_toArray, List.set_cons_zero, List.set_cons_succ, List.getElem_toArray, List.getElem_cons_succ, List.getElem_cons_zero]
  refine wpAnyH_take (i := 10) (v := ?_) rfl (by kernel_rfl) (by kernel_rfl) (by kernel_rfl) (fun _ _ _ h => h) (Or.inl ⟨by rfl, ?_⟩) (by assumption) ?_
  rotate_left
  · intro w' hSw
    obtain ⟨k1, k2, k3, k4, k5, k6⟩ := hSw
    have la := look_rank k5 a.name
    have lb := look_rank k5 b.name
    go_simp <;> with_reducible rfl
  try simp only [Act.put, List.setIfInBounds_toArray, List.set_cons_zero, List.set_cons_succ, List.getElem_toArray, List.getElem_cons_succ, List.getElem_cons_zero]
  refine wpAnyH_take (i := 11) (v := ?_) rfl (by kernel_rfl) (by kernel_rfl) (by kernel_rfl) (fun _ _ _ h => h) (Or.inl ⟨by rfl, ?_⟩) (by assumption) ?_
  rotate_left
  · intro w' hSw
    obtain ⟨k1, k2, k3, k4, k5, k6⟩ := hSw
    have la := look_rank k5 a.name
    have lb := look_rank k5 b.name
    go_simp <;> with_reducible rfl
  try simp only [Act.put, List.setIfInBounds_toArray, List.set_cons_zero, List.set_cons_succ, List.getElem_toArray, List.getElem_cons_succ, List.getElem_cons_zero]
  refine wpAnyH_take (i := 12) (v := ?_) rfl (by kernel_rfl) (by kernel_rfl) (by kernel_rfl) (fun _ _ _ h => h) (Or.inl ⟨by rfl, ?_⟩) (by assumption) ?_
  rotate_left
  · intro w' hSw
    obtain ⟨k1, k2, k3, k4, k5, k6⟩ := hSw
    have la := look_rank k5 a.name
    have lb := look_rank k5 b.name
    go_simp <;> with_reducible rfl
  try simp only [Act.put, List.setIfInBounds_toArray, List.set_cons_zero, List.set_cons_succ, List.getElem_toArray, List.getElem_cons_succ, List.getElem_cons_zero]
  refine wpAnyH_take (i := 14) (v := ?_) rfl (by kernel_rfl) (by kernel_rfl) (by kernel_rfl) (fun _ _ _ h => h) (Or.inl ⟨by rfl, ?_⟩) (by assumption) ?_
  rotate_left
  · intro w' hSw
    obtain ⟨k1, k2, k3, k4, k5, k6⟩ := hSw
    have la := look_rank k5 a.name
    have lb := look_rank k5 b.name
    go_simp <;> with_reducible rfl
  try simp only [Act.put, List.setIfInBounds_toArray, List.set_cons_zero, List.set_cons_succ, List.getElem_toArray, List.getElem_cons_succ, List.getElem_cons_zero]
  refine wpAnyH_take (i := 15) (v := ?_) rfl (by kernel_rfl) (by kernel_rfl) (by kernel_rfl) (fun _ _ _ h => h) (Or.inl ⟨by rfl, ?_⟩) (by assumption) ?_
  rotate_left
  · intro w' hSw
    obtain ⟨k1, k2, k3, k4, k5, k6⟩ := hSw
    have la := look_rank k5 a.name
    have lb := look_rank k5 b.name
    go_simp <;> with_reducible rfl
  try simp only [Act.put, List.setIfInBounds_toArray, List.set_cons_zero, List.set_cons_succ, List.getElem_toArray, List.getElem_cons_succ, List.getElem_cons_zero]
  refine wpAnyH_take (i := 16) (v := ?_) rfl (by kernel_rfl) (by kernel_rfl) (by kernel_rfl) (fun _ _ _ h => h) (Or.inl ⟨by rfl, ?_⟩) (by assumption) ?_
  rotate_left
  · intro w' hSw
    obtain ⟨k1, k2, k3, k4, k5, k6⟩ := hSw
    have la := look_rank k5 a.name
    have lb := look_rank k5 b.name
    go_simp <;> with_reducible rfl
  try simp only [Act.put, List.setIfInBounds_toArray, List.set_cons_zero, List.set_cons_succ, List.getElem_toArray, List.getElem_cons_succ, List.getElem_cons_zero]
  refine wpAnyH_take (i := 17) (v := ?_) rfl (by kernel_rfl) (by kernel_rfl) (by kernel_rfl) (fun _ _ _ h => h) (Or.inl ⟨by rfl, ?_⟩) (by assumption) ?_
  rotate_left
  · intro w' hSw
    obtain ⟨k1, k2, k3, k4, k5, k6⟩ := hSw
    have la := look_rank k5 a.name
    have lb := look_rank k5 b.name
    go_simp <;> with_reducible rfl
  try simp only [Act.put, List.setIfInBounds_toArray, List.set_cons_zero, List.set_cons_succ, List.getElem_toArray, List.getElem_cons_succ, List.getElem_cons_zero]
  refine wpAnyH_take (i := 18) (v := ?_) rfl (by kernel_rfl) (by kernel_rfl) (by kernel_rfl) (fun _ _ _ h => h) (Or.inl ⟨by rfl, ?_⟩) (by assumption) ?_
  rotate_left
  · intro w' hSw
    obtain ⟨k1, k2, k3, k4, k5, k6⟩ := hSw
    have la := look_rank k5 a.name
    have lb := look_rank k5 b.name
    go_simp <;> with_reducible rfl
  try simp only [Act.put, List.setIfInBounds_toArray, List.set_cons_zero, List.set_cons_succ, List.getElem_toArray, List.getElem_cons_succ, List.getElem_cons_zero]
  refine wpAnyH_take (i := 19) (v := ?_) rfl (by kernel_rfl) (by kernel_rfl) (by kernel_rfl) (fun _ _ _ h => h) (Or.inl ⟨by rfl, ?_⟩) (by assumption) ?_
  rotate_left
  · intro w' hSw
    obtain ⟨k1, k2, k3, k4, k5, k6⟩ := hSw
    have la := look_rank k5 a.name
    have lb := look_rank k5 b.name
    go_simp <;> with_reducible rfl
  try simp only [Act.put, List.setIfInBounds_toArray, List.set_cons_zero, List.set_cons_succ, List.getElem_toArray, List.getElem_cons_succ, List.getElem_cons_zero]
  refine wpAnyH_ready (rs := [8]) (by kernel_rfl) (by simp) ?_
  refine AllReadyH.cons rfl (fun K hK => ?_) AllReadyH.nil
  go_simp
  go_at_call 81
  refine (compareI_any _ _ _).mono ?_
  rintro e w' ⟨rfl, rfl⟩
  go_simp
  refine hK.out _ _ (by exact hHeld) (fun hHeld => ?_)
  clear hK K
  try simp only [Act.put, List.setIfInBounds_toArray, List.set_cons_zero, List.set_cons_succ, List.getElem_toArray, List.getElem_cons_succ, List.getElem_cons_zero]
  refine wpAnyH_ready (rs := [13]) (by kernel_rfl) (by simp) ?_
  refine AllReadyH.cons rfl (fun K hK => ?_) AllReadyH.nil
  go_simp
  go_at_call 82
  refine (compare_any _ _ _).mono ?_
  rintro e w' ⟨rfl, rfl⟩
  go_simp
  refine hK.out _ _ (by exact hHeld) (fun hHeld => ?_)
  clear hK K
  try simp only [Act.put, List.setIfInBounds_toArray, List.set_cons_zero, List.set_cons_succ, List.getElem_toArray, List.getElem_cons_succ, List.getElem_cons_zero]
  refine wpAnyH_ready (rs := [20]) (by kernel_rfl) (by simp) ?_
  refine AllReadyH.cons rfl (fun K hK => ?_) AllReadyH.nil
  go_simp
  go_at_call 81
  refine (compareI_any _ _ _).mono ?_
  rintro e w' ⟨rfl, rfl⟩
  go_simp
  refine hK.out _ _ (by exact hHeld) (fun hHeld => ?_)
  clear hK K
  try simp only [Act.put, List.setIfInBounds_toArray, List.set_cons_zero, List.set_cons_succ, List.getElem_toArray, List.getElem_cons_succ, List.getElem_cons_zero]
  refine wpAnyH_ready (rs := [21]) (by kernel_rfl) (by simp) ?_
  refine AllReadyH.cons rfl (fun K hK => ?_) AllReadyH.nil
  have KL : Hid (LV (fun z => .int .i64 z) (((w.alloc (.cells #[.string a.name, .slice aa a.args.length ca, .int .i64 (numT a S), .int .i64 (sizeL [a])] 76)).alloc (.cells #[.string b.name, .slice ab b.args.length cb, .int .i64 (numT b S), .int .i64 (sizeL [b])] 76)).alloc (.cells #[.int .i64 (cmpI (rankN a.name row) (rankN b.name row)), .int .i64 (cmpN a.name b.name), .int .i64 (cmpI a.args.length b.args.length)] 3)).drew (fun _ => True) (.slice (some ⟨w.heap.size + 1 + 1, 0, none⟩) 3 3) [cmpI (rankN a.name row) (rankN b.name row), cmpN a.name b.name, cmpI a.args.length b.args.length]) := by
    have k := Blk.new ((w.alloc (.cells #[.string a.name, .slice aa a.args.length ca, .int .i64 (numT a S), .int .i64 (sizeL [a])] 76)).alloc (.cells #[.string b.name, .slice ab b.args.length cb, .int .i64 (numT b S), .int .i64 (sizeL [b])] 76)) #[.int .i64 (cmpI (rankN a.name row) (rankN b.name row)), .int .i64 (cmpN a.name b.name), .int .i64 (cmpI a.args.length b.args.length)] 3
    refine ⟨_, _, rfl, ⟨by simp, Nat.le_refl _⟩, Or.inr ⟨_, 0, rfl, trivial, fun i hi => ?_⟩⟩
    have e : ((w.alloc (.cells #[.string a.name, .slice aa a.args.length ca, .int .i64 (numT a S), .int .i64 (sizeL [a])] 76)).alloc (.cells #[.string b.name, .slice ab b.args.length cb, .int .i64 (numT b S), .int .i64 (sizeL [b])] 76)).heap.size = w.heap.size + 1 + 1 := by simp
    rw [e] at k
    match i, hi with
    | 0, _ => exact k.cell 0
    | 1, _ => exact k.cell 1
    | 2, _ => exact k.cell 2
  go_simp
  refine hK.out _ _ (by exact hHeld.later ⟨rfl, rfl, rfl, by simp, fun k hk => Below.heap_alloc _ _ _ (by simpa using hk)⟩) (fun hHeld => ?_)
  clear hK K
  try simp only [Act.put, List.setIfInBounds_toArray, List.set_cons_zero, List.set_cons_succ, List.getElem_toArray, List.getElem_cons_succ, List.getElem_cons_zero]
  refine wpAnyH_ready (rs := [22]) (by kernel_rfl) (by simp) ?_
  refine AllReadyH.cons rfl (fun K hK => ?_) AllReadyH.nil
  go_simp
  go_at_call 80
  refine (or_any _ _ _ _ KL.out).mono ?_
  rintro e w' ⟨rfl, hb⟩
  rw [orI_three]
  go_simp
  refine hK.out _ _ (by exact hHeld.later hb) (fun hHeld => ?_)
  clear hK K
  try simp only [Act.put, List.setIfInBounds_toArray, List.set_cons_zero, List.set_cons_succ, List.getElem_toArray, List.getElem_cons_succ, List.getElem_cons_zero]
  refine wpAnyH_take (i := 23) (v := ?_) rfl (by kernel_rfl) (by kernel_rfl) (by kernel_rfl) (fun _ _ _ h => h) (Or.inl ⟨by rfl, ?_⟩) (by assumption) ?_
  rotate_left
  · intro w' hSw
    go_simp <;> with_reducible rfl
  try simp only [Act.put, List.setIfInBounds_toArray, List.set_cons_zero, List.set_cons_succ, List.getElem_toArray, List.getElem_cons_succ, List.getElem_cons_zero]
  refine wpAnyH_done (by kernel_rfl) ?_ _
  go_wp2_with fail
  go_ret
  exact ⟨rfl, hHeld.2.2.2.2.2⟩
#print axioms compareR_any
end Go.Proofs.YteghhdogmdpbpakGreat

/- Walks: is a numbered term a variable; the first ones that are unlike. -/
namespace Go.Proofs.YteghhdogmdpbpakGreat
open Go.RowKit
set_option linter.unusedSimpArgs false
set_option linter.unusedVariables false
set_option maxRecDepth 8000

set_option maxHeartbeats 1000000 in
theorem itemVar_any (S : List Tm) (t : Tm) (v : Value) (w : World) (X : Nat → Prop) (hv : IV w X S v t) :
    Calls Tryz.prog 66 #[v] w fun e w' => e = .returned (.bool (varB t.name)) ∧ Below w.heap.size w w' := by
  obtain ⟨_, a, c, rfl, hs⟩ := hv
  go_enter Tryz.func66, Tryz.ntmps66
  go_wp2_with (go_at_call 38; refine (isVariable_all _ _).mono ?_; rintro e w' ⟨rfl, rfl⟩)
  go_ret
  exact ⟨rfl, (Below.refl _ _).alloc (Nat.le_refl _) _⟩

/-- All alike so far. -/
theorem unl_from : ∀ {a b : List Tm} {k : Nat} (ha : k < a.length) (hb : k < b.length), (∀ j (h1 : j < k), a[j] = b[j]) → a[k] ≠ b[k] → unl a b = some (a[k], b[k])
  | t :: a, u :: b, 0, _, _, _, h => by
    have h' : t ≠ u := h
    rw [unl, if_neg fun e => h' (sameB_iff.1 e)]
    rfl
  | t :: a, u :: b, k + 1, ha, hb, hall, h => by
    have h0 : t = u := hall 0 (by omega)
    subst h0
    rw [unl, if_pos (sameB_iff.2 rfl), unl_from (k := k) (by simpa using ha) (by simpa using hb) (fun j hj => hall (j + 1) (by omega)) (by simpa using h)]
    rfl
theorem unl_all : ∀ {a b : List Tm}, a.length = b.length → (∀ j (h1 : j < a.length) (h2 : j < b.length), a[j] = b[j]) → unl a b = none
  | [], _, _, _ => by simp [unl]
  | t :: a, [], h, _ => by simp at h
  | t :: a, u :: b, h, hall => by
    have h0 : t = u := hall 0 (by simp) (by simp)
    subst h0
    rw [unl, if_pos (sameB_iff.2 rfl)]
    exact unl_all (by simpa using h) fun j h1 h2 => by
      have h3 := hall (j + 1) (by simpa using h1) (by simpa using h2)
      simp only [List.getElem_cons_succ] at h3
      exact h3
theorem cell_alloc {w : World} {b o : Nat} {v : Value} (h : w.cell? ⟨b, o, none⟩ = some v) (ob : Obj) : (w.alloc ob).cell? ⟨b, o, none⟩ = some v := by
  rw [← h]
  exact ((Below.refl w.heap.size w).alloc (Nat.le_refl _) ob).cell (p := ⟨b, o, none⟩) (cell_lt h)
theorem fu_end {S : List Tm} {X : Nat → Prop} {w w5 w' : World} (hB : Below w.heap.size w w5) (hq : ExQ (fun b => b = w.heap.size + 2 ∨ b = w.heap.size + 3) w5 w') : Below w.heap.size w w' ∧ ∀ v x, IV w5 (fun b => X b ∧ b < w.heap.size) S v x → IV w' X S v x := by
  refine ⟨hB.trans (hq.below hB.size fun b hb => by rcases hb with h | h <;> omega), fun v x hx => ?_⟩
  have hz := hB.size
  exact (hx.kept fun b hb => hq.block b (by have := hb.2; omega) (fun h => by have := hb.2; rcases h with h | h <;> omega)).mono fun b hb _ => hb.1
theorem fu_fin1 {S : List Tm} {X : Nat → Prop} {a b x y : Tm} {vx vy : Value} {e : Ending} {w w5 w' : World} (hB : Below w.heap.size w w5) (hq : ExQ (fun b => b = w.heap.size + 2 ∨ b = w.heap.size + 3) w5 w') (hu : unl a.args b.args = some (x, y)) (he : e = .returned (.tuple #[vx, vy, .bool true])) (hx : IV w5 (fun b => X b ∧ b < w.heap.size) S vx x) (hy : IV w5 (fun b => X b ∧ b < w.heap.size) S vy y) :
    Below w.heap.size w w' ∧ ((∃ x y vx vy, unl a.args b.args = some (x, y) ∧ e = .returned (.tuple #[vx, vy, .bool true]) ∧ IV w' X S vx x ∧ IV w' X S vy y) ∨
      (unl a.args b.args = none ∧ e = .returned (.tuple #[.agg #[.string ⟨#[]⟩, .slice none 0 0, .int .i64 0, .int .i64 0], .agg #[.string ⟨#[]⟩, .slice none 0 0, .int .i64 0, .int .i64 0], .bool false]))) :=
  have FE := fu_end (S := S) (X := X) hB hq
  ⟨FE.1, Or.inl ⟨x, y, vx, vy, hu, he, FE.2 _ _ hx, FE.2 _ _ hy⟩⟩
theorem fu_fin2 {S : List Tm} {X : Nat → Prop} {a b : Tm} {e : Ending} {w w5 w' : World} (hB : Below w.heap.size w w5) (hq : ExQ (fun b => b = w.heap.size + 2 ∨ b = w.heap.size + 3) w5 w') (hu : unl a.args b.args = none) (he : e = .returned (.tuple #[.agg #[.string ⟨#[]⟩, .slice none 0 0, .int .i64 0, .int .i64 0], .agg #[.string ⟨#[]⟩, .slice none 0 0, .int .i64 0, .int .i64 0], .bool false])) :
    Below w.heap.size w w' ∧ ((∃ x y vx vy, unl a.args b.args = some (x, y) ∧ e = .returned (.tuple #[vx, vy, .bool true]) ∧ IV w' X S vx x ∧ IV w' X S vy y) ∨
      (unl a.args b.args = none ∧ e = .returned (.tuple #[.agg #[.string ⟨#[]⟩, .slice none 0 0, .int .i64 0, .int .i64 0], .agg #[.string ⟨#[]⟩, .slice none 0 0, .int .i64 0, .int .i64 0], .bool false]))) :=
  have FE := fu_end (S := S) (X := X) hB hq
  ⟨FE.1, Or.inr ⟨hu, he⟩⟩
def FuInv (S : List Tm) (a b : Tm) (aa : Option Addr) (ca : Nat) (ab : Option Addr) (cb : Nat) (w : World) (i : Value) (wr : World) : Prop :=
  ∃ k : Nat, k ≤ a.args.length ∧ i = .int .i64 (k : Int) ∧ (∀ j (h1 : j < k) (h2 : j < a.args.length) (h3 : j < b.args.length), a.args[j] = b.args[j]) ∧ Blk wr w.heap.size #[.string a.name, .slice aa a.args.length ca, .int .i64 (numT a S), .int .i64 (sizeL [a])] 76 ∧
    Blk wr (w.heap.size + 1) #[.string b.name, .slice ab b.args.length cb, .int .i64 (numT b S), .int .i64 (sizeL [b])] 76 ∧ Blk wr (w.heap.size + 2) #[.string ⟨#[]⟩, .slice none 0 0, .int .i64 0, .int .i64 0] 76 ∧ Blk wr (w.heap.size + 3) #[.string ⟨#[]⟩, .slice none 0 0, .int .i64 0, .int .i64 0] 76 ∧ Below w.heap.size w wr
set_option maxHeartbeats 2000000 in
theorem firstUnlike_any (S : List Tm) (a b : Tm) (hl : a.args.length = b.args.length) (va vb : Value) (w : World) (X : Nat → Prop) (ha : IV w X S va a) (hb : IV w X S vb b) :
    Calls Tryz.prog 70 #[va, vb] w fun e w' => Below w.heap.size w w' ∧ ((∃ x y vx vy, unl a.args b.args = some (x, y) ∧ e = .returned (.tuple #[vx, vy, .bool true]) ∧ IV w' X S vx x ∧ IV w' X S vy y) ∨
      (unl a.args b.args = none ∧ e = .returned (.tuple #[.agg #[.string ⟨#[]⟩, .slice none 0 0, .int .i64 0, .int .i64 0], .agg #[.string ⟨#[]⟩, .slice none 0 0, .int .i64 0, .int .i64 0], .bool false]))) := by
  obtain ⟨_, aa, ca, rfl, hsa⟩ := ha
  obtain ⟨_, ab, cb, rfl, hsb⟩ := hb
  have HSA := hide (hsa.mono (Y := fun b => X b ∧ b < w.heap.size) fun b h1 h2 => ⟨h1, h2⟩)
  have HSB := hide (hsb.mono (Y := fun b => X b ∧ b < w.heap.size) fun b h1 h2 => ⟨h1, h2⟩)
  have hla := hsa.1
  have hlb := hsb.1
  have HL := hide hl
  clear hsa hsb hl
  go_enter Tryz.func70, Tryz.ntmps70
  go_wp2_with fail
  have I0 : Hid (FuInv S a b aa ca ab cb w (.int .i64 0) ((((w.alloc (.cells #[.string a.name, .slice aa a.args.length ca, .int .i64 (numT a S), .int .i64 (sizeL [a])] 76)).alloc (.cells #[.string b.name, .slice ab b.args.length cb, .int .i64 (numT b S), .int .i64 (sizeL [b])] 76)).alloc (.cells #[.string ⟨#[]⟩, .slice none 0 0, .int .i64 0, .int .i64 0] 76)).alloc (.cells #[.string ⟨#[]⟩, .slice none 0 0, .int .i64 0, .int .i64 0] 76))) := by
    have k1 := Blk.new w #[.string a.name, .slice aa a.args.length ca, .int .i64 (numT a S), .int .i64 (sizeL [a])] 76
    have b1 := (Below.refl w.heap.size w).alloc (Nat.le_refl _) (.cells #[.string a.name, .slice aa a.args.length ca, .int .i64 (numT a S), .int .i64 (sizeL [a])] 76)
    have e1 : (w.alloc (.cells #[.string a.name, .slice aa a.args.length ca, .int .i64 (numT a S), .int .i64 (sizeL [a])] 76)).heap.size = w.heap.size + 1 := by simp
    generalize w.alloc (.cells #[.string a.name, .slice aa a.args.length ca, .int .i64 (numT a S), .int .i64 (sizeL [a])] 76) = w1 at *
    have k2 := Blk.new w1 #[.string b.name, .slice ab b.args.length cb, .int .i64 (numT b S), .int .i64 (sizeL [b])] 76
    have b2 := b1.alloc b1.size (.cells #[.string b.name, .slice ab b.args.length cb, .int .i64 (numT b S), .int .i64 (sizeL [b])] 76)
    have k1' := k1.alloc (.cells #[.string b.name, .slice ab b.args.length cb, .int .i64 (numT b S), .int .i64 (sizeL [b])] 76)
    have e2 : (w1.alloc (.cells #[.string b.name, .slice ab b.args.length cb, .int .i64 (numT b S), .int .i64 (sizeL [b])] 76)).heap.size = w.heap.size + 2 := by simp [e1]
    generalize w1.alloc (.cells #[.string b.name, .slice ab b.args.length cb, .int .i64 (numT b S), .int .i64 (sizeL [b])] 76) = w2 at *
    have k3 := Blk.new w2 #[.string ⟨#[]⟩, .slice none 0 0, .int .i64 0, .int .i64 0] 76
    have b3 := b2.alloc b2.size (.cells #[.string ⟨#[]⟩, .slice none 0 0, .int .i64 0, .int .i64 0] 76)
    have k2' := k2.alloc (.cells #[.string ⟨#[]⟩, .slice none 0 0, .int .i64 0, .int .i64 0] 76)
    have k1'' := k1'.alloc (.cells #[.string ⟨#[]⟩, .slice none 0 0, .int .i64 0, .int .i64 0] 76)
    have e3 : (w2.alloc (.cells #[.string ⟨#[]⟩, .slice none 0 0, .int .i64 0, .int .i64 0] 76)).heap.size = w.heap.size + 3 := by simp [e2]
    generalize w2.alloc (.cells #[.string ⟨#[]⟩, .slice none 0 0, .int .i64 0, .int .i64 0] 76) = w3 at *
    have k4 := Blk.new w3 #[.string ⟨#[]⟩, .slice none 0 0, .int .i64 0, .int .i64 0] 76
    rw [e1] at k2'
    rw [e2] at k3
    rw [e3] at k4
    exact ⟨0, Nat.zero_le _, rfl, fun j h => by omega, k1''.alloc _, k2'.alloc _, k3.alloc _, k4, b3.alloc b3.size _⟩
  generalize (((w.alloc (.cells #[.string a.name, .slice aa a.args.length ca, .int .i64 (numT a S), .int .i64 (sizeL [a])] 76)).alloc (.cells #[.string b.name, .slice ab b.args.length cb, .int .i64 (numT b S), .int .i64 (sizeL [b])] 76)).alloc (.cells #[.string ⟨#[]⟩, .slice none 0 0, .int .i64 0, .int .i64 0] 76)).alloc (.cells #[.string ⟨#[]⟩, .slice none 0 0, .int .i64 0, .int .i64 0] 76) = w4 at *
  go_loopw [13] (fun i wr => FuInv S a b aa ca ab cb w i wr) (fun i wr => a.args.length - (intOf i).toNat)
  case atStart => exact I0.out
  case round =>
    clear I0
    obtain ⟨k, hk, rfl, hall, h1, h2, h3, h4, hB⟩ := hrel
    have HH1 := hide h1
    have HH2 := hide h2
    have HH3 := hide h3
    have HH4 := hide h4
    have HBB := hide hB
    have HALL := hide hall
    have z1 : wr.heap.size ≥ w.heap.size + 4 := by have := h4.lt; omega
    by_cases hlt : k < a.args.length
    · have hlt2 : k < b.args.length := by have := HL.out; omega
      have hlti : (k : Int) < (a.args.length : Int) := by omega
      have hltj : (k : Int) < (b.args.length : Int) := by omega
      obtain ⟨b1, o1, a1, c1, rfl, d10, d11, d12, d13, hx⟩ := HSA.out.get hB (fun _ _ h => h) k hlt
      obtain ⟨b2, o2, a2, c2, rfl, d20, d21, d22, d23, hy⟩ := HSB.out.get hB (fun _ _ h => h) k hlt2
      have q : ∀ o, (wr.alloc o).cell? ⟨w.heap.size + 1, 1, none⟩ = some (.slice (some ⟨b2, o2, none⟩) b.args.length cb) := fun o => (h2.alloc o).cell 1
      have f20 := fun o => cell_alloc d20 o
      have f21 := fun o => cell_alloc d21 o
      have f22 := fun o => cell_alloc d22 o
      have f23 := fun o => cell_alloc d23 o
      have HX := hide hx
      have HY := hide hy
      clear h1 h2 h3 h4 hB hall hx hy d20 d21 d22 d23
      by_cases he : a.args[k] = b.args[k]
      · have hne : ((numT a.args[k] S : Int) != (numT b.args[k] S : Int)) = false := by rw [he]; simp
        have HE := hide he
        clear he
        go_wp2_with fail
        go_roundw
        case rel =>
          refine ⟨k + 1, by omega, by go_num, fun j h1 h2 h3 => ?_, (HH1.out.alloc _).alloc _, (HH2.out.alloc _).alloc _, (HH3.out.alloc _).alloc _, (HH4.out.alloc _).alloc _, (HBB.out.alloc HBB.out.size _).alloc (by have := HBB.out.size; simp; omega) _⟩
          by_cases hj : j = k
          · subst hj; exact HE.out
          · exact HALL.out j (by omega) h2 h3
        case measure => simp [intOf]; omega
      · have hne : ((numT a.args[k] S : Int) != (numT b.args[k] S : Int)) = true := by
          rw [bne_iff_ne]
          intro e
          exact he (numT_inj HX.out.1 HY.out.1 (by omega))
        have HU := hide (unl_from hlt hlt2 (fun j hj => HALL.out j hj (by omega) (by omega)) he)
        clear he
        go_wp2_with fail
        generalize hxx : a.args[k] = x at *
        generalize hyy : b.args[k] = y at *
        have w0 := (Blk.new wr #[.string x.name, .slice a1 x.args.length c1, .int .i64 (numT x S), .int .i64 (sizeL [x])] 76).alloc (.cells #[.string y.name, .slice a2 y.args.length c2, .int .i64 (numT y S), .int .i64 (sizeL [y])] 76)
        have w9 := Blk.new (wr.alloc (.cells #[.string x.name, .slice a1 x.args.length c1, .int .i64 (numT x S), .int .i64 (sizeL [x])] 76)) #[.string y.name, .slice a2 y.args.length c2, .int .i64 (numT y S), .int .i64 (sizeL [y])] 76
        have e9 : (wr.alloc (.cells #[.string x.name, .slice a1 x.args.length c1, .int .i64 (numT x S), .int .i64 (sizeL [x])] 76)).heap.size = wr.heap.size + 1 := by simp
        rw [e9] at w9
        have wr3 := (HH3.out.alloc (.cells #[.string x.name, .slice a1 x.args.length c1, .int .i64 (numT x S), .int .i64 (sizeL [x])] 76)).alloc (.cells #[.string y.name, .slice a2 y.args.length c2, .int .i64 (numT y S), .int .i64 (sizeL [y])] 76)
        have wr4 := (HH4.out.alloc (.cells #[.string x.name, .slice a1 x.args.length c1, .int .i64 (numT x S), .int .i64 (sizeL [x])] 76)).alloc (.cells #[.string y.name, .slice a2 y.args.length c2, .int .i64 (numT y S), .int .i64 (sizeL [y])] 76)
        have BL := hide ((HBB.out.alloc HBB.out.size (.cells #[.string x.name, .slice a1 x.args.length c1, .int .i64 (numT x S), .int .i64 (sizeL [x])] 76)).alloc (by have := HBB.out.size; simp; omega) (.cells #[.string y.name, .slice a2 y.args.length c2, .int .i64 (numT y S), .int .i64 (sizeL [y])] 76))
        have HX2 := hide ((HX.out.alloc (.cells #[.string x.name, .slice a1 x.args.length c1, .int .i64 (numT x S), .int .i64 (sizeL [x])] 76)).alloc (.cells #[.string y.name, .slice a2 y.args.length c2, .int .i64 (numT y S), .int .i64 (sizeL [y])] 76))
        have HY2 := hide ((HY.out.alloc (.cells #[.string x.name, .slice a1 x.args.length c1, .int .i64 (numT x S), .int .i64 (sizeL [x])] 76)).alloc (.cells #[.string y.name, .slice a2 y.args.length c2, .int .i64 (numT y S), .int .i64 (sizeL [y])] 76))
        generalize ((wr.alloc (.cells #[.string x.name, .slice a1 x.args.length c1, .int .i64 (numT x S), .int .i64 (sizeL [x])] 76)).alloc (.cells #[.string y.name, .slice a2 y.args.length c2, .int .i64 (numT y S), .int .i64 (sizeL [y])] 76)) = w5 at *
        have p0 := w0.cell 0
        have p1 := w0.cell 1
        have p2 := w0.cell 2
        have p3 := w0.cell 3
        have q0 := w9.cell 0
        have q1 := w9.cell 1
        have q2 := w9.cell 2
        have q3 := w9.cell 3
        have r0 := wr3.cell 0
        have r1 := wr3.cell 1
        have r2 := wr3.cell 2
        have r3 := wr3.cell 3
        have rf := wr3.frozen
        have s0 := wr4.cell 0
        have s1 := wr4.cell 1
        have s2 := wr4.cell 2
        have s3 := wr4.cell 3
        have sf := wr4.frozen
        simp only [List.getElem?_toArray, List.getElem?_cons_zero, List.getElem?_cons_succ] at p0 p1 p2 p3 q0 q1 q2 q3 r0 r1 r2 r3 s0 s1 s2 s3
        clear w0 w9 wr3 wr4 f20 f21 f22 f23 q
        go_region
        all_goals
          go_wp2_with fail
          refine bodyPost_ret (v := .tuple #[.agg #[.string x.name, .slice a1 x.args.length c1, .int .i64 (numT x S), .int .i64 (sizeL [x])], .agg #[.string y.name, .slice a2 y.args.length c2, .int .i64 (numT y S), .int .i64 (sizeL [y])], .bool true]) (by simp [results, Tryz.results70, go_sem, World.cell?_setCell_same, World.cell?_setCell_other, r0, r1, r2, r3, s0, s1, s2, s3]) rfl ?_
          refine fu_fin1 BL.out ?_ HU.out rfl HX2.out HY2.out
          refine ExQ.drew ?_
          iterate 8 refine ExQ.set ?_ (by simp) _ _
          exact ExQ.refl _ _
    · have HN : Hid (unl a.args b.args = none) := unl_all HL.out fun j h1 h2 => HALL.out j (by omega) h1 h2
      have r0 := h3.cell 0
      have r1 := h3.cell 1
      have r2 := h3.cell 2
      have r3 := h3.cell 3
      have rf := h3.frozen
      have s0 := h4.cell 0
      have s1 := h4.cell 1
      have s2 := h4.cell 2
      have s3 := h4.cell 3
      have sf := h4.frozen
      simp only [List.getElem?_toArray, List.getElem?_cons_zero, List.getElem?_cons_succ] at r0 r1 r2 r3 s0 s1 s2 s3
      clear h1 h2 h3 h4 hB hall
      go_wp2_with fail
      refine bodyPost_ret (v := .tuple #[.agg #[.string ⟨#[]⟩, .slice none 0 0, .int .i64 0, .int .i64 0], .agg #[.string ⟨#[]⟩, .slice none 0 0, .int .i64 0, .int .i64 0], .bool false]) (by simp [results, Tryz.results70, go_sem, World.cell?_setCell_same, World.cell?_setCell_other, r0, r1, r2, r3, s0, s1, s2, s3]) rfl ?_
      refine fu_fin2 HBB.out ?_ HN.out rfl
      iterate 8 refine ExQ.set ?_ (by simp) _ _
      exact ExQ.refl _ _
#print axioms firstUnlike_any
end Go.Proofs.YteghhdogmdpbpakGreat

/- Maps by two numbers, as they lie in memory: what holds of all that stand in them. -/
namespace Go.Proofs.YteghhdogmdpbpakGreat
open Go.RowKit
open Go.WideMaps
set_option linter.unusedSimpArgs false
set_option linter.unusedVariables false

def pairV (p : Nat × Nat) : Value := .agg #[.int .i64 p.1, .int .i64 p.2]
def PrOk (p : Nat × Nat) : Prop := p.1 < 9000000000000000000 ∧ p.2 < 9000000000000000000
/-- All that stand in the map at r are right. -/
def MapP (w : World) (r : Nat) (Q : Nat × Nat → Bool → Prop) : Prop :=
  ∃ es clk, w.heap[r]? = some (.map es clk) ∧ ∀ e ∈ es.toList, ∃ p v, e.key = pairV p ∧ PrOk p ∧ e.val = .agg #[.bool v] ∧ Q p v

theorem MapP.new (w : World) (Q : Nat × Nat → Bool → Prop) : MapP (w.alloc (.map #[] 0)) w.heap.size Q := ⟨#[], 0, heap_alloc_new w _, by simp⟩
theorem MapP.lt {w : World} {r : Nat} {Q : Nat × Nat → Bool → Prop} (h : MapP w r Q) : r < w.heap.size := by
  obtain ⟨es, clk, h, _⟩ := h
  exact (Array.getElem?_eq_some_iff.1 h).1
theorem MapP.kept {w w' : World} {r : Nat} {Q : Nat × Nat → Bool → Prop} (h : MapP w r Q) (hk : w'.heap[r]? = w.heap[r]?) : MapP w' r Q := by
  obtain ⟨es, clk, h1, h2⟩ := h
  exact ⟨es, clk, hk.trans h1, h2⟩
theorem MapP.below {w w' : World} {r B : Nat} {Q : Nat × Nat → Bool → Prop} (h : MapP w r Q) (hb : Below B w w') (hB : r < B) : MapP w' r Q := h.kept (hb.block r hB)

theorem pair_key {P : Program} {k e : TypeId} (A : ArrKey P k e 2) (he : P.underlying e = some (.int .i64)) (hsz : ∃ m, P.types.size = m + 1) {p : Nat × Nat} (h : PrOk p) : ∃ l, keyOf P k (pairV p) = some l := by
  obtain ⟨h1, h2⟩ := h
  exact ⟨_, keyOf_pair A he hsz (by simp [Lit.wf, IntKind.min, IntKind.max, IntKind.signed, IntKind.bits]; omega) (by simp [Lit.wf, IntKind.min, IntKind.max, IntKind.signed, IntKind.bits]; omega)⟩

theorem pairV_inj {p q : Nat × Nat} (h : pairV p = pairV q) : p = q := by
  obtain ⟨a, b⟩ := p
  obtain ⟨c, d⟩ := q
  simp [pairV] at h
  obtain ⟨h1, h2⟩ := h
  have e1 : a = c := by omega
  have e2 : b = d := by omega
  rw [e1, e2]

theorem run_lookP {P : Program} {w : World} {T k e el : TypeId} {r : Nat} {Q : Nat × Nat → Bool → Prop} (A : ArrKey P k e 2) (he : P.underlying e = some (.int .i64)) (hsz : ∃ m, P.types.size = m + 1) (hm : P.underlying T = some (.map k el)) (hz : (zeroValue el).run P w = .ok (.agg #[.bool false]) w) (h : MapP w r Q) {p : Nat × Nat} (hp : PrOk p) :
    (∃ v, Q p v ∧ (Instr.lookup T (.map (some r)) (pairV p) true).run P w = .ok (.tuple #[.agg #[.bool v], .bool true]) w) ∨ (Instr.lookup T (.map (some r)) (pairV p) true).run P w = .ok (.tuple #[.agg #[.bool false], .bool false]) w := by
  obtain ⟨es, clk, hb, hes⟩ := h
  obtain ⟨l, hl⟩ := pair_key A he hsz hp
  have hc := fun b => A.law.check w b hl
  have hall : ∀ x ∈ es.toList, ∃ l, keyOf P k x.key = some l := fun x hx => by
    obtain ⟨q, v, hk, hq, _⟩ := hes x hx
    rw [hk]; exact pair_key A he hsz hq
  rcases A.law.find w hl es.toList hall with ⟨hf, _⟩ | ⟨j, x, hf, hj, hx⟩
  · refine Or.inr ?_
    simp [Instr.lookup, run_underlying hm, MapKept.run_getObj_map hb, hc, hf, Result.andThen, hz]
  · have hmem : x ∈ es.toList := List.mem_of_getElem? hj
    obtain ⟨q, v, hk, hq, hv, hQ⟩ := hes x hmem
    have e1 : q = p := pairV_inj (hk.symm.trans hx)
    subst e1
    refine Or.inl ⟨v, hQ, ?_⟩
    simp [Instr.lookup, run_underlying hm, MapKept.run_getObj_map hb, hc, hf, Result.andThen, hv]

theorem run_putP {P : Program} {w : World} {T k e el : TypeId} {r : Nat} {Q : Nat × Nat → Bool → Prop} (A : ArrKey P k e 2) (he : P.underlying e = some (.int .i64)) (hsz : ∃ m, P.types.size = m + 1) (hm : P.underlying T = some (.map k el)) (h : MapP w r Q) {p : Nat × Nat} (hp : PrOk p) {v : Bool} (hQ : Q p v) :
    ∃ w', (Instr.mapUpdate T (.map (some r)) (pairV p) (.agg #[.bool v])).run P w = .ok () w' ∧ MapP w' r Q ∧ w'.heap.size = w.heap.size ∧ w'.os = w.os ∧ w'.tape = w.tape ∧ w'.output = w.output ∧ (∀ b, b ≠ r → w'.heap[b]? = w.heap[b]?) := by
  obtain ⟨es, clk, hb, hes⟩ := h
  obtain ⟨l, hl⟩ := pair_key A he hsz hp
  have hc := fun b => A.law.check w b hl
  have hall : ∀ x ∈ es.toList, ∃ l, keyOf P k x.key = some l := fun x hx => by
    obtain ⟨q, v, hk, hq, _⟩ := hes x hx
    rw [hk]; exact pair_key A he hsz hq
  rcases A.law.find w hl es.toList hall with ⟨hf, _⟩ | ⟨j, x, hf, hj, hx⟩
  · refine ⟨{ w with heap := w.heap.setIfInBounds r (.map (es.push { key := pairV p, val := .agg #[.bool v], born := clk }) (clk + 1)) }, ?_, ⟨_, _, (MapKept.heap_set hb).1, fun y hy => ?_⟩, by simp, rfl, rfl, rfl, fun b hne => (MapKept.heap_set hb).2 b hne⟩
    · simp [Instr.mapUpdate, run_underlying hm, MapKept.run_getObj_map hb, hc, hf, MapKept.run_setObj_map _ hb, Result.andThen]
    · rw [Array.toList_push, List.mem_append] at hy
      rcases hy with hy | hy
      · exact hes y hy
      · have e2 : y = { key := pairV p, val := .agg #[.bool v], born := clk } := by simpa using hy
        subst e2
        exact ⟨p, v, rfl, hp, rfl, hQ⟩
  · have hj' : es[j]? = some x := by simpa using hj
    have hst := A.law.stays w hl
    refine ⟨{ w with heap := w.heap.setIfInBounds r (.map (es.modify j fun e => { e with key := pairV p, val := .agg #[.bool v] }) clk) }, ?_, ⟨_, _, (MapKept.heap_set hb).1, fun y hy => ?_⟩, by simp, rfl, rfl, rfl, fun b hne => (MapKept.heap_set hb).2 b hne⟩
    · simp [Instr.mapUpdate, run_underlying hm, MapKept.run_getObj_map hb, hc, hf, hj', hx, hst, MapKept.run_setObj_map _ hb, Result.andThen]
    · rw [Array.toList_modify] at hy
      obtain ⟨i, hi⟩ := List.getElem?_of_mem hy
      by_cases hij : j = i
      · subst hij
        simp [List.getElem?_modify, hj'] at hi
        subst hi
        exact ⟨p, v, rfl, hp, rfl, hQ⟩
      · simp [List.getElem?_modify, hij] at hi
        exact hes y (by simpa using Array.mem_of_getElem? hi)
#print axioms run_lookP
#print axioms run_putP
end Go.Proofs.YteghhdogmdpbpakGreat

/- Walks: which term is above another one by paths. -/
namespace Go.Proofs.YteghhdogmdpbpakGreat
open Go.RowKit
open Go.WideMaps
set_option linter.unusedSimpArgs false
set_option linter.unusedVariables false
set_option maxRecDepth 8000

/-- What stands in the map of answers is right. -/
def AskQ (row : List ByteArray) (S : List Tm) (p : Nat × Nat) (v : Bool) : Prop := ∃ x y, x ∈ S ∧ y ∈ S ∧ p = (numT x S, numT y S) ∧ v = pathB row x y
theorem AskQ.val {row : List ByteArray} {S : List Tm} {a b : Tm} {v : Bool} (h : AskQ row S (numT a S, numT b S) v) (ha : a ∈ S) (hb : b ∈ S) : v = pathB row a b := by
  obtain ⟨x, y, hx, hy, e, hv⟩ := h
  simp only [Prod.mk.injEq] at e
  rw [hv, numT_inj ha hx e.1, numT_inj hb hy e.2]
/-- The two maps. -/
structure PS (row : List ByteArray) (S : List Tm) (rk m : Nat) (w : World) : Prop where
  ranks : MapAt w rk (rkL 0 row)
  asked : MapP w m (AskQ row S)
  ne : rk ≠ m
theorem PS.later {row : List ByteArray} {S : List Tm} {rk m : Nat} {w w' : World} (h : PS row S rk m w) (hb : Below w.heap.size w w') : PS row S rk m w' := ⟨h.ranks.below hb h.ranks.lt, h.asked.below hb h.asked.lt, h.ne⟩
theorem PS.ex {row : List ByteArray} {S : List Tm} {rk m : Nat} {w w' : World} (h : PS row S rk m w) (he : Ex m w w') (ha : MapP w' m (AskQ row S)) : PS row S rk m w' := ⟨h.ranks.kept (he.block rk h.ranks.lt h.ne), ha, h.ne⟩
theorem PS.alloc {row : List ByteArray} {S : List Tm} {rk m : Nat} {w : World} (h : PS row S rk m w) (o : Obj) : PS row S rk m (w.alloc o) := h.later ((Below.refl _ _).alloc (Nat.le_refl _) o)
theorem IV.ex {w w' : World} {X : Nat → Prop} {S : List Tm} {v : Value} {t : Tm} {B : Nat} (h : IV w X S v t) (he : Ex B w w') (hX : ∀ b, X b → b ≠ B) : IV w' X S v t :=
  ((h.mono (Y := fun b => X b ∧ b < w.heap.size) fun b h1 h2 => ⟨h1, h2⟩).kept fun b hb => he.block b hb.2 (hX b hb.1)).mono fun b hb _ => hb.1
theorem ISl.ex {w w' : World} {X : Nat → Prop} {S : List Tm} {a : Option Addr} {l : List Tm} {B : Nat} (h : ISl w X S a l) (he : Ex B w w') (hX : ∀ b, X b → b ≠ B) : ISl w' X S a l :=
  ((h.mono (Y := fun b => X b ∧ b < w.heap.size) fun b h1 h2 => ⟨h1, h2⟩).kept fun b hb => he.block b hb.2 (hX b hb.1)).mono fun b hb _ => hb.1
theorem Ex.ofBel {B : Nat} {w w' : World} (h : Below w.heap.size w w') : Ex B w w' := ⟨h.os, h.tape, h.output, h.size, fun k hk _ => h.block k hk⟩
theorem pairKey : ArrKey Tryz.prog 106 3 2 := ⟨Tryz.underlying106, by kernel_rfl, by kernel_rfl, by kernel_rfl⟩
theorem typesPos : ∃ m, Tryz.prog.types.size = m + 1 := ⟨_, rfl⟩

/-- Terms with at most so many knots together are told apart. -/
def AboveOK (row : List ByteArray) (S : List Tm) (rk m N : Nat) : Prop := ∀ (a b : Tm) (va vb : Value) (w : World) (X : Nat → Prop), sizeL [a] + sizeL [b] ≤ N → (∀ b, X b → b ≠ m) → PS row S rk m w → IV w X S va a → IV w X S vb b →
    Calls Tryz.prog 35 #[.agg #[.map (some rk), .map (some m)], va, vb] w fun e w' => e = .returned (.bool (pathB row a b)) ∧ MapP w' m (AskQ row S) ∧ Ex m w w'

def LoInv (row : List ByteArray) (S : List Tm) (rk m : Nat) (a b : Tm) (aa : Option Addr) (ca : Nat) (ab : Option Addr) (cb : Nat) (w : World) (i : Value) (wr : World) : Prop :=
  ∃ k : Nat, k ≤ a.args.length ∧ i = .int .i64 (k : Int) ∧ ((a.args.take k).any fun x => sameB x b || pathB row x b) = false ∧ Blk wr w.heap.size #[.map (some rk), .map (some m)] 73 ∧
    Blk wr (w.heap.size + 1) #[.string a.name, .slice aa a.args.length ca, .int .i64 (numT a S), .int .i64 (sizeL [a])] 76 ∧ Blk wr (w.heap.size + 2) #[.string b.name, .slice ab b.args.length cb, .int .i64 (numT b S), .int .i64 (sizeL [b])] 76 ∧ MapP wr m (AskQ row S) ∧ Ex m w wr
theorem any_take {α : Type} {f : α → Bool} {l : List α} {k : Nat} (h : k < l.length) (h0 : (l.take k).any f = false) : (f l[k] = true → l.any f = true) ∧ (f l[k] = false → (l.take (k + 1)).any f = false) := by
  refine ⟨fun h1 => List.any_eq_true.2 ⟨l[k], List.getElem_mem h, h1⟩, fun h1 => ?_⟩
  rw [List.take_succ_eq_append_getElem h, List.any_append, h0]
  simp [h1]
theorem all_take {α : Type} {f : α → Bool} {l : List α} {k : Nat} (h : k < l.length) (h0 : (l.take k).all f = true) : (f l[k] = false → l.all f = false) ∧ (f l[k] = true → (l.take (k + 1)).all f = true) := by
  refine ⟨fun h1 => ?_, fun h1 => ?_⟩
  · rw [List.all_eq_false]
    exact ⟨l[k], List.getElem_mem h, by rw [h1]; simp⟩
  · rw [List.take_succ_eq_append_getElem h, List.all_append, h0]
    simp [h1]
theorem num_eq {S : List Tm} {x b : Tm} (hx : x ∈ S) (hb : b ∈ S) : ((numT x S : Int) == (numT b S : Int)) = sameB x b := by
  by_cases h : x = b
  · subst h
    rw [sameB_iff.2 rfl]
    simp
  · have h1 : sameB x b = false := by
      cases hs : sameB x b with
      | false => rfl
      | true => exact absurd (sameB_iff.1 hs) h
    rw [h1, beq_eq_false_iff_ne]
    exact fun e => h (numT_inj hx hb (by omega))

set_option maxHeartbeats 2000000 in
theorem below_any {row : List ByteArray} {S : List Tm} {rk m N : Nat} (IH : Hid (AboveOK row S rk m N)) (a b : Tm) (va vb : Value) (w : World) (X : Nat → Prop) (hN : sizeL [a] + sizeL [b] ≤ N + 1) (hX : ∀ b, X b → b ≠ m) (hP : PS row S rk m w) (ha : IV w X S va a) (hb : IV w X S vb b) :
    Calls Tryz.prog 67 #[.agg #[.map (some rk), .map (some m)], va, vb] w fun e w' => e = .returned (.bool (a.args.any fun x => sameB x b || pathB row x b)) ∧ MapP w' m (AskQ row S) ∧ Ex m w w' := by
  have HB := hide hb
  obtain ⟨_, aa, ca, rfl, hsa⟩ := ha
  obtain ⟨hbS, ab, cb, rfl, hsb⟩ := hb
  have HSA := hide hsa
  have hla := hsa.1
  have HP := hide hP
  have hml := hP.asked.lt
  clear hsa hsb hP
  go_enter Tryz.func67, Tryz.ntmps67
  go_wp2_with fail
  have I0 : Hid (LoInv row S rk m a b aa ca ab cb w (.int .i64 0) (((w.alloc (.cells #[.map (some rk), .map (some m)] 73)).alloc (.cells #[.string a.name, .slice aa a.args.length ca, .int .i64 (numT a S), .int .i64 (sizeL [a])] 76)).alloc (.cells #[.string b.name, .slice ab b.args.length cb, .int .i64 (numT b S), .int .i64 (sizeL [b])] 76))) := by
    have k1 := Blk.new w #[.map (some rk), .map (some m)] 73
    have e1 : (w.alloc (.cells #[.map (some rk), .map (some m)] 73)).heap.size = w.heap.size + 1 := by simp
    have x1 : Ex m w (w.alloc (.cells #[.map (some rk), .map (some m)] 73)) := (Ex.refl m w).alloc _
    have p1 := HP.out.alloc (.cells #[.map (some rk), .map (some m)] 73)
    generalize (w.alloc (.cells #[.map (some rk), .map (some m)] 73)) = w1 at *
    have k2 := Blk.new w1 #[.string a.name, .slice aa a.args.length ca, .int .i64 (numT a S), .int .i64 (sizeL [a])] 76
    have e2 : (w1.alloc (.cells #[.string a.name, .slice aa a.args.length ca, .int .i64 (numT a S), .int .i64 (sizeL [a])] 76)).heap.size = w.heap.size + 2 := by simp [e1]
    have x2 : Ex m w (w1.alloc (.cells #[.string a.name, .slice aa a.args.length ca, .int .i64 (numT a S), .int .i64 (sizeL [a])] 76)) := x1.alloc _
    have p2 := p1.alloc (.cells #[.string a.name, .slice aa a.args.length ca, .int .i64 (numT a S), .int .i64 (sizeL [a])] 76)
    have k1' := k1.alloc (.cells #[.string a.name, .slice aa a.args.length ca, .int .i64 (numT a S), .int .i64 (sizeL [a])] 76)
    generalize w1.alloc (.cells #[.string a.name, .slice aa a.args.length ca, .int .i64 (numT a S), .int .i64 (sizeL [a])] 76) = w2 at *
    have k3 := Blk.new w2 #[.string b.name, .slice ab b.args.length cb, .int .i64 (numT b S), .int .i64 (sizeL [b])] 76
    rw [e1] at k2
    rw [e2] at k3
    exact ⟨0, Nat.zero_le _, rfl, by simp, k1'.alloc _, k2.alloc _, k3, (p2.alloc _).asked, x2.alloc _⟩
  generalize (((w.alloc (.cells #[.map (some rk), .map (some m)] 73)).alloc (.cells #[.string a.name, .slice aa a.args.length ca, .int .i64 (numT a S), .int .i64 (sizeL [a])] 76)).alloc (.cells #[.string b.name, .slice ab b.args.length cb, .int .i64 (numT b S), .int .i64 (sizeL [b])] 76)) = w3 at *
  go_loopw [12] (fun i wr => LoInv row S rk m a b aa ca ab cb w i wr) (fun i wr => a.args.length - (intOf i).toNat)
  case atStart => exact I0.out
  case round =>
    clear I0
    obtain ⟨k, hk, rfl, hany, h1, h2, h3, hM, hE⟩ := hrel
    have HH1 := hide h1
    have HH2 := hide h2
    have HH3 := hide h3
    have HM := hide hM
    have HE := hide hE
    have HANY := hide hany
    have z1 : w.heap.size + 3 ≤ wr.heap.size := by have := h3.lt; omega
    by_cases hlt : k < a.args.length
    · have hlti : (k : Int) < (a.args.length : Int) := by omega
      obtain ⟨b1, o1, a1, c1, rfl, d10, d11, d12, d13, hx⟩ := (HSA.out.ex hE hX).get (Below.refl _ _) (fun _ _ h => h) k hlt
      have HX := hide hx
      have q0 : ∀ o, (wr.alloc o).cell? ⟨w.heap.size, 0, none⟩ = some (.map (some rk)) := fun o => (h1.alloc o).cell 0
      have q1 : ∀ o, (wr.alloc o).cell? ⟨w.heap.size, 1, none⟩ = some (.map (some m)) := fun o => (h1.alloc o).cell 1
      have r0 : ∀ o, (wr.alloc o).cell? ⟨w.heap.size + 2, 0, none⟩ = some (.string b.name) := fun o => (h3.alloc o).cell 0
      have r1 : ∀ o, (wr.alloc o).cell? ⟨w.heap.size + 2, 1, none⟩ = some (.slice ab b.args.length cb) := fun o => (h3.alloc o).cell 1
      have r2 : ∀ o, (wr.alloc o).cell? ⟨w.heap.size + 2, 2, none⟩ = some (.int .i64 (numT b S)) := fun o => (h3.alloc o).cell 2
      have r3 : ∀ o, (wr.alloc o).cell? ⟨w.heap.size + 2, 3, none⟩ = some (.int .i64 (sizeL [b])) := fun o => (h3.alloc o).cell 3
      have hsx := size_arg (List.getElem_mem hlt)
      have heq := num_eq hx.1 hbS
      clear hx h1 h2 h3 hM hE hany
      cases hs : sameB a.args[k] b with
      | true =>
        rw [hs] at heq
        have HR := hide ((any_take hlt HANY.out).1 (by simp [hs]))
        clear hs
        go_wp2_with fail
        go_ret
        exact ⟨by rw [HR.out]; rfl, HM.out.kept (Below.heap_alloc _ _ _ HM.out.lt), HE.out.alloc _⟩
      | false =>
        rw [hs] at heq
        have HSM := hide hs
        clear hs
        go_wp2_with fail
        have PW : PS row S rk m wr := HP.out.ex HE.out HM.out
        refine (IH.out a.args[k] b _ _ _ X (by omega) hX (PW.alloc _) (by exact HX.out.alloc _) (by exact (HB.out.ex HE.out hX).alloc _)).mono ?_
        rintro e w5 ⟨rfl, hM5, hE5⟩
        have HM5 := hide hM5
        have HE5 := hide (HE.out.trans (((Ex.refl m wr).alloc _).trans hE5))
        have hml2 := HM.out.lt
        have K1 := hide ((HH1.out.alloc _).ex hE5 (by omega))
        have K2 := hide ((HH2.out.alloc _).ex hE5 (by omega))
        have K3 := hide ((HH3.out.alloc _).ex hE5 (by omega))
        clear hM5 hE5 PW
        cases hp : pathB row a.args[k] b with
        | true =>
          have HR := hide ((any_take hlt HANY.out).1 (by simp [hp]))
          clear hp
          go_wp2_with fail
          go_ret
          exact ⟨by rw [HR.out]; rfl, HM5.out, HE5.out⟩
        | false =>
          have HR := hide ((any_take hlt HANY.out).2 (by simp [hp, HSM.out]))
          clear hp
          go_wp2_with fail
          go_roundw
          case rel => exact ⟨k + 1, by omega, by go_num, HR.out, K1.out, K2.out, K3.out, HM5.out, HE5.out⟩
          case measure => simp [intOf]; omega
    · have htk : a.args.take k = a.args := List.take_of_length_le (by omega)
      rw [htk] at hany
      have HR := hide hany
      clear h1 h2 h3 hM hE hany htk
      go_wp2_with fail
      go_ret
      exact ⟨by rw [HR.out]; rfl, HM.out, HE.out⟩
#print axioms below_any
end Go.Proofs.YteghhdogmdpbpakGreat

/- Walks: which term is above another one by paths: all of it. -/
namespace Go.Proofs.YteghhdogmdpbpakGreat
open Go.RowKit
open Go.WideMaps
set_option linter.unusedSimpArgs false
set_option linter.unusedVariables false
set_option maxRecDepth 8000

def AlInv (row : List ByteArray) (S : List Tm) (rk m : Nat) (a : Tm) (l : List Tm) (aa : Option Addr) (ca : Nat) (w : World) (i : Value) (wr : World) : Prop :=
  ∃ k : Nat, k ≤ l.length ∧ i = .int .i64 (k : Int) ∧ ((l.take k).all fun y => pathB row a y) = true ∧ Blk wr w.heap.size #[.map (some rk), .map (some m)] 73 ∧
    Blk wr (w.heap.size + 1) #[.string a.name, .slice aa a.args.length ca, .int .i64 (numT a S), .int .i64 (sizeL [a])] 76 ∧ MapP wr m (AskQ row S) ∧ Ex m w wr
set_option maxHeartbeats 2000000 in
theorem allOf_any {row : List ByteArray} {S : List Tm} {rk m N : Nat} (IH : Hid (AboveOK row S rk m N)) (a : Tm) (l : List Tm) (va : Value) (al : Option Addr) (cl : Nat) (w : World) (X : Nat → Prop) (hN : ∀ y ∈ l, sizeL [a] + sizeL [y] ≤ N) (hX : ∀ b, X b → b ≠ m) (hP : PS row S rk m w) (ha : IV w X S va a) (hl : ISl w X S al l) :
    Calls Tryz.prog 69 #[.agg #[.map (some rk), .map (some m)], va, .slice al l.length cl] w fun e w' => e = .returned (.bool (l.all fun y => pathB row a y)) ∧ MapP w' m (AskQ row S) ∧ Ex m w w' := by
  have HA := hide ha
  obtain ⟨_, aa, ca, rfl, hsa⟩ := ha
  have HSL := hide hl
  have hll := hl.1
  have HP := hide hP
  have hml := hP.asked.lt
  have HN := hide hN
  clear hsa hl hP hN
  go_enter Tryz.func69, Tryz.ntmps69
  go_wp2_with fail
  have I0 : Hid (AlInv row S rk m a l aa ca w (.int .i64 0) ((w.alloc (.cells #[.map (some rk), .map (some m)] 73)).alloc (.cells #[.string a.name, .slice aa a.args.length ca, .int .i64 (numT a S), .int .i64 (sizeL [a])] 76))) := by
    have k1 := Blk.new w #[.map (some rk), .map (some m)] 73
    have e1 : (w.alloc (.cells #[.map (some rk), .map (some m)] 73)).heap.size = w.heap.size + 1 := by simp
    have x1 : Ex m w (w.alloc (.cells #[.map (some rk), .map (some m)] 73)) := (Ex.refl m w).alloc _
    have p1 := HP.out.alloc (.cells #[.map (some rk), .map (some m)] 73)
    generalize (w.alloc (.cells #[.map (some rk), .map (some m)] 73)) = w1 at *
    have k2 := Blk.new w1 #[.string a.name, .slice aa a.args.length ca, .int .i64 (numT a S), .int .i64 (sizeL [a])] 76
    rw [e1] at k2
    exact ⟨0, Nat.zero_le _, rfl, by simp, k1.alloc _, k2, (p1.alloc _).asked, x1.alloc _⟩
  generalize ((w.alloc (.cells #[.map (some rk), .map (some m)] 73)).alloc (.cells #[.string a.name, .slice aa a.args.length ca, .int .i64 (numT a S), .int .i64 (sizeL [a])] 76)) = w3 at *
  go_loopw [11] (fun i wr => AlInv row S rk m a l aa ca w i wr) (fun i wr => l.length - (intOf i).toNat)
  case atStart => exact I0.out
  case round =>
    clear I0
    obtain ⟨k, hk, rfl, hall, h1, h2, hM, hE⟩ := hrel
    have HH1 := hide h1
    have HH2 := hide h2
    have HM := hide hM
    have HE := hide hE
    have HALL := hide hall
    have z1 : w.heap.size + 2 ≤ wr.heap.size := by have := h2.lt; omega
    by_cases hlt : k < l.length
    · have hlti : (k : Int) < (l.length : Int) := by omega
      obtain ⟨b1, o1, a1, c1, rfl, d10, d11, d12, d13, hx⟩ := (HSL.out.ex hE hX).get (Below.refl _ _) (fun _ _ h => h) k hlt
      have HX := hide hx
      have q0 : ∀ o, (wr.alloc o).cell? ⟨w.heap.size, 0, none⟩ = some (.map (some rk)) := fun o => (h1.alloc o).cell 0
      have q1 : ∀ o, (wr.alloc o).cell? ⟨w.heap.size, 1, none⟩ = some (.map (some m)) := fun o => (h1.alloc o).cell 1
      have r0 : ∀ o, (wr.alloc o).cell? ⟨w.heap.size + 1, 0, none⟩ = some (.string a.name) := fun o => (h2.alloc o).cell 0
      have r1 : ∀ o, (wr.alloc o).cell? ⟨w.heap.size + 1, 1, none⟩ = some (.slice aa a.args.length ca) := fun o => (h2.alloc o).cell 1
      have r2 : ∀ o, (wr.alloc o).cell? ⟨w.heap.size + 1, 2, none⟩ = some (.int .i64 (numT a S)) := fun o => (h2.alloc o).cell 2
      have r3 : ∀ o, (wr.alloc o).cell? ⟨w.heap.size + 1, 3, none⟩ = some (.int .i64 (sizeL [a])) := fun o => (h2.alloc o).cell 3
      clear hx h1 h2 hM hE hall
      go_wp2_with fail
      have PW : PS row S rk m wr := HP.out.ex HE.out HM.out
      refine (IH.out a l[k] _ _ _ X (HN.out _ (List.getElem_mem hlt)) hX (PW.alloc _) (by exact (HA.out.ex HE.out hX).alloc _) (by exact HX.out.alloc _)).mono ?_
      rintro e w5 ⟨rfl, hM5, hE5⟩
      have HM5 := hide hM5
      have HE5 := hide (HE.out.trans (((Ex.refl m wr).alloc _).trans hE5))
      have hml2 := HM.out.lt
      have K1 := hide ((HH1.out.alloc _).ex hE5 (by omega))
      have K2 := hide ((HH2.out.alloc _).ex hE5 (by omega))
      clear hM5 hE5 PW q0 q1 r0 r1 r2 r3
      cases hp : pathB row a l[k] with
      | false =>
        have HR := hide ((all_take hlt HALL.out).1 hp)
        clear hp
        go_wp2_with fail
        go_ret
        exact ⟨by rw [HR.out]; rfl, HM5.out, HE5.out⟩
      | true =>
        have HR := hide ((all_take hlt HALL.out).2 hp)
        clear hp
        go_wp2_with fail
        go_roundw
        case rel => exact ⟨k + 1, by omega, by go_num, HR.out, K1.out, K2.out, HM5.out, HE5.out⟩
        case measure => simp [intOf]; omega
    · have htk : l.take k = l := List.take_of_length_le (by omega)
      rw [htk] at hall
      have HR := hide hall
      clear h1 h2 hM hE hall htk
      go_wp2_with fail
      go_ret
      exact ⟨by rw [HR.out]; rfl, HM.out, HE.out⟩

/-- The three boxes, and the maps. -/
structure AskW (row : List ByteArray) (S : List Tm) (rk m : Nat) (a b : Tm) (aa : Option Addr) (ca : Nat) (ab : Option Addr) (cb : Nat) (w wr : World) : Prop where
  k1 : Blk wr w.heap.size #[.map (some rk), .map (some m)] 73
  k2 : Blk wr (w.heap.size + 1) #[.string a.name, .slice aa a.args.length ca, .int .i64 (numT a S), .int .i64 (sizeL [a])] 76
  k3 : Blk wr (w.heap.size + 2) #[.string b.name, .slice ab b.args.length cb, .int .i64 (numT b S), .int .i64 (sizeL [b])] 76
  mp : MapP wr m (AskQ row S)
  ex : Ex m w wr
theorem AskW.later {row : List ByteArray} {S : List Tm} {rk m : Nat} {a b : Tm} {aa ab : Option Addr} {ca cb : Nat} {w w1 w2 : World} (h : AskW row S rk m a b aa ca ab cb w w1) (hb : Below w1.heap.size w1 w2) : AskW row S rk m a b aa ca ab cb w w2 :=
  ⟨h.k1.below hb h.k1.lt, h.k2.below hb h.k2.lt, h.k3.below hb h.k3.lt, h.mp.below hb h.mp.lt, h.ex.trans (Ex.ofBel hb)⟩
theorem AskW.step {row : List ByteArray} {S : List Tm} {rk m : Nat} {a b : Tm} {aa ab : Option Addr} {ca cb : Nat} {w w1 w2 : World} (h : AskW row S rk m a b aa ca ab cb w w1) (hm : m < w.heap.size) (hM : MapP w2 m (AskQ row S)) (hE : Ex m w1 w2) : AskW row S rk m a b aa ca ab cb w w2 :=
  ⟨h.k1.ex hE (by omega), h.k2.ex hE (by omega), h.k3.ex hE (by omega), hM, h.ex.trans hE⟩
theorem AskW.start {row : List ByteArray} {S : List Tm} {rk m : Nat} {w : World} (a b : Tm) (aa : Option Addr) (ca : Nat) (ab : Option Addr) (cb : Nat) (hP : PS row S rk m w) : AskW row S rk m a b aa ca ab cb w (((w.alloc (.cells #[.map (some rk), .map (some m)] 73)).alloc (.cells #[.string a.name, .slice aa a.args.length ca, .int .i64 (numT a S), .int .i64 (sizeL [a])] 76)).alloc (.cells #[.string b.name, .slice ab b.args.length cb, .int .i64 (numT b S), .int .i64 (sizeL [b])] 76)) := by
  have k1 := Blk.new w #[.map (some rk), .map (some m)] 73
  have e1 : (w.alloc (.cells #[.map (some rk), .map (some m)] 73)).heap.size = w.heap.size + 1 := by simp
  have x1 : Ex m w (w.alloc (.cells #[.map (some rk), .map (some m)] 73)) := (Ex.refl m w).alloc _
  have p1 := hP.alloc (.cells #[.map (some rk), .map (some m)] 73)
  generalize (w.alloc (.cells #[.map (some rk), .map (some m)] 73)) = w1 at *
  have k2 := Blk.new w1 #[.string a.name, .slice aa a.args.length ca, .int .i64 (numT a S), .int .i64 (sizeL [a])] 76
  have e2 : (w1.alloc (.cells #[.string a.name, .slice aa a.args.length ca, .int .i64 (numT a S), .int .i64 (sizeL [a])] 76)).heap.size = w.heap.size + 2 := by simp [e1]
  have x2 : Ex m w (w1.alloc (.cells #[.string a.name, .slice aa a.args.length ca, .int .i64 (numT a S), .int .i64 (sizeL [a])] 76)) := x1.alloc _
  have p2 := p1.alloc (.cells #[.string a.name, .slice aa a.args.length ca, .int .i64 (numT a S), .int .i64 (sizeL [a])] 76)
  have k1' := k1.alloc (.cells #[.string a.name, .slice aa a.args.length ca, .int .i64 (numT a S), .int .i64 (sizeL [a])] 76)
  generalize w1.alloc (.cells #[.string a.name, .slice aa a.args.length ca, .int .i64 (numT a S), .int .i64 (sizeL [a])] 76) = w2 at *
  have k3 := Blk.new w2 #[.string b.name, .slice ab b.args.length cb, .int .i64 (numT b S), .int .i64 (sizeL [b])] 76
  rw [e1] at k2
  rw [e2] at k3
  exact ⟨k1'.alloc _, k2.alloc _, k3, (p2.alloc _).asked, x2.alloc _⟩

set_option maxHeartbeats 4000000 in
theorem ask_any {row : List ByteArray} {S : List Tm} {rk m N : Nat} (IH : Hid (AboveOK row S rk m N)) (a b : Tm) (va vb : Value) (w : World) (X : Nat → Prop) (hN : sizeL [a] + sizeL [b] ≤ N + 1) (hX : ∀ b, X b → b ≠ m) (hP : PS row S rk m w) (ha : IV w X S va a) (hb : IV w X S vb b) :
    Calls Tryz.prog 49 #[.agg #[.map (some rk), .map (some m)], va, vb] w fun e w' => e = .returned (.bool (pathB row a b)) ∧ MapP w' m (AskQ row S) ∧ Ex m w w' := by
  have HA := hide ha
  have HB := hide hb
  obtain ⟨_, aa, ca, rfl, hsa⟩ := ha
  obtain ⟨_, ab, cb, rfl, hsb⟩ := hb
  have HSB := hide hsb
  have HP := hide hP
  have hml := hP.asked.lt
  have HPB := hide (pathB_eq row a b)
  clear hsa hsb hP
  have A3 := hide (AskW.start a b aa ca ab cb HP.out)
  go_enter Tryz.func49, Tryz.ntmps49
  go_wp2_with fail
  generalize (((w.alloc (.cells #[.map (some rk), .map (some m)] 73)).alloc (.cells #[.string a.name, .slice aa a.args.length ca, .int .i64 (numT a S), .int .i64 (sizeL [a])] 76)).alloc (.cells #[.string b.name, .slice ab b.args.length cb, .int .i64 (numT b S), .int .i64 (sizeL [b])] 76)) = w3 at *
  refine (itemVar_any S a _ _ X (by exact HA.out.ex A3.out.ex hX)).mono ?_
  rintro e w4 ⟨rfl, hb4⟩
  have A4 := hide (A3.out.later hb4)
  clear hb4 A3
  have q0 : w4.cell? ⟨w.heap.size, 0, none⟩ = some (.map (some rk)) := A4.out.k1.cell 0
  have q1 : w4.cell? ⟨w.heap.size, 1, none⟩ = some (.map (some m)) := A4.out.k1.cell 1
  have r0 : w4.cell? ⟨w.heap.size + 1, 0, none⟩ = some (.string a.name) := A4.out.k2.cell 0
  have r1 : w4.cell? ⟨w.heap.size + 1, 1, none⟩ = some (.slice aa a.args.length ca) := A4.out.k2.cell 1
  have r2 : w4.cell? ⟨w.heap.size + 1, 2, none⟩ = some (.int .i64 (numT a S)) := A4.out.k2.cell 2
  have r3 : w4.cell? ⟨w.heap.size + 1, 3, none⟩ = some (.int .i64 (sizeL [a])) := A4.out.k2.cell 3
  have s0 : w4.cell? ⟨w.heap.size + 2, 0, none⟩ = some (.string b.name) := A4.out.k3.cell 0
  have s1 : w4.cell? ⟨w.heap.size + 2, 1, none⟩ = some (.slice ab b.args.length cb) := A4.out.k3.cell 1
  have s2 : w4.cell? ⟨w.heap.size + 2, 2, none⟩ = some (.int .i64 (numT b S)) := A4.out.k3.cell 2
  have s3 : w4.cell? ⟨w.heap.size + 2, 3, none⟩ = some (.int .i64 (sizeL [b])) := A4.out.k3.cell 3
  cases hva : varB a.name with
  | true =>
    have HR : Hid (pathB row a b = false) := by unfold Hid; rw [HPB.out, if_pos hva]
    clear hva
    go_wp2_with fail
    go_ret
    exact ⟨by rw [HR.out]; rfl, A4.out.mp, A4.out.ex⟩
  | false =>
    have HVA := hide hva
    clear hva
    go_wp2_with fail
    refine (below_any IH a b _ _ _ X hN hX (HP.out.ex A4.out.ex A4.out.mp) (by exact HA.out.ex A4.out.ex hX) (by exact HB.out.ex A4.out.ex hX)).mono ?_
    rintro e w5 ⟨rfl, hM5, hE5⟩
    have A5 := hide (A4.out.step hml hM5 hE5)
    clear hM5 hE5 A4
    clear q0 q1 r0 r1 r2 r3 s0 s1 s2 s3
    have q0 : w5.cell? ⟨w.heap.size, 0, none⟩ = some (.map (some rk)) := A5.out.k1.cell 0
    have q1 : w5.cell? ⟨w.heap.size, 1, none⟩ = some (.map (some m)) := A5.out.k1.cell 1
    have r0 : w5.cell? ⟨w.heap.size + 1, 0, none⟩ = some (.string a.name) := A5.out.k2.cell 0
    have r1 : w5.cell? ⟨w.heap.size + 1, 1, none⟩ = some (.slice aa a.args.length ca) := A5.out.k2.cell 1
    have r2 : w5.cell? ⟨w.heap.size + 1, 2, none⟩ = some (.int .i64 (numT a S)) := A5.out.k2.cell 2
    have r3 : w5.cell? ⟨w.heap.size + 1, 3, none⟩ = some (.int .i64 (sizeL [a])) := A5.out.k2.cell 3
    have s0 : w5.cell? ⟨w.heap.size + 2, 0, none⟩ = some (.string b.name) := A5.out.k3.cell 0
    have s1 : w5.cell? ⟨w.heap.size + 2, 1, none⟩ = some (.slice ab b.args.length cb) := A5.out.k3.cell 1
    have s2 : w5.cell? ⟨w.heap.size + 2, 2, none⟩ = some (.int .i64 (numT b S)) := A5.out.k3.cell 2
    have s3 : w5.cell? ⟨w.heap.size + 2, 3, none⟩ = some (.int .i64 (sizeL [b])) := A5.out.k3.cell 3
    cases hany : a.args.any fun x => sameB x b || pathB row x b with
    | true =>
      have HR : Hid (pathB row a b = true) := by unfold Hid; rw [HPB.out, if_neg (by rw [HVA.out]; simp), if_pos hany]
      clear hany
      go_wp2_with fail
      go_ret
      exact ⟨by rw [HR.out]; rfl, A5.out.mp, A5.out.ex⟩
    | false =>
      have HAN := hide hany
      clear hany
      go_wp2_with fail
      refine (itemVar_any S b _ _ X (by exact HB.out.ex A5.out.ex hX)).mono ?_
      rintro e w6 ⟨rfl, hb6⟩
      have A6 := hide (A5.out.later hb6)
      clear hb6 A5
      clear q0 q1 r0 r1 r2 r3 s0 s1 s2 s3
      have q0 : w6.cell? ⟨w.heap.size, 0, none⟩ = some (.map (some rk)) := A6.out.k1.cell 0
      have q1 : w6.cell? ⟨w.heap.size, 1, none⟩ = some (.map (some m)) := A6.out.k1.cell 1
      have r0 : w6.cell? ⟨w.heap.size + 1, 0, none⟩ = some (.string a.name) := A6.out.k2.cell 0
      have r1 : w6.cell? ⟨w.heap.size + 1, 1, none⟩ = some (.slice aa a.args.length ca) := A6.out.k2.cell 1
      have r2 : w6.cell? ⟨w.heap.size + 1, 2, none⟩ = some (.int .i64 (numT a S)) := A6.out.k2.cell 2
      have r3 : w6.cell? ⟨w.heap.size + 1, 3, none⟩ = some (.int .i64 (sizeL [a])) := A6.out.k2.cell 3
      have s0 : w6.cell? ⟨w.heap.size + 2, 0, none⟩ = some (.string b.name) := A6.out.k3.cell 0
      have s1 : w6.cell? ⟨w.heap.size + 2, 1, none⟩ = some (.slice ab b.args.length cb) := A6.out.k3.cell 1
      have s2 : w6.cell? ⟨w.heap.size + 2, 2, none⟩ = some (.int .i64 (numT b S)) := A6.out.k3.cell 2
      have s3 : w6.cell? ⟨w.heap.size + 2, 3, none⟩ = some (.int .i64 (sizeL [b])) := A6.out.k3.cell 3
      cases hvb : varB b.name with
      | true =>
        have HR : Hid (pathB row a b = false) := by unfold Hid; rw [HPB.out, if_neg (by rw [HVA.out]; simp), if_neg (by rw [HAN.out]; simp), if_pos hvb]
        clear hvb
        go_wp2_with fail
        go_ret
        exact ⟨by rw [HR.out]; rfl, A6.out.mp, A6.out.ex⟩
      | false =>
        have HVB := hide hvb
        clear hvb
        go_wp2_with fail
        refine (compareR_any row S a b rk _ _ _ X (HP.out.ex A6.out.ex A6.out.mp).ranks (by exact HA.out.ex A6.out.ex hX) (by exact HB.out.ex A6.out.ex hX)).mono ?_
        rintro e w7 ⟨rfl, hb7⟩
        have A7 := hide (A6.out.later hb7)
        clear hb7 A6
        clear q0 q1 r0 r1 r2 r3 s0 s1 s2 s3
        have q0 : w7.cell? ⟨w.heap.size, 0, none⟩ = some (.map (some rk)) := A7.out.k1.cell 0
        have q1 : w7.cell? ⟨w.heap.size, 1, none⟩ = some (.map (some m)) := A7.out.k1.cell 1
        have r0 : w7.cell? ⟨w.heap.size + 1, 0, none⟩ = some (.string a.name) := A7.out.k2.cell 0
        have r1 : w7.cell? ⟨w.heap.size + 1, 1, none⟩ = some (.slice aa a.args.length ca) := A7.out.k2.cell 1
        have r2 : w7.cell? ⟨w.heap.size + 1, 2, none⟩ = some (.int .i64 (numT a S)) := A7.out.k2.cell 2
        have r3 : w7.cell? ⟨w.heap.size + 1, 3, none⟩ = some (.int .i64 (sizeL [a])) := A7.out.k2.cell 3
        have s0 : w7.cell? ⟨w.heap.size + 2, 0, none⟩ = some (.string b.name) := A7.out.k3.cell 0
        have s1 : w7.cell? ⟨w.heap.size + 2, 1, none⟩ = some (.slice ab b.args.length cb) := A7.out.k3.cell 1
        have s2 : w7.cell? ⟨w.heap.size + 2, 2, none⟩ = some (.int .i64 (numT b S)) := A7.out.k3.cell 2
        have s3 : w7.cell? ⟨w.heap.size + 2, 3, none⟩ = some (.int .i64 (sizeL [b])) := A7.out.k3.cell 3
        have HEAD : Hid (pathB row a b = if gtS row b a = true then false else if (b.args.all fun y => pathB row a y) = false then false else if gtS row a b = true then true else match unl a.args b.args with | none => false | some (x, y) => pathB row x y) := by
          unfold Hid
          rw [HPB.out, if_neg (by rw [HVA.out]; simp), if_neg (by rw [HAN.out]; simp), if_neg (by rw [HVB.out]; simp)]
          cases unl a.args b.args with
          | none => rfl
          | some p => rfl
        clear HPB HVA HAN HVB
        have callAll : ∀ al cl, ISl w7 X S al b.args → Calls Tryz.prog 69 #[.agg #[.map (some rk), .map (some m)], .agg #[.string a.name, .slice aa a.args.length ca, .int .i64 (numT a S), .int .i64 (sizeL [a])], .slice al b.args.length cl] w7 fun e w' => e = .returned (.bool (b.args.all fun y => pathB row a y)) ∧ MapP w' m (AskQ row S) ∧ Ex m w7 w' := fun al cl hl =>
          allOf_any IH a b.args _ al cl w7 X (fun y hy => by have := size_arg hy; omega) hX (HP.out.ex A7.out.ex A7.out.mp) (by exact HA.out.ex A7.out.ex hX) hl
        have HCA := hide callAll
        clear callAll
        rcases cmpS_cases row a b with ⟨g1, hc⟩ | ⟨g1, hc⟩ | ⟨g1, g2, hc⟩
        · have g2 := gtS_asymm g1
          rw [hc]
          go_wp2_with fail
          refine (HCA.out _ _ (by exact HSB.out.ex A7.out.ex hX)).mono ?_
          rintro e w8 ⟨rfl, hM8, hE8⟩
          have A8 := hide (A7.out.step hml hM8 hE8)
          clear hM8 hE8 A7 HCA
          clear q0 q1 r0 r1 r2 r3 s0 s1 s2 s3
          cases hall : b.args.all fun y => pathB row a y with
          | false =>
            have HR : Hid (pathB row a b = false) := by unfold Hid; rw [HEAD.out, if_neg (by rw [g2]; simp), if_pos hall]
            clear hall
            go_wp2_with fail
            go_ret
            exact ⟨by rw [HR.out]; rfl, A8.out.mp, A8.out.ex⟩
          | true =>
            have HR : Hid (pathB row a b = true) := by unfold Hid; rw [HEAD.out, if_neg (by rw [g2]; simp), if_neg (by rw [hall]; simp), if_pos g1]
            clear hall
            go_wp2_with fail
            go_ret
            exact ⟨by rw [HR.out]; rfl, A8.out.mp, A8.out.ex⟩
        · have HR : Hid (pathB row a b = false) := by unfold Hid; rw [HEAD.out, if_pos g1]
          rw [hc]
          go_wp2_with fail
          go_ret
          exact ⟨by rw [HR.out]; rfl, A7.out.mp, A7.out.ex⟩
        · rw [hc]
          go_wp2_with fail
          refine (HCA.out _ _ (by exact HSB.out.ex A7.out.ex hX)).mono ?_
          rintro e w8 ⟨rfl, hM8, hE8⟩
          have A8 := hide (A7.out.step hml hM8 hE8)
          clear hM8 hE8 A7 HCA
          clear q0 q1 r0 r1 r2 r3 s0 s1 s2 s3
          have q0 : w8.cell? ⟨w.heap.size, 0, none⟩ = some (.map (some rk)) := A8.out.k1.cell 0
          have q1 : w8.cell? ⟨w.heap.size, 1, none⟩ = some (.map (some m)) := A8.out.k1.cell 1
          have r0 : w8.cell? ⟨w.heap.size + 1, 0, none⟩ = some (.string a.name) := A8.out.k2.cell 0
          have r1 : w8.cell? ⟨w.heap.size + 1, 1, none⟩ = some (.slice aa a.args.length ca) := A8.out.k2.cell 1
          have r2 : w8.cell? ⟨w.heap.size + 1, 2, none⟩ = some (.int .i64 (numT a S)) := A8.out.k2.cell 2
          have r3 : w8.cell? ⟨w.heap.size + 1, 3, none⟩ = some (.int .i64 (sizeL [a])) := A8.out.k2.cell 3
          have s0 : w8.cell? ⟨w.heap.size + 2, 0, none⟩ = some (.string b.name) := A8.out.k3.cell 0
          have s1 : w8.cell? ⟨w.heap.size + 2, 1, none⟩ = some (.slice ab b.args.length cb) := A8.out.k3.cell 1
          have s2 : w8.cell? ⟨w.heap.size + 2, 2, none⟩ = some (.int .i64 (numT b S)) := A8.out.k3.cell 2
          have s3 : w8.cell? ⟨w.heap.size + 2, 3, none⟩ = some (.int .i64 (sizeL [b])) := A8.out.k3.cell 3
          cases hall : b.args.all fun y => pathB row a y with
          | false =>
            have HR : Hid (pathB row a b = false) := by unfold Hid; rw [HEAD.out, if_neg (by rw [g2]; simp), if_pos hall]
            clear hall
            go_wp2_with fail
            go_ret
            exact ⟨by rw [HR.out]; rfl, A8.out.mp, A8.out.ex⟩
          | true =>
            have HLAST : Hid (pathB row a b = match unl a.args b.args with | none => false | some (x, y) => pathB row x y) := by unfold Hid; rw [HEAD.out, if_neg (by rw [g2]; simp), if_neg (by rw [hall]; simp), if_neg (by rw [g1]; simp)]
            have HLEN := hide (gtS_same g1 g2).2
            clear hall g1 g2 hc HEAD
            go_wp2_with fail
            refine (firstUnlike_any S a b HLEN.out _ _ _ X (by exact HA.out.ex A8.out.ex hX) (by exact HB.out.ex A8.out.ex hX)).mono ?_
            rintro e w9 ⟨hb9, hcase⟩
            have A9 := hide (A8.out.later hb9)
            clear hb9 A8
            clear q0 q1 r0 r1 r2 r3 s0 s1 s2 s3
            rcases hcase with ⟨x, y, vx, vy, hu, rfl, hvx, hvy⟩ | ⟨hu, rfl⟩
            · have HVX := hide hvx
              have HVY := hide hvy
              obtain ⟨_, ax, cx, rfl, _⟩ := hvx
              obtain ⟨_, ay, cy, rfl, _⟩ := hvy
              obtain ⟨mx, my⟩ := unl_mem hu
              have sx := size_arg mx
              have sy := size_arg my
              have HU := hide hu
              have q0 : ∀ o o', ((w9.alloc o).alloc o').cell? ⟨w.heap.size, 0, none⟩ = some (.map (some rk)) := fun o o' => ((A9.out.k1.alloc o).alloc o').cell 0
              have q1 : ∀ o o', ((w9.alloc o).alloc o').cell? ⟨w.heap.size, 1, none⟩ = some (.map (some m)) := fun o o' => ((A9.out.k1.alloc o).alloc o').cell 1
              clear hu mx my
              go_wp2_with fail
              have P9 : PS row S rk m w9 := HP.out.ex A9.out.ex A9.out.mp
              refine (IH.out x y _ _ _ X (by omega) hX ((P9.alloc _).alloc _) (by exact (HVX.out.alloc _).alloc _) (by exact (HVY.out.alloc _).alloc _)).mono ?_
              rintro e wA ⟨rfl, hMA, hEA⟩
              have HMA := hide hMA
              have HEA := hide (A9.out.ex.trans ((((Ex.refl m w9).alloc _).alloc _).trans hEA))
              have HR : Hid (pathB row a b = pathB row x y) := by unfold Hid; rw [HLAST.out, HU.out]
              clear hMA hEA P9 q0 q1
              go_wp2_with fail
              go_ret
              exact ⟨by rw [HR.out]; rfl, HMA.out, HEA.out⟩
            · have HR : Hid (pathB row a b = false) := by unfold Hid; rw [HLAST.out, hu]
              go_wp2_with fail
              go_ret
              exact ⟨by rw [HR.out]; rfl, (A9.out.mp.kept (Below.heap_alloc _ _ _ A9.out.mp.lt)).kept (Below.heap_alloc _ _ _ (by have := A9.out.mp.lt; simp; omega)), (A9.out.ex.alloc _).alloc _⟩
#print axioms ask_any

set_option maxHeartbeats 4000000 in
theorem above_step {row : List ByteArray} {S : List Tm} {rk m N : Nat} (hS : S.length < 9000000000000000000) (IH : Hid (AboveOK row S rk m N)) (a b : Tm) (va vb : Value) (w : World) (X : Nat → Prop) (hN : sizeL [a] + sizeL [b] ≤ N + 1) (hX : ∀ b, X b → b ≠ m) (hP : PS row S rk m w) (ha : IV w X S va a) (hb : IV w X S vb b) :
    Calls Tryz.prog 35 #[.agg #[.map (some rk), .map (some m)], va, vb] w fun e w' => e = .returned (.bool (pathB row a b)) ∧ MapP w' m (AskQ row S) ∧ Ex m w w' := by
  have HA := hide ha
  have HB := hide hb
  have haS := ha.1
  have hbS := hb.1
  obtain ⟨_, aa, ca, rfl, hsa⟩ := ha
  obtain ⟨_, ab, cb, rfl, hsb⟩ := hb
  have HP := hide hP
  have hml := hP.asked.lt
  have hok : PrOk (numT a S, numT b S) := ⟨by have := numT_le a S; show numT a S < _; omega, by have := numT_le b S; show numT b S < _; omega⟩
  have HOK := hide hok
  have A3 := hide (AskW.start a b aa ca ab cb HP.out)
  have hz : ∀ w', (zeroValue 108).run Tryz.prog w' = .ok (.agg #[.bool false]) w' := fun w' => Tryz.zeroValue108 w'
  have M4 : MapP ((((w.alloc (.cells #[.map (some rk), .map (some m)] 73)).alloc (.cells #[.string a.name, .slice aa a.args.length ca, .int .i64 (numT a S), .int .i64 (sizeL [a])] 76)).alloc (.cells #[.string b.name, .slice ab b.args.length cb, .int .i64 (numT b S), .int .i64 (sizeL [b])] 76)).alloc (.cells #[.int .i64 (numT a S), .int .i64 (numT b S)] 106)) m (AskQ row S) := A3.out.mp.kept (Below.heap_alloc _ _ _ A3.out.mp.lt)
  have hlk := run_lookP (P := Tryz.prog) pairKey Tryz.underlying3 typesPos Tryz.underlying71 (hz _) M4 hok
  clear hsa hsb hP M4 hz hok
  rcases hlk with ⟨v, hQ, hrun⟩ | hrun
  · have HV := hide (hQ.val haS hbS)
    have hrun' : (Instr.lookup 71 (.map (some m)) (.agg #[.int .i64 (numT a S), .int .i64 (numT b S)]) true).run Tryz.prog ((((w.alloc (.cells #[.map (some rk), .map (some m)] 73)).alloc (.cells #[.string a.name, .slice aa a.args.length ca, .int .i64 (numT a S), .int .i64 (sizeL [a])] 76)).alloc (.cells #[.string b.name, .slice ab b.args.length cb, .int .i64 (numT b S), .int .i64 (sizeL [b])] 76)).alloc (.cells #[.int .i64 (numT a S), .int .i64 (numT b S)] 106)) = .ok (.tuple #[.agg #[.bool v], .bool true]) ((((w.alloc (.cells #[.map (some rk), .map (some m)] 73)).alloc (.cells #[.string a.name, .slice aa a.args.length ca, .int .i64 (numT a S), .int .i64 (sizeL [a])] 76)).alloc (.cells #[.string b.name, .slice ab b.args.length cb, .int .i64 (numT b S), .int .i64 (sizeL [b])] 76)).alloc (.cells #[.int .i64 (numT a S), .int .i64 (numT b S)] 106)) := hrun
    clear hrun hQ
    go_enter Tryz.func35, Tryz.ntmps35
    go_wp2_with fail
    go_ret
    refine ⟨by rw [← HV.out]; rfl, ?_, ((A3.out.ex.alloc _).alloc _)⟩
    exact (A3.out.mp.kept (Below.heap_alloc _ _ _ A3.out.mp.lt)).kept (Below.heap_alloc _ _ _ (by have := A3.out.mp.lt; simp at this ⊢; omega))
  · have hrun' : (Instr.lookup 71 (.map (some m)) (.agg #[.int .i64 (numT a S), .int .i64 (numT b S)]) true).run Tryz.prog ((((w.alloc (.cells #[.map (some rk), .map (some m)] 73)).alloc (.cells #[.string a.name, .slice aa a.args.length ca, .int .i64 (numT a S), .int .i64 (sizeL [a])] 76)).alloc (.cells #[.string b.name, .slice ab b.args.length cb, .int .i64 (numT b S), .int .i64 (sizeL [b])] 76)).alloc (.cells #[.int .i64 (numT a S), .int .i64 (numT b S)] 106)) = .ok (.tuple #[.agg #[.bool false], .bool false]) ((((w.alloc (.cells #[.map (some rk), .map (some m)] 73)).alloc (.cells #[.string a.name, .slice aa a.args.length ca, .int .i64 (numT a S), .int .i64 (sizeL [a])] 76)).alloc (.cells #[.string b.name, .slice ab b.args.length cb, .int .i64 (numT b S), .int .i64 (sizeL [b])] 76)).alloc (.cells #[.int .i64 (numT a S), .int .i64 (numT b S)] 106)) := hrun
    clear hrun
    go_enter Tryz.func35, Tryz.ntmps35
    go_wp2_with fail
    have A5 : Hid (AskW row S rk m a b aa ca ab cb w (((((w.alloc (.cells #[.map (some rk), .map (some m)] 73)).alloc (.cells #[.string a.name, .slice aa a.args.length ca, .int .i64 (numT a S), .int .i64 (sizeL [a])] 76)).alloc (.cells #[.string b.name, .slice ab b.args.length cb, .int .i64 (numT b S), .int .i64 (sizeL [b])] 76)).alloc (.cells #[.int .i64 (numT a S), .int .i64 (numT b S)] 106)).alloc (.cells #[.bool false] 108))) := (A3.out.later ((Below.refl _ _).alloc (Nat.le_refl _) _)).later ((Below.refl _ _).alloc (Nat.le_refl _) _)
    have e3 : (((w.alloc (.cells #[.map (some rk), .map (some m)] 73)).alloc (.cells #[.string a.name, .slice aa a.args.length ca, .int .i64 (numT a S), .int .i64 (sizeL [a])] 76)).alloc (.cells #[.string b.name, .slice ab b.args.length cb, .int .i64 (numT b S), .int .i64 (sizeL [b])] 76)).heap.size = w.heap.size + 3 := by simp
    have KB : Hid (Blk (((((w.alloc (.cells #[.map (some rk), .map (some m)] 73)).alloc (.cells #[.string a.name, .slice aa a.args.length ca, .int .i64 (numT a S), .int .i64 (sizeL [a])] 76)).alloc (.cells #[.string b.name, .slice ab b.args.length cb, .int .i64 (numT b S), .int .i64 (sizeL [b])] 76)).alloc (.cells #[.int .i64 (numT a S), .int .i64 (numT b S)] 106)).alloc (.cells #[.bool false] 108)) (w.heap.size + 3) #[.int .i64 (numT a S), .int .i64 (numT b S)] 106) := by
      have h := (Blk.new (((w.alloc (.cells #[.map (some rk), .map (some m)] 73)).alloc (.cells #[.string a.name, .slice aa a.args.length ca, .int .i64 (numT a S), .int .i64 (sizeL [a])] 76)).alloc (.cells #[.string b.name, .slice ab b.args.length cb, .int .i64 (numT b S), .int .i64 (sizeL [b])] 76)) #[.int .i64 (numT a S), .int .i64 (numT b S)] 106).alloc (.cells #[.bool false] 108)
      rw [e3] at h
      exact h
    have KK : Hid (Blk (((((w.alloc (.cells #[.map (some rk), .map (some m)] 73)).alloc (.cells #[.string a.name, .slice aa a.args.length ca, .int .i64 (numT a S), .int .i64 (sizeL [a])] 76)).alloc (.cells #[.string b.name, .slice ab b.args.length cb, .int .i64 (numT b S), .int .i64 (sizeL [b])] 76)).alloc (.cells #[.int .i64 (numT a S), .int .i64 (numT b S)] 106)).alloc (.cells #[.bool false] 108)) (w.heap.size + 4) #[.bool false] 108) := by
      have h := Blk.new ((((w.alloc (.cells #[.map (some rk), .map (some m)] 73)).alloc (.cells #[.string a.name, .slice aa a.args.length ca, .int .i64 (numT a S), .int .i64 (sizeL [a])] 76)).alloc (.cells #[.string b.name, .slice ab b.args.length cb, .int .i64 (numT b S), .int .i64 (sizeL [b])] 76)).alloc (.cells #[.int .i64 (numT a S), .int .i64 (numT b S)] 106)) #[.bool false] 108
      have e4 : ((((w.alloc (.cells #[.map (some rk), .map (some m)] 73)).alloc (.cells #[.string a.name, .slice aa a.args.length ca, .int .i64 (numT a S), .int .i64 (sizeL [a])] 76)).alloc (.cells #[.string b.name, .slice ab b.args.length cb, .int .i64 (numT b S), .int .i64 (sizeL [b])] 76)).alloc (.cells #[.int .i64 (numT a S), .int .i64 (numT b S)] 106)).heap.size = w.heap.size + 4 := by simp
      rw [e4] at h
      exact h
    clear e3 hrun'
    generalize ((((w.alloc (.cells #[.map (some rk), .map (some m)] 73)).alloc (.cells #[.string a.name, .slice aa a.args.length ca, .int .i64 (numT a S), .int .i64 (sizeL [a])] 76)).alloc (.cells #[.string b.name, .slice ab b.args.length cb, .int .i64 (numT b S), .int .i64 (sizeL [b])] 76)).alloc (.cells #[.int .i64 (numT a S), .int .i64 (numT b S)] 106)).alloc (.cells #[.bool false] 108) = w5 at *
    refine (ask_any IH a b _ _ _ X hN hX (HP.out.ex A5.out.ex A5.out.mp) (by exact HA.out.ex A5.out.ex hX) (by exact HB.out.ex A5.out.ex hX)).mono ?_
    rintro e w6 ⟨rfl, hM6, hE6⟩
    have A6 := hide (A5.out.step hml hM6 hE6)
    have KB6 := hide (KB.out.ex hE6 (by omega))
    have KK6 := hide (KK.out.ex hE6 (by omega))
    have M7 : MapP (w6.setCell ⟨w.heap.size + 4, 0, none⟩ (.bool (pathB row a b))) m (AskQ row S) := hM6.kept (Below.heap_setCell _ _ _ _ (by simp; omega))
    obtain ⟨w7, hput, hM7, hz7, ho7, ht7, hu7, hk7⟩ := run_putP (P := Tryz.prog) pairKey Tryz.underlying3 typesPos Tryz.underlying71 M7 HOK.out (v := pathB row a b) ⟨a, b, haS, hbS, rfl, rfl⟩
    have hput' : (Instr.mapUpdate 71 (.map (some m)) (.agg #[.int .i64 (numT a S), .int .i64 (numT b S)]) (.agg #[.bool (pathB row a b)])).run Tryz.prog (w6.setCell ⟨w.heap.size + 4, 0, none⟩ (.bool (pathB row a b))) = .ok () w7 := hput
    have E7 : Hid (Ex m w w7) := by
      have h1 := A6.out.ex.setNew (b := w.heap.size + 4) (by omega) 0 (.bool (pathB row a b))
      exact ⟨ho7.trans h1.os, ht7.trans h1.tape, hu7.trans h1.output, by rw [hz7]; exact h1.size, fun k hk hn => (hk7 k hn).trans (h1.block k hk hn)⟩
    have HM7 := hide hM7
    have kk7 : w7.cell? ⟨w.heap.size + 4, 0, none⟩ = some (.bool (pathB row a b)) := by
      have h1 := KK6.out.set 0 (.bool (pathB row a b))
      have h2 : Blk w7 (w.heap.size + 4) _ 108 := (hk7 (w.heap.size + 4) (by omega)).trans h1
      exact h2.cell 0
    have kf := KK6.out.frozen 0
    have k60 : w6.cell? ⟨w.heap.size + 4, 0, none⟩ = some (.bool false) := KK6.out.cell 0
    have z0 : ∀ v, (w6.setCell ⟨w.heap.size + 4, 0, none⟩ v).cell? ⟨w.heap.size, 1, none⟩ = some (.map (some m)) := fun v => (A6.out.k1.setOther 0 v (by omega)).cell 1
    have z1 : ∀ v, (w6.setCell ⟨w.heap.size + 4, 0, none⟩ v).cell? ⟨w.heap.size + 3, 0, none⟩ = some (.int .i64 (numT a S)) := fun v => (KB6.out.setOther 0 v (by omega)).cell 0
    have z2 : ∀ v, (w6.setCell ⟨w.heap.size + 4, 0, none⟩ v).cell? ⟨w.heap.size + 3, 1, none⟩ = some (.int .i64 (numT b S)) := fun v => (KB6.out.setOther 0 v (by omega)).cell 1
    clear hM6 hE6 M7 hput hM7 hz7 ho7 ht7 hu7 hk7
    generalize hzz : pathB row a b = z at *
    have HZZ := hide hzz
    clear hzz
    go_wp2_with fail
    go_ret
    exact ⟨by rw [HZZ.out]; rfl, HM7.out, E7.out⟩

/-- The answers that were given are the ones that are kept. -/
theorem above_any (row : List ByteArray) (S : List Tm) (rk m : Nat) (hS : S.length < 9000000000000000000) : ∀ N, AboveOK row S rk m N
  | 0 => fun a b va vb w X hN _ _ _ _ => by have := size_pos a; omega
  | N + 1 => by
    have IH := hide (above_any row S rk m hS N)
    intro a b va vb w X hN hX hP ha hb
    exact above_step hS IH a b va vb w X hN hX hP ha hb
#print axioms above_any
end Go.Proofs.YteghhdogmdpbpakGreat

/- Maps by texts: a loop over one, and what is struck in it. -/
namespace Go.Proofs.YteghhdogmdpbpakGreat
open Go.RowKit
open Go.ChangeMaps (setBlock)
set_option linter.unusedSimpArgs false
set_option linter.unusedVariables false

/-- A loop over the map at b, its iterator at r: the map's entries, and those that are still to come. -/
def RangeAt (w : World) (b r : Nat) (L rem : List (ByteArray × Value)) : Prop :=
  ∃ es clk since seen c0, w.heap[b]? = some (.map es clk) ∧ es.toList.map (fun e => (e.key, e.val)) = L.map (fun p => (Value.string p.1, p.2)) ∧ Stamps es clk ∧
    w.heap[r]? = some (.mapIter (some b) since seen c0) ∧ (∀ x ∈ es.toList, x.born < since) ∧ since ≤ c0 ∧ since ≤ clk ∧
    (leftOf es seen).toList.map (fun e => (e.key, e.val)) = rem.map (fun p => (Value.string p.1, p.2))

/-- How many are still to come. -/
def leftAt (w : World) (b r : Nat) : Nat :=
  match w.heap[b]?, w.heap[r]? with
  | some (.map es _), some (.mapIter _ _ seen _) => (leftOf es seen).size
  | _, _ => 0

theorem RangeAt.left {w : World} {b r : Nat} {L rem : List (ByteArray × Value)} (h : RangeAt w b r L rem) : leftAt w b r = rem.length := by
  obtain ⟨es, clk, since, seen, c0, hb, _, _, hr, _, _, _, hl⟩ := h
  have := congrArg List.length hl
  simp only [List.length_map, Array.length_toList] at this
  simp only [leftAt, hb, hr]
  exact this
theorem RangeAt.map {w : World} {b r : Nat} {L rem : List (ByteArray × Value)} (h : RangeAt w b r L rem) : MapAt w b L := by
  obtain ⟨es, clk, since, seen, c0, hb, he, hs, _⟩ := h
  exact ⟨es, clk, hb, he, hs⟩
theorem RangeAt.ne {w : World} {b r : Nat} {L rem : List (ByteArray × Value)} (h : RangeAt w b r L rem) : r ≠ b := by
  obtain ⟨es, clk, since, seen, c0, hb, he, hs, hr, _⟩ := h
  intro e
  rw [e, hb] at hr
  cases hr
theorem RangeAt.lt {w : World} {b r : Nat} {L rem : List (ByteArray × Value)} (h : RangeAt w b r L rem) : r < w.heap.size := by
  obtain ⟨es, clk, since, seen, c0, hb, he, hs, hr, _⟩ := h
  exact (Array.getElem?_eq_some_iff.1 hr).1
theorem RangeAt.kept {w w' : World} {b r : Nat} {L rem : List (ByteArray × Value)} (h : RangeAt w b r L rem) (hb' : w'.heap[b]? = w.heap[b]?) (hr' : w'.heap[r]? = w.heap[r]?) : RangeAt w' b r L rem := by
  obtain ⟨es, clk, since, seen, c0, hb, he, hs, hr, rest⟩ := h
  exact ⟨es, clk, since, seen, c0, hb'.trans hb, he, hs, hr'.trans hr, rest⟩
theorem RangeAt.below {w w' : World} {b r B : Nat} {L rem : List (ByteArray × Value)} (h : RangeAt w b r L rem) (hb : Below B w w') (h1 : b < B) (h2 : r < B) : RangeAt w' b r L rem := h.kept (hb.block b h1) (hb.block r h2)

theorem MapAt.range {P : Program} {w : World} {T kt et : TypeId} {b : Nat} {L : List (ByteArray × Value)} (h : MapAt w b L) (hm : P.underlying T = some (.map kt et)) :
    ∃ o, (Instr.range T (.map (some b))).run P w = .ok (.pointer (some ⟨w.heap.size, 0, none⟩)) (w.alloc o) ∧ RangeAt (w.alloc o) b w.heap.size L L := by
  have hlt := h.lt
  obtain ⟨es, clk, hb, he, hs⟩ := h
  refine ⟨_, run_range_map w T kt et b es clk hm hb, es, clk, clk, #[], clk, (Below.heap_alloc _ _ _ hlt).trans hb, he, hs, heap_alloc_new w _, hs.1, Nat.le_refl _, Nat.le_refl _, ?_⟩
  rw [← he]
  congr 1
  simp [leftOf]

theorem kv_inj {l : List MapEntry} {L : List (ByteArray × Value)} (h : l.map (fun e => (e.key, e.val)) = L.map (fun p => (Value.string p.1, p.2))) {e : MapEntry} (he : e ∈ l) : ∃ p ∈ L, e.key = .string p.1 ∧ e.val = p.2 := by
  have : (e.key, e.val) ∈ L.map (fun p => (Value.string p.1, p.2)) := by rw [← h]; exact List.mem_map.2 ⟨e, he, rfl⟩
  obtain ⟨p, hp, e2⟩ := List.mem_map.1 this
  simp only [Prod.mk.injEq] at e2
  exact ⟨p, hp, e2.1.symm, e2.2.symm⟩

/-- One goes out of those that were left. -/
theorem left_out (seen : Array Nat) (e : MapEntry) : ∀ (l : List MapEntry) (R : List (ByteArray × Value)), (l.map (·.born)).Nodup → e ∈ l → seen.contains e.born = false → (l.filter fun x => !seen.contains x.born).map (fun e => (e.key, e.val)) = R.map (fun p => (Value.string p.1, p.2)) →
    ∃ p R', e.key = .string p.1 ∧ e.val = p.2 ∧ R.Perm (p :: R') ∧ (l.filter fun x => !(seen.push e.born).contains x.born).map (fun e => (e.key, e.val)) = R'.map (fun p => (Value.string p.1, p.2))
  | [], R, _, he, _, _ => by cases he
  | a :: l, R, hn, he, hs, hR => by
    simp only [List.map_cons, List.nodup_cons] at hn
    obtain ⟨hn1, hn2⟩ := hn
    by_cases ha : a.born = e.born
    · have hae : e = a := by
        rcases List.mem_cons.1 he with h | h
        · exact h
        · exact absurd (List.mem_map.2 ⟨e, h, ha.symm⟩) hn1
      subst hae
      have hs' : (!seen.contains e.born) = true := by rw [hs]; rfl
      rw [List.filter_cons_of_pos (by simpa using hs')] at hR
      match R, hR with
      | p :: R', hR =>
        simp only [List.map_cons, List.cons.injEq, Prod.mk.injEq] at hR
        refine ⟨p, R', hR.1.1, hR.1.2, List.Perm.refl _, ?_⟩
        rw [List.filter_cons_of_neg (by simp), ← hR.2]
        congr 1
        refine List.filter_congr fun x hx => ?_
        have hne : x.born ≠ e.born := fun h => hn1 (List.mem_map.2 ⟨x, hx, h⟩)
        simp [hne]
    · have he' : e ∈ l := by
        rcases List.mem_cons.1 he with h | h
        · exact absurd (by rw [h]) ha
        · exact h
      by_cases hsa : seen.contains a.born = true
      · rw [List.filter_cons_of_neg (by simpa using hsa)] at hR
        obtain ⟨p, R', h1, h2, h3, h4⟩ := left_out seen e l R hn2 he' hs hR
        refine ⟨p, R', h1, h2, h3, ?_⟩
        rw [List.filter_cons_of_neg (by simp at hsa ⊢; exact fun h => absurd hsa h), h4]
      · have hsa' : seen.contains a.born = false := by simpa using hsa
        rw [List.filter_cons_of_pos (by simpa using hsa')] at hR
        match R, hR with
        | q :: R0, hR =>
          simp only [List.map_cons, List.cons.injEq] at hR
          obtain ⟨p, R', h1, h2, h3, h4⟩ := left_out seen e l R0 hn2 he' hs hR.2
          refine ⟨p, q :: R', h1, h2, (List.Perm.cons q h3).trans (List.Perm.swap p q R'), ?_⟩
          rw [List.filter_cons_of_pos (by simp at hsa' ⊢; exact ⟨hsa', ha⟩), List.map_cons, List.map_cons, h4, hR.1]

theorem RangeAt.next {P : Program} {w : World} {b r : Nat} {L rem : List (ByteArray × Value)} (h : RangeAt w b r L rem) (ty : TypeId) :
    (rem = [] ∧ (Instr.next (.pointer (some ⟨r, 0, none⟩)) false ty).run P w = .ok (.tuple #[.bool false]) w) ∨
    ∃ p rem' w', rem.Perm (p :: rem') ∧ (Instr.next (.pointer (some ⟨r, 0, none⟩)) false ty).run P w = .ok (.tuple #[.bool true, .string p.1, p.2]) w' ∧ RangeAt w' b r L rem' ∧
      w'.heap.size = w.heap.size ∧ w'.os = w.os ∧ w'.tape = w.tape ∧ w'.output = w.output ∧ (∀ j, j ≠ r → w'.heap[j]? = w.heap[j]?) ∧ (Instr.entry (.pointer (some ⟨r, 0, none⟩))).run P w' = .ok (.tuple #[.string p.1, p.2]) w' := by
  have hne := h.ne
  obtain ⟨es, clk, since, seen, c0, hb, he, hs, hr, hold, hsc, hsk, hl⟩ := h
  rcases run_next_at (P := P) w ty r b since c0 seen es clk hr hb hold hsc with ⟨h0, hrun⟩ | ⟨e, hem, w1, hal, hrun⟩
  · refine Or.inl ⟨?_, hrun⟩
    have := congrArg List.length hl
    simp only [List.length_map, Array.length_toList, h0] at this
    exact List.length_eq_zero_iff.1 this.symm
  · obtain ⟨hm1, hm2⟩ := mem_left hem
    have hl' : (es.toList.filter fun x => !seen.contains x.born).map (fun e => (e.key, e.val)) = rem.map (fun p => (Value.string p.1, p.2)) := by
      rw [← hl]; unfold leftOf; rw [Array.toList_filter]
    obtain ⟨p, rem', hk, hv, hperm, hrem⟩ := left_out seen e es.toList rem hs.2 hm1 hm2 hl'
    have hr1 : w1.heap[r]? = some (.mapIter (some b) since seen c0) := by rcases hal with rfl | rfl <;> exact hr
    have hb1 : w1.heap[b]? = some (.map es clk) := by rcases hal with rfl | rfl <;> exact hb
    have hset := MapKept.heap_set (o' := .mapIter (some b) since (seen.push e.born) clk) hr1
    have hb' : (setBlock w1 r (.mapIter (some b) since (seen.push e.born) clk)).heap[b]? = some (.map es clk) := (hset.2 b (fun e1 => hne e1.symm)).trans hb1
    rw [hk, hv] at hrun
    refine Or.inr ⟨p, rem', _, hperm, hrun, ⟨es, clk, since, seen.push e.born, clk, hb', he, hs, hset.1, hold, hsk, hsk, ?_⟩, ?_, ?_, ?_, ?_, ?_, ?_⟩
    · rw [← hrem]; unfold leftOf; rw [Array.toList_filter]
    · rcases hal with rfl | rfl <;> simp [setBlock]
    · rcases hal with rfl | rfl <;> rfl
    · rcases hal with rfl | rfl <;> rfl
    · rcases hal with rfl | rfl <;> rfl
    · intro j hj
      have := hset.2 j hj
      rcases hal with rfl | rfl <;> exact this
    · have := run_entry_at (P := P) _ r b since seen es clk e hset.1 hb' hm1 hs.2
      rw [hk, hv] at this
      exact this

/-- What is left when a key is struck. -/
def delP : List (ByteArray × Value) → ByteArray → List (ByteArray × Value)
  | [], _ => []
  | p :: r, n => if p.1 = n then r else p :: delP r n
theorem findNow_del (n : ByteArray) (q : MapEntry → Bool) : ∀ (l : List MapEntry) (L : List (ByteArray × Value)) (i : Nat), l.map (fun e => (e.key, e.val)) = L.map (fun p => (Value.string p.1, p.2)) → (∀ e ∈ l, e.key = .string n → q e = false) →
    (mapGet L n = none → delP L n = L) ∧ (∀ v, mapGet L n = some v → ∃ j, Instr.findNow .string (.string n) l i = some (some (i + j, v)) ∧ j < l.length ∧ (l.eraseIdx j).map (fun e => (e.key, e.val)) = (delP L n).map (fun p => (Value.string p.1, p.2)) ∧ (l.eraseIdx j).filter q = l.filter q)
  | [], [], i, h, _ => ⟨fun _ => rfl, fun v hv => by simp [mapGet] at hv⟩
  | [], p :: L, i, h, _ => by simp at h
  | e :: l, [], i, h, _ => by simp at h
  | e :: l, p :: L, i, h, hq => by
    simp only [List.map_cons, List.cons.injEq, Prod.mk.injEq] at h
    obtain ⟨⟨hk, he⟩, ht⟩ := h
    obtain ⟨ih1, ih2⟩ := findNow_del n q l L (i + 1) ht fun e he => hq e (by simp [he])
    by_cases hn : p.1 = n
    · have hs : Instr.sameNow .string (.string n) e.key = some true := by
        rw [hk, hn]
        show some (n == n) = some true
        rw [show (n == n) = true from (MapKept.bytes_beq _ _).2 rfl]
      refine ⟨fun h => by simp [mapGet, hn] at h, fun v hv => ?_⟩
      simp only [mapGet, hn, if_true, Option.some.injEq] at hv
      refine ⟨0, by simp [Instr.findNow, hs, he, hv], by simp, ?_, ?_⟩
      · simp [delP, hn, ht]
      · rw [List.eraseIdx_cons_zero, List.filter_cons_of_neg (by rw [hq e (by simp) (by rw [hk, hn])]; simp)]
    · have hs : Instr.sameNow .string (.string n) e.key = some false := by
        rw [hk]
        show some (n == p.1) = some false
        have hb : (n == p.1) = false := by
          cases hh : (n == p.1) with
          | false => rfl
          | true => exact absurd ((MapKept.bytes_beq _ _).1 hh).symm hn
        rw [hb]
      refine ⟨fun h => ?_, fun v hv => ?_⟩
      · rw [mapGet, if_neg hn] at h
        rw [delP, if_neg hn, ih1 h]
      · rw [mapGet, if_neg hn] at hv
        obtain ⟨j, h1, h2, h3, h4⟩ := ih2 v hv
        refine ⟨j + 1, by simp [Instr.findNow, hs, h1]; omega, by simpa using h2, ?_, ?_⟩
        · rw [delP, if_neg hn]; simp [h3, hk, he]
        · rw [List.eraseIdx_cons_succ]
          cases hqe : q e with
          | true => rw [List.filter_cons_of_pos hqe, List.filter_cons_of_pos hqe, h4]
          | false => rw [List.filter_cons_of_neg (by simp [hqe]), List.filter_cons_of_neg (by simp [hqe]), h4]

theorem RangeAt.drop {P : Program} {w : World} {T kt et ty : TypeId} {b r : Nat} {L rem : List (ByteArray × Value)} (h : RangeAt w b r L rem) (hm : P.underlying T = some (.map kt et)) (hk : P.underlying kt = some .string) (n : ByteArray) (hr0 : ∀ p ∈ rem, p.1 ≠ n) (v : Value) (hv : mapGet L n = some v) :
    ∃ w', (Builtin.delete_ #[T, kt] ty #[.map (some b), .string n]).run P w = .ok (.tuple #[]) w' ∧ RangeAt w' b r (delP L n) rem ∧ w'.heap.size = w.heap.size ∧ w'.os = w.os ∧ w'.tape = w.tape ∧ w'.output = w.output ∧ (∀ j, j ≠ b → w'.heap[j]? = w.heap[j]?) := by
  have hne := h.ne
  obtain ⟨es, clk, since, seen, c0, hb, he, hs, hr, hold, hsc, hsk, hl⟩ := h
  have hl' : (es.toList.filter fun x => !seen.contains x.born).map (fun e => (e.key, e.val)) = rem.map (fun p => (Value.string p.1, p.2)) := by
    rw [← hl]; unfold leftOf; rw [Array.toList_filter]
  have hq : ∀ e ∈ es.toList, e.key = .string n → (!seen.contains e.born) = false := fun e hee hke => by
    cases hc : seen.contains e.born with
    | true => rfl
    | false =>
      obtain ⟨p, hp, h1, _⟩ := kv_inj hl' (List.mem_filter.2 ⟨hee, by rw [hc]; rfl⟩)
      rw [hke] at h1
      exact absurd (Value.string.inj h1).symm (hr0 p hp)
  obtain ⟨j, h1, h2, h3, h4⟩ := (findNow_del n (fun x => !seen.contains x.born) es.toList L 0 he hq).2 v hv
  rw [Nat.zero_add] at h1
  have hc : ∀ b, (Instr.checkKey b 10000 kt (.string n)).run P w = .ok () w := fun b => MapKept.run_checkKey (k := .string n) hk (by simp [MapKept.IsKey]) b 9999
  have hsub : (es.eraseIdxIfInBounds j).toList = es.toList.eraseIdx j := by
    unfold Array.eraseIdxIfInBounds
    rw [dif_pos (by simpa using h2)]
    simp
  have hmem : ∀ x ∈ (es.eraseIdxIfInBounds j).toList, x ∈ es.toList := fun x hx => by rw [hsub] at hx; exact (List.eraseIdx_sublist _ _).subset hx
  refine ⟨setBlock w b (.map (es.eraseIdxIfInBounds j) clk), ?_, ⟨es.eraseIdxIfInBounds j, clk, since, seen, c0, (MapKept.heap_set hb).1, by rw [hsub]; exact h3, ⟨fun x hx => hs.1 x (hmem x hx), ?_⟩, ((MapKept.heap_set hb).2 r hne).trans hr, fun x hx => hold x (hmem x hx), hsc, hsk, ?_⟩, by simp [setBlock], rfl, rfl, rfl, fun i hi => (MapKept.heap_set hb).2 i hi⟩
  · simp [Builtin.delete_, run_underlying hm, MapKept.run_getObj_map hb, hc, MapKept.run_findKey hk h1, MapKept.run_setObj_map _ hb, Result.andThen, setBlock]
  · rw [hsub]
    exact hs.2.sublist ((List.eraseIdx_sublist _ _).map _)
  · unfold leftOf
    rw [Array.toList_filter, hsub, h4]
    exact hl'
#print axioms RangeAt.next
#print axioms RangeAt.drop
end Go.Proofs.YteghhdogmdpbpakGreat


/- Walks: how often each variable stands in one term, and in another one. -/
namespace Go.Proofs.YteghhdogmdpbpakGreat
open Go.RowKit
set_option linter.unusedSimpArgs false
set_option linter.unusedVariables false
set_option maxRecDepth 8000

/-- How often a variable stands. -/
def vo (v : ByteArray) (l : List Tm) : Nat := if varB v = true then oftL v l else 0
theorem vo_app (v : ByteArray) (a b : List Tm) : vo v (a ++ b) = vo v a + vo v b := by
  unfold vo
  split
  · exact oft_app v a b
  · rfl
theorem vo_one (v s : ByteArray) (l : List Tm) : vo v [(⟨s, l⟩ : Tm)] = (if varB s = true ∧ s = v then 1 else 0) + vo v l := by
  unfold vo
  by_cases hv : varB v = true
  · rw [if_pos hv, if_pos hv, oft_one]
    by_cases h : s = v
    · subst h; simp [hv]
    · simp [h]
  · rw [if_neg hv, if_neg hv]
    have : ¬ (varB s = true ∧ s = v) := fun h => hv (by rw [← h.2]; exact h.1)
    rw [if_neg this]
theorem oft_le (v : ByteArray) (l : List Tm) : oftL v l ≤ sizeL l := by
  unfold oftL
  rw [← preL_len0]
  exact List.length_filter_le _ _
theorem vo_le (v : ByteArray) (l : List Tm) : vo v l ≤ sizeL l := by
  unfold vo
  split
  · exact oft_le v l
  · exact Nat.zero_le _
theorem vo_take (v : ByteArray) (l : List Tm) (k : Nat) (h : k < l.length) : vo v (l.take (k + 1)) = vo v (l.take k) + vo v [l[k]] := by rw [List.take_succ_eq_append_getElem h, vo_app]

/-- The map holds so much for each name. -/
def TalAt (w : World) (r : Nat) (f : ByteArray → Int) : Prop := ∃ L, MapAt w r L ∧ (∀ p ∈ L, p.2 = .int .i64 (f p.1)) ∧ (∀ v, mapGet L v = none → f v = 0) ∧ (L.map (·.1)).Nodup
theorem TalAt.lt {w : World} {r : Nat} {f : ByteArray → Int} (h : TalAt w r f) : r < w.heap.size := by obtain ⟨L, h, _⟩ := h; exact h.lt
theorem TalAt.kept {w w' : World} {r : Nat} {f : ByteArray → Int} (h : TalAt w r f) (hk : w'.heap[r]? = w.heap[r]?) : TalAt w' r f := by obtain ⟨L, h, h2⟩ := h; exact ⟨L, h.kept hk, h2⟩
theorem TalAt.congr {w : World} {r : Nat} {f g : ByteArray → Int} (h : TalAt w r f) (e : ∀ v, f v = g v) : TalAt w r g := by
  have : f = g := funext e
  rw [← this]; exact h
theorem mapGet_mem {n : ByteArray} {v : Value} : ∀ {L : List (ByteArray × Value)}, mapGet L n = some v → (n, v) ∈ L
  | [], h => by simp [mapGet] at h
  | p :: L, h => by
    by_cases hp : p.1 = n
    · simp only [mapGet, hp, if_true, Option.some.injEq] at h
      obtain ⟨a, b⟩ := p
      simp only at hp h
      subst hp; subst h
      simp
    · rw [mapGet, if_neg hp] at h
      exact List.mem_cons_of_mem _ (mapGet_mem h)
theorem mapGet_has {n : ByteArray} : ∀ {L : List (ByteArray × Value)}, mapGet L n = none ↔ n ∉ L.map (·.1)
  | [] => by simp [mapGet]
  | p :: L => by
    by_cases hp : p.1 = n
    · simp [mapGet, hp]
    · rw [mapGet, if_neg hp, mapGet_has, List.map_cons, List.mem_cons, not_or]
      exact ⟨fun h => ⟨fun e => hp e.symm, h⟩, fun h => h.2⟩
theorem setAt_keys (n : ByteArray) (v : Value) : ∀ L : List (ByteArray × Value), (setAt L n v).map (·.1) = L.map (·.1)
  | [] => rfl
  | p :: L => by
    by_cases hp : p.1 = n
    · simp [setAt, hp]
    · simp [setAt, hp, setAt_keys n v L]
theorem setAt_mem {n : ByteArray} {v : Value} : ∀ {L : List (ByteArray × Value)}, (L.map (·.1)).Nodup → ∀ p ∈ setAt L n v, p = (n, v) ∨ (p ∈ L ∧ p.1 ≠ n)
  | [], _, p, h => by simp [setAt] at h
  | q :: L, hn, p, h => by
    rw [List.map_cons, List.nodup_cons] at hn
    by_cases hq : q.1 = n
    · rw [setAt, if_pos hq, List.mem_cons] at h
      rcases h with rfl | h
      · exact Or.inl (by rw [hq])
      · refine Or.inr ⟨List.mem_cons_of_mem _ h, fun e => hn.1 ?_⟩
        rw [hq, ← e]
        exact List.mem_map.2 ⟨p, h, rfl⟩
    · rw [setAt, if_neg hq, List.mem_cons] at h
      rcases h with rfl | h
      · exact Or.inr ⟨by simp, hq⟩
      · rcases setAt_mem hn.2 p h with h | ⟨h, h'⟩
        · exact Or.inl h
        · exact Or.inr ⟨List.mem_cons_of_mem _ h, h'⟩
/-- Some more for one name. -/
def addF (f : ByteArray → Int) (n : ByteArray) (d : Int) : ByteArray → Int := fun v => if n = v then f v + d else f v
theorem TalAt.look {w : World} {r : Nat} {f : ByteArray → Int} (h : TalAt w r f) (n : ByteArray) : (Instr.lookup 68 (.map (some r)) (.string n) false).run Tryz.prog w = .ok (.int .i64 (f n)) w := by
  obtain ⟨L, hM, h1, h2, h3⟩ := h
  rw [run_look1 (P := Tryz.prog) Tryz.underlying68 Tryz.underlying9 (Tryz.zeroValue3 w) hM n]
  cases hg : mapGet L n with
  | none => rw [h2 n hg]; rfl
  | some z =>
    have e : z = .int .i64 (f n) := h1 _ (mapGet_mem hg)
    rw [e]; rfl
theorem TalAt.put {w : World} {r : Nat} {f : ByteArray → Int} (h : TalAt w r f) (n : ByteArray) (d : Int) :
    ∃ w', (Instr.mapUpdate 68 (.map (some r)) (.string n) (.int .i64 (f n + d))).run Tryz.prog w = .ok () w' ∧ TalAt w' r (addF f n d) ∧ Ex r w w' := by
  obtain ⟨L, hM, h1, h2, h3⟩ := h
  cases hg : mapGet L n with
  | none =>
    obtain ⟨w', hr, hM', hz, ho, ht, hu, hk⟩ := run_put (P := Tryz.prog) Tryz.underlying68 Tryz.underlying9 hM n (.int .i64 (f n + d)) hg
    have hnm := mapGet_has.1 hg
    refine ⟨w', hr, ⟨_, hM', fun p hp => ?_, fun v hv => ?_, ?_⟩, ⟨ho, ht, hu, by omega, fun k _ hn => hk k hn⟩⟩
    · rw [List.mem_append] at hp
      rcases hp with hp | hp
      · have hne : n ≠ p.1 := fun e => hnm (List.mem_map.2 ⟨p, hp, e.symm⟩)
        rw [h1 p hp, addF, if_neg hne]
      · have e : p = (n, .int .i64 (f n + d)) := by simpa using hp
        rw [e, addF, if_pos rfl]
    · rw [mapGet_has, List.map_append, List.mem_append, not_or] at hv
      have hne : n ≠ v := fun e => hv.2 (by simp [e])
      rw [addF, if_neg hne]
      exact h2 v (mapGet_has.2 hv.1)
    · rw [List.map_append, List.nodup_append]
      refine ⟨h3, by simp, fun a ha b hb => ?_⟩
      have e : b = n := by simpa using hb
      rw [e]
      exact fun e2 => hnm (by rw [← e2]; exact ha)
  | some z =>
    obtain ⟨w', hr, hM', hz, ho, ht, hu, hk⟩ := run_set (P := Tryz.prog) Tryz.underlying68 Tryz.underlying9 hM n (.int .i64 (f n + d)) z hg
    refine ⟨w', hr, ⟨_, hM', fun p hp => ?_, fun v hv => ?_, by rw [setAt_keys]; exact h3⟩, ⟨ho, ht, hu, by omega, fun k _ hn => hk k hn⟩⟩
    · rcases setAt_mem h3 p hp with e | ⟨hp, hne⟩
      · rw [e, addF, if_pos rfl]
      · rw [h1 p hp, addF, if_neg fun e => hne e.symm]
    · rw [mapGet_has, setAt_keys, ← mapGet_has] at hv
      have hne : n ≠ v := fun e => by rw [e, hv] at hg; cases hg
      rw [addF, if_neg hne]
      exact h2 v hv

def TyInv (S : List Tm) (r : Nat) (f : ByteArray → Int) (d : Int) (a : Tm) (aa : Option Addr) (ca : Nat) (w : World) (i : Value) (wr : World) : Prop :=
  ∃ k : Nat, k ≤ a.args.length ∧ i = .int .i64 (k : Int) ∧ Blk wr w.heap.size #[.string a.name, .slice aa a.args.length ca, .int .i64 (numT a S), .int .i64 (sizeL [a])] 76 ∧ TalAt wr r (fun v => f v + d * ((if varB a.name = true ∧ a.name = v then 1 else 0) + vo v (a.args.take k) : Nat)) ∧ Ex r w wr
/-- Both counted: what the map holds. -/
theorem vo_all {a b : Tm} : (∀ v, (0 : Int) ≤ (vo v [a] : Int) - (vo v [b] : Int)) ↔ hasAll a b = true := by
  rw [hasAll_iff]
  constructor
  · intro h v hv
    have := h v
    unfold vo at this
    rw [if_pos hv, if_pos hv] at this
    omega
  · intro h v
    unfold vo
    by_cases hv : varB v = true
    · rw [if_pos hv, if_pos hv]
      have := h v hv
      omega
    · rw [if_neg hv, if_neg hv]; omega
/-- The loop over the map: what came was never below 0. -/
def HaInv (m r : Nat) (L : List (ByteArray × Value)) (f : ByteArray → Int) (w : World) (i : Value) (wr : World) : Prop := ∃ rem, RangeAt wr m r L rem ∧ (∀ p ∈ L, p ∈ rem ∨ 0 ≤ f p.1) ∧ (∀ p ∈ rem, p ∈ L) ∧ Below w.heap.size w wr
end Go.Proofs.YteghhdogmdpbpakGreat

/- Walks: writing into a Builder, with all else as it was. -/
namespace Go.Proofs.YteghhdogmdpbpakGreat
open Go.RowKit
set_option linter.unusedSimpArgs false
set_option linter.unusedVariables false

theorem Tryz.infoByte : (Tryz.prog.info? 5).map (fun i => (i.zero, i.size, i.bytes)) = some (some (.int .u8 0), 1, 1) := by kernel_rfl
theorem Tryz.sizeBuilder : (Tryz.prog.info? 143).map (·.size) = some 2 := by kernel_rfl
theorem Tryz.liesBuilder : liesAt Tryz.prog Tryz.prog.depth 143 (2 / Tryz.prog.cellsOf 143) 0 143 1 = true := by kernel_rfl

/-- A Builder in block b, its bytes in a row of its own. -/
def Bld (w : World) (B b : Nat) (bs : List Value) (v : Value) : Prop :=
  B ≤ b ∧ (∃ p, (p = .pointer none ∨ p = .pointer (some ⟨b, 0, none⟩)) ∧ w.heap[b]? = some (.cells #[p, v] 143 (0, 0))) ∧ w.ownsRow B 5 1 v bs.length bs

/-- What a write leaves alone. -/
def BFr (w w' : World) (b : Nat) (v v' : Value) : Prop :=
  w'.os = w.os ∧ w'.tape = w.tape ∧ w'.output = w.output ∧ w.heap.size ≤ w'.heap.size ∧ (∀ k, k < w.heap.size → k ≠ b → some k ≠ v.ownBlock → w'.heap[k]? = w.heap[k]?) ∧ (∀ k, v'.ownBlock = some k → v.ownBlock = some k ∨ w.heap.size ≤ k)

theorem BFr.refl (w : World) (b : Nat) (v : Value) : BFr w w b v v := ⟨rfl, rfl, rfl, Nat.le_refl _, fun _ _ _ _ => rfl, fun _ h => Or.inl h⟩
theorem BFr.trans {w w1 w2 : World} {b : Nat} {v v1 v2 : Value} (h : BFr w w1 b v v1) (h1 : BFr w1 w2 b v1 v2) : BFr w w2 b v v2 := by
  obtain ⟨a1, a2, a3, a4, a5, a6⟩ := h
  obtain ⟨c1, c2, c3, c4, c5, c6⟩ := h1
  refine ⟨c1.trans a1, c2.trans a2, c3.trans a3, Nat.le_trans a4 c4, fun k hk hb hv => ?_, fun k hk => ?_⟩
  · refine (c5 k (Nat.lt_of_lt_of_le hk a4) hb (fun e => ?_)).trans (a5 k hk hb hv)
    rcases a6 k e.symm with h | h
    · exact hv h.symm
    · omega
  · rcases c6 k hk with h | h
    · exact a6 k h
    · exact Or.inr (Nat.le_trans a4 h)
theorem BFr.of_below {w w' : World} (hb : Below w.heap.size w w') (b : Nat) (v : Value) : BFr w w' b v v := ⟨hb.os, hb.tape, hb.output, hb.size, fun k hk _ _ => hb.block k hk, fun _ h => Or.inl h⟩

theorem bd_ne {w : World} {B b : Nat} {bs : List Value} {v : Value} (h : Bld w B b bs v) : v.ownBlock ≠ some b := by
  obtain ⟨_, ⟨p, _, hb⟩, hown⟩ := h
  exact Lib.ownBlock_ne hown hb (by decide)

set_option maxHeartbeats 1000000 in
set_option maxRecDepth 100000 in
theorem copyCheck_any (B b : Nat) (bs : List Value) (v : Value) (w : World) (h : Bld w B b bs v) :
    Calls Tryz.prog 107 #[.pointer (some ⟨b, 0, none⟩)] w fun e w' => e = .returned (.tuple #[]) ∧ w'.heap[b]? = some (.cells #[.pointer (some ⟨b, 0, none⟩), v] 143 (0, 0)) ∧ w'.ownsRow B 5 1 v bs.length bs ∧ BFr w w' b v v := by
  obtain ⟨j, hj, hjs⟩ := Option.map_eq_some_iff.1 Tryz.sizeBuilder
  have hne := bd_ne h
  obtain ⟨hB, ⟨p, hp, hbk⟩, hown⟩ := h
  have h0 : w.cell? ⟨b, 0, none⟩ = some p := by rw [Lib.cell_of_heap hbk]; rfl
  have hsh : w.shape? b = some (143, 2) := by simp [World.shape?, hbk]
  have hfz : w.frozen? ⟨b, 0, none⟩ = false := Lib.frozen_of_heap hbk 0
  rcases hp with rfl | rfl
  · have HF : Hid ((w.setCell ⟨b, 0, none⟩ (.pointer (some ⟨b, 0, none⟩))).heap[b]? = some (.cells #[.pointer (some ⟨b, 0, none⟩), v] 143 (0, 0)) ∧ (w.setCell ⟨b, 0, none⟩ (.pointer (some ⟨b, 0, none⟩))).ownsRow B 5 1 v bs.length bs ∧ BFr w (w.setCell ⟨b, 0, none⟩ (.pointer (some ⟨b, 0, none⟩))) b v v) := by
      refine ⟨by simp [World.setCell, Array.getElem?_modify, hbk], ?_, rfl, rfl, rfl, by simp [World.setCell], fun k hk hkb _ => Below.heap_setCell _ _ _ _ (by simpa using hkb), fun _ h => Or.inl h⟩
      refine hown.kept (w' := w.setCell ⟨b, 0, none⟩ (.pointer (some ⟨b, 0, none⟩))) (row := some b) ⟨rfl, rfl, rfl, by simp [World.setCell], fun k hk hkb => Below.heap_setCell _ _ _ _ (by simp at hkb; simpa using hkb)⟩ (Or.inr hne)
    have HOWN := hide hown
    clear hown
    go_enter Tryz.func107, Tryz.ntmps107
    go_wp2_with fail
    rw [Lib.run_to_unsafe w ⟨b, 0, none⟩ Tryz.underlying140 Tryz.underlying184 hj (by rw [hjs]; decide) hsh (Nat.zero_lt_succ 1)]
    simp only [Result.andThen]
    rw [Oper.upon_value]
    go_wp2_with fail
    rw [run_callFunc_extern Tryz.func113 (by kernel_rfl) (by kernel_rfl) (by kernel_rfl) (e := Extern.AbiNoEscape.same) (by kernel_rfl)]
    rw [Lib.run_noEscape]
    simp only [Result.andThen]
    rw [Oper.upon_value]
    go_wp2_with fail
    rw [Lib.run_from_unsafe w ⟨b, 0, none⟩ Tryz.underlying184 Tryz.underlying140 hj hsh Tryz.liesBuilder]
    simp only [Result.andThen]
    rw [Oper.upon_value]
    go_wp2_with fail
    go_end0
    exact ⟨rfl, HF.out⟩
  · have HOWN := hide hown
    go_enter Tryz.func107, Tryz.ntmps107
    go_wp2_with fail
    rw [Lib.run_neq_ptr_same w _ Tryz.underlying140 hj]
    go_wp2_with fail
    go_end0
    exact ⟨rfl, hbk, HOWN.out, BFr.refl _ _ _⟩

theorem bd_lt {w : World} {b : Nat} {o : Obj} (h : w.heap[b]? = some o) : b < w.heap.size := by
  apply Classical.byContradiction
  intro hn
  rw [Array.getElem?_eq_none (by omega)] at h; cases h

/-- Behind an append and the store of its slice. -/
theorem bd_put {w w2 : World} {B b : Nat} {bs bs' : List Value} {v v' : Value} (hB : B ≤ b) (hBw : B ≤ w.heap.size) (hbk : w.heap[b]? = some (.cells #[.pointer (some ⟨b, 0, none⟩), v] 143 (0, 0))) (hown : w.ownsRow B 5 1 v bs.length bs) (hown' : w2.ownsRow B 5 1 v' bs'.length bs') (hg : w.grownBy w2 v.ownBlock)
    (hat : ∀ k, v'.ownBlock = some k → v.ownBlock = some k ∨ w.heap.size ≤ k) : Bld (w2.setCell ⟨b, 1, none⟩ v') B b bs' v' ∧ BFr w (w2.setCell ⟨b, 1, none⟩ v') b v v' := by
  have hne : v.ownBlock ≠ some b := Lib.ownBlock_ne hown hbk (by decide)
  have hlt := bd_lt hbk
  have hb2 : w2.heap[b]? = some (.cells #[.pointer (some ⟨b, 0, none⟩), v] 143 (0, 0)) := by rw [hg.block b hlt (fun e => hne e.symm)]; exact hbk
  have hne' : v'.ownBlock ≠ some b := Lib.ownBlock_ne hown' hb2 (by decide)
  refine ⟨⟨hB, ⟨_, Or.inr rfl, by simp [World.setCell, Array.getElem?_modify, hb2]⟩, ?_⟩, hg.os, hg.tape, hg.output, by simp [World.setCell]; exact hg.size, fun k hk hkb hv => ?_, hat⟩
  · exact hown'.kept (w' := w2.setCell ⟨b, 1, none⟩ v') (row := some b) ⟨rfl, rfl, rfl, by simp [World.setCell], fun k hk hkb => Below.heap_setCell _ _ _ _ (by simp at hkb; simpa using hkb)⟩ (Or.inr hne')
  · rw [Below.heap_setCell _ _ _ _ (by simpa using hkb)]; exact hg.block k hk hv

/-- Where the row lies behind an append of a text's bytes. -/
theorem str_at {w w' : World} {B : Nat} {v v' : Value} {n : Nat} {xs : List Value} {s : ByteArray} {ty : TypeId} (hown : w.ownsRow B 5 1 v n xs) (hsm : n + s.size ≤ 2000000000) (hr : (Builtin.append_ #[141, 9] ty #[v, .string s]).run Tryz.prog w = .ok v' w')
    (hnil : v' = .slice none 0 0 ↔ v = .slice none 0 0 ∧ s.size = 0) : ∀ k, v'.ownBlock = some k → v.ownBlock = some k ∨ w.heap.size ≤ k := by
  obtain ⟨i0, hi, hz0, hz1, hz2⟩ := info_parts Tryz.infoByte
  have hsrc : Src Tryz.prog i0.size 9 (.string s) s.size (byteCells s) w := by rw [hz1]; exact Src.ofString w Tryz.underlying9 s
  have hlx := hown.1
  intro k hk
  rcases hown.2 with ⟨rfl, rfl⟩ | ⟨g, cap, cur, rfl, hBg, hh, hnc, hcm, hcs, htk⟩
  · by_cases h0 : s.size = 0
    · have := hnil.2 ⟨rfl, h0⟩
      rw [this] at hk; cases hk
    · have hg := run_append_grow_src (P := Tryz.prog) w 141 9 ty 5 i0 (.int .u8 0) Tryz.underlying141 hi hz0 none 0 0 [] (by simpa using run_firstCells_none w.drew i0.size 0 0 0) (.string s) s.size (byteCells s) hsrc (by omega) (by omega) (by rw [hz2]; have := growslice_fits (need := 0 + s.size) (old := 0) (bytes := 1) (by omega) (by omega); omega)
      rw [hr] at hg
      simp only [Result.ok.injEq] at hg
      rw [hg.1] at hk
      simp [Value.ownBlock] at hk
      right; omega
  · by_cases hroom : n + s.size ≤ cap
    · have hc : ∀ j, j < (byteCells s).length → (w.cell? ⟨g, 0 + n * i0.size + j, none⟩).isSome = true := fun j hj => by
        rw [byteCells_length] at hj
        rw [Lib.cell_of_heap hh, hz1]
        simp; omega
      have hf : ∀ j, j < (byteCells s).length → w.frozen? ⟨g, 0 + n * i0.size + j, none⟩ = false := fun j hj => Lib.frozen_of_heap hh _
      have hg := run_append_room_src (P := Tryz.prog) w 141 9 ty 5 i0 Tryz.underlying141 hi g 0 n cap (.string s) s.size (byteCells s) hsrc hroom hc hf
      rw [hr] at hg
      simp only [Result.ok.injEq] at hg
      rw [hg.1] at hk
      simp [Value.ownBlock] at hk
      left; simp [Value.ownBlock, hk]
    · have hfc := run_firstCells_some (P := Tryz.prog) w.drew i0.size n ⟨g, 0, none⟩ n cap xs (by rw [hz1]; exact hlx) (fun j u hj => by have := hown.cells (g := g) rfl j u hj; simpa using this)
      have hg := run_append_grow_src (P := Tryz.prog) w 141 9 ty 5 i0 (.int .u8 0) Tryz.underlying141 hi hz0 (some ⟨g, 0, none⟩) n cap xs hfc (.string s) s.size (byteCells s) hsrc (by omega) (by omega) (by rw [hz2]; have := growslice_fits (need := n + s.size) (old := cap) (bytes := 1) (by omega) (by omega); omega)
      rw [hr] at hg
      simp only [Result.ok.injEq] at hg
      rw [hg.1] at hk
      simp [Value.ownBlock] at hk
      right; omega

set_option maxHeartbeats 1000000 in
set_option maxRecDepth 100000 in
theorem writeByte_any (B b : Nat) (bs : List Value) (v : Value) (c : Int) (w : World) (h : Bld w B b bs v) (hlen : bs.length ≤ 1000000000) (hBw : B ≤ w.heap.size) :
    Calls Tryz.prog 90 #[.pointer (some ⟨b, 0, none⟩), .int .u8 c] w fun e w' => e = .returned .nilIface ∧ ∃ v', Bld w' B b (bs ++ [.int .u8 c]) v' ∧ BFr w w' b v v' := by
  obtain ⟨i0, hi, hz0, hz1, hz2⟩ := info_parts Tryz.infoByte
  have hB := h.1
  have H := hide h
  clear h
  go_enter Tryz.func90, Tryz.ntmps90
  go_wp2_with (go_at_call 107; refine (copyCheck_any B b bs v _ H.out).mono ?_)
  rintro e w1 ⟨rfl, hbk, hown, hfr⟩
  have c0 : w1.cell? ⟨b, 0, none⟩ = some (.pointer (some ⟨b, 0, none⟩)) := by rw [Lib.cell_of_heap hbk]; rfl
  have c1 : w1.cell? ⟨b, 1, none⟩ = some v := by rw [Lib.cell_of_heap hbk]; rfl
  have hlt := bd_lt hbk
  have hne : v.ownBlock ≠ some b := Lib.ownBlock_ne hown hbk (by decide)
  have hBw1 : B ≤ w1.heap.size := Nat.le_trans hBw hfr.2.2.2.1
  obtain ⟨g, cap, w2, hr2, hown2, hg2, hat2, _⟩ := run_append_lies (P := Tryz.prog) (w := w1.alloc (.cells #[.int .u8 c] 5)) 141 141 B 5 i0 _ 1 1 Tryz.underlying141 hi hz0 hz1 hz2 rfl (by decide) v bs.length bs (hown.alloc _)
    ⟨w1.heap.size, 0, none⟩ 1 1 [.int .u8 c] rfl (cell_one_new _ _ _) (fun x hx => by simp at hx; subst hx; rfl) (by decide) (by unfold maxLen; omega) (by omega) (by simp; omega) _ rfl
  have hg3 : w1.grownBy w2 v.ownBlock := grown_trans (grown_of_below ((Below.refl _ _).alloc (Nat.le_refl _) _) v.ownBlock) hg2 (fun k hk => Or.inl hk)
  have HPUT := hide (bd_put (bs' := bs ++ [.int .u8 c]) hB hBw1 hbk hown (by simpa using hown2) hg3 (fun k hk => by
    simp [Value.ownBlock] at hk
    subst hk
    rcases hat2 with e | e
    · exact Or.inl e
    · right; simp at e; omega))
  have hb2 : w2.heap[b]? = some (.cells #[.pointer (some ⟨b, 0, none⟩), v] 143 (0, 0)) := by rw [hg3.block b hlt (fun e => hne e.symm)]; exact hbk
  have d0 : w2.cell? ⟨b, 0, none⟩ = some (.pointer (some ⟨b, 0, none⟩)) := by rw [Lib.cell_of_heap hb2]; rfl
  have d1 : w2.cell? ⟨b, 1, none⟩ = some v := by rw [Lib.cell_of_heap hb2]; rfl
  have f1 : w2.frozen? ⟨b, 1, none⟩ = false := Lib.frozen_of_heap hb2 1
  have HR := hide hr2
  have HFR := hide hfr
  clear hr2 hown hown2 hg2 hg3 hat2 hbk hfr hb2
  go_wp2_with (at_builtin; refine wpList_append_eq rfl _ _ _ _ rfl rfl rfl HR.out ?_)
  go_ret
  exact ⟨rfl, _, HPUT.out.1, HFR.out.trans HPUT.out.2⟩

set_option maxHeartbeats 1000000 in
set_option maxRecDepth 100000 in
theorem writeString_any (B b : Nat) (bs : List Value) (v : Value) (s : ByteArray) (w : World) (h : Bld w B b bs v) (hlen : bs.length + s.size ≤ 1000000000) (hBw : B ≤ w.heap.size) :
    Calls Tryz.prog 89 #[.pointer (some ⟨b, 0, none⟩), .string s] w fun e w' => e = .returned (.tuple #[.int .i64 s.size, .nilIface]) ∧ ∃ v', Bld w' B b (bs ++ Lib.strCells s) v' ∧ BFr w w' b v v' := by
  obtain ⟨i0, hi, hz0, hz1, hz2⟩ := info_parts Tryz.infoByte
  have hB := h.1
  have H := hide h
  clear h
  go_enter Tryz.func89, Tryz.ntmps89
  go_wp2_with (go_at_call 107; refine (copyCheck_any B b bs v _ H.out).mono ?_)
  rintro e w1 ⟨rfl, hbk, hown, hfr⟩
  have c0 : w1.cell? ⟨b, 0, none⟩ = some (.pointer (some ⟨b, 0, none⟩)) := by rw [Lib.cell_of_heap hbk]; rfl
  have c1 : w1.cell? ⟨b, 1, none⟩ = some v := by rw [Lib.cell_of_heap hbk]; rfl
  have hlt := bd_lt hbk
  have hne : v.ownBlock ≠ some b := Lib.ownBlock_ne hown hbk (by decide)
  have hBw1 : B ≤ w1.heap.size := Nat.le_trans hBw hfr.2.2.2.1
  obtain ⟨v2, w2, hr2, hown2, hg2, hnil2⟩ := Lib.run_append_own_string (P := Tryz.prog) w1 B 141 9 141 5 i0 Tryz.underlying141 Tryz.underlying9 hi hz0 hz1 hz2 v bs.length bs hown s (by unfold maxLen; omega) (by omega) hBw1
  have hat := str_at hown (by omega) hr2 hnil2
  have HPUT := hide (bd_put (bs' := bs ++ Lib.strCells s) hB hBw1 hbk hown (by simpa [Lib.strCells_length] using hown2) hg2 hat)
  have hb2 : w2.heap[b]? = some (.cells #[.pointer (some ⟨b, 0, none⟩), v] 143 (0, 0)) := by rw [hg2.block b hlt (fun e => hne e.symm)]; exact hbk
  have d0 : w2.cell? ⟨b, 0, none⟩ = some (.pointer (some ⟨b, 0, none⟩)) := by rw [Lib.cell_of_heap hb2]; rfl
  have d1 : w2.cell? ⟨b, 1, none⟩ = some v := by rw [Lib.cell_of_heap hb2]; rfl
  have f1 : w2.frozen? ⟨b, 1, none⟩ = false := Lib.frozen_of_heap hb2 1
  obtain ⟨ao, n', cap, rfl⟩ : ∃ ao n' cap, v2 = .slice ao n' cap := by
    rcases hown2.2 with ⟨hv, _⟩ | ⟨g, cap, cur, hv, _⟩
    · exact ⟨_, _, _, hv⟩
    · exact ⟨_, _, _, hv⟩
  have HR := hide hr2
  have HFR := hide hfr
  clear hr2 hown hown2 hg2 hat hnil2 hbk hfr hb2
  go_wp2_with (at_builtin; refine wpList_append_eq rfl _ _ _ _ rfl rfl rfl HR.out ?_)
  go_ret2
  exact ⟨rfl, _, HPUT.out.1, HFR.out.trans HPUT.out.2⟩
#print axioms writeString_any
#print axioms copyCheck_any
#print axioms writeByte_any
end Go.Proofs.YteghhdogmdpbpakGreat

/- What comes of putting a term at a place. -/
namespace Go.Proofs.YteghhdogmdpbpakGreat

/-- The i-th of a list turned, counted from j on. -/
def putL (f : Tm → Tm) (i : Int) : Nat → List Tm → List Tm
  | _, [] => []
  | j, a :: r => (if (j : Int) = i then f a else a) :: putL f i (j + 1) r

/-- x at a place. -/
def putT (x : Tm) : List Int → Tm → Tm
  | [], _ => x
  | i :: r, t => ⟨t.name, putL (putT x r) i 0 t.args⟩

theorem putL_length (f : Tm → Tm) (i : Int) : ∀ (l : List Tm) (j : Nat), (putL f i j l).length = l.length
  | [], _ => rfl
  | a :: r, j => by simp [putL, putL_length f i r]

theorem putL_get (f : Tm → Tm) (i : Int) : ∀ (l : List Tm) (j k : Nat) (h : k < l.length), (putL f i j l)[k]'(by rw [putL_length]; exact h) = if ((j + k : Nat) : Int) = i then f l[k] else l[k]
  | [], j, k, h => by simp at h
  | a :: r, j, 0, h => by simp [putL]
  | a :: r, j, k + 1, h => by
    have := putL_get f i r (j + 1) k (by simpa using h)
    simp only [putL, List.getElem_cons_succ, this]
    rw [show j + 1 + k = j + (k + 1) by omega]

theorem putL_take (f : Tm → Tm) (i : Int) (l : List Tm) (k : Nat) (h : k < l.length) : (putL f i 0 l).take (k + 1) = (putL f i 0 l).take k ++ [if (k : Int) = i then f l[k] else l[k]] := by
  rw [List.take_succ_eq_append_getElem (by rw [putL_length]; exact h), putL_get f i l 0 k h, Nat.zero_add]
#print axioms putL_take
end Go.Proofs.YteghhdogmdpbpakGreat

/- A slice without its first. -/
namespace Go.Proofs.YteghhdogmdpbpakGreat
open Go.RowKit
set_option linter.unusedSimpArgs false
set_option linter.unusedVariables false

set_option maxRecDepth 8000 in
theorem slice_tail_run (b o n pc : Nat) (hn : n + 1 ≤ pc) (w' : World) : Sem.run Tryz.prog (Instr.slice 22 (.slice (some ⟨b, o, none⟩) (n + 1) pc) (some (.int .i64 1)) none none) w' = .ok (.slice (if pc = 1 then some ⟨b, o, none⟩ else some ⟨b, o + 1, none⟩) n (pc - 1)) w' := by
  have hle1 : (1 : Int) ≤ (n : Int) + 1 := by omega
  have e1 : (1 : Int) ≤ ((n + 1 : Nat) : Int) := by omega
  rw [run_slice_l (P := Tryz.prog) (ht := Tryz.underlying22) (h0 := by omega) (h1 := e1)]
  by_cases hpc : pc = 1
  · subst hpc
    simp [go_sem, sliced]
  · simp [go_sem, sliced, hpc]
#print axioms slice_tail_run
end Go.Proofs.YteghhdogmdpbpakGreat

/- The library's Clone at rows of terms. -/
namespace Go.Proofs.YteghhdogmdpbpakGreat
open Go.RowKit Go.Shelf
set_option linter.unusedSimpArgs false
set_option linter.unusedVariables false
set_option maxRecDepth 8000

def cl_ren : Go.Shelf.Ren := ⟨fun | 41 => 31 | n => n, fun | 22 => 23 | 23 => 25 | 4 => 4 | n => n, fun | n => n⟩
theorem cl_lays : Go.Proofs.SlLaysE0.n41 Tryz.prog cl_ren := {
  mixed := by kernel_rfl
  f41 := ⟨Tryz.f31.name, by decide, Tryz.func31.trans (congrArg some (by kernel_rfl))⟩
  t4 := Tryz.underlying4
  a4 := Tryz.isAgg4
  z4 := Tryz.sizeOf4
  v4 := Tryz.zeroValue4
  t22 := Tryz.underlying23
  a22 := Tryz.isAgg23
  z22 := Tryz.sizeOf23
  v22 := Tryz.zeroValue23 }
/-- A row of terms cloned: its cells lie in memory of the call's own. -/
theorem cloneT_any (b off n c : Nat) (news : List Value) (w : World) (hl : news.length = n * 2) (hn : n ≤ 1000000) (hc : ∀ j u, news[j]? = some u → w.cell? ⟨b, off + j, none⟩ = some u) (h1 : ∀ u ∈ news, u.oneCell' = true) :
    Calls Tryz.prog 31 #[.slice (some ⟨b, off, none⟩) n c] w fun e w' => ∃ v', e = .returned v' ∧ w'.ownsRow w.heap.size 25 2 v' n news ∧ v' ≠ .slice none 0 0 ∧ Below w.heap.size w w' := by
  obtain ⟨i0, hi, hz0, hz1, hz2⟩ := info_parts Tryz.infoTerm
  exact AnyE.slices_Clone cl_lays i0 _ 2 40 hi hz0 hz1 hz2 rfl (by decide) Tryz.sizeOf25 b off n c news w hl (by unfold maxLen; omega) (by omega) hc h1
#print axioms cloneT_any
end Go.Proofs.YteghhdogmdpbpakGreat
