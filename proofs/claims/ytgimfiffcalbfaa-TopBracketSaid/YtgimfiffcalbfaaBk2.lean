/- Plain: the document's steps by i, k and s are steps that come together again; where it finds none, none is left (towards TopBracket). -/
import Derived.Test.YtgimfiffcalbfaaCb1
import Derived.Test.YtgimfiffcalbfaaBk1
namespace Go.Proofs.Ytgimfiffcalbfaa
set_option linter.unusedSimpArgs false
set_option linter.unusedVariables false

def leafC (s : ByteArray) : CT := if s = iB then .I else if s = kB then .K else if s = sB then .S else .at s
def toCR : Nat → Tm → CT
  | 0, t => .at t.name
  | n + 1, ⟨s, [f, x]⟩ => .ap (toCR n f) (toCR n x)
  | _ + 1, t => leafC t.name
def toC (t : Tm) : CT := toCR (sizeL [t]) t
theorem toCR_more (n : Nat) : ∀ (t : Tm) (m : Nat), isC t = true → sizeL [t] ≤ n → n ≤ m → toCR m t = toCR n t := by
  induction n with
  | zero => intro t m _ h; have := size_posC t; omega
  | succ n ih =>
    intro t m hc h hm
    obtain ⟨m, rfl⟩ : ∃ k, m = k + 1 := ⟨m - 1, by omega⟩
    rcases isC_cases hc with ⟨s, rfl⟩ | ⟨f, x, rfl, h1, h2⟩
    · rfl
    · have hs := size_ap f x
      have a1 := size_posC f
      have a2 := size_posC x
      simp only [apT, toCR]
      rw [ih f m h1 (by omega) (by omega), ih x m h2 (by omega) (by omega)]
theorem toC_leaf (s : ByteArray) : toC ⟨s, []⟩ = leafC s := by simp [toC, sizeL_one, sizeL, toCR]
theorem toC_ap {f x : Tm} (h1 : isC f = true) (h2 : isC x = true) : toC (apT f x) = .ap (toC f) (toC x) := by
  have h := size_ap f x
  have a1 := size_posC f
  have a2 := size_posC x
  rw [toC, h, show 1 + sizeL [f] + sizeL [x] = (sizeL [f] + sizeL [x]) + 1 by omega]
  simp only [apT, toCR]
  rw [toCR_more (sizeL [f]) f _ h1 (Nat.le_refl _) (by omega), toCR_more (sizeL [x]) x _ h2 (Nat.le_refl _) (by omega)]
  rfl
def apC (h : CT) (l : List CT) : CT := l.foldl .ap h
theorem apC_snoc (h : CT) (l : List CT) (x : CT) : apC h (l ++ [x]) = .ap (apC h l) x := by simp [apC]
theorem toC_apAll (l : List Tm) : ∀ h, isC h = true → (∀ x ∈ l, isC x = true) → toC (apAll h l) = apC (toC h) (l.map toC) := by
  induction l with
  | nil => intro h _ _; rfl
  | cons x r ih =>
    intro h hh hl
    have := ih (apT h x) (by rw [isC_ap, hh, hl x (by simp)]; rfl) fun y hy => hl y (by simp [hy])
    rw [toC_ap hh (hl x (by simp))] at this
    exact this
theorem row_back (n : Nat) : ∀ t : Tm, sizeL [t] ≤ n → isC t = true → apAll (rowH t) (rowL t) = t := by
  induction n with
  | zero => intro t h; have := size_posC t; omega
  | succ n ih =>
    intro t h hc
    rcases isC_cases hc with ⟨s, rfl⟩ | ⟨f, x, rfl, h1, h2⟩
    · rw [(row_leaf s).1, (row_leaf s).2]; rfl
    · have hs := size_ap f x
      rw [(row_ap f x).1, (row_ap f x).2, apAll_snoc, ih f (by omega) h1]
theorem CPar.apHead {h h' : CT} (hp : CPar h h') : ∀ l : List CT, CPar (apC h l) (apC h' l) := by
  intro l
  induction l generalizing h h' with
  | nil => exact hp
  | cons x r ih => exact ih (.ap hp (.refl _))
theorem CPar.apArg {y y' : CT} (hp : CPar y y') (r : List CT) : ∀ (pre : List CT) (h : CT), CPar (apC h (pre ++ y :: r)) (apC h (pre ++ y' :: r)) := by
  intro pre
  induction pre with
  | nil => intro h; exact CPar.apHead (.ap (.refl _) hp) r
  | cons x l ih => intro h; exact ih _
theorem firstC_at {f : Tm → Option Tm} {h x : Tm} : ∀ (r pre : List Tm), firstC f h pre r = some x → ∃ a y y' b, r = a ++ y :: b ∧ f y = some y' ∧ x = apAll h (pre ++ a ++ y' :: b) := by
  intro r
  induction r with
  | nil => intro pre hx; simp [firstC] at hx
  | cons c r ih =>
    intro pre hx
    rw [firstC] at hx
    cases hc : f c with
    | some y' => rw [hc] at hx; cases hx; exact ⟨[], c, y', r, rfl, hc, by simp⟩
    | none =>
      rw [hc] at hx
      obtain ⟨a, y, y', b, rfl, h2, rfl⟩ := ih _ hx
      exact ⟨c :: a, y, y', b, rfl, h2, by simp⟩
theorem firstC_allNone {f : Tm → Option Tm} {h : Tm} : ∀ (r pre : List Tm), firstC f h pre r = none → ∀ y ∈ r, f y = none := by
  intro r
  induction r with
  | nil => intro pre _ y hy; simp at hy
  | cons c r ih =>
    intro pre hx y hy
    rw [firstC] at hx
    cases hc : f c with
    | some y' => rw [hc] at hx; cases hx
    | none =>
      rw [hc] at hx
      rcases List.mem_cons.1 hy with rfl | hy
      · exact hc
      · exact ih _ hx y hy
theorem leafC_i : leafC iB = .I := by simp [leafC]
theorem leafC_k : leafC kB = .K := by unfold leafC; rw [if_neg (by decide), if_pos rfl]
theorem leafC_s : leafC sB = .S := by unfold leafC; rw [if_neg (by decide), if_neg (by decide), if_pos rfl]
theorem work_par {s : ByteArray} {l : List Tm} {x : Tm} (hl : ∀ y ∈ l, isC y = true) (h : workC s l = some x) : CPar (apC (leafC s) (l.map toC)) (toC x) := by
  match l, h with
  | a :: l, h =>
    unfold workC at h
    simp only at h
    split at h
    · rename_i e
      cases h
      rw [e, leafC_i, toC_apAll _ _ (hl a (by simp)) fun y hy => hl y (by simp [hy])]
      exact CPar.apHead (.i (.refl _)) _
    · match l, h with
      | b :: l, h =>
        simp only at h
        split at h
        · rename_i e
          cases h
          rw [e, leafC_k, toC_apAll _ _ (hl a (by simp)) fun y hy => hl y (by simp [hy])]
          exact CPar.apHead (.k (.refl _)) _
        · match l, h with
          | c :: l, h =>
            simp only at h
            split at h
            · rename_i e
              cases h
              have ha := hl a (by simp)
              have hb := hl b (by simp)
              have hc := hl c (by simp)
              rw [e, leafC_s, toC_apAll _ _ (by simp [isC_ap, ha, hb, hc]) fun y hy => hl y (by simp [hy]), toC_ap (by simp [isC_ap, ha, hc]) (by simp [isC_ap, hb, hc]), toC_ap ha hc, toC_ap hb hc]
              exact CPar.apHead (.s (.refl _) (.refl _) (.refl _)) _
            · cases h
/-- One step of the document's. -/
theorem step_par (n : Nat) : ∀ t x, stepN n t = some x → isC t = true → CPar (toC t) (toC x) := by
  induction n with
  | zero => intro t x h; simp [stepN] at h
  | succ n ih =>
    intro t x h hc
    obtain ⟨r1, r2, r3, _⟩ := row_facts _ t (Nat.le_refl _) hc
    have hb := row_back _ t (Nat.le_refl _) hc
    have hh : rowH t = ⟨(rowH t).name, []⟩ := by cases hq : rowH t with | mk a b => rw [hq] at r1; simp only at r1; rw [r1]
    have e1 : toC t = apC (leafC (rowH t).name) ((rowL t).map toC) := by
      rw [← toC_leaf, ← hh, ← toC_apAll _ _ r2 (fun y hy => (r3 y hy).1), hb]
    rw [stepN] at h
    cases hw : workC (rowH t).name (rowL t) with
    | some y => rw [hw] at h; cases h; rw [e1]; exact work_par (fun y hy => (r3 y hy).1) hw
    | none =>
      rw [hw] at h
      obtain ⟨a, y, y', b, h1, h2, rfl⟩ := firstC_at _ _ h
      have hy : isC y = true := (r3 y (by rw [h1]; simp)).1
      have hy' := stepN_isC n y y' h2 hy
      rw [List.nil_append, toC_apAll _ _ r2 (fun z hz => by
        rcases List.mem_append.1 hz with hz | hz
        · exact (r3 z (by rw [h1]; simp [hz])).1
        · rcases List.mem_cons.1 hz with rfl | hz
          · exact hy'
          · exact (r3 z (by rw [h1]; simp [hz])).1), e1, h1, hh, toC_leaf]
      simp only [List.map_append, List.map_cons]
      exact CPar.apArg (ih y y' h2 hy) _ _ _
theorem snoc_indD {α : Type} {P : List α → Prop} (h0 : P []) (h1 : ∀ l x, P l → P (l ++ [x])) (l : List α) : P l := by
  rw [← List.reverse_reverse l]
  induction l.reverse with
  | nil => exact h0
  | cons x r ih => rw [List.reverse_cons]; exact h1 _ _ ih
theorem apC_leaf {c d : CT} (hc : ∀ f x, c ≠ .ap f x) {l : List CT} (hd : ∀ f x, d ≠ .ap f x) (h : apC c l = d) : l = [] ∧ c = d := by
  revert h
  induction l using snoc_indD with
  | h0 => intro h; exact ⟨rfl, h⟩
  | h1 l x _ => intro h; rw [apC_snoc] at h; exact absurd h.symm (hd _ _)
theorem apC_one {c f x : CT} (hc : ∀ f x, c ≠ .ap f x) {l : List CT} (h : apC c l = .ap f x) : ∃ m, l = m ++ [x] ∧ apC c m = f := by
  revert h
  induction l using snoc_indD with
  | h0 => intro h; exact absurd h (hc _ _)
  | h1 l y _ => intro h; rw [apC_snoc] at h; injection h with e1 e2; exact ⟨l, by rw [e2], e1⟩
/-- A row at whose front nothing is to be done, and in which nothing is. -/
theorem norm_row {c : CT} (hc : ∀ f x, c ≠ .ap f x) : ∀ l : List CT, (∀ x ∈ l, CNorm x) → (c = .I → l = []) → (c = .K → l.length ≤ 1) → (c = .S → l.length ≤ 2) → CNorm (apC c l) := by
  intro l
  induction l using snoc_indD with
  | h0 =>
    intro _ _ _ _ u hu
    show u = c
    change CPar c u at hu
    cases hu with
    | refl => rfl
    | ap _ _ => exact absurd rfl (hc _ _)
    | i _ => exact absurd rfl (hc _ _)
    | k _ => exact absurd rfl (hc _ _)
    | s _ _ _ => exact absurd rfl (hc _ _)
  | h1 l x ih =>
    intro hn h1 h2 h3 u hu
    have hi := ih (fun y hy => hn y (by simp [hy])) (fun e => by have := h1 e; simp at this) (fun e => by have := h2 e; rw [List.length_append, List.length_singleton] at this; omega) (fun e => by have := h3 e; rw [List.length_append, List.length_singleton] at this; omega)
    have hx := hn x (by simp)
    rw [apC_snoc] at hu ⊢
    generalize hq : apC c l = q at hu hi ⊢
    cases hu with
    | refl => rfl
    | ap a b => rw [hi _ a, hx _ b]
    | i a =>
      obtain ⟨_, e⟩ := apC_leaf hc (by intro f x h; cases h) hq
      have := h1 e
      simp at this
    | k a =>
      obtain ⟨m, rfl, e⟩ := apC_one hc hq
      obtain ⟨rfl, e2⟩ := apC_leaf hc (by intro f x h; cases h) e
      have := h2 e2
      simp at this
    | s a b d =>
      obtain ⟨m, rfl, e⟩ := apC_one hc hq
      obtain ⟨m2, rfl, e2⟩ := apC_one hc e
      obtain ⟨rfl, e3⟩ := apC_leaf hc (by intro f x h; cases h) e2
      have := h3 e3
      simp at this
theorem leafC_no (s : ByteArray) (f x : CT) : leafC s ≠ .ap f x := by unfold leafC; split; simp; split; simp; split <;> simp
theorem leafC_isI {s : ByteArray} (h : leafC s = .I) : s = iB := by
  unfold leafC at h
  split at h
  · assumption
  · split at h
    · cases h
    · split at h <;> cases h
theorem leafC_isK {s : ByteArray} (h : leafC s = .K) : s = kB := by
  unfold leafC at h
  split at h
  · cases h
  · split at h
    · assumption
    · split at h <;> cases h
theorem leafC_isS {s : ByteArray} (h : leafC s = .S) : s = sB := by
  unfold leafC at h
  split at h
  · cases h
  · split at h
    · cases h
    · split at h
      · assumption
      · cases h
/-- Where the document finds no step, none is left. -/
theorem step_norm (n : Nat) : ∀ t, stepN n t = none → sizeL [t] ≤ n → isC t = true → CNorm (toC t) := by
  induction n with
  | zero => intro t _ h; have := size_posC t; omega
  | succ n ih =>
    intro t h hz hc
    obtain ⟨r1, r2, r3, _⟩ := row_facts _ t (Nat.le_refl _) hc
    have hb := row_back _ t (Nat.le_refl _) hc
    have hh : rowH t = ⟨(rowH t).name, []⟩ := by cases hq : rowH t with | mk a b => rw [hq] at r1; simp only at r1; rw [r1]
    have e1 : toC t = apC (leafC (rowH t).name) ((rowL t).map toC) := by
      rw [← toC_leaf, ← hh, ← toC_apAll _ _ r2 (fun y hy => (r3 y hy).1), hb]
    rw [stepN] at h
    cases hw : workC (rowH t).name (rowL t) with
    | some y => rw [hw] at h; cases h
    | none =>
      rw [hw] at h
      have hall := firstC_allNone _ _ h
      rw [e1]
      refine norm_row (leafC_no _) _ (fun x hx => ?_) (fun e => ?_) (fun e => ?_) (fun e => ?_)
      · obtain ⟨y, hy, rfl⟩ := List.mem_map.1 hx
        have := r3 y hy
        exact ih y (hall y hy) (by omega) this.1
      · rw [leafC_isI e] at hw
        match hl : rowL t, hw with
        | [], _ => rfl
        | a :: l, hw => rw [workC_i] at hw; cases hw
      · rw [leafC_isK e] at hw
        match hl : rowL t, hw with
        | [], _ => simp
        | [a], _ => simp
        | a :: b :: l, hw => rw [workC_k] at hw; cases hw
      · rw [leafC_isS e] at hw
        match hl : rowL t, hw with
        | [], _ => simp
        | [a], _ => simp
        | [a, b], _ => simp
        | a :: b :: d :: l, hw => rw [workC_s] at hw; cases hw
#print axioms step_norm
#print axioms step_par
end Go.Proofs.Ytgimfiffcalbfaa
