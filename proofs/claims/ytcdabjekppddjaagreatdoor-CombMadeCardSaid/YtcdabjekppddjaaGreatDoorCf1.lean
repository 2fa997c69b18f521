/- Plain: lambda terms without what is bound: it is the same whatever the names of what is bound begin with. -/
import Derived.Test.YtcdabjekppddjaaGreatDoorBk9
import Derived.Test.YtcdabjekppddjaaGreatDoorZCombMadeOwn
namespace Go.Proofs.YtcdabjekppddjaaGreatDoor
set_option linter.unusedSimpArgs false
set_option linter.unusedVariables false

/-- What a number's digits are worth. -/
def decV (l : List UInt8) : Nat := l.foldl (fun a b => 10 * a + (b.toNat - 48)) 0
theorem decV_snoc (l : List UInt8) (b : UInt8) : decV (l ++ [b]) = 10 * decV l + (b.toNat - 48) := by simp [decV]
theorem dig_val {n : Nat} (h : n < 10) : (UInt8.ofNat (48 + n)).toNat - 48 = n := by
  rw [UInt8.toNat_ofNat']
  omega
theorem decV_dec (n : Nat) : decV (Lib.decDigits n) = n := by
  induction n using Nat.strongRecOn with
  | ind n ih =>
    by_cases h : n < 10
    · rw [Lib.decDigits, dif_pos h]
      have := decV_snoc [] (UInt8.ofNat (48 + n))
      simp only [List.nil_append] at this
      rw [this, dig_val h]
      simp [decV]
    · have e : Lib.decDigits n = Lib.decDigits (n / 10) ++ [UInt8.ofNat (48 + n % 10)] := by
        conv => lhs; rw [Lib.decDigits, dif_neg h]
      rw [e, decV_snoc, ih (n / 10) (by omega), dig_val (by omega)]
      omega
/-- Such a name. -/
def nmP (p : UInt8) (k : Nat) : ByteArray := ⟨(p :: Lib.decDigits k).toArray⟩
theorem nmP_inj {p : UInt8} {j k : Nat} (h : nmP p j = nmP p k) : j = k := by
  unfold nmP at h
  simp only [ByteArray.mk.injEq] at h
  have h1 := congrArg Array.toList h
  simp only [List.toList_toArray, List.cons.injEq, true_and] at h1
  rw [← decV_dec j, h1, decV_dec]
theorem nmP_head {p q : UInt8} {j : Nat} {l : List UInt8} (h : nmP p j = ⟨(q :: l).toArray⟩) : p = q := by
  unfold nmP at h
  simp only [ByteArray.mk.injEq] at h
  have h1 := congrArg Array.toList h
  simp only [List.toList_toArray, List.cons.injEq] at h1
  exact h1.1
/-- Not too great. -/
def notG (t : Tm) : Option Tm := if 2000 < sizeL [t] then none else some t
/-- Without what is bound; names of what is bound from outside begin with p. -/
def cmb (p : UInt8) : Nat → Nat → Lm → Option Tm
  | 0, _, _ => none
  | n + 1, d, ⟨k, x, l⟩ =>
    if k = 1 then some ⟨nmP p ((d : Int) - 1 - x).toNat, []⟩
    else if k = 4 then some ⟨nmP 99 x.toNat, []⟩
    else if k = 2 then (match l with
      | [b] => (cmb p n (d + 1) b).bind fun t => notG (alw (brR (nmP p d) (sizeL [t]) t))
      | _ => none)
    else (match l with
      | [f, y] => (cmb p n d f).bind fun f' => (cmb p n d y).bind fun y' => notG (apT f' y')
      | _ => none)
theorem cmb_var (p : UInt8) (n d : Nat) (x : Int) : cmb p (n + 1) d ⟨1, x, []⟩ = some ⟨nmP p ((d : Int) - 1 - x).toNat, []⟩ := by simp [cmb]
theorem cmb_con (p : UInt8) (n d : Nat) (x : Int) : cmb p (n + 1) d ⟨4, x, []⟩ = some ⟨nmP 99 x.toNat, []⟩ := by simp [cmb]
theorem cmb_lam (p : UInt8) (n d : Nat) (x : Int) (b : Lm) : cmb p (n + 1) d ⟨2, x, [b]⟩ = (cmb p n (d + 1) b).bind fun t => notG (alw (brR (nmP p d) (sizeL [t]) t)) := by simp [cmb]
theorem cmb_app (p : UInt8) (n d : Nat) (x : Int) (f y : Lm) : cmb p (n + 1) d ⟨3, x, [f, y]⟩ = (cmb p n d f).bind fun f' => (cmb p n d y).bind fun y' => notG (apT f' y') := by simp [cmb]

/-- The same but for the names' beginnings. -/
inductive Rn (d : Nat) : Tm → Tm → Prop where
  | same (q : UInt8) (l : List UInt8) (h1 : q ≠ 86) (h2 : q ≠ 88) : Rn d ⟨⟨(q :: l).toArray⟩, []⟩ ⟨⟨(q :: l).toArray⟩, []⟩
  | var (k : Nat) (h : k < d) : Rn d ⟨nmP 86 k, []⟩ ⟨nmP 88 k, []⟩
  | ap {f f' x x' : Tm} : Rn d f f' → Rn d x x' → Rn d (apT f x) (apT f' x')
theorem Rn.size {d : Nat} {t t' : Tm} (h : Rn d t t') : sizeL [t] = sizeL [t'] := by
  induction h with
  | same => rfl
  | var => simp [sizeL]
  | ap _ _ h1 h2 => rw [size_ap, size_ap, h1, h2]
theorem Rn.isC {d : Nat} {t t' : Tm} (h : Rn d t t') : isC t = true ∧ isC t' = true := by
  induction h with
  | same => exact ⟨isC_leaf _, isC_leaf _⟩
  | var => exact ⟨isC_leaf _, isC_leaf _⟩
  | ap _ _ h1 h2 => rw [isC_ap, isC_ap, h1.1, h1.2, h2.1, h2.2]; exact ⟨rfl, rfl⟩
theorem Rn.zero {t t' : Tm} (h : Rn 0 t t') : t = t' := by
  induction h with
  | same => rfl
  | var k h => omega
  | ap _ _ h1 h2 => rw [h1, h2]
theorem nm_ap (p : UInt8) (h : p ≠ 97) (d : Nat) : nmP p d ≠ apB := fun e => h (nmP_head (q := 97) (l := [112]) e)
theorem Rn.name {d k : Nat} {t t' : Tm} (h : Rn d t t') : t.name = nmP 86 k ↔ t'.name = nmP 88 k := by
  cases h with
  | same q l h1 h2 =>
    constructor
    · intro e; exact absurd (nmP_head e.symm).symm h1
    · intro e; exact absurd (nmP_head e.symm).symm h2
  | var j h =>
    constructor
    · intro e; rw [nmP_inj e]
    · intro e; rw [nmP_inj e]
  | ap h1 h2 =>
    constructor
    · intro e; exact absurd e.symm (nm_ap 86 (by decide) k)
    · intro e; exact absurd e.symm (nm_ap 88 (by decide) k)
theorem br_keep (v : ByteArray) (n : Nat) : ∀ t : Tm, (brR v n t).2 = false → (brR v n t).1 = t := by
  cases n with
  | zero => intro t _; rfl
  | succ n =>
    rintro ⟨s, l⟩ h
    unfold brR at h ⊢
    by_cases h1 : s = v
    · rw [if_pos h1] at h; cases h
    · rw [if_neg h1] at h ⊢
      split at h
      · split at h
        · rename_i h2
          simp only [h2, and_self, if_true]
        · split at h <;> cases h
      · rfl
theorem rn_br {d : Nat} (n : Nat) : ∀ {t t' : Tm}, sizeL [t] ≤ n → Rn (d + 1) t t' → (brR (nmP 86 d) n t).2 = (brR (nmP 88 d) n t').2 ∧ Rn d (brR (nmP 86 d) n t).1 (brR (nmP 88 d) n t').1 := by
  induction n with
  | zero => intro t t' h _; have := size_posC t; omega
  | succ n ih =>
    intro t t' hz h
    have hnm := h.name (k := d)
    cases h with
    | same q l h1 h2 =>
      have e1 : (⟨(q :: l).toArray⟩ : ByteArray) ≠ nmP 86 d := fun e => h1 (nmP_head e.symm).symm
      have e2 : (⟨(q :: l).toArray⟩ : ByteArray) ≠ nmP 88 d := fun e => h2 (nmP_head e.symm).symm
      rw [br_leaf_no _ _ _ e1, br_leaf_no _ _ _ e2]
      exact ⟨rfl, .same q l h1 h2⟩
    | var k h =>
      by_cases e : k = d
      · subst e
        rw [br_leaf_yes _ _ _ rfl, br_leaf_yes _ _ _ rfl]
        exact ⟨rfl, .same 105 [] (by decide) (by decide)⟩
      · rw [br_leaf_no _ _ _ (fun h => e (nmP_inj h)), br_leaf_no _ _ _ (fun h => e (nmP_inj h))]
        exact ⟨rfl, .var k (by omega)⟩
    | @ap f f' x x' h1 h2 =>
      rw [size_ap] at hz
      obtain ⟨a1, a2⟩ := ih (by omega) h1
      obtain ⟨b1, b2⟩ := ih (by omega) h2
      have hx := h2.name (k := d)
      rw [br_ap (nm_ap 86 (by decide) d), br_ap (nm_ap 88 (by decide) d)]
      have al1 : Rn d (alw (brR (nmP 86 d) n f)) (alw (brR (nmP 88 d) n f')) := by
        unfold alw
        rw [a1]
        split
        · exact a2
        · exact .ap (.same 107 [] (by decide) (by decide)) a2
      have al2 : Rn d (alw (brR (nmP 86 d) n x)) (alw (brR (nmP 88 d) n x')) := by
        unfold alw
        rw [b1]
        split
        · exact b2
        · exact .ap (.same 107 [] (by decide) (by decide)) b2
      rw [← a1, ← b1]
      by_cases c1 : (brR (nmP 86 d) n f).2 = false ∧ (brR (nmP 86 d) n x).2 = false
      · rw [if_pos c1, if_pos c1]
        have k1 := br_keep (nmP 86 d) n f c1.1
        have k2 := br_keep (nmP 86 d) n x c1.2
        have k3 := br_keep (nmP 88 d) n f' (by rw [← a1]; exact c1.1)
        have k4 := br_keep (nmP 88 d) n x' (by rw [← b1]; exact c1.2)
        rw [k1, k3] at a2
        rw [k2, k4] at b2
        exact ⟨rfl, .ap a2 b2⟩
      · rw [if_neg c1, if_neg c1]
        by_cases c2 : (brR (nmP 86 d) n f).2 = false ∧ x.name = nmP 86 d
        · rw [if_pos c2, if_pos ⟨c2.1, hx.1 c2.2⟩]
          exact ⟨rfl, a2⟩
        · rw [if_neg c2, if_neg (fun h => c2 ⟨h.1, hx.2 h.2⟩)]
          exact ⟨rfl, .ap (.ap (.same 115 [] (by decide) (by decide)) al1) al2⟩
theorem rn_alw {d : Nat} {t t' : Tm} (h : Rn (d + 1) t t') : Rn d (alw (brR (nmP 86 d) (sizeL [t]) t)) (alw (brR (nmP 88 d) (sizeL [t']) t')) := by
  obtain ⟨a1, a2⟩ := rn_br (sizeL [t]) (Nat.le_refl _) h
  rw [← h.size]
  unfold alw
  rw [a1]
  split
  · exact a2
  · exact .ap (.same 107 [] (by decide) (by decide)) a2
/-- Both come to none, or to the same but for names. -/
def RnO (d : Nat) (a b : Option Tm) : Prop := (a = none ∧ b = none) ∨ ∃ t t', a = some t ∧ b = some t' ∧ Rn d t t'
theorem rn_notG {d : Nat} {t t' : Tm} (h : Rn d t t') : RnO d (notG t) (notG t') := by
  unfold notG
  rw [← h.size]
  by_cases h1 : 2000 < sizeL [t]
  · rw [if_pos h1, if_pos h1]; exact Or.inl ⟨rfl, rfl⟩
  · rw [if_neg h1, if_neg h1]; exact Or.inr ⟨t, t', rfl, rfl, h⟩
theorem rn_cmb (n : Nat) : ∀ (d : Nat) (t : Lm), errM (d : Int) 0 [t] = 0 → RnO d (cmb 86 n d t) (cmb 88 n d t) := by
  induction n with
  | zero => intro d t _; exact Or.inl ⟨by simp [cmb], by simp [cmb]⟩
  | succ n ih =>
    intro d t he
    rcases may_look he with ⟨x, rfl, h0, h1⟩ | ⟨b, rfl, hb⟩ | ⟨f, a, rfl, hf, ha⟩ | ⟨x, rfl, h0, h1⟩
    · rw [cmb_var, cmb_var]
      exact Or.inr ⟨_, _, rfl, rfl, .var _ (by omega)⟩
    · rw [cmb_lam, cmb_lam]
      rcases ih (d + 1) b (by rw [show ((d + 1 : Nat) : Int) = (d : Int) + 1 by omega]; exact hb) with ⟨e1, e2⟩ | ⟨u, u', e1, e2, h⟩
      · rw [e1, e2]; exact Or.inl ⟨rfl, rfl⟩
      · rw [e1, e2]
        exact rn_notG (rn_alw h)
    · rw [cmb_app, cmb_app]
      rcases ih d f hf with ⟨e1, e2⟩ | ⟨u, u', e1, e2, h⟩
      · rw [e1, e2]; exact Or.inl ⟨rfl, rfl⟩
      · rw [e1, e2]
        rcases ih d a ha with ⟨e3, e4⟩ | ⟨z, z', e3, e4, h'⟩
        · rw [e3, e4]; exact Or.inl ⟨rfl, rfl⟩
        · rw [e3, e4]
          exact rn_notG (.ap h h')
    · rw [cmb_con, cmb_con]
      exact Or.inr ⟨_, _, rfl, rfl, .same 99 _ (by decide) (by decide)⟩
/-- A closed term: the same. -/
theorem cmb_closed (n : Nat) (t : Lm) (he : errM 0 0 [t] = 0) : cmb 86 n 0 t = cmb 88 n 0 t := by
  rcases rn_cmb n 0 t he with ⟨e1, e2⟩ | ⟨u, u', e1, e2, h⟩
  · rw [e1, e2]
  · rw [e1, e2, h.zero]
theorem notG_some {t u : Tm} (h : notG t = some u) : u = t ∧ sizeL [t] ≤ 2000 := by
  unfold notG at h
  by_cases h1 : 2000 < sizeL [t]
  · rw [if_pos h1] at h; cases h
  · rw [if_neg h1] at h; exact ⟨(Option.some.inj h).symm, by omega⟩
/-- What comes is put together, and not too great. -/
theorem cmb_ok (p : UInt8) (hp : p ≠ 97) (n : Nat) : ∀ (d : Nat) (t : Lm) (u : Tm), errM (d : Int) 0 [t] = 0 → cmb p n d t = some u → isC u = true ∧ sizeL [u] ≤ 2000 := by
  induction n with
  | zero => intro d t u _ h; simp [cmb] at h
  | succ n ih =>
    intro d t u he h
    rcases may_look he with ⟨x, rfl, h0, h1⟩ | ⟨b, rfl, hb⟩ | ⟨f, a, rfl, hf, ha⟩ | ⟨x, rfl, h0, h1⟩
    · rw [cmb_var] at h; cases h; exact ⟨isC_leaf _, by simp [sizeL]⟩
    · rw [cmb_lam] at h
      obtain ⟨z, h2, h3⟩ := Option.bind_eq_some_iff.1 h
      obtain ⟨c1, c2⟩ := ih (d + 1) b z (by rw [show ((d + 1 : Nat) : Int) = (d : Int) + 1 by omega]; exact hb) h2
      obtain ⟨rfl, h4⟩ := notG_some h3
      exact ⟨alw_isC (nm_ap p hp d) c1, h4⟩
    · rw [cmb_app] at h
      obtain ⟨z, h2, h3⟩ := Option.bind_eq_some_iff.1 h
      obtain ⟨z', h4, h5⟩ := Option.bind_eq_some_iff.1 h3
      obtain ⟨rfl, h6⟩ := notG_some h5
      exact ⟨by rw [isC_ap, (ih d f z hf h2).1, (ih d a z' ha h4).1]; rfl, h6⟩
    · rw [cmb_con] at h; cases h; exact ⟨isC_leaf _, by simp [sizeL]⟩
end Go.Proofs.YtcdabjekppddjaaGreatDoor
