/- Bindings in the order of their names: plain. -/
import Derived.Test.YtkfppicbningaaaBRow
namespace Go.Proofs.Ytkfppicbningaaa
open Go.RowKit
set_option linter.unusedSimpArgs false
set_option linter.unusedVariables false

/-- One text is ahead of another one. -/
def ltB (a b : ByteArray) : Bool := Op.bytesLess a.toList b.toList
theorem bl_irrefl : ∀ a : List UInt8, Op.bytesLess a a = false
  | [] => rfl
  | x :: r => by simp [Op.bytesLess, bl_irrefl r]
theorem bl_trans : ∀ a b c : List UInt8, Op.bytesLess a b = true → Op.bytesLess b c = true → Op.bytesLess a c = true
  | _, [], _, h, _ => by simp [Op.bytesLess] at h
  | _, _ :: _, [], _, h => by simp [Op.bytesLess] at h
  | [], _ :: _, _ :: _, _, _ => by simp [Op.bytesLess]
  | x :: a, y :: b, z :: c, h1, h2 => by
    simp only [Op.bytesLess, Bool.or_eq_true, Bool.and_eq_true, decide_eq_true_eq, beq_iff_eq] at h1 h2 ⊢
    rw [UInt8.lt_iff_toNat_lt] at h1 h2 ⊢
    rcases h1 with h1 | ⟨rfl, h1⟩ <;> rcases h2 with h2 | ⟨rfl, h2⟩
    · left; omega
    · left; exact h1
    · left; exact h2
    · right; exact ⟨rfl, bl_trans a b c h1 h2⟩
theorem bl_conn : ∀ a b : List UInt8, Op.bytesLess a b = false → Op.bytesLess b a = false → a = b
  | [], [], _, _ => rfl
  | [], _ :: _, h, _ => by simp [Op.bytesLess] at h
  | _ :: _, [], _, h => by simp [Op.bytesLess] at h
  | x :: a, y :: b, h1, h2 => by
    simp only [Op.bytesLess, Bool.or_eq_false_iff, decide_eq_false_iff_not] at h1 h2
    obtain ⟨h1, h3⟩ := h1
    obtain ⟨h2, h4⟩ := h2
    rw [UInt8.lt_iff_toNat_lt] at h1 h2
    have e : x = y := UInt8.toNat_inj.mp (by omega)
    subst e
    simp only [BEq.rfl, Bool.true_and] at h3 h4
    rw [bl_conn a b h3 h4]
theorem ltB_irrefl (a : ByteArray) : ltB a a = false := bl_irrefl _
theorem ltB_trans {a b c : ByteArray} (h1 : ltB a b = true) (h2 : ltB b c = true) : ltB a c = true := bl_trans _ _ _ h1 h2
theorem ltB_conn {a b : ByteArray} (h1 : ltB a b = false) (h2 : ltB b a = false) : a = b := bytes_inj (bl_conn _ _ h1 h2)
theorem ltB_asymm {a b : ByteArray} (h : ltB a b = true) : ltB b a = false := by
  cases hb : ltB b a with
  | false => rfl
  | true => have := ltB_trans h hb; rw [ltB_irrefl] at this; cases this
theorem ltB_ntrans {a b c : ByteArray} (h1 : ltB a b = false) (h2 : ltB b c = false) : ltB a c = false := by
  cases h : ltB a c with
  | false => rfl
  | true =>
    cases h3 : ltB b a with
    | true => rw [ltB_trans h3 h] at h2; cases h2
    | false =>
      have e := ltB_conn h1 h3
      subst e
      rw [h] at h2; cases h2

/-- No name twice, and each ahead of the next. -/
def SortedB (l : List Bd) : Prop := l.Pairwise fun a b => ltB a.nm b.nm = true
/-- No name twice. -/
def ApartB (l : List Bd) : Prop := l.Pairwise fun a b => a.nm ≠ b.nm
theorem SortedB.apart {l : List Bd} (h : SortedB l) : ApartB l := h.imp fun {a b} h e => by rw [e, ltB_irrefl] at h; cases h
theorem ApartB.perm {l k : List Bd} (h : ApartB l) (hp : k.Perm l) : ApartB k := (hp.pairwise_iff (fun {_ _} hne => Ne.symm hne)).2 h
theorem sortedB_unique {l k : List Bd} (hp : l.Perm k) (h1 : SortedB l) (h2 : SortedB k) : l = k :=
  List.Perm.eq_of_pairwise (le := fun a b : Bd => ltB a.nm b.nm = true) (fun a b _ _ h3 h4 => by rw [ltB_asymm h3] at h4; cases h4) h1 h2 hp
/-- Sorted, if none is behind one that it is ahead of. -/
theorem sortedB_of {l : List Bd} (ha : ApartB l) (h : l.Pairwise fun a b => ltB b.nm a.nm = false) : SortedB l := by
  unfold SortedB ApartB at *
  refine (List.pairwise_and_iff.2 ⟨ha, h⟩).imp fun {a b} ⟨h1, h2⟩ => ?_
  cases h3 : ltB a.nm b.nm with
  | true => rfl
  | false => exact absurd (ltB_conn h3 h2) h1

/-- A binding as the map holds it. -/
def toP (x : Bc) : ByteArray × Value := (x.1.nm, .agg #[.string x.1.t.name, .slice x.2.1 x.1.t.args.length x.2.2])
theorem perm_lift {α β : Type} (f : α → β) {l m : List β} (h : l.Perm m) : ∀ zs : List α, zs.map f = m → ∃ zs' : List α, zs'.Perm zs ∧ zs'.map f = l := by
  induction h with
  | nil => intro zs h; exact ⟨zs, List.Perm.refl _, h⟩
  | cons x h ih =>
    intro zs hz
    match zs, hz with
    | z :: zs, hz =>
      simp only [List.map_cons, List.cons.injEq] at hz
      obtain ⟨zs', h1, h2⟩ := ih zs hz.2
      exact ⟨z :: zs', h1.cons z, by simp [h2, hz.1]⟩
  | swap x y l =>
    intro zs hz
    match zs, hz with
    | a :: b :: zs, hz =>
      simp only [List.map_cons, List.cons.injEq] at hz
      exact ⟨b :: a :: zs, List.Perm.swap a b zs, by simp [hz.1, hz.2.1, hz.2.2]⟩
  | trans h1 h2 ih1 ih2 =>
    intro zs hz
    obtain ⟨zs', h3, h4⟩ := ih2 zs hz
    obtain ⟨zs'', h5, h6⟩ := ih1 zs' h4
    exact ⟨zs'', h5.trans h3, h6⟩
/-- The next of those that are still to come. -/
theorem next_lift {Zr : List Bc} {p : ByteArray × Value} {rem : List (ByteArray × Value)} (h : (Zr.map toP).Perm (p :: rem)) : ∃ x Z', Zr.Perm (x :: Z') ∧ p = toP x ∧ rem = Z'.map toP := by
  obtain ⟨zs, h1, h2⟩ := perm_lift toP h.symm Zr rfl
  match zs, h2 with
  | x :: Z', h2 =>
    simp only [List.map_cons, List.cons.injEq] at h2
    exact ⟨x, Z', h1.symm, h2.1.symm, h2.2.symm⟩
#print axioms sortedB_unique
end Go.Proofs.Ytkfppicbningaaa
