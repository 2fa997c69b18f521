/- Plain: lambda terms without what is bound: it is the same whatever the names of what is bound begin with. -/
import Derived.Test.YtcdabjekppddjaaGreatDoorBk9
import Derived.Test.YtcdabjekppddjaaGreatDoorZCombSaysOwn
namespace Go.Proofs.YtcdabjekppddjaaGreatDoor
set_option linter.unusedSimpArgs false
set_option linter.unusedVariables false

/-- What a number's digits are worth. -/
def decV (l : List UInt8) : Nat := l.foldl (fun a b => 10 * a + (b.toNat - 48)) 0
theorem decV_snoc (l : List UInt8) (b : UInt8) : decV (l ++ [b]) = 10 * decV l + (b.toNat - 48) := by simp [decV]
theorem dig_val {n : Nat} (h : n < 10) : (UInt8.ofNat (48 + n)).toNat - 48 = n := by
  rw [UInt8.toNat_ofNat']
  omega
theorem decV_dec (n : Nat) : decV (Lib.decDigits n) = n := by
  induction n using Nat.strongRecOn with
  | ind n ih =>
    by_cases h : n < 10
    · rw [Lib.decDigits, dif_pos h]
      have := decV_snoc [] (UInt8.ofNat (48 + n))
      simp only [List.nil_append] at this
      rw [this, dig_val h]
      simp [decV]
    · have e : Lib.decDigits n = Lib.decDigits (n / 10) ++ [UInt8.ofNat (48 + n % 10)] := by
        conv => lhs; rw [Lib.decDigits, dif_neg h]
      rw [e, decV_snoc, ih (n / 10) (by omega), dig_val (by omega)]
      omega
/-- Such a name. -/
def nmP (p : UInt8) (k : Nat) : ByteArray := ⟨(p :: Lib.decDigits k).toArray⟩
theorem nmP_inj {p : UInt8} {j k : Nat} (h : nmP p j = nmP p k) : j = k := by
  unfold nmP at h
  simp only [ByteArray.mk.injEq] at h
  have h1 := congrArg Array.toList h
  simp only [List.toList_toArray, List.cons.injEq, true_and] at h1
  rw [← decV_dec j, h1, decV_dec]
theorem nmP_head {p q : UInt8} {j : Nat} {l : List UInt8} (h : nmP p j = ⟨(q :: l).toArray⟩) : p = q := by
  unfold nmP at h
  simp only [ByteArray.mk.injEq] at h
  have h1 := congrArg Array.toList h
  simp only [List.toList_toArray, List.cons.injEq] at h1
  exact h1.1
/-- The same but for the names' beginnings. -/
inductive Rn (d : Nat) : Tm → Tm → Prop where
  | same (q : UInt8) (l : List UInt8) (h1 : q ≠ 86) (h2 : q ≠ 88) : Rn d ⟨⟨(q :: l).toArray⟩, []⟩ ⟨⟨(q :: l).toArray⟩, []⟩
  | var (k : Nat) (h : k < d) : Rn d ⟨nmP 86 k, []⟩ ⟨nmP 88 k, []⟩
  | ap {f f' x x' : Tm} : Rn d f f' → Rn d x x' → Rn d (apT f x) (apT f' x')
theorem Rn.size {d : Nat} {t t' : Tm} (h : Rn d t t') : sizeL [t] = sizeL [t'] := by
  induction h with
  | same => rfl
  | var => simp [sizeL]
  | ap _ _ h1 h2 => rw [size_ap, size_ap, h1, h2]
theorem Rn.isC {d : Nat} {t t' : Tm} (h : Rn d t t') : isC t = true ∧ isC t' = true := by
  induction h with
  | same => exact ⟨isC_leaf _, isC_leaf _⟩
  | var => exact ⟨isC_leaf _, isC_leaf _⟩
  | ap _ _ h1 h2 => rw [isC_ap, isC_ap, h1.1, h1.2, h2.1, h2.2]; exact ⟨rfl, rfl⟩
theorem Rn.zero {t t' : Tm} (h : Rn 0 t t') : t = t' := by
  induction h with
  | same => rfl
  | var k h => omega
  | ap _ _ h1 h2 => rw [h1, h2]
theorem nm_ap (p : UInt8) (h : p ≠ 97) (d : Nat) : nmP p d ≠ apB := fun e => h (nmP_head (q := 97) (l := [112]) e)
theorem Rn.name {d k : Nat} {t t' : Tm} (h : Rn d t t') : t.name = nmP 86 k ↔ t'.name = nmP 88 k := by
  cases h with
  | same q l h1 h2 =>
    constructor
    · intro e; exact absurd (nmP_head e.symm).symm h1
    · intro e; exact absurd (nmP_head e.symm).symm h2
  | var j h =>
    constructor
    · intro e; rw [nmP_inj e]
    · intro e; rw [nmP_inj e]
  | ap h1 h2 =>
    constructor
    · intro e; exact absurd e.symm (nm_ap 86 (by decide) k)
    · intro e; exact absurd e.symm (nm_ap 88 (by decide) k)
theorem br_keep (v : ByteArray) (n : Nat) : ∀ t : Tm, (brR v n t).2 = false → (brR v n t).1 = t := by
  cases n with
  | zero => intro t _; rfl
  | succ n =>
    rintro ⟨s, l⟩ h
    unfold brR at h ⊢
    by_cases h1 : s = v
    · rw [if_pos h1] at h; cases h
    · rw [if_neg h1] at h ⊢
      split at h
      · split at h
        · rename_i h2
          simp only [h2, and_self, if_true]
        · split at h <;> cases h
      · rfl
end Go.Proofs.YtcdabjekppddjaaGreatDoor
