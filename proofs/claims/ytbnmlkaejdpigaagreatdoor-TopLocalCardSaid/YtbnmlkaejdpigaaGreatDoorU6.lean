import Derived.Test.YtbnmlkaejdpigaaGreatDoorZBTopLocalOwn
namespace Go.Proofs.YtbnmlkaejdpigaaGreatDoor
open Go.RowKit
set_option linter.unusedSimpArgs false
set_option linter.unusedVariables false
theorem occ_size {t : List Bd} (ht : ∀ d ∈ t, varB d.nm = true) {x : ByteArray} (hx : varB x = true) : ∀ l : List Tm, errL l = 0 → occL x l → sizeL [onT t ⟨x, []⟩] ≤ sizeL (onL t l) := by
 intro l
 induction l using Tm.indL with
 | h0 => intro _ ho; obtain ⟨k, hk, _⟩ := ho; simp [preL] at hk
 | h n l r ihl ihr =>
  intro he ho
  obtain ⟨g1, g2, g3⟩ := errL_parts he
  have hcc := size_cons (onT t ⟨n, l⟩) (onL t r)
  rw [onL_cons]
  rcases occL_node.1 ho with rfl | ho | ho
  ·have e := g1 hx
   subst e
   omega
  ·cases hv : varB n with
   | false =>
    have := ihl g2 ho
    rw [onT_sym2 ht hv] at hcc ⊢
    have e : sizeL [(⟨n, onL t l⟩ : Tm)] = 1 + sizeL (onL t l) := by simp [sizeL]
    omega
   | true =>
    have e := g1 hv
    subst e
    obtain ⟨k, hk, _⟩ := ho
    simp [preL] at hk
  ·have := ihr g3 ho
   omega
theorem var_leaf {u : Tm} (he : errL [u] = 0) (hv : varB u.name = true) : u = ⟨u.name, []⟩ := by
 obtain ⟨n, k⟩ := u
 have := (errL_parts he).1 hv
 subst this
 rfl
end Go.Proofs.YtbnmlkaejdpigaaGreatDoor
