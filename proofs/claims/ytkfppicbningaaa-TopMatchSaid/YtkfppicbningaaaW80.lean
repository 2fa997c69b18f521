/- Walks: two bindings by their names. -/
import Derived.Test.YtkfppicbningaaaSrt
import Derived.Test.YtkfppicbningaaaZTopMatchOwn
import Derived.Sort.Grow
namespace Go.Proofs.Ytkfppicbningaaa
open Go.RowKit
set_option linter.unusedSimpArgs false
set_option linter.unusedVariables false
set_option maxRecDepth 8000

/-- How two texts stand to each other. -/
def cmpN (a b : ByteArray) : Int := if ltB a b = true then -1 else if ltB b a = true then 1 else 0
theorem isNaN_any (a : ByteArray) (w : World) : Calls Try.prog 78 #[.string a] w fun e w' => e = .returned (.bool false) ∧ w' = w := by
  go_enter Try.func78, Try.ntmps78
  go_wp2_with fail
  go_ret
  exact ⟨by simp, rfl⟩
theorem compare_any (a b : ByteArray) (w : World) : Calls Try.prog 55 #[.string a, .string b] w fun e w' => e = .returned (.int .i64 (cmpN a b)) ∧ w' = w := by
  cases h1 : Op.bytesLess a.toList b.toList with
  | true =>
    have HN : Hid (cmpN a b = -1) := by unfold Hid cmpN ltB; rw [h1]; rfl
    go_enter Try.func55, Try.ntmps55
    go_wp2_with (go_at_call 78; refine (isNaN_any _ _).mono ?_; rintro e w' ⟨rfl, rfl⟩)
    go_ret
    exact ⟨by rw [HN.out]; rfl, rfl⟩
  | false =>
    by_cases he : a = b
    · have HN : Hid (cmpN a b = 0) := by unfold Hid cmpN ltB; rw [h1, he, bl_irrefl]; rfl
      have h2 : (a.toList == b.toList) = true := bytes_yes he
      clear he
      go_enter Try.func55, Try.ntmps55
      go_wp2_with (go_at_call 78; refine (isNaN_any _ _).mono ?_; rintro e w' ⟨rfl, rfl⟩)
      go_ret
      exact ⟨by rw [HN.out]; rfl, rfl⟩
    · have HN : Hid (cmpN a b = 1) := by
        unfold Hid cmpN
        have h3 : ltB b a = true := by
          cases h : ltB b a with
          | true => rfl
          | false => exact absurd (ltB_conn h1 h) he
        rw [if_neg (by unfold ltB; rw [h1]; simp), if_pos h3]
      have h2 : (a.toList == b.toList) = false := bytes_no he
      clear he
      go_enter Try.func55, Try.ntmps55
      go_wp2_with (go_at_call 78; refine (isNaN_any _ _).mono ?_; rintro e w' ⟨rfl, rfl⟩)
      go_ret
      exact ⟨by rw [HN.out]; rfl, rfl⟩
open Go.Sort in
theorem inOrder1_any (x y : Bc) (w : World) : Calls Try.prog 54 #[.agg (enc3 x).toArray, .agg (enc3 y).toArray] w fun e w' => e = .returned (.int .i64 (cmpN x.1.nm y.1.nm)) ∧ ∃ q os', w' = grow (w.drewN q) os' := by
  have HC := hide (fun w' => compare_any x.1.nm y.1.nm w')
  generalize cmpN x.1.nm y.1.nm = z at *
  unfold enc3
  go_enter Try.func54, Try.ntmps54
  go_wp2_with (go_at_call 55; refine (HC.out _).mono ?_; rintro e w' ⟨rfl, rfl⟩)
  go_ret
  exact ⟨rfl, 0, _, by rw [alloc_eq_grow, alloc_eq_grow, grow_grow]; rfl⟩
#print axioms compare_any
#print axioms inOrder1_any
end Go.Proofs.Ytkfppicbningaaa
