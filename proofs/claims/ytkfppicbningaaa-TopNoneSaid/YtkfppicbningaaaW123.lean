/- Walks: the pair that the law on terms that cannot be made one begins with. -/
import Derived.Test.YtkfppicbningaaaW122
import Derived.Test.YtkfppicbningaaaW112n
namespace Go.Proofs.Ytkfppicbningaaa
open Go.RowKit
set_option linter.unusedSimpArgs false
set_option linter.unusedVariables false
set_option maxRecDepth 8000

theorem pairMade_any (zs : List Int) (hr : ∀ z ∈ zs, Rng z) (hzl : zs.length ≤ 256) (k : Nat) (hk : k < 9) (u : Value) (w : World) (X : Nat → Prop) (hu : PV w X u zs) :
    Calls Try.prog 24 #[u, .int .i64 1, .int .i64 (1 + (k : Int)), .int .i64 3] w fun e w' => PairMade w e w' := by
  have h := pairsFromA_any 3 (by decide) (by decide) zs hr (by omega) (1 + k) 1 u w X hu (by omega) (by omega)
  have e : ((1 + k : Nat) : Int) = 1 + (k : Int) := by omega
  rw [e] at h
  refine (show Calls Try.prog 24 #[u, .int .i64 1, .int .i64 (1 + (k : Int)), .int .i64 3] w _ from h).mono ?_
  rintro e w' ⟨v, ls, rfl, hv, hl, hall, hb⟩
  have ht : top (1 + k) ≤ 17 := by unfold top; split <;> omega
  match ls, hl, hv, hall with
  | [x], _, hv, hall =>
    obtain ⟨⟨z1, o1⟩, z2, o2⟩ := hall x (by simp)
    have hv1 := hv.mono (Y := fun _ => True) fun _ _ _ => trivial
    obtain ⟨a, c, rfl, _, _⟩ := hv
    exact ⟨a, c, x.l, x.r, rfl, hv1, ⟨o1.1, o1.2, by omega⟩, ⟨o2.1, o2.2, by omega⟩, hb⟩
theorem topNone_full (zs : List Int) (hr : ∀ z ∈ zs, Rng z) (y1 : Int) (hy1 : Rng y1) (u : Value) (w : World) (X : Nat → Prop) (hu : PV w X u zs) :
    Calls Try.prog 6 #[u, .int .i64 y1] w fun e w' => e = .returned (.bool true) ∧ Below w.heap.size w w' :=
  topNone_any (hide fact_any) zs hr y1 hy1 u w X hu (hide fun hz k hk => pairMade_any zs hr hz k hk u w X hu)
#print axioms topNone_full
end Go.Proofs.Ytkfppicbningaaa
