/- Walks: the places of a term. -/
import Derived.Test.YtndebgcjhodkfaiW25
import Derived.Test.YtndebgcjhodkfaiW18
import Derived.Test.YtndebgcjhodkfaiW4
namespace Go.Proofs.Ytndebgcjhodkfai
open Go.RowKit
set_option linter.unusedSimpArgs false
set_option linter.unusedVariables false
set_option maxRecDepth 8000

theorem Fr2.below {w w' : World} (h : Fr2 w w' (.slice none 0 0) (.slice none 0 0)) : Below w.heap.size w w' :=
  ⟨h.1, h.2.1, h.2.2.1, h.2.2.2.1, fun k hk => h.2.2.2.2 k hk (by simp [Value.ownBlock]) (by simp [Value.ownBlock])⟩

theorem plAt_nil (w : World) (N : Nat) : PlAt w N (.slice none 0 0) (.slice none 0 0) [] (fun _ => False) [] (.slice none 0 0) [] w :=
  ⟨World.ownsRow_nil _ _ _ _, World.ownsRow_nil _ _ _ _, rfl, Fr2.of_below (Below.refl _ _) _ _, fun _ h => Or.inl h⟩

theorem places_any (t : Tm) (v : Value) (w : World) (X : Nat → Prop) (hv : TV w X v t) :
    Calls Try.prog 9 #[v] w fun e w' => ∃ v', e = .returned (.tuple #[v', .int .i64 (mayE t)]) ∧ (mayE t = 0 → ∃ xs, w'.ownsRow w.heap.size 22 1 v' (plcT t).length xs ∧ RowP w' (fun b => w.heap.size ≤ b) (plcT t) xs) ∧ (mayE t ≠ 0 → v' = .slice none 0 0) ∧ Below w.heap.size w w' := by
  obtain ⟨X', hX, hv'⟩ : ∃ X' : Nat → Prop, (∀ b, X' b → b < w.heap.size) ∧ TV w X' v t := ⟨fun b => X b ∧ b < w.heap.size, fun _ h => h.2, hv.mono fun b h1 h2 => ⟨h1, h2⟩⟩
  clear hv
  obtain ⟨a, c, rfl, hs⟩ := hv'
  have HV := hide (show TV w X' (.agg #[.string t.name, .slice a t.args.length c]) t from ⟨a, c, rfl, hs⟩)
  clear hs
  go_enter Try.func9, Try.ntmps9
  go_wp2_with fail
  refine (check_any t _ _ X' (by exact HV.out.alloc _)).mono ?_
  rintro e w1 ⟨rfl, hb1⟩
  have hbk := (Blk.new w #[.string t.name, .slice a t.args.length c] 25).below hb1 (by simp)
  have c0 : w1.cell? ⟨w.heap.size, 0, none⟩ = some (.string t.name) := hbk.cell 0
  have c1 : w1.cell? ⟨w.heap.size, 1, none⟩ = some (.slice a t.args.length c) := hbk.cell 1
  have HB := hide (((Below.refl w.heap.size w).alloc (Nat.le_refl _) (.cells #[.string t.name, .slice a t.args.length c] 25)).trans (hb1.mono (by simp)))
  clear hb1 hbk
  by_cases h : mayE t = 0
  · have HM := hide h
    have HE : Hid (sizeL [t] ≤ 200) := by
      unfold mayE at h
      split at h
      · exact absurd h (by decide)
      · unfold Hid; omega
    rw [h]
    clear h
    go_wp2_with fail
    refine (addPlaces_any t _ _ _ [] [] [] (fun _ => False) _ X' w1.heap.size (by exact HV.out.later HB.out) (fun b hb => by have := hX b hb; have := HB.out.size; omega) (Nat.le_refl _) (fun _ h => h.elim) (plAt_nil _ _) (by have := HE.out; simp; omega) (by have := HE.out; simp; omega)).mono ?_
    rintro e w2 ⟨q2, xs2, rfl, hpl⟩
    have HPL := hide hpl
    clear hpl
    go_wp2_with fail
    go_ret2
    refine ⟨q2, by rw [HM.out]; rfl, fun _ => ⟨xs2, ?_, ?_⟩, fun h => absurd HM.out h, HB.out.trans (HPL.out.2.2.2.1.below.mono HB.out.size)⟩
    · have := HPL.out.1
      simp at this
      exact owns_le this HB.out.size
    · have := HPL.out.2.2.1
      simp at this
      exact this.imp fun u z hp => hp.mono fun b hb _ => Nat.le_trans HB.out.size hb.1
  · have h' : (mayE t == 0) = false := by simpa using h
    have HM := hide h
    clear h
    go_wp2_with fail
    go_ret2
    exact ⟨_, rfl, fun h => absurd h HM.out, fun _ => rfl, HB.out⟩
#print axioms places_any
end Go.Proofs.Ytndebgcjhodkfai
