/- A row of terms as it is read before the call. -/
import Derived.Test.YtdcimaobkeaenaaGreatOpen
namespace Go.Proofs.YtdcimaobkeaenaaGreat
open Go.ChangeShapes Go.WideShapes Go.ChangeAt Go.RowKit
set_option linter.unusedSimpArgs false
set_option linter.unusedVariables false
set_option maxRecDepth 8000

theorem open_tl {H : Type} {enc : TypeId × Value → H} {w : World} {sp : Nat → Bool} {held : Bool} {r : Reach} {b0 : Nat} {v : Value} {d : DataW H} {p : List MemPlace} (hv : Value.okWide Tryz.prog w r b0 22 v) (h : DataW.Trod enc Tryz.prog w 0 sp held 22 v d p) : ∃ (ls : List Tm) (a : Option Addr) (c : Nat), v = .slice a ls.length c ∧ Sl w (fun _ => True) a ls := by
  obtain ⟨a0, len0, cap0, rfl⟩ := okWide_slice Tryz.underlying22 hv
  obtain ⟨fuel, hf⟩ := h
  rcases DataW.trod_slice Tryz.underlying22 hf with ⟨e1, _⟩ | ⟨a, len, cap, elems, rest, n2, hn2, e1, _, hb, hlc, hcm, hel, helem, _⟩
  · simp [Value.cells] at e1
    obtain ⟨rfl, rfl, rfl⟩ := e1
    exact ⟨[], none, 0, rfl, by simp, Or.inl rfl⟩
  · simp [Value.cells] at e1
    obtain ⟨rfl, rfl, rfl⟩ := e1
    unfold maxLen at hcm
    rw [Tryz.cellsTerm] at helem
    have key : ∀ i, ∃ t : Tm, i < len0 → ∃ a' c', w.cell? (a.add (i * 2)) = some (.string t.name) ∧ w.cell? ((a.add (i * 2)).add 1) = some (.slice a' t.args.length c') ∧ Sl w (fun _ => True) a' t.args := by
      intro i
      by_cases hi : i < len0
      · have h1 := helem i hi
        have hie : i < elems.length := by omega
        rw [List.getElem?_eq_getElem hie, Option.bind_eq_some_iff] at h1
        obtain ⟨cs', h2, h3⟩ := h1
        obtain ⟨d0, d1, rfl, g0, g1⟩ := cells2 h2
        obtain ⟨t, a', c', e3, hsl⟩ := open_term n2 _ _ h3
        simp at e3
        obtain ⟨rfl, rfl⟩ := e3
        exact ⟨t, fun _ => ⟨a', c', g0, g1, hsl⟩⟩
      · exact ⟨⟨⟨#[]⟩, []⟩, fun h => absurd h hi⟩
    obtain ⟨T, hT⟩ := Classical.skolem.1 key
    refine ⟨(List.range len0).map T, some a, cap0, by simp, by simp; omega, ?_⟩
    by_cases h0 : len0 = 0
    · subst h0; exact Or.inl rfl
    · right
      obtain ⟨b, o, sp⟩ := a
      obtain ⟨a0, c0, g0, _, _⟩ := hT 0 (by omega)
      have hsp : sp = none := by simpa [Addr.add] using World.cell?_spot g0
      subst hsp
      refine ⟨b, o, rfl, lies_mk _ _ _ fun i hi => ?_⟩
      simp at hi
      obtain ⟨a', c', g0, g1, hsl⟩ := hT i hi
      refine ⟨trivial, ?_, a', c', ?_, ?_⟩
      · simp only [List.getElem_map, List.getElem_range]
        by_cases h00 : i = 0
        · subst h00; simpa [Addr.add] using g0
        · have : i * 2 ≠ 0 := by omega
          simpa [Addr.add, this] using g0
      · simp only [List.getElem_map, List.getElem_range]
        by_cases h00 : i = 0
        · subst h00; simpa [Addr.add] using g1
        · have : i * 2 ≠ 0 := by omega
          simpa [Addr.add, this] using g1
      · simpa using hsl
end Go.Proofs.YtdcimaobkeaenaaGreat
