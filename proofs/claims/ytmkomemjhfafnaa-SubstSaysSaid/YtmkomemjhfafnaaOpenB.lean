/- Bindings as they are read before the call. -/
import Derived.Test.YtmkomemjhfafnaaOpen
import Derived.Test.YtmkomemjhfafnaaBnd
namespace Go.Proofs.Ytmkomemjhfafnaa
open Go.ChangeShapes Go.WideShapes Go.ChangeAt Go.RowKit
set_option linter.unusedSimpArgs false
set_option linter.unusedVariables false
set_option maxRecDepth 8000

theorem Try.cellsBind : Try.prog.cellsOf 56 = 3 := by kernel_rfl

theorem cells3 {w : World} {a : Addr} {cs : List Value} (h : w.cells? 0 a 3 = some cs) : ∃ c0 c1 c2, cs = [c0, c1, c2] ∧ w.cell? a = some c0 ∧ w.cell? (a.add 1) = some c1 ∧ w.cell? (a.add 2) = some c2 := by
  have e : (List.range 3) = [0, 1, 2] := rfl
  simp only [World.cells?, Nat.zero_le, if_true, e] at h
  simp only [List.mapM_cons, List.mapM_nil, Option.bind_eq_bind, Option.bind_eq_some_iff, Option.pure_def] at h
  obtain ⟨c0, h0, r, ⟨c1, h1, r2, ⟨c2, h2, r3, h3, h4⟩, h5⟩, h6⟩ := h
  simp only [Option.some.injEq] at h3 h4 h5 h6
  subst h3; subst h4; subst h5; subst h6
  exact ⟨c0, c1, c2, rfl, by simpa [Addr.add] using h0, h1, h2⟩

theorem open_bind {H : Type} {enc : TypeId × Value → H} {w : World} {sp : Nat → Bool} {held : Bool} (fuel : Nat) (cs : List Value) (x : DataW H × List MemPlace) (h : DataW.trod enc Try.prog w 0 sp held fuel 56 cs = some x) :
    ∃ (d : Bd) (a : Option Addr) (c : Nat), cs = [.string d.nm, .string d.t.name, .slice a d.t.args.length c] ∧ Sl w (fun _ => True) a d.t.args := by
  obtain ⟨xs, n, hfu, hx, hl, hxl, hf⟩ := DataW.trod_struct Try.underlying56 h
  have f0 := hf 0 _ rfl
  have f1 := hf 1 _ rfl
  rw [Try.cellsBind] at hl
  match cs, hl with
  | [c0, c1, c2], _ =>
    match xs, hxl with
    | [y0, y1], _ =>
      simp [Try.cellsStr, Try.cellsTerm] at f0 f1
      obtain ⟨s, e0, _, hs⟩ := DataW.trod_string Try.underlying9 f0
      simp at e0
      subst e0
      obtain ⟨t, a, c, e, hs⟩ := open_term _ _ _ f1
      simp at e
      obtain ⟨rfl, rfl⟩ := e
      exact ⟨⟨s, t⟩, a, c, rfl, hs⟩

theorem open_bv {H : Type} {enc : TypeId × Value → H} {w : World} {sp : Nat → Bool} {held : Bool} {r : Reach} {b0 : Nat} {v : Value} {d : DataW H} {p : List MemPlace} (hv : Value.okWide Try.prog w r b0 22 v) (h : DataW.Trod enc Try.prog w 0 sp held 22 v d p) : ∃ ls, BV w (fun _ => True) v ls := by
  obtain ⟨a0, len0, cap0, rfl⟩ := okWide_slice Try.underlying22 hv
  obtain ⟨fuel, hf⟩ := h
  rcases DataW.trod_slice Try.underlying22 hf with ⟨e1, _⟩ | ⟨a, len, cap, elems, rest, n2, hn2, e1, _, hb, hlc, hcm, hel, helem, _⟩
  · simp [Value.cells] at e1
    obtain ⟨rfl, rfl, rfl⟩ := e1
    exact ⟨[], none, 0, rfl, by simp, Or.inl rfl⟩
  · simp [Value.cells] at e1
    obtain ⟨rfl, rfl, rfl⟩ := e1
    unfold maxLen at hcm
    rw [Try.cellsBind] at helem
    have key : ∀ i, ∃ d : Bd, i < len0 → ∃ a' c', w.cell? (a.add (i * 3)) = some (.string d.nm) ∧ w.cell? ((a.add (i * 3)).add 1) = some (.string d.t.name) ∧ w.cell? ((a.add (i * 3)).add 2) = some (.slice a' d.t.args.length c') ∧ Sl w (fun _ => True) a' d.t.args := by
      intro i
      by_cases hi : i < len0
      · have h1 := helem i hi
        have hie : i < elems.length := by omega
        rw [List.getElem?_eq_getElem hie, Option.bind_eq_some_iff] at h1
        obtain ⟨cs', h2, h3⟩ := h1
        obtain ⟨d0, d1, d2, rfl, g0, g1, g2⟩ := cells3 h2
        obtain ⟨d, a', c', e3, hsl⟩ := open_bind n2 _ _ h3
        simp at e3
        obtain ⟨rfl, rfl, rfl⟩ := e3
        exact ⟨d, fun _ => ⟨a', c', g0, g1, g2, hsl⟩⟩
      · exact ⟨⟨⟨#[]⟩, ⟨⟨#[]⟩, []⟩⟩, fun h => absurd h hi⟩
    obtain ⟨Z, hZ⟩ := Classical.skolem.1 key
    refine ⟨(List.range len0).map Z, some a, cap0, by simp, by simp; omega, ?_⟩
    by_cases h0 : len0 = 0
    · subst h0; exact Or.inl rfl
    · right
      obtain ⟨b, o, sp⟩ := a
      obtain ⟨_, _, g0, _⟩ := hZ 0 (by omega)
      have hsp : sp = none := by simpa [Addr.add] using World.cell?_spot g0
      subst hsp
      refine ⟨b, o, rfl, trivial, fun i hi => ?_⟩
      simp at hi
      obtain ⟨a', c', g0, g1, g2, hsl⟩ := hZ i hi
      simp only [List.getElem_map, List.getElem_range]
      by_cases h00 : i = 0
      · subst h00; exact ⟨by simpa [Addr.add] using g0, by simpa [Addr.add] using g1, a', c', by simpa [Addr.add] using g2, hsl⟩
      · have h3 : i * 3 ≠ 0 := by omega
        exact ⟨by simpa [Addr.add, h3] using g0, by simpa [Addr.add, h3] using g1, a', c', by simpa [Addr.add, h3] using g2, hsl⟩
#print axioms open_bv
end Go.Proofs.Ytmkomemjhfafnaa
