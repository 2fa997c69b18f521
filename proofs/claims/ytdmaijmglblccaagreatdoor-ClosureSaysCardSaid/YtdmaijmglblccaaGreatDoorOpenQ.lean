/- Pairs as they are read before the call. -/
import Derived.Test.YtdmaijmglblccaaGreatDoorOpen
import Derived.Test.YtdmaijmglblccaaGreatDoorZClosureSaysOwn
namespace Go.Proofs.YtdmaijmglblccaaGreatDoor
open Go.ChangeShapes Go.WideShapes Go.ChangeAt Go.RowKit
set_option linter.unusedSimpArgs false
set_option linter.unusedVariables false
set_option maxRecDepth 8000

theorem Tryz.cellsPair : Tryz.prog.cellsOf 35 = 4 := by kernel_rfl

theorem cells4 {w : World} {a : Addr} {cs : List Value} (h : w.cells? 0 a 4 = some cs) : ∃ c0 c1 c2 c3, cs = [c0, c1, c2, c3] ∧ w.cell? a = some c0 ∧ w.cell? (a.add 1) = some c1 ∧ w.cell? (a.add 2) = some c2 ∧ w.cell? (a.add 3) = some c3 := by
  have e : (List.range 4) = [0, 1, 2, 3] := rfl
  simp only [World.cells?, Nat.zero_le, if_true, e] at h
  simp only [List.mapM_cons, List.mapM_nil, Option.bind_eq_bind, Option.bind_eq_some_iff, Option.pure_def] at h
  obtain ⟨c0, h0, r, ⟨c1, h1, r2, ⟨c2, h2, r3, ⟨c3, h3, r4, h4, h5⟩, h6⟩, h7⟩, h8⟩ := h
  simp only [Option.some.injEq] at h4 h5 h6 h7 h8
  subst h4; subst h5; subst h6; subst h7; subst h8
  exact ⟨c0, c1, c2, c3, rfl, by simpa [Addr.add] using h0, h1, h2, h3⟩

theorem open_pair {H : Type} {enc : TypeId × Value → H} {w : World} {sp : Nat → Bool} {held : Bool} (fuel : Nat) (cs : List Value) (x : DataW H × List MemPlace) (h : DataW.trod enc Tryz.prog w 0 sp held fuel 35 cs = some x) :
    ∃ (d : Pr) (a1 : Option Addr) (c1 : Nat) (a2 : Option Addr) (c2 : Nat), cs = [.string d.l.name, .slice a1 d.l.args.length c1, .string d.r.name, .slice a2 d.r.args.length c2] ∧ Sl w (fun _ => True) a1 d.l.args ∧ Sl w (fun _ => True) a2 d.r.args := by
  obtain ⟨xs, n, hfu, hx, hl, hxl, hf⟩ := DataW.trod_struct Tryz.underlying35 h
  have f0 := hf 0 _ rfl
  have f1 := hf 1 _ rfl
  rw [Tryz.cellsPair] at hl
  match cs, hl with
  | [c0, c1, c2, c3], _ =>
    match xs, hxl with
    | [y0, y1], _ =>
      simp [Tryz.cellsStr, Tryz.cellsTerm] at f0 f1
      obtain ⟨t1, a1, k1, e1, hs1⟩ := open_term _ _ _ f0
      obtain ⟨t2, a2, k2, e2, hs2⟩ := open_term _ _ _ f1
      simp at e1 e2
      obtain ⟨rfl, rfl⟩ := e1
      obtain ⟨rfl, rfl⟩ := e2
      exact ⟨⟨t1, t2⟩, a1, k1, a2, k2, rfl, hs1, hs2⟩

theorem open_qv {H : Type} {enc : TypeId × Value → H} {w : World} {sp : Nat → Bool} {held : Bool} {r : Reach} {b0 : Nat} {v : Value} {d : DataW H} {p : List MemPlace} (hv : Value.okWide Tryz.prog w r b0 22 v) (h : DataW.Trod enc Tryz.prog w 0 sp held 22 v d p) : ∃ ls, QV w (fun _ => True) v ls := by
  obtain ⟨a0, len0, cap0, rfl⟩ := okWide_slice Tryz.underlying22 hv
  obtain ⟨fuel, hf⟩ := h
  rcases DataW.trod_slice Tryz.underlying22 hf with ⟨e1, _⟩ | ⟨a, len, cap, elems, rest, n2, hn2, e1, _, hb, hlc, hcm, hel, helem, _⟩
  · simp [Value.cells] at e1
    obtain ⟨rfl, rfl, rfl⟩ := e1
    exact ⟨[], none, 0, rfl, by simp, Or.inl rfl⟩
  · simp [Value.cells] at e1
    obtain ⟨rfl, rfl, rfl⟩ := e1
    unfold maxLen at hcm
    rw [Tryz.cellsPair] at helem
    have key : ∀ i, ∃ d : Pr, i < len0 → ∃ a1 c1 a2 c2, w.cell? (a.add (i * 4)) = some (.string d.l.name) ∧ w.cell? ((a.add (i * 4)).add 1) = some (.slice a1 d.l.args.length c1) ∧ w.cell? ((a.add (i * 4)).add 2) = some (.string d.r.name) ∧ w.cell? ((a.add (i * 4)).add 3) = some (.slice a2 d.r.args.length c2) ∧ Sl w (fun _ => True) a1 d.l.args ∧ Sl w (fun _ => True) a2 d.r.args := by
      intro i
      by_cases hi : i < len0
      · have h1 := helem i hi
        have hie : i < elems.length := by omega
        rw [List.getElem?_eq_getElem hie, Option.bind_eq_some_iff] at h1
        obtain ⟨cs', h2, h3⟩ := h1
        obtain ⟨d0, d1, d2, d3, rfl, g0, g1, g2, g3⟩ := cells4 h2
        obtain ⟨d, a1, c1, a2, c2, e3, hs1, hs2⟩ := open_pair n2 _ _ h3
        simp at e3
        obtain ⟨rfl, rfl, rfl, rfl⟩ := e3
        exact ⟨d, fun _ => ⟨a1, c1, a2, c2, g0, g1, g2, g3, hs1, hs2⟩⟩
      · exact ⟨⟨⟨⟨#[]⟩, []⟩, ⟨⟨#[]⟩, []⟩⟩, fun h => absurd h hi⟩
    obtain ⟨Z, hZ⟩ := Classical.skolem.1 key
    refine ⟨(List.range len0).map Z, some a, cap0, by simp, by simp; omega, ?_⟩
    by_cases h0 : len0 = 0
    · subst h0; exact Or.inl rfl
    · right
      obtain ⟨b, o, sp⟩ := a
      obtain ⟨_, _, _, _, g0, _⟩ := hZ 0 (by omega)
      have hsp : sp = none := by simpa [Addr.add] using World.cell?_spot g0
      subst hsp
      refine ⟨b, o, rfl, trivial, fun i hi => ?_⟩
      simp at hi
      obtain ⟨a1, c1, a2, c2, g0, g1, g2, g3, hs1, hs2⟩ := hZ i hi
      simp only [List.getElem_map, List.getElem_range]
      by_cases h00 : i = 0
      · subst h00; exact ⟨a1, c1, a2, c2, by simpa [Addr.add] using g0, by simpa [Addr.add] using g1, by simpa [Addr.add] using g2, by simpa [Addr.add] using g3, hs1, hs2⟩
      · have h3 : i * 4 ≠ 0 := by omega
        exact ⟨a1, c1, a2, c2, by simpa [Addr.add, h3] using g0, by simpa [Addr.add, h3] using g1, by simpa [Addr.add, h3] using g2, by simpa [Addr.add, h3] using g3, hs1, hs2⟩
end Go.Proofs.YtdmaijmglblccaaGreatDoor
