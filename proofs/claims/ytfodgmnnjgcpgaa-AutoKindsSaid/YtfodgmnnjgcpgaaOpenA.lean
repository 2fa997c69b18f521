/- Automata as they are read before the call. -/
import Derived.Test.YtfodgmnnjgcpgaaRows
import Derived.Test.YtfodgmnnjgcpgaaAu2
import Derived.Test.YtfodgmnnjgcpgaaOpen
import Derived.ProofKit
namespace Go.Proofs.Ytfodgmnnjgcpgaa
open Go.ChangeShapes Go.WideShapes Go.ChangeAt Go.RowKit
set_option linter.unusedSimpArgs false
set_option linter.unusedVariables false
set_option maxRecDepth 8000

theorem Try.cellsAuto : Try.prog.cellsOf 25 = 3 := by kernel_rfl
theorem Try.cellsMove : Try.prog.cellsOf 49 = 3 := by kernel_rfl
theorem Try.cellsMoves : Try.prog.cellsOf 22 = 1 := by kernel_rfl
theorem Try.cellsInts : Try.prog.cellsOf 23 = 1 := by kernel_rfl
theorem cells3A {w : World} {a : Addr} {cs : List Value} (h : w.cells? 0 a 3 = some cs) : ∃ c0 c1 c2, cs = [c0, c1, c2] ∧ w.cell? a = some c0 ∧ w.cell? (a.add 1) = some c1 ∧ w.cell? (a.add 2) = some c2 := by
  have e : (List.range 3) = [0, 1, 2] := rfl
  simp only [World.cells?, Nat.zero_le, if_true, e] at h
  simp only [List.mapM_cons, List.mapM_nil, Option.bind_eq_bind, Option.bind_eq_some_iff, Option.pure_def] at h
  obtain ⟨c0, h0, r, ⟨c1, h1, r1, ⟨c2, h2, r2, h3, h4⟩, h5⟩, h6⟩ := h
  simp only [Option.some.injEq] at h3 h4 h5 h6
  subst h3; subst h4; subst h5; subst h6
  exact ⟨c0, c1, c2, rfl, by simpa [Addr.add] using h0, h1, h2⟩
theorem open_ints {H : Type} {enc : TypeId × Value → H} {w : World} {sp : Nat → Bool} {held : Bool} {fuel : Nat} {c : Value} {x : DataW H × List MemPlace} (hf : DataW.trod enc Try.prog w 0 sp held fuel 23 [c] = some x) : ∃ zs a cap, c = .slice a zs.length cap ∧ PV w (fun _ => True) (.slice a zs.length cap) zs := by
  rcases DataW.trod_slice Try.underlying23 hf with ⟨e1, _⟩ | ⟨a, len, cap, elems, rest, n2, hn2, e1, _, hb, hlc, hcm, hel, helem, _⟩
  · simp at e1
    subst e1
    exact ⟨[], none, 0, rfl, none, 0, rfl, by simp, Or.inl rfl⟩
  · simp at e1
    subst e1
    unfold maxLen at hcm
    rw [Try.cellsInt] at helem
    have key : ∀ i, ∃ z : Int, (i < len → w.cell? (a.add i) = some (.int .i64 z)) := by
      intro i
      by_cases hi : i < len
      · have h1 := helem i hi
        have hie : i < elems.length := by omega
        rw [List.getElem?_eq_getElem hie, Option.bind_eq_some_iff, Nat.mul_one] at h1
        obtain ⟨cs', h2, h3⟩ := h1
        obtain ⟨d0, rfl, g0⟩ := cells1 h2
        obtain ⟨z, e3, _, _⟩ := DataW.trod_int Try.underlying3 h3
        simp at e3
        subst e3
        exact ⟨z, fun _ => g0⟩
      · exact ⟨0, fun h => absurd h hi⟩
    obtain ⟨Z, hZ⟩ := Classical.skolem.1 key
    refine ⟨(List.range len).map Z, some a, cap, by simp, ⟨some a, cap, rfl, by simp; omega, ?_⟩⟩
    by_cases h0 : len = 0
    · subst h0; exact Or.inl rfl
    · right
      obtain ⟨b, o, sp⟩ := a
      have g0 := hZ 0 (by omega)
      have hsp : sp = none := by simpa [Addr.add] using World.cell?_spot g0
      subst hsp
      refine ⟨b, o, rfl, trivial, fun i hi => ?_⟩
      simp at hi
      have g1 := hZ i hi
      simp only [List.getElem_map, List.getElem_range]
      by_cases h00 : i = 0
      · subst h00; simpa [Addr.add] using g1
      · simpa [Addr.add, h00] using g1
theorem open_move {H : Type} {enc : TypeId × Value → H} {w : World} {sp : Nat → Bool} {held : Bool} {fuel : Nat} {cs : List Value} {x : DataW H × List MemPlace} (h : DataW.trod enc Try.prog w 0 sp held fuel 49 cs = some x) : ∃ (m : Mv) (a : Option Addr) (c : Nat), cs = [.string m.name, .slice a m.frm.length c, .int .i64 m.to] ∧ PV w (fun _ => True) (.slice a m.frm.length c) m.frm := by
  obtain ⟨xs, n, hfu, hx, hl, hxl, hf⟩ := DataW.trod_struct Try.underlying49 h
  have f0 := hf 0 _ rfl
  have f1 := hf 1 _ rfl
  have f2 := hf 2 _ rfl
  rw [Try.cellsMove] at hl
  match cs, hl with
  | [c0, c1, c2], _ =>
    match xs, hxl with
    | [y0, y1, y2], _ =>
      simp [Try.cellsInt, Try.cellsInts, Try.cellsStr] at f0 f1 f2
      obtain ⟨nm, e0, _⟩ := DataW.trod_string Try.underlying9 f0
      simp at e0
      subst e0
      obtain ⟨zs, a, cap, e1, hp⟩ := open_ints f1
      subst e1
      obtain ⟨tv0, e2, _⟩ := DataW.trod_int Try.underlying3 f2
      simp at e2
      subst e2
      exact ⟨⟨nm, zs, tv0⟩, a, cap, rfl, hp⟩
theorem open_moves {H : Type} {enc : TypeId × Value → H} {w : World} {sp : Nat → Bool} {held : Bool} {fuel : Nat} {c : Value} {x : DataW H × List MemPlace} (hf : DataW.trod enc Try.prog w 0 sp held fuel 22 [c] = some x) : ∃ ms a cap, c = .slice a ms.length cap ∧ SlV w (fun _ => True) a ms := by
  rcases DataW.trod_slice Try.underlying22 hf with ⟨e1, _⟩ | ⟨a, len, cap, elems, rest, n2, hn2, e1, _, hb, hlc, hcm, hel, helem, _⟩
  · simp at e1
    subst e1
    exact ⟨[], none, 0, rfl, by simp, Or.inl rfl⟩
  · simp at e1
    subst e1
    unfold maxLen at hcm
    rw [Try.cellsMove] at helem
    have key : ∀ i, ∃ m : Mv, i < len → ∃ a' c', w.cell? (a.add (i * 3)) = some (.string m.name) ∧ w.cell? ((a.add (i * 3)).add 1) = some (.slice a' m.frm.length c') ∧ w.cell? ((a.add (i * 3)).add 2) = some (.int .i64 m.to) ∧ PV w (fun _ => True) (.slice a' m.frm.length c') m.frm := by
      intro i
      by_cases hi : i < len
      · have h1 := helem i hi
        have hie : i < elems.length := by omega
        rw [List.getElem?_eq_getElem hie, Option.bind_eq_some_iff] at h1
        obtain ⟨cs', h2, h3⟩ := h1
        obtain ⟨d0, d1, d2, rfl, g0, g1, g2⟩ := cells3A h2
        obtain ⟨m, a', c', e3, hp⟩ := open_move h3
        simp at e3
        obtain ⟨rfl, rfl, rfl⟩ := e3
        exact ⟨m, fun _ => ⟨a', c', g0, g1, g2, hp⟩⟩
      · exact ⟨⟨⟨#[]⟩, [], 0⟩, fun h => absurd h hi⟩
    obtain ⟨T, hT⟩ := Classical.skolem.1 key
    refine ⟨(List.range len).map T, some a, cap, by simp, by simp; omega, ?_⟩
    by_cases h0 : len = 0
    · subst h0; exact Or.inl rfl
    · right
      obtain ⟨b, o, sp⟩ := a
      obtain ⟨a0, c0, g0, _, _, _⟩ := hT 0 (by omega)
      have hsp : sp = none := by simpa [Addr.add] using World.cell?_spot g0
      subst hsp
      refine ⟨b, o, rfl, trivial, fun i hi => ?_⟩
      simp at hi
      obtain ⟨a', c', g0, g1, g2, hp⟩ := hT i hi
      unfold MvAt
      simp only [List.getElem_map, List.getElem_range]
      refine ⟨?_, ⟨a', c', ?_, hp⟩, ?_⟩
      · by_cases h00 : i = 0
        · subst h00; simpa [Addr.add] using g0
        · have : i * 3 ≠ 0 := by omega
          simpa [Addr.add, this] using g0
      · by_cases h00 : i = 0
        · subst h00; simpa [Addr.add] using g1
        · have : i * 3 ≠ 0 := by omega
          simpa [Addr.add, this] using g1
      · by_cases h00 : i = 0
        · subst h00; simpa [Addr.add] using g2
        · have : i * 3 ≠ 0 := by omega
          simpa [Addr.add, this] using g2
theorem open_av {H : Type} {enc : TypeId × Value → H} {w : World} {sp : Nat → Bool} {held : Bool} {r : Reach} {b0 : Nat} {v : Value} {d : DataW H} {p : List MemPlace} (hv : Value.okWide Try.prog w r b0 25 v) (h : DataW.Trod enc Try.prog w 0 sp held 25 v d p) : ∃ A, AV w (fun _ => True) v A := by
  obtain ⟨cs, rfl, hsz⟩ := okWide_struct Try.underlying25 hv
  obtain ⟨fuel, hf⟩ := h
  obtain ⟨xs, n, hfu, hx, hl, hxl, hf⟩ := DataW.trod_struct Try.underlying25 hf
  have f0 := hf 0 _ rfl
  have f1 := hf 1 _ rfl
  have f2 := hf 2 _ rfl
  rw [Try.cellsAuto] at hl
  obtain ⟨cs⟩ := cs
  simp only [Value.cells] at hl f0 f1 f2
  match cs, hl with
  | [c0, c1, c2], _ =>
    match xs, hxl with
    | [y0, y1, y2], _ =>
      simp [Try.cellsInt, Try.cellsInts, Try.cellsMoves] at f0 f1 f2
      obtain ⟨st, e0, _⟩ := DataW.trod_int Try.underlying3 f0
      simp at e0
      subst e0
      obtain ⟨ms, am, cm, e1, hm⟩ := open_moves f1
      subst e1
      obtain ⟨ls, al, cl, e2, hp⟩ := open_ints f2
      subst e2
      exact ⟨⟨st, ms, ls⟩, am, cm, al, cl, rfl, hm, hp⟩
end Go.Proofs.Ytfodgmnnjgcpgaa
