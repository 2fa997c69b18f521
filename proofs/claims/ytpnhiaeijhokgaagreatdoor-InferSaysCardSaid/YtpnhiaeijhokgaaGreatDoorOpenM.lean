import Derived.Test.YtpnhiaeijhokgaaGreatDoorRows
import Derived.Test.YtpnhiaeijhokgaaGreatDoorZInferSaysOwn
import Derived.ProofKit
namespace Go.Proofs.YtpnhiaeijhokgaaGreatDoor
open Go.ChangeShapes Go.WideShapes Go.ChangeAt Go.RowKit
set_option linter.unusedSimpArgs false
set_option linter.unusedVariables false
set_option maxRecDepth 8000
theorem Tryz.cellsLam : Tryz.prog.cellsOf 24 = 3 := by kernel_rfl
theorem Tryz.cellsIntM : Tryz.prog.cellsOf 3 = 1 := by kernel_rfl
theorem Tryz.cellsSlM : Tryz.prog.cellsOf 22 = 1 := by kernel_rfl
theorem cells3 {w : World} {a : Addr} {cs : List Value} (h : w.cells? 0 a 3 = some cs) : ∃ c0 c1 c2, cs = [c0, c1, c2] ∧ w.cell? a = some c0 ∧ w.cell? (a.add 1) = some c1 ∧ w.cell? (a.add 2) = some c2 := by
 have e : (List.range 3) = [0, 1, 2] := rfl
 simp only [World.cells?, Nat.zero_le, if_true, e] at h
 simp only [List.mapM_cons, List.mapM_nil, Option.bind_eq_bind, Option.bind_eq_some_iff, Option.pure_def] at h
 obtain ⟨c0, h0, r, ⟨c1, h1, r1, ⟨c2, h2, r2, h3, h4⟩, h5⟩, h6⟩ := h
 simp only [Option.some.injEq] at h3 h4 h5 h6
 subst h3; subst h4; subst h5; subst h6
 exact ⟨c0, c1, c2, rfl, by simpa [Addr.add] using h0, h1, h2⟩
theorem liesM_mk {w : World} {X : Nat → Prop} : ∀ (l : List Lm) (b o : Nat), (∀ i (h : i < l.length), X b ∧ w.cell? ⟨b, o + i * 3, none⟩ = some (.int .i64 l[i].kind) ∧ w.cell? ⟨b, o + i * 3 + 1, none⟩ = some (.int .i64 l[i].idx) ∧ ∃ a c, w.cell? ⟨b, o + i * 3 + 2, none⟩ = some (.slice a l[i].subs.length c) ∧ SlM w X a l[i].subs) → LiesM w X b o l := by
 intro l
 induction l with
 | nil => intro b o _; simp [LiesM]
 | cons t r ih =>
  intro b o h
  obtain ⟨s, x, k⟩ := t
  obtain ⟨h0, h1, h2, a, c, h3, h4, h5⟩ := h 0 (by simp)
  simp only [LiesM]
  refine ⟨h0, by simpa using h1, by simpa using h2, ⟨a, c, by simpa using h3, h4, h5⟩, ih b (o + 3) fun i hi => ?_⟩
  have := h (i + 1) (by simpa using hi)
  simp only [List.getElem_cons_succ] at this
  rw [show o + (i + 1) * 3 = o + 3 + i * 3 by omega] at this
  exact this
theorem open_lam {H : Type} {enc : TypeId × Value → H} {w : World} {sp : Nat → Bool} {held : Bool} : ∀ (fuel : Nat) (cs : List Value) (x : DataW H × List MemPlace), DataW.trod enc Tryz.prog w 0 sp held fuel 24 cs = some x →
  ∃ (t : Lm) (a : Option Addr) (c : Nat), cs = [.int .i64 t.kind, .int .i64 t.idx, .slice a t.subs.length c] ∧ SlM w (fun _ => True) a t.subs := by
 intro fuel
 induction fuel using Nat.strongRecOn with
 | ind fuel ih =>
  intro cs x h
  obtain ⟨xs, n, hfu, hx, hl, hxl, hf⟩ := DataW.trod_struct Tryz.underlying24 h
  have f0 := hf 0 _ rfl
  have f1 := hf 1 _ rfl
  have f2 := hf 2 _ rfl
  rw [Tryz.cellsLam] at hl
  match cs, hl with
  | [c0, c1, c2], _ =>
   match xs, hxl with
   | [y0, y1, y2], _ =>
    simp [Tryz.cellsIntM, Tryz.cellsSlM] at f0 f1 f2
    obtain ⟨kd, e0, _⟩ := DataW.trod_int Tryz.underlying3 f0
    simp at e0
    subst e0
    obtain ⟨ix, e0, _⟩ := DataW.trod_int Tryz.underlying3 f1
    simp at e0
    subst e0
    rcases DataW.trod_slice Tryz.underlying22 f2 with ⟨e1, _⟩ | ⟨a, len, cap, elems, rest, n2, hn2, e1, _, hb, hlc, hcm, hel, helem, _⟩
    ·simp at e1
     subst e1
     exact ⟨⟨kd, ix, []⟩, none, 0, rfl, by simp, Or.inl rfl⟩
    ·simp at e1
     subst e1
     unfold maxLen at hcm
     rw [Tryz.cellsLam] at helem
     have key : ∀ i, ∃ t : Lm, i < len → ∃ a' c', w.cell? (a.add (i * 3)) = some (.int .i64 t.kind) ∧ w.cell? ((a.add (i * 3)).add 1) = some (.int .i64 t.idx) ∧ w.cell? ((a.add (i * 3)).add 2) = some (.slice a' t.subs.length c') ∧ SlM w (fun _ => True) a' t.subs := by
      intro i
      by_cases hi : i < len
      ·have h1 := helem i hi
       have hie : i < elems.length := by omega
       rw [List.getElem?_eq_getElem hie, Option.bind_eq_some_iff] at h1
       obtain ⟨cs', h2, h3⟩ := h1
       obtain ⟨d0, d1, d2, rfl, g0, g1, g2⟩ := cells3 h2
       obtain ⟨t, a', c', e3, hsl⟩ := ih n2 (by omega) _ _ h3
       simp at e3
       obtain ⟨rfl, rfl, rfl⟩ := e3
       exact ⟨t, fun _ => ⟨a', c', g0, g1, g2, hsl⟩⟩
      ·exact ⟨⟨0, 0, []⟩, fun h => absurd h hi⟩
     obtain ⟨T, hT⟩ := Classical.skolem.1 key
     refine ⟨⟨kd, ix, (List.range len).map T⟩, some a, cap, by simp, by simp; omega, ?_⟩
     by_cases h0 : len = 0
     ·subst h0; exact Or.inl rfl
     ·right
      obtain ⟨b, o, sp⟩ := a
      obtain ⟨a0, c0, g0, _, _⟩ := hT 0 (by omega)
      have hsp : sp = none := by simpa [Addr.add] using World.cell?_spot g0
      subst hsp
      refine ⟨b, o, rfl, liesM_mk _ _ _ fun i hi => ?_⟩
      simp at hi
      obtain ⟨a', c', g0, g1, g2, hsl⟩ := hT i hi
      refine ⟨trivial, ?_, ?_, a', c', ?_, ?_⟩
      ·simp only [List.getElem_map, List.getElem_range]
       by_cases h00 : i = 0
       ·subst h00; simpa [Addr.add] using g0
       ·have : i * 3 ≠ 0 := by omega
        simpa [Addr.add, this] using g0
      ·simp only [List.getElem_map, List.getElem_range]
       by_cases h00 : i = 0
       ·subst h00; simpa [Addr.add] using g1
       ·have : i * 3 ≠ 0 := by omega
        simpa [Addr.add, this] using g1
      ·simp only [List.getElem_map, List.getElem_range]
       by_cases h00 : i = 0
       ·subst h00; simpa [Addr.add] using g2
       ·have : i * 3 ≠ 0 := by omega
        simpa [Addr.add, this] using g2
      ·simpa using hsl
theorem open_mv {H : Type} {enc : TypeId × Value → H} {w : World} {sp : Nat → Bool} {held : Bool} {r : Reach} {b0 : Nat} {v : Value} {d : DataW H} {p : List MemPlace} (hv : Value.okWide Tryz.prog w r b0 24 v) (h : DataW.Trod enc Tryz.prog w 0 sp held 24 v d p) : ∃ t, MV w (fun _ => True) v t := by
 obtain ⟨cs, rfl, hsz⟩ := okWide_struct Tryz.underlying24 hv
 obtain ⟨fuel, hf⟩ := h
 obtain ⟨t, a, c, e, hs⟩ := open_lam fuel _ _ hf
 refine ⟨t, a, c, ?_, hs⟩
 simp [Value.cells] at e
 congr 1
 apply Array.ext'
 simpa using e
end Go.Proofs.YtpnhiaeijhokgaaGreatDoor
