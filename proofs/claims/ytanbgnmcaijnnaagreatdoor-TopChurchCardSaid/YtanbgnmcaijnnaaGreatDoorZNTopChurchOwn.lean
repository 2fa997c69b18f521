/- Several texts in one. -/
import Derived.Test.YtanbgnmcaijnnaaGreatDoorL10
import Derived.Test.YtanbgnmcaijnnaaGreatDoorL11
import Derived.Test.YtanbgnmcaijnnaaGreatDoorRows
import Derived.Test.YtanbgnmcaijnnaaGreatDoorZBTopChurchOwn
import Derived.ProofKit
import Derived.Test.YtanbgnmcaijnnaaGreatDoorLn4

/- Walks: lambda.Put. -/
namespace Go.Proofs.YtanbgnmcaijnnaaGreatDoor
open Go.RowKit
set_option linter.unusedSimpArgs false
set_option linter.unusedVariables false
set_option maxRecDepth 8000

/-- What lambda.Put says. -/
def putE (t z : Lm) (u : Int) : Int := if u < 0 ∨ 40 ≤ u then 10 else if lamE (u + 1) 0 t ≠ 0 then lamE (u + 1) 0 t else if lamE u 0 z ≠ 0 then lamE u 0 z else if 2000 < sizeM [insT z 0 t] then 8 else 0
theorem lamE_zero {u : Int} {t : Lm} (h : lamE u 0 t = 0) : sizeM [t] ≤ 200 ∧ BndM [t] ∧ LfM [t] := by
  unfold lamE at h
  split at h
  · cases h
  · split at h
    · cases h
    · rename_i h1 h2
      exact ⟨by omega, bnd_of_err [t] u 0 (by omega) (by omega) (by omega) h, lf_of_err [t] u 0 h⟩
/-- What lambda.Put answers. -/
def LPutPost (w : World) (t z : Lm) (u : Int) (e : Ending) (w' : World) : Prop :=
  Below w.heap.size w w' ∧ ((putE t z u = 0 ∧ ∃ a c, e = .returned (.tuple #[.agg #[.int .i64 (insT z 0 t).kind, .int .i64 (insT z 0 t).idx, .slice a (insT z 0 t).subs.length c], .int .i64 0]) ∧ SlM w' (fun b => w.heap.size ≤ b) a (insT z 0 t).subs) ∨ (putE t z u ≠ 0 ∧ e = .returned (.tuple #[.agg #[.int .i64 0, .int .i64 0, .slice none 0 0], .int .i64 (putE t z u)])))

end Go.Proofs.YtanbgnmcaijnnaaGreatDoor

/- Lambda terms as they are read before the call. -/
namespace Go.Proofs.YtanbgnmcaijnnaaGreatDoor
open Go.ChangeShapes Go.WideShapes Go.ChangeAt Go.RowKit
set_option linter.unusedSimpArgs false
set_option linter.unusedVariables false
set_option maxRecDepth 8000

theorem Tryz.cellsLam : Tryz.prog.cellsOf 26 = 3 := by kernel_rfl
theorem Tryz.cellsIntM : Tryz.prog.cellsOf 3 = 1 := by kernel_rfl
theorem Tryz.cellsSlM : Tryz.prog.cellsOf 24 = 1 := by kernel_rfl

theorem cells3 {w : World} {a : Addr} {cs : List Value} (h : w.cells? 0 a 3 = some cs) : ∃ c0 c1 c2, cs = [c0, c1, c2] ∧ w.cell? a = some c0 ∧ w.cell? (a.add 1) = some c1 ∧ w.cell? (a.add 2) = some c2 := by
  have e : (List.range 3) = [0, 1, 2] := rfl
  simp only [World.cells?, Nat.zero_le, if_true, e] at h
  simp only [List.mapM_cons, List.mapM_nil, Option.bind_eq_bind, Option.bind_eq_some_iff, Option.pure_def] at h
  obtain ⟨c0, h0, r, ⟨c1, h1, r1, ⟨c2, h2, r2, h3, h4⟩, h5⟩, h6⟩ := h
  simp only [Option.some.injEq] at h3 h4 h5 h6
  subst h3; subst h4; subst h5; subst h6
  exact ⟨c0, c1, c2, rfl, by simpa [Addr.add] using h0, h1, h2⟩

theorem liesM_mk {w : World} {X : Nat → Prop} : ∀ (l : List Lm) (b o : Nat), (∀ i (h : i < l.length), X b ∧ w.cell? ⟨b, o + i * 3, none⟩ = some (.int .i64 l[i].kind) ∧ w.cell? ⟨b, o + i * 3 + 1, none⟩ = some (.int .i64 l[i].idx) ∧ ∃ a c, w.cell? ⟨b, o + i * 3 + 2, none⟩ = some (.slice a l[i].subs.length c) ∧ SlM w X a l[i].subs) → LiesM w X b o l := by
  intro l
  induction l with
  | nil => intro b o _; simp [LiesM]
  | cons t r ih =>
    intro b o h
    obtain ⟨s, x, k⟩ := t
    obtain ⟨h0, h1, h2, a, c, h3, h4, h5⟩ := h 0 (by simp)
    simp only [LiesM]
    refine ⟨h0, by simpa using h1, by simpa using h2, ⟨a, c, by simpa using h3, h4, h5⟩, ih b (o + 3) fun i hi => ?_⟩
    have := h (i + 1) (by simpa using hi)
    simp only [List.getElem_cons_succ] at this
    rw [show o + (i + 1) * 3 = o + 3 + i * 3 by omega] at this
    exact this

theorem open_lam {H : Type} {enc : TypeId × Value → H} {w : World} {sp : Nat → Bool} {held : Bool} : ∀ (fuel : Nat) (cs : List Value) (x : DataW H × List MemPlace), DataW.trod enc Tryz.prog w 0 sp held fuel 26 cs = some x →
    ∃ (t : Lm) (a : Option Addr) (c : Nat), cs = [.int .i64 t.kind, .int .i64 t.idx, .slice a t.subs.length c] ∧ SlM w (fun _ => True) a t.subs := by
  intro fuel
  induction fuel using Nat.strongRecOn with
  | ind fuel ih =>
    intro cs x h
    obtain ⟨xs, n, hfu, hx, hl, hxl, hf⟩ := DataW.trod_struct Tryz.underlying26 h
    have f0 := hf 0 _ rfl
    have f1 := hf 1 _ rfl
    have f2 := hf 2 _ rfl
    rw [Tryz.cellsLam] at hl
    match cs, hl with
    | [c0, c1, c2], _ =>
      match xs, hxl with
      | [y0, y1, y2], _ =>
        simp [Tryz.cellsIntM, Tryz.cellsSlM] at f0 f1 f2
        obtain ⟨kd, e0, _⟩ := DataW.trod_int Tryz.underlying3 f0
        simp at e0
        subst e0
        obtain ⟨ix, e0, _⟩ := DataW.trod_int Tryz.underlying3 f1
        simp at e0
        subst e0
        rcases DataW.trod_slice Tryz.underlying24 f2 with ⟨e1, _⟩ | ⟨a, len, cap, elems, rest, n2, hn2, e1, _, hb, hlc, hcm, hel, helem, _⟩
        · simp at e1
          subst e1
          exact ⟨⟨kd, ix, []⟩, none, 0, rfl, by simp, Or.inl rfl⟩
        · simp at e1
          subst e1
          unfold maxLen at hcm
          rw [Tryz.cellsLam] at helem
          have key : ∀ i, ∃ t : Lm, i < len → ∃ a' c', w.cell? (a.add (i * 3)) = some (.int .i64 t.kind) ∧ w.cell? ((a.add (i * 3)).add 1) = some (.int .i64 t.idx) ∧ w.cell? ((a.add (i * 3)).add 2) = some (.slice a' t.subs.length c') ∧ SlM w (fun _ => True) a' t.subs := by
            intro i
            by_cases hi : i < len
            · have h1 := helem i hi
              have hie : i < elems.length := by omega
              rw [List.getElem?_eq_getElem hie, Option.bind_eq_some_iff] at h1
              obtain ⟨cs', h2, h3⟩ := h1
              obtain ⟨d0, d1, d2, rfl, g0, g1, g2⟩ := cells3 h2
              obtain ⟨t, a', c', e3, hsl⟩ := ih n2 (by omega) _ _ h3
              simp at e3
              obtain ⟨rfl, rfl, rfl⟩ := e3
              exact ⟨t, fun _ => ⟨a', c', g0, g1, g2, hsl⟩⟩
            · exact ⟨⟨0, 0, []⟩, fun h => absurd h hi⟩
          obtain ⟨T, hT⟩ := Classical.skolem.1 key
          refine ⟨⟨kd, ix, (List.range len).map T⟩, some a, cap, by simp, by simp; omega, ?_⟩
          by_cases h0 : len = 0
          · subst h0; exact Or.inl rfl
          · right
            obtain ⟨b, o, sp⟩ := a
            obtain ⟨a0, c0, g0, _, _⟩ := hT 0 (by omega)
            have hsp : sp = none := by simpa [Addr.add] using World.cell?_spot g0
            subst hsp
            refine ⟨b, o, rfl, liesM_mk _ _ _ fun i hi => ?_⟩
            simp at hi
            obtain ⟨a', c', g0, g1, g2, hsl⟩ := hT i hi
            refine ⟨trivial, ?_, ?_, a', c', ?_, ?_⟩
            · simp only [List.getElem_map, List.getElem_range]
              by_cases h00 : i = 0
              · subst h00; simpa [Addr.add] using g0
              · have : i * 3 ≠ 0 := by omega
                simpa [Addr.add, this] using g0
            · simp only [List.getElem_map, List.getElem_range]
              by_cases h00 : i = 0
              · subst h00; simpa [Addr.add] using g1
              · have : i * 3 ≠ 0 := by omega
                simpa [Addr.add, this] using g1
            · simp only [List.getElem_map, List.getElem_range]
              by_cases h00 : i = 0
              · subst h00; simpa [Addr.add] using g2
              · have : i * 3 ≠ 0 := by omega
                simpa [Addr.add, this] using g2
            · simpa using hsl

theorem open_mv {H : Type} {enc : TypeId × Value → H} {w : World} {sp : Nat → Bool} {held : Bool} {r : Reach} {b0 : Nat} {v : Value} {d : DataW H} {p : List MemPlace} (hv : Value.okWide Tryz.prog w r b0 26 v) (h : DataW.Trod enc Tryz.prog w 0 sp held 26 v d p) : ∃ t, MV w (fun _ => True) v t := by
  obtain ⟨cs, rfl, hsz⟩ := okWide_struct Tryz.underlying26 hv
  obtain ⟨fuel, hf⟩ := h
  obtain ⟨t, a, c, e, hs⟩ := open_lam fuel _ _ hf
  refine ⟨t, a, c, ?_, hs⟩
  simp [Value.cells] at e
  congr 1
  apply Array.ext'
  simpa using e
#print axioms open_mv
end Go.Proofs.YtanbgnmcaijnnaaGreatDoor


/- Walks: the document's Beta. -/
namespace Go.Proofs.YtanbgnmcaijnnaaGreatDoor
open Go.RowKit
set_option linter.unusedSimpArgs false
set_option linter.unusedVariables false
set_option maxRecDepth 8000

/-- What is held while the law runs. -/
def LpS (w : World) (t z : Lm) (a az : Option Addr) (c cz : Nat) (wr : World) : Prop :=
  Below w.heap.size w wr ∧ Blk wr w.heap.size #[.int .i64 t.kind, .int .i64 t.idx, .slice a t.subs.length c] 26 ∧ Blk wr (w.heap.size + 1) #[.int .i64 z.kind, .int .i64 z.idx, .slice az z.subs.length cz] 26
theorem LpS.start (w : World) (t z : Lm) (a az : Option Addr) (c cz : Nat) : LpS w t z a az c cz ((w.alloc (.cells #[.int .i64 t.kind, .int .i64 t.idx, .slice a t.subs.length c] 26)).alloc (.cells #[.int .i64 z.kind, .int .i64 z.idx, .slice az z.subs.length cz] 26)) := by
  refine ⟨((Below.refl _ _).alloc (Nat.le_refl _) _).alloc (by simp) _, (Blk.new w _ _).alloc _, ?_⟩
  have h := Blk.new (w.alloc (.cells #[.int .i64 t.kind, .int .i64 t.idx, .slice a t.subs.length c] 26)) #[.int .i64 z.kind, .int .i64 z.idx, .slice az z.subs.length cz] 26
  simp only [World.size_alloc] at h
  exact h
theorem LpS.later {w wr w' : World} {t z : Lm} {a az : Option Addr} {c cz : Nat} (h : LpS w t z a az c cz wr) (hb : Below wr.heap.size wr w') : LpS w t z a az c cz w' :=
  ⟨h.1.trans (hb.mono h.1.size), h.2.1.below hb h.2.1.lt, h.2.2.below hb h.2.2.lt⟩
theorem LpS.alloc {w wr : World} {t z : Lm} {a az : Option Addr} {c cz : Nat} (h : LpS w t z a az c cz wr) (o : Obj) : LpS w t z a az c cz (wr.alloc o) := h.later ((Below.refl _ _).alloc (Nat.le_refl _) o)
end Go.Proofs.YtanbgnmcaijnnaaGreatDoor


/- Walks: the document's outermost step. -/
namespace Go.Proofs.YtanbgnmcaijnnaaGreatDoor
open Go.RowKit
set_option linter.unusedSimpArgs false
set_option linter.unusedVariables false
set_option maxRecDepth 8000

theorem repF_append (f : Lm → Lm) : ∀ a b : List Lm, repF f (a ++ b) = if stepM a = true then repF f a ++ b else a ++ repF f b
  | [], b => by simp [stepM]
  | y :: r, b => by
    have e : stepM (y :: r) = (stepM [y] || stepM r) := stepM_append [y] r
    rw [List.cons_append]
    cases h : stepM [y] with
    | true => rw [e, h]; simp [repF, h]
    | false =>
      rw [e, h, Bool.false_or]
      rw [repF, h, if_neg (by simp), repF_append f r b]
      by_cases h2 : stepM r = true
      · rw [if_pos h2, if_pos h2, repF, h, if_neg (by simp)]; rfl
      · rw [if_neg h2, if_neg h2]; rfl
theorem repF_take (f : Lm → Lm) (l : List Lm) (k : Nat) (h : k < l.length) : repF f (l.take (k + 1)) = repF f (l.take k) ++ [if stepM (l.take k) = false ∧ stepM [l[k]] = true then f l[k] else l[k]] := by
  rw [List.take_succ_eq_append_getElem h, repF_append]
  cases h1 : stepM (l.take k) with
  | true => simp
  | false =>
    rw [if_neg (by simp), repF_none f _ h1]
    cases h2 : stepM [l[k]] with
    | true => simp [repF, h2]
    | false => simp [repF, h2]
theorem LmSet.later {w wr w' : World} {Y : Nat → Prop} {O n c : Nat} {kd ix : Int} {a : Option Addr} {u : Value} {L : List Lm} (h : LmSet w Y O kd ix a n c u L wr) (hb : Below wr.heap.size wr w') : LmSet w Y O kd ix a n c u L w' := by
  obtain ⟨xs, h1, h2, h3, h4, h5, h6⟩ := h
  exact ⟨xs, h1.below hb, h2.trans (hb.mono h2.size), h3.below hb h3.lt, h4.below hb h4.lt, h5.below hb h5.lt, by have := hb.size; omega⟩
theorem LmSet.row {w wr : World} {Y : Nat → Prop} {O n c : Nat} {kd ix : Int} {a : Option Addr} {u : Value} {L : List Lm} (h : LmSet w Y O kd ix a n c u L wr) : Blk wr O #[.int .i64 kd, .int .i64 ix, u] 26 := by
  obtain ⟨xs, h1, h2, h3, h4, h5, h6⟩ := h
  exact h5
theorem LmSet.top {w wr : World} {Y : Nat → Prop} {O n c : Nat} {kd ix : Int} {a : Option Addr} {u : Value} {L : List Lm} (h : LmSet w Y O kd ix a n c u L wr) : Blk wr w.heap.size #[.int .i64 kd, .int .i64 ix, .slice a n c] 26 := by
  obtain ⟨xs, h1, h2, h3, h4, h5, h6⟩ := h
  exact h3

end Go.Proofs.YtanbgnmcaijnnaaGreatDoor
