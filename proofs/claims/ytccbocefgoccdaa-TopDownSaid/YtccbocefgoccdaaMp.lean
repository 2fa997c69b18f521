/- Maps by two numbers, as they lie in memory: what holds of all that stand in them. -/
import Derived.Test.YtccbocefgoccdaaZTopDownOwn
import Derived.WideKeyPair
namespace Go.Proofs.Ytccbocefgoccdaa
open Go.RowKit
open Go.WideMaps
set_option linter.unusedSimpArgs false
set_option linter.unusedVariables false

def pairV (p : Nat × Nat) : Value := .agg #[.int .i64 p.1, .int .i64 p.2]
def PrOk (p : Nat × Nat) : Prop := p.1 < 9000000000000000000 ∧ p.2 < 9000000000000000000
/-- All that stand in the map at r are right. -/
def MapP (w : World) (r : Nat) (Q : Nat × Nat → Bool → Prop) : Prop :=
  ∃ es clk, w.heap[r]? = some (.map es clk) ∧ ∀ e ∈ es.toList, ∃ p v, e.key = pairV p ∧ PrOk p ∧ e.val = .agg #[.bool v] ∧ Q p v

theorem MapP.new (w : World) (Q : Nat × Nat → Bool → Prop) : MapP (w.alloc (.map #[] 0)) w.heap.size Q := ⟨#[], 0, heap_alloc_new w _, by simp⟩
theorem MapP.lt {w : World} {r : Nat} {Q : Nat × Nat → Bool → Prop} (h : MapP w r Q) : r < w.heap.size := by
  obtain ⟨es, clk, h, _⟩ := h
  exact (Array.getElem?_eq_some_iff.1 h).1
theorem MapP.kept {w w' : World} {r : Nat} {Q : Nat × Nat → Bool → Prop} (h : MapP w r Q) (hk : w'.heap[r]? = w.heap[r]?) : MapP w' r Q := by
  obtain ⟨es, clk, h1, h2⟩ := h
  exact ⟨es, clk, hk.trans h1, h2⟩
theorem MapP.below {w w' : World} {r B : Nat} {Q : Nat × Nat → Bool → Prop} (h : MapP w r Q) (hb : Below B w w') (hB : r < B) : MapP w' r Q := h.kept (hb.block r hB)

theorem pair_key {P : Program} {k e : TypeId} (A : ArrKey P k e 2) (he : P.underlying e = some (.int .i64)) (hsz : ∃ m, P.types.size = m + 1) {p : Nat × Nat} (h : PrOk p) : ∃ l, keyOf P k (pairV p) = some l := by
  obtain ⟨h1, h2⟩ := h
  exact ⟨_, keyOf_pair A he hsz (by simp [Lit.wf, IntKind.min, IntKind.max, IntKind.signed, IntKind.bits]; omega) (by simp [Lit.wf, IntKind.min, IntKind.max, IntKind.signed, IntKind.bits]; omega)⟩

theorem pairV_inj {p q : Nat × Nat} (h : pairV p = pairV q) : p = q := by
  obtain ⟨a, b⟩ := p
  obtain ⟨c, d⟩ := q
  simp [pairV] at h
  obtain ⟨h1, h2⟩ := h
  have e1 : a = c := by omega
  have e2 : b = d := by omega
  rw [e1, e2]

theorem run_lookP {P : Program} {w : World} {T k e el : TypeId} {r : Nat} {Q : Nat × Nat → Bool → Prop} (A : ArrKey P k e 2) (he : P.underlying e = some (.int .i64)) (hsz : ∃ m, P.types.size = m + 1) (hm : P.underlying T = some (.map k el)) (hz : (zeroValue el).run P w = .ok (.agg #[.bool false]) w) (h : MapP w r Q) {p : Nat × Nat} (hp : PrOk p) :
    (∃ v, Q p v ∧ (Instr.lookup T (.map (some r)) (pairV p) true).run P w = .ok (.tuple #[.agg #[.bool v], .bool true]) w) ∨ (Instr.lookup T (.map (some r)) (pairV p) true).run P w = .ok (.tuple #[.agg #[.bool false], .bool false]) w := by
  obtain ⟨es, clk, hb, hes⟩ := h
  obtain ⟨l, hl⟩ := pair_key A he hsz hp
  have hc := fun b => A.law.check w b hl
  have hall : ∀ x ∈ es.toList, ∃ l, keyOf P k x.key = some l := fun x hx => by
    obtain ⟨q, v, hk, hq, _⟩ := hes x hx
    rw [hk]; exact pair_key A he hsz hq
  rcases A.law.find w hl es.toList hall with ⟨hf, _⟩ | ⟨j, x, hf, hj, hx⟩
  · refine Or.inr ?_
    simp [Instr.lookup, run_underlying hm, MapKept.run_getObj_map hb, hc, hf, Result.andThen, hz]
  · have hmem : x ∈ es.toList := List.mem_of_getElem? hj
    obtain ⟨q, v, hk, hq, hv, hQ⟩ := hes x hmem
    have e1 : q = p := pairV_inj (hk.symm.trans hx)
    subst e1
    refine Or.inl ⟨v, hQ, ?_⟩
    simp [Instr.lookup, run_underlying hm, MapKept.run_getObj_map hb, hc, hf, Result.andThen, hv]

theorem run_putP {P : Program} {w : World} {T k e el : TypeId} {r : Nat} {Q : Nat × Nat → Bool → Prop} (A : ArrKey P k e 2) (he : P.underlying e = some (.int .i64)) (hsz : ∃ m, P.types.size = m + 1) (hm : P.underlying T = some (.map k el)) (h : MapP w r Q) {p : Nat × Nat} (hp : PrOk p) {v : Bool} (hQ : Q p v) :
    ∃ w', (Instr.mapUpdate T (.map (some r)) (pairV p) (.agg #[.bool v])).run P w = .ok () w' ∧ MapP w' r Q ∧ w'.heap.size = w.heap.size ∧ w'.os = w.os ∧ w'.tape = w.tape ∧ w'.output = w.output ∧ (∀ b, b ≠ r → w'.heap[b]? = w.heap[b]?) := by
  obtain ⟨es, clk, hb, hes⟩ := h
  obtain ⟨l, hl⟩ := pair_key A he hsz hp
  have hc := fun b => A.law.check w b hl
  have hall : ∀ x ∈ es.toList, ∃ l, keyOf P k x.key = some l := fun x hx => by
    obtain ⟨q, v, hk, hq, _⟩ := hes x hx
    rw [hk]; exact pair_key A he hsz hq
  rcases A.law.find w hl es.toList hall with ⟨hf, _⟩ | ⟨j, x, hf, hj, hx⟩
  · refine ⟨{ w with heap := w.heap.setIfInBounds r (.map (es.push { key := pairV p, val := .agg #[.bool v], born := clk }) (clk + 1)) }, ?_, ⟨_, _, (MapKept.heap_set hb).1, fun y hy => ?_⟩, by simp, rfl, rfl, rfl, fun b hne => (MapKept.heap_set hb).2 b hne⟩
    · simp [Instr.mapUpdate, run_underlying hm, MapKept.run_getObj_map hb, hc, hf, MapKept.run_setObj_map _ hb, Result.andThen]
    · rw [Array.toList_push, List.mem_append] at hy
      rcases hy with hy | hy
      · exact hes y hy
      · have e2 : y = { key := pairV p, val := .agg #[.bool v], born := clk } := by simpa using hy
        subst e2
        exact ⟨p, v, rfl, hp, rfl, hQ⟩
  · have hj' : es[j]? = some x := by simpa using hj
    have hst := A.law.stays w hl
    refine ⟨{ w with heap := w.heap.setIfInBounds r (.map (es.modify j fun e => { e with key := pairV p, val := .agg #[.bool v] }) clk) }, ?_, ⟨_, _, (MapKept.heap_set hb).1, fun y hy => ?_⟩, by simp, rfl, rfl, rfl, fun b hne => (MapKept.heap_set hb).2 b hne⟩
    · simp [Instr.mapUpdate, run_underlying hm, MapKept.run_getObj_map hb, hc, hf, hj', hx, hst, MapKept.run_setObj_map _ hb, Result.andThen]
    · rw [Array.toList_modify] at hy
      obtain ⟨i, hi⟩ := List.getElem?_of_mem hy
      by_cases hij : j = i
      · subst hij
        simp [List.getElem?_modify, hj'] at hi
        subst hi
        exact ⟨p, v, rfl, hp, rfl, hQ⟩
      · simp [List.getElem?_modify, hij] at hi
        exact hes y (by simpa using Array.mem_of_getElem? hi)
#print axioms run_lookP
#print axioms run_putP
end Go.Proofs.Ytccbocefgoccdaa
