/- Maps by texts, as they lie in memory. -/
import Derived.Test.YtmkomemjhfafnaaBnd
import Derived.WideMake
namespace Go.Proofs.Ytmkomemjhfafnaa
open Go.RowKit
set_option linter.unusedSimpArgs false
set_option linter.unusedVariables false

def mapGet : List (ByteArray × Value) → ByteArray → Option Value
  | [], _ => none
  | p :: r, n => if p.1 = n then some p.2 else mapGet r n

/-- The entries' stamps: each below the clock, none twice. -/
def Stamps (es : Array MapEntry) (clk : Nat) : Prop := (∀ x ∈ es.toList, x.born < clk) ∧ (es.toList.map (·.born)).Nodup
/-- The map at r has these keys, in the order in which they came, and what stands for them. -/
def MapAt (w : World) (r : Nat) (L : List (ByteArray × Value)) : Prop :=
  ∃ es clk, w.heap[r]? = some (.map es clk) ∧ es.toList.map (fun e => (e.key, e.val)) = L.map (fun p => (Value.string p.1, p.2)) ∧ Stamps es clk
theorem Stamps.push {es : Array MapEntry} {clk : Nat} (h : Stamps es clk) (k v : Value) : Stamps (es.push { key := k, val := v, born := clk }) (clk + 1) := by
  obtain ⟨h1, h2⟩ := h
  refine ⟨fun x hx => ?_, ?_⟩
  · rw [Array.toList_push, List.mem_append] at hx
    rcases hx with hx | hx
    · have := h1 x hx; omega
    · have e : x = { key := k, val := v, born := clk } := by simpa using hx
      subst e; exact Nat.lt_succ_self _
  · rw [Array.toList_push, List.map_append, List.nodup_append]
    refine ⟨h2, by simp, fun a ha b hb => ?_⟩
    obtain ⟨x, hx, rfl⟩ := List.mem_map.1 ha
    have := h1 x hx
    have e : b = clk := by simpa using hb
    omega
theorem map_born_modify (j : Nat) (k v : Value) : ∀ l : List MapEntry, (l.modify j fun e => { e with key := k, val := v }).map (·.born) = l.map (·.born) := by
  induction j with
  | zero => intro l; cases l <;> simp
  | succ j ih => intro l; cases l with
    | nil => simp
    | cons a r => simp [List.modify_succ_cons, ih r]
theorem Stamps.modify {es : Array MapEntry} {clk : Nat} (h : Stamps es clk) (j : Nat) (k v : Value) : Stamps (es.modify j fun e => { e with key := k, val := v }) clk := by
  obtain ⟨h1, h2⟩ := h
  have e := map_born_modify j k v es.toList
  refine ⟨fun x hx => ?_, by rw [Array.toList_modify, e]; exact h2⟩
  rw [Array.toList_modify] at hx
  have : x.born ∈ es.toList.map (·.born) := by rw [← e]; exact List.mem_map.2 ⟨x, hx, rfl⟩
  obtain ⟨y, hy, hb⟩ := List.mem_map.1 this
  rw [← hb]; exact h1 y hy

theorem MapAt.new (w : World) : MapAt (w.alloc (.map #[] 0)) w.heap.size [] := ⟨#[], 0, heap_alloc_new w _, rfl, by simp [Stamps]⟩
theorem MapAt.lt {w : World} {r : Nat} {L : List (ByteArray × Value)} (h : MapAt w r L) : r < w.heap.size := by
  obtain ⟨es, clk, h, _⟩ := h
  exact (Array.getElem?_eq_some_iff.1 h).1
theorem MapAt.kept {w w' : World} {r : Nat} {L : List (ByteArray × Value)} (h : MapAt w r L) (hk : w'.heap[r]? = w.heap[r]?) : MapAt w' r L := by
  obtain ⟨es, clk, h1, h2⟩ := h
  exact ⟨es, clk, hk.trans h1, h2⟩
theorem MapAt.below {w w' : World} {r B : Nat} {L : List (ByteArray × Value)} (h : MapAt w r L) (hb : Below B w w') (hB : r < B) : MapAt w' r L := h.kept (hb.block r hB)

theorem findNow_map (n : ByteArray) : ∀ (l : List MapEntry) (L : List (ByteArray × Value)) (i : Nat), l.map (fun e => (e.key, e.val)) = L.map (fun p => (Value.string p.1, p.2)) →
    (mapGet L n = none → Instr.findNow .string (.string n) l i = some none) ∧ (∀ v, mapGet L n = some v → ∃ j, Instr.findNow .string (.string n) l i = some (some (j, v)))
  | [], [], i, h => ⟨fun _ => rfl, fun v h => by simp [mapGet] at h⟩
  | [], p :: L, i, h => by simp at h
  | e :: l, [], i, h => by simp at h
  | e :: l, p :: L, i, h => by
    simp only [List.map_cons, List.cons.injEq, Prod.mk.injEq] at h
    obtain ⟨⟨hk, hv⟩, ht⟩ := h
    obtain ⟨ih1, ih2⟩ := findNow_map n l L (i + 1) ht
    by_cases hn : p.1 = n
    · have hs : Instr.sameNow .string (.string n) e.key = some true := by
        rw [hk, hn]
        show some (n == n) = some true
        rw [show (n == n) = true from (MapKept.bytes_beq _ _).2 rfl]
      refine ⟨fun h => by simp [mapGet, hn] at h, fun v h => ⟨i, ?_⟩⟩
      simp only [mapGet, hn, if_true, Option.some.injEq] at h
      simp [Instr.findNow, hs, hv, h]
    · have hs : Instr.sameNow .string (.string n) e.key = some false := by
        rw [hk]
        show some (n == p.1) = some false
        have hb : (n == p.1) = false := by
          cases hh : (n == p.1) with
          | false => rfl
          | true => exact absurd ((MapKept.bytes_beq _ _).1 hh).symm hn
        rw [hb]
      refine ⟨fun h => ?_, fun v h => ?_⟩
      · rw [mapGet, if_neg hn] at h
        simp [Instr.findNow, hs, ih1 h]
      · rw [mapGet, if_neg hn] at h
        obtain ⟨j, hj⟩ := ih2 v h
        exact ⟨j, by simp [Instr.findNow, hs, hj]⟩

theorem run_look {P : Program} {w : World} {T kt et : TypeId} {r : Nat} {L : List (ByteArray × Value)} {z : Value} (hm : P.underlying T = some (.map kt et)) (hk : P.underlying kt = some .string) (hz : (zeroValue et).run P w = .ok z w) (h : MapAt w r L) (n : ByteArray) :
    (Instr.lookup T (.map (some r)) (.string n) true).run P w = .ok (.tuple #[(mapGet L n).getD z, .bool (mapGet L n).isSome]) w := by
  obtain ⟨es, clk, hb, he, hst⟩ := h
  obtain ⟨h1, h2⟩ := findNow_map n es.toList L 0 he
  have hc : ∀ b, (Instr.checkKey b 10000 kt (.string n)).run P w = .ok () w := fun b => MapKept.run_checkKey (k := .string n) hk (by simp [MapKept.IsKey]) b 9999
  cases hg : mapGet L n with
  | none => simp [Instr.lookup, run_underlying hm, MapKept.run_getObj_map hb, hc, MapKept.run_findKey hk (h1 hg), Result.andThen, hz]
  | some v =>
    obtain ⟨j, hj⟩ := h2 v hg
    simp [Instr.lookup, run_underlying hm, MapKept.run_getObj_map hb, hc, MapKept.run_findKey hk hj, Result.andThen]

theorem run_put {P : Program} {w : World} {T kt et : TypeId} {r : Nat} {L : List (ByteArray × Value)} (hm : P.underlying T = some (.map kt et)) (hk : P.underlying kt = some .string) (h : MapAt w r L) (n : ByteArray) (v : Value) (hn : mapGet L n = none) :
    ∃ w', (Instr.mapUpdate T (.map (some r)) (.string n) v).run P w = .ok () w' ∧ MapAt w' r (L ++ [(n, v)]) ∧ w'.heap.size = w.heap.size ∧ w'.os = w.os ∧ w'.tape = w.tape ∧ w'.output = w.output ∧ (∀ b, b ≠ r → w'.heap[b]? = w.heap[b]?) := by
  obtain ⟨es, clk, hb, he, hst⟩ := h
  obtain ⟨h1, h2⟩ := findNow_map n es.toList L 0 he
  have hc : (Instr.checkKey false 10000 kt (.string n)).run P w = .ok () w := MapKept.run_checkKey (k := .string n) hk (by simp [MapKept.IsKey]) false 9999
  have hlt : r < w.heap.size := (Array.getElem?_eq_some_iff.1 hb).1
  refine ⟨{ w with heap := w.heap.setIfInBounds r (.map (es.push { key := .string n, val := v, born := clk }) (clk + 1)) }, ?_, ⟨_, _, (MapKept.heap_set hb).1, by simp [he], hst.push _ _⟩, by simp, rfl, rfl, rfl, fun b hne => (MapKept.heap_set hb).2 b hne⟩
  simp [Instr.mapUpdate, run_underlying hm, MapKept.run_getObj_map hb, hc, MapKept.run_findKey hk (h1 hn), MapKept.run_setObj_map _ hb, Result.andThen]
end Go.Proofs.Ytmkomemjhfafnaa
