
/- Walks: the places of a term, as the document says. -/
import Derived.Test.YtagffgabceodfaaDoorPl
import Derived.Test.YtagffgabceodfaaDoorMem
import Derived.Test.YtagffgabceodfaaDoorW1
import Derived.Lib.Builder
namespace Go.Proofs.YtagffgabceodfaaDoor
open Go.RowKit
set_option linter.unusedSimpArgs false
set_option linter.unusedVariables false

theorem owns_le {w : World} {b b' e z n : Nat} {v : Value} {xs : List Value} (h : w.ownsRow b e z v n xs) (hb : b' ≤ b) : w.ownsRow b' e z v n xs := by
  obtain ⟨h1, h2⟩ := h
  exact ⟨h1, h2.imp id fun ⟨g, cap, cur, h3, h4, h5⟩ => ⟨g, cap, cur, h3, Nat.le_trans hb h4, h5⟩⟩

/-- A row of lists that is added to, and what stays where it was. -/
def OutAt (w0 : World) (N : Nat) (q0 : Value) (ps : List (List Int)) (q : Value) (xs : List Value) (wr : World) : Prop :=
  wr.ownsRow N 39 1 q ps.length xs ∧ RowP wr (fun b => N ≤ b ∧ some b ≠ q.ownBlock) ps xs ∧ w0.grownBy wr q0.ownBlock ∧ (∀ k, q.ownBlock = some k → q0.ownBlock = some k ∨ w0.heap.size ≤ k)

theorem PV.grownBy {w w' : World} {Z : Nat → Prop} {u : Value} {z : List Int} {r : Option Nat} (h : PV w Z u z) (hg : w.grownBy w' r) (hZ : ∀ b, Z b → some b ≠ r) : PV w' Z u z := by
  have h1 : PV w (fun b => Z b ∧ b < w.heap.size) u z := h.mono fun b h1 h2 => ⟨h1, h2⟩
  have h2 : PV w' (fun b => Z b ∧ b < w.heap.size) u z := h1.kept fun b hx => hg.block b hx.2 (hZ b hx.1)
  exact h2.mono fun b hx _ => hx.1

/-- A number ahead of a list. -/
theorem ints_cons {W : World} {Z : Nat → Prop} {u : Value} {z : List Int} (h : PV W Z u z) (i : Int) (F : Nat) (hF : W.heap[F]? = some (.cells #[.int .i64 i] 3 (0, 0))) (hn : z.length ≤ 1000000) :
    ∃ q w2, (Builtin.append_ #[39, 39] 39 #[.slice (some ⟨F, 0, none⟩) 1 1, u]).run Tryd.prog W = .ok q w2 ∧ PV w2 (fun b => b = F ∨ W.heap.size ≤ b) q (i :: z) ∧ Below W.heap.size W w2 := by
  obtain ⟨i0, hi, hz0, hz1, hz2⟩ := info_parts Tryd.infoInt
  have hsrc := pv_src h
  rw [← hz1] at hsrc
  have hFl : F < W.heap.size := by
    apply Classical.byContradiction
    intro hn
    rw [Array.getElem?_eq_none (by omega)] at hF; cases hF
  have hFc : W.cell? ⟨F, 0, none⟩ = some (.int .i64 i) := by simp [World.cell?, hF]
  by_cases h0 : z = []
  · subst h0
    have hg := run_append_room_src (P := Tryd.prog) W 39 39 39 3 i0 Tryd.underlying39 hi F 0 1 1 u 0 [] hsrc (by omega) (by simp) (by simp)
    refine ⟨_, _, hg, ⟨_, _, rfl, by simp, Or.inr ⟨F, 0, rfl, Or.inl rfl, fun j hj => ?_⟩⟩, ?_⟩
    · simp at hj; subst hj; simpa [World.setCells] using hFc
    · simpa [World.setCells] using Below.refl W.heap.size W
  · have hzp := List.length_pos_iff.2 h0
    have hfc := run_firstCells_some (P := Tryd.prog) W.drew i0.size 1 ⟨F, 0, none⟩ 1 1 [.int .i64 i] (by rw [hz1]; rfl) (fun j v hj => by
      match j, hj with
      | 0, hj => simp at hj; subst hj; simpa [Addr.add] using hFc)
    have hg := run_append_grow_src (P := Tryd.prog) W 39 39 39 3 i0 (.int .i64 0) Tryd.underlying39 hi hz0 (some ⟨F, 0, none⟩) 1 1 [.int .i64 i] hfc u z.length _ hsrc (by omega) (by omega) (by rw [hz2]; exact growslice_fits (by omega) (by omega))
    have hge := grownCap_ge W (1 + z.length) 1 3
    have hcm := grownCap_le_maxLen W (1 + z.length) 1 3 (by unfold maxLen; omega)
    refine ⟨_, _, hg, ⟨some ⟨W.heap.size, 0, none⟩, grownCap W (1 + z.length) 1 3, by rw [List.length_cons, Nat.add_comm], ⟨by simp; omega, by simp; omega⟩, Or.inr ⟨W.heap.size, 0, rfl, Or.inr (Nat.le_refl _), fun j hj => ?_⟩⟩, ?_⟩
    · have hb := heap_alloc_new W.drew (.cells (([Value.int .i64 i] ++ z.map fun x => Value.int .i64 x).toArray ++ Builtin.zeroCells (Value.int .i64 0).cells (grownCap W (1 + z.length) 1 3 - (1 + z.length))) 3)
      have hb' : (W.drew.alloc (.cells (([Value.int .i64 i] ++ z.map fun x => Value.int .i64 x).toArray ++ Builtin.zeroCells (Value.int .i64 0).cells (grownCap W (1 + z.length) 1 3 - (1 + z.length))) 3)).heap[W.heap.size]? = _ := hb
      rw [Lib.cell_of_heap hb', Nat.zero_add, Array.getElem?_append_left (by simp at hj ⊢; omega)]
      simp at hj
      cases j with
      | zero => simp
      | succ j => simp
    · exact ((Below.refl W.heap.size W).drew).alloc (Nat.le_refl _) _

/-- How the rounds of one list go. -/
def InInv (w1 : World) (N : Nat) (q1 : Value) (ps : List (List Int)) (i : Nat) (ls : List (List Int)) (q j : Value) (wr : World) : Prop :=
  ∃ (k : Nat) (xs : List Value), k ≤ ls.length ∧ j = .int .i64 k ∧ OutAt w1 N q1 (ps ++ (ls.take k).map fun p => (i : Int) :: p) q xs wr

/-- How the rounds of the terms below go. -/
def OuInv (w0 : World) (N : Nat) (l : List Tm) (q i : Value) (wr : World) : Prop :=
  ∃ (k : Nat) (xs : List Value), k ≤ l.length ∧ i = .int .i64 k ∧ OutAt w0 N (.slice none 0 0) ([] :: plcL 0 (l.take k)) q xs wr

theorem OutAt.mono {w0 w1 wr : World} {N : Nat} {q0 q1 q : Value} {ps ps1 : List (List Int)} {xs xs1 : List Value} (h : OutAt w0 N q0 ps1 q1 xs1 w1) (h1 : OutAt w1 N q1 ps q xs wr) : OutAt w0 N q0 ps q xs wr := by
  refine ⟨h1.1, h1.2.1, grown_trans h.2.2.1 h1.2.2.1 h.2.2.2, fun k hk => ?_⟩
  rcases h1.2.2.2 k hk with e | e
  · exact h.2.2.2 k e
  · exact Or.inr (Nat.le_trans h.2.2.1.size e)

theorem OutAt.later {w0 w1 w2 : World} {N : Nat} {q0 q : Value} {ps : List (List Int)} {xs : List Value} (h : OutAt w0 N q0 ps q xs w1) (hb : Below w1.heap.size w1 w2) : OutAt w0 N q0 ps q xs w2 :=
  ⟨h.1.kept (w' := w2) (row := none) ⟨hb.os, hb.tape, hb.output, hb.size, fun j hj _ => hb.block j hj⟩ (by rcases Option.eq_none_or_eq_some (Value.ownBlock q) with h | ⟨x, h⟩; exact Or.inl h; exact Or.inr (by rw [h]; simp)),
   h.2.1.imp fun u z hp => hp.later hb, grown_trans h.2.2.1 (grown_of_below hb q.ownBlock) h.2.2.2, h.2.2.2⟩

theorem OutAt.here {w1 : World} {N : Nat} {q0 q : Value} {ps : List (List Int)} {xs : List Value} {w0 : World} (h : OutAt w0 N q0 ps q xs w1) : OutAt w1 N q ps q xs w1 := ⟨h.1, h.2.1, grown_of_below (Below.refl _ _) _, fun _ h => Or.inl h⟩

#print axioms ints_cons
end Go.Proofs.YtagffgabceodfaaDoor
