
/- Walks: the places of a term, as the document says. -/
import Derived.Test.YthlgknglalcggaiPl
import Derived.Test.YthlgknglalcggaiMem
import Derived.Test.YthlgknglalcggaiW1
import Derived.Lib.Builder
namespace Go.Proofs.Ythlgknglalcggai
open Go.RowKit
set_option linter.unusedSimpArgs false
set_option linter.unusedVariables false

theorem owns_le {w : World} {b b' e z n : Nat} {v : Value} {xs : List Value} (h : w.ownsRow b e z v n xs) (hb : b' ≤ b) : w.ownsRow b' e z v n xs := by
  obtain ⟨h1, h2⟩ := h
  exact ⟨h1, h2.imp id fun ⟨g, cap, cur, h3, h4, h5⟩ => ⟨g, cap, cur, h3, Nat.le_trans hb h4, h5⟩⟩

/-- A row of lists that is added to, and what stays where it was. -/
def OutAt (w0 : World) (N : Nat) (q0 : Value) (ps : List (List Int)) (q : Value) (xs : List Value) (wr : World) : Prop :=
  wr.ownsRow N 22 1 q ps.length xs ∧ RowP wr (fun b => N ≤ b ∧ some b ≠ q.ownBlock) ps xs ∧ w0.grownBy wr q0.ownBlock ∧ (∀ k, q.ownBlock = some k → q0.ownBlock = some k ∨ w0.heap.size ≤ k)

theorem PV.grownBy {w w' : World} {Z : Nat → Prop} {u : Value} {z : List Int} {r : Option Nat} (h : PV w Z u z) (hg : w.grownBy w' r) (hZ : ∀ b, Z b → some b ≠ r) : PV w' Z u z := by
  have h1 : PV w (fun b => Z b ∧ b < w.heap.size) u z := h.mono fun b h1 h2 => ⟨h1, h2⟩
  have h2 : PV w' (fun b => Z b ∧ b < w.heap.size) u z := h1.kept fun b hx => hg.block b hx.2 (hZ b hx.1)
  exact h2.mono fun b hx _ => hx.1

theorem OutAt.push {w0 wr w1 : World} {N : Nat} {q0 q : Value} {ps : List (List Int)} {xs : List Value} (h : OutAt w0 N q0 ps q xs wr) (hN : N ≤ wr.heap.size) (hb : Below wr.heap.size wr w1) {u : Value} {z : List Int} (hu : PV w1 (fun b => wr.heap.size ≤ b) u z) (hn : ps.length ≤ 1000000) (A : Nat) (hA : w1.heap.size = A) :
    ∃ q' w3, (Builtin.append_ #[33, 33] 33 #[q, .slice (some ⟨A, 0, none⟩) 1 1]).run Try.prog (w1.alloc (.cells #[u] 22)) = .ok q' w3 ∧ OutAt w0 N q0 (ps ++ [z]) q' (xs ++ [u]) w3 := by
  subst hA
  obtain ⟨i0, hi, hz0, hz1, hz2⟩ := info_parts Try.infoInts
  obtain ⟨hown, hrow, hgr, hat⟩ := h
  have hlt := hown.lt
  have hs1 := hb.size
  have hown1 : w1.ownsRow N 22 1 q ps.length xs := hown.kept (w' := w1) (row := none) ⟨hb.os, hb.tape, hb.output, hb.size, fun j hj _ => hb.block j hj⟩ (by rcases Option.eq_none_or_eq_some (Value.ownBlock q) with h | ⟨x, h⟩; exact Or.inl h; exact Or.inr (by rw [h]; simp))
  obtain ⟨g, cap, w3, hr, ho, hg, hga, hgl⟩ := run_append_lies (P := Try.prog) (w := w1.alloc (.cells #[u] 22)) 33 33 N 22 i0 _ 1 24 Try.underlying33 hi hz0 hz1 hz2 rfl (by decide) q ps.length xs (hown1.alloc _)
    ⟨w1.heap.size, 0, none⟩ 1 1 [u] rfl (cell_one_new _ _ _) (fun x hx => by simp at hx; subst hx; exact hu.one) (by decide) (by unfold maxLen; omega) (by omega) (by simp; omega) _ rfl
  have hgN : N ≤ g := by
    rcases hga with e | e
    · exact (hlt g e).1
    · simp at e; omega
  refine ⟨_, w3, hr, by simpa using ho, ?_, ?_, fun k hk => ?_⟩
  · refine RowP.append (hrow.imp fun u' z' hp => ?_) ?_
    · have h1 : PV wr (fun b => (N ≤ b ∧ some b ≠ q.ownBlock) ∧ b < wr.heap.size) u' z' := hp.mono fun b h1 h2 => ⟨h1, h2⟩
      have h2 : PV w3 (fun b => (N ≤ b ∧ some b ≠ q.ownBlock) ∧ b < wr.heap.size) u' z' := h1.kept fun b hx => by
        rw [hg.block b (by simp; omega) hx.1.2, Below.heap_alloc _ _ _ (by omega), hb.block b hx.2]
      refine h2.mono fun b hx _ => ⟨hx.1.1, fun e => ?_⟩
      simp [Value.ownBlock] at e
      rcases hga with e' | e'
      · exact hx.1.2 (by rw [e', e])
      · simp at e'; omega
    · refine ⟨u, [], rfl, ?_, rfl⟩
      have h1 : PV w1 (fun b => wr.heap.size ≤ b ∧ b < w1.heap.size) u z := hu.mono fun b h1 h2 => ⟨h1, h2⟩
      have h2 : PV w3 (fun b => wr.heap.size ≤ b ∧ b < w1.heap.size) u z := h1.kept fun b hx => by
        rw [hg.block b (by simp; omega) (fun e => by have := (hlt b e.symm).2; omega), Below.heap_alloc _ _ _ hx.2]
      refine h2.mono fun b hx _ => ⟨by omega, fun e => ?_⟩
      simp [Value.ownBlock] at e
      rcases hga with e' | e'
      · have := (hlt g e').2; omega
      · simp at e'; omega
  · exact grown_trans (grown_trans hgr (grown_of_below hb q.ownBlock) hat) (grown_trans (grown_of_below ((Below.refl _ _).alloc (Nat.le_refl _) (.cells #[u] 22)) q.ownBlock) hg (fun k hk => Or.inl hk)) hat
  · simp [Value.ownBlock] at hk
    subst hk
    rcases hga with e | e
    · exact hat _ e
    · right; simp at e; have := hgr.size; omega

/-- A number ahead of a list. -/
theorem ints_cons {W : World} {Z : Nat → Prop} {u : Value} {z : List Int} (h : PV W Z u z) (i : Int) (F : Nat) (hF : W.heap[F]? = some (.cells #[.int .i64 i] 3 (0, 0))) (hn : z.length ≤ 1000000) :
    ∃ q w2, (Builtin.append_ #[22, 22] 22 #[.slice (some ⟨F, 0, none⟩) 1 1, u]).run Try.prog W = .ok q w2 ∧ PV w2 (fun b => b = F ∨ W.heap.size ≤ b) q (i :: z) ∧ Below W.heap.size W w2 := by
  obtain ⟨i0, hi, hz0, hz1, hz2⟩ := info_parts Try.infoInt
  have hsrc := pv_src h
  rw [← hz1] at hsrc
  have hFl : F < W.heap.size := by
    apply Classical.byContradiction
    intro hn
    rw [Array.getElem?_eq_none (by omega)] at hF; cases hF
  have hFc : W.cell? ⟨F, 0, none⟩ = some (.int .i64 i) := by simp [World.cell?, hF]
  by_cases h0 : z = []
  · subst h0
    have hg := run_append_room_src (P := Try.prog) W 22 22 22 3 i0 Try.underlying22 hi F 0 1 1 u 0 [] hsrc (by omega) (by simp) (by simp)
    refine ⟨_, _, hg, ⟨_, _, rfl, by simp, Or.inr ⟨F, 0, rfl, Or.inl rfl, fun j hj => ?_⟩⟩, ?_⟩
    · simp at hj; subst hj; simpa [World.setCells] using hFc
    · simpa [World.setCells] using Below.refl W.heap.size W
  · have hzp := List.length_pos_iff.2 h0
    have hfc := run_firstCells_some (P := Try.prog) W.drew i0.size 1 ⟨F, 0, none⟩ 1 1 [.int .i64 i] (by rw [hz1]; rfl) (fun j v hj => by
      match j, hj with
      | 0, hj => simp at hj; subst hj; simpa [Addr.add] using hFc)
    have hg := run_append_grow_src (P := Try.prog) W 22 22 22 3 i0 (.int .i64 0) Try.underlying22 hi hz0 (some ⟨F, 0, none⟩) 1 1 [.int .i64 i] hfc u z.length _ hsrc (by omega) (by omega) (by rw [hz2]; exact growslice_fits (by omega) (by omega))
    have hge := grownCap_ge W (1 + z.length) 1 3
    have hcm := grownCap_le_maxLen W (1 + z.length) 1 3 (by unfold maxLen; omega)
    refine ⟨_, _, hg, ⟨some ⟨W.heap.size, 0, none⟩, grownCap W (1 + z.length) 1 3, by rw [List.length_cons, Nat.add_comm], ⟨by simp; omega, by simp; omega⟩, Or.inr ⟨W.heap.size, 0, rfl, Or.inr (Nat.le_refl _), fun j hj => ?_⟩⟩, ?_⟩
    · have hb := heap_alloc_new W.drew (.cells (([Value.int .i64 i] ++ z.map fun x => Value.int .i64 x).toArray ++ Builtin.zeroCells (Value.int .i64 0).cells (grownCap W (1 + z.length) 1 3 - (1 + z.length))) 3)
      have hb' : (W.drew.alloc (.cells (([Value.int .i64 i] ++ z.map fun x => Value.int .i64 x).toArray ++ Builtin.zeroCells (Value.int .i64 0).cells (grownCap W (1 + z.length) 1 3 - (1 + z.length))) 3)).heap[W.heap.size]? = _ := hb
      rw [Lib.cell_of_heap hb', Nat.zero_add, Array.getElem?_append_left (by simp at hj ⊢; omega)]
      simp at hj
      cases j with
      | zero => simp
      | succ j => simp
    · exact ((Below.refl W.heap.size W).drew).alloc (Nat.le_refl _) _

/-- How the rounds of one list go. -/
def InInv (w1 : World) (N : Nat) (q1 : Value) (ps : List (List Int)) (i : Nat) (ls : List (List Int)) (q j : Value) (wr : World) : Prop :=
  ∃ (k : Nat) (xs : List Value), k ≤ ls.length ∧ j = .int .i64 k ∧ OutAt w1 N q1 (ps ++ (ls.take k).map fun p => (i : Int) :: p) q xs wr

/-- How the rounds of the terms below go. -/
def OuInv (w0 : World) (N : Nat) (l : List Tm) (q i : Value) (wr : World) : Prop :=
  ∃ (k : Nat) (xs : List Value), k ≤ l.length ∧ i = .int .i64 k ∧ OutAt w0 N (.slice none 0 0) ([] :: plcL 0 (l.take k)) q xs wr

theorem OutAt.mono {w0 w1 wr : World} {N : Nat} {q0 q1 q : Value} {ps ps1 : List (List Int)} {xs xs1 : List Value} (h : OutAt w0 N q0 ps1 q1 xs1 w1) (h1 : OutAt w1 N q1 ps q xs wr) : OutAt w0 N q0 ps q xs wr := by
  refine ⟨h1.1, h1.2.1, grown_trans h.2.2.1 h1.2.2.1 h.2.2.2, fun k hk => ?_⟩
  rcases h1.2.2.2 k hk with e | e
  · exact h.2.2.2 k e
  · exact Or.inr (Nat.le_trans h.2.2.1.size e)

theorem OutAt.later {w0 w1 w2 : World} {N : Nat} {q0 q : Value} {ps : List (List Int)} {xs : List Value} (h : OutAt w0 N q0 ps q xs w1) (hb : Below w1.heap.size w1 w2) : OutAt w0 N q0 ps q xs w2 :=
  ⟨h.1.kept (w' := w2) (row := none) ⟨hb.os, hb.tape, hb.output, hb.size, fun j hj _ => hb.block j hj⟩ (by rcases Option.eq_none_or_eq_some (Value.ownBlock q) with h | ⟨x, h⟩; exact Or.inl h; exact Or.inr (by rw [h]; simp)),
   h.2.1.imp fun u z hp => hp.later hb, grown_trans h.2.2.1 (grown_of_below hb q.ownBlock) h.2.2.2, h.2.2.2⟩

theorem OutAt.here {w1 : World} {N : Nat} {q0 q : Value} {ps : List (List Int)} {xs : List Value} {w0 : World} (h : OutAt w0 N q0 ps q xs w1) : OutAt w1 N q ps q xs w1 := ⟨h.1, h.2.1, grown_of_below (Below.refl _ _) _, fun _ h => Or.inl h⟩

#print axioms OutAt.push
#print axioms ints_cons
end Go.Proofs.Ythlgknglalcggai
