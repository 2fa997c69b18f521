/- Walks: reduce.Steps. -/
import Derived.Test.YtagidfoiemgfcaaGreatDoorHs5
import Derived.Test.YtagidfoiemgfcaaGreatDoorLn11
import Derived.Test.YtagidfoiemgfcaaGreatDoorRr
import Derived.Test.YtagidfoiemgfcaaGreatDoorLn6
namespace Go.Proofs.YtagidfoiemgfcaaGreatDoor
open Go.RowKit Go.Shelf
attribute [local go_sem] Oper.semAt_some
set_option linter.unusedSimpArgs false
set_option linter.unusedVariables false
set_option maxRecDepth 8000

set_option maxHeartbeats 1000000 in
theorem outer1G_any {n : Nat} {t : Lm} (hO : OgAt n t) {y : Value} {J : Tk Hnd} {K : Nat → Prop} {all : List Hnd} {NN : Nat} (hT : GoTk y J all NN) (hJ : TkOk J K) (hall : ∀ p ∈ hndT n t, p ∈ all) (T : Nat) (a : Option Addr) (c : Nat) (w : World) (X f : Nat → Prop) (pre : List Hnd) (hNN : pre.length + (hndT n t).length ≤ NN) (hB : Blk w T #[.int .i64 t.kind, .int .i64 t.idx, .slice a t.subs.length c] 26) (hs : SlM w X a t.subs) (hX : ∀ b, X b → K b) (hjw : J pre true f w) :
    Calls Tryz.prog 29 #[y, .pointer (some ⟨T, 0, none⟩)] w fun e w' => (∃ v, e = .returned v) ∧ ∃ s, Went J (hndT n t) pre f (fun _ => False) w s w' := by
  have HC := hide (hO y J K all NN hT hJ hall (.agg #[.int .i64 t.kind, .int .i64 t.idx, .slice a t.subs.length c]) w X f pre hNN ⟨a, c, rfl, hs⟩ hX hjw)
  have c0 : w.cell? ⟨T, 0, none⟩ = some (.int .i64 t.kind) := hB.cell 0
  have c1 : w.cell? ⟨T, 1, none⟩ = some (.int .i64 t.idx) := hB.cell 1
  have c2 : w.cell? ⟨T, 2, none⟩ = some (.slice a t.subs.length c) := hB.cell 2
  obtain ⟨fn0, p0, q0, rfl⟩ := hT.form
  clear hO hT hJ hB hs hX hjw hall hNN
  go_enter Tryz.func29, Tryz.ntmps29
  go_wp2_with fail
  refine HC.out.mono ?_
  rintro e w1 ⟨s, rfl, h1⟩
  have H := hide h1
  clear h1
  cases s with
  | true =>
    go_wp2_with fail
    go_end0
    exact ⟨⟨_, rfl⟩, _, H.out⟩
  | false =>
    go_wp2_with fail
    go_end0
    exact ⟨⟨_, rfl⟩, _, H.out⟩

/-- A step that is too great. -/
def badH (p : Hnd) : Prop := 2000 < sizeM [p.2.2]
theorem row_last3 {w3 : World} {N T n g cap : Nat} {xs : List Value} {z1 z2 z3 u1 u2 u3 : Value} (h : w3.ownsRow N T 3 (.slice (some ⟨g, 0, none⟩) (n + 1) cap) (n + 1) (xs ++ [z1, z2, z3])) (hx : xs.length = n * 3) :
    w3.cell? ⟨g, n * 3, none⟩ = some z1 ∧ w3.cell? ⟨g, n * 3 + 1, none⟩ = some z2 ∧ w3.cell? ⟨g, n * 3 + 2, none⟩ = some z3 ∧ (∀ i, w3.frozen? ⟨g, i, none⟩ = false) ∧ ∀ wF : World, wF.heap[g]? = (((w3.setCell ⟨g, n * 3, none⟩ u1).setCell ⟨g, n * 3 + 1, none⟩ u2).setCell ⟨g, n * 3 + 2, none⟩ u3).heap[g]? → wF.ownsRow N T 3 (.slice (some ⟨g, 0, none⟩) (n + 1) cap) (n + 1) (xs ++ [u1, u2, u3]) := by
  obtain ⟨hl, h1⟩ := h
  rcases h1 with ⟨h1, _⟩ | ⟨g', cap', cur, hv, hg, hh, hnc, hcm, hcs, htk⟩
  · cases h1
  · simp at hv
    obtain ⟨rfl, rfl⟩ := hv
    have hlt : n * 3 + 2 < cur.size := by omega
    have cc : ∀ j, j < 3 → cur.toList[n * 3 + j]? = ([z1, z2, z3] : List Value)[j]? := fun j hj => by
      have := congrArg (fun l => l[n * 3 + j]?) htk
      rw [List.getElem?_take_of_lt (by omega), List.getElem?_append_right (by omega), hx, Nat.add_sub_cancel_left] at this
      exact this
    have c1 := cc 0 (by omega)
    have c2 := cc 1 (by omega)
    have c3 := cc 2 (by omega)
    refine ⟨by simpa [World.cell?, hh] using c1, by simpa [World.cell?, hh] using c2, by simpa [World.cell?, hh] using c3, fun i => by simp [World.frozen?, hh], fun wF hF => ⟨by simp [hx]; omega, Or.inr ⟨g, cap, ((cur.setIfInBounds (n * 3) u1).setIfInBounds (n * 3 + 1) u2).setIfInBounds (n * 3 + 2) u3, rfl, hg, ?_, hnc, hcm, by simpa using hcs, ?_⟩⟩⟩
    · rw [hF]
      simp [World.setCell, Array.getElem?_modify, hh]
    · rw [Array.toList_setIfInBounds, Array.toList_setIfInBounds, Array.toList_setIfInBounds, List.take_set, List.take_set, List.take_set, htk]
      rw [List.set_append_right _ _ (by omega), List.set_append_right _ _ (by omega), List.set_append_right _ _ (by omega), hx, Nat.sub_self, Nat.add_sub_cancel_left, Nat.add_sub_cancel_left]
      simp
/-- The last of the row g is written, and the row is put into the block A. -/
structure Fw3 (w3 : World) (A g n cap T : Nat) (u1 u2 u3 : Value) (wF : World) : Prop where
  os : wF.os = w3.os
  tape : wF.tape = w3.tape
  output : wF.output = w3.output
  size : wF.heap.size = w3.heap.size
  other : ∀ b, b ≠ g → b ≠ A → wF.heap[b]? = w3.heap[b]?
  box : Blk wF A #[.slice (some ⟨g, 0, none⟩) (n + 1) cap] T
  row : wF.heap[g]? = (((w3.setCell ⟨g, n * 3, none⟩ u1).setCell ⟨g, n * 3 + 1, none⟩ u2).setCell ⟨g, n * 3 + 2, none⟩ u3).heap[g]?
theorem fw3_a {w3 : World} {A g n cap T : Nat} {u1 u2 u3 v : Value} (hne : A ≠ g) (hA : Blk w3 A #[v] T) : Fw3 w3 A g n cap T u1 u2 u3 ((((w3.setCell ⟨g, n * 3, none⟩ u1).setCell ⟨g, n * 3 + 1, none⟩ u2).setCell ⟨g, n * 3 + 2, none⟩ u3).setCell ⟨A, 0, none⟩ (.slice (some ⟨g, 0, none⟩) (n + 1) cap)) :=
  ⟨rfl, rfl, rfl, by simp [World.setCell], fun b h1 h2 => by rw [Below.heap_setCell _ _ _ _ (by simpa using h2), Below.heap_setCell _ _ _ _ (by simpa using h1), Below.heap_setCell _ _ _ _ (by simpa using h1), Below.heap_setCell _ _ _ _ (by simpa using h1)], Blk.set1M (((hA.setOther _ _ hne).setOther _ _ hne).setOther _ _ hne), Below.heap_setCell _ _ _ _ (by simpa using fun e => hne e.symm)⟩
theorem fw3_b {w3 : World} {A g n cap T : Nat} {u1 u2 u3 v : Value} (hne : A ≠ g) (hA : Blk w3 A #[v] T) : Fw3 w3 A g n cap T u1 u2 u3 ((((w3.setCell ⟨A, 0, none⟩ (.slice (some ⟨g, 0, none⟩) (n + 1) cap)).setCell ⟨g, n * 3, none⟩ u1).setCell ⟨g, n * 3 + 1, none⟩ u2).setCell ⟨g, n * 3 + 2, none⟩ u3) := by
  refine ⟨rfl, rfl, rfl, by simp [World.setCell], fun b h1 h2 => by rw [Below.heap_setCell _ _ _ _ (by simpa using h1), Below.heap_setCell _ _ _ _ (by simpa using h1), Below.heap_setCell _ _ _ _ (by simpa using h1), Below.heap_setCell _ _ _ _ (by simpa using h2)], (((Blk.set1M hA).setOther _ _ hne).setOther _ _ hne).setOther _ _ hne, ?_⟩
  have e : (w3.setCell ⟨A, 0, none⟩ (.slice (some ⟨g, 0, none⟩) (n + 1) cap)).heap[g]? = w3.heap[g]? := Below.heap_setCell _ _ _ _ (by simpa using fun e => hne e.symm)
  simp only [World.setCell, Array.getElem?_modify] at e ⊢
  simp only [e]

/-- What is gathered: the row v in the block A; where a step was too great, the answer is told already. -/
def JS (K : Nat → Prop) (A R4 R5 L : Nat) (r rd : Loop) (W0 : World) : Tk Hnd := fun pre s f W =>
  (∀ b, K b → b < W0.heap.size ∧ ¬ f b) ∧ W0.heap.size ≤ W.heap.size ∧ (∀ b, K b → W.heap[b]? = W0.heap[b]?) ∧ W.heap[L]? = some (.loop (if s = true then r else rd)) ∧ Blk W R4 #[.slice none 0 0] 24 ∧ Blk W R5 #[.int .i64 (if s = true then 0 else 8)] 28 ∧
  (∃ (v : Value) (l : List Lm) (xs : List Value) (E : Nat → Prop), (∀ b, f b ↔ b = L ∨ b = A ∨ b = R4 ∨ b = R5 ∨ v.ownBlock = some b ∨ E b) ∧ (∀ b, E b → W0.heap.size ≤ b ∧ b < W.heap.size ∧ v.ownBlock ≠ some b) ∧ Blk W A #[v] 24 ∧ W.ownsRow W0.heap.size 26 3 v l.length xs ∧ RowTM W E l xs ∧ (s = true → l = pre.map fun p => p.2.2)) ∧
  (s = true → ∀ p ∈ pre, ¬ badH p) ∧ (s = false → ∃ p ∈ pre, badH p)
theorem JS.ok {K : Nat → Prop} {A R4 R5 L : Nat} {r rd : Loop} {W0 : World} : TkOk (JS K A R4 R5 L r rd W0) K where
  inside := by
    rintro pre s f W ⟨hK, hz, hC, hL, h4, h5, ⟨v, l, xs, E, hf, hE, hA, ho, hr, hl⟩, h1, h2⟩ b hb
    rcases hb with hb | hb
    · rcases (hf b).1 hb with h | h | h | h | h | h
      · subst h; exact (Array.getElem?_eq_some_iff.1 hL).1
      · subst h; exact hA.lt
      · subst h; exact h4.lt
      · subst h; exact h5.lt
      · exact (ho.lt b h).2
      · exact (hE b h).2.1
    · have := (hK b hb).1; omega
  apart := by
    rintro pre s f W ⟨hK, hz, hC, hL, h4, h5, ⟨v, l, xs, E, hf, hE, hA, ho, hr, hl⟩, h1, h2⟩ b hb
    exact (hK b hb).2
  abide := by
    rintro pre s f W W' ⟨hK, hz, hC, hL, h4, h5, ⟨v, l, xs, E, hf, hE, hA, ho, hr, hl⟩, h1, h2⟩ hs hk
    refine ⟨hK, Nat.le_trans hz hs, fun b hb => (hk b (Or.inr hb)).trans (hC b hb), (hk L (Or.inl ((hf L).2 (Or.inl rfl)))).trans hL, (hk R4 (Or.inl ((hf R4).2 (Or.inr (Or.inr (Or.inl rfl)))))).trans h4, (hk R5 (Or.inl ((hf R5).2 (Or.inr (Or.inr (Or.inr (Or.inl rfl))))))).trans h5, ⟨v, l, xs, E, hf, fun b hb => ⟨(hE b hb).1, Nat.lt_of_lt_of_le (hE b hb).2.1 hs, (hE b hb).2.2⟩, (hk A (Or.inl ((hf A).2 (Or.inr (Or.inl rfl))))).trans hA, ownsRow_at ho fun g hg => hk g (Or.inl ((hf g).2 (Or.inr (Or.inr (Or.inr (Or.inr (Or.inl hg))))))), hr.imp fun a l hsl => hsl.kept fun b hb => hk b (Or.inl ((hf b).2 (Or.inr (Or.inr (Or.inr (Or.inr (Or.inr hb)))))) ), hl⟩, h1, h2⟩
end Go.Proofs.YtagidfoiemgfcaaGreatDoor
