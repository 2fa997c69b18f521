import Derived.Test.YtdebiiodhkcnkaaGreatZIndexMadeOwn
import Derived.Test.YtdebiiodhkcnkaaGreatQRow
namespace Go.Proofs.YtdebiiodhkcnkaaGreat
open Go.RowKit
set_option linter.unusedSimpArgs false
set_option linter.unusedVariables false
abbrev Ec := Pc × Nat
def enc5 (x : Ec) : List Value := [.string x.1.1.l.name, .slice x.1.2.1.1 x.1.1.l.args.length x.1.2.1.2, .string x.1.1.r.name, .slice x.1.2.2.1 x.1.1.r.args.length x.1.2.2.2, .int .i64 (x.2 : Int)]
def flat5 : List Ec → List Value
 | [] => []
 | x :: r => enc5 x ++ flat5 r
theorem flat5_append (b : List Ec) : ∀ a, flat5 (a ++ b) = flat5 a ++ flat5 b
 | [] => rfl
 | x :: r => by rw [List.cons_append, flat5, flat5, flat5_append b r, List.append_assoc]
theorem flat5_length : ∀ a : List Ec, (flat5 a).length = a.length * 5
 | [] => rfl
 | x :: r => by rw [flat5, List.length_append, flat5_length r]; simp [enc5]; omega
theorem flat5_get : ∀ (a : List Ec) (i : Nat) (h : i < a.length) (j : Nat), j < 5 → (flat5 a)[i * 5 + j]? = (enc5 a[i])[j]?
 | [], i, h, j, hj => by simp at h
 | x :: r, 0, h, j, hj => by
  rw [flat5, List.getElem?_append_left (by simp [enc5]; omega)]; simp
 | x :: r, i + 1, h, j, hj => by
  rw [flat5, List.getElem?_append_right (by simp [enc5]; omega)]
  have e : (i + 1) * 5 + j - (enc5 x).length = i * 5 + j := by simp [enc5]; omega
  rw [e, flat5_get r i (by simpa using h) j hj]
  simp
structure ERow (w : World) (N : Nat) (Y : Nat → Prop) (v : Value) (cs : List Ec) : Prop where
 own : w.ownsRow N 129 5 v cs.length (flat5 cs)
 row : ∀ x ∈ cs, Sl w (fun b => Y b ∨ (N ≤ b ∧ some b ≠ v.ownBlock)) x.1.2.1.1 x.1.1.l.args ∧ Sl w (fun b => Y b ∨ (N ≤ b ∧ some b ≠ v.ownBlock)) x.1.2.2.1 x.1.1.r.args
theorem ERow.start (w : World) (N : Nat) (Y : Nat → Prop) : ERow w N Y (.slice none 0 0) [] := ⟨World.ownsRow_nil w N _ 5, by simp⟩
theorem ERow.below {w w' : World} {N : Nat} {Y : Nat → Prop} {v : Value} {cs : List Ec} (h : ERow w N Y v cs) (hb : Below w.heap.size w w') : ERow w' N Y v cs :=
 ⟨h.own.kept (w' := w') (row := none) ⟨hb.os, hb.tape, hb.output, hb.size, fun j hj _ => hb.block j hj⟩ (by rcases Option.eq_none_or_eq_some (Value.ownBlock v) with h | ⟨x, h⟩; exact Or.inl h; exact Or.inr (by rw [h]; simp)),
  fun x hx => ⟨(h.row x hx).1.later hb, (h.row x hx).2.later hb⟩⟩
theorem ERow.ne {w : World} {N : Nat} {Y : Nat → Prop} {v : Value} {cs : List Ec} (h : ERow w N Y v cs) {b : Nat} (hb : b < N) : some b ≠ v.ownBlock := fun e => by
 have := (h.own.lt b e.symm).1; omega
theorem ERow.push {w w1 w2 w3 : World} {N : Nat} {Y : Nat → Prop} {v : Value} {cs : List Ec} (h : ERow w N Y v cs) (hN : N ≤ w.heap.size) (hY : ∀ b, Y b → b < N) (hb : Below w.heap.size w w1) {x : Ec}
  (ht : Sl w1 (fun b => Y b ∨ w.heap.size ≤ b) x.1.2.1.1 x.1.1.l.args ∧ Sl w1 (fun b => Y b ∨ w.heap.size ≤ b) x.1.2.2.1 x.1.1.r.args) (o : Obj) (hw2 : w2 = w1.alloc o) {g cap : Nat}
  (hown : w3.ownsRow N 129 5 (.slice (some ⟨g, 0, none⟩) (cs.length + 1) cap) (cs.length + 1) (flat5 cs ++ enc5 x)) (hg : w2.grownBy w3 v.ownBlock) (hg1 : v.ownBlock = some g ∨ g = w2.heap.size) :
  ERow w3 N Y (.slice (some ⟨g, 0, none⟩) (cs.length + 1) cap) (cs ++ [x]) := by
 subst hw2
 have hlt := h.own.lt
 have hsz : w1.heap.size ≤ (w1.alloc o).heap.size := by simp
 have hbs := hb.size
 have hgN : N ≤ g := by
  rcases hg1 with e | e
  ·exact (hlt g e).1
  ·simp at e; omega
 have old : ∀ (a : Option Addr) (l : List Tm), Sl w (fun b => Y b ∨ (N ≤ b ∧ some b ≠ v.ownBlock)) a l → Sl w3 (fun b => Y b ∨ (N ≤ b ∧ some b ≠ (Value.slice (some ⟨g, 0, none⟩) (cs.length + 1) cap).ownBlock)) a l := fun a l h0 => by
  have h1 : Sl w (fun b => (Y b ∨ (N ≤ b ∧ some b ≠ v.ownBlock)) ∧ b < w.heap.size) a l := h0.mono fun b h1 h2 => ⟨h1, h2⟩
  have h2 : Sl w3 (fun b => (Y b ∨ (N ≤ b ∧ some b ≠ v.ownBlock)) ∧ b < w.heap.size) a l := h1.kept fun b hx => by
   have hne : some b ≠ v.ownBlock := by
    rcases hx.1 with hy | hy
    ·exact h.ne (hY b hy)
    ·exact hy.2
   rw [hg.block b (by simp; omega) hne, Below.heap_alloc _ _ _ (by omega), hb.block b hx.2]
  refine h2.mono fun b hx _ => ?_
  rcases hx.1 with hy | hy
  ·exact Or.inl hy
  ·refine Or.inr ⟨hy.1, fun e => ?_⟩
   simp [Value.ownBlock] at e
   rcases hg1 with e' | e'
   ·exact hy.2 (by rw [e', e])
   ·simp at e'; omega
 have new : ∀ (a : Option Addr) (l : List Tm), Sl w1 (fun b => Y b ∨ w.heap.size ≤ b) a l → Sl w3 (fun b => Y b ∨ (N ≤ b ∧ some b ≠ (Value.slice (some ⟨g, 0, none⟩) (cs.length + 1) cap).ownBlock)) a l := fun a l h0 => by
  have h1 : Sl w1 (fun b => (Y b ∨ w.heap.size ≤ b) ∧ b < w1.heap.size) a l := h0.mono fun b h1 h2 => ⟨h1, h2⟩
  have h2 : Sl w3 (fun b => (Y b ∨ w.heap.size ≤ b) ∧ b < w1.heap.size) a l := h1.kept fun b hx => by
   have hne : some b ≠ v.ownBlock := by
    rcases hx.1 with hy | hy
    ·exact h.ne (hY b hy)
    ·intro e; have := (hlt b e.symm).2; omega
   rw [hg.block b (by simp; omega) hne, Below.heap_alloc _ _ _ hx.2]
  refine h2.mono fun b hx _ => ?_
  rcases hx.1 with hy | hy
  ·exact Or.inl hy
  ·refine Or.inr ⟨by omega, fun e => ?_⟩
   simp [Value.ownBlock] at e
   rcases hg1 with e' | e'
   ·have := (hlt g e').2; omega
   ·simp at e'; omega
 refine ⟨by rw [flat5_append]; simpa [flat5] using hown, fun y hy => ?_⟩
 rcases List.mem_append.1 hy with hy | hy
 ·exact ⟨old _ _ (h.row y hy).1, old _ _ (h.row y hy).2⟩
 ·have e : y = x := by simpa using hy
  subst e
  exact ⟨new _ _ ht.1, new _ _ ht.2⟩
theorem Tryz.infoEq : (Tryz.prog.info? 129).map (fun i => (i.zero, i.size, i.bytes)) = some (some (.agg #[.string ByteArray.empty, .slice none 0 0, .string ByteArray.empty, .slice none 0 0, .int .i64 0]), 5, 88) := by kernel_rfl
theorem cell_five_new (w : World) (c0 c1 c2 c3 c4 : Value) (T : Nat) : ∀ j u, [c0, c1, c2, c3, c4][j]? = some u → (w.alloc (.cells #[c0, c1, c2, c3, c4] T)).cell? ((⟨w.heap.size, 0, none⟩ : Addr).add j) = some u :=
 World.news_of_block (cs := #[c0, c1, c2, c3, c4]) (heap_alloc_new w _)
end Go.Proofs.YtdebiiodhkcnkaaGreat
