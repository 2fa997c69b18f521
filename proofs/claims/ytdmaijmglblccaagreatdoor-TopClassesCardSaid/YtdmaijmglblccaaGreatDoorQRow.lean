/- Rows of pairs that a call makes. -/
import Derived.Test.YtdmaijmglblccaaGreatDoorZTopClassesOwn
import Derived.Test.YtdmaijmglblccaaGreatDoorW82
namespace Go.Proofs.YtdmaijmglblccaaGreatDoor
open Go.RowKit
set_option linter.unusedSimpArgs false
set_option linter.unusedVariables false

/-- A pair, and where those below its terms' first knots lie. -/
abbrev Pc := Pr × (Option Addr × Nat) × (Option Addr × Nat)
instance : Inhabited Pc := ⟨(⟨⟨⟨#[]⟩, []⟩, ⟨⟨#[]⟩, []⟩⟩, (none, 0), (none, 0))⟩
def enc4 (x : Pc) : List Value := [.string x.1.l.name, .slice x.2.1.1 x.1.l.args.length x.2.1.2, .string x.1.r.name, .slice x.2.2.1 x.1.r.args.length x.2.2.2]
def flat4 : List Pc → List Value
  | [] => []
  | x :: r => enc4 x ++ flat4 r
theorem flat4_append (b : List Pc) : ∀ a, flat4 (a ++ b) = flat4 a ++ flat4 b
  | [] => rfl
  | x :: r => by rw [List.cons_append, flat4, flat4, flat4_append b r, List.append_assoc]
theorem flat4_get : ∀ (a : List Pc) (i : Nat) (h : i < a.length) (j : Nat), j < 4 → (flat4 a)[i * 4 + j]? = (enc4 a[i])[j]?
  | [], i, h, j, hj => by simp at h
  | x :: r, 0, h, j, hj => by
    rw [flat4, List.getElem?_append_left (by simp [enc4]; omega)]; simp
  | x :: r, i + 1, h, j, hj => by
    rw [flat4, List.getElem?_append_right (by simp [enc4]; omega)]
    have e : (i + 1) * 4 + j - (enc4 x).length = i * 4 + j := by simp [enc4]; omega
    rw [e, flat4_get r i (by simpa using h) j hj]
    simp

/-- The row so far, apart from what its terms are made of: old memory that Y lets, and new memory. -/
structure QRow (w : World) (N : Nat) (Y : Nat → Prop) (v : Value) (cs : List Pc) : Prop where
  own : w.ownsRow N 35 4 v cs.length (flat4 cs)
  row : ∀ x ∈ cs, Sl w (fun b => Y b ∨ (N ≤ b ∧ some b ≠ v.ownBlock)) x.2.1.1 x.1.l.args ∧ Sl w (fun b => Y b ∨ (N ≤ b ∧ some b ≠ v.ownBlock)) x.2.2.1 x.1.r.args

theorem QRow.start (w : World) (N : Nat) (Y : Nat → Prop) : QRow w N Y (.slice none 0 0) [] := ⟨World.ownsRow_nil w N _ 4, by simp⟩
theorem QRow.below {w w' : World} {N : Nat} {Y : Nat → Prop} {v : Value} {cs : List Pc} (h : QRow w N Y v cs) (hb : Below w.heap.size w w') : QRow w' N Y v cs :=
  ⟨h.own.kept (w' := w') (row := none) ⟨hb.os, hb.tape, hb.output, hb.size, fun j hj _ => hb.block j hj⟩ (by rcases Option.eq_none_or_eq_some (Value.ownBlock v) with h | ⟨x, h⟩; exact Or.inl h; exact Or.inr (by rw [h]; simp)),
   fun x hx => ⟨(h.row x hx).1.later hb, (h.row x hx).2.later hb⟩⟩
theorem QRow.ne {w : World} {N : Nat} {Y : Nat → Prop} {v : Value} {cs : List Pc} (h : QRow w N Y v cs) {b : Nat} (hb : b < N) : some b ≠ v.ownBlock := fun e => by
  have := (h.own.lt b e.symm).1; omega
/-- One more: the pair's cells have been laid into a block of their own, and appended. -/
theorem QRow.push {w w1 w2 w3 : World} {N : Nat} {Y : Nat → Prop} {v : Value} {cs : List Pc} (h : QRow w N Y v cs) (hN : N ≤ w.heap.size) (hY : ∀ b, Y b → b < N) (hb : Below w.heap.size w w1) {x : Pc}
    (ht : Sl w1 (fun b => Y b ∨ w.heap.size ≤ b) x.2.1.1 x.1.l.args ∧ Sl w1 (fun b => Y b ∨ w.heap.size ≤ b) x.2.2.1 x.1.r.args) (o : Obj) (hw2 : w2 = w1.alloc o) {g cap : Nat}
    (hown : w3.ownsRow N 35 4 (.slice (some ⟨g, 0, none⟩) (cs.length + 1) cap) (cs.length + 1) (flat4 cs ++ enc4 x)) (hg : w2.grownBy w3 v.ownBlock) (hg1 : v.ownBlock = some g ∨ g = w2.heap.size) :
    QRow w3 N Y (.slice (some ⟨g, 0, none⟩) (cs.length + 1) cap) (cs ++ [x]) := by
  subst hw2
  have hlt := h.own.lt
  have hsz : w1.heap.size ≤ (w1.alloc o).heap.size := by simp
  have hbs := hb.size
  have hgN : N ≤ g := by
    rcases hg1 with e | e
    · exact (hlt g e).1
    · simp at e; omega
  have old : ∀ (a : Option Addr) (l : List Tm), Sl w (fun b => Y b ∨ (N ≤ b ∧ some b ≠ v.ownBlock)) a l → Sl w3 (fun b => Y b ∨ (N ≤ b ∧ some b ≠ (Value.slice (some ⟨g, 0, none⟩) (cs.length + 1) cap).ownBlock)) a l := fun a l h0 => by
    have h1 : Sl w (fun b => (Y b ∨ (N ≤ b ∧ some b ≠ v.ownBlock)) ∧ b < w.heap.size) a l := h0.mono fun b h1 h2 => ⟨h1, h2⟩
    have h2 : Sl w3 (fun b => (Y b ∨ (N ≤ b ∧ some b ≠ v.ownBlock)) ∧ b < w.heap.size) a l := h1.kept fun b hx => by
      have hne : some b ≠ v.ownBlock := by
        rcases hx.1 with hy | hy
        · exact h.ne (hY b hy)
        · exact hy.2
      rw [hg.block b (by simp; omega) hne, Below.heap_alloc _ _ _ (by omega), hb.block b hx.2]
    refine h2.mono fun b hx _ => ?_
    rcases hx.1 with hy | hy
    · exact Or.inl hy
    · refine Or.inr ⟨hy.1, fun e => ?_⟩
      simp [Value.ownBlock] at e
      rcases hg1 with e' | e'
      · exact hy.2 (by rw [e', e])
      · simp at e'; omega
  have new : ∀ (a : Option Addr) (l : List Tm), Sl w1 (fun b => Y b ∨ w.heap.size ≤ b) a l → Sl w3 (fun b => Y b ∨ (N ≤ b ∧ some b ≠ (Value.slice (some ⟨g, 0, none⟩) (cs.length + 1) cap).ownBlock)) a l := fun a l h0 => by
    have h1 : Sl w1 (fun b => (Y b ∨ w.heap.size ≤ b) ∧ b < w1.heap.size) a l := h0.mono fun b h1 h2 => ⟨h1, h2⟩
    have h2 : Sl w3 (fun b => (Y b ∨ w.heap.size ≤ b) ∧ b < w1.heap.size) a l := h1.kept fun b hx => by
      have hne : some b ≠ v.ownBlock := by
        rcases hx.1 with hy | hy
        · exact h.ne (hY b hy)
        · intro e; have := (hlt b e.symm).2; omega
      rw [hg.block b (by simp; omega) hne, Below.heap_alloc _ _ _ hx.2]
    refine h2.mono fun b hx _ => ?_
    rcases hx.1 with hy | hy
    · exact Or.inl hy
    · refine Or.inr ⟨by omega, fun e => ?_⟩
      simp [Value.ownBlock] at e
      rcases hg1 with e' | e'
      · have := (hlt g e').2; omega
      · simp at e'; omega
  refine ⟨by rw [flat4_append]; simpa [flat4] using hown, fun y hy => ?_⟩
  rcases List.mem_append.1 hy with hy | hy
  · exact ⟨old _ _ (h.row y hy).1, old _ _ (h.row y hy).2⟩
  · have e : y = x := by simpa using hy
    subst e
    exact ⟨new _ _ ht.1, new _ _ ht.2⟩

/-- As a list of pairs. -/
theorem QRow.qv {w : World} {N : Nat} {Y : Nat → Prop} {v : Value} {cs : List Pc} (h : QRow w N Y v cs) : QV w (fun b => Y b ∨ N ≤ b) v (cs.map (·.1)) := by
  have hml : cs.length ≤ 9223372036854775807 := by
    rcases h.own.2 with ⟨_, h0⟩ | ⟨g, cap, cur, _, _, _, h1, h2, _⟩
    · omega
    · unfold maxLen at h2; omega
  by_cases h0 : 0 < cs.length
  · obtain ⟨g, cap, rfl, hg, hlt, hc⟩ := owned_val h.own h0
    have hcap : cs.length ≤ cap := by
      rcases h.own.2 with ⟨e, _⟩ | ⟨g', cap', cur, e, _, _, h1, _⟩
      · cases e
      · simp at e; omega
    refine ⟨_, cap, by simp, ⟨by simpa using hml, by simpa using hcap⟩, Or.inr ⟨g, 0, rfl, Or.inr hg, fun i hi => ?_⟩⟩
    have hi' : i < cs.length := by simpa using hi
    have g0 := hc (i * 4 + 0) (.string cs[i].1.l.name) (by rw [flat4_get cs i hi' 0 (by decide)]; rfl)
    have g1 := hc (i * 4 + 1) (.slice cs[i].2.1.1 cs[i].1.l.args.length cs[i].2.1.2) (by rw [flat4_get cs i hi' 1 (by decide)]; rfl)
    have g2 := hc (i * 4 + 2) (.string cs[i].1.r.name) (by rw [flat4_get cs i hi' 2 (by decide)]; rfl)
    have g3 := hc (i * 4 + 3) (.slice cs[i].2.2.1 cs[i].1.r.args.length cs[i].2.2.2) (by rw [flat4_get cs i hi' 3 (by decide)]; rfl)
    simp only [List.getElem_map, Nat.zero_add]
    obtain ⟨r1, r2⟩ := h.row cs[i] (List.getElem_mem hi')
    exact ⟨_, _, _, _, g0, g1, g2, g3, r1.mono fun b hb _ => hb.imp id (fun h => h.1), r2.mono fun b hb _ => hb.imp id (fun h => h.1)⟩
  · have e : cs = [] := List.length_eq_zero_iff.1 (by omega)
    subst e
    rcases h.own.2 with ⟨hv, _⟩ | ⟨g, cap, cur, hv, _⟩
    · exact ⟨none, 0, hv, by simp, Or.inl rfl⟩
    · exact ⟨_, _, hv, by simp, Or.inl rfl⟩

theorem Tryz.infoPair : (Tryz.prog.info? 35).map (fun i => (i.zero, i.size, i.bytes)) = some (some (.agg #[.string ByteArray.empty, .slice none 0 0, .string ByteArray.empty, .slice none 0 0]), 4, 80) := by kernel_rfl
theorem cell_four_new (w : World) (c0 c1 c2 c3 : Value) (T : Nat) : ∀ j u, [c0, c1, c2, c3][j]? = some u → (w.alloc (.cells #[c0, c1, c2, c3] T)).cell? ((⟨w.heap.size, 0, none⟩ : Addr).add j) = some u :=
  World.news_of_block (cs := #[c0, c1, c2, c3]) (heap_alloc_new w _)
/-- A pair appended to a row of them, and where the row is. -/
theorem pairs_append {w w1 : World} {N : Nat} {Y : Nat → Prop} {v : Value} {cs : List Pc} (h : QRow w N Y v cs) (hN : N ≤ w.heap.size) (hY : ∀ b, Y b → b < N) (hb : Below w.heap.size w w1) (x : Pc) (ht : Sl w1 (fun b => Y b ∨ w.heap.size ≤ b) x.2.1.1 x.1.l.args ∧ Sl w1 (fun b => Y b ∨ w.heap.size ≤ b) x.2.2.1 x.1.r.args) (hn : cs.length ≤ 1000000) (A : Nat) (hA : w1.heap.size = A) :
    ∃ v2 w3, (Builtin.append_ #[22, 22] 22 #[v, .slice (some ⟨A, 0, none⟩) 1 1]).run Tryz.prog (w1.alloc (.cells #[.string x.1.l.name, .slice x.2.1.1 x.1.l.args.length x.2.1.2, .string x.1.r.name, .slice x.2.2.1 x.1.r.args.length x.2.2.2] 35)) = .ok v2 w3 ∧ QRow w3 N Y v2 (cs ++ [x]) ∧
      (w1.alloc (.cells #[.string x.1.l.name, .slice x.2.1.1 x.1.l.args.length x.2.1.2, .string x.1.r.name, .slice x.2.2.1 x.1.r.args.length x.2.2.2] 35)).grownBy w3 v.ownBlock ∧ ∀ k, v2.ownBlock = some k → v.ownBlock = some k ∨ w1.heap.size ≤ k := by
  subst hA
  obtain ⟨i0, hi, hz0, hz1, hz2⟩ := info_parts Tryz.infoPair
  have hbs := hb.size
  obtain ⟨g, cap, w3, hr, ho, hg, hat, hlt⟩ := run_append_lies (P := Tryz.prog) (w := w1.alloc (.cells #[.string x.1.l.name, .slice x.2.1.1 x.1.l.args.length x.2.1.2, .string x.1.r.name, .slice x.2.2.1 x.1.r.args.length x.2.2.2] 35)) 22 22 N 35 i0 _ 4 80 Tryz.underlying22 hi hz0 hz1 hz2 rfl (by decide) v cs.length (flat4 cs) ((h.below hb).own.alloc _)
    ⟨w1.heap.size, 0, none⟩ 1 1 (enc4 x) rfl (cell_four_new _ _ _ _ _ _) (fun y hy => by simp [enc4] at hy; rcases hy with rfl | rfl | rfl | rfl <;> rfl) (by decide) (by unfold maxLen; omega) (by omega) (by simp; omega) _ rfl
  refine ⟨_, w3, hr, h.push hN hY hb ht _ rfl ho hg hat, hg, fun k hk => ?_⟩
  have e : g = k := by simpa [Value.ownBlock] using hk
  rcases hat with h1 | h1
  · exact Or.inl (by rw [h1, e])
  · right; simp at h1; omega
end Go.Proofs.YtdmaijmglblccaaGreatDoor
