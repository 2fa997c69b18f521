import Derived.Test.YtdebiiodhkcnkaaGreatQRow
namespace Go.Proofs.YtdebiiodhkcnkaaGreat
open Go.RowKit
set_option linter.unusedSimpArgs false
set_option linter.unusedVariables false
set_option maxRecDepth 8000
theorem pairs_cells {w : World} {X : Nat → Prop} : ∀ (l : List Pr) (b o : Nat), (∀ i (h : i < l.length), ∃ a1 c1 a2 c2, w.cell? ⟨b, o + i * 4, none⟩ = some (.string l[i].l.name) ∧ w.cell? ⟨b, o + i * 4 + 1, none⟩ = some (.slice a1 l[i].l.args.length c1) ∧ w.cell? ⟨b, o + i * 4 + 2, none⟩ = some (.string l[i].r.name) ∧ w.cell? ⟨b, o + i * 4 + 3, none⟩ = some (.slice a2 l[i].r.args.length c2) ∧ Sl w X a1 l[i].l.args ∧ Sl w X a2 l[i].r.args) →
  ∃ cs : List Pc, cs.map (·.1) = l ∧ (∀ j u, (flat4 cs)[j]? = some u → w.cell? ⟨b, o + j, none⟩ = some u) ∧ ∀ x ∈ cs, Sl w X x.2.1.1 x.1.l.args ∧ Sl w X x.2.2.1 x.1.r.args
 | [], b, o, _ => ⟨[], rfl, fun j u h => by simp [flat4] at h, fun x h => by cases h⟩
 | p :: r, b, o, h => by
  obtain ⟨a1, c1, a2, c2, h1, h2, h3, h4, h5, h6⟩ := h 0 (by simp)
  obtain ⟨cs, e1, e2, e3⟩ := pairs_cells r b (o + 4) fun i hi => by
   have h7 := h (i + 1) (by simpa using hi)
   simp only [List.getElem_cons_succ] at h7
   rw [show o + (i + 1) * 4 = o + 4 + i * 4 by omega] at h7
   exact h7
  simp only [List.getElem_cons_zero, Nat.zero_mul, Nat.add_zero] at h1 h2 h3 h4 h5 h6
  refine ⟨(p, (a1, c1), (a2, c2)) :: cs, by simp [e1], fun j u hj => ?_, fun x hx => ?_⟩
  ·rw [flat4] at hj
   match j, hj with
   | 0, hj => simp [enc4] at hj; subst hj; exact h1
   | 1, hj => simp [enc4] at hj; subst hj; exact h2
   | 2, hj => simp [enc4] at hj; subst hj; exact h3
   | 3, hj => simp [enc4] at hj; subst hj; exact h4
   | j + 4, hj =>
    rw [List.getElem?_append_right (by simp [enc4])] at hj
    have := e2 j u (by simpa [enc4] using hj)
    rwa [show o + (j + 4) = o + 4 + j by omega]
  ·rcases List.mem_cons.1 hx with rfl | hx
   ·exact ⟨h5, h6⟩
   ·exact e3 x hx
theorem enc4_one (x : Pc) : ∀ u ∈ enc4 x, u.oneCell' = true := fun y hy => by
 simp [enc4] at hy
 rcases hy with rfl | rfl | rfl | rfl <;> rfl
theorem flat4_one : ∀ cs : List Pc, ∀ u ∈ flat4 cs, u.oneCell' = true
 | [], u, h => by cases h
 | x :: r, u, h => by
  rw [flat4] at h
  rcases List.mem_append.1 h with h | h
  ·exact enc4_one x u h
  ·exact flat4_one r u h
theorem pairs_spread {w : World} {N : Nat} {Y : Nat → Prop} {v : Value} {cs : List Pc} (h : QRow w N Y v cs) (hN : N ≤ w.heap.size) (hY : ∀ b, Y b → b < N) {a : Option Addr} {n c : Nat} {l : List Pr} (hq : QV w Y (.slice a n c) l) (hn : cs.length + l.length ≤ 1000000000) :
  ∃ v2 w3, (Builtin.append_ #[46, 46] 46 #[v, .slice a n c]).run Tryz.prog w = .ok v2 w3 ∧ QV w3 (fun b => Y b ∨ N ≤ b) v2 (cs.map (·.1) ++ l) ∧ w.grownBy w3 v.ownBlock := by
 obtain ⟨i0, hi, hz0, hz1, hz2⟩ := info_parts Tryz.infoPair
 obtain ⟨a', c', e, hl, hq⟩ := hq
 simp at e
 obtain ⟨rfl, rfl, rfl⟩ := e
 by_cases h0 : l = []
 ·subst h0
  obtain ⟨va, vc, hv, hvl, _⟩ := h.qv
  refine ⟨v, w, ?_, by simpa using h.qv, ⟨rfl, rfl, rfl, Nat.le_refl _, fun _ _ _ => rfl⟩⟩
  subst hv
  have hle := hvl.2
  simp only [List.length_map] at hle
  cases va <;> cases a <;> simp [Builtin.append_, run_underlying Tryz.underlying46, sizeOf, typeInfo, hi, hz1, Builtin.lenOf, Builtin.firstCells, hle, Result.andThen, storeCells, loadCells, loadCellsFrom]
 ·obtain ⟨b, o, rfl, hYb, hc⟩ := hq.resolve_left h0
  obtain ⟨cs2, e1, e2, e3⟩ := pairs_cells l b o hc
  have hlen : l.length = cs2.length := by rw [← e1]; simp
  have hp : 0 < cs2.length := by rw [← hlen]; exact List.length_pos_iff.2 h0
  have hlt := h.own.lt
  obtain ⟨g, cap, w3, hr, ho, hg, hat, hgl⟩ := run_append_lies (P := Tryz.prog) (w := w) 46 46 N 45 i0 _ 4 80 Tryz.underlying46 hi hz0 hz1 hz2 rfl (by decide) v cs.length (flat4 cs) h.own
   ⟨b, o, none⟩ cs2.length c (flat4 cs2) (flat4_length cs2) (fun j u hj => by have := e2 j u hj; by_cases h9 : j = 0; subst h9; simpa [Addr.add] using this; simpa [Addr.add, h9] using this) (flat4_one cs2) hp (by unfold maxLen; omega) (by omega) hN _ rfl
  have hrow : QRow w3 N Y (.slice (some ⟨g, 0, none⟩) (cs.length + cs2.length) cap) (cs ++ cs2) := by
   have hgN : N ≤ g := by
    rcases hat with e | e
    ·exact (hlt g e).1
    ·omega
   have hYo : ∀ b, Y b → some b ≠ v.ownBlock := fun b hb => h.ne (hY b hb)
   refine ⟨by rw [flat4_append]; simpa using ho, fun y hy => ?_⟩
   rcases List.mem_append.1 hy with hy | hy
   ·have old : ∀ (a : Option Addr) (k : List Tm), Sl w (fun b => Y b ∨ (N ≤ b ∧ some b ≠ v.ownBlock)) a k → Sl w3 (fun b => Y b ∨ (N ≤ b ∧ some b ≠ (Value.slice (some ⟨g, 0, none⟩) (cs.length + cs2.length) cap).ownBlock)) a k := fun a k h0 => by
     have h1 : Sl w (fun b => (Y b ∨ (N ≤ b ∧ some b ≠ v.ownBlock)) ∧ b < w.heap.size) a k := h0.mono fun b h1 h2 => ⟨h1, h2⟩
     refine (h1.kept fun b hx => hg.block b hx.2 ?_).mono fun b hx _ => ?_
     ·rcases hx.1 with hy | hy
      ·exact hYo b hy
      ·exact hy.2
     ·rcases hx.1 with hy | hy
      ·exact Or.inl hy
      ·refine Or.inr ⟨hy.1, fun e => ?_⟩
       simp [Value.ownBlock] at e
       rcases hat with e' | e'
       ·exact hy.2 (by rw [e', e])
       ·omega
    exact ⟨old _ _ (h.row y hy).1, old _ _ (h.row y hy).2⟩
   ·have new : ∀ (a : Option Addr) (k : List Tm), Sl w Y a k → Sl w3 (fun b => Y b ∨ (N ≤ b ∧ some b ≠ (Value.slice (some ⟨g, 0, none⟩) (cs.length + cs2.length) cap).ownBlock)) a k := fun a k h0 => by
     have h1 : Sl w (fun b => Y b ∧ b < w.heap.size) a k := h0.mono fun b h1 h2 => ⟨h1, h2⟩
     exact (h1.kept fun b hx => hg.block b hx.2 (hYo b hx.1)).mono fun b hx _ => Or.inl hx.1
    exact ⟨new _ _ (e3 y hy).1, new _ _ (e3 y hy).2⟩
  refine ⟨_, w3, by rw [hlen]; exact hr, ?_, hg⟩
  have := hrow.qv
  rw [List.map_append, e1] at this
  exact this
theorem pair_tail_run (b o n pc : Nat) (hn : n + 1 ≤ pc) (w' : World) : Sem.run Tryz.prog (Instr.slice 46 (.slice (some ⟨b, o, none⟩) (n + 1) pc) (some (.int .i64 1)) none none) w' = .ok (.slice (if pc = 1 then some ⟨b, o, none⟩ else some ⟨b, o + 4, none⟩) n (pc - 1)) w' := by
 have hle1 : (1 : Int) ≤ (n : Int) + 1 := by omega
 have e1 : (1 : Int) ≤ ((n + 1 : Nat) : Int) := by omega
 rw [run_slice_l (P := Tryz.prog) (ht := Tryz.underlying46) (h0 := by omega) (h1 := e1)]
 by_cases hpc : pc = 1
 ·subst hpc
  simp [go_sem, sliced]
 ·simp [go_sem, sliced, hpc]
theorem QV.tail {w : World} {X : Nat → Prop} {b o n pc : Nat} {p : Pr} {l : List Pr} (h : QV w X (.slice (some ⟨b, o, none⟩) n pc) (p :: l)) : QV w X (.slice (if pc = 1 then some ⟨b, o, none⟩ else some ⟨b, o + 4, none⟩) l.length (pc - 1)) l := by
 obtain ⟨a', c', e, ⟨hl1, hl2⟩, hq⟩ := h
 simp at e
 obtain ⟨rfl, rfl, rfl⟩ := e
 simp only [List.length_cons] at hl1 hl2
 refine ⟨_, _, rfl, ⟨by omega, by omega⟩, ?_⟩
 by_cases h0 : l = []
 ·exact Or.inl h0
 ·have hp : 0 < l.length := List.length_pos_iff.2 h0
  rcases hq with hq | ⟨b', o', e, hX, hq⟩
  ·cases hq
  ·simp at e
   obtain ⟨rfl, rfl⟩ := e
   refine Or.inr ⟨b, o + 4, by rw [if_neg (by omega)], hX, fun i hi => ?_⟩
   have h7 := hq (i + 1) (by simpa using hi)
   simp only [List.getElem_cons_succ] at h7
   rw [show o + (i + 1) * 4 = o + 4 + i * 4 by omega] at h7
   exact h7
end Go.Proofs.YtdebiiodhkcnkaaGreat
