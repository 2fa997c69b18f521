import Derived.Test.YtbnmlkaejdpigaaGreatDoorZTopLocalOwn
import Derived.Test.YtbnmlkaejdpigaaGreatDoorOv9
namespace Go.Proofs.YtbnmlkaejdpigaaGreatDoor
open Go.RowKit
set_option linter.unusedSimpArgs false
set_option linter.unusedVariables false
theorem pairs_join {w : World} {N M : Nat} {Y : Nat → Prop} {v v' : Value} {cs cs2 : List Pc} (h : QRow w N Y v cs) (hN : N ≤ w.heap.size) (hY : ∀ b, Y b → b < N) (h' : QRow w M (fun _ => False) v' cs2) (hNM : N ≤ M) (hvM : ∀ b, v.ownBlock = some b → b < M) (hn : cs.length + cs2.length ≤ 1000000000) :
  ∃ v2 w3, (Builtin.append_ #[22, 22] 22 #[v, v']).run Tryz.prog w = .ok v2 w3 ∧ QRow w3 N Y v2 (cs ++ cs2) ∧ w.grownBy w3 v.ownBlock := by
 obtain ⟨i0, hi, hz0, hz1, hz2⟩ := info_parts Tryz.infoPair
 by_cases h0 : 0 < cs2.length
 ·obtain ⟨g', cap', rfl, hg', hlt', hc⟩ := owned_val h'.own h0
  have hlt := h.own.lt
  obtain ⟨g, cap, w3, hr, ho, hg, hat, hgl⟩ := run_append_lies (P := Tryz.prog) (w := w) 22 22 N 34 i0 _ 4 80 Tryz.underlying22 hi hz0 hz1 hz2 rfl (by decide) v cs.length (flat4 cs) h.own
   ⟨g', 0, none⟩ cs2.length cap' (flat4 cs2) (flat4_length cs2) (fun j u hj => by have := hc j u hj; by_cases h9 : j = 0; subst h9; simpa [Addr.add] using this; simpa [Addr.add, h9] using this) (flat4_one cs2) h0 (by unfold maxLen; omega) (by omega) hN _ rfl
  refine ⟨_, w3, hr, ⟨by rw [flat4_append]; simpa using ho, fun y hy => ?_⟩, hg⟩
  rcases List.mem_append.1 hy with hy | hy
  ·have old : ∀ (a : Option Addr) (k : List Tm), Sl w (fun b => Y b ∨ (N ≤ b ∧ some b ≠ v.ownBlock)) a k → Sl w3 (fun b => Y b ∨ (N ≤ b ∧ some b ≠ (Value.slice (some ⟨g, 0, none⟩) (cs.length + cs2.length) cap).ownBlock)) a k := fun a k h0 => by
    have h1 : Sl w (fun b => (Y b ∨ (N ≤ b ∧ some b ≠ v.ownBlock)) ∧ b < w.heap.size) a k := h0.mono fun b h1 h2 => ⟨h1, h2⟩
    refine (h1.kept fun b hx => hg.block b hx.2 ?_).mono fun b hx _ => ?_
    ·rcases hx.1 with hy | hy
     ·exact h.ne (hY b hy)
     ·exact hy.2
    ·rcases hx.1 with hy | hy
     ·exact Or.inl hy
     ·refine Or.inr ⟨hy.1, fun e => ?_⟩
      simp [Value.ownBlock] at e
      rcases hat with e' | e'
      ·exact hy.2 (by rw [e', e])
      ·omega
   exact ⟨old _ _ (h.row y hy).1, old _ _ (h.row y hy).2⟩
  ·have new : ∀ (a : Option Addr) (k : List Tm), Sl w (fun b => False ∨ (M ≤ b ∧ some b ≠ (Value.slice (some ⟨g', 0, none⟩) cs2.length cap').ownBlock)) a k → Sl w3 (fun b => Y b ∨ (N ≤ b ∧ some b ≠ (Value.slice (some ⟨g, 0, none⟩) (cs.length + cs2.length) cap).ownBlock)) a k := fun a k h0 => by
    have h1 : Sl w (fun b => M ≤ b ∧ b < w.heap.size) a k := h0.mono fun b h1 h2 => ⟨(h1.resolve_left id).1, h2⟩
    refine (h1.kept fun b hx => hg.block b hx.2 (fun e => ?_)).mono fun b hx _ => Or.inr ⟨by omega, fun e => ?_⟩
    ·have := hvM b e.symm; omega
    ·simp [Value.ownBlock] at e
     rcases hat with e' | e'
     ·have := hvM g e'; omega
     ·omega
   exact ⟨new _ _ (h'.row y hy).1, new _ _ (h'.row y hy).2⟩
 ·have e : cs2 = [] := List.length_eq_zero_iff.1 (by omega)
  subst e
  obtain ⟨a, c, hv'⟩ := own_form h'.own
  obtain ⟨va, vc, hv, hvl, _⟩ := h.qv
  refine ⟨v, w, ?_, by simpa using h, ⟨rfl, rfl, rfl, Nat.le_refl _, fun _ _ _ => rfl⟩⟩
  subst hv hv'
  have hle := hvl.2
  simp only [List.length_map] at hle
  cases va <;> cases a <;> simp [Builtin.append_, run_underlying Tryz.underlying22, sizeOf, typeInfo, hi, hz1, Builtin.lenOf, Builtin.firstCells, hle, Result.andThen, storeCells, loadCells, loadCellsFrom]
end Go.Proofs.YtbnmlkaejdpigaaGreatDoor
