/- What a round that appends a lambda term does. -/
import Derived.Test.YtfbligcampbchaaDoorRm
import Derived.Test.YtfbligcampbchaaDoorL3
import Derived.Test.YtfbligcampbchaaDoorExM
import Derived.Deep.RegionHeld
import Derived.Deep.RegionHeld3
import Derived.Deep.DeepCutAuto
namespace Go.Proofs.YtfbligcampbchaaDoor
open Go.RowKit
set_option linter.unusedSimpArgs false
set_option linter.unusedVariables false
set_option maxRecDepth 8000

theorem Tryd.infoLam : (Tryd.prog.info? 24).map (fun i => (i.zero, i.size, i.bytes)) = some (some (.agg #[.int .i64 0, .int .i64 0, .slice none 0 0]), 3, 40) := by kernel_rfl
theorem cell_ltM {w : World} {b i : Nat} {v : Value} (h : w.cell? ⟨b, i, none⟩ = some v) : b < w.heap.size := by
  apply Classical.byContradiction
  intro hn
  have e : w.heap[b]? = none := Array.getElem?_eq_none (by omega)
  simp [World.cell?, e] at h
theorem cell_sameM {w w' : World} {b i : Nat} {v : Value} (hb : w'.heap[b]? = w.heap[b]?) (h : w.cell? ⟨b, i, none⟩ = some v) : w'.cell? ⟨b, i, none⟩ = some v := by simpa [World.cell?, hb] using h
theorem cell_lam_new (w : World) (a b c : Value) (T : Nat) : ∀ j u, ([a, b, c] : List Value)[j]? = some u → (w.alloc (.cells #[a, b, c] T)).cell? ((⟨w.heap.size, 0, none⟩ : Addr).add j) = some u := fun j u h => by
  have hb := Blk.new w #[a, b, c] T
  have h1 : (⟨w.heap.size, 0, none⟩ : Addr).add j = ⟨w.heap.size, j, none⟩ := by
    by_cases h0 : j = 0
    · subst h0; simp [Addr.add]
    · simp [Addr.add, h0]
  rw [h1, hb.cell j]
  simpa using h

/-- What is held while a knot's next term is made. -/
def LmS (B b o : Nat) (kd ix : Int) (a : Option Addr) (n c : Nat) (k1 x1 : Int) (v1 : Value) (w' : World) : Prop :=
  Blk w' B #[.int .i64 kd, .int .i64 ix, .slice a n c] 24 ∧ w'.cell? ⟨b, o, none⟩ = some (.int .i64 k1) ∧ w'.cell? ⟨b, o + 1, none⟩ = some (.int .i64 x1) ∧ w'.cell? ⟨b, o + 2, none⟩ = some v1
theorem LmS.kept {B b o n c : Nat} {kd ix k1 x1 : Int} {a : Option Addr} {v1 : Value} {wr w1 : World} (h : LmS B b o kd ix a n c k1 x1 v1 wr) (h1 : w1.heap[B]? = wr.heap[B]?) (h2 : w1.heap[b]? = wr.heap[b]?) : LmS B b o kd ix a n c k1 x1 v1 w1 :=
  ⟨h1.trans h.1, cell_sameM h2 h.2.1, cell_sameM h2 h.2.2.1, cell_sameM h2 h.2.2.2⟩
theorem LmS.below {B b o n c : Nat} {kd ix k1 x1 : Int} {a : Option Addr} {v1 : Value} {wr w1 : World} (h : LmS B b o kd ix a n c k1 x1 v1 wr) (hb : Below wr.heap.size wr w1) : LmS B b o kd ix a n c k1 x1 v1 w1 :=
  h.kept (hb.block _ h.1.lt) (hb.block _ (cell_ltM h.2.1))

/-- What is laid ahead of the rounds. -/
def LmSet (w : World) (Y : Nat → Prop) (O : Nat) (kd ix : Int) (a : Option Addr) (n c : Nat) (u : Value) (L : List Lm) (wr : World) : Prop :=
  ∃ xs, RowM wr (O + 1) 24 Y u L xs ∧ Below w.heap.size w wr ∧ Blk wr w.heap.size #[.int .i64 kd, .int .i64 ix, .slice a n c] 24 ∧ Blk wr (w.heap.size + 1) #[.int .i64 0, .int .i64 0, .slice none 0 0] 24 ∧ Blk wr O #[.int .i64 kd, .int .i64 ix, u] 24 ∧ O < wr.heap.size

/-- One more. -/
theorem lm_round {w wr w1 : World} {Y : Nat → Prop} {O n c : Nat} {u : Value} {L : List Lm} {kd ix : Int} {a a1 : Option Addr} {c1 : Nat} {t : Lm} {b o : Nat} {k1 x1 : Int} {v1 : Value} (hO : w.heap.size + 2 ≤ O) (hY : ∀ b, Y b → b < w.heap.size) (hbw : b < w.heap.size) (hset : LmSet w Y O kd ix a n c u L wr) (hS : LmS w.heap.size b o kd ix a n c k1 x1 v1 wr) (hn : L.length ≤ 1000000)
    (hb : Below wr.heap.size wr w1) (hs : SlM w1 (fun b => Y b ∨ wr.heap.size ≤ b) a1 t.subs) :
    ∃ g cap w3, (Builtin.append_ #[22, 22] 22 #[u, .slice (some ⟨w1.heap.size, 0, none⟩) 1 1]).run Tryd.prog (w1.alloc (.cells #[.int .i64 t.kind, .int .i64 t.idx, .slice a1 t.subs.length c1] 24)) = .ok (.slice (some ⟨g, 0, none⟩) (L.length + 1) cap) w3 ∧
      LmS w.heap.size b o kd ix a n c k1 x1 v1 w1 ∧ LmS w.heap.size b o kd ix a n c k1 x1 v1 (w1.alloc (.cells #[.int .i64 t.kind, .int .i64 t.idx, .slice a1 t.subs.length c1] 24)) ∧ LmS w.heap.size b o kd ix a n c k1 x1 v1 w3 ∧ w3.cell? ⟨O, 2, none⟩ = some u ∧ w3.frozen? ⟨O, 2, none⟩ = false ∧
      LmS w.heap.size b o kd ix a n c k1 x1 v1 (w3.setCell ⟨O, 2, none⟩ (.slice (some ⟨g, 0, none⟩) (L.length + 1) cap)) ∧ LmSet w Y O kd ix a n c (.slice (some ⟨g, 0, none⟩) (L.length + 1) cap) (L ++ [t]) (w3.setCell ⟨O, 2, none⟩ (.slice (some ⟨g, 0, none⟩) (L.length + 1) cap)) := by
  obtain ⟨xs, hrow, hx, hT, hR, hOb, hOl⟩ := hset
  obtain ⟨i0, hi, hz0, hz1, hz2⟩ := info_parts Tryd.infoLam
  have hlt := hrow.own.lt
  have hbs := hb.size
  have hsx := hx.size
  obtain ⟨g, cap, w3, hr, ho, hg, hat, hgl⟩ := run_append_lies (P := Tryd.prog) (w := w1.alloc (.cells #[.int .i64 t.kind, .int .i64 t.idx, .slice a1 t.subs.length c1] 24)) 22 22 (O + 1) 24 i0 _ 3 40 Tryd.underlying22 hi hz0 hz1 hz2 rfl (by decide) u L.length xs ((hrow.below hb).own.alloc _)
    ⟨w1.heap.size, 0, none⟩ 1 1 [.int .i64 t.kind, .int .i64 t.idx, .slice a1 t.subs.length c1] rfl (cell_lam_new _ _ _ _ _) (fun y hy => by simp at hy; rcases hy with rfl | rfl | rfl <;> rfl) (by decide) (by unfold maxLen; omega) (by omega) (by simp; omega) _ rfl
  have hp := hrow.push (w1 := w1) (w3 := w3) (t := t) (by omega) (fun b h => by have := hY b h; omega) hb ⟨a1, c1, rfl, hs⟩ _ rfl ho hg hat
  have hne : ∀ j, j < O + 1 → some j ≠ u.ownBlock := fun j hj e => by have := (hlt j e.symm).1; omega
  have hs3 := hg.size
  simp at hs3
  have hx3 : Below w.heap.size w w3 := ((hx.trans (hb.mono (by omega))).alloc (by omega) _).grown hg (by simp; omega) (fun k hk => by have := (hlt k hk).1; omega)
  have S1 := hS.below hb
  have S2 := S1.below ((Below.refl w1.heap.size w1).alloc (Nat.le_refl _) (.cells #[.int .i64 t.kind, .int .i64 t.idx, .slice a1 t.subs.length c1] 24))
  have S3 : LmS w.heap.size b o kd ix a n c k1 x1 v1 w3 := S2.kept (hg.block _ S2.1.lt (hne _ (by omega))) (hg.block _ (cell_ltM S2.2.1) (hne _ (by omega)))
  have hO3 := ((hOb.below hb (by omega)).alloc (.cells #[.int .i64 t.kind, .int .i64 t.idx, .slice a1 t.subs.length c1] 24)).grown hg (hne _ (by omega))
  refine ⟨g, cap, w3, hr, S1, S2, S3, hO3.cell 2, hO3.frozen 2, S3.kept (Below.heap_setCell _ _ _ _ (by simp; omega)) (Below.heap_setCell _ _ _ _ (by simp; omega)), _, hp.setCell (by omega) (fun h => by have := hY _ h; omega) _, hx3.setCell (p := ⟨O, 2, none⟩) (by simp; omega) _, ?_, ?_, ?_, by simp [World.setCell]; omega⟩
  · exact (((hT.below hb (by omega)).alloc _).grown hg (hne _ (by omega))).setOther _ _ (by omega)
  · exact (((hR.below hb (by omega)).alloc _).grown hg (hne _ (by omega))).setOther _ _ (by omega)
  · exact hO3.set 2 _
#print axioms lm_round
end Go.Proofs.YtfbligcampbchaaDoor
