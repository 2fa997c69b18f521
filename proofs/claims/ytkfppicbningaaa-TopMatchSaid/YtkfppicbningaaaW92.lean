
/- Walks: one term as a case of another one, as the document says. -/
import Derived.Test.YtkfppicbningaaaMtM
import Derived.Test.YtkfppicbningaaaW50
import Derived.Test.YtkfppicbningaaaW82
import Derived.Test.YtkfppicbningaaaW85
namespace Go.Proofs.Ytkfppicbningaaa
open Go.RowKit
set_option linter.unusedSimpArgs false
set_option linter.unusedVariables false
set_option maxRecDepth 8000

/-- What a matching leaves: what is old stays, but for the row that is grown. -/
def MtPost (w : World) (N : Nat) (Y : Nat → Prop) (hv : Value) (r : Option (List Bd)) (e : Ending) (w' : World) : Prop :=
  w.grownBy w' hv.ownBlock ∧ ((r = none ∧ ∃ v, e = .returned (.tuple #[v, .bool false])) ∨
    ∃ (h' : List Bd) (v : Value) (cs' : List Bc), r = some h' ∧ e = .returned (.tuple #[v, .bool true]) ∧ cs'.map (·.1) = h' ∧ BRow w' N Y v cs' ∧ (∀ k, v.ownBlock = some k → hv.ownBlock = some k ∨ w.heap.size ≤ k))

theorem grown_alloc2 (w : World) (o o' : Obj) (row : Option Nat) : w.grownBy ((w.alloc o).alloc o') row := (World.grownBy_alloc w o row).andThen (World.grownBy_alloc (w.alloc o) o' none) (by simp)
theorem grown_below {w w' w'' : World} {row : Option Nat} (h : w.grownBy w' row) (hb : Below w'.heap.size w' w'') : w.grownBy w'' row :=
  h.andThen (row' := none) ⟨hb.os, hb.tape, hb.output, hb.size, fun j hj _ => hb.block j hj⟩ (by simp)

/-- A binding appended to a row of them, and where the row is. -/
theorem binds_append2 {w : World} {N : Nat} {Y : Nat → Prop} {v : Value} {cs : List Bc} (h : BRow w N Y v cs) (hN : N ≤ w.heap.size) (hY : ∀ b, Y b → b < N) (x : Bc) (ht : Sl w (fun b => Y b ∨ w.heap.size ≤ b) x.2.1 x.1.t.args) (hn : cs.length ≤ 1000000) (A : Nat) (hA : w.heap.size = A) :
    ∃ v2 w3, (Builtin.append_ #[24, 24] 24 #[v, .slice (some ⟨A, 0, none⟩) 1 1]).run Try.prog (w.alloc (.cells #[.string x.1.nm, .string x.1.t.name, .slice x.2.1 x.1.t.args.length x.2.2] 50)) = .ok v2 w3 ∧ BRow w3 N Y v2 (cs ++ [x]) ∧ w.grownBy w3 v.ownBlock ∧ ∀ k, v2.ownBlock = some k → v.ownBlock = some k ∨ w.heap.size ≤ k := by
  subst hA
  obtain ⟨i0, hi, hz0, hz1, hz2⟩ := info_parts Try.infoBind
  have hb := Below.refl w.heap.size w
  obtain ⟨g, cap, w3, hr, ho, hg, hat, hlt⟩ := run_append_lies (P := Try.prog) (w := w.alloc (.cells #[.string x.1.nm, .string x.1.t.name, .slice x.2.1 x.1.t.args.length x.2.2] 50)) 24 24 N 50 i0 _ 3 56 Try.underlying24 hi hz0 hz1 hz2 rfl (by decide) v cs.length (flat3 cs) (h.own.alloc _)
    ⟨w.heap.size, 0, none⟩ 1 1 (enc3 x) rfl (cell_three_new _ _ _ _ _) (fun y hy => by simp [enc3] at hy; rcases hy with rfl | rfl | rfl <;> rfl) (by decide) (by unfold maxLen; omega) (by omega) (by simp; omega) _ rfl
  refine ⟨_, w3, hr, h.push hN hY hb ht _ rfl ho hg hat, (World.grownBy_alloc w _ _).andThen hg (fun j hj => Or.inr hj), fun k hk => ?_⟩
  have e : g = k := by simpa [Value.ownBlock] using hk
  rcases hat with h1 | h1
  · exact Or.inl (by rw [h1, e])
  · right; simp at h1; omega

def MlInv (w2 : World) (N : Nat) (Y : Nat → Prop) (hv : Value) (l m : List Tm) (h : List Bd) (v i : Value) (wr : World) : Prop :=
  ∃ (k : Nat) (cs' : List Bc), k ≤ l.length ∧ i = .int .i64 (k : Int) ∧ mtL (l.take k) (m.take k) h = some (cs'.map (·.1)) ∧ BRow wr N Y v cs' ∧ w2.grownBy wr hv.ownBlock ∧ (∀ j, v.ownBlock = some j → hv.ownBlock = some j ∨ w2.heap.size ≤ j)

end Go.Proofs.Ytkfppicbningaaa
