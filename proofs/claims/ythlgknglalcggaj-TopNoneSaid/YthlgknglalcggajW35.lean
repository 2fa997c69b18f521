
/- Walks: reading a text, and what is thrown is caught. -/
import Derived.Test.YthlgknglalcggajW33
import Derived.Defers
import Derived.Recover
import Derived.Laws.Pointers
namespace Go.Proofs.Ythlgknglalcggaj
open Go.RowKit
set_option linter.unusedSimpArgs false
set_option linter.unusedVariables false
set_option maxRecDepth 8000

theorem assertErrno (v : Value) (xT : TypeId) (w : World) : (Instr.typeAssert (.iface 33 v) xT 33 false).run Try.prog w = .ok v w := by
  simp [Instr.typeAssert, run_underlying Try.underlying33, go_sem, Result.andThen]

theorem catch_panicking (Pt Pe : Nat) (z z0 : Int) (s0 : ByteArray) (u0 : Value) (w : World) (ht : Blk w Pt #[.string s0, u0] 25) (he : Blk w Pe #[.int .i64 z0] 33) :
    CallsD Try.prog 75 #[.pointer (some ⟨Pt, 0, none⟩), .pointer (some ⟨Pe, 0, none⟩)] (.panicking [{ v := .iface 33 (.int .i64 z), recovered := false }]) w fun e u' w' =>
      e = .returned (.tuple #[]) ∧ u' = .panicking [{ v := .iface 33 (.int .i64 z), recovered := true }] ∧ w' = (((w.setCell ⟨Pt, 0, none⟩ (.string ⟨#[]⟩)).setCell ⟨Pt, 1, none⟩ (.slice none 0 0)).setCell ⟨Pe, 0, none⟩ (.int .i64 z)).drew := by
  refine callsD_of_wpS Try.func75 rfl fun c₀ cs hu => ?_
  apply wpS_seq
  apply wpS_region
  simp [wpOpsS, go_sem, recoverD, hu, Try.ntmps75, Exit.thenS]
  apply wpS_seq
  apply wpS_region
  simp [wpOpsS, go_sem, Exit.thenS, Array.replicate]
  refine wpS_cond (t := true) (by simp [Act.eval, Array.replicate]) ?_
  simp only [if_true]
  refine wpS_of_wp ?_
  have t0 : w.cell? ⟨Pt, 0, none⟩ = some (.string s0) := ht.cell 0
  have t1 : w.cell? ⟨Pt, 1, none⟩ = some u0 := ht.cell 1
  have tf := ht.frozen
  have e0 : w.cell? ⟨Pe, 0, none⟩ = some (.int .i64 z0) := he.cell 0
  have ef := he.frozen
  have hne : ¬ Pt = Pe := fun h => by
    subst h
    have h1 := t0
    rw [e0] at h1
    cases h1
  have hne2 : ¬ Pe = Pt := fun h => hne h.symm
  have hta := assertErrno (.int .i64 z)
  go_region
  exact ⟨rfl, _, rfl, .tuple #[], by simp [results, Try.results75, go_sem], rfl, rfl, rfl⟩

theorem catch_idle (Pt Pe : Nat) (w : World) :
    CallsD Try.prog 75 #[.pointer (some ⟨Pt, 0, none⟩), .pointer (some ⟨Pe, 0, none⟩)] .returning w fun e u' w' => e = .returned (.tuple #[]) ∧ u' = .returning ∧ w' = w := by
  refine callsD_of_wpS Try.func75 rfl fun c₀ cs hu => ?_
  apply wpS_seq
  apply wpS_region
  simp [wpOpsS, go_sem, recoverD, hu, Try.ntmps75, Exit.thenS]
  apply wpS_seq
  apply wpS_region
  simp [wpOpsS, go_sem, Exit.thenS, Array.replicate]
  refine wpS_cond (t := false) (by simp [Act.eval, Array.replicate]) ?_
  simp only [Bool.false_eq_true, if_false]
  refine wpS_of_wp (wp_skip ?_)
  cases c₀
  simp_all [bodyPostS, results, Try.results75]

/-- What reading the whole text gives. -/
def rdAll (s : ByteArray) : Rd :=
  if 4000 < s.size then noRd 3
  else if (rd s (2 * s.size + 1) none 0 0).err ≠ 0 then noRd (rd s (2 * s.size + 1) none 0 0).err
  else if (rd s (2 * s.size + 1) none 0 0).pos = s.size then rd s (2 * s.size + 1) none 0 0
  else noRd 12

def ParsePost (w : World) (r : Rd) (e : Ending) (w' : World) : Prop :=
  ∃ v, e = .returned (.tuple #[v, .int .i64 r.err]) ∧ (r.err = 0 → TV w' (fun b => w.heap.size ≤ b) v r.t) ∧ (r.err ≠ 0 → v = .agg #[.string ⟨#[]⟩, .slice none 0 0]) ∧ Below w.heap.size w w'

theorem parse_no {w w' : World} {r : Rd} {z : Int} (h : r = noRd z) (hz : z ≠ 0) (hb : Below w.heap.size w w') : ParsePost w r (.returned (.tuple #[.agg #[.string ⟨#[]⟩, .slice none 0 0], .int .i64 z])) w' := by
  subst h
  exact ⟨_, rfl, fun h => absurd h hz, fun _ => rfl, hb⟩

theorem Ex.below {w w0 w' : World} {B : Nat} (h : Ex B w0 w') (h0 : Below w.heap.size w w0) (hB : w.heap.size ≤ B) : Below w.heap.size w w' :=
  ⟨h.os.trans h0.os, h.tape.trans h0.tape, h.output.trans h0.output, Nat.le_trans h0.size h.size, fun k hk => (h.block k (Nat.lt_of_lt_of_le hk h0.size) (by omega)).trans (h0.block k hk)⟩

end Go.Proofs.Ythlgknglalcggaj
