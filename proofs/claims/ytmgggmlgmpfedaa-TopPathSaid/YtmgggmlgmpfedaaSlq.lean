/- A slice without its first. -/
import Derived.Test.YtmgggmlgmpfedaaZTopPathOwn
namespace Go.Proofs.Ytmgggmlgmpfedaa
open Go.RowKit
set_option linter.unusedSimpArgs false
set_option linter.unusedVariables false

set_option maxRecDepth 8000 in
theorem slice_tail_run (b o n pc : Nat) (hn : n + 1 ≤ pc) (w' : World) : Sem.run Try.prog (Instr.slice 22 (.slice (some ⟨b, o, none⟩) (n + 1) pc) (some (.int .i64 1)) none none) w' = .ok (.slice (if pc = 1 then some ⟨b, o, none⟩ else some ⟨b, o + 1, none⟩) n (pc - 1)) w' := by
  have hle1 : (1 : Int) ≤ (n : Int) + 1 := by omega
  have e1 : (1 : Int) ≤ ((n + 1 : Nat) : Int) := by omega
  rw [run_slice_l (P := Try.prog) (ht := Try.underlying22) (h0 := by omega) (h1 := e1)]
  by_cases hpc : pc = 1
  · subst hpc
    simp [go_sem, sliced]
  · simp [go_sem, sliced, hpc]
#print axioms slice_tail_run
end Go.Proofs.Ytmgggmlgmpfedaa
