/- Walks: bindings looked for by a closure. -/
import Derived.Test.YtmkomemjhfafnaaW56
namespace Go.Proofs.Ytmkomemjhfafnaa
open Go.RowKit
set_option linter.unusedSimpArgs false
set_option linter.unusedVariables false
set_option maxRecDepth 8000

theorem look_any (r : Nat) (w : World) :
    Calls Try.prog 40 #[.map (some r)] w fun e w' => e = .returned (.func (.func 61) #[] #[.pointer (some ⟨w.heap.size, 0, none⟩)]) ∧ w' = w.alloc (.cells #[.map (some r)] 68) := by
  have hmf : ∀ (fn : Fn) (first cap : Array Value) (w : World), (Instr.makeFunc fn first cap).run Try.prog w = .ok (.func fn first cap) w := fun _ _ _ _ => rfl
  go_enter Try.func40, Try.ntmps40
  go_wp2_with fail
  go_ret
  exact ⟨rfl, rfl⟩

set_option maxHeartbeats 1000000 in
theorem look1_any (ls : List Bd) (n : ByteArray) (B r : Nat) (L : List (ByteArray × Value)) (w : World) (X : Nat → Prop) (hB : Blk w B #[.map (some r)] 68) (hM : MapAt w r L) (hP : PairsL w X ls L) :
    Calls Try.prog 61 #[.string n, .pointer (some ⟨B, 0, none⟩)] w fun e w' => Below w.heap.size w w' ∧ ((∃ t a c, forT ls n = some t ∧ e = .returned (.tuple #[.agg #[.string t.name, .slice a t.args.length c], .bool true]) ∧ Sl w X a t.args) ∨ (forT ls n = none ∧ e = .returned (.tuple #[.agg #[.string ⟨#[]⟩, .slice none 0 0], .bool false]))) := by
  have c0 : ∀ o, (w.alloc o).cell? ⟨B, 0, none⟩ = some (.map (some r)) := fun o => (hB.alloc o).cell 0
  have hlt : B < w.heap.size := hB.lt
  have hz : ∀ w', (zeroValue 25).run Try.prog w' = .ok (.agg #[.string ⟨#[]⟩, .slice none 0 0]) w' := fun w' => Try.zeroValue25 w'
  have hM' := fun o : Obj => hM.kept (Below.heap_alloc w o _ hM.lt)
  cases hf : forT ls n with
  | none =>
    have hg := (hP.get n).1 hf
    have hlook : ∀ o, (Instr.lookup 68 (.map (some r)) (.string n) true).run Try.prog (w.alloc o) = .ok (.tuple #[.agg #[.string ⟨#[]⟩, .slice none 0 0], .bool false]) (w.alloc o) := fun o => by
      rw [run_look (P := Try.prog) Try.underlying68 Try.underlying9 (hz _) (hM' o) n, hg]; rfl
    have HF := hide hf
    clear hf hg hM' hP hM hB
    go_enter Try.func61, Try.ntmps61
    go_wp2_with fail
    have q0 := ((Blk.new w #[.string ⟨#[]⟩, .slice none 0 0] 25).alloc (.cells #[.string ⟨#[]⟩, .slice none 0 0] 25)).cell 0
    have q1 := ((Blk.new w #[.string ⟨#[]⟩, .slice none 0 0] 25).alloc (.cells #[.string ⟨#[]⟩, .slice none 0 0] 25)).cell 1
    simp at q0 q1
    refine bodyPost_ret (v := .tuple #[.agg #[.string ⟨#[]⟩, .slice none 0 0], .bool false]) (by simp [results, Try.results61, go_sem, q0, q1]) rfl ?_
    exact ⟨((Below.refl _ _).alloc (Nat.le_refl _) _).alloc (by simp) _, Or.inr ⟨by trivial, rfl⟩⟩
  | some t =>
    obtain ⟨a, c, hg, hs⟩ := (hP.get n).2 t hf
    have hlook : ∀ o, (Instr.lookup 68 (.map (some r)) (.string n) true).run Try.prog (w.alloc o) = .ok (.tuple #[.agg #[.string t.name, .slice a t.args.length c], .bool true]) (w.alloc o) := fun o => by
      rw [run_look (P := Try.prog) Try.underlying68 Try.underlying9 (hz _) (hM' o) n, hg]; rfl
    have HF := hide hf
    have HS := hide hs
    clear hf hg hs hM' hP hM hB
    go_enter Try.func61, Try.ntmps61
    go_wp2_with fail
    have q0 := ((Blk.new w #[.string t.name, .slice a t.args.length c] 25).alloc (.cells #[.string t.name, .slice a t.args.length c] 25)).cell 0
    have q1 := ((Blk.new w #[.string t.name, .slice a t.args.length c] 25).alloc (.cells #[.string t.name, .slice a t.args.length c] 25)).cell 1
    simp at q0 q1
    refine bodyPost_ret (v := .tuple #[.agg #[.string t.name, .slice a t.args.length c], .bool true]) (by simp [results, Try.results61, go_sem, q0, q1]) rfl ?_
    exact ⟨((Below.refl _ _).alloc (Nat.le_refl _) _).alloc (by simp) _, Or.inl ⟨t, a, c, rfl, rfl, HS.out⟩⟩
#print axioms look1_any
end Go.Proofs.Ytmkomemjhfafnaa
