import Derived.Test.YtdebiiodhkcnkaaGreatW52
import Derived.Test.YtdebiiodhkcnkaaGreatZIndexMadeOwn
namespace Go.Proofs.YtdebiiodhkcnkaaGreat
open Go.RowKit
set_option linter.unusedSimpArgs false
set_option linter.unusedVariables false
set_option maxRecDepth 8000
def OnAll (w : World) (X : Nat → Prop) (t : Tm) (e : Ending) (w' : World) : Prop :=
 Below w.heap.size w w' ∧ ((2000 < sizeL [t] ∧ e = .returned (.tuple #[.agg #[.string ⟨#[]⟩, .slice none 0 0], .bool false])) ∨ (sizeL [t] ≤ 2000 ∧ ∃ a c, e = .returned (.tuple #[.agg #[.string t.name, .slice a t.args.length c], .bool true]) ∧ Sl w' (fun b => (X b ∧ b < w.heap.size) ∨ w.heap.size ≤ b) a t.args))
set_option maxHeartbeats 1000000 in
theorem onAll_any (ls : List Bd) (t : Tm) (u v : Value) (w : World) (X : Nat → Prop) (hu : BV w X u ls) (hv : TV w X v t) (hsm : sizeL [t] ≤ 1000000) :
  Calls Tryz.prog 39 #[u, v] w fun e w' => OnAll w X (onT ls t) e w' := by
 obtain ⟨a, c, rfl, hs⟩ := hv
 have HU := hide (hu.mono (Y := fun b => X b ∧ b < w.heap.size) fun b h1 h2 => ⟨h1, h2⟩)
 have HS := hide (hs.mono (Y := fun b => X b ∧ b < w.heap.size) fun b h1 h2 => ⟨h1, h2⟩)
 clear hu hs
 go_enter Tryz.func39, Tryz.ntmps39
 go_wp2_with fail
 refine (grown_any ls t u _ 2000 _ (fun b => X b ∧ b < w.heap.size) (by exact (HU.out.alloc _).alloc _) (by exact ⟨a, c, rfl, (HS.out.later ((Below.refl _ _).alloc (Nat.le_refl _) _)).later ((Below.refl _ _).alloc (Nat.le_refl _) _)⟩) (by decide) (by decide)).mono ?_
 rintro e w1 ⟨rfl, hb1⟩
 have T1 := hide (((Blk.new w #[.string t.name, .slice a t.args.length c] 26).alloc (.cells #[.string ⟨#[]⟩, .slice none 0 0] 26)).below hb1 (by simp; omega))
 have R1 : Hid (Blk w1 (w.heap.size + 1) #[.string ⟨#[]⟩, .slice none 0 0] 26) := by
  have h := (Blk.new (w.alloc (.cells #[.string t.name, .slice a t.args.length c] 26)) #[.string ⟨#[]⟩, .slice none 0 0] 26).below hb1 (by simp)
  unfold Hid
  simpa using h
 have B1 := hide ((((Below.refl w.heap.size w).alloc (Nat.le_refl _) (.cells #[.string t.name, .slice a t.args.length c] 26)).alloc (by simp) (.cells #[.string ⟨#[]⟩, .slice none 0 0] 26)).trans (hb1.mono (by simp; omega)))
 clear hb1
 have t0 := T1.out.c0
 have t1 := T1.out.c1
 have r0 := R1.out.c0
 have r1 := R1.out.c1
 have rf := R1.out.frozen
 by_cases hg : 2000 < sizeL [onT ls t]
 ·have hmin : min (sizeL [onT ls t] : Int) (2000 + 1) = 2001 := by omega
  rw [hmin]
  go_wp2_with fail
  refine bodyPost_ret (v := .tuple #[.agg #[.string ⟨#[]⟩, .slice none 0 0], .bool false]) (by simp [results, Tryz.results39, go_sem, World.cell?_setCell_same, World.cell?_setCell_other, r0, r1]) rfl ?_
  exact ⟨(B1.out.setCell (by simp) _).setCell (by simp) _, Or.inl ⟨hg, rfl⟩⟩
 ·have hmin : min (sizeL [onT ls t] : Int) (2000 + 1) = sizeL [onT ls t] := by omega
  rw [hmin]
  have hle : ¬ (2000 : Int) < (sizeL [onT ls t] : Int) := by omega
  clear hmin
  go_wp2_with fail
  refine (on_any ls t u _ _ (fun b => X b ∧ b < w.heap.size) (by exact HU.out.later B1.out) (by exact ⟨a, c, rfl, HS.out.later B1.out⟩) hsm).mono ?_
  rintro e w2 ⟨a2, c2, rfl, hs2, hb2⟩
  have R2 := hide (R1.out.below hb2 R1.out.lt)
  have B2 := hide (B1.out.trans (hb2.mono B1.out.size))
  have S2 := hide (hs2.mono (Y := fun b => (X b ∧ b < w.heap.size) ∨ w.heap.size + 2 ≤ b) fun b hb _ => hb.imp (fun h => h.1) (fun h => by have := R1.out.lt; omega))
  clear hb2 hs2 r0 r1 rf t0 t1
  have r0 := R2.out.c0
  have r1 := R2.out.c1
  have rf := R2.out.frozen
  go_wp2_with fail
  refine bodyPost_ret (v := .tuple #[.agg #[.string (onT ls t).name, .slice a2 (onT ls t).args.length c2], .bool true]) (by simp [results, Tryz.results39, go_sem, World.cell?_setCell_same, World.cell?_setCell_other, r0, r1]) rfl ?_
  refine ⟨(B2.out.setCell (by simp) _).setCell (by simp) _, Or.inr ⟨by omega, a2, c2, rfl, (S2.out.kept fun b hb => ?_).mono fun b hb _ => hb.imp id (fun h => by omega)⟩⟩
  have hbne : b ≠ w.heap.size + 1 := by
   rcases hb with h | h
   ·have := h.2; omega
   ·omega
  rw [Below.heap_setCell _ _ _ _ (by simpa using hbne), Below.heap_setCell _ _ _ _ (by simpa using hbne)]
end Go.Proofs.YtdebiiodhkcnkaaGreat
