
/- Walks: terms without variables out of raw numbers. -/
import Derived.Test.YtgpmlfjhihcfhaaZCTopNerodeOwn
import Derived.Test.YtgpmlfjhihcfhaaZTopNerodeOwn
namespace Go.Proofs.Ytgpmlfjhihcfhaa
open Go.RowKit
set_option linter.unusedSimpArgs false
set_option linter.unusedVariables false
set_option maxRecDepth 8000

def GrdP (w : World) (i m : Nat) (e : Ending) (w' : World) : Prop :=
  ∃ (a : Option Addr) (c n : Nat) (t : Tm), e = .returned (.tuple #[.agg #[.string t.name, .slice a t.args.length c], .int .i64 (n : Int)]) ∧ Sl w' (fun b => w.heap.size ≤ b) a t.args ∧ sizeL [t] ≤ top m ∧ i ≤ n ∧ n ≤ i + top m ∧ Below w.heap.size w w' ∧ errL [t] = 0 ∧ grd t
theorem grd_node {s : ByteArray} {l : List Tm} (h : varB s = false) (hl : ∀ x ∈ l, grd x) : grd ⟨s, l⟩ := fun k hk => by
  have e : preL [(⟨s, l⟩ : Tm)] = ⟨s, l⟩ :: preL l := by simp [preL]
  rw [e, List.mem_cons] at hk
  rcases hk with rfl | hk
  · exact h
  · clear e
    induction l with
    | nil => simp [preL] at hk
    | cons t r ih =>
      rw [preL_cons2, List.mem_append] at hk
      rcases hk with hk | hk
      · exact hl t (by simp) k hk
      · exact ih (fun x hx => hl x (by simp [hx])) hk
theorem gone {w w5 : World} {Z : Nat → Prop} {i m n T : Nat} {a5 : Option Addr} {c5 : Nat} {t5 : Tm} {v0 v1 : Value} {o1 : Obj} (hB : Below w.heap.size w w5) (hlt : w.heap.size < w5.heap.size) (hs : Sl w5 Z a5 t5.args) (hZ : ∀ b, Z b → w.heap.size < b) (hz : sizeL [t5] ≤ top m) (hm : 3 ≤ m + 1) (hn : i ≤ n) (hn' : n ≤ i + 1 + top m) (he : errL [t5] = 0) (hg : grd t5) :
    GrdP w i (m + 1) (.returned (.tuple #[.agg #[.string ⟨#[104]⟩, .slice (some ⟨w5.heap.size + 1, 0, none⟩) 1 1], .int .i64 (n : Int)])) ((((w5.setCell ⟨w.heap.size, 0, none⟩ v0).setCell ⟨w.heap.size, 1, none⟩ v1).alloc o1).alloc (.cells #[.string t5.name, .slice a5 t5.args.length c5] T)) := by
  have ht := top_step hm
  have hb0 : Below w.heap.size w (((w5.setCell ⟨w.heap.size, 0, none⟩ v0).setCell ⟨w.heap.size, 1, none⟩ v1).alloc o1) := ((hB.setCell (by simp) _).setCell (by simp) _).alloc (by simp [World.setCell]; omega) _
  refine ⟨some ⟨w5.heap.size + 1, 0, none⟩, 1, n, ⟨⟨#[104]⟩, [t5]⟩, rfl, ?_, by simp [sizeL] at hz ⊢; omega, hn, by omega, hb0.alloc hb0.size _, err_node (by decide) (by decide) he, grd_node (by decide) (fun x hx => by simp at hx; rw [hx]; exact hg)⟩
  have hnew := heap_alloc_new (((w5.setCell ⟨w.heap.size, 0, none⟩ v0).setCell ⟨w.heap.size, 1, none⟩ v1).alloc o1) (.cells #[.string t5.name, .slice a5 t5.args.length c5] T)
  have e : (((w5.setCell ⟨w.heap.size, 0, none⟩ v0).setCell ⟨w.heap.size, 1, none⟩ v1).alloc o1).heap.size = w5.heap.size + 1 := by simp [World.setCell]
  rw [e] at hnew
  refine sl_one hnew (by omega) ((hs.mono (Y := fun b => Z b ∧ b < w5.heap.size) fun b h1 h2 => ⟨h1, h2⟩).kept (w' := _) fun b hb => ?_) (fun b hb _ => by have := hZ b hb.1; omega)
  have := hZ b hb.1
  rw [Below.heap_alloc _ _ _ (by rw [e]; omega), Below.heap_alloc _ _ _ (by simp [World.setCell]; omega), Below.heap_setCell _ _ _ _ (by simp; omega), Below.heap_setCell _ _ _ _ (by simp; omega)]
end Go.Proofs.Ytgpmlfjhihcfhaa
