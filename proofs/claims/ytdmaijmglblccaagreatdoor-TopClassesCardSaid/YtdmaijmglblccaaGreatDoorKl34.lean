/- Walks: the classes, as the document says (ClassesOf). -/
import Derived.Test.YtdmaijmglblccaaGreatDoorKl33
import Derived.Test.YtdmaijmglblccaaGreatDoorKl17
import Derived.BigQuiet
namespace Go.Proofs.YtdmaijmglblccaaGreatDoor
open Go.RowKit
set_option linter.unusedSimpArgs false
set_option linter.unusedVariables false
set_option maxRecDepth 8000

/-- A row of rows of texts, while it is made. -/
structure CoI (N : Nat) (ps : List (Value × List ByteArray)) (ov : Value) (w : World) : Prop where
  own : w.ownsRow N 31 1 ov (ps.map (·.1)).length (ps.map (·.1))
  lv : ∀ p ∈ ps, LV Value.string w (fun b => some b ≠ ov.ownBlock) p.1 p.2
theorem CoI.later {N : Nat} {ps : List (Value × List ByteArray)} {ov : Value} {w w' : World} (h : CoI N ps ov w) (hb : Below w.heap.size w w') : CoI N ps ov w' :=
  ⟨ownsRow_at h.own fun g hg => hb.block g (h.own.lt g hg).2, fun p hp => (h.lv p hp).later hb⟩
theorem LV.exq {α : Type} {f : α → Value} {w w' : World} {X Q : Nat → Prop} {v : Value} {l : List α} (h : LV f w X v l) (he : ExQ Q w w') (hX : ∀ b, X b → ¬ Q b) : LV f w' X v l :=
  ((h.mono (Y := fun b => X b ∧ b < w.heap.size) fun b h1 h2 => ⟨h1, h2⟩).kept fun b hb => he.block b hb.2 (hX b hb.1)).mono fun b hb _ => hb.1
theorem CoI.nil (N : Nat) (w : World) : CoI N [] (.slice none 0 0) w := ⟨World.ownsRow_nil _ _ _ _, fun p hp => by cases hp⟩
/-- One more. -/
theorem CoI.push {N : Nat} {ps : List (Value × List ByteArray)} {ov : Value} {w : World} (h : CoI N ps ov w) (hN : N ≤ w.heap.size) (hl : ps.length ≤ 100000) {al : Option Addr} {nl cl : Nat} {l : List ByteArray} (hv : LV Value.string w (fun b => some b ≠ ov.ownBlock) (.slice al nl cl) l) :
    ∃ g cap w3, (Builtin.append_ #[37, 37] 37 #[ov, .slice (some ⟨w.heap.size, 0, none⟩) 1 1]).run Tryz.prog (w.alloc (.cells #[.slice al nl cl] 31)) = .ok (.slice (some ⟨g, 0, none⟩) (ps.length + 1) cap) w3 ∧ CoI N (ps ++ [(.slice al nl cl, l)]) (.slice (some ⟨g, 0, none⟩) (ps.length + 1) cap) w3 ∧ Below N w w3 := by
  obtain ⟨g, cap, w3, hr, ho, hat, hx⟩ := appK_own Tryz.underlying37 Tryz.infoStrs rfl (by decide) h.own hN (by rw [List.length_map]; omega) (.slice al nl cl) rfl
  rw [List.length_map] at hr
  have e : ps.map (·.1) ++ [Value.slice al nl cl] = (ps ++ [(Value.slice al nl cl, l)]).map (·.1) := by simp
  rw [e] at ho
  have hk : ∀ (v : Value) (m : List ByteArray), LV Value.string w (fun b => some b ≠ ov.ownBlock) v m → LV Value.string w3 (fun b => some b ≠ (Value.slice (some ⟨g, 0, none⟩) (ps.length + 1) cap).ownBlock) v m := fun v m hm => by
    have h1 : LV Value.string w (fun b => some b ≠ ov.ownBlock ∧ b < w.heap.size) v m := hm.mono fun b h1 h2 => ⟨h1, h2⟩
    refine (h1.exq hx fun b hb e => hb.1 e.symm).mono fun b hb _ e2 => ?_
    have e3 : b = g := by simpa [Value.ownBlock] using e2
    rcases hat with h4 | h4
    · exact hb.1 (by rw [h4, e3])
    · omega
  refine ⟨g, cap, w3, hr, ⟨?_, fun p hp => ?_⟩, hx.below hN fun b hb => (h.own.lt b hb).1⟩
  · have e2 : ((ps ++ [(Value.slice al nl cl, l)]).map (·.1)).length = ps.length + 1 := by simp
    rw [e2] at ho ⊢
    exact ho
  · rcases List.mem_append.1 hp with hp | hp
    · exact hk _ _ (h.lv p hp)
    · simp at hp
      subst hp
      exact hk _ _ hv
theorem CoI.cell {N n c : Nat} {ps : List (Value × List ByteArray)} {a : Option Addr} {w : World} (h : CoI N ps (.slice a n c) w) {i : Nat} {p : Value × List ByteArray} (hi : ps[i]? = some p) : ∃ g, a = some ⟨g, 0, none⟩ ∧ w.cell? ⟨g, i, none⟩ = some p.1 ∧ N ≤ g ∧ g < w.heap.size := by
  have hil : i < ps.length := (List.getElem?_eq_some_iff.1 hi).1
  obtain ⟨g, cap, hv, hg, hlt⟩ := h.own.form (by rw [List.length_map]; omega)
  cases hv
  refine ⟨g, rfl, ?_, hg, hlt⟩
  rw [h.own.cellAt i (by rw [List.length_map]; omega), List.getElem?_map, hi]
  rfl
/-- Two places are changed. -/
theorem CoI.swap {N n c g j : Nat} {ps : List (Value × List ByteArray)} {q p : Value × List ByteArray} {w : World} (h : CoI N (insJ ps p (j + 1)) (.slice (some ⟨g, 0, none⟩) n c) w) (hj : j < ps.length) (hq : ps[j] = q) : CoI N (insJ ps p j) (.slice (some ⟨g, 0, none⟩) n c) ((w.setCell ⟨g, j + 1, none⟩ q.1).setCell ⟨g, j, none⟩ p.1) := by
  obtain rfl : n = ((insJ ps p (j + 1)).map (·.1)).length := by
    obtain ⟨a', c', e⟩ := own_shapeH h.own
    cases e
    rfl
  obtain ⟨h1, h2⟩ := h.own.stored (j + 1) q.1
  obtain ⟨h3, h4⟩ := h1.stored j p.1
  have e : (((insJ ps p (j + 1)).map (·.1)).set (j + 1) q.1).set j p.1 = (insJ ps p j).map (·.1) := by
    rw [← insJ_step (p := p) hj, hq, List.map_set, List.map_set]
  have el : ((insJ ps p (j + 1)).map (·.1)).length = ((insJ ps p j).map (·.1)).length := by rw [← e]; simp
  rw [e] at h3
  rw [el] at h3 ⊢
  have hx : ExQ (fun b => b = g) w ((w.setCell ⟨g, j + 1, none⟩ q.1).setCell ⟨g, j, none⟩ p.1) := ((ExQ.refl (fun b => b = g) w).set (B := g) rfl _ _).set (B := g) rfl _ _
  refine ⟨h3, fun r hr => (h.lv r ?_).exq hx fun b hb e => hb (by rw [e]; rfl)⟩
  have := insJ_mem.1 hr
  exact insJ_mem.2 this
end Go.Proofs.YtdmaijmglblccaaGreatDoor
