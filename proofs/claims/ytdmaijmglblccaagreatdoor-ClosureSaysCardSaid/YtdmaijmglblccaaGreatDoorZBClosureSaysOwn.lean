/- Several texts in one. -/
import Derived.Test.YtdmaijmglblccaaGreatDoorZClosureSaysOwn
import Derived.Lib.Builder
import Derived.Lib.AppendStr
import Derived.Deep.AppendSrc
import Derived.Laws.IdiomCopy
import Derived.Laws.IdiomStrings
import Derived.Lib.UnsafeStr
import Derived.Below
import Derived.Test.YtdmaijmglblccaaGreatDoorRows
import Derived.Lib.ItoaNum
import Derived.Deep.RegionHeld
import Derived.Test.YtdmaijmglblccaaGreatDoorShelf
import Derived.Deep.RegionHeld3
import Derived.Deep.DeepCutAuto
import Derived.Laws.OwnMore
import Derived.Lib.AppendIntMem
import Derived.Lib.ItoaWalk
import Derived.Lib.Slices
import Derived.BigGuard
import Derived.BigQuiet
import Derived.Deep.RegionLaw
import Derived.Ground.SlgnProg
import Derived.Shelf.SlicesE.Clone
/- Memory: closure's classes: a term more; a row within a row put; a row behind a row. -/
namespace Go.Proofs.YtdmaijmglblccaaGreatDoor
open Go.RowKit
set_option linter.unusedSimpArgs false
set_option linter.unusedVariables false
set_option maxRecDepth 8000

theorem setCell_comm (w : World) (a b : Addr) (u v : Value) (h : a.block ≠ b.block) : (w.setCell a u).setCell b v = (w.setCell b v).setCell a u := by
  unfold World.setCell
  simp only [World.mk.injEq, and_true, true_and]
  apply Array.ext
  · simp
  · intro i h1 h2
    simp only [Array.getElem_modify]
    by_cases hb : b.block = i
    · by_cases ha : a.block = i
      · exact absurd (ha.trans hb.symm) h
      · simp [ha, hb]
    · by_cases ha : a.block = i
      · simp [ha, hb]
      · simp [ha, hb]
/-- A term more. -/
theorem KlAt.push_ts {N B r : Nat} {X : Nat → Prop} {w : World} {o : Nat → Oid} {k : Kl} {m : Km} (h : KlAt N B r X w o k m) (hl : k.ts.length ≤ 1000000) (t : Tm) (a : Option Addr) (c : Nat) (ht : Sl w X a t.args) :
    ∃ g cap w3 o', (Builtin.append_ #[23, 23] 23 #[m.v0, .slice (some ⟨w.heap.size, 0, none⟩) 1 1]).run Tryz.prog (w.alloc (.cells #[.string ⟨#[]⟩, .slice none 0 0] 25)) = .ok (.slice (some ⟨g, 0, none⟩) (k.ts.length + 1) cap) w3 ∧ g ≠ B ∧
      Blk w3 B #[m.v0, m.v1, m.v2, m.v3, m.v4, .map (some r)] 65 ∧
      (w3.cell? ⟨g, k.ts.length * 2, none⟩ = some (.string ⟨#[]⟩) ∧ w3.cell? ⟨g, k.ts.length * 2 + 1, none⟩ = some (.slice none 0 0) ∧ ∀ i, w3.frozen? ⟨g, i, none⟩ = false) ∧
      KlAt N B r X (((w3.setCell ⟨g, k.ts.length * 2, none⟩ (.string t.name)).setCell ⟨g, k.ts.length * 2 + 1, none⟩ (.slice a t.args.length c)).setCell ⟨B, 0, none⟩ (.slice (some ⟨g, 0, none⟩) (k.ts.length + 1) cap)) o' { k with ts := k.ts ++ [t] } { m with v0 := .slice (some ⟨g, 0, none⟩) (k.ts.length + 1) cap, cs := m.cs ++ [(t, a, c)] } ∧
      Fr (fun i => i = (3, 0) ∨ i = (1, 0)) o w o' (((w3.setCell ⟨g, k.ts.length * 2, none⟩ (.string t.name)).setCell ⟨g, k.ts.length * 2 + 1, none⟩ (.slice a t.args.length c)).setCell ⟨B, 0, none⟩ (.slice (some ⟨g, 0, none⟩) (k.ts.length + 1) cap)) := by
  have hz : m.cs.length = k.ts.length := by rw [← h.ts]; simp
  obtain ⟨i0, hi, hz0, hz1, hz2⟩ := info_parts Tryz.infoTerm
  have h0 := h.r0
  obtain ⟨g, cap, w3, hr, ho, hg, hat, _⟩ := run_append_lies (P := Tryz.prog) (w := w.alloc (.cells #[.string ⟨#[]⟩, .slice none 0 0] 25)) 23 23 N 25 i0 _ 2 40 Tryz.underlying23 hi hz0 hz1 hz2 rfl (by decide) m.v0 m.cs.length (flatT m.cs) (h0.1.alloc _) ⟨w.heap.size, 0, none⟩ 1 1 [.string ⟨#[]⟩, .slice none 0 0] rfl (World.news_of_block (cs := #[.string ⟨#[]⟩, .slice none 0 0]) (heap_alloc_new w _)) (by simp [Value.oneCell']) (by omega) (by unfold maxLen; omega) (by omega) (by have := h.nN; simp; omega) _ rfl
  have hfl := flatT_len m.cs
  have hne : ∀ b, b < w.heap.size → o b ≠ (3, 0) → g ≠ b ∧ m.v0.ownBlock ≠ some b := fun b hb hn => by
    have h1 : m.v0.ownBlock ≠ some b := fun e => hn (h0.2 b e)
    refine ⟨fun e => ?_, h1⟩
    subst e
    rcases hat with e | e
    · exact h1 e
    · rw [World.size_alloc] at e; omega
  have hf1 : Fr (fun i => i = (3, 0)) o w (upV o (.slice (some ⟨g, 0, none⟩) (m.cs.length + 1) cap) (3, 0)) w3 := ⟨hg.os, hg.tape, hg.output, Nat.le_trans (by simp) hg.size, fun b hb hn => by
    obtain ⟨n1, n2⟩ := hne b hb hn
    exact ⟨by rw [hg.block b (by simp; omega) (fun e => n2 e.symm), Below.heap_alloc _ _ _ hb], upV_no (by simpa [Value.ownBlock] using n1)⟩⟩
  rw [hz] at hr ho hf1 hfl
  have hB := hf1.blk B h.box.lt (by rw [h.oB]; simp)
  have hgB := (hne B h.box.lt (by rw [h.oB]; decide)).1
  have hB3 : Blk w3 B #[m.v0, m.v1, m.v2, m.v3, m.v4, .map (some r)] 65 := hB.1.trans h.box
  have og : upV o (.slice (some ⟨g, 0, none⟩) (k.ts.length + 1) cap) (3, 0) g = (3, 0) := upV_yes rfl
  have hxl : (flatT m.cs).length = k.ts.length * 2 := hfl
  have s1 := ho.stored (k.ts.length * 2) (.string t.name)
  have s2 := s1.1.stored (k.ts.length * 2 + 1) (.slice a t.args.length c)
  have e2 : ((flatT m.cs ++ [Value.string ⟨#[]⟩, .slice none 0 0]).set (k.ts.length * 2) (.string t.name)).set (k.ts.length * 2 + 1) (.slice a t.args.length c) = flatT (m.cs ++ [(t, a, c)]) := by
    rw [flatT_app, List.set_append_right _ _ (by omega), List.set_append_right _ _ (by omega), hxl, Nat.sub_self, show k.ts.length * 2 + 1 - k.ts.length * 2 = 1 by omega]; rfl
  rw [e2] at s2
  have hf2 : Fr (fun i => i = (3, 0) ∨ i = (1, 0)) o w (upV o (.slice (some ⟨g, 0, none⟩) (k.ts.length + 1) cap) (3, 0)) (((w3.setCell ⟨g, k.ts.length * 2, none⟩ (.string t.name)).setCell ⟨g, k.ts.length * 2 + 1, none⟩ (.slice a t.args.length c)).setCell ⟨B, 0, none⟩ (.slice (some ⟨g, 0, none⟩) (k.ts.length + 1) cap)) :=
    (((hf1.mono fun i hi => Or.inl hi).trans ((fr_box og _ _).mono fun i hi => Or.inl hi)).trans ((fr_box og _ _).mono fun i hi => Or.inl hi)).trans ((fr_box (hB.2.trans h.oB) 0 _).mono fun i hi => Or.inr hi)
  have hrow : Rwo (((w3.setCell ⟨g, k.ts.length * 2, none⟩ (.string t.name)).setCell ⟨g, k.ts.length * 2 + 1, none⟩ (.slice a t.args.length c)).setCell ⟨B, 0, none⟩ (.slice (some ⟨g, 0, none⟩) (k.ts.length + 1) cap)) N (upV o (.slice (some ⟨g, 0, none⟩) (k.ts.length + 1) cap) (3, 0)) (3, 0) 25 2 (.slice (some ⟨g, 0, none⟩) (k.ts.length + 1) cap) (k.ts.length + 1) (flatT (m.cs ++ [(t, a, c)])) :=
    ⟨ownsRow_at s2.1 fun b hb => Below.heap_setCell _ _ _ _ (by intro e; simp [Value.ownBlock] at hb; exact hgB (hb.trans e)), fun b hb => upV_yes hb⟩
  have hbb : Blk (((w3.setCell ⟨g, k.ts.length * 2, none⟩ (.string t.name)).setCell ⟨g, k.ts.length * 2 + 1, none⟩ (.slice a t.args.length c)).setCell ⟨B, 0, none⟩ (.slice (some ⟨g, 0, none⟩) (k.ts.length + 1) cap)) B #[.slice (some ⟨g, 0, none⟩) (k.ts.length + 1) cap, m.v1, m.v2, m.v3, m.v4, .map (some r)] 65 := by
    have h1 := ((hB3.setOther (b' := g) (k.ts.length * 2) (.string t.name) (fun e => hgB e.symm)).setOther (b' := g) (k.ts.length * 2 + 1) (.slice a t.args.length c) (fun e => hgB e.symm)).set 0 (.slice (some ⟨g, 0, none⟩) (k.ts.length + 1) cap)
    simpa using h1
  have hRr := hf2.blk r h.map.lt (by rw [h.oR]; simp)
  refine ⟨g, cap, w3, _, hr, hgB, hB3, ⟨?_, ?_, fun i => ho.frozenAt i⟩, ⟨hbb, h.map.kept hRr.1, h.nB, h.nr, Nat.le_trans h.nN hf2.size, hB.2.trans h.oB, hRr.2.trans h.oR, ?_, ?_, fun x hx => ?_, fun b hb => ⟨Nat.lt_of_lt_of_le (h.hX b hb).1 hf2.size, (hf2.blk b (h.hX b hb).1 (by rw [(h.hX b hb).2]; simp)).2.trans (h.hX b hb).2⟩, h.r1.fr hf2 (by simp), h.r2.fr hf2 (by simp), h.r3.fr hf2 (by simp), h.r4.fr hf2 (by simp), h.l1, h.l3, h.l4, fun i hi => (h.i1 i hi).fr hf2 (by simp), fun i hi => (h.i3 i hi).fr hf2 (by simp), fun i hi => (h.i4 i hi).fr hf2 (by simp)⟩, hf2⟩
  · rw [ho.cellAt (k.ts.length * 2) (by omega), List.getElem?_append_right (by omega), hxl, Nat.sub_self]; rfl
  · rw [ho.cellAt (k.ts.length * 2 + 1) (by omega), List.getElem?_append_right (by omega), hxl, show k.ts.length * 2 + 1 - k.ts.length * 2 = 1 by omega]; rfl
  · have e : (m.cs ++ [(t, a, c)]).length = k.ts.length + 1 := by simp [hz]
    show Rwo _ N _ (3, 0) 25 2 _ (m.cs ++ [(t, a, c)]).length _
    rw [e]
    exact hrow
  · show (m.cs ++ [(t, a, c)]).map (·.1) = k.ts ++ [t]
    rw [List.map_append, h.ts]; rfl
  · have hk : ∀ (al : Option Addr) (q : List Tm), Sl w X al q → Sl (((w3.setCell ⟨g, k.ts.length * 2, none⟩ (.string t.name)).setCell ⟨g, k.ts.length * 2 + 1, none⟩ (.slice a t.args.length c)).setCell ⟨B, 0, none⟩ (.slice (some ⟨g, 0, none⟩) (k.ts.length + 1) cap)) X al q := fun al q hq => hq.kept fun b hb => (hf2.blk b (h.hX b hb).1 (by rw [(h.hX b hb).2]; simp)).1
    rcases List.mem_append.1 hx with hx | hx
    · exact hk _ _ (h.tx x hx)
    · rw [List.mem_singleton.1 hx]; exact hk _ _ ht
/-- A row behind a row. -/
theorem app_sp {w : World} {N : Nat} {o : Nat → Oid} {i1 i2 : Oid} {v1 v2 : Value} {l1 l2 : List Nat} (h1 : Rwo w N o i1 3 1 v1 (iL l1).length (iL l1)) (h2 : Rwo w N o i2 3 1 v2 (iL l2).length (iL l2)) (hN : N ≤ w.heap.size) (hl : l1.length + l2.length ≤ 1000000) :
    ∃ v3 w3 o', (Builtin.append_ #[45, 45] 45 #[v1, v2]).run Tryz.prog w = .ok v3 w3 ∧ Rwo w3 N o' i1 3 1 v3 (iL (l1 ++ l2)).length (iL (l1 ++ l2)) ∧ Fr (fun i => i = i1) o w o' w3 := by
  obtain ⟨i0, hi, hz0, hz1, hz2⟩ := info_parts Tryz.infoInt
  have ez : (iL l1).length = l1.length := iL_len l1
  have ez2 : (iL l2).length = l2.length := iL_len l2
  have e3 : iL (l1 ++ l2) = iL l1 ++ iL l2 := by simp [iL]
  by_cases h0 : l2 = []
  · subst h0
    refine ⟨v1, w, o, ?_, by simpa using h1, Fr.refl _ _ _⟩
    rcases h1.1.2 with ⟨hv, hn⟩ | ⟨g, cap, cur, hv, _, _, hle, _⟩
    · rcases h2.1.2 with ⟨hv2, hn2⟩ | ⟨g2, cap2, cur2, hv2, _⟩
      · rw [hv, hv2]
        simp [Builtin.append_, run_underlying Tryz.underlying45, sizeOf, typeInfo, hi, hz1, Builtin.lenOf, Builtin.firstCells, Result.andThen, storeCells, loadCells, loadCellsFrom]
      · rw [hv, hv2]
        simp [iL, Builtin.append_, run_underlying Tryz.underlying45, sizeOf, typeInfo, hi, hz1, Builtin.lenOf, Builtin.firstCells, Result.andThen, storeCells, loadCells, loadCellsFrom]
    · rcases h2.1.2 with ⟨hv2, hn2⟩ | ⟨g2, cap2, cur2, hv2, _⟩
      · rw [hv, hv2]
        simp [Builtin.append_, run_underlying Tryz.underlying45, sizeOf, typeInfo, hi, hz1, Builtin.lenOf, Builtin.firstCells, hle, Result.andThen, storeCells, loadCells, loadCellsFrom]
      · rw [hv, hv2]
        have hle2 : (iL l1).length + (iL ([] : List Nat)).length ≤ cap := by rw [show (iL ([] : List Nat)).length = 0 from rfl]; omega
        simp [iL] at hle2
        simp [iL, Builtin.append_, run_underlying Tryz.underlying45, sizeOf, typeInfo, hi, hz1, Builtin.lenOf, Builtin.firstCells, hle2, Result.andThen, storeCells, loadCells, loadCellsFrom]
  · have hp : 0 < l2.length := List.length_pos_iff.2 h0
    obtain ⟨g2, c2, hv2, hg2, hgl2⟩ := h2.1.form (by omega)
    subst hv2
    obtain ⟨g, cap, w3, hr, ho, hg, hat, _⟩ := run_append_lies (P := Tryz.prog) (w := w) 45 45 N 3 i0 _ 1 8 Tryz.underlying45 hi hz0 hz1 hz2 rfl (by decide) v1 (iL l1).length (iL l1) h1.1 ⟨g2, 0, none⟩ (iL l2).length c2 (iL l2) (by omega) (h2.1.cells (g := g2) rfl) (by intro u hu; unfold iL at hu; obtain ⟨n, _, rfl⟩ := List.mem_map.1 hu; rfl) (by omega) (by unfold maxLen; omega) (by omega) hN _ rfl
    refine ⟨_, w3, upV o (.slice (some ⟨g, 0, none⟩) ((iL l1).length + (iL l2).length) cap) i1, hr, ⟨?_, fun b hb => upV_yes hb⟩, ⟨hg.os, hg.tape, hg.output, hg.size, fun b hb hn => ?_⟩⟩
    · rw [e3, List.length_append]; exact ho
    · have hne : v1.ownBlock ≠ some b := fun e => hn (h1.2 b e)
      have hgb : g ≠ b := fun e => by
        subst e
        rcases hat with e | e
        · exact hne e
        · omega
      exact ⟨hg.block b hb (fun e => hne e.symm), upV_no (by simpa [Value.ownBlock] using hgb)⟩
/-- A row within mb is another one now. -/
theorem KlAt.row_mb {N B r : Nat} {X : Nat → Prop} {w w3 : World} {o o3 : Nat → Oid} {k : Kl} {m : Km} (h : KlAt N B r X w o k m) {i : Nat} (hi : i < k.mb.length) (hf : Fr (fun j => j = (9, i)) o w o3 w3) {v : Value} {l : List Nat} (hrow : Rwo w3 N o3 (9, i) 3 1 v (iL l).length (iL l)) :
    ∃ g c, m.v3 = .slice (some ⟨g, 0, none⟩) m.vm.length c ∧ w3.cell? ⟨g, i, none⟩ = some (gd m.vm nV i) ∧ w3.frozen? ⟨g, i, none⟩ = false ∧
      KlAt N B r X (w3.setCell ⟨g, i, none⟩ v) o3 { k with mb := k.mb.set i l } { m with vm := m.vm.set i v } ∧ Fr (fun j => j = (9, i) ∨ j = (6, 0)) o w o3 (w3.setCell ⟨g, i, none⟩ v) := by
  have hll := h.l3
  have hr3 := h.r3.fr hf (by simp)
  obtain ⟨a, c, hv⟩ := hr3.shape
  rw [hv] at hr3
  obtain ⟨g, u, rfl, hu, hcell, hfz, hog, hglt, _⟩ := hr3.at (i := i) (by omega)
  have hue : u = gd m.vm nV i := by unfold gd; rw [hu]; rfl
  obtain ⟨hp, hpf⟩ := hr3.put i v
  have hF : Fr (fun j => j = (9, i) ∨ j = (6, 0)) o w o3 (w3.setCell ⟨g, i, none⟩ v) := (hf.mono fun j hj => Or.inl hj).trans (hpf.mono fun j hj => Or.inr hj)
  have hrow2 := hrow.fr hpf (by simp)
  have hBb := hF.blk B h.box.lt (by rw [h.oB]; simp)
  have hRr := hF.blk r h.map.lt (by rw [h.oR]; simp)
  refine ⟨g, c, hv, by rw [hcell, hue], hfz, ⟨hBb.1.trans h.box, h.map.kept hRr.1, h.nB, h.nr, Nat.le_trans h.nN hF.size, hBb.2.trans h.oB, hRr.2.trans h.oR, h.r0.fr hF (by simp), h.ts, fun x hx => (h.tx x hx).kept fun b hb => (hF.blk b (h.hX b hb).1 (by rw [(h.hX b hb).2]; simp)).1, fun b hb => ⟨Nat.lt_of_lt_of_le (h.hX b hb).1 hF.size, (hF.blk b (h.hX b hb).1 (by rw [(h.hX b hb).2]; simp)).2.trans (h.hX b hb).2⟩, h.r1.fr hF (by simp), h.r2.fr hF (by simp), ?_, h.r4.fr hF (by simp), h.l1, by simp [hll], h.l4, fun j hj => (h.i1 j hj).fr hF (by simp), ?_, fun j hj => (h.i4 j hj).fr hF (by simp)⟩, hF⟩
  · show Rwo _ N o3 (6, 0) 45 1 m.v3 (m.vm.set i v).length (m.vm.set i v)
    rw [hv, List.length_set]
    exact hp
  · intro j hj
    have hj : j < k.mb.length := by simpa using hj
    by_cases hij : i = j
    · subst hij
      have e1 : gd (m.vm.set i v) nV i = v := gd_set (by omega)
      have e2 : Kl.M { k with mb := k.mb.set i l } i = l := gd_set hi
      show Rwo _ N o3 (9, i) 3 1 (gd (m.vm.set i v) nV i) (iL (Kl.M { k with mb := k.mb.set i l } i)).length (iL (Kl.M { k with mb := k.mb.set i l } i))
      rw [e1, e2]
      exact hrow2
    · have e1 : gd (m.vm.set i v) nV j = gd m.vm nV j := gd_set_ne hij
      have e2 : Kl.M { k with mb := k.mb.set i l } j = k.M j := gd_set_ne hij
      show Rwo _ N o3 (9, j) 3 1 (gd (m.vm.set i v) nV j) (iL (Kl.M { k with mb := k.mb.set i l } j)).length (iL (Kl.M { k with mb := k.mb.set i l } j))
      rw [e1, e2]
      exact (h.i3 j hj).fr hF (by simp; exact fun e => hij e.symm)
/-- A row within ab is another one now. -/
theorem KlAt.row_ab {N B r : Nat} {X : Nat → Prop} {w w3 : World} {o o3 : Nat → Oid} {k : Kl} {m : Km} (h : KlAt N B r X w o k m) {i : Nat} (hi : i < k.ab.length) (hf : Fr (fun j => j = (10, i)) o w o3 w3) {v : Value} {l : List Nat} (hrow : Rwo w3 N o3 (10, i) 3 1 v (iL l).length (iL l)) :
    ∃ g c, m.v4 = .slice (some ⟨g, 0, none⟩) m.va.length c ∧ w3.cell? ⟨g, i, none⟩ = some (gd m.va nV i) ∧ w3.frozen? ⟨g, i, none⟩ = false ∧
      KlAt N B r X (w3.setCell ⟨g, i, none⟩ v) o3 { k with ab := k.ab.set i l } { m with va := m.va.set i v } ∧ Fr (fun j => j = (10, i) ∨ j = (7, 0)) o w o3 (w3.setCell ⟨g, i, none⟩ v) := by
  have hll := h.l4
  have hr3 := h.r4.fr hf (by simp)
  obtain ⟨a, c, hv⟩ := hr3.shape
  rw [hv] at hr3
  obtain ⟨g, u, rfl, hu, hcell, hfz, hog, hglt, _⟩ := hr3.at (i := i) (by omega)
  have hue : u = gd m.va nV i := by unfold gd; rw [hu]; rfl
  obtain ⟨hp, hpf⟩ := hr3.put i v
  have hF : Fr (fun j => j = (10, i) ∨ j = (7, 0)) o w o3 (w3.setCell ⟨g, i, none⟩ v) := (hf.mono fun j hj => Or.inl hj).trans (hpf.mono fun j hj => Or.inr hj)
  have hrow2 := hrow.fr hpf (by simp)
  have hBb := hF.blk B h.box.lt (by rw [h.oB]; simp)
  have hRr := hF.blk r h.map.lt (by rw [h.oR]; simp)
  refine ⟨g, c, hv, by rw [hcell, hue], hfz, ⟨hBb.1.trans h.box, h.map.kept hRr.1, h.nB, h.nr, Nat.le_trans h.nN hF.size, hBb.2.trans h.oB, hRr.2.trans h.oR, h.r0.fr hF (by simp), h.ts, fun x hx => (h.tx x hx).kept fun b hb => (hF.blk b (h.hX b hb).1 (by rw [(h.hX b hb).2]; simp)).1, fun b hb => ⟨Nat.lt_of_lt_of_le (h.hX b hb).1 hF.size, (hF.blk b (h.hX b hb).1 (by rw [(h.hX b hb).2]; simp)).2.trans (h.hX b hb).2⟩, h.r1.fr hF (by simp), h.r2.fr hF (by simp), h.r3.fr hF (by simp), ?_, h.l1, h.l3, by simp [hll], fun j hj => (h.i1 j hj).fr hF (by simp), fun j hj => (h.i3 j hj).fr hF (by simp), ?_⟩, hF⟩
  · show Rwo _ N o3 (7, 0) 45 1 m.v4 (m.va.set i v).length (m.va.set i v)
    rw [hv, List.length_set]
    exact hp
  · intro j hj
    have hj : j < k.ab.length := by simpa using hj
    by_cases hij : i = j
    · subst hij
      have e1 : gd (m.va.set i v) nV i = v := gd_set (by omega)
      have e2 : Kl.A { k with ab := k.ab.set i l } i = l := gd_set hi
      show Rwo _ N o3 (10, i) 3 1 (gd (m.va.set i v) nV i) (iL (Kl.A { k with ab := k.ab.set i l } i)).length (iL (Kl.A { k with ab := k.ab.set i l } i))
      rw [e1, e2]
      exact hrow2
    · have e1 : gd (m.va.set i v) nV j = gd m.va nV j := gd_set_ne hij
      have e2 : Kl.A { k with ab := k.ab.set i l } j = k.A j := gd_set_ne hij
      show Rwo _ N o3 (10, j) 3 1 (gd (m.va.set i v) nV j) (iL (Kl.A { k with ab := k.ab.set i l } j)).length (iL (Kl.A { k with ab := k.ab.set i l } j))
      rw [e1, e2]
      exact (h.i4 j hj).fr hF (by simp; exact fun e => hij e.symm)
end Go.Proofs.YtdmaijmglblccaaGreatDoor

/- Walks: writing into a Builder, with all else as it was. -/
namespace Go.Proofs.YtdmaijmglblccaaGreatDoor
open Go.RowKit
set_option linter.unusedSimpArgs false
set_option linter.unusedVariables false

theorem Tryz.infoByte : (Tryz.prog.info? 5).map (fun i => (i.zero, i.size, i.bytes)) = some (some (.int .u8 0), 1, 1) := by kernel_rfl
theorem Tryz.sizeBuilder : (Tryz.prog.info? 100).map (·.size) = some 2 := by kernel_rfl
theorem Tryz.liesBuilder : liesAt Tryz.prog Tryz.prog.depth 100 (2 / Tryz.prog.cellsOf 100) 0 100 1 = true := by kernel_rfl

/-- A Builder in block b, its bytes in a row of its own. -/
def Bld (w : World) (B b : Nat) (bs : List Value) (v : Value) : Prop :=
  B ≤ b ∧ (∃ p, (p = .pointer none ∨ p = .pointer (some ⟨b, 0, none⟩)) ∧ w.heap[b]? = some (.cells #[p, v] 100 (0, 0))) ∧ w.ownsRow B 5 1 v bs.length bs

/-- What a write leaves alone. -/
def BFr (w w' : World) (b : Nat) (v v' : Value) : Prop :=
  w'.os = w.os ∧ w'.tape = w.tape ∧ w'.output = w.output ∧ w.heap.size ≤ w'.heap.size ∧ (∀ k, k < w.heap.size → k ≠ b → some k ≠ v.ownBlock → w'.heap[k]? = w.heap[k]?) ∧ (∀ k, v'.ownBlock = some k → v.ownBlock = some k ∨ w.heap.size ≤ k)

theorem BFr.refl (w : World) (b : Nat) (v : Value) : BFr w w b v v := ⟨rfl, rfl, rfl, Nat.le_refl _, fun _ _ _ _ => rfl, fun _ h => Or.inl h⟩
theorem BFr.trans {w w1 w2 : World} {b : Nat} {v v1 v2 : Value} (h : BFr w w1 b v v1) (h1 : BFr w1 w2 b v1 v2) : BFr w w2 b v v2 := by
  obtain ⟨a1, a2, a3, a4, a5, a6⟩ := h
  obtain ⟨c1, c2, c3, c4, c5, c6⟩ := h1
  refine ⟨c1.trans a1, c2.trans a2, c3.trans a3, Nat.le_trans a4 c4, fun k hk hb hv => ?_, fun k hk => ?_⟩
  · refine (c5 k (Nat.lt_of_lt_of_le hk a4) hb (fun e => ?_)).trans (a5 k hk hb hv)
    rcases a6 k e.symm with h | h
    · exact hv h.symm
    · omega
  · rcases c6 k hk with h | h
    · exact a6 k h
    · exact Or.inr (Nat.le_trans a4 h)
theorem BFr.of_below {w w' : World} (hb : Below w.heap.size w w') (b : Nat) (v : Value) : BFr w w' b v v := ⟨hb.os, hb.tape, hb.output, hb.size, fun k hk _ _ => hb.block k hk, fun _ h => Or.inl h⟩

theorem bd_ne {w : World} {B b : Nat} {bs : List Value} {v : Value} (h : Bld w B b bs v) : v.ownBlock ≠ some b := by
  obtain ⟨_, ⟨p, _, hb⟩, hown⟩ := h
  exact Lib.ownBlock_ne hown hb (by decide)

set_option maxHeartbeats 1000000 in
set_option maxRecDepth 100000 in
theorem copyCheck_any (B b : Nat) (bs : List Value) (v : Value) (w : World) (h : Bld w B b bs v) :
    Calls Tryz.prog 105 #[.pointer (some ⟨b, 0, none⟩)] w fun e w' => e = .returned (.tuple #[]) ∧ w'.heap[b]? = some (.cells #[.pointer (some ⟨b, 0, none⟩), v] 100 (0, 0)) ∧ w'.ownsRow B 5 1 v bs.length bs ∧ BFr w w' b v v := by
  obtain ⟨j, hj, hjs⟩ := Option.map_eq_some_iff.1 Tryz.sizeBuilder
  have hne := bd_ne h
  obtain ⟨hB, ⟨p, hp, hbk⟩, hown⟩ := h
  have h0 : w.cell? ⟨b, 0, none⟩ = some p := by rw [Lib.cell_of_heap hbk]; rfl
  have hsh : w.shape? b = some (100, 2) := by simp [World.shape?, hbk]
  have hfz : w.frozen? ⟨b, 0, none⟩ = false := Lib.frozen_of_heap hbk 0
  rcases hp with rfl | rfl
  · have HF : Hid ((w.setCell ⟨b, 0, none⟩ (.pointer (some ⟨b, 0, none⟩))).heap[b]? = some (.cells #[.pointer (some ⟨b, 0, none⟩), v] 100 (0, 0)) ∧ (w.setCell ⟨b, 0, none⟩ (.pointer (some ⟨b, 0, none⟩))).ownsRow B 5 1 v bs.length bs ∧ BFr w (w.setCell ⟨b, 0, none⟩ (.pointer (some ⟨b, 0, none⟩))) b v v) := by
      refine ⟨by simp [World.setCell, Array.getElem?_modify, hbk], ?_, rfl, rfl, rfl, by simp [World.setCell], fun k hk hkb _ => Below.heap_setCell _ _ _ _ (by simpa using hkb), fun _ h => Or.inl h⟩
      refine hown.kept (w' := w.setCell ⟨b, 0, none⟩ (.pointer (some ⟨b, 0, none⟩))) (row := some b) ⟨rfl, rfl, rfl, by simp [World.setCell], fun k hk hkb => Below.heap_setCell _ _ _ _ (by simp at hkb; simpa using hkb)⟩ (Or.inr hne)
    have HOWN := hide hown
    clear hown
    go_enter Tryz.func105, Tryz.ntmps105
    go_wp2_with fail
    rw [Lib.run_to_unsafe w ⟨b, 0, none⟩ Tryz.underlying97 Tryz.underlying143 hj (by rw [hjs]; decide) hsh (Nat.zero_lt_succ 1)]
    simp only [Result.andThen]
    rw [Oper.upon_value]
    go_wp2_with fail
    rw [run_callFunc_extern Tryz.func115 (by kernel_rfl) (by kernel_rfl) (by kernel_rfl) (e := Extern.AbiNoEscape.same) (by kernel_rfl)]
    rw [Lib.run_noEscape]
    simp only [Result.andThen]
    rw [Oper.upon_value]
    go_wp2_with fail
    rw [Lib.run_from_unsafe w ⟨b, 0, none⟩ Tryz.underlying143 Tryz.underlying97 hj hsh Tryz.liesBuilder]
    simp only [Result.andThen]
    rw [Oper.upon_value]
    go_wp2_with fail
    go_end0
    exact ⟨rfl, HF.out⟩
  · have HOWN := hide hown
    go_enter Tryz.func105, Tryz.ntmps105
    go_wp2_with fail
    rw [Lib.run_neq_ptr_same w _ Tryz.underlying97 hj]
    go_wp2_with fail
    go_end0
    exact ⟨rfl, hbk, HOWN.out, BFr.refl _ _ _⟩

theorem bd_lt {w : World} {b : Nat} {o : Obj} (h : w.heap[b]? = some o) : b < w.heap.size := by
  apply Classical.byContradiction
  intro hn
  rw [Array.getElem?_eq_none (by omega)] at h; cases h

/-- Behind an append and the store of its slice. -/
theorem bd_put {w w2 : World} {B b : Nat} {bs bs' : List Value} {v v' : Value} (hB : B ≤ b) (hBw : B ≤ w.heap.size) (hbk : w.heap[b]? = some (.cells #[.pointer (some ⟨b, 0, none⟩), v] 100 (0, 0))) (hown : w.ownsRow B 5 1 v bs.length bs) (hown' : w2.ownsRow B 5 1 v' bs'.length bs') (hg : w.grownBy w2 v.ownBlock)
    (hat : ∀ k, v'.ownBlock = some k → v.ownBlock = some k ∨ w.heap.size ≤ k) : Bld (w2.setCell ⟨b, 1, none⟩ v') B b bs' v' ∧ BFr w (w2.setCell ⟨b, 1, none⟩ v') b v v' := by
  have hne : v.ownBlock ≠ some b := Lib.ownBlock_ne hown hbk (by decide)
  have hlt := bd_lt hbk
  have hb2 : w2.heap[b]? = some (.cells #[.pointer (some ⟨b, 0, none⟩), v] 100 (0, 0)) := by rw [hg.block b hlt (fun e => hne e.symm)]; exact hbk
  have hne' : v'.ownBlock ≠ some b := Lib.ownBlock_ne hown' hb2 (by decide)
  refine ⟨⟨hB, ⟨_, Or.inr rfl, by simp [World.setCell, Array.getElem?_modify, hb2]⟩, ?_⟩, hg.os, hg.tape, hg.output, by simp [World.setCell]; exact hg.size, fun k hk hkb hv => ?_, hat⟩
  · exact hown'.kept (w' := w2.setCell ⟨b, 1, none⟩ v') (row := some b) ⟨rfl, rfl, rfl, by simp [World.setCell], fun k hk hkb => Below.heap_setCell _ _ _ _ (by simp at hkb; simpa using hkb)⟩ (Or.inr hne')
  · rw [Below.heap_setCell _ _ _ _ (by simpa using hkb)]; exact hg.block k hk hv

/-- Where the row lies behind an append of a text's bytes. -/
theorem str_at {w w' : World} {B : Nat} {v v' : Value} {n : Nat} {xs : List Value} {s : ByteArray} {ty : TypeId} (hown : w.ownsRow B 5 1 v n xs) (hsm : n + s.size ≤ 2000000000) (hr : (Builtin.append_ #[98, 9] ty #[v, .string s]).run Tryz.prog w = .ok v' w')
    (hnil : v' = .slice none 0 0 ↔ v = .slice none 0 0 ∧ s.size = 0) : ∀ k, v'.ownBlock = some k → v.ownBlock = some k ∨ w.heap.size ≤ k := by
  obtain ⟨i0, hi, hz0, hz1, hz2⟩ := info_parts Tryz.infoByte
  have hsrc : Src Tryz.prog i0.size 9 (.string s) s.size (byteCells s) w := by rw [hz1]; exact Src.ofString w Tryz.underlying9 s
  have hlx := hown.1
  intro k hk
  rcases hown.2 with ⟨rfl, rfl⟩ | ⟨g, cap, cur, rfl, hBg, hh, hnc, hcm, hcs, htk⟩
  · by_cases h0 : s.size = 0
    · have := hnil.2 ⟨rfl, h0⟩
      rw [this] at hk; cases hk
    · have hg := run_append_grow_src (P := Tryz.prog) w 98 9 ty 5 i0 (.int .u8 0) Tryz.underlying98 hi hz0 none 0 0 [] (by simpa using run_firstCells_none w.drew i0.size 0 0 0) (.string s) s.size (byteCells s) hsrc (by omega) (by omega) (by rw [hz2]; have := growslice_fits (need := 0 + s.size) (old := 0) (bytes := 1) (by omega) (by omega); omega)
      rw [hr] at hg
      simp only [Result.ok.injEq] at hg
      rw [hg.1] at hk
      simp [Value.ownBlock] at hk
      right; omega
  · by_cases hroom : n + s.size ≤ cap
    · have hc : ∀ j, j < (byteCells s).length → (w.cell? ⟨g, 0 + n * i0.size + j, none⟩).isSome = true := fun j hj => by
        rw [byteCells_length] at hj
        rw [Lib.cell_of_heap hh, hz1]
        simp; omega
      have hf : ∀ j, j < (byteCells s).length → w.frozen? ⟨g, 0 + n * i0.size + j, none⟩ = false := fun j hj => Lib.frozen_of_heap hh _
      have hg := run_append_room_src (P := Tryz.prog) w 98 9 ty 5 i0 Tryz.underlying98 hi g 0 n cap (.string s) s.size (byteCells s) hsrc hroom hc hf
      rw [hr] at hg
      simp only [Result.ok.injEq] at hg
      rw [hg.1] at hk
      simp [Value.ownBlock] at hk
      left; simp [Value.ownBlock, hk]
    · have hfc := run_firstCells_some (P := Tryz.prog) w.drew i0.size n ⟨g, 0, none⟩ n cap xs (by rw [hz1]; exact hlx) (fun j u hj => by have := hown.cells (g := g) rfl j u hj; simpa using this)
      have hg := run_append_grow_src (P := Tryz.prog) w 98 9 ty 5 i0 (.int .u8 0) Tryz.underlying98 hi hz0 (some ⟨g, 0, none⟩) n cap xs hfc (.string s) s.size (byteCells s) hsrc (by omega) (by omega) (by rw [hz2]; have := growslice_fits (need := n + s.size) (old := cap) (bytes := 1) (by omega) (by omega); omega)
      rw [hr] at hg
      simp only [Result.ok.injEq] at hg
      rw [hg.1] at hk
      simp [Value.ownBlock] at hk
      right; omega

set_option maxHeartbeats 1000000 in
set_option maxRecDepth 100000 in
theorem writeByte_any (B b : Nat) (bs : List Value) (v : Value) (c : Int) (w : World) (h : Bld w B b bs v) (hlen : bs.length ≤ 1000000000) (hBw : B ≤ w.heap.size) :
    Calls Tryz.prog 80 #[.pointer (some ⟨b, 0, none⟩), .int .u8 c] w fun e w' => e = .returned .nilIface ∧ ∃ v', Bld w' B b (bs ++ [.int .u8 c]) v' ∧ BFr w w' b v v' := by
  obtain ⟨i0, hi, hz0, hz1, hz2⟩ := info_parts Tryz.infoByte
  have hB := h.1
  have H := hide h
  clear h
  go_enter Tryz.func80, Tryz.ntmps80
  go_wp2_with (go_at_call 105; refine (copyCheck_any B b bs v _ H.out).mono ?_)
  rintro e w1 ⟨rfl, hbk, hown, hfr⟩
  have c0 : w1.cell? ⟨b, 0, none⟩ = some (.pointer (some ⟨b, 0, none⟩)) := by rw [Lib.cell_of_heap hbk]; rfl
  have c1 : w1.cell? ⟨b, 1, none⟩ = some v := by rw [Lib.cell_of_heap hbk]; rfl
  have hlt := bd_lt hbk
  have hne : v.ownBlock ≠ some b := Lib.ownBlock_ne hown hbk (by decide)
  have hBw1 : B ≤ w1.heap.size := Nat.le_trans hBw hfr.2.2.2.1
  obtain ⟨g, cap, w2, hr2, hown2, hg2, hat2, _⟩ := run_append_lies (P := Tryz.prog) (w := w1.alloc (.cells #[.int .u8 c] 5)) 98 98 B 5 i0 _ 1 1 Tryz.underlying98 hi hz0 hz1 hz2 rfl (by decide) v bs.length bs (hown.alloc _)
    ⟨w1.heap.size, 0, none⟩ 1 1 [.int .u8 c] rfl (cell_one_new _ _ _) (fun x hx => by simp at hx; subst hx; rfl) (by decide) (by unfold maxLen; omega) (by omega) (by simp; omega) _ rfl
  have hg3 : w1.grownBy w2 v.ownBlock := grown_trans (grown_of_below ((Below.refl _ _).alloc (Nat.le_refl _) _) v.ownBlock) hg2 (fun k hk => Or.inl hk)
  have HPUT := hide (bd_put (bs' := bs ++ [.int .u8 c]) hB hBw1 hbk hown (by simpa using hown2) hg3 (fun k hk => by
    simp [Value.ownBlock] at hk
    subst hk
    rcases hat2 with e | e
    · exact Or.inl e
    · right; simp at e; omega))
  have hb2 : w2.heap[b]? = some (.cells #[.pointer (some ⟨b, 0, none⟩), v] 100 (0, 0)) := by rw [hg3.block b hlt (fun e => hne e.symm)]; exact hbk
  have d0 : w2.cell? ⟨b, 0, none⟩ = some (.pointer (some ⟨b, 0, none⟩)) := by rw [Lib.cell_of_heap hb2]; rfl
  have d1 : w2.cell? ⟨b, 1, none⟩ = some v := by rw [Lib.cell_of_heap hb2]; rfl
  have f1 : w2.frozen? ⟨b, 1, none⟩ = false := Lib.frozen_of_heap hb2 1
  have HR := hide hr2
  have HFR := hide hfr
  clear hr2 hown hown2 hg2 hg3 hat2 hbk hfr hb2
  go_wp2_with (at_builtin; refine wpList_append_eq rfl _ _ _ _ rfl rfl rfl HR.out ?_)
  go_ret
  exact ⟨rfl, _, HPUT.out.1, HFR.out.trans HPUT.out.2⟩

set_option maxHeartbeats 1000000 in
set_option maxRecDepth 100000 in
theorem writeString_any (B b : Nat) (bs : List Value) (v : Value) (s : ByteArray) (w : World) (h : Bld w B b bs v) (hlen : bs.length + s.size ≤ 1000000000) (hBw : B ≤ w.heap.size) :
    Calls Tryz.prog 79 #[.pointer (some ⟨b, 0, none⟩), .string s] w fun e w' => e = .returned (.tuple #[.int .i64 s.size, .nilIface]) ∧ ∃ v', Bld w' B b (bs ++ Lib.strCells s) v' ∧ BFr w w' b v v' := by
  obtain ⟨i0, hi, hz0, hz1, hz2⟩ := info_parts Tryz.infoByte
  have hB := h.1
  have H := hide h
  clear h
  go_enter Tryz.func79, Tryz.ntmps79
  go_wp2_with (go_at_call 105; refine (copyCheck_any B b bs v _ H.out).mono ?_)
  rintro e w1 ⟨rfl, hbk, hown, hfr⟩
  have c0 : w1.cell? ⟨b, 0, none⟩ = some (.pointer (some ⟨b, 0, none⟩)) := by rw [Lib.cell_of_heap hbk]; rfl
  have c1 : w1.cell? ⟨b, 1, none⟩ = some v := by rw [Lib.cell_of_heap hbk]; rfl
  have hlt := bd_lt hbk
  have hne : v.ownBlock ≠ some b := Lib.ownBlock_ne hown hbk (by decide)
  have hBw1 : B ≤ w1.heap.size := Nat.le_trans hBw hfr.2.2.2.1
  obtain ⟨v2, w2, hr2, hown2, hg2, hnil2⟩ := Lib.run_append_own_string (P := Tryz.prog) w1 B 98 9 98 5 i0 Tryz.underlying98 Tryz.underlying9 hi hz0 hz1 hz2 v bs.length bs hown s (by unfold maxLen; omega) (by omega) hBw1
  have hat := str_at hown (by omega) hr2 hnil2
  have HPUT := hide (bd_put (bs' := bs ++ Lib.strCells s) hB hBw1 hbk hown (by simpa [Lib.strCells_length] using hown2) hg2 hat)
  have hb2 : w2.heap[b]? = some (.cells #[.pointer (some ⟨b, 0, none⟩), v] 100 (0, 0)) := by rw [hg2.block b hlt (fun e => hne e.symm)]; exact hbk
  have d0 : w2.cell? ⟨b, 0, none⟩ = some (.pointer (some ⟨b, 0, none⟩)) := by rw [Lib.cell_of_heap hb2]; rfl
  have d1 : w2.cell? ⟨b, 1, none⟩ = some v := by rw [Lib.cell_of_heap hb2]; rfl
  have f1 : w2.frozen? ⟨b, 1, none⟩ = false := Lib.frozen_of_heap hb2 1
  obtain ⟨ao, n', cap, rfl⟩ : ∃ ao n' cap, v2 = .slice ao n' cap := by
    rcases hown2.2 with ⟨hv, _⟩ | ⟨g, cap, cur, hv, _⟩
    · exact ⟨_, _, _, hv⟩
    · exact ⟨_, _, _, hv⟩
  have HR := hide hr2
  have HFR := hide hfr
  clear hr2 hown hown2 hg2 hat hnil2 hbk hfr hb2
  go_wp2_with (at_builtin; refine wpList_append_eq rfl _ _ _ _ rfl rfl rfl HR.out ?_)
  go_ret2
  exact ⟨rfl, _, HPUT.out.1, HFR.out.trans HPUT.out.2⟩
end Go.Proofs.YtdmaijmglblccaaGreatDoor

/- Memory: bytes of one's own, also those that were a text's; what is appended to them. -/
namespace Go.Proofs.YtdmaijmglblccaaGreatDoor
open Go.RowKit
set_option linter.unusedSimpArgs false
set_option linter.unusedVariables false
set_option maxRecDepth 8000

theorem setCells_heap (b : Nat) (T : Nat) (fz : Nat × Nat) : ∀ (vs : List Value) (o : Nat) (w : World) (cur : Array Value), w.heap[b]? = some (.cells cur T fz) → o + vs.length ≤ cur.size →
    ∃ cur', (w.setCells b o vs).heap[b]? = some (.cells cur' T fz) ∧ cur'.size = cur.size ∧ cur'.toList.take (o + vs.length) = cur.toList.take o ++ vs ∧ (w.setCells b o vs).heap.size = w.heap.size ∧ (∀ k, k ≠ b → (w.setCells b o vs).heap[k]? = w.heap[k]?) ∧ (w.setCells b o vs).os = w.os ∧ (w.setCells b o vs).tape = w.tape ∧ (w.setCells b o vs).output = w.output
  | [], o, w, cur, h, _ => ⟨cur, h, rfl, by simp, rfl, fun _ _ => rfl, rfl, rfl, rfl⟩
  | v :: r, o, w, cur, h, hl => by
    simp only [List.length_cons] at hl
    have hlt : b < w.heap.size := (Array.getElem?_eq_some_iff.1 h).1
    have h1 : (w.setCell ⟨b, o, none⟩ v).heap[b]? = some (.cells (cur.setIfInBounds o v) T fz) := by
      obtain ⟨hl1, he⟩ := Array.getElem?_eq_some_iff.1 h
      simp [World.setCell, Array.getElem?_modify, h]
    obtain ⟨cur', g1, g2, g3, g4, g5, g6, g7, g8⟩ := setCells_heap b T fz r (o + 1) (w.setCell ⟨b, o, none⟩ v) _ h1 (by simp; omega)
    refine ⟨cur', g1, by simpa using g2, ?_, g4.trans (by simp [World.setCell]), fun k hk => (g5 k hk).trans (Below.heap_setCell _ _ _ _ (by simpa using hk)), g6, g7, g8⟩
    have e1 : o + (v :: r).length = o + 1 + r.length := by simp only [List.length_cons]; omega
    rw [e1, g3]
    have e2 : (cur.setIfInBounds o v).toList.take (o + 1) = cur.toList.take o ++ [v] := by
      rw [Array.toList_setIfInBounds, List.take_set, List.take_succ_eq_append_getElem (by simp; omega)]
      have hz : (cur.toList.take o).length = o := by simp; omega
      rw [List.set_append_right _ _ (by omega), hz, Nat.sub_self]
      rfl
    rw [e2]
    simp
/-- Bytes of one's own: no cell of theirs is shut. -/
def ByM (w : World) (N : Nat) (v : Value) (l : List UInt8) : Prop :=
  ∃ g cap cur fz, v = .slice (some ⟨g, 0, none⟩) l.length cap ∧ N ≤ g ∧ w.heap[g]? = some (.cells cur 5 fz) ∧ l.length ≤ cap ∧ cap ≤ maxLen ∧ cur.size = cap ∧ (∀ j, j < cap → ¬ (fz.1 ≤ j ∧ j < fz.2)) ∧ cur.toList.take l.length = Lib.byteCells l
theorem ByM.lt {w : World} {N : Nat} {v : Value} {l : List UInt8} (h : ByM w N v l) : ∀ k, v.ownBlock = some k → N ≤ k ∧ k < w.heap.size := by
  obtain ⟨g, cap, cur, fz, rfl, h1, h2, _⟩ := h
  intro k hk
  have e : g = k := by simpa [Value.ownBlock] using hk
  subst e
  exact ⟨h1, (Array.getElem?_eq_some_iff.1 h2).1⟩
theorem ByM.later {w w' : World} {N : Nat} {v : Value} {l : List UInt8} (h : ByM w N v l) (hb : Below w.heap.size w w') : ByM w' N v l := by
  obtain ⟨g, cap, cur, fz, rfl, h1, h2, h3⟩ := h
  exact ⟨g, cap, cur, fz, rfl, h1, (hb.block g (Array.getElem?_eq_some_iff.1 h2).1).trans h2, h3⟩
theorem ByM.shape {w : World} {N : Nat} {v : Value} {l : List UInt8} (h : ByM w N v l) : ∃ a c, v = .slice a l.length c := by
  obtain ⟨g, cap, cur, fz, rfl, _⟩ := h
  exact ⟨_, _, rfl⟩
theorem ByM.cells {w : World} {N : Nat} {v : Value} {l : List UInt8} (h : ByM w N v l) : ∃ g cap, v = .slice (some ⟨g, 0, none⟩) l.length cap ∧ ∀ j u, (Lib.byteCells l)[j]? = some u → w.cell? ((⟨g, 0, none⟩ : Addr).add j) = some u := by
  obtain ⟨g, cap, cur, fz, rfl, h1, h2, h3, h4, h5, h6, h7⟩ := h
  refine ⟨g, cap, rfl, fun j u hj => ?_⟩
  have hadd : (⟨g, 0, none⟩ : Addr).add j = ⟨g, j, none⟩ := by unfold Addr.add; split <;> simp_all
  rw [hadd, cell_of_row w g j cur 5 fz h2]
  rw [← h7, List.getElem?_take] at hj
  split at hj
  · simpa using hj
  · cases hj
theorem byM_conv (w : World) (N : Nat) (s : ByteArray) (hN : N ≤ w.heap.size) (hs : s.size ≤ 100000) : ∃ v w', (convert 9 98 (.string s)).run Tryz.prog w = .ok v w' ∧ ByM w' N v s.data.toList ∧ Below w.heap.size w w' := by
  have hsz : s.data.toList.length = s.size := Array.length_toList
  have hge := grownCap_ge w s.size 0 5
  have hz : (bytesRow s (grownCap w s.size 0 5)).size = grownCap w s.size 0 5 := by
    rw [bytesRow, Array.size_append, Array.size_map, Array.size_replicate]
    have : s.data.size = s.size := rfl
    omega
  refine ⟨_, _, run_bytes_of_string (P := Tryz.prog) w 9 98 5 s Tryz.underlying9 Tryz.underlying98 Tryz.underlying5, ⟨w.heap.size, grownCap w s.size 0 5, _, _, ?_, hN, heap_alloc_new w.drew _, ?_, ?_, ?_, ?_, ?_⟩, ?_⟩
  · rw [hsz]
  · rw [hsz]; exact hge
  · exact grownCap_le_maxLen w s.size 0 5 (by unfold maxLen; omega)
  · exact hz
  · intro j hj h
    simp only [hz] at h
    omega
  · rw [bytesRow, Array.toList_append, Array.toList_map, Lib.byteCells, List.take_left' (by simp)]
  · exact (below_drewN (Below.refl _ _) 1).alloc (Nat.le_refl _) _
section
variable {w : World} {N : Nat} {v : Value} {l : List UInt8}
theorem byM_new {w : World} {N : Nat} {l news : List UInt8} {old : Nat} (hN : N ≤ w.heap.size) (hl : l.length + news.length ≤ 100000) : ∀ row, ByM (w.drew.alloc (.cells ((Lib.byteCells l).toArray ++ (Lib.byteCells news).toArray ++ Builtin.zeroCells (Value.int .u8 0).cells (grownCap w (l.length + news.length) old 5 - (l.length + news.length))) 5)) N (.slice (some ⟨w.heap.size, 0, none⟩) (l.length + news.length) (grownCap w (l.length + news.length) old 5)) (l ++ news) ∧
    w.grownBy (w.drew.alloc (.cells ((Lib.byteCells l).toArray ++ (Lib.byteCells news).toArray ++ Builtin.zeroCells (Value.int .u8 0).cells (grownCap w (l.length + news.length) old 5 - (l.length + news.length))) 5)) row := by
  intro row
  have hge := grownCap_ge w (l.length + news.length) old 5
  have hcm := grownCap_le_maxLen w (l.length + news.length) old 5 (by unfold maxLen; omega)
  have hz1 : (Value.int IntKind.u8 0).cells.size = 1 := rfl
  refine ⟨⟨w.heap.size, _, _, (0, 0), by rw [List.length_append], hN, heap_alloc_new w.drew _, by rw [List.length_append]; exact hge, hcm, ?_, (fun j _ h => absurd h.2 (Nat.not_lt_zero _)), ?_⟩, ⟨rfl, rfl, rfl, by simp, fun k hk _ => heap_alloc_old w.drew _ hk⟩⟩
  · simp only [Array.size_append, List.size_toArray, size_zeroCells, hz1, Lib.byteCells_length]
    omega
  · simp only [Array.toList_append, List.append_assoc]
    rw [← List.append_assoc]
    have e : Lib.byteCells l ++ Lib.byteCells news = Lib.byteCells (l ++ news) := by simp [Lib.byteCells]
    rw [e, ← Lib.byteCells_length (l ++ news)]
    exact List.take_left
theorem one_byteCells (l : List UInt8) : ∀ u ∈ Lib.byteCells l, u.oneCell' = true := by
  intro u hu
  simp only [Lib.byteCells, List.mem_map] at hu
  obtain ⟨b, _, rfl⟩ := hu
  rfl
theorem byM_room (h : ByM w N v l) {news : List UInt8} (hl : l.length + news.length ≤ 100000) : (∃ g cap, v = .slice (some ⟨g, 0, none⟩) l.length cap ∧ l.length + news.length ≤ cap ∧ (storeCells ⟨g, l.length, none⟩ (Lib.byteCells news)).run Tryz.prog w = .ok () (w.setCells g l.length (Lib.byteCells news)) ∧
      ByM (w.setCells g l.length (Lib.byteCells news)) N (.slice (some ⟨g, 0, none⟩) (l.length + news.length) cap) (l ++ news) ∧ w.grownBy (w.setCells g l.length (Lib.byteCells news)) v.ownBlock) ∨
    ∃ g cap, v = .slice (some ⟨g, 0, none⟩) l.length cap ∧ cap < l.length + news.length := by
  obtain ⟨g, cap, cur, fz, rfl, h1, h2, h3, h4, h5, h6, h7⟩ := h
  by_cases hr : l.length + news.length ≤ cap
  · refine Or.inl ⟨g, cap, rfl, hr, ?_, ?_⟩
    · have hs := run_storeCells_cells (P := Tryz.prog) g l.length (Lib.byteCells news) 0 w (fun j hj => ?_) (fun j hj => ?_) (one_byteCells news)
      · simpa using hs
      · rw [Lib.byteCells_length] at hj
        rw [cell_of_row w g _ cur 5 fz h2, Array.getElem?_eq_getElem (by omega)]
        rfl
      · rw [Lib.byteCells_length] at hj
        have := h6 (l.length + j) (by omega)
        simp [World.frozen?, h2]
        intro h
        exact Nat.le_of_not_lt fun h9 => this ⟨h, h9⟩
    · obtain ⟨cur', g1, g2, g3, g4, g5, g6, g7, g8⟩ := setCells_heap g 5 fz (Lib.byteCells news) l.length w cur h2 (by rw [Lib.byteCells_length]; omega)
      refine ⟨⟨g, cap, cur', fz, by rw [List.length_append], h1, g1, by rw [List.length_append]; exact hr, h4, by omega, h6, ?_⟩, ⟨g6, g7, g8, by omega, fun k _ hk => g5 k fun e => hk (by simp [Value.ownBlock, e])⟩⟩
      rw [List.length_append, ← Lib.byteCells_length news, g3, h7]
      simp [Lib.byteCells]
  · exact Or.inr ⟨g, cap, rfl, by omega⟩
/-- Bytes behind bytes. -/
theorem app_byM (h : ByM w N v l) (hN : N ≤ w.heap.size) (ad : Addr) (c : Nat) (news : List UInt8) (hn : ∀ j u, (Lib.byteCells news)[j]? = some u → w.cell? (ad.add j) = some u) (hl : l.length + news.length ≤ 100000) :
    ∃ v' w', (Builtin.append_ #[98, 98] 98 #[v, .slice (some ad) news.length c]).run Tryz.prog w = .ok v' w' ∧ ByM w' N v' (l ++ news) ∧ w.grownBy w' v.ownBlock := by
  obtain ⟨i0, hi, hz, hz1, hz2⟩ := info_parts Tryz.infoByte
  have ht := Tryz.underlying98
  rcases byM_room h hl with ⟨g, cap, rfl, hr, hst, hb, hg⟩ | ⟨g, cap, rfl, hr⟩
  · refine ⟨_, _, ?_, hb, hg⟩
    have hf := run_firstCells_some (P := Tryz.prog) w 1 news.length ad news.length c (Lib.byteCells news) (by rw [Lib.byteCells_length]; omega) hn
    simp [Builtin.append_, run_underlying ht, sizeOf, typeInfo, hi, hz1, Builtin.lenOf, hr, hf, Addr.add_lit, hst]
  · obtain ⟨g', cap', e, hc⟩ := h.cells
    cases e
    have hgr := byM_new (old := cap) (news := news) (l := l) hN hl (Value.ownBlock (.slice (some ⟨g, 0, none⟩) l.length cap))
    refine ⟨_, _, ?_, hgr.1, hgr.2⟩
    exact run_append_grow (P := Tryz.prog) w 98 98 5 i0 (.int .u8 0) ht hi hz ⟨g, 0, none⟩ l.length cap (Lib.byteCells l) (by rw [hz1, Lib.byteCells_length]; omega) hc ad news.length c (Lib.byteCells news) (by rw [hz1, Lib.byteCells_length]; omega) hn hr (by omega) (by rw [hz2]; exact growslice_fits (by omega) (by omega))
/-- A text behind bytes. -/
theorem app_byS (h : ByM w N v l) (hN : N ≤ w.heap.size) (s : ByteArray) (hl : l.length + s.size ≤ 100000) :
    ∃ v' w', (Builtin.append_ #[98, 9] 98 #[v, .string s]).run Tryz.prog w = .ok v' w' ∧ ByM w' N v' (l ++ s.data.toList) ∧ w.grownBy w' v.ownBlock := by
  obtain ⟨i0, hi, hz, hz1, hz2⟩ := info_parts Tryz.infoByte
  have ht := Tryz.underlying98
  have hu := Tryz.underlying9
  have hsz : s.data.toList.length = s.size := Array.length_toList
  have hsc : Lib.strCells s = Lib.byteCells s.data.toList := rfl
  rcases byM_room (news := s.data.toList) h (by rw [hsz]; exact hl) with ⟨g, cap, rfl, hr, hst, hb, hg⟩ | ⟨g, cap, rfl, hr⟩
  · rw [hsz] at hr hb
    refine ⟨_, _, ?_, hb, hg⟩
    have hf := Lib.run_firstCells_string (P := Tryz.prog) w 1 s
    rw [hsc] at hf
    simp [Builtin.append_, run_underlying ht, run_underlying hu, sizeOf, typeInfo, hi, hz1, Builtin.lenOf, hr, hf, Addr.add_lit, hst]
  · rw [hsz] at hr
    obtain ⟨g', cap', e, hc⟩ := h.cells
    cases e
    have hgr := byM_new (old := cap) (news := s.data.toList) (l := l) hN (by rw [hsz]; exact hl) (Value.ownBlock (.slice (some ⟨g, 0, none⟩) l.length cap))
    rw [hsz] at hgr
    refine ⟨_, _, ?_, hgr.1, hgr.2⟩
    exact Lib.run_append_grow_string (P := Tryz.prog) w 98 9 98 5 i0 (.int .u8 0) ht hu hi hz ⟨g, 0, none⟩ l.length cap (Lib.byteCells l) (by rw [hz1, Lib.byteCells_length]; omega) hc s hr (by omega) (by rw [hz2]; exact growslice_fits (by omega) (by omega))
end
end Go.Proofs.YtdmaijmglblccaaGreatDoor

/- The tree that a lambda term is, and how it lies in memory. -/
namespace Go.Proofs.YtdmaijmglblccaaGreatDoor
open Go.RowKit

/-- A lambda term as a tree. -/
structure Lm where
  kind : Int
  idx : Int
  subs : List Lm

theorem Lm.ind {P : Lm → Prop} (h : ∀ k x l, (∀ y ∈ l, P y) → P ⟨k, x, l⟩) (t : Lm) : P t :=
  Lm.rec (motive_1 := P) (motive_2 := fun l => ∀ x ∈ l, P x) (fun k x l ih => h k x l ih) (fun x hx => by cases hx)
    (fun a l ha hl x hx => by
      rcases List.mem_cons.1 hx with e | e
      · subst e; exact ha
      · exact hl x e) t

theorem Lm.indL {P : List Lm → Prop} (h0 : P []) (h : ∀ k x l r, P l → P r → P (⟨k, x, l⟩ :: r)) (l : List Lm) : P l :=
  Lm.rec_1 (motive_1 := fun t => P t.subs) (motive_2 := P) (fun _ _ _ ih => ih) h0 (fun a l ha hl => by obtain ⟨k, x, m⟩ := a; exact h k x m l ha hl) l

/-- A list of lambda terms lies in a row of cells, three a term, in blocks that X lets. -/
def LiesM (w : World) (X : Nat → Prop) : Nat → Nat → List Lm → Prop
  | _, _, [] => True
  | b, o, ⟨k, x, l⟩ :: r => X b ∧ w.cell? ⟨b, o, none⟩ = some (.int .i64 k) ∧ w.cell? ⟨b, o + 1, none⟩ = some (.int .i64 x) ∧
      (∃ a c, w.cell? ⟨b, o + 2, none⟩ = some (.slice a l.length c) ∧ l.length ≤ 9223372036854775807 ∧ (l = [] ∨ ∃ b' o', a = some ⟨b', o', none⟩ ∧ LiesM w X b' o' l)) ∧ LiesM w X b (o + 3) r

/-- What a slice of lambda terms holds. -/
def SlM (w : World) (X : Nat → Prop) (a : Option Addr) (l : List Lm) : Prop := l.length ≤ 9223372036854775807 ∧ (l = [] ∨ ∃ b o, a = some ⟨b, o, none⟩ ∧ LiesM w X b o l)

/-- What a lambda term's value holds. -/
def MV (w : World) (X : Nat → Prop) (v : Value) (t : Lm) : Prop := ∃ a c, v = .agg #[.int .i64 t.kind, .int .i64 t.idx, .slice a t.subs.length c] ∧ SlM w X a t.subs

theorem liesM_kept {w w' : World} {X : Nat → Prop} (h : ∀ b, X b → w'.heap[b]? = w.heap[b]?) (l : List Lm) : ∀ b o, LiesM w X b o l → LiesM w' X b o l := by
  induction l using Lm.indL with
  | h0 => intro b o _; simp [LiesM]
  | h k x l r ihl ihr =>
    intro b o hl
    simp only [LiesM] at hl ⊢
    obtain ⟨hx, h1, h1', ⟨a, c, h2, h2', h3⟩, h4⟩ := hl
    refine ⟨hx, by rw [World.cell?_of_block (h b hx)]; exact h1, by rw [World.cell?_of_block (h b hx)]; exact h1', ⟨a, c, by rw [World.cell?_of_block (h b hx)]; exact h2, h2', ?_⟩, ihr _ _ h4⟩
    rcases h3 with h3 | ⟨b', o', h3, h5⟩
    · exact Or.inl h3
    · exact Or.inr ⟨b', o', h3, ihl _ _ h5⟩

theorem liesM_mono {w : World} {X Y : Nat → Prop} (h : ∀ b, X b → b < w.heap.size → Y b) (l : List Lm) : ∀ b o, LiesM w X b o l → LiesM w Y b o l := by
  induction l using Lm.indL with
  | h0 => intro b o _; simp [LiesM]
  | h k x l r ihl ihr =>
    intro b o hl
    simp only [LiesM] at hl ⊢
    obtain ⟨hx, h1, h1', ⟨a, c, h2, h2', h3⟩, h4⟩ := hl
    have hb : b < w.heap.size := by
      apply Classical.byContradiction
      intro hn
      have e : w.heap[b]? = none := Array.getElem?_eq_none (by omega)
      simp [World.cell?, e] at h1
    refine ⟨h b hx hb, h1, h1', ⟨a, c, h2, h2', ?_⟩, ihr _ _ h4⟩
    rcases h3 with h3 | ⟨b', o', h3, h5⟩
    · exact Or.inl h3
    · exact Or.inr ⟨b', o', h3, ihl _ _ h5⟩
theorem SlM.kept {w w' : World} {X : Nat → Prop} {a : Option Addr} {l : List Lm} (h : SlM w X a l) (hk : ∀ b, X b → w'.heap[b]? = w.heap[b]?) : SlM w' X a l := by
  obtain ⟨hl, h⟩ := h
  refine ⟨hl, ?_⟩
  rcases h with h | ⟨b, o, e, h⟩
  · exact Or.inl h
  · exact Or.inr ⟨b, o, e, liesM_kept hk _ _ _ h⟩

theorem SlM.mono {w : World} {X Y : Nat → Prop} {a : Option Addr} {l : List Lm} (h : SlM w X a l) (hk : ∀ b, X b → b < w.heap.size → Y b) : SlM w Y a l := by
  obtain ⟨hl, h⟩ := h
  refine ⟨hl, ?_⟩
  rcases h with h | ⟨b, o, e, h⟩
  · exact Or.inl h
  · exact Or.inr ⟨b, o, e, liesM_mono hk _ _ _ h⟩

theorem SlM.below {w w' : World} {X : Nat → Prop} {a : Option Addr} {l : List Lm} {B : Nat} (h : SlM w X a l) (hb : Below B w w') (hX : ∀ b, X b → b < w.heap.size → b < B) : SlM w' X a l := by
  have h1 : SlM w (fun b => X b ∧ b < B) a l := h.mono fun b hx hs => ⟨hx, hX b hx hs⟩
  have h2 : SlM w' (fun b => X b ∧ b < B) a l := h1.kept fun b hx => hb.block b hx.2
  exact h2.mono fun b hx _ => hx.1

theorem MV.kept {w w' : World} {X : Nat → Prop} {v : Value} {t : Lm} (h : MV w X v t) (hk : ∀ b, X b → w'.heap[b]? = w.heap[b]?) : MV w' X v t := by
  obtain ⟨a, c, e, h⟩ := h
  exact ⟨a, c, e, h.kept hk⟩

theorem MV.mono {w : World} {X Y : Nat → Prop} {v : Value} {t : Lm} (h : MV w X v t) (hk : ∀ b, X b → b < w.heap.size → Y b) : MV w Y v t := by
  obtain ⟨a, c, e, h⟩ := h
  exact ⟨a, c, e, h.mono hk⟩

theorem MV.below {w w' : World} {X : Nat → Prop} {v : Value} {t : Lm} {B : Nat} (h : MV w X v t) (hb : Below B w w') (hX : ∀ b, X b → b < w.heap.size → b < B) : MV w' X v t := by
  obtain ⟨a, c, e, h⟩ := h
  exact ⟨a, c, e, h.below hb hX⟩

theorem MV.alloc {w : World} {X : Nat → Prop} {v : Value} {t : Lm} (h : MV w X v t) (o : Obj) : MV (w.alloc o) X v t :=
  h.below ((Below.refl _ _).alloc (Nat.le_refl _) o) (fun _ _ h => h)

theorem MV.later {w w' : World} {X : Nat → Prop} {v : Value} {t : Lm} (h : MV w X v t) (hb : Below w.heap.size w w') : MV w' X v t := h.below hb (fun _ _ h => h)

theorem SlM.later {w w' : World} {X : Nat → Prop} {a : Option Addr} {l : List Lm} (h : SlM w X a l) (hb : Below w.heap.size w w') : SlM w' X a l := h.below hb (fun _ _ h => h)

/-- One of a row. -/
theorem liesM_get {w : World} {X : Nat → Prop} : ∀ (l : List Lm) (b o : Nat), LiesM w X b o l → ∀ i (h : i < l.length),
    X b ∧ w.cell? ⟨b, o + i * 3, none⟩ = some (.int .i64 l[i].kind) ∧ w.cell? ⟨b, o + i * 3 + 1, none⟩ = some (.int .i64 l[i].idx) ∧ ∃ a c, w.cell? ⟨b, o + i * 3 + 2, none⟩ = some (.slice a l[i].subs.length c) ∧ SlM w X a l[i].subs := by
  intro l
  induction l with
  | nil => intro b o _ i h; simp at h
  | cons t r ih =>
    intro b o hl i h
    obtain ⟨s, x, k⟩ := t
    simp only [LiesM] at hl
    obtain ⟨hx, h1, h1', ⟨a, c, h2, h3⟩, h4⟩ := hl
    cases i with
    | zero => exact ⟨hx, h1, h1', a, c, h2, h3⟩
    | succ i =>
      have := ih b (o + 3) h4 i (by simpa using h)
      simp only [List.getElem_cons_succ]
      rw [show o + (i + 1) * 3 = o + 3 + i * 3 by omega]
      exact this

/-- One of a slice, in a later world. -/
theorem SlM.get {w wr : World} {X : Nat → Prop} {a : Option Addr} {l : List Lm} {B : Nat} (h : SlM w X a l) (hb : Below B w wr) (hX : ∀ b, X b → b < w.heap.size → b < B) (k : Nat) (hk : k < l.length) :
    ∃ b o a' c', a = some ⟨b, o, none⟩ ∧ wr.cell? ⟨b, o + k * 3, none⟩ = some (.int .i64 l[k].kind) ∧ wr.cell? ⟨b, o + k * 3 + 1, none⟩ = some (.int .i64 l[k].idx) ∧ wr.cell? ⟨b, o + k * 3 + 2, none⟩ = some (.slice a' l[k].subs.length c') ∧ MV wr X (.agg #[.int .i64 l[k].kind, .int .i64 l[k].idx, .slice a' l[k].subs.length c']) l[k] := by
  have h' := h.below hb hX
  obtain ⟨_, h1⟩ := h'
  rcases h1 with h1 | ⟨b, o, e, h1⟩
  · subst h1; simp at hk
  · obtain ⟨_, h2, h2', a', c', h3, h4⟩ := liesM_get _ _ _ h1 k hk
    exact ⟨b, o, a', c', e, h2, h2', h3, a', c', rfl, h4⟩
end Go.Proofs.YtdmaijmglblccaaGreatDoor


/- Walks: how many knots a lambda term has. -/
namespace Go.Proofs.YtdmaijmglblccaaGreatDoor
open Go.RowKit
set_option linter.unusedSimpArgs false
set_option linter.unusedVariables false

end Go.Proofs.YtdmaijmglblccaaGreatDoor


/- Walks: may a lambda term be? -/
namespace Go.Proofs.YtdmaijmglblccaaGreatDoor
open Go.RowKit
set_option linter.unusedSimpArgs false
set_option linter.unusedVariables false
set_option maxRecDepth 8000

end Go.Proofs.YtdmaijmglblccaaGreatDoor

/- The text of a lambda term. -/
namespace Go.Proofs.YtdmaijmglblccaaGreatDoor

end Go.Proofs.YtdmaijmglblccaaGreatDoor


/- Walks: a number's decimals, as the document writes them. -/
namespace Go.Proofs.YtdmaijmglblccaaGreatDoor
open Go.RowKit
set_option linter.unusedSimpArgs false
set_option linter.unusedVariables false
set_option maxRecDepth 8000

end Go.Proofs.YtdmaijmglblccaaGreatDoor


/- Walks: names from outside, by the program and by the document. -/
namespace Go.Proofs.YtdmaijmglblccaaGreatDoor
open Go.RowKit
set_option linter.unusedSimpArgs false
set_option linter.unusedVariables false
set_option maxRecDepth 8000

end Go.Proofs.YtdmaijmglblccaaGreatDoor


/- Walks: writing into a Builder that is part of a writer, with all else as it was. -/
namespace Go.Proofs.YtdmaijmglblccaaGreatDoor
open Go.RowKit
set_option linter.unusedSimpArgs false
set_option linter.unusedVariables false

end Go.Proofs.YtdmaijmglblccaaGreatDoor

/- Rows of lambda terms. -/
namespace Go.Proofs.YtdmaijmglblccaaGreatDoor
open Go.RowKit
set_option linter.unusedSimpArgs false
set_option linter.unusedVariables false

/-- These cells are these lambda terms. -/
def RowTM (w : World) (X : Nat → Prop) : List Lm → List Value → Prop
  | [], xs => xs = []
  | t :: l, xs => ∃ a c r, xs = .int .i64 t.kind :: .int .i64 t.idx :: .slice a t.subs.length c :: r ∧ SlM w X a t.subs ∧ RowTM w X l r
theorem RowTM.len {w : World} {X : Nat → Prop} : ∀ {l : List Lm} {xs : List Value}, RowTM w X l xs → xs.length = l.length * 3
  | [], xs, h => by simp [RowTM] at h; simp [h]
  | t :: l, xs, h => by
    obtain ⟨a, c, r, rfl, _, h⟩ := h
    simp only [List.length_cons]
    rw [RowTM.len h]; omega
theorem RowTM.append {w : World} {X : Nat → Prop} : ∀ {l k : List Lm} {xs ys : List Value}, RowTM w X l xs → RowTM w X k ys → RowTM w X (l ++ k) (xs ++ ys)
  | [], k, xs, ys, h, h' => by simp [RowTM] at h; subst h; simpa using h'
  | t :: l, k, xs, ys, h, h' => by
    obtain ⟨a, c, r, rfl, hs, h⟩ := h
    exact ⟨a, c, r ++ ys, rfl, hs, RowTM.append h h'⟩
theorem RowTM.imp {w w' : World} {X Y : Nat → Prop} (hs : ∀ a l, SlM w X a l → SlM w' Y a l) : ∀ {l : List Lm} {xs : List Value}, RowTM w X l xs → RowTM w' Y l xs
  | [], xs, h => h
  | t :: l, xs, h => by
    obtain ⟨a, c, r, e, h1, h⟩ := h
    exact ⟨a, c, r, e, hs _ _ h1, RowTM.imp hs h⟩
theorem liesM_of_row {w w' : World} {X Y : Nat → Prop} (b : Nat) (hb : Y b) : ∀ (l : List Lm) (xs : List Value) (o : Nat), RowTM w X l xs → (∀ a k, SlM w X a k → SlM w' Y a k) → (∀ j u, xs[j]? = some u → w'.cell? ⟨b, o + j, none⟩ = some u) → LiesM w' Y b o l := by
  intro l
  induction l with
  | nil => intro xs o _ _ _; simp [LiesM]
  | cons t r ih =>
    intro xs o h hs hc
    obtain ⟨s, x, k⟩ := t
    obtain ⟨a, c, r', rfl, h1, h2⟩ := h
    simp only [LiesM]
    obtain ⟨h3, h4⟩ := hs _ _ h1
    refine ⟨hb, hc 0 _ rfl, hc 1 _ rfl, ⟨a, c, hc 2 _ rfl, h3, h4⟩, ih r' (o + 3) h2 hs fun j u hj => ?_⟩
    have := hc (j + 3) u (by simpa using hj)
    rwa [show o + (j + 3) = o + 3 + j by omega] at this

/-- The row so far, apart from what its terms are made of: old memory that Y lets, and new memory. -/
structure RowM (w : World) (N : Nat) (T : Nat) (Y : Nat → Prop) (v : Value) (l : List Lm) (xs : List Value) : Prop where
  own : w.ownsRow N T 3 v l.length xs
  row : RowTM w (fun b => Y b ∨ (N ≤ b ∧ some b ≠ v.ownBlock)) l xs

theorem RowM.start (w : World) (N T : Nat) (Y : Nat → Prop) : RowM w N T Y (.slice none 0 0) [] [] := ⟨World.ownsRow_nil w N T 3, rfl⟩

theorem RowM.below {w w' : World} {N T : Nat} {Y : Nat → Prop} {v : Value} {l : List Lm} {xs : List Value} (h : RowM w N T Y v l xs) (hb : Below w.heap.size w w') : RowM w' N T Y v l xs :=
  ⟨h.own.kept (w' := w') (row := none) ⟨hb.os, hb.tape, hb.output, hb.size, fun j hj _ => hb.block j hj⟩ (by rcases Option.eq_none_or_eq_some (Value.ownBlock v) with h | ⟨x, h⟩; exact Or.inl h; exact Or.inr (by rw [h]; simp)),
   h.row.imp fun a l h => h.later hb⟩

theorem RowM.ne {w : World} {N T : Nat} {Y : Nat → Prop} {v : Value} {l : List Lm} {xs : List Value} (h : RowM w N T Y v l xs) {b : Nat} (hb : b < N) : some b ≠ v.ownBlock := fun e => by
  have := (h.own.lt b e.symm).1; omega

/-- One more: the term's cells have been laid into a block of their own, and appended. -/
theorem RowM.push {w w1 w2 w3 : World} {N T : Nat} {Y : Nat → Prop} {v : Value} {l : List Lm} {xs : List Value} (h : RowM w N T Y v l xs) (hN : N ≤ w.heap.size) (hY : ∀ b, Y b → b < N) (hb : Below w.heap.size w w1) {s s2 : Int} {a : Option Addr} {n c : Nat} {t : Lm}
    (ht : MV w1 (fun b => Y b ∨ w.heap.size ≤ b) (.agg #[.int .i64 s, .int .i64 s2, .slice a n c]) t) (o : Obj) (hw2 : w2 = w1.alloc o) {g cap : Nat}
    (hown : w3.ownsRow N T 3 (.slice (some ⟨g, 0, none⟩) (l.length + 1) cap) (l.length + 1) (xs ++ [.int .i64 s, .int .i64 s2, .slice a n c])) (hg : w2.grownBy w3 v.ownBlock) (hg1 : v.ownBlock = some g ∨ g = w2.heap.size) :
    RowM w3 N T Y (.slice (some ⟨g, 0, none⟩) (l.length + 1) cap) (l ++ [t]) (xs ++ [.int .i64 s, .int .i64 s2, .slice a n c]) := by
  subst hw2
  have hlt := h.own.lt
  refine ⟨by simpa using hown, ?_⟩
  have hsz : w1.heap.size ≤ (w1.alloc o).heap.size := by simp
  have hbs := hb.size
  have hgN : N ≤ g := by
    rcases hg1 with e | e
    · exact (hlt g e).1
    · simp at e; omega
  refine RowTM.append (h.row.imp fun a' k' hs => ?_) ?_
  · have h1 : SlM w (fun b => (Y b ∨ (N ≤ b ∧ some b ≠ v.ownBlock)) ∧ b < w.heap.size) a' k' := hs.mono fun b h1 h2 => ⟨h1, h2⟩
    have h2 : SlM w3 (fun b => (Y b ∨ (N ≤ b ∧ some b ≠ v.ownBlock)) ∧ b < w.heap.size) a' k' := h1.kept fun b hx => by
      have hne : some b ≠ v.ownBlock := by
        rcases hx.1 with hy | hy
        · exact h.ne (hY b hy)
        · exact hy.2
      rw [hg.block b (by simp; omega) hne, Below.heap_alloc _ _ _ (by omega), hb.block b hx.2]
    refine h2.mono fun b hx _ => ?_
    rcases hx.1 with hy | hy
    · exact Or.inl hy
    · refine Or.inr ⟨hy.1, fun e => ?_⟩
      simp [Value.ownBlock] at e
      rcases hg1 with e' | e'
      · exact hy.2 (by rw [e', e])
      · simp at e'; omega
  · obtain ⟨a2, c2, e, hs⟩ := ht
    simp at e
    obtain ⟨rfl, rfl, rfl, rfl, rfl⟩ := e
    refine ⟨a, c, [], rfl, ?_, rfl⟩
    have h1 : SlM w1 (fun b => (Y b ∨ w.heap.size ≤ b) ∧ b < w1.heap.size) a t.subs := hs.mono fun b h1 h2 => ⟨h1, h2⟩
    have h2 : SlM w3 (fun b => (Y b ∨ w.heap.size ≤ b) ∧ b < w1.heap.size) a t.subs := h1.kept fun b hx => by
      have hne : some b ≠ v.ownBlock := by
        rcases hx.1 with hy | hy
        · exact h.ne (hY b hy)
        · intro e; have := (hlt b e.symm).2; omega
      rw [hg.block b (by simp; omega) hne, Below.heap_alloc _ _ _ hx.2]
    refine h2.mono fun b hx _ => ?_
    rcases hx.1 with hy | hy
    · exact Or.inl hy
    · refine Or.inr ⟨by omega, fun e => ?_⟩
      simp [Value.ownBlock] at e
      rcases hg1 with e' | e'
      · have := (hlt g e').2; omega
      · simp at e'; omega

/-- A store into a block that is none of the row's. -/
theorem RowM.setCell {w : World} {N T : Nat} {Y : Nat → Prop} {v : Value} {l : List Lm} {xs : List Value} (h : RowM w N T Y v l xs) {b i : Nat} (hb : b < N) (hY : ¬ Y b) (u : Value) : RowM (w.setCell ⟨b, i, none⟩ u) N T Y v l xs :=
  ⟨ownsRow_setCell_below h.own (by simpa using hb) u, h.row.imp fun a k hs => hs.kept fun c hc => Below.heap_setCell _ _ _ _ (by
    simp
    rcases hc with hc | hc
    · intro e; subst e; exact hY hc
    · omega)⟩

theorem RowM.sl {w : World} {N T : Nat} {Y : Nat → Prop} {v : Value} {l : List Lm} {xs : List Value} (h : RowM w N T Y v l xs) : ∃ a c, v = .slice a l.length c ∧ SlM w (fun b => Y b ∨ N ≤ b) a l := by
  have hml : l.length ≤ 9223372036854775807 := by
    rcases h.own.2 with ⟨_, h0⟩ | ⟨g, cap, cur, _, _, _, h1, h2, _⟩
    · omega
    · unfold maxLen at h2; omega
  by_cases h0 : 0 < l.length
  · obtain ⟨g, cap, rfl, hg, hlt, hc⟩ := owned_val h.own h0
    exact ⟨_, _, rfl, hml, Or.inr ⟨g, 0, rfl, liesM_of_row g (Or.inr hg) l xs 0 h.row (fun a k hs => hs.mono fun b hb _ => hb.imp id (fun h => h.1)) (fun j u hj => by simpa using hc j u hj)⟩⟩
  · have e : l = [] := List.length_eq_zero_iff.1 (by omega)
    subst e
    rcases h.own.2 with ⟨hv, _⟩ | ⟨g, cap, cur, hv, _⟩
    · exact ⟨none, 0, hv, hml, Or.inl rfl⟩
    · exact ⟨_, _, hv, hml, Or.inl rfl⟩

end Go.Proofs.YtdmaijmglblccaaGreatDoor


/- Walks: may a lambda term be, as the document says. -/
namespace Go.Proofs.YtdmaijmglblccaaGreatDoor
open Go.RowKit
set_option linter.unusedSimpArgs false
set_option linter.unusedVariables false
set_option maxRecDepth 8000

end Go.Proofs.YtdmaijmglblccaaGreatDoor


/- What a round that appends a lambda term does. -/
namespace Go.Proofs.YtdmaijmglblccaaGreatDoor
open Go.RowKit
set_option linter.unusedSimpArgs false
set_option linter.unusedVariables false
set_option maxRecDepth 8000

end Go.Proofs.YtdmaijmglblccaaGreatDoor

/- Lambda terms: what is bound from outside is moved; a term is put in (plain). -/
namespace Go.Proofs.YtdmaijmglblccaaGreatDoor
open Go.RowKit
set_option linter.unusedSimpArgs false
set_option linter.unusedVariables false
set_option maxRecDepth 8000

/-- No number is great. -/
def BndM : List Lm → Prop
  | [] => True
  | ⟨_, x, l⟩ :: r => (0 ≤ x ∧ x ≤ 100000) ∧ BndM l ∧ BndM r
theorem BndM_nil : BndM [] := by simp [BndM]
theorem BndM_cons (k x : Int) (l r : List Lm) : BndM (⟨k, x, l⟩ :: r) ↔ (0 ≤ x ∧ x ≤ 100000) ∧ BndM l ∧ BndM r := by simp [BndM]
theorem BndM.at : ∀ {l : List Lm} (k : Nat) (h : k < l.length), BndM l → BndM [l[k]]
  | [], k, h, _ => by simp at h
  | ⟨s, x, l⟩ :: r, 0, h, hb => by
    rw [BndM_cons] at hb
    exact (BndM_cons s x l []).2 ⟨hb.1, hb.2.1, BndM_nil⟩
  | ⟨s, x, l⟩ :: r, k + 1, h, hb => by
    rw [BndM_cons] at hb
    have := BndM.at (l := r) k (by simpa using h) hb.2.2
    simpa using this
end Go.Proofs.YtdmaijmglblccaaGreatDoor


/- Walks: what is bound from outside is moved, as the document says. -/
namespace Go.Proofs.YtdmaijmglblccaaGreatDoor
open Go.RowKit
set_option linter.unusedSimpArgs false
set_option linter.unusedVariables false
set_option maxRecDepth 8000

end Go.Proofs.YtdmaijmglblccaaGreatDoor


/- Walks: the text of a lambda term, as the document writes it. -/
namespace Go.Proofs.YtdmaijmglblccaaGreatDoor
open Go.RowKit
set_option linter.unusedSimpArgs false
set_option linter.unusedVariables false
set_option maxRecDepth 8000

end Go.Proofs.YtdmaijmglblccaaGreatDoor


/- Walks: the text of a lambda term, as the program writes it. -/
namespace Go.Proofs.YtdmaijmglblccaaGreatDoor
open Go.RowKit
set_option linter.unusedSimpArgs false
set_option linter.unusedVariables false
set_option maxRecDepth 8000

/-- The library's table of powers, whatever is done from block B on. -/
def Tb (B : Nat) (w : World) : Prop := Lib.TabBelow Tryz.prog B w "internal/strconv.uint64pow10" .u64 Lib.pow10Tab
theorem Tb.on {B : Nat} {w w1 : World} (h : Tb B w) (hb : Below B w w1) : Tb B w1 := Lib.TabBelow.on h hb
theorem MV.bfr {w w' : World} {X : Nat → Prop} {v : Value} {t : Lm} {B : Nat} (h : MV w X v t) (hb : Below B w w') (hX : ∀ x, X x → x < B) : MV w' X v t := h.below hb (fun b hb _ => hX b hb)
theorem LV.bfr {w w' : World} {Y : Nat → Prop} {v : Value} {l : List ByteArray} {B : Nat} (h : LV Value.string w Y v l) (hb : Below B w w') (hX : ∀ x, Y x → x < B) : LV Value.string w' Y v l := h.below hb (fun b hb _ => hX b hb)
end Go.Proofs.YtdmaijmglblccaaGreatDoor

/- Walks: a number's digits behind bytes (strconv.AppendInt). -/
namespace Go.Proofs.YtdmaijmglblccaaGreatDoor
open Go.RowKit Go.Sort Go.Lib
set_option linter.unusedSimpArgs false
set_option linter.unusedVariables false
set_option maxRecDepth 8000

/-- Bytes with digits behind them. -/
def AiP (N : Nat) (l : List UInt8) (u : Nat) (w : World) (e : Ending) (w' : World) : Prop := ∃ v', e = .returned v' ∧ ByM w' N v' (l ++ Lib.decDigits u) ∧ Below N w w'
theorem dig_size (u : Nat) : (⟨(Lib.decDigits u).toArray⟩ : ByteArray).size = (Lib.decDigits u).length := by simp [ByteArray.size]
set_option maxHeartbeats 4000000 in
theorem appUint_small (N : Nat) (l : List UInt8) (u : Nat) (hu : u < 100) (v : Value) (w : World) (h : ByM w N v l) (hN : N ≤ w.heap.size) (hl : l.length ≤ 90000) :
    Calls Tryz.prog 114 #[v, .int .u64 (u : Int), .int .i64 10] w (AiP N l u w) := by
  have hlen : (Lib.decDigits u).length ≤ 20 := by
    rw [Lib.decDigits_length]
    by_cases h10 : u < 10
    · rw [Lib.nDigits_small h10]; omega
    · rw [Lib.nDigits_big h10, Lib.nDigits_small (show u / 10 < 10 by omega)]; omega
  obtain ⟨v', w', hr, hb, hg⟩ := app_byS h hN ⟨(Lib.decDigits u).toArray⟩ (by rw [dig_size]; omega)
  have HR := hide hr
  have HB := hide hb
  have HG : Hid (Below N w w') := (Below.refl N w).grown hg hN fun k hk => (h.lt k hk).1
  have hui : (u : Int) < 100 := by omega
  obtain ⟨a, c, rfl⟩ := h.shape
  clear hr hb hg h hlen
  go_enter Tryz.func114, Tryz.ntmps114
  go_wp2_with fail
  refine (Tryz.internal_strconv_small u hu _).mono ?_
  rintro e w1 ⟨rfl, rfl⟩
  go_wp2_with (at_builtin; refine wpList_append_eq rfl _ _ _ _ rfl rfl rfl HR.out ?_)
  go_ret
  exact ⟨v', rfl, by simpa using HB.out, HG.out⟩
set_option maxHeartbeats 8000000 in
theorem appUint_big (N : Nat) (l : List UInt8) (u : Nat) (hu : 100 ≤ u) (hu2 : u < 100000) (v : Value) (w : World) (h : ByM w N v l) (hN : N ≤ w.heap.size) (hl : l.length ≤ 90000) (hT : Tb N w) :
    Calls Tryz.prog 114 #[v, .int .u64 (u : Int), .int .i64 10] w (AiP N l u w) := by
  have hu1 : 1 ≤ u := by omega
  have hu64 : u < 18446744073709551616 := by omega
  have hnd20 : Lib.nDigits u ≤ 20 := by have := Lib.numDigits_eq u hu1 hu64; split at this <;> omega
  have hal : Tryz.prog.arrayLen 150 = 24 := by kernel_rfl
  have hsl : ∀ W, (Instr.sliceAt 150 (.pointer (some ⟨w.heap.size, 0, none⟩)) none (some (.int .i64 (Lib.nDigits u : Int))) none).run Tryz.prog W = .ok (.slice (some ⟨w.heap.size, 0, none⟩) (Lib.nDigits u) 24) W := fun W => by
    rw [run_sliceAt_array_h W 150 ⟨w.heap.size, 0, none⟩ (by kernel_rfl) .i64 (Lib.nDigits u : Int) (by omega) (by rw [hal]; omega)]
    go_simp
  have hH0 := Lib.holds_zero0 w 150 (Lib.nDigits u) (by omega)
  have hfmt := Tryz.internal_strconv_formatBase10 w.heap.size 0 24 u (Array.replicate (Lib.nDigits u) 0) (w.alloc (.cells Lib.zeros24 150)) hH0 (by rw [Array.size_replicate]; exact Lib.lt_pow_nDigits u) hu64 (by rw [Array.size_replicate]; omega)
  rw [Array.size_replicate] at hfmt
  have HH0 := hide hH0
  have HF := hide hfmt
  have HBY := hide h
  have iu : ¬ (u : Int) < 100 := by omega
  obtain ⟨a, c, rfl⟩ := h.shape
  clear hH0 hal hfmt h
  go_enter Tryz.func114, Tryz.ntmps114
  go_wp2_with fail
  refine (Tryz.internal_strconv_numDigits u hu1 hu64 _ (Lib.tabIs_alloc hT.here _)).mono ?_
  rintro e w' ⟨rfl, rfl⟩
  go_wp2_with fail
  refine HF.out.mono ?_
  rintro e w' ⟨rfl, k, v', dk, rfl, hF⟩
  have hcells : ∀ j u', (Lib.byteCells (Lib.decDigits u))[j]? = some u' → ((putRow (fun (b : UInt8) => Value.int .u8 (b.toNat : Int)) (w.alloc (.cells Lib.zeros24 150)) w.heap.size 0 dk).drewN k).cell? ((⟨w.heap.size, 0, none⟩ : Addr).add j) = some u' := by
    intro j u' hj
    have hjl : j < (Lib.decDigits u).length := by
      have h5 := (List.getElem?_eq_some_iff.1 hj).1
      rwa [Lib.byteCells_length] at h5
    have e5 : (Lib.byteCells (Lib.decDigits u))[j]? = some (Value.int .u8 ((Lib.decDigits u)[j].toNat : Int)) := by simp [Lib.byteCells, hjl]
    rw [e5] at hj
    cases hj
    rw [Lib.row_is_numeral hF j hjl, Lib.add_plain, World.cell?_drewN]
    exact cell?_putRow (fun (b : UInt8) => Value.int .u8 (b.toNat : Int)) _ w.heap.size 0 _ dk HH0.out (by rw [hF.size, Array.size_replicate]) j (by rw [hF.size]; rw [Lib.decDigits_length] at hjl; exact hjl)
  obtain ⟨os, eo⟩ := Lib.fin_at w (.cells Lib.zeros24 150) dk k 0
  have hnx : Below w.heap.size w ((putRow (fun (b : UInt8) => Value.int .u8 (b.toNat : Int)) (w.alloc (.cells Lib.zeros24 150)) w.heap.size 0 dk).drewN k) := by rw [eo]; exact Lib.below_grow w.heap.size w (Nat.le_refl _) k os
  generalize (putRow (fun (b : UInt8) => Value.int .u8 (b.toNat : Int)) (w.alloc (.cells Lib.zeros24 150)) w.heap.size 0 dk).drewN k = W2 at hcells hnx ⊢
  have h2 := HBY.out.later hnx
  obtain ⟨v2, w3, hr, hb, hg⟩ := app_byM h2 (Nat.le_trans hN hnx.size) ⟨w.heap.size, 0, none⟩ 24 (Lib.decDigits u) hcells (by rw [Lib.decDigits_length]; omega)
  rw [Lib.decDigits_length] at hr
  have HR := hide hr
  have HB := hide hb
  have HG : Hid (Below N w w3) := (hnx.mono hN).grown hg (Nat.le_trans hN hnx.size) fun k hk => (h2.lt k hk).1
  clear hr hb hg eo HH0 HF hcells hnx h2
  go_wp2_with (at_builtin; refine wpList_append_eq rfl _ _ _ _ rfl rfl rfl HR.out ?_)
  go_ret
  exact ⟨v2, rfl, HB.out, HG.out⟩
theorem appUint_any (N : Nat) (l : List UInt8) (u : Nat) (hu : u < 100000) (v : Value) (w : World) (h : ByM w N v l) (hN : N ≤ w.heap.size) (hl : l.length ≤ 90000) (hT : Tb N w) :
    Calls Tryz.prog 114 #[v, .int .u64 (u : Int), .int .i64 10] w (AiP N l u w) := by
  by_cases h1 : u < 100
  · exact appUint_small N l u h1 v w h hN hl
  · exact appUint_big N l u (by omega) hu v w h hN hl hT
set_option maxHeartbeats 4000000 in
theorem appInt1_any (N : Nat) (l : List UInt8) (u : Nat) (hu : u < 100000) (v : Value) (w : World) (h : ByM w N v l) (hN : N ≤ w.heap.size) (hl : l.length ≤ 90000) (hT : Tb N w) :
    Calls Tryz.prog 104 #[v, .int .i64 (u : Int), .int .i64 10] w (AiP N l u w) := by
  have HC := hide (appUint_any N l u hu v w h hN hl hT)
  obtain ⟨a, c, rfl⟩ := h.shape
  have hwr : IntKind.u64.wrap (u : Int) = (u : Int) := by rw [IntKind.wrap_u64]; omega
  have hng : ¬ (u : Int) < 0 := by omega
  clear h hT
  go_enter Tryz.func104, Tryz.ntmps104
  go_wp2_with fail
  refine HC.out.mono ?_
  rintro e w1 ⟨v1, rfl, hb, hbl⟩
  go_wp2_with fail
  go_ret
  exact ⟨v1, rfl, hb, hbl⟩
set_option maxHeartbeats 4000000 in
theorem appInt_any (N : Nat) (l : List UInt8) (u : Nat) (hu : u < 100000) (v : Value) (w : World) (h : ByM w N v l) (hN : N ≤ w.heap.size) (hl : l.length ≤ 90000) (hT : Tb N w) :
    Calls Tryz.prog 78 #[v, .int .i64 (u : Int), .int .i64 10] w (AiP N l u w) := by
  have HC := hide (appInt1_any N l u hu v w h hN hl hT)
  obtain ⟨a, c, rfl⟩ := h.shape
  clear h hT
  go_enter Tryz.func78, Tryz.ntmps78
  go_wp2_with fail
  refine HC.out.mono ?_
  rintro e w1 ⟨v1, rfl, hb, hbl⟩
  go_wp2_with fail
  go_ret
  exact ⟨v1, rfl, hb, hbl⟩
end Go.Proofs.YtdmaijmglblccaaGreatDoor

/- Walks: a term's sign (closure's classes.sign). -/
namespace Go.Proofs.YtdmaijmglblccaaGreatDoor
open Go.RowKit
set_option linter.unusedSimpArgs false
set_option linter.unusedVariables false
set_option maxRecDepth 8000

theorem byM_back {w : World} {N : Nat} {v : Value} {l : List UInt8} (h : ByM w N v l) : (convert 98 9 v).run Tryz.prog w = .ok (.string ⟨l.toArray⟩) w := by
  obtain ⟨g, cap, rfl, hc⟩ := h.cells
  refine run_convert_bytes_back (P := Tryz.prog) w 98 9 5 ⟨g, 0, none⟩ cap l Tryz.underlying98 Tryz.underlying5 Tryz.underlying9 fun j hj => ?_
  exact hc j _ (by simp [Lib.byteCells, List.getElem?_map, List.getElem?_eq_getElem hj])
theorem dec_lenK (u : Nat) (h : u < 100000) : (Lib.decDigits u).length ≤ 20 := by
  rw [Lib.decDigits_length]
  by_cases h0 : 1 ≤ u
  · have := Lib.numDigits_eq u h0 (by omega)
    split at this <;> omega
  · have : u = 0 := by omega
    subst this
    rw [Lib.nDigits_small (by omega)]
    omega
theorem sgW_len (f : Nat → Nat) (hf : ∀ b, f b < 100000) : ∀ l : List Nat, (sgW (l.map f)).length ≤ 21 * l.length
  | [] => Nat.le_refl _
  | c :: r => by
    have h1 := dec_lenK (f c) (hf c)
    have h2 := sgW_len f hf r
    simp only [List.map_cons, sgW, List.length_cons, List.length_append]
    omega
theorem sgW_snoc (f : Nat → Nat) (l : List Nat) (j : Nat) (h : j < l.length) : sgW ((l.take (j + 1)).map f) = sgW ((l.take j).map f) ++ ([32] ++ Lib.decDigits (f l[j])) := by
  rw [List.take_succ_eq_append_getElem h, List.map_append, sgW_app]
  simp [sgW]
set_option maxHeartbeats 4000000 in
theorem sign_any {BT N B r : Nat} {X : Nat → Prop} {w : World} {o : Nat → Oid} {k : Kl} {m : Km} (h : KlAt N B r X w o k m) (hT : Tb BT w) (hBT : BT ≤ w.heap.size) {id : Oid} {v : Value} {bs : List Nat} (hb : Rwo w N o id 3 1 v (iL bs).length (iL bs)) (hlt : ∀ b ∈ bs, b < k.cl.length) (hc : ∀ b, k.C b < 100000) (s : ByteArray) (hs : s.size ≤ 1000) (hbl : bs.length ≤ 1000) :
    Calls Tryz.prog 61 #[.pointer (some ⟨B, 0, none⟩), .string s, v] w fun e w' => e = .returned (.string (sgn s (bs.map k.C))) ∧ Below w.heap.size w w' := by
  obtain ⟨a, c, rfl⟩ := hb.shape
  rw [iL_len] at hb
  obtain ⟨sv, w1, hconv, hby, hb1⟩ := byM_conv w w.heap.size s (Nat.le_refl _) (by omega)
  have HK := hide h
  have HB := hide hb
  have HLT := hide hlt
  have HC := hide hc
  have HT := hide (show Tb w.heap.size w from fun w' h => hT w' (h.mono hBT))
  have HBY : Hid (ByM w1 w.heap.size sv (s.data.toList ++ sgW ((bs.take 0).map k.C))) := by unfold Hid; simpa [sgW] using hby
  have HB1 := hide hb1
  have hsz : s.data.toList.length = s.size := Array.length_toList
  rw [iL_len]
  clear hlt hc hT hBT hby hb1 hb h
  go_enter Tryz.func61, Tryz.ntmps61
  go_wp2_with fail
  clear hconv
  go_loopw [7, 14] (fun v i wr => ∃ j : Nat, j ≤ bs.length ∧ i = .int .i64 (j : Int) ∧ ByM wr w.heap.size v (s.data.toList ++ sgW ((bs.take j).map k.C)) ∧ Below w.heap.size w wr) (fun v i wr => bs.length - (intOf i).toNat)
  case atStart => exact ⟨0, Nat.zero_le _, rfl, HBY.out, HB1.out⟩
  case round =>
    obtain ⟨j, hj, rfl, hby, hbw⟩ := hrel
    have HBW := hide hbw
    have HBYR := hide hby
    by_cases hin : j < bs.length
    · have hji : (j : Int) < (bs.length : Int) := by omega
      obtain ⟨g, u, rfl, hu, hcell, -, -, -, -⟩ := (HB.out.later hbw).at hin
      have hu2 := iL_at hu
      rw [gd_get hin] at hu2
      subst hu2
      have hbj := HLT.out bs[j] (List.getElem_mem hin)
      have hlen : (s.data.toList ++ sgW ((bs.take j).map k.C)).length ≤ 80000 := by
        have := sgW_len k.C HC.out (bs.take j)
        rw [List.length_append, hsz]
        rw [List.length_take] at this
        omega
      have hcj := HC.out bs[j]
      have hz := hbw.size
      obtain ⟨v2, w2, hr2, hby2, hg2⟩ := app_byM (hby.later ((Below.refl _ _).alloc (Nat.le_refl _) (.cells #[.int .u8 32] 5))) (by simp; omega) ⟨wr.heap.size, 0, none⟩ 1 [32] (World.news_of_block (cs := #[.int .u8 32]) (heap_alloc_new wr _)) (by rw [show ([32] : List UInt8).length = 1 from rfl]; omega)
      have hlt2 := hby.lt
      have HB2 : Hid (Below w.heap.size w w2) := (hbw.alloc hz _).grown hg2 (by simp; omega) fun q hq => (hlt2 q hq).1
      obtain ⟨a2, c2, rfl⟩ := hby2.shape
      have HR2 := hide hr2
      have K2 := HK.out.later HB2.out
      have bx := K2.box
      have b2 := bx.cell 2
      simp at b2
      have hr := K2.r2
      obtain ⟨ca, cc, hv2⟩ := hr.shape
      rw [hv2] at b2 hr
      rw [iL_len] at b2 hr
      obtain ⟨gc, uc, rfl, huc, hcc, -, -, -, -⟩ := hr.at (i := bs[j]) hbj
      have hue : uc = iV (k.C bs[j]) := iL_at huc
      subst hue
      have hbji : ((bs[j] : Nat) : Int) < (k.cl.length : Int) := by omega
      have HTW : Hid (Tb w.heap.size w2) := HT.out.on HB2.out
      have HAI := hide (appInt_any w.heap.size ((s.data.toList ++ sgW ((bs.take j).map k.C)) ++ [32]) (k.C bs[j]) hcj _ w2 hby2 (by have := HB2.out.size; omega) (by simp at hlen ⊢; omega) HTW.out)
      have HE : Hid ((s.data.toList ++ sgW ((bs.take j).map k.C)) ++ [32] ++ Lib.decDigits (k.C bs[j]) = s.data.toList ++ sgW ((bs.take (j + 1)).map k.C)) := by unfold Hid; rw [sgW_snoc k.C bs j hin]; simp
      have hl1 : ((s.data.toList ++ sgW ((bs.take j).map k.C)) ++ [32]).length < 9223372036854775807 := by simp at hlen ⊢; omega
      clear hu huc hby hbw hz hr2 hby2 hg2 hlt2 hr bx K2 hlen
      generalize (s.data.toList ++ sgW ((bs.take j).map k.C)) ++ [32] = L at *
      generalize bs[j] = bj at *
      go_wp2_with (at_builtin; refine wpList_append_eq rfl _ _ _ _ rfl rfl rfl HR2.out ?_)
      refine HAI.out.mono ?_
      rintro e w3 ⟨v3, rfl, hby3, hb3⟩
      have HB3 := hide (HB2.out.trans hb3)
      have HBY3 := hide hby3
      rw [HE.out] at HBY3
      clear hby3 hb3
      go_wp2_with fail
      go_roundw
      case rel => exact ⟨j + 1, hin, by go_num, HBY3.out, HB3.out⟩
      case measure => simp [intOf]; omega
    · have hji : ¬ (j : Int) < (bs.length : Int) := by omega
      have hbk := byM_back hby
      have HE : Hid ((⟨(s.data.toList ++ sgW ((bs.take j).map k.C)).toArray⟩ : ByteArray) = sgn s (bs.map k.C)) := by unfold Hid sgn; rw [List.take_of_length_le (by omega)]
      rw [HE.out] at hbk
      clear hby hbw HE
      go_wp2_with fail
      go_ret
      exact ⟨rfl, HBW.out⟩
end Go.Proofs.YtdmaijmglblccaaGreatDoor

/- Walks: a term right above another one is noted (closure's classes.noteAbove). -/
namespace Go.Proofs.YtdmaijmglblccaaGreatDoor
open Go.RowKit
set_option linter.unusedSimpArgs false
set_option linter.unusedVariables false
set_option maxRecDepth 8000

theorem step_append_eqK {P : Program} {ops : Array Oper} {o : Oper} {a : Act} {K : Act → World → Prop} {Q : Exit → Act → World → Prop} {E : Prop} {w w' : World} {v u v' : Value} (hgd : o.guard = none) (s x : Operand) (t t' : TypeId)
    (ho : o.op = .call { callee := .builtin .append, args := #[s, x], argTypes := #[t, t'] }) (hs : a.eval s = v) (hx : a.eval x = u)
    (hr : (Builtin.append_ #[t, t'] o.type #[v, u]).run P w = .ok v' w') (h : K (a.put o.dst v') w') : if Region.wanted o (yielded ops a.tmps) = true then Oper.wp P o a w K Q else E := by
  have hw : Region.wanted o (yielded ops a.tmps) = true := by simp [Region.wanted, hgd]
  rw [if_pos hw]
  unfold Oper.wp execOp
  simp only [ho, resolve, invoke, builtin, Sem.run_bind, Sem.run_pure, Result.andThen_ok, List.map_toArray, List.map_cons, List.map_nil, hs, hx, hr]
  exact h
theorem last_none {l : List Nat} {p n : Nat} (h : l.length = p + 1) : l.getLast? = some n ↔ gd l 0 p = n := by
  rw [List.getLast?_eq_getElem?, h, Nat.add_sub_cancel]
  unfold gd
  have hp : p < l.length := by omega
  rw [List.getElem?_eq_getElem hp]
  simp
/-- One more in a row within above. -/
theorem note_step {N B r : Nat} {X : Nat → Prop} {w : World} {o : Nat → Oid} {k : Kl} {m : Km} (h : KlAt N B r X w o k m) {b : Nat} (n : Nat) (hb : b < k.ab.length) (hl : (k.A b).length ≤ 900000) :
    ∃ g cap w3 g4 c4 va o', m.v4 = .slice (some ⟨g4, 0, none⟩) m.va.length c4 ∧ (Builtin.append_ #[45, 45] 45 #[gd m.va nV b, .slice (some ⟨w.heap.size, 0, none⟩) 1 1]).run Tryz.prog (w.alloc (.cells #[iV n] 3)) = .ok (.slice (some ⟨g, 0, none⟩) ((k.A b).length + 1) cap) w3 ∧
      Blk w3 B #[m.v0, m.v1, m.v2, m.v3, m.v4, .map (some r)] 65 ∧ w3.cell? ⟨g4, b, none⟩ = some (gd m.va nV b) ∧ w3.frozen? ⟨g4, b, none⟩ = false ∧ g4 ≠ B ∧
      KlAt N B r X (w3.setCell ⟨g4, b, none⟩ (.slice (some ⟨g, 0, none⟩) ((k.A b).length + 1) cap)) o' { k with ab := k.ab.set b (k.A b ++ [n]) } { m with va := va } ∧ Exo o w o' (w3.setCell ⟨g4, b, none⟩ (.slice (some ⟨g, 0, none⟩) ((k.A b).length + 1) cap)) := by
  obtain ⟨g, cap, w3, hr, ho, hf⟩ := app_cell Tryz.underlying45 Tryz.infoInt rfl (by decide) (h.i4 b hb) h.nN (by rw [iL_len]; omega) (iV n) rfl
  rw [iL_len] at hr ho hf
  have e : iL (k.A b) ++ [iV n] = iL (k.A b ++ [n]) := by simp [iL]
  rw [e] at ho
  obtain ⟨g4, c4, h1, h2, h3, h4, h5⟩ := h.row_ab hb hf ho
  have hB := hf.blk B h.box.lt (by rw [h.oB]; simp)
  refine ⟨g, cap, w3, g4, c4, _, _, h1, hr, hB.1.trans h.box, h2, h3, fun e => ?_, h4, h5.exo (by simp)⟩
  have h6 := h.r4.2 g4 (by rw [h1]; rfl)
  rw [e, h.oB] at h6
  cases h6
set_option maxHeartbeats 4000000 in
theorem note_any {N B r : Nat} {X : Nat → Prop} {w : World} {o : Nat → Oid} {k : Kl} {m : Km} (h : KlAt N B r X w o k m) {b n : Nat} (hb : b < k.ab.length) (hl : (k.A b).length ≤ 900000) :
    Calls Tryz.prog 62 #[.pointer (some ⟨B, 0, none⟩), .int .i64 (b : Int), .int .i64 (n : Int)] w fun e w' => e = .returned (.tuple #[]) ∧ ∃ o' va, KlAt N B r X w' o' (k.note b n) { m with va := va } ∧ Exo o w o' w' := by
  have row := h.i4 b hb
  obtain ⟨a, c, hv⟩ := row.shape
  have h4 := h.r4
  obtain ⟨a4, c4, hv4⟩ := h4.shape
  rw [hv4] at h4
  obtain ⟨g4, u4, rfl, hu4, hc4, -, -, -, -⟩ := h4.at (i := b) (by rw [h.l4]; exact hb)
  have hue : u4 = gd m.va nV b := by unfold gd; rw [hu4]; rfl
  rw [hue, hv, iL_len] at hc4
  have bx4 : w.cell? ⟨B, 4, none⟩ = some (.slice (some ⟨g4, 0, none⟩) m.va.length c4) := by rw [h.box.cell]; simp [hv4]
  have hbi : ((b : Nat) : Int) < (m.va.length : Int) := by rw [h.l4]; omega
  have HH := hide h
  have HB := hide hb
  have HLL := hide hl
  obtain ⟨q, hq⟩ : ∃ q, q = (k.A b).length := ⟨_, rfl⟩
  have HQ := hide hq
  rw [hv, iL_len, ← hq] at row
  rw [← hq] at hc4
  have HV := hide hv
  have HV4 := hide hv4
  have hz : Below w.heap.size w w.drew := (Below.refl _ _).drew
  obtain ⟨g, cap, w3, g4', c4', va, o', n1, n2, n3, n4, n5, n6, n7, n8⟩ := note_step (h.later hz) n hb hl
  rw [hv4] at n1
  obtain ⟨rfl, rfl⟩ : g4 = g4' ∧ c4 = c4' := by cases n1; exact ⟨rfl, rfl⟩
  rw [hv, iL_len, ← hq] at n2 n4
  rw [← hq] at n7 n8
  have HR2 := hide n2
  have HB3 := hide n3
  have HC3 := hide n4
  have HF3 := hide n5
  have HN := hide n6
  have HK := hide n7
  have HX : Hid (Exo o w o' (w3.setCell ⟨g4, b, none⟩ (.slice (some ⟨g, 0, none⟩) (q + 1) cap))) := (Exo.below hz fun _ _ => rfl).trans n8
  have HD : Hid (w.drew.cell? ⟨B, 4, none⟩ = some (.slice (some ⟨g4, 0, none⟩) m.va.length c4)) := bx4
  clear h4 hu4 hue hl h hq hv hv4 n1 n2 n3 n4 n5 n6 n7 n8 hb
  go_enter Tryz.func62, Tryz.ntmps62
  by_cases hq0 : q = 0
  · subst hq0
    have HE : Hid (k.note b n = { k with ab := k.ab.set b (k.A b ++ [n]) }) := by
      have h0 : k.A b = [] := List.eq_nil_of_length_eq_zero HQ.out.symm
      unfold Hid Kl.note
      rw [if_neg (by rw [h0]; simp)]
    clear row
    go_upto_region 2 with fail
    refine wp_region_held_drew (S := fun w' => w'.cell? ⟨B, 4, none⟩ = some (.slice (some ⟨g4, 0, none⟩) m.va.length c4)) (by kernel_rfl) HD.out (fun hHeld => ?_)
    clear bx4 hc4
    generalize w.drew = wd at *
    refine wpAnyH_take (i := 0) (v := ?_) rfl (by kernel_rfl) (by kernel_rfl) (by kernel_rfl) (fun _ _ _ h => h) (Or.inl ⟨by rfl, ?_⟩) (by assumption) ?_
    rotate_left
    · intro w' hSw
      go_simp <;> with_reducible rfl
    try simp only [Act.put, List.setIfInBounds_toArray, List.set_cons_zero, List.set_cons_succ, List.getElem_toArray, List.getElem_cons_succ, List.getElem_cons_zero]
    refine wpAnyH_take (i := 1) (v := ?_) rfl (by kernel_rfl) (by kernel_rfl) (by kernel_rfl) (fun _ _ _ h => h) (Or.inl ⟨by rfl, ?_⟩) (by assumption) ?_
    rotate_left
    · intro w' hSw
      go_simp <;> with_reducible rfl
    try simp only [Act.put, List.setIfInBounds_toArray, List.set_cons_zero, List.set_cons_succ, List.getElem_toArray, List.getElem_cons_succ, List.getElem_cons_zero]
    refine wpAnyH_take (i := 2) (v := ?_) rfl (by kernel_rfl) (by kernel_rfl) (by kernel_rfl) (fun _ _ _ h => h) (Or.inl ⟨by rfl, ?_⟩) (by assumption) ?_
    rotate_left
    · intro w' hSw
      go_simp <;> with_reducible rfl
    try simp only [Act.put, List.setIfInBounds_toArray, List.set_cons_zero, List.set_cons_succ, List.getElem_toArray, List.getElem_cons_succ, List.getElem_cons_zero]
    refine wpAnyH_take (i := 3) (v := ?_) rfl (by kernel_rfl) (by kernel_rfl) (by kernel_rfl) (fun _ _ _ h => h) (Or.inl ⟨by rfl, ?_⟩) (by assumption) ?_
    rotate_left
    · intro w' hSw
      have x0 : w'.cell? ⟨B, 4, none⟩ = some (.slice (some ⟨g4, 0, none⟩) m.va.length c4) := hSw
      go_simp <;> with_reducible rfl
    try simp only [Act.put, List.setIfInBounds_toArray, List.set_cons_zero, List.set_cons_succ, List.getElem_toArray, List.getElem_cons_succ, List.getElem_cons_zero]
    refine wpAnyH_take (i := 4) (v := ?_) rfl (by kernel_rfl) (by kernel_rfl) (by kernel_rfl) (fun _ _ _ h => h) (Or.inl ⟨by rfl, ?_⟩) (by assumption) ?_
    rotate_left
    · intro w' hSw
      go_simp <;> with_reducible rfl
    try simp only [Act.put, List.setIfInBounds_toArray, List.set_cons_zero, List.set_cons_succ, List.getElem_toArray, List.getElem_cons_succ, List.getElem_cons_zero]
    refine wpAnyH_take (i := 5) (v := ?_) rfl (by kernel_rfl) (by kernel_rfl) (by kernel_rfl) (fun _ _ _ h => h) (Or.inl ⟨by rfl, ?_⟩) (by assumption) ?_
    rotate_left
    · intro w' hSw
      go_simp <;> with_reducible rfl
    try simp only [Act.put, List.setIfInBounds_toArray, List.set_cons_zero, List.set_cons_succ, List.getElem_toArray, List.getElem_cons_succ, List.getElem_cons_zero]
    refine wpAnyH_take (i := 6) (v := ?_) rfl (by kernel_rfl) (by kernel_rfl) (by kernel_rfl) (fun _ _ _ h => h) (Or.inl ⟨by rfl, ?_⟩) (by assumption) ?_
    rotate_left
    · intro w' hSw
      go_simp <;> with_reducible rfl
    try simp only [Act.put, List.setIfInBounds_toArray, List.set_cons_zero, List.set_cons_succ, List.getElem_toArray, List.getElem_cons_succ, List.getElem_cons_zero]
    refine wpAnyH_ready (rs := [7]) (by kernel_rfl) (by simp) ?_
    refine AllReadyH.cons rfl (fun K hK => ?_) AllReadyH.nil
    go_simp
    refine hK.out _ _ (by exact (World.cell?_of_block (Below.heap_alloc wd _ B (World.block_lt_of_cell? wd _ HD.out))).trans HD.out) (fun hHeld => ?_)
    clear hK K
    try simp only [Act.put, List.setIfInBounds_toArray, List.set_cons_zero, List.set_cons_succ, List.getElem_toArray, List.getElem_cons_succ, List.getElem_cons_zero]
    have qB : w3.cell? ⟨B, 4, none⟩ = some (.slice (some ⟨g4, 0, none⟩) m.va.length c4) := by rw [HB3.out.cell]; simp [HV4.out]
    refine wpAnyH_ready (rs := [8]) (by kernel_rfl) (by simp) ?_
    refine AllReadyH.cons rfl (fun K hK => ?_) AllReadyH.nil
    refine step_append_eqK rfl _ _ _ _ rfl rfl rfl HR2.out ?_
    refine hK.out _ _ (by exact qB) (fun hHeld => ?_)
    clear hK K
    try simp only [Act.put, List.setIfInBounds_toArray, List.set_cons_zero, List.set_cons_succ, List.getElem_toArray, List.getElem_cons_succ, List.getElem_cons_zero]
    refine wpAnyH_take (i := 9) (v := ?_) rfl (by kernel_rfl) (by kernel_rfl) (by kernel_rfl) (fun _ _ _ h => h) (Or.inl ⟨by rfl, ?_⟩) (by assumption) ?_
    rotate_left
    · intro w' hSw
      go_simp <;> with_reducible rfl
    try simp only [Act.put, List.setIfInBounds_toArray, List.set_cons_zero, List.set_cons_succ, List.getElem_toArray, List.getElem_cons_succ, List.getElem_cons_zero]
    have qc := HC3.out
    have qf := HF3.out
    refine wpAnyH_ready (rs := [10]) (by kernel_rfl) (by simp) ?_
    refine AllReadyH.cons rfl (fun K hK => ?_) AllReadyH.nil
    go_simp
    refine hK.out _ _ (by exact (World.cell?_of_block (Below.heap_setCell _ _ _ _ (by simpa using fun e => HN.out e.symm))).trans qB) (fun hHeld => ?_)
    clear hK K
    try simp only [Act.put, List.setIfInBounds_toArray, List.set_cons_zero, List.set_cons_succ, List.getElem_toArray, List.getElem_cons_succ, List.getElem_cons_zero]
    refine wpAnyH_done (by kernel_rfl) ?_ _
    clear hHeld qB qc qf
    go_wp2_with fail
    go_end0
    exact ⟨rfl, o', va, by rw [HE.out]; exact HK.out, HX.out⟩
  · obtain ⟨p, rfl⟩ : ∃ p, q = p + 1 := ⟨q - 1, by omega⟩
    obtain ⟨ga, ua, rfl, hua, hca, -, -, -, -⟩ := row.at (i := p) (by omega)
    have hua2 := iL_at hua
    subst hua2
    obtain ⟨z, hz9⟩ : ∃ z, z = gd (k.A b) 0 p := ⟨_, rfl⟩
    have HZ := hide hz9
    rw [← hz9] at hca
    have hpl : p ≤ 900000 := by have := HLL.out; have := HQ.out; omega
    have hpi : ((p + 1 : Nat) : Int) - 1 = ((p : Nat) : Int) := by omega
    clear row hua hz9 hq0
    by_cases hzn : z = n
    · subst hzn
      have HE : Hid (k.note b z = k) := by
        unfold Hid Kl.note
        rw [if_pos ((last_none HQ.out.symm).2 HZ.out.symm)]
      clear hz HR2 HB3 HC3 HF3 HN HK HX HD
      go_wp2_with fail
      go_end0
      exact ⟨rfl, o, m.va, by rw [HE.out]; exact HH.out, Exo.refl _ _⟩
    · have hzi : ((z : Int) != (n : Int)) = true := by
        rw [bne_iff_ne]
        omega
      have HE : Hid (k.note b n = { k with ab := k.ab.set b (k.A b ++ [n]) }) := by
        unfold Hid Kl.note
        rw [if_neg fun e => hzn (HZ.out.trans ((last_none HQ.out.symm).1 e))]
      clear hzn
      go_upto_region 2 with fail
      refine wp_region_held_drew (S := fun w' => w'.cell? ⟨B, 4, none⟩ = some (.slice (some ⟨g4, 0, none⟩) m.va.length c4)) (by kernel_rfl) HD.out (fun hHeld => ?_)
      clear bx4 hc4
      generalize w.drew = wd at *
      refine wpAnyH_take (i := 0) (v := ?_) rfl (by kernel_rfl) (by kernel_rfl) (by kernel_rfl) (fun _ _ _ h => h) (Or.inl ⟨by rfl, ?_⟩) (by assumption) ?_
      rotate_left
      · intro w' hSw
        go_simp <;> with_reducible rfl
      try simp only [Act.put, List.setIfInBounds_toArray, List.set_cons_zero, List.set_cons_succ, List.getElem_toArray, List.getElem_cons_succ, List.getElem_cons_zero]
      refine wpAnyH_take (i := 1) (v := ?_) rfl (by kernel_rfl) (by kernel_rfl) (by kernel_rfl) (fun _ _ _ h => h) (Or.inl ⟨by rfl, ?_⟩) (by assumption) ?_
      rotate_left
      · intro w' hSw
        go_simp <;> with_reducible rfl
      try simp only [Act.put, List.setIfInBounds_toArray, List.set_cons_zero, List.set_cons_succ, List.getElem_toArray, List.getElem_cons_succ, List.getElem_cons_zero]
      refine wpAnyH_take (i := 2) (v := ?_) rfl (by kernel_rfl) (by kernel_rfl) (by kernel_rfl) (fun _ _ _ h => h) (Or.inl ⟨by rfl, ?_⟩) (by assumption) ?_
      rotate_left
      · intro w' hSw
        go_simp <;> with_reducible rfl
      try simp only [Act.put, List.setIfInBounds_toArray, List.set_cons_zero, List.set_cons_succ, List.getElem_toArray, List.getElem_cons_succ, List.getElem_cons_zero]
      refine wpAnyH_take (i := 3) (v := ?_) rfl (by kernel_rfl) (by kernel_rfl) (by kernel_rfl) (fun _ _ _ h => h) (Or.inl ⟨by rfl, ?_⟩) (by assumption) ?_
      rotate_left
      · intro w' hSw
        have x0 : w'.cell? ⟨B, 4, none⟩ = some (.slice (some ⟨g4, 0, none⟩) m.va.length c4) := hSw
        go_simp <;> with_reducible rfl
      try simp only [Act.put, List.setIfInBounds_toArray, List.set_cons_zero, List.set_cons_succ, List.getElem_toArray, List.getElem_cons_succ, List.getElem_cons_zero]
      refine wpAnyH_take (i := 4) (v := ?_) rfl (by kernel_rfl) (by kernel_rfl) (by kernel_rfl) (fun _ _ _ h => h) (Or.inl ⟨by rfl, ?_⟩) (by assumption) ?_
      rotate_left
      · intro w' hSw
        go_simp <;> with_reducible rfl
      try simp only [Act.put, List.setIfInBounds_toArray, List.set_cons_zero, List.set_cons_succ, List.getElem_toArray, List.getElem_cons_succ, List.getElem_cons_zero]
      refine wpAnyH_take (i := 5) (v := ?_) rfl (by kernel_rfl) (by kernel_rfl) (by kernel_rfl) (fun _ _ _ h => h) (Or.inl ⟨by rfl, ?_⟩) (by assumption) ?_
      rotate_left
      · intro w' hSw
        go_simp <;> with_reducible rfl
      try simp only [Act.put, List.setIfInBounds_toArray, List.set_cons_zero, List.set_cons_succ, List.getElem_toArray, List.getElem_cons_succ, List.getElem_cons_zero]
      refine wpAnyH_take (i := 6) (v := ?_) rfl (by kernel_rfl) (by kernel_rfl) (by kernel_rfl) (fun _ _ _ h => h) (Or.inl ⟨by rfl, ?_⟩) (by assumption) ?_
      rotate_left
      · intro w' hSw
        go_simp <;> with_reducible rfl
      try simp only [Act.put, List.setIfInBounds_toArray, List.set_cons_zero, List.set_cons_succ, List.getElem_toArray, List.getElem_cons_succ, List.getElem_cons_zero]
      refine wpAnyH_ready (rs := [7]) (by kernel_rfl) (by simp) ?_
      refine AllReadyH.cons rfl (fun K hK => ?_) AllReadyH.nil
      go_simp
      refine hK.out _ _ (by exact (World.cell?_of_block (Below.heap_alloc wd _ B (World.block_lt_of_cell? wd _ HD.out))).trans HD.out) (fun hHeld => ?_)
      clear hK K
      try simp only [Act.put, List.setIfInBounds_toArray, List.set_cons_zero, List.set_cons_succ, List.getElem_toArray, List.getElem_cons_succ, List.getElem_cons_zero]
      have qB : w3.cell? ⟨B, 4, none⟩ = some (.slice (some ⟨g4, 0, none⟩) m.va.length c4) := by rw [HB3.out.cell]; simp [HV4.out]
      refine wpAnyH_ready (rs := [8]) (by kernel_rfl) (by simp) ?_
      refine AllReadyH.cons rfl (fun K hK => ?_) AllReadyH.nil
      refine step_append_eqK rfl _ _ _ _ rfl rfl rfl HR2.out ?_
      refine hK.out _ _ (by exact qB) (fun hHeld => ?_)
      clear hK K
      try simp only [Act.put, List.setIfInBounds_toArray, List.set_cons_zero, List.set_cons_succ, List.getElem_toArray, List.getElem_cons_succ, List.getElem_cons_zero]
      refine wpAnyH_take (i := 9) (v := ?_) rfl (by kernel_rfl) (by kernel_rfl) (by kernel_rfl) (fun _ _ _ h => h) (Or.inl ⟨by rfl, ?_⟩) (by assumption) ?_
      rotate_left
      · intro w' hSw
        go_simp <;> with_reducible rfl
      try simp only [Act.put, List.setIfInBounds_toArray, List.set_cons_zero, List.set_cons_succ, List.getElem_toArray, List.getElem_cons_succ, List.getElem_cons_zero]
      have qc := HC3.out
      have qf := HF3.out
      refine wpAnyH_ready (rs := [10]) (by kernel_rfl) (by simp) ?_
      refine AllReadyH.cons rfl (fun K hK => ?_) AllReadyH.nil
      go_simp
      refine hK.out _ _ (by exact (World.cell?_of_block (Below.heap_setCell _ _ _ _ (by simpa using fun e => HN.out e.symm))).trans qB) (fun hHeld => ?_)
      clear hK K
      try simp only [Act.put, List.setIfInBounds_toArray, List.set_cons_zero, List.set_cons_succ, List.getElem_toArray, List.getElem_cons_succ, List.getElem_cons_zero]
      refine wpAnyH_done (by kernel_rfl) ?_ _
      clear hHeld qB qc qf
      go_wp2_with fail
      go_end0
      exact ⟨rfl, o', va, by rw [HE.out]; exact HK.out, HX.out⟩
end Go.Proofs.YtdmaijmglblccaaGreatDoor

/- Memory and plain: what numbering a term keeps. -/
namespace Go.Proofs.YtdmaijmglblccaaGreatDoor
open Go.RowKit
set_option linter.unusedSimpArgs false
set_option linter.unusedVariables false
set_option maxRecDepth 8000

theorem Tb.heapK {B : Nat} {w w' : World} (h : Tb B w) (hs : w.heap.size ≤ w'.heap.size) (hk : ∀ b, b < B → w'.heap[b]? = w.heap[b]?) : Tb B w' := fun w'' h2 => by
  have h3 := h { w'' with os := w.os, tape := w.tape, output := w.output } ⟨rfl, rfl, rfl, Nat.le_trans hs h2.size, fun b hb => (h2.block b hb).trans (hk b hb)⟩
  exact h3
/-- The library's table, below what is the classes'. -/
def TbO (BT : Nat) (o : Nat → Oid) (w : World) : Prop := Tb BT w ∧ BT ≤ w.heap.size ∧ ∀ b, b < BT → o b = eX
theorem TbO.exo {BT : Nat} {o o' : Nat → Oid} {w w' : World} (h : TbO BT o w) (e : Exo o w o' w') : TbO BT o' w' :=
  ⟨h.1.heapK e.2.2.2.1 fun b hb => (e.2.2.2.2 b (Nat.lt_of_lt_of_le hb h.2.1) (h.2.2 b hb)).1, Nat.le_trans h.2.1 e.2.2.2.1, fun b hb => (e.2.2.2.2 b (Nat.lt_of_lt_of_le hb h.2.1) (h.2.2 b hb)).2⟩
theorem Sl.exo {w w' : World} {o o' : Nat → Oid} {X : Nat → Prop} {a : Option Addr} {l : List Tm} (h : Sl w X a l) (hX : ∀ b, X b → b < w.heap.size ∧ o b = eX) (e : Exo o w o' w') : Sl w' X a l := h.kept fun b hb => (e.2.2.2.2 b (hX b hb).1 (hX b hb).2).1
theorem exo_X {w w' : World} {o o' : Nat → Oid} {X : Nat → Prop} (hX : ∀ b, X b → b < w.heap.size ∧ o b = eX) (e : Exo o w o' w') : ∀ b, X b → b < w'.heap.size ∧ o' b = eX := fun b hb => ⟨Nat.lt_of_lt_of_le (hX b hb).1 e.2.2.2.1, (e.2.2.2.2 b (hX b hb).1 (hX b hb).2).2⟩
theorem Rwo.exo {w w' : World} {N : Nat} {o o' : Nat → Oid} {T e : Nat} {v : Value} {n : Nat} {xs : List Value} (h : Rwo w N o eX T e v n xs) (f : Exo o w o' w') : Rwo w' N o' eX T e v n xs := h.keep fun b hb he => f.2.2.2.2 b hb he
theorem Blk.exo {w w' : World} {o o' : Nat → Oid} {b T : Nat} {cs : Array Value} (h : Blk w b cs T) (f : Exo o w o' w') (he : o b = eX) : Blk w' b cs T := (f.2.2.2.2 b h.lt he).1.trans h
/-- A block that is new is none of theirs. -/
def upN (o : Nat → Oid) (n : Nat) : Nat → Oid := fun b => if b < n then o b else eX
theorem upN_lt {o : Nat → Oid} {n b : Nat} (h : b < n) : upN o n b = o b := if_pos h
theorem upN_ge {o : Nat → Oid} {n b : Nat} (h : n ≤ b) : upN o n b = eX := if_neg (by omega)
theorem KlAt.upn {N B r : Nat} {X : Nat → Prop} {w w' : World} {o : Nat → Oid} {k : Kl} {m : Km} (h : KlAt N B r X w o k m) (hb : Below w.heap.size w w') : KlAt N B r X w' (upN o w.heap.size) k m ∧ Exo o w (upN o w.heap.size) w' :=
  ⟨h.fresh hb fun b h1 => upN_lt h1, Exo.below hb fun b h1 => upN_lt h1⟩
/-- One more in a row that is none of theirs. -/
theorem app_loc {N B r : Nat} {X : Nat → Prop} {w : World} {o : Nat → Oid} {k : Kl} {m : Km} (h : KlAt N B r X w o k m) {TL T by_ : Nat} {z : Value} {v : Value} {xs : List Value} (hT : Tryz.prog.underlying TL = some (.slice T)) (hinfo : (Tryz.prog.info? T).map (fun i => (i.zero, i.size, i.bytes)) = some (some z, 1, by_)) (hz : z.cells.size = 1) (hby : by_ ≤ 100)
    (hv : Rwo w N o eX T 1 v xs.length xs) (hnX : ∀ b, v.ownBlock = some b → ¬ X b) (hl : xs.length ≤ 1000000) (x : Value) (hx : x.oneCell' = true) :
    ∃ g cap w3 o', (Builtin.append_ #[TL, TL] TL #[v, .slice (some ⟨w.heap.size, 0, none⟩) 1 1]).run Tryz.prog (w.alloc (.cells #[x] T)) = .ok (.slice (some ⟨g, 0, none⟩) (xs.length + 1) cap) w3 ∧
      Rwo w3 N o' eX T 1 (.slice (some ⟨g, 0, none⟩) (xs.length + 1) cap) (xs ++ [x]).length (xs ++ [x]) ∧ KlAt N B r X w3 o' k m ∧ (v.ownBlock = some g ∨ w.heap.size ≤ g) ∧
      (w3.os = w.os ∧ w3.tape = w.tape ∧ w3.output = w.output ∧ w.heap.size ≤ w3.heap.size) ∧ (∀ b, b < w.heap.size → v.ownBlock ≠ some b → w3.heap[b]? = w.heap[b]?) ∧ ∀ b, b < w.heap.size → o' b = o b := by
  obtain ⟨i0, hi, hz0, hz1, hz2⟩ := info_parts hinfo
  obtain ⟨g, cap, w3, hr, ho, hg, hat, _⟩ := run_append_lies (P := Tryz.prog) (w := w.alloc (.cells #[x] T)) TL TL N T i0 _ 1 by_ hT hi hz0 hz1 hz2 hz (by decide) v xs.length xs (hv.1.alloc _) ⟨w.heap.size, 0, none⟩ 1 1 [x] rfl (World.news_of_block (cs := #[x]) (heap_alloc_new w _)) (by simpa using hx) (by omega) (by unfold maxLen; omega) (by have : (xs.length + 1) * by_ ≤ 1000001 * 100 := Nat.mul_le_mul (by omega) hby; omega) (by have := h.nN; simp; omega) _ rfl
  have hblk : ∀ b, b < w.heap.size → v.ownBlock ≠ some b → w3.heap[b]? = w.heap[b]? := fun b hb hne => by rw [hg.block b (by simp; omega) (fun e => hne e.symm), Below.heap_alloc _ _ _ hb]
  have hsz : w.heap.size ≤ w3.heap.size := Nat.le_trans (by simp) hg.size
  have hoo : ∀ b, b < w.heap.size → upN o w.heap.size b = o b := fun b hb => upN_lt hb
  refine ⟨g, cap, w3, upN o w.heap.size, hr, ⟨by simpa using ho, fun b hb => ?_⟩, h.mv hsz fun b hb hor => ⟨hblk b hb fun e => ?_, hoo b hb⟩, ?_, ⟨hg.os, hg.tape, hg.output, hsz⟩, hblk, hoo⟩
  · have e : g = b := by simpa [Value.ownBlock] using hb
    subst e
    rcases hat with e | e
    · rw [upN_lt (hv.1.lt g e).2]; exact hv.2 g e
    · rw [World.size_alloc] at e; exact upN_ge (by omega)
  · rcases hor with hne | hx
    · exact hne (hv.2 b e)
    · exact hnX b e hx
  · rcases hat with e | e
    · exact Or.inl e
    · rw [World.size_alloc] at e; exact Or.inr (by omega)
theorem NumI.full {k : Kl} {U : Nat → Nat → Prop} (h : NumI k U) (hU : ∀ m, m < k.ts.length → ∀ b ∈ k.B m, U m b) : NumI k AllU := ⟨h.lb, h.lc, h.lm, h.la, h.nd, h.may, h.arg, h.own, fun m hm b hb _ => h.up m hm b hb (hU m hm b hb), h.alt, h.ent, h.has⟩
theorem kT_pre {k k' : Kl} (h : k.ts <+: k'.ts) {b : Nat} (hb : b < k.ts.length) : k'.T b = k.T b := by
  obtain ⟨r, hr⟩ := h
  unfold Kl.T
  rw [← hr, gd_app hb]
/-- What numbering the first of a term's parts does. -/
structure NumJ (k : Kl) (l : List Tm) (k' : Kl) (bs : List Nat) : Prop where
  ok : NumI k' AllU
  lt : ∀ b ∈ bs, b < k'.ts.length
  eq : bs.map k'.T = l
  pre : k.ts <+: k'.ts
  old : ∀ x ∈ k'.ts, x ∈ k.ts ∨ x ∈ preL l
  all : ∀ x ∈ preL l, x ∈ k'.ts
  len : k'.ts.length ≤ k.ts.length + sizeL l
  sum : sumN k'.ab + l.length ≤ sumN k.ab + sizeL l
theorem NumJ.start {k : Kl} (h : NumI k AllU) : NumJ k [] k [] := ⟨h, by simp, rfl, List.prefix_refl _, fun x hx => Or.inl hx, by simp [preL], by simp [sizeL], by simp [sizeL]⟩
theorem NumJ.next {k k1 k2 : Kl} {l : List Tm} {bs : List Nat} {t : Tm} {i : Nat} (h : NumJ k l k1 bs) (g : NumR k1 t k2 i) : NumJ k (l ++ [t]) k2 (bs ++ [i]) := by
  have hlt : ∀ b ∈ bs, b < k2.ts.length := fun b hb => Nat.lt_of_lt_of_le (h.lt b hb) g.pre.length_le
  refine ⟨g.ok, fun b hb => ?_, ?_, h.pre.trans g.pre, fun x hx => ?_, fun x hx => ?_, ?_, ?_⟩
  · rcases List.mem_append.1 hb with hb | hb
    · exact hlt b hb
    · rw [List.mem_singleton.1 hb]; exact g.lt
  · rw [List.map_append, List.map_singleton, g.eq, ← h.eq]
    congr 1
    exact List.map_congr_left fun b hb => kT_pre g.pre (h.lt b hb)
  · rw [preL_append, List.mem_append]
    rcases g.old x hx with hx | hx
    · rcases h.old x hx with hx | hx
      · exact Or.inl hx
      · exact Or.inr (Or.inl hx)
    · exact Or.inr (Or.inr hx)
  · rw [preL_append, List.mem_append] at hx
    rcases hx with hx | hx
    · exact g.pre.subset (h.all x hx)
    · exact g.all x hx
  · have := h.len; have := g.len; rw [sizeL_append]; omega
  · have := h.sum; have := g.sum; rw [sizeL_append, List.length_append, List.length_singleton]; omega
/-- The term is there. -/
theorem numR_found {k k1 : Kl} {t : Tm} {bs : List Nat} {i : Nat} (h : NumJ k t.args k1 bs) (he : errL [t] = 0) (hs : sgG k1.sg (sgn t.name bs) = some i) : NumR k t k1 i := by
  obtain ⟨h1, h2⟩ := num_found h.ok he h.eq.symm hs
  have e : preL [t] = t :: preL t.args := by obtain ⟨s, l⟩ := t; simp [preL]
  have ez : sizeL [t] = 1 + sizeL t.args := by obtain ⟨s, l⟩ := t; simp [sizeL]
  refine ⟨h.ok, h1, h2, h.pre, fun x hx => ?_, num_within h.ok t (by rw [← h2]; exact kT_mem h1), ?_, ?_⟩
  · rw [e]
    rcases h.old x hx with hx | hx
    · exact Or.inl hx
    · exact Or.inr (List.mem_cons_of_mem _ hx)
  · have := h.len; omega
  · have := h.sum; omega
/-- The term is new. -/
theorem numR_new {k k1 : Kl} {t : Tm} {bs : List Nat} (h : NumJ k t.args k1 bs) (he : errL [t] = 0) (hs : sgG k1.sg (sgn t.name bs) = none) : NumR k t ((k1.more t bs).notes bs k1.ts.length) k1.ts.length := by
  obtain ⟨h1, h2, h3⟩ := num_more h.ok he h.lt h.eq.symm hs
  have hz : (k1.more t bs).ts.length = k1.ts.length + 1 := by simp [Kl.more]
  obtain ⟨e1, e2, e3, e4, e5, e6⟩ := notes_same k1.ts.length bs (k1.more t bs)
  obtain ⟨n1, n2⟩ := num_notes bs h1 (fun b hb => by have := h.lt b hb; omega) (by omega : k1.ts.length < (k1.more t bs).ts.length)
  have e : preL [t] = t :: preL t.args := by obtain ⟨s, l⟩ := t; simp [preL]
  have ez : sizeL [t] = 1 + sizeL t.args := by obtain ⟨s, l⟩ := t; simp [sizeL]
  have hT : ((k1.more t bs).notes bs k1.ts.length).T = (k1.more t bs).T := by unfold Kl.T; rw [e1]
  have hB : ((k1.more t bs).notes bs k1.ts.length).B = (k1.more t bs).B := by unfold Kl.B; rw [e2]
  have hblen : bs.length = t.args.length := by rw [← h.eq]; simp
  refine ⟨n1.full fun m hm b hb => ?_, by rw [e1]; omega, by rw [hT]; exact h2, ?_, fun x hx => ?_, fun x hx => ?_, ?_, ?_⟩
  · rw [e1, hz] at hm
    by_cases hmn : m < k1.ts.length
    · exact Or.inl hmn
    · have : m = k1.ts.length := by omega
      subst this
      rw [hB, h3] at hb
      exact Or.inr ⟨rfl, hb⟩
  · rw [e1]; exact h.pre.trans (List.prefix_append _ _)
  · rw [e1] at hx
    rw [e]
    rcases List.mem_append.1 hx with hx | hx
    · rcases h.old x hx with hx | hx
      · exact Or.inl hx
      · exact Or.inr (List.mem_cons_of_mem _ hx)
    · rw [List.mem_singleton.1 hx]; exact Or.inr (by simp)
  · rw [e1]
    rw [e] at hx
    rcases List.mem_cons.1 hx with hx | hx
    · rw [hx]; exact List.mem_append_right _ (by simp)
    · exact List.mem_append_left _ (h.all x hx)
  · rw [e1, hz, ez]; have := h.len; omega
  · have h4 := h.sum
    have h5 : sumN (k1.more t bs).ab = sumN k1.ab := by show sumN (k1.ab ++ [[]]) = _; rw [sumN_app]; simp [sumN]
    omega
theorem num_C {k : Kl} {U : Nat → Nat → Prop} (h : NumI k U) (hz : k.ts.length ≤ 90000) : ∀ b, k.C b < 100000 := fun b => by
  by_cases hb : b < k.ts.length
  · rw [(h.own b hb).1]; omega
  · unfold Kl.C gd
    rw [List.getElem?_eq_none (by rw [h.lc]; omega)]
    simp
theorem num_S {k : Kl} {U : Nat → Nat → Prop} (h : NumI k U) {bs : List Nat} (hb : ∀ b ∈ bs, b < k.ts.length) : bs.map k.C = bs := by
  have : bs.map k.C = bs.map id := List.map_congr_left fun b hb2 => (h.own b (hb b hb2)).1
  rw [this, List.map_id]
end Go.Proofs.YtdmaijmglblccaaGreatDoor

/- Walks: does some variable stand in a term (knots.IsOpen). -/
namespace Go.Proofs.YtdmaijmglblccaaGreatDoor
open Go.RowKit
set_option linter.unusedSimpArgs false
set_option linter.unusedVariables false
set_option maxRecDepth 8000

/-- A variable stands in it. -/
def opnB (t : Tm) : Bool := (preL [t]).any fun k => varB k.name
theorem opnB_eq (t : Tm) : opnB t = (varB t.name || t.args.any opnB) := by
  have key : ∀ l : List Tm, ((preL l).any fun k => varB k.name) = l.any opnB := by
    intro l
    induction l with
    | nil => simp [preL]
    | cons x r ih =>
      have h := preL_append [x] r
      simp only [List.singleton_append] at h
      rw [h, List.any_append, ih, List.any_cons]
      rfl
  obtain ⟨s, l⟩ := t
  unfold opnB
  rw [preL, List.any_cons, List.any_append, key l]
  rw [show preL ([] : List Tm) = [] by simp [preL]]
  simp only [List.any_nil, Bool.or_false]
  rfl
theorem varsP_pos : ∀ (ks : List Tm) (acc : List ByteArray), (0 < (varsP acc ks).length) ↔ (0 < acc.length ∨ (ks.any fun k => varB k.name) = true)
  | [], acc => by simp [varsP]
  | k :: r, acc => by
    have h : varsP acc (k :: r) = varsP (addV acc k.name) r := rfl
    rw [h, varsP_pos r, List.any_cons, Bool.or_eq_true]
    have h2 : 0 < (addV acc k.name).length ↔ (0 < acc.length ∨ varB k.name = true) := by
      cases hv : varB k.name with
      | false => rw [addV_no hv]; simp
      | true =>
        cases hi : inB k.name acc with
        | false => rw [addV_yes hv hi]; simp
        | true =>
          rw [addV_in hv hi]
          have : 0 < acc.length := by
            cases acc with
            | nil => simp [inB] at hi
            | cons a b => simp
          simp [this]
    rw [h2]
    constructor
    · rintro ((h | h) | h)
      · exact Or.inl h
      · exact Or.inr (Or.inl h)
      · exact Or.inr (Or.inr h)
    · rintro (h | h | h)
      · exact Or.inl (Or.inl h)
      · exact Or.inl (Or.inr h)
      · exact Or.inr h
theorem opn_vars (t : Tm) : (0 < (varsP [] (preL [t])).length) ↔ opnB t = true := by
  rw [varsP_pos]; simp [opnB]
theorem any_takeT {l : List Tm} {f : Tm → Bool} {k : Nat} (h : k < l.length) (hk : (l.take k).any f = false) (h1 : f l[k] = false) : (l.take (k + 1)).any f = false := by
  rw [List.take_succ_eq_append_getElem h, List.any_append, hk]; simp [h1]
theorem any_atT {l : List Tm} {f : Tm → Bool} {k : Nat} (h : k < l.length) (h1 : f l[k] = true) : l.any f = true := List.any_eq_true.2 ⟨_, List.getElem_mem h, h1⟩

set_option maxHeartbeats 1000000 in
theorem indexOpen_of (l : List Tm) (HC : ∀ x ∈ l, ∀ (v : Value) (w : World) (X : Nat → Prop), TV w X v x → Calls Tryz.prog 34 #[v] w fun e w' => e = .returned (.bool (opnB x)) ∧ Below w.heap.size w w') (a : Option Addr) (c : Nat) (w : World) (X : Nat → Prop) (hs : Sl w X a l) :
    Calls Tryz.prog 72 #[.slice a l.length c, .func (.func 34) #[] #[]] w fun e w' => ∃ z : Int, e = .returned (.int .i64 z) ∧ decide (0 ≤ z) = l.any opnB ∧ Below w.heap.size w w' := by
  have H := hide HC
  have HS := hide (hs.mono (Y := fun b => X b ∧ b < w.heap.size) fun b h1 h2 => ⟨h1, h2⟩)
  have hl := hs.1
  clear HC hs
  go_enter Tryz.func72, Tryz.ntmps72
  go_wp2_with fail
  go_loopw [8] (fun i wr => ∃ k : Nat, k ≤ l.length ∧ i = .int .i64 (k : Int) ∧ (l.take k).any opnB = false ∧ Below w.heap.size w wr) (fun i wr => l.length - (intOf i).toNat)
  case atStart => exact ⟨0, Nat.zero_le _, rfl, by simp, Below.refl _ _⟩
  case round =>
    obtain ⟨k, hk, rfl, hno, hbr⟩ := hrel
    have HNO := hide hno
    have HBR := hide hbr
    clear hno hbr
    by_cases hlt : k < l.length
    · have hki : (k : Int) < (l.length : Int) := by omega
      obtain ⟨b, o, a1, c1, rfl, x0, x1, hx⟩ := HS.out.get HBR.out (fun b h _ => h.2) k hlt
      have HX := hide hx
      clear hx
      go_wp2_with fail
      refine (H.out l[k] (List.getElem_mem hlt) _ _ _ HX.out).mono ?_
      rintro e w2 ⟨rfl, hb2⟩
      have HB2 := hide (HBR.out.trans (hb2.mono HBR.out.size))
      clear hb2 x0 x1
      cases ho : opnB l[k] with
      | true =>
        have HA := hide (any_atT (f := opnB) hlt ho)
        clear ho
        go_wp2_with fail
        go_ret
        exact ⟨_, rfl, by rw [HA.out]; simp, HB2.out⟩
      | false =>
        have HA := hide (any_takeT (f := opnB) hlt HNO.out ho)
        clear ho
        go_wp2_with fail
        go_roundw
        case rel => exact ⟨k + 1, by omega, by go_num, HA.out, HB2.out⟩
        case measure => simp [intOf]; omega
    · have hki : ¬ (k : Int) < (l.length : Int) := by omega
      have HA : Hid (l.any opnB = false) := by have h := HNO.out; rw [List.take_of_length_le (by omega)] at h; exact h
      go_wp2_with fail
      go_ret
      exact ⟨-1, rfl, by rw [HA.out]; rfl, HBR.out⟩
theorem isOpen_any (t : Tm) : ∀ (v : Value) (w : World) (X : Nat → Prop), TV w X v t → Calls Tryz.prog 34 #[v] w fun e w' => e = .returned (.bool (opnB t)) ∧ Below w.heap.size w w' := by
  induction t using Tm.ind with
  | h s0 l0 ih =>
    intro v w X ht
    have IH := hide ih
    clear ih
    obtain ⟨t, hte⟩ : ∃ t : Tm, t = ⟨s0, l0⟩ := ⟨_, rfl⟩
    rw [← hte] at ht ⊢
    have HTE : Hid (t.args = l0) := by rw [hte]; rfl
    clear hte
    obtain ⟨aw, ct, rfl, hst⟩ := ht
    have B1 : Hid (Below w.heap.size w (w.alloc (.cells #[.string t.name, .slice aw t.args.length ct] 25))) := (Below.refl _ _).alloc (Nat.le_refl _) _
    have K1 : Hid (Blk (w.alloc (.cells #[.string t.name, .slice aw t.args.length ct] 25)) w.heap.size #[.string t.name, .slice aw t.args.length ct] 25) := Blk.new _ _ _
    have S1 := hide (hst.later B1.out)
    have hla := hst.1
    clear hst
    have HV := hide (isVariable_all t.name (w.alloc (.cells #[.string t.name, .slice aw t.args.length ct] 25)))
    have c0 := K1.out.cell 0
    have c1 := K1.out.cell 1
    cases hv : varB t.name with
    | true =>
      have HO : Hid (opnB t = true) := by unfold Hid; rw [opnB_eq, hv]; rfl
      have HVV := hide hv
      clear hv
      go_enter Tryz.func34, Tryz.ntmps34
      go_wp2_with fail
      refine HV.out.mono ?_
      rintro e w2 ⟨rfl, rfl⟩
      rw [HVV.out]
      go_wp2_with fail
      go_ret
      exact ⟨by rw [HO.out]; rfl, B1.out⟩
    | false =>
      have HO : Hid (opnB t = t.args.any opnB) := by unfold Hid; rw [opnB_eq, hv]; rfl
      have HVV := hide hv
      clear hv
      go_enter Tryz.func34, Tryz.ntmps34
      go_wp2_with fail
      refine HV.out.mono ?_
      rintro e w2 ⟨rfl, rfl⟩
      rw [HVV.out]
      go_wp2_with fail
      generalize (w.alloc (.cells #[.string t.name, .slice aw t.args.length ct] 25)) = w1 at *
      clear c0 c1
      have CF : Calls Tryz.prog 53 #[.slice aw t.args.length ct, .func (.func 34) #[] #[]] w1 fun e w' => e = .returned (.bool (t.args.any opnB)) ∧ Below w1.heap.size w1 w' := by
        go_enter Tryz.func53, Tryz.ntmps53
        go_wp2_with fail
        refine (indexOpen_of t.args (fun x hx v w X h => IH.out x (by rw [← HTE.out]; exact hx) v w X h) aw ct _ _ S1.out).mono ?_
        rintro e w' ⟨z, rfl, hz, hb⟩
        have HZ := hide hz
        have HB := hide hb
        clear hz hb
        go_wp2_with fail
        go_ret
        exact ⟨by rw [← HZ.out]; rfl, HB.out⟩
      refine CF.mono ?_
      rintro e w3 ⟨rfl, hb3⟩
      have B3 := hide (B1.out.trans (hb3.mono B1.out.size))
      clear hb3
      go_wp2_with fail
      go_ret
      exact ⟨by rw [HO.out]; rfl, B3.out⟩
end Go.Proofs.YtdmaijmglblccaaGreatDoor


/- Walks: what stands at a place, as the document says. -/
namespace Go.Proofs.YtdmaijmglblccaaGreatDoor
open Go.RowKit
set_option linter.unusedSimpArgs false
set_option linter.unusedVariables false

theorem TV.back {w w' : World} {X : Nat → Prop} {v : Value} {t : Tm} {B : Nat} (h : TV w' X v t) (hb : Below B w w') (hX : ∀ b, X b → b < B) : TV w X v t := by
  obtain ⟨a, c, e, h⟩ := h
  exact ⟨a, c, e, h.back hb hX⟩

end Go.Proofs.YtdmaijmglblccaaGreatDoor


/- Walks: a copy of a term. -/
namespace Go.Proofs.YtdmaijmglblccaaGreatDoor
open Go.RowKit
set_option linter.unusedSimpArgs false
set_option linter.unusedVariables false

end Go.Proofs.YtdmaijmglblccaaGreatDoor

/- Walks: two terms that are the same. -/
namespace Go.Proofs.YtdmaijmglblccaaGreatDoor
open Go.RowKit
set_option linter.unusedSimpArgs false
set_option linter.unusedVariables false

theorem same_cells {w w1 : World} {n : Nat} {p1 p2 p3 p4 p5 p6 : Addr} {v1 v2 v3 v4 v5 v6 : Value} (hb : Below (w.drewN n).heap.size (w.drewN n) w1)
    (h : w.cell? p1 = some v1 ∧ w.cell? p2 = some v2 ∧ w.cell? p3 = some v3 ∧ w.cell? p4 = some v4 ∧ w.cell? p5 = some v5 ∧ w.cell? p6 = some v6) :
    w1.cell? p1 = some v1 ∧ w1.cell? p2 = some v2 ∧ w1.cell? p3 = some v3 ∧ w1.cell? p4 = some v4 ∧ w1.cell? p5 = some v5 ∧ w1.cell? p6 = some v6 := by
  have hb' : Below w.heap.size w w1 := (below_drewN (Below.refl _ _) n).trans (hb.mono (by simp))
  exact ⟨cell_later hb' h.1, cell_later hb' h.2.1, cell_later hb' h.2.2.1, cell_later hb' h.2.2.2.1, cell_later hb' h.2.2.2.2.1, cell_later hb' h.2.2.2.2.2⟩

end Go.Proofs.YtdmaijmglblccaaGreatDoor

/- Walks: pairs of which nothing is said; whether pairs may be. -/
namespace Go.Proofs.YtdmaijmglblccaaGreatDoor
open Go.RowKit
set_option linter.unusedSimpArgs false
set_option linter.unusedVariables false
set_option maxRecDepth 8000

def hugeQ1 (p : Pr) : Bool := decide (3000 < sizeL [p.l]) || decide (3000 < sizeL [p.r])
def hugeQL (l : List Pr) : Bool := l.any hugeQ1
def hugeQ (ls : List Pr) : Bool := hugeQL ls || decide (100 < ls.length)
theorem hugeQL_take {l : List Pr} {k : Nat} (h : k < l.length) : hugeQL (l.take (k + 1)) = (hugeQL (l.take k) || hugeQ1 l[k]) := by
  unfold hugeQL; rw [List.take_succ_eq_append_getElem h, List.any_append]; simp
theorem hugeQL_yes {l : List Pr} {k : Nat} (h : k < l.length) (h0 : hugeQ1 l[k] = true) : hugeQ l = true := by
  have e : hugeQL l = true := by
    unfold hugeQL
    rw [List.any_eq_true]
    exact ⟨l[k], List.getElem_mem h, h0⟩
  unfold hugeQ
  rw [e]; rfl
def HqInv (ls : List Pr) (w : World) (v : Value) (wr : World) : Prop := ∃ k : Nat, v = .int .i64 (k : Int) ∧ k ≤ ls.length ∧ hugeQL (ls.take k) = false ∧ Below w.heap.size w wr

set_option maxHeartbeats 1000000 in
theorem hugePairs_any (ls : List Pr) (u : Value) (w : World) (X : Nat → Prop) (hu : QV w X u ls) :
    Calls Tryz.prog 6 #[u] w fun e w' => e = .returned (.bool (hugeQ ls)) ∧ Below w.heap.size w w' := by
  have HU := hide (hu.mono (Y := fun b => X b ∧ b < w.heap.size) fun b h1 h2 => ⟨h1, h2⟩)
  obtain ⟨a, c, rfl, hl, hu2⟩ := hu
  clear hu2
  go_enter Tryz.func6, Tryz.ntmps6
  go_wp2_with fail
  go_loopw [3] (fun v wr => HqInv ls w v wr) (fun v wr => ls.length - (intOf v).toNat)
  case atStart => exact ⟨0, rfl, Nat.zero_le _, rfl, Below.refl _ _⟩
  case round =>
    obtain ⟨k, rfl, hk, hT, hb⟩ := hrel
    have HB := hide hb
    have HT := hide hT
    clear hT
    by_cases hlt : k < ls.length
    · obtain ⟨b, o, a1, c1, a2, c2, rfl, d0, d1, d2, d3, hs1, hs2⟩ := (HU.out.later hb).get k hlt
      have hlt2 : (k : Int) < (ls.length : Int) := by omega
      have HX1 := hide hs1
      have HX2 := hide hs2
      have HY := hide (hugeQL_yes hlt)
      have HN := hide (hugeQL_take hlt)
      clear hs1 hs2 hb
      generalize ls[k] = d at *
      go_wp2_with fail
      refine (huge_any d.l _ _ _ ⟨a1, c1, rfl, HX1.out⟩).mono ?_
      rintro e w1 ⟨rfl, hb1⟩
      have HB1 := hide (HB.out.trans (hb1.mono HB.out.size))
      have HX3 := hide (HX2.out.later hb1)
      have d2' := cell_later hb1 d2
      have d3' := cell_later hb1 d3
      clear hb1
      cases hq : decide (3000 < sizeL [d.l]) with
      | true =>
        have HF := hide (HY.out (by unfold hugeQ1; rw [hq]; rfl))
        clear hq
        go_wp2_with fail
        go_ret
        exact ⟨ret_bool HF.out.symm, HB1.out⟩
      | false =>
        have HQ := hide hq
        clear hq
        go_wp2_with fail
        refine (huge_any d.r _ _ _ ⟨a2, c2, rfl, HX3.out⟩).mono ?_
        rintro e w2 ⟨rfl, hb2⟩
        have HB2 := hide (HB1.out.trans (hb2.mono HB1.out.size))
        clear hb2
        cases hq : decide (3000 < sizeL [d.r]) with
        | true =>
          have HF := hide (HY.out (by unfold hugeQ1; rw [hq]; simp))
          clear hq
          go_wp2_with fail
          go_ret
          exact ⟨ret_bool HF.out.symm, HB2.out⟩
        | false =>
          have HF : Hid (hugeQL (ls.take (k + 1)) = false) := by unfold Hid; rw [HN.out, HT.out]; unfold hugeQ1; rw [HQ.out, hq]; rfl
          clear hq
          go_wp2_with fail
          go_roundw
          case rel => exact ⟨k + 1, by go_num, by omega, HF.out, HB2.out⟩
          case measure => simp [intOf]; omega
    · have HF : Hid (decide (100 < ls.length) = hugeQ ls) := by
        have h := HT.out
        rw [List.take_of_length_le (by omega)] at h
        unfold Hid hugeQ
        rw [h]; rfl
      go_wp2_with fail
      go_ret
      exact ⟨ret_bool (by rw [← HF.out, Bool.eq_iff_iff]; simp; omega), HB.out⟩

def PmInv (ls : List Pr) (w : World) (v : Value) (wr : World) : Prop := ∃ k : Nat, v = .int .i64 (k : Int) ∧ k ≤ ls.length ∧ pmT ls k = 0 ∧ Below w.heap.size w wr

set_option maxHeartbeats 1000000 in
theorem pairsMay_any (ls : List Pr) (u : Value) (w : World) (X : Nat → Prop) (hu : QV w X u ls) :
    Calls Tryz.prog 24 #[u] w fun e w' => e = .returned (.int .i64 (pairsE ls)) ∧ Below w.heap.size w w' := by
  have HU := hide (hu.mono (Y := fun b => X b ∧ b < w.heap.size) fun b h1 h2 => ⟨h1, h2⟩)
  obtain ⟨a, c, rfl, hl, hu2⟩ := hu
  clear hu2
  go_enter Tryz.func24, Tryz.ntmps24
  by_cases h40 : 40 < ls.length
  · go_wp2_with fail
    go_ret
    exact ⟨ret_int (by unfold pairsE; rw [if_pos h40]), Below.refl _ _⟩
  · go_wp2_with fail
    go_loopw [3] (fun v wr => PmInv ls w v wr) (fun v wr => ls.length - (intOf v).toNat)
    case atStart => exact ⟨0, rfl, Nat.zero_le _, rfl, Below.refl _ _⟩
    case round =>
      obtain ⟨k, rfl, hk, hT, hb⟩ := hrel
      have HB := hide hb
      have HT := hide hT
      clear hT
      by_cases hlt : k < ls.length
      · obtain ⟨b, o, a1, c1, a2, c2, rfl, d0, d1, d2, d3, hs1, hs2⟩ := (HU.out.later hb).get k hlt
        have hlt2 : (k : Int) < (ls.length : Int) := by omega
        have HX1 := hide hs1
        have HX2 := hide hs2
        have HY := hide (pmT_err hlt h40 HT.out)
        have HN := hide (pmT_next hlt HT.out)
        clear hs1 hs2 hb
        generalize ls[k] = d at *
        go_wp2_with fail
        have HS0 := hide (And.intro d0 (And.intro d1 (And.intro d2 d3)))
        have TM : Hid (∀ w', Below wr.heap.size wr w' → Calls Tryz.prog 41 #[.agg #[.string d.l.name, .slice a1 d.l.args.length c1], .agg #[.string d.r.name, .slice a2 d.r.args.length c2]] w' fun e w'' => e = .returned (.int .i64 (twoE d.l d.r)) ∧ Below w.heap.size w w'' ∧ (w''.cell? ⟨b, o + k * 4, none⟩ = some (.string d.l.name) ∧ w''.cell? ⟨b, o + k * 4 + 1, none⟩ = some (.slice a1 d.l.args.length c1) ∧ w''.cell? ⟨b, o + k * 4 + 2, none⟩ = some (.string d.r.name) ∧ w''.cell? ⟨b, o + k * 4 + 3, none⟩ = some (.slice a2 d.r.args.length c2))) := fun w' hb => by
          refine (twoMay_any d.l d.r _ _ w' _ ⟨_, _, rfl, HX1.out.later hb⟩ ⟨_, _, rfl, HX2.out.later hb⟩).mono ?_
          rintro e w'' ⟨rfl, hb2⟩
          have hb3 := hb.trans (hb2.mono hb.size)
          exact ⟨rfl, HB.out.trans (hb3.mono HB.out.size), cell_later hb3 d0, cell_later hb3 d1, cell_later hb3 d2, cell_later hb3 d3⟩
        go_region_held3 (fun w' => w'.cell? ⟨b, o + k * 4, none⟩ = some (.string d.l.name) ∧ w'.cell? ⟨b, o + k * 4 + 1, none⟩ = some (.slice a1 d.l.args.length c1) ∧ w'.cell? ⟨b, o + k * 4 + 2, none⟩ = some (.string d.r.name) ∧ w'.cell? ⟨b, o + k * 4 + 3, none⟩ = some (.slice a2 d.r.args.length c2)) (first | exact hS | exact HS0.out | go_keep)
          (first
            | (go_at_call 41; refine (TM.out _ (by first | exact Below.refl _ _ | exact (Below.refl _ _).drew)).mono ?_; rintro e w5 ⟨rfl, hb5, hS⟩))
        have HB5 := hide hb5
        clear hb5 hS TM HX1 HX2 HS0 d0 d1 d2 d3
        by_cases hm : twoE d.l d.r = 0
        · rw [hm] at HN
          rw [hm]
          clear hm
          go_wp2_with fail
          go_roundw
          case rel => exact ⟨k + 1, by go_num, by omega, HN.out, HB5.out⟩
          case measure => simp [intOf]; omega
        · have hm2 : (twoE d.l d.r == 0) = false := by simpa using hm
          have HM := hide hm
          clear hm
          go_wp2_with fail
          go_ret
          exact ⟨ret_int (HY.out HM.out).symm, HB5.out⟩
      · have hkl : k = ls.length := by omega
        go_wp2_with fail
        go_ret
        exact ⟨ret_int (by unfold pairsE; rw [if_neg h40, ← hkl]; exact HT.out.symm), HB.out⟩

theorem twoE_fst {a b : Tm} (h : mayE a ≠ 0) : twoE a b = mayE a := by unfold twoE; rw [if_neg h]
theorem twoE_snd {a b : Tm} (h : mayE a = 0) : twoE a b = mayE b := by unfold twoE; rw [if_pos h]
set_option maxHeartbeats 1000000 in
theorem ucheck_any (ls : List Pr) (u : Value) (w : World) (X : Nat → Prop) (hu : QV w X u ls) :
    Calls Tryz.prog 33 #[u] w fun e w' => e = .returned (.int .i64 (pairsE ls)) ∧ Below w.heap.size w w' := by
  have HU := hide (hu.mono (Y := fun b => X b ∧ b < w.heap.size) fun b h1 h2 => ⟨h1, h2⟩)
  obtain ⟨a, c, rfl, hl, hu2⟩ := hu
  clear hu2
  go_enter Tryz.func33, Tryz.ntmps33
  by_cases h40 : 40 < ls.length
  · go_wp2_with fail
    go_ret
    exact ⟨ret_int (by unfold pairsE; rw [if_pos h40]), Below.refl _ _⟩
  · go_wp2_with fail
    go_loopw [12] (fun v wr => PmInv ls w v wr) (fun v wr => ls.length - (intOf v).toNat)
    case atStart => exact ⟨0, rfl, Nat.zero_le _, rfl, Below.refl _ _⟩
    case round =>
      obtain ⟨k, rfl, hk, hT, hb⟩ := hrel
      have HB := hide hb
      have HT := hide hT
      clear hT
      by_cases hlt : k < ls.length
      · obtain ⟨b, o, a1, c1, a2, c2, rfl, d0, d1, d2, d3, hs1, hs2⟩ := (HU.out.later hb).get k hlt
        have hlt2 : (k : Int) < (ls.length : Int) := by omega
        have hbA : Below wr.heap.size wr (wr.alloc (.cells #[.string ls[k].l.name, .slice a1 ls[k].l.args.length c1, .string ls[k].r.name, .slice a2 ls[k].r.args.length c2] 35)) := (Below.refl _ _).alloc (Nat.le_refl _) _
        have HX1 := hide (hs1.later hbA)
        have HX2 := hide (hs2.later hbA)
        have P1 := hide (Blk.new wr #[.string ls[k].l.name, .slice a1 ls[k].l.args.length c1, .string ls[k].r.name, .slice a2 ls[k].r.args.length c2] 35)
        have HB1 := hide (hb.trans (hbA.mono hb.size))
        have HY := hide (pmT_err hlt h40 HT.out)
        have HN := hide (pmT_next hlt HT.out)
        clear hs1 hs2 hb hbA
        generalize ls[k] = d at *
        go_wp2_with fail
        generalize wr.alloc (.cells #[.string d.l.name, .slice a1 d.l.args.length c1, .string d.r.name, .slice a2 d.r.args.length c2] 35) = w1 at *
        generalize wr.heap.size = P at *
        refine (check_any d.l _ _ _ ⟨a1, c1, rfl, HX1.out⟩).mono ?_
        rintro e w2 ⟨rfl, hb2⟩
        have HX3 := hide (HX2.out.later hb2)
        have HB2 := hide (HB1.out.trans (hb2.mono HB1.out.size))
        have p2 := cell_later hb2 (P1.out.cell 2)
        have p3 := cell_later hb2 (P1.out.cell 3)
        clear hb2
        by_cases hm : mayE d.l = 0
        · have HM := hide (twoE_snd (b := d.r) hm)
          rw [hm]
          clear hm
          go_wp2_with fail
          refine (check_any d.r _ _ _ ⟨a2, c2, rfl, HX3.out⟩).mono ?_
          rintro e w3 ⟨rfl, hb3⟩
          have HB3 := hide (HB2.out.trans (hb3.mono HB2.out.size))
          clear hb3
          by_cases hm : mayE d.r = 0
          · have HF : Hid (pmT ls (k + 1) = 0) := by unfold Hid; rw [HN.out, HM.out, hm]
            rw [hm]
            clear hm
            go_wp2_with fail
            go_roundw
            case rel => exact ⟨k + 1, by go_num, by omega, HF.out, HB3.out⟩
            case measure => simp [intOf]; omega
          · have hm2 : (mayE d.r == 0) = false := by simpa using hm
            have HF : Hid (pairsE ls = mayE d.r) := by unfold Hid; rw [HY.out (by rw [HM.out]; exact hm), HM.out]
            clear hm
            go_wp2_with fail
            go_ret
            exact ⟨ret_int HF.out.symm, HB3.out⟩
        · have hm2 : (mayE d.l == 0) = false := by simpa using hm
          have HF : Hid (pairsE ls = mayE d.l) := by unfold Hid; rw [HY.out (by rw [twoE_fst hm]; exact hm), twoE_fst hm]
          clear hm
          go_wp2_with fail
          go_ret
          exact ⟨ret_int HF.out.symm, HB2.out⟩
      · have hkl : k = ls.length := by omega
        go_wp2_with fail
        go_ret
        exact ⟨ret_int (by unfold pairsE; rw [if_neg h40, ← hkl]; exact HT.out.symm), HB.out⟩
end Go.Proofs.YtdmaijmglblccaaGreatDoor

/- Bindings in the order of their names: plain. -/
namespace Go.Proofs.YtdmaijmglblccaaGreatDoor
open Go.RowKit
set_option linter.unusedSimpArgs false
set_option linter.unusedVariables false

/-- One text is ahead of another one. -/
def ltB (a b : ByteArray) : Bool := Op.bytesLess a.toList b.toList
theorem bl_irrefl : ∀ a : List UInt8, Op.bytesLess a a = false
  | [] => rfl
  | x :: r => by simp [Op.bytesLess, bl_irrefl r]
theorem bl_trans : ∀ a b c : List UInt8, Op.bytesLess a b = true → Op.bytesLess b c = true → Op.bytesLess a c = true
  | _, [], _, h, _ => by simp [Op.bytesLess] at h
  | _, _ :: _, [], _, h => by simp [Op.bytesLess] at h
  | [], _ :: _, _ :: _, _, _ => by simp [Op.bytesLess]
  | x :: a, y :: b, z :: c, h1, h2 => by
    simp only [Op.bytesLess, Bool.or_eq_true, Bool.and_eq_true, decide_eq_true_eq, beq_iff_eq] at h1 h2 ⊢
    rw [UInt8.lt_iff_toNat_lt] at h1 h2 ⊢
    rcases h1 with h1 | ⟨rfl, h1⟩ <;> rcases h2 with h2 | ⟨rfl, h2⟩
    · left; omega
    · left; exact h1
    · left; exact h2
    · right; exact ⟨rfl, bl_trans a b c h1 h2⟩
theorem bl_conn : ∀ a b : List UInt8, Op.bytesLess a b = false → Op.bytesLess b a = false → a = b
  | [], [], _, _ => rfl
  | [], _ :: _, h, _ => by simp [Op.bytesLess] at h
  | _ :: _, [], _, h => by simp [Op.bytesLess] at h
  | x :: a, y :: b, h1, h2 => by
    simp only [Op.bytesLess, Bool.or_eq_false_iff, decide_eq_false_iff_not] at h1 h2
    obtain ⟨h1, h3⟩ := h1
    obtain ⟨h2, h4⟩ := h2
    rw [UInt8.lt_iff_toNat_lt] at h1 h2
    have e : x = y := UInt8.toNat_inj.mp (by omega)
    subst e
    simp only [BEq.rfl, Bool.true_and] at h3 h4
    rw [bl_conn a b h3 h4]
theorem ltB_irrefl (a : ByteArray) : ltB a a = false := bl_irrefl _
theorem ltB_trans {a b c : ByteArray} (h1 : ltB a b = true) (h2 : ltB b c = true) : ltB a c = true := bl_trans _ _ _ h1 h2
theorem ltB_conn {a b : ByteArray} (h1 : ltB a b = false) (h2 : ltB b a = false) : a = b := bytes_inj (bl_conn _ _ h1 h2)
theorem ltB_asymm {a b : ByteArray} (h : ltB a b = true) : ltB b a = false := by
  cases hb : ltB b a with
  | false => rfl
  | true => have := ltB_trans h hb; rw [ltB_irrefl] at this; cases this
/-- No name twice, and each ahead of the next. -/
def SortedB (l : List Bd) : Prop := l.Pairwise fun a b => ltB a.nm b.nm = true
/-- No name twice. -/
def ApartB (l : List Bd) : Prop := l.Pairwise fun a b => a.nm ≠ b.nm
theorem SortedB.apart {l : List Bd} (h : SortedB l) : ApartB l := h.imp fun {a b} h e => by rw [e, ltB_irrefl] at h; cases h
end Go.Proofs.YtdmaijmglblccaaGreatDoor

/- What comes of putting a term at a place. -/
namespace Go.Proofs.YtdmaijmglblccaaGreatDoor

end Go.Proofs.YtdmaijmglblccaaGreatDoor

/- A slice without its first. -/
namespace Go.Proofs.YtdmaijmglblccaaGreatDoor
open Go.RowKit
set_option linter.unusedSimpArgs false
set_option linter.unusedVariables false

end Go.Proofs.YtdmaijmglblccaaGreatDoor


/- The library's Clone at rows of terms. -/
namespace Go.Proofs.YtdmaijmglblccaaGreatDoor
open Go.RowKit Go.Shelf
set_option linter.unusedSimpArgs false
set_option linter.unusedVariables false
set_option maxRecDepth 8000

end Go.Proofs.YtdmaijmglblccaaGreatDoor


/- Walks: a term with another one at a place that it has. -/
namespace Go.Proofs.YtdmaijmglblccaaGreatDoor
open Go.RowKit
set_option linter.unusedSimpArgs false
set_option linter.unusedVariables false
set_option maxRecDepth 8000

theorem RowT.put {w : World} {X : Nat → Prop} {y : Tm} {a : Option Addr} {c : Nat} (hy : Sl w X a y.args) : ∀ {l : List Tm} {xs : List Value} (k : Nat), RowT w X l xs → k < l.length → RowT w X (l.set k y) ((xs.set (k * 2) (.string y.name)).set (k * 2 + 1) (.slice a y.args.length c))
  | [], xs, k, h, hk => by simp at hk
  | t :: l, xs, 0, h, _ => by
    obtain ⟨a', c', r, rfl, h1, h2⟩ := h
    exact ⟨a, c, r, by simp, hy, h2⟩
  | t :: l, xs, k + 1, h, hk => by
    obtain ⟨a', c', r, rfl, h1, h2⟩ := h
    refine ⟨a', c', (r.set (k * 2) (.string y.name)).set (k * 2 + 1) (.slice a y.args.length c), ?_, h1, RowT.put hy k h2 (by simpa using hk)⟩
    have e : (k + 1) * 2 = k * 2 + 1 + 1 := by omega
    rw [e]
    simp
end Go.Proofs.YtdmaijmglblccaaGreatDoor


/- Walks: a term with another one at a place, as the document says. -/
namespace Go.Proofs.YtdmaijmglblccaaGreatDoor
open Go.RowKit
set_option linter.unusedSimpArgs false
set_option linter.unusedVariables false
set_option maxRecDepth 8000

end Go.Proofs.YtdmaijmglblccaaGreatDoor


/- Walks: two answers that are terms. -/
namespace Go.Proofs.YtdmaijmglblccaaGreatDoor
open Go.RowKit
set_option linter.unusedSimpArgs false
set_option linter.unusedVariables false

end Go.Proofs.YtdmaijmglblccaaGreatDoor


/- Walks: Put, and the law on it. -/
namespace Go.Proofs.YtdmaijmglblccaaGreatDoor
open Go.RowKit
set_option linter.unusedSimpArgs false
set_option linter.unusedVariables false
set_option maxRecDepth 8000

end Go.Proofs.YtdmaijmglblccaaGreatDoor
