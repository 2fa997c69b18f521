/- Several texts in one. -/
import Derived.Test.YtdmaijmglblccaaGreatDoorZClosureMadeOwn
import Derived.Laws.IdiomCopy
import Derived.Laws.IdiomStrings
import Derived.Lib.AppendStr
import Derived.Lib.UnsafeStr
import Derived.Below
import Derived.Test.YtdmaijmglblccaaGreatDoorRows
import Derived.Lib.ItoaNum
import Derived.Deep.RegionHeld
import Derived.Test.YtdmaijmglblccaaGreatDoorShelf
import Derived.Deep.RegionHeld3
import Derived.Deep.DeepCutAuto
import Derived.Laws.OwnMore
import Derived.Lib.AppendIntMem
import Derived.Lib.ItoaWalk
import Derived.Lib.Slices
import Derived.BigGuard
import Derived.Deep.AppendSrc
import Derived.BigQuiet
import Derived.Deep.LoopGhost
import Derived.Deep.RegionLaw
/- Memory: bytes of one's own, also those that were a text's; what is appended to them. -/
namespace Go.Proofs.YtdmaijmglblccaaGreatDoor
open Go.RowKit
set_option linter.unusedSimpArgs false
set_option linter.unusedVariables false
set_option maxRecDepth 8000

theorem setCells_heap (b : Nat) (T : Nat) (fz : Nat × Nat) : ∀ (vs : List Value) (o : Nat) (w : World) (cur : Array Value), w.heap[b]? = some (.cells cur T fz) → o + vs.length ≤ cur.size →
    ∃ cur', (w.setCells b o vs).heap[b]? = some (.cells cur' T fz) ∧ cur'.size = cur.size ∧ cur'.toList.take (o + vs.length) = cur.toList.take o ++ vs ∧ (w.setCells b o vs).heap.size = w.heap.size ∧ (∀ k, k ≠ b → (w.setCells b o vs).heap[k]? = w.heap[k]?) ∧ (w.setCells b o vs).os = w.os ∧ (w.setCells b o vs).tape = w.tape ∧ (w.setCells b o vs).output = w.output
  | [], o, w, cur, h, _ => ⟨cur, h, rfl, by simp, rfl, fun _ _ => rfl, rfl, rfl, rfl⟩
  | v :: r, o, w, cur, h, hl => by
    simp only [List.length_cons] at hl
    have hlt : b < w.heap.size := (Array.getElem?_eq_some_iff.1 h).1
    have h1 : (w.setCell ⟨b, o, none⟩ v).heap[b]? = some (.cells (cur.setIfInBounds o v) T fz) := by
      obtain ⟨hl1, he⟩ := Array.getElem?_eq_some_iff.1 h
      simp [World.setCell, Array.getElem?_modify, h]
    obtain ⟨cur', g1, g2, g3, g4, g5, g6, g7, g8⟩ := setCells_heap b T fz r (o + 1) (w.setCell ⟨b, o, none⟩ v) _ h1 (by simp; omega)
    refine ⟨cur', g1, by simpa using g2, ?_, g4.trans (by simp [World.setCell]), fun k hk => (g5 k hk).trans (Below.heap_setCell _ _ _ _ (by simpa using hk)), g6, g7, g8⟩
    have e1 : o + (v :: r).length = o + 1 + r.length := by simp only [List.length_cons]; omega
    rw [e1, g3]
    have e2 : (cur.setIfInBounds o v).toList.take (o + 1) = cur.toList.take o ++ [v] := by
      rw [Array.toList_setIfInBounds, List.take_set, List.take_succ_eq_append_getElem (by simp; omega)]
      have hz : (cur.toList.take o).length = o := by simp; omega
      rw [List.set_append_right _ _ (by omega), hz, Nat.sub_self]
      rfl
    rw [e2]
    simp
/-- Bytes of one's own: no cell of theirs is shut. -/
def ByM (w : World) (N : Nat) (v : Value) (l : List UInt8) : Prop :=
  ∃ g cap cur fz, v = .slice (some ⟨g, 0, none⟩) l.length cap ∧ N ≤ g ∧ w.heap[g]? = some (.cells cur 5 fz) ∧ l.length ≤ cap ∧ cap ≤ maxLen ∧ cur.size = cap ∧ (∀ j, j < cap → ¬ (fz.1 ≤ j ∧ j < fz.2)) ∧ cur.toList.take l.length = Lib.byteCells l
theorem ByM.lt {w : World} {N : Nat} {v : Value} {l : List UInt8} (h : ByM w N v l) : ∀ k, v.ownBlock = some k → N ≤ k ∧ k < w.heap.size := by
  obtain ⟨g, cap, cur, fz, rfl, h1, h2, _⟩ := h
  intro k hk
  have e : g = k := by simpa [Value.ownBlock] using hk
  subst e
  exact ⟨h1, (Array.getElem?_eq_some_iff.1 h2).1⟩
theorem ByM.later {w w' : World} {N : Nat} {v : Value} {l : List UInt8} (h : ByM w N v l) (hb : Below w.heap.size w w') : ByM w' N v l := by
  obtain ⟨g, cap, cur, fz, rfl, h1, h2, h3⟩ := h
  exact ⟨g, cap, cur, fz, rfl, h1, (hb.block g (Array.getElem?_eq_some_iff.1 h2).1).trans h2, h3⟩
theorem ByM.shape {w : World} {N : Nat} {v : Value} {l : List UInt8} (h : ByM w N v l) : ∃ a c, v = .slice a l.length c := by
  obtain ⟨g, cap, cur, fz, rfl, _⟩ := h
  exact ⟨_, _, rfl⟩
theorem ByM.cells {w : World} {N : Nat} {v : Value} {l : List UInt8} (h : ByM w N v l) : ∃ g cap, v = .slice (some ⟨g, 0, none⟩) l.length cap ∧ ∀ j u, (Lib.byteCells l)[j]? = some u → w.cell? ((⟨g, 0, none⟩ : Addr).add j) = some u := by
  obtain ⟨g, cap, cur, fz, rfl, h1, h2, h3, h4, h5, h6, h7⟩ := h
  refine ⟨g, cap, rfl, fun j u hj => ?_⟩
  have hadd : (⟨g, 0, none⟩ : Addr).add j = ⟨g, j, none⟩ := by unfold Addr.add; split <;> simp_all
  rw [hadd, cell_of_row w g j cur 5 fz h2]
  rw [← h7, List.getElem?_take] at hj
  split at hj
  · simpa using hj
  · cases hj
theorem byM_conv (w : World) (N : Nat) (s : ByteArray) (hN : N ≤ w.heap.size) (hs : s.size ≤ 100000) : ∃ v w', (convert 9 98 (.string s)).run Tryz.prog w = .ok v w' ∧ ByM w' N v s.data.toList ∧ Below w.heap.size w w' := by
  have hsz : s.data.toList.length = s.size := Array.length_toList
  have hge := grownCap_ge w s.size 0 5
  have hz : (bytesRow s (grownCap w s.size 0 5)).size = grownCap w s.size 0 5 := by
    rw [bytesRow, Array.size_append, Array.size_map, Array.size_replicate]
    have : s.data.size = s.size := rfl
    omega
  refine ⟨_, _, run_bytes_of_string (P := Tryz.prog) w 9 98 5 s Tryz.underlying9 Tryz.underlying98 Tryz.underlying5, ⟨w.heap.size, grownCap w s.size 0 5, _, _, ?_, hN, heap_alloc_new w.drew _, ?_, ?_, ?_, ?_, ?_⟩, ?_⟩
  · rw [hsz]
  · rw [hsz]; exact hge
  · exact grownCap_le_maxLen w s.size 0 5 (by unfold maxLen; omega)
  · exact hz
  · intro j hj h
    simp only [hz] at h
    omega
  · rw [bytesRow, Array.toList_append, Array.toList_map, Lib.byteCells, List.take_left' (by simp)]
  · exact (below_drewN (Below.refl _ _) 1).alloc (Nat.le_refl _) _
section
variable {w : World} {N : Nat} {v : Value} {l : List UInt8}
theorem byM_new {w : World} {N : Nat} {l news : List UInt8} {old : Nat} (hN : N ≤ w.heap.size) (hl : l.length + news.length ≤ 100000) : ∀ row, ByM (w.drew.alloc (.cells ((Lib.byteCells l).toArray ++ (Lib.byteCells news).toArray ++ Builtin.zeroCells (Value.int .u8 0).cells (grownCap w (l.length + news.length) old 5 - (l.length + news.length))) 5)) N (.slice (some ⟨w.heap.size, 0, none⟩) (l.length + news.length) (grownCap w (l.length + news.length) old 5)) (l ++ news) ∧
    w.grownBy (w.drew.alloc (.cells ((Lib.byteCells l).toArray ++ (Lib.byteCells news).toArray ++ Builtin.zeroCells (Value.int .u8 0).cells (grownCap w (l.length + news.length) old 5 - (l.length + news.length))) 5)) row := by
  intro row
  have hge := grownCap_ge w (l.length + news.length) old 5
  have hcm := grownCap_le_maxLen w (l.length + news.length) old 5 (by unfold maxLen; omega)
  have hz1 : (Value.int IntKind.u8 0).cells.size = 1 := rfl
  refine ⟨⟨w.heap.size, _, _, (0, 0), by rw [List.length_append], hN, heap_alloc_new w.drew _, by rw [List.length_append]; exact hge, hcm, ?_, (fun j _ h => absurd h.2 (Nat.not_lt_zero _)), ?_⟩, ⟨rfl, rfl, rfl, by simp, fun k hk _ => heap_alloc_old w.drew _ hk⟩⟩
  · simp only [Array.size_append, List.size_toArray, size_zeroCells, hz1, Lib.byteCells_length]
    omega
  · simp only [Array.toList_append, List.append_assoc]
    rw [← List.append_assoc]
    have e : Lib.byteCells l ++ Lib.byteCells news = Lib.byteCells (l ++ news) := by simp [Lib.byteCells]
    rw [e, ← Lib.byteCells_length (l ++ news)]
    exact List.take_left
theorem one_byteCells (l : List UInt8) : ∀ u ∈ Lib.byteCells l, u.oneCell' = true := by
  intro u hu
  simp only [Lib.byteCells, List.mem_map] at hu
  obtain ⟨b, _, rfl⟩ := hu
  rfl
theorem byM_room (h : ByM w N v l) {news : List UInt8} (hl : l.length + news.length ≤ 100000) : (∃ g cap, v = .slice (some ⟨g, 0, none⟩) l.length cap ∧ l.length + news.length ≤ cap ∧ (storeCells ⟨g, l.length, none⟩ (Lib.byteCells news)).run Tryz.prog w = .ok () (w.setCells g l.length (Lib.byteCells news)) ∧
      ByM (w.setCells g l.length (Lib.byteCells news)) N (.slice (some ⟨g, 0, none⟩) (l.length + news.length) cap) (l ++ news) ∧ w.grownBy (w.setCells g l.length (Lib.byteCells news)) v.ownBlock) ∨
    ∃ g cap, v = .slice (some ⟨g, 0, none⟩) l.length cap ∧ cap < l.length + news.length := by
  obtain ⟨g, cap, cur, fz, rfl, h1, h2, h3, h4, h5, h6, h7⟩ := h
  by_cases hr : l.length + news.length ≤ cap
  · refine Or.inl ⟨g, cap, rfl, hr, ?_, ?_⟩
    · have hs := run_storeCells_cells (P := Tryz.prog) g l.length (Lib.byteCells news) 0 w (fun j hj => ?_) (fun j hj => ?_) (one_byteCells news)
      · simpa using hs
      · rw [Lib.byteCells_length] at hj
        rw [cell_of_row w g _ cur 5 fz h2, Array.getElem?_eq_getElem (by omega)]
        rfl
      · rw [Lib.byteCells_length] at hj
        have := h6 (l.length + j) (by omega)
        simp [World.frozen?, h2]
        intro h
        exact Nat.le_of_not_lt fun h9 => this ⟨h, h9⟩
    · obtain ⟨cur', g1, g2, g3, g4, g5, g6, g7, g8⟩ := setCells_heap g 5 fz (Lib.byteCells news) l.length w cur h2 (by rw [Lib.byteCells_length]; omega)
      refine ⟨⟨g, cap, cur', fz, by rw [List.length_append], h1, g1, by rw [List.length_append]; exact hr, h4, by omega, h6, ?_⟩, ⟨g6, g7, g8, by omega, fun k _ hk => g5 k fun e => hk (by simp [Value.ownBlock, e])⟩⟩
      rw [List.length_append, ← Lib.byteCells_length news, g3, h7]
      simp [Lib.byteCells]
  · exact Or.inr ⟨g, cap, rfl, by omega⟩
/-- Bytes behind bytes. -/
theorem app_byM (h : ByM w N v l) (hN : N ≤ w.heap.size) (ad : Addr) (c : Nat) (news : List UInt8) (hn : ∀ j u, (Lib.byteCells news)[j]? = some u → w.cell? (ad.add j) = some u) (hl : l.length + news.length ≤ 100000) :
    ∃ v' w', (Builtin.append_ #[98, 98] 98 #[v, .slice (some ad) news.length c]).run Tryz.prog w = .ok v' w' ∧ ByM w' N v' (l ++ news) ∧ w.grownBy w' v.ownBlock := by
  obtain ⟨i0, hi, hz, hz1, hz2⟩ := info_parts Tryz.infoByte
  have ht := Tryz.underlying98
  rcases byM_room h hl with ⟨g, cap, rfl, hr, hst, hb, hg⟩ | ⟨g, cap, rfl, hr⟩
  · refine ⟨_, _, ?_, hb, hg⟩
    have hf := run_firstCells_some (P := Tryz.prog) w 1 news.length ad news.length c (Lib.byteCells news) (by rw [Lib.byteCells_length]; omega) hn
    simp [Builtin.append_, run_underlying ht, sizeOf, typeInfo, hi, hz1, Builtin.lenOf, hr, hf, Addr.add_lit, hst]
  · obtain ⟨g', cap', e, hc⟩ := h.cells
    cases e
    have hgr := byM_new (old := cap) (news := news) (l := l) hN hl (Value.ownBlock (.slice (some ⟨g, 0, none⟩) l.length cap))
    refine ⟨_, _, ?_, hgr.1, hgr.2⟩
    exact run_append_grow (P := Tryz.prog) w 98 98 5 i0 (.int .u8 0) ht hi hz ⟨g, 0, none⟩ l.length cap (Lib.byteCells l) (by rw [hz1, Lib.byteCells_length]; omega) hc ad news.length c (Lib.byteCells news) (by rw [hz1, Lib.byteCells_length]; omega) hn hr (by omega) (by rw [hz2]; exact growslice_fits (by omega) (by omega))
/-- A text behind bytes. -/
theorem app_byS (h : ByM w N v l) (hN : N ≤ w.heap.size) (s : ByteArray) (hl : l.length + s.size ≤ 100000) :
    ∃ v' w', (Builtin.append_ #[98, 9] 98 #[v, .string s]).run Tryz.prog w = .ok v' w' ∧ ByM w' N v' (l ++ s.data.toList) ∧ w.grownBy w' v.ownBlock := by
  obtain ⟨i0, hi, hz, hz1, hz2⟩ := info_parts Tryz.infoByte
  have ht := Tryz.underlying98
  have hu := Tryz.underlying9
  have hsz : s.data.toList.length = s.size := Array.length_toList
  have hsc : Lib.strCells s = Lib.byteCells s.data.toList := rfl
  rcases byM_room (news := s.data.toList) h (by rw [hsz]; exact hl) with ⟨g, cap, rfl, hr, hst, hb, hg⟩ | ⟨g, cap, rfl, hr⟩
  · rw [hsz] at hr hb
    refine ⟨_, _, ?_, hb, hg⟩
    have hf := Lib.run_firstCells_string (P := Tryz.prog) w 1 s
    rw [hsc] at hf
    simp [Builtin.append_, run_underlying ht, run_underlying hu, sizeOf, typeInfo, hi, hz1, Builtin.lenOf, hr, hf, Addr.add_lit, hst]
  · rw [hsz] at hr
    obtain ⟨g', cap', e, hc⟩ := h.cells
    cases e
    have hgr := byM_new (old := cap) (news := s.data.toList) (l := l) hN (by rw [hsz]; exact hl) (Value.ownBlock (.slice (some ⟨g, 0, none⟩) l.length cap))
    rw [hsz] at hgr
    refine ⟨_, _, ?_, hgr.1, hgr.2⟩
    exact Lib.run_append_grow_string (P := Tryz.prog) w 98 9 98 5 i0 (.int .u8 0) ht hu hi hz ⟨g, 0, none⟩ l.length cap (Lib.byteCells l) (by rw [hz1, Lib.byteCells_length]; omega) hc s hr (by omega) (by rw [hz2]; exact growslice_fits (by omega) (by omega))
end
end Go.Proofs.YtdmaijmglblccaaGreatDoor

/- The tree that a lambda term is, and how it lies in memory. -/
namespace Go.Proofs.YtdmaijmglblccaaGreatDoor
open Go.RowKit

/-- A lambda term as a tree. -/
structure Lm where
  kind : Int
  idx : Int
  subs : List Lm

theorem Lm.ind {P : Lm → Prop} (h : ∀ k x l, (∀ y ∈ l, P y) → P ⟨k, x, l⟩) (t : Lm) : P t :=
  Lm.rec (motive_1 := P) (motive_2 := fun l => ∀ x ∈ l, P x) (fun k x l ih => h k x l ih) (fun x hx => by cases hx)
    (fun a l ha hl x hx => by
      rcases List.mem_cons.1 hx with e | e
      · subst e; exact ha
      · exact hl x e) t

theorem Lm.indL {P : List Lm → Prop} (h0 : P []) (h : ∀ k x l r, P l → P r → P (⟨k, x, l⟩ :: r)) (l : List Lm) : P l :=
  Lm.rec_1 (motive_1 := fun t => P t.subs) (motive_2 := P) (fun _ _ _ ih => ih) h0 (fun a l ha hl => by obtain ⟨k, x, m⟩ := a; exact h k x m l ha hl) l

/-- A list of lambda terms lies in a row of cells, three a term, in blocks that X lets. -/
def LiesM (w : World) (X : Nat → Prop) : Nat → Nat → List Lm → Prop
  | _, _, [] => True
  | b, o, ⟨k, x, l⟩ :: r => X b ∧ w.cell? ⟨b, o, none⟩ = some (.int .i64 k) ∧ w.cell? ⟨b, o + 1, none⟩ = some (.int .i64 x) ∧
      (∃ a c, w.cell? ⟨b, o + 2, none⟩ = some (.slice a l.length c) ∧ l.length ≤ 9223372036854775807 ∧ (l = [] ∨ ∃ b' o', a = some ⟨b', o', none⟩ ∧ LiesM w X b' o' l)) ∧ LiesM w X b (o + 3) r

/-- What a slice of lambda terms holds. -/
def SlM (w : World) (X : Nat → Prop) (a : Option Addr) (l : List Lm) : Prop := l.length ≤ 9223372036854775807 ∧ (l = [] ∨ ∃ b o, a = some ⟨b, o, none⟩ ∧ LiesM w X b o l)

/-- What a lambda term's value holds. -/
def MV (w : World) (X : Nat → Prop) (v : Value) (t : Lm) : Prop := ∃ a c, v = .agg #[.int .i64 t.kind, .int .i64 t.idx, .slice a t.subs.length c] ∧ SlM w X a t.subs

theorem liesM_kept {w w' : World} {X : Nat → Prop} (h : ∀ b, X b → w'.heap[b]? = w.heap[b]?) (l : List Lm) : ∀ b o, LiesM w X b o l → LiesM w' X b o l := by
  induction l using Lm.indL with
  | h0 => intro b o _; simp [LiesM]
  | h k x l r ihl ihr =>
    intro b o hl
    simp only [LiesM] at hl ⊢
    obtain ⟨hx, h1, h1', ⟨a, c, h2, h2', h3⟩, h4⟩ := hl
    refine ⟨hx, by rw [World.cell?_of_block (h b hx)]; exact h1, by rw [World.cell?_of_block (h b hx)]; exact h1', ⟨a, c, by rw [World.cell?_of_block (h b hx)]; exact h2, h2', ?_⟩, ihr _ _ h4⟩
    rcases h3 with h3 | ⟨b', o', h3, h5⟩
    · exact Or.inl h3
    · exact Or.inr ⟨b', o', h3, ihl _ _ h5⟩

theorem liesM_mono {w : World} {X Y : Nat → Prop} (h : ∀ b, X b → b < w.heap.size → Y b) (l : List Lm) : ∀ b o, LiesM w X b o l → LiesM w Y b o l := by
  induction l using Lm.indL with
  | h0 => intro b o _; simp [LiesM]
  | h k x l r ihl ihr =>
    intro b o hl
    simp only [LiesM] at hl ⊢
    obtain ⟨hx, h1, h1', ⟨a, c, h2, h2', h3⟩, h4⟩ := hl
    have hb : b < w.heap.size := by
      apply Classical.byContradiction
      intro hn
      have e : w.heap[b]? = none := Array.getElem?_eq_none (by omega)
      simp [World.cell?, e] at h1
    refine ⟨h b hx hb, h1, h1', ⟨a, c, h2, h2', ?_⟩, ihr _ _ h4⟩
    rcases h3 with h3 | ⟨b', o', h3, h5⟩
    · exact Or.inl h3
    · exact Or.inr ⟨b', o', h3, ihl _ _ h5⟩
theorem SlM.kept {w w' : World} {X : Nat → Prop} {a : Option Addr} {l : List Lm} (h : SlM w X a l) (hk : ∀ b, X b → w'.heap[b]? = w.heap[b]?) : SlM w' X a l := by
  obtain ⟨hl, h⟩ := h
  refine ⟨hl, ?_⟩
  rcases h with h | ⟨b, o, e, h⟩
  · exact Or.inl h
  · exact Or.inr ⟨b, o, e, liesM_kept hk _ _ _ h⟩

theorem SlM.mono {w : World} {X Y : Nat → Prop} {a : Option Addr} {l : List Lm} (h : SlM w X a l) (hk : ∀ b, X b → b < w.heap.size → Y b) : SlM w Y a l := by
  obtain ⟨hl, h⟩ := h
  refine ⟨hl, ?_⟩
  rcases h with h | ⟨b, o, e, h⟩
  · exact Or.inl h
  · exact Or.inr ⟨b, o, e, liesM_mono hk _ _ _ h⟩

theorem SlM.below {w w' : World} {X : Nat → Prop} {a : Option Addr} {l : List Lm} {B : Nat} (h : SlM w X a l) (hb : Below B w w') (hX : ∀ b, X b → b < w.heap.size → b < B) : SlM w' X a l := by
  have h1 : SlM w (fun b => X b ∧ b < B) a l := h.mono fun b hx hs => ⟨hx, hX b hx hs⟩
  have h2 : SlM w' (fun b => X b ∧ b < B) a l := h1.kept fun b hx => hb.block b hx.2
  exact h2.mono fun b hx _ => hx.1

theorem MV.kept {w w' : World} {X : Nat → Prop} {v : Value} {t : Lm} (h : MV w X v t) (hk : ∀ b, X b → w'.heap[b]? = w.heap[b]?) : MV w' X v t := by
  obtain ⟨a, c, e, h⟩ := h
  exact ⟨a, c, e, h.kept hk⟩

theorem MV.mono {w : World} {X Y : Nat → Prop} {v : Value} {t : Lm} (h : MV w X v t) (hk : ∀ b, X b → b < w.heap.size → Y b) : MV w Y v t := by
  obtain ⟨a, c, e, h⟩ := h
  exact ⟨a, c, e, h.mono hk⟩

theorem MV.below {w w' : World} {X : Nat → Prop} {v : Value} {t : Lm} {B : Nat} (h : MV w X v t) (hb : Below B w w') (hX : ∀ b, X b → b < w.heap.size → b < B) : MV w' X v t := by
  obtain ⟨a, c, e, h⟩ := h
  exact ⟨a, c, e, h.below hb hX⟩

theorem MV.alloc {w : World} {X : Nat → Prop} {v : Value} {t : Lm} (h : MV w X v t) (o : Obj) : MV (w.alloc o) X v t :=
  h.below ((Below.refl _ _).alloc (Nat.le_refl _) o) (fun _ _ h => h)

theorem MV.later {w w' : World} {X : Nat → Prop} {v : Value} {t : Lm} (h : MV w X v t) (hb : Below w.heap.size w w') : MV w' X v t := h.below hb (fun _ _ h => h)

theorem SlM.later {w w' : World} {X : Nat → Prop} {a : Option Addr} {l : List Lm} (h : SlM w X a l) (hb : Below w.heap.size w w') : SlM w' X a l := h.below hb (fun _ _ h => h)

/-- One of a row. -/
theorem liesM_get {w : World} {X : Nat → Prop} : ∀ (l : List Lm) (b o : Nat), LiesM w X b o l → ∀ i (h : i < l.length),
    X b ∧ w.cell? ⟨b, o + i * 3, none⟩ = some (.int .i64 l[i].kind) ∧ w.cell? ⟨b, o + i * 3 + 1, none⟩ = some (.int .i64 l[i].idx) ∧ ∃ a c, w.cell? ⟨b, o + i * 3 + 2, none⟩ = some (.slice a l[i].subs.length c) ∧ SlM w X a l[i].subs := by
  intro l
  induction l with
  | nil => intro b o _ i h; simp at h
  | cons t r ih =>
    intro b o hl i h
    obtain ⟨s, x, k⟩ := t
    simp only [LiesM] at hl
    obtain ⟨hx, h1, h1', ⟨a, c, h2, h3⟩, h4⟩ := hl
    cases i with
    | zero => exact ⟨hx, h1, h1', a, c, h2, h3⟩
    | succ i =>
      have := ih b (o + 3) h4 i (by simpa using h)
      simp only [List.getElem_cons_succ]
      rw [show o + (i + 1) * 3 = o + 3 + i * 3 by omega]
      exact this

/-- One of a slice, in a later world. -/
theorem SlM.get {w wr : World} {X : Nat → Prop} {a : Option Addr} {l : List Lm} {B : Nat} (h : SlM w X a l) (hb : Below B w wr) (hX : ∀ b, X b → b < w.heap.size → b < B) (k : Nat) (hk : k < l.length) :
    ∃ b o a' c', a = some ⟨b, o, none⟩ ∧ wr.cell? ⟨b, o + k * 3, none⟩ = some (.int .i64 l[k].kind) ∧ wr.cell? ⟨b, o + k * 3 + 1, none⟩ = some (.int .i64 l[k].idx) ∧ wr.cell? ⟨b, o + k * 3 + 2, none⟩ = some (.slice a' l[k].subs.length c') ∧ MV wr X (.agg #[.int .i64 l[k].kind, .int .i64 l[k].idx, .slice a' l[k].subs.length c']) l[k] := by
  have h' := h.below hb hX
  obtain ⟨_, h1⟩ := h'
  rcases h1 with h1 | ⟨b, o, e, h1⟩
  · subst h1; simp at hk
  · obtain ⟨_, h2, h2', a', c', h3, h4⟩ := liesM_get _ _ _ h1 k hk
    exact ⟨b, o, a', c', e, h2, h2', h3, a', c', rfl, h4⟩
end Go.Proofs.YtdmaijmglblccaaGreatDoor


/- Walks: how many knots a lambda term has. -/
namespace Go.Proofs.YtdmaijmglblccaaGreatDoor
open Go.RowKit
set_option linter.unusedSimpArgs false
set_option linter.unusedVariables false

end Go.Proofs.YtdmaijmglblccaaGreatDoor


/- Walks: may a lambda term be? -/
namespace Go.Proofs.YtdmaijmglblccaaGreatDoor
open Go.RowKit
set_option linter.unusedSimpArgs false
set_option linter.unusedVariables false
set_option maxRecDepth 8000

end Go.Proofs.YtdmaijmglblccaaGreatDoor

/- The text of a lambda term. -/
namespace Go.Proofs.YtdmaijmglblccaaGreatDoor

end Go.Proofs.YtdmaijmglblccaaGreatDoor


/- Walks: a number's decimals, as the document writes them. -/
namespace Go.Proofs.YtdmaijmglblccaaGreatDoor
open Go.RowKit
set_option linter.unusedSimpArgs false
set_option linter.unusedVariables false
set_option maxRecDepth 8000

end Go.Proofs.YtdmaijmglblccaaGreatDoor


/- Walks: names from outside, by the program and by the document. -/
namespace Go.Proofs.YtdmaijmglblccaaGreatDoor
open Go.RowKit
set_option linter.unusedSimpArgs false
set_option linter.unusedVariables false
set_option maxRecDepth 8000

end Go.Proofs.YtdmaijmglblccaaGreatDoor


/- Walks: writing into a Builder that is part of a writer, with all else as it was. -/
namespace Go.Proofs.YtdmaijmglblccaaGreatDoor
open Go.RowKit
set_option linter.unusedSimpArgs false
set_option linter.unusedVariables false

end Go.Proofs.YtdmaijmglblccaaGreatDoor

/- Rows of lambda terms. -/
namespace Go.Proofs.YtdmaijmglblccaaGreatDoor
open Go.RowKit
set_option linter.unusedSimpArgs false
set_option linter.unusedVariables false

/-- These cells are these lambda terms. -/
def RowTM (w : World) (X : Nat → Prop) : List Lm → List Value → Prop
  | [], xs => xs = []
  | t :: l, xs => ∃ a c r, xs = .int .i64 t.kind :: .int .i64 t.idx :: .slice a t.subs.length c :: r ∧ SlM w X a t.subs ∧ RowTM w X l r
theorem RowTM.len {w : World} {X : Nat → Prop} : ∀ {l : List Lm} {xs : List Value}, RowTM w X l xs → xs.length = l.length * 3
  | [], xs, h => by simp [RowTM] at h; simp [h]
  | t :: l, xs, h => by
    obtain ⟨a, c, r, rfl, _, h⟩ := h
    simp only [List.length_cons]
    rw [RowTM.len h]; omega
theorem RowTM.append {w : World} {X : Nat → Prop} : ∀ {l k : List Lm} {xs ys : List Value}, RowTM w X l xs → RowTM w X k ys → RowTM w X (l ++ k) (xs ++ ys)
  | [], k, xs, ys, h, h' => by simp [RowTM] at h; subst h; simpa using h'
  | t :: l, k, xs, ys, h, h' => by
    obtain ⟨a, c, r, rfl, hs, h⟩ := h
    exact ⟨a, c, r ++ ys, rfl, hs, RowTM.append h h'⟩
theorem RowTM.imp {w w' : World} {X Y : Nat → Prop} (hs : ∀ a l, SlM w X a l → SlM w' Y a l) : ∀ {l : List Lm} {xs : List Value}, RowTM w X l xs → RowTM w' Y l xs
  | [], xs, h => h
  | t :: l, xs, h => by
    obtain ⟨a, c, r, e, h1, h⟩ := h
    exact ⟨a, c, r, e, hs _ _ h1, RowTM.imp hs h⟩
theorem liesM_of_row {w w' : World} {X Y : Nat → Prop} (b : Nat) (hb : Y b) : ∀ (l : List Lm) (xs : List Value) (o : Nat), RowTM w X l xs → (∀ a k, SlM w X a k → SlM w' Y a k) → (∀ j u, xs[j]? = some u → w'.cell? ⟨b, o + j, none⟩ = some u) → LiesM w' Y b o l := by
  intro l
  induction l with
  | nil => intro xs o _ _ _; simp [LiesM]
  | cons t r ih =>
    intro xs o h hs hc
    obtain ⟨s, x, k⟩ := t
    obtain ⟨a, c, r', rfl, h1, h2⟩ := h
    simp only [LiesM]
    obtain ⟨h3, h4⟩ := hs _ _ h1
    refine ⟨hb, hc 0 _ rfl, hc 1 _ rfl, ⟨a, c, hc 2 _ rfl, h3, h4⟩, ih r' (o + 3) h2 hs fun j u hj => ?_⟩
    have := hc (j + 3) u (by simpa using hj)
    rwa [show o + (j + 3) = o + 3 + j by omega] at this

/-- The row so far, apart from what its terms are made of: old memory that Y lets, and new memory. -/
structure RowM (w : World) (N : Nat) (T : Nat) (Y : Nat → Prop) (v : Value) (l : List Lm) (xs : List Value) : Prop where
  own : w.ownsRow N T 3 v l.length xs
  row : RowTM w (fun b => Y b ∨ (N ≤ b ∧ some b ≠ v.ownBlock)) l xs

theorem RowM.start (w : World) (N T : Nat) (Y : Nat → Prop) : RowM w N T Y (.slice none 0 0) [] [] := ⟨World.ownsRow_nil w N T 3, rfl⟩

theorem RowM.below {w w' : World} {N T : Nat} {Y : Nat → Prop} {v : Value} {l : List Lm} {xs : List Value} (h : RowM w N T Y v l xs) (hb : Below w.heap.size w w') : RowM w' N T Y v l xs :=
  ⟨h.own.kept (w' := w') (row := none) ⟨hb.os, hb.tape, hb.output, hb.size, fun j hj _ => hb.block j hj⟩ (by rcases Option.eq_none_or_eq_some (Value.ownBlock v) with h | ⟨x, h⟩; exact Or.inl h; exact Or.inr (by rw [h]; simp)),
   h.row.imp fun a l h => h.later hb⟩

theorem RowM.ne {w : World} {N T : Nat} {Y : Nat → Prop} {v : Value} {l : List Lm} {xs : List Value} (h : RowM w N T Y v l xs) {b : Nat} (hb : b < N) : some b ≠ v.ownBlock := fun e => by
  have := (h.own.lt b e.symm).1; omega

/-- One more: the term's cells have been laid into a block of their own, and appended. -/
theorem RowM.push {w w1 w2 w3 : World} {N T : Nat} {Y : Nat → Prop} {v : Value} {l : List Lm} {xs : List Value} (h : RowM w N T Y v l xs) (hN : N ≤ w.heap.size) (hY : ∀ b, Y b → b < N) (hb : Below w.heap.size w w1) {s s2 : Int} {a : Option Addr} {n c : Nat} {t : Lm}
    (ht : MV w1 (fun b => Y b ∨ w.heap.size ≤ b) (.agg #[.int .i64 s, .int .i64 s2, .slice a n c]) t) (o : Obj) (hw2 : w2 = w1.alloc o) {g cap : Nat}
    (hown : w3.ownsRow N T 3 (.slice (some ⟨g, 0, none⟩) (l.length + 1) cap) (l.length + 1) (xs ++ [.int .i64 s, .int .i64 s2, .slice a n c])) (hg : w2.grownBy w3 v.ownBlock) (hg1 : v.ownBlock = some g ∨ g = w2.heap.size) :
    RowM w3 N T Y (.slice (some ⟨g, 0, none⟩) (l.length + 1) cap) (l ++ [t]) (xs ++ [.int .i64 s, .int .i64 s2, .slice a n c]) := by
  subst hw2
  have hlt := h.own.lt
  refine ⟨by simpa using hown, ?_⟩
  have hsz : w1.heap.size ≤ (w1.alloc o).heap.size := by simp
  have hbs := hb.size
  have hgN : N ≤ g := by
    rcases hg1 with e | e
    · exact (hlt g e).1
    · simp at e; omega
  refine RowTM.append (h.row.imp fun a' k' hs => ?_) ?_
  · have h1 : SlM w (fun b => (Y b ∨ (N ≤ b ∧ some b ≠ v.ownBlock)) ∧ b < w.heap.size) a' k' := hs.mono fun b h1 h2 => ⟨h1, h2⟩
    have h2 : SlM w3 (fun b => (Y b ∨ (N ≤ b ∧ some b ≠ v.ownBlock)) ∧ b < w.heap.size) a' k' := h1.kept fun b hx => by
      have hne : some b ≠ v.ownBlock := by
        rcases hx.1 with hy | hy
        · exact h.ne (hY b hy)
        · exact hy.2
      rw [hg.block b (by simp; omega) hne, Below.heap_alloc _ _ _ (by omega), hb.block b hx.2]
    refine h2.mono fun b hx _ => ?_
    rcases hx.1 with hy | hy
    · exact Or.inl hy
    · refine Or.inr ⟨hy.1, fun e => ?_⟩
      simp [Value.ownBlock] at e
      rcases hg1 with e' | e'
      · exact hy.2 (by rw [e', e])
      · simp at e'; omega
  · obtain ⟨a2, c2, e, hs⟩ := ht
    simp at e
    obtain ⟨rfl, rfl, rfl, rfl, rfl⟩ := e
    refine ⟨a, c, [], rfl, ?_, rfl⟩
    have h1 : SlM w1 (fun b => (Y b ∨ w.heap.size ≤ b) ∧ b < w1.heap.size) a t.subs := hs.mono fun b h1 h2 => ⟨h1, h2⟩
    have h2 : SlM w3 (fun b => (Y b ∨ w.heap.size ≤ b) ∧ b < w1.heap.size) a t.subs := h1.kept fun b hx => by
      have hne : some b ≠ v.ownBlock := by
        rcases hx.1 with hy | hy
        · exact h.ne (hY b hy)
        · intro e; have := (hlt b e.symm).2; omega
      rw [hg.block b (by simp; omega) hne, Below.heap_alloc _ _ _ hx.2]
    refine h2.mono fun b hx _ => ?_
    rcases hx.1 with hy | hy
    · exact Or.inl hy
    · refine Or.inr ⟨by omega, fun e => ?_⟩
      simp [Value.ownBlock] at e
      rcases hg1 with e' | e'
      · have := (hlt g e').2; omega
      · simp at e'; omega

/-- A store into a block that is none of the row's. -/
theorem RowM.setCell {w : World} {N T : Nat} {Y : Nat → Prop} {v : Value} {l : List Lm} {xs : List Value} (h : RowM w N T Y v l xs) {b i : Nat} (hb : b < N) (hY : ¬ Y b) (u : Value) : RowM (w.setCell ⟨b, i, none⟩ u) N T Y v l xs :=
  ⟨ownsRow_setCell_below h.own (by simpa using hb) u, h.row.imp fun a k hs => hs.kept fun c hc => Below.heap_setCell _ _ _ _ (by
    simp
    rcases hc with hc | hc
    · intro e; subst e; exact hY hc
    · omega)⟩

theorem RowM.sl {w : World} {N T : Nat} {Y : Nat → Prop} {v : Value} {l : List Lm} {xs : List Value} (h : RowM w N T Y v l xs) : ∃ a c, v = .slice a l.length c ∧ SlM w (fun b => Y b ∨ N ≤ b) a l := by
  have hml : l.length ≤ 9223372036854775807 := by
    rcases h.own.2 with ⟨_, h0⟩ | ⟨g, cap, cur, _, _, _, h1, h2, _⟩
    · omega
    · unfold maxLen at h2; omega
  by_cases h0 : 0 < l.length
  · obtain ⟨g, cap, rfl, hg, hlt, hc⟩ := owned_val h.own h0
    exact ⟨_, _, rfl, hml, Or.inr ⟨g, 0, rfl, liesM_of_row g (Or.inr hg) l xs 0 h.row (fun a k hs => hs.mono fun b hb _ => hb.imp id (fun h => h.1)) (fun j u hj => by simpa using hc j u hj)⟩⟩
  · have e : l = [] := List.length_eq_zero_iff.1 (by omega)
    subst e
    rcases h.own.2 with ⟨hv, _⟩ | ⟨g, cap, cur, hv, _⟩
    · exact ⟨none, 0, hv, hml, Or.inl rfl⟩
    · exact ⟨_, _, hv, hml, Or.inl rfl⟩

end Go.Proofs.YtdmaijmglblccaaGreatDoor


/- Walks: may a lambda term be, as the document says. -/
namespace Go.Proofs.YtdmaijmglblccaaGreatDoor
open Go.RowKit
set_option linter.unusedSimpArgs false
set_option linter.unusedVariables false
set_option maxRecDepth 8000

end Go.Proofs.YtdmaijmglblccaaGreatDoor


/- What a round that appends a lambda term does. -/
namespace Go.Proofs.YtdmaijmglblccaaGreatDoor
open Go.RowKit
set_option linter.unusedSimpArgs false
set_option linter.unusedVariables false
set_option maxRecDepth 8000

end Go.Proofs.YtdmaijmglblccaaGreatDoor

/- Lambda terms: what is bound from outside is moved; a term is put in (plain). -/
namespace Go.Proofs.YtdmaijmglblccaaGreatDoor
open Go.RowKit
set_option linter.unusedSimpArgs false
set_option linter.unusedVariables false
set_option maxRecDepth 8000

/-- No number is great. -/
def BndM : List Lm → Prop
  | [] => True
  | ⟨_, x, l⟩ :: r => (0 ≤ x ∧ x ≤ 100000) ∧ BndM l ∧ BndM r
theorem BndM_nil : BndM [] := by simp [BndM]
theorem BndM_cons (k x : Int) (l r : List Lm) : BndM (⟨k, x, l⟩ :: r) ↔ (0 ≤ x ∧ x ≤ 100000) ∧ BndM l ∧ BndM r := by simp [BndM]
theorem BndM.at : ∀ {l : List Lm} (k : Nat) (h : k < l.length), BndM l → BndM [l[k]]
  | [], k, h, _ => by simp at h
  | ⟨s, x, l⟩ :: r, 0, h, hb => by
    rw [BndM_cons] at hb
    exact (BndM_cons s x l []).2 ⟨hb.1, hb.2.1, BndM_nil⟩
  | ⟨s, x, l⟩ :: r, k + 1, h, hb => by
    rw [BndM_cons] at hb
    have := BndM.at (l := r) k (by simpa using h) hb.2.2
    simpa using this
end Go.Proofs.YtdmaijmglblccaaGreatDoor


/- Walks: what is bound from outside is moved, as the document says. -/
namespace Go.Proofs.YtdmaijmglblccaaGreatDoor
open Go.RowKit
set_option linter.unusedSimpArgs false
set_option linter.unusedVariables false
set_option maxRecDepth 8000

end Go.Proofs.YtdmaijmglblccaaGreatDoor


/- Walks: the text of a lambda term, as the document writes it. -/
namespace Go.Proofs.YtdmaijmglblccaaGreatDoor
open Go.RowKit
set_option linter.unusedSimpArgs false
set_option linter.unusedVariables false
set_option maxRecDepth 8000

end Go.Proofs.YtdmaijmglblccaaGreatDoor


/- Walks: the text of a lambda term, as the program writes it. -/
namespace Go.Proofs.YtdmaijmglblccaaGreatDoor
open Go.RowKit
set_option linter.unusedSimpArgs false
set_option linter.unusedVariables false
set_option maxRecDepth 8000

/-- The library's table of powers, whatever is done from block B on. -/
def Tb (B : Nat) (w : World) : Prop := Lib.TabBelow Tryz.prog B w "internal/strconv.uint64pow10" .u64 Lib.pow10Tab
theorem Tb.on {B : Nat} {w w1 : World} (h : Tb B w) (hb : Below B w w1) : Tb B w1 := Lib.TabBelow.on h hb
theorem MV.bfr {w w' : World} {X : Nat → Prop} {v : Value} {t : Lm} {B : Nat} (h : MV w X v t) (hb : Below B w w') (hX : ∀ x, X x → x < B) : MV w' X v t := h.below hb (fun b hb _ => hX b hb)
theorem LV.bfr {w w' : World} {Y : Nat → Prop} {v : Value} {l : List ByteArray} {B : Nat} (h : LV Value.string w Y v l) (hb : Below B w w') (hX : ∀ x, Y x → x < B) : LV Value.string w' Y v l := h.below hb (fun b hb _ => hX b hb)
end Go.Proofs.YtdmaijmglblccaaGreatDoor

/- Walks: a number's digits behind bytes (strconv.AppendInt). -/
namespace Go.Proofs.YtdmaijmglblccaaGreatDoor
open Go.RowKit Go.Sort Go.Lib
set_option linter.unusedSimpArgs false
set_option linter.unusedVariables false
set_option maxRecDepth 8000

/-- Bytes with digits behind them. -/
def AiP (N : Nat) (l : List UInt8) (u : Nat) (w : World) (e : Ending) (w' : World) : Prop := ∃ v', e = .returned v' ∧ ByM w' N v' (l ++ Lib.decDigits u) ∧ Below N w w'
theorem dig_size (u : Nat) : (⟨(Lib.decDigits u).toArray⟩ : ByteArray).size = (Lib.decDigits u).length := by simp [ByteArray.size]
set_option maxHeartbeats 4000000 in
theorem appUint_small (N : Nat) (l : List UInt8) (u : Nat) (hu : u < 100) (v : Value) (w : World) (h : ByM w N v l) (hN : N ≤ w.heap.size) (hl : l.length ≤ 90000) :
    Calls Tryz.prog 114 #[v, .int .u64 (u : Int), .int .i64 10] w (AiP N l u w) := by
  have hlen : (Lib.decDigits u).length ≤ 20 := by
    rw [Lib.decDigits_length]
    by_cases h10 : u < 10
    · rw [Lib.nDigits_small h10]; omega
    · rw [Lib.nDigits_big h10, Lib.nDigits_small (show u / 10 < 10 by omega)]; omega
  obtain ⟨v', w', hr, hb, hg⟩ := app_byS h hN ⟨(Lib.decDigits u).toArray⟩ (by rw [dig_size]; omega)
  have HR := hide hr
  have HB := hide hb
  have HG : Hid (Below N w w') := (Below.refl N w).grown hg hN fun k hk => (h.lt k hk).1
  have hui : (u : Int) < 100 := by omega
  obtain ⟨a, c, rfl⟩ := h.shape
  clear hr hb hg h hlen
  go_enter Tryz.func114, Tryz.ntmps114
  go_wp2_with fail
  refine (Tryz.internal_strconv_small u hu _).mono ?_
  rintro e w1 ⟨rfl, rfl⟩
  go_wp2_with (at_builtin; refine wpList_append_eq rfl _ _ _ _ rfl rfl rfl HR.out ?_)
  go_ret
  exact ⟨v', rfl, by simpa using HB.out, HG.out⟩
set_option maxHeartbeats 8000000 in
theorem appUint_big (N : Nat) (l : List UInt8) (u : Nat) (hu : 100 ≤ u) (hu2 : u < 100000) (v : Value) (w : World) (h : ByM w N v l) (hN : N ≤ w.heap.size) (hl : l.length ≤ 90000) (hT : Tb N w) :
    Calls Tryz.prog 114 #[v, .int .u64 (u : Int), .int .i64 10] w (AiP N l u w) := by
  have hu1 : 1 ≤ u := by omega
  have hu64 : u < 18446744073709551616 := by omega
  have hnd20 : Lib.nDigits u ≤ 20 := by have := Lib.numDigits_eq u hu1 hu64; split at this <;> omega
  have hal : Tryz.prog.arrayLen 150 = 24 := by kernel_rfl
  have hsl : ∀ W, (Instr.sliceAt 150 (.pointer (some ⟨w.heap.size, 0, none⟩)) none (some (.int .i64 (Lib.nDigits u : Int))) none).run Tryz.prog W = .ok (.slice (some ⟨w.heap.size, 0, none⟩) (Lib.nDigits u) 24) W := fun W => by
    rw [run_sliceAt_array_h W 150 ⟨w.heap.size, 0, none⟩ (by kernel_rfl) .i64 (Lib.nDigits u : Int) (by omega) (by rw [hal]; omega)]
    go_simp
  have hH0 := Lib.holds_zero0 w 150 (Lib.nDigits u) (by omega)
  have hfmt := Tryz.internal_strconv_formatBase10 w.heap.size 0 24 u (Array.replicate (Lib.nDigits u) 0) (w.alloc (.cells Lib.zeros24 150)) hH0 (by rw [Array.size_replicate]; exact Lib.lt_pow_nDigits u) hu64 (by rw [Array.size_replicate]; omega)
  rw [Array.size_replicate] at hfmt
  have HH0 := hide hH0
  have HF := hide hfmt
  have HBY := hide h
  have iu : ¬ (u : Int) < 100 := by omega
  obtain ⟨a, c, rfl⟩ := h.shape
  clear hH0 hal hfmt h
  go_enter Tryz.func114, Tryz.ntmps114
  go_wp2_with fail
  refine (Tryz.internal_strconv_numDigits u hu1 hu64 _ (Lib.tabIs_alloc hT.here _)).mono ?_
  rintro e w' ⟨rfl, rfl⟩
  go_wp2_with fail
  refine HF.out.mono ?_
  rintro e w' ⟨rfl, k, v', dk, rfl, hF⟩
  have hcells : ∀ j u', (Lib.byteCells (Lib.decDigits u))[j]? = some u' → ((putRow (fun (b : UInt8) => Value.int .u8 (b.toNat : Int)) (w.alloc (.cells Lib.zeros24 150)) w.heap.size 0 dk).drewN k).cell? ((⟨w.heap.size, 0, none⟩ : Addr).add j) = some u' := by
    intro j u' hj
    have hjl : j < (Lib.decDigits u).length := by
      have h5 := (List.getElem?_eq_some_iff.1 hj).1
      rwa [Lib.byteCells_length] at h5
    have e5 : (Lib.byteCells (Lib.decDigits u))[j]? = some (Value.int .u8 ((Lib.decDigits u)[j].toNat : Int)) := by simp [Lib.byteCells, hjl]
    rw [e5] at hj
    cases hj
    rw [Lib.row_is_numeral hF j hjl, Lib.add_plain, World.cell?_drewN]
    exact cell?_putRow (fun (b : UInt8) => Value.int .u8 (b.toNat : Int)) _ w.heap.size 0 _ dk HH0.out (by rw [hF.size, Array.size_replicate]) j (by rw [hF.size]; rw [Lib.decDigits_length] at hjl; exact hjl)
  obtain ⟨os, eo⟩ := Lib.fin_at w (.cells Lib.zeros24 150) dk k 0
  have hnx : Below w.heap.size w ((putRow (fun (b : UInt8) => Value.int .u8 (b.toNat : Int)) (w.alloc (.cells Lib.zeros24 150)) w.heap.size 0 dk).drewN k) := by rw [eo]; exact Lib.below_grow w.heap.size w (Nat.le_refl _) k os
  generalize (putRow (fun (b : UInt8) => Value.int .u8 (b.toNat : Int)) (w.alloc (.cells Lib.zeros24 150)) w.heap.size 0 dk).drewN k = W2 at hcells hnx ⊢
  have h2 := HBY.out.later hnx
  obtain ⟨v2, w3, hr, hb, hg⟩ := app_byM h2 (Nat.le_trans hN hnx.size) ⟨w.heap.size, 0, none⟩ 24 (Lib.decDigits u) hcells (by rw [Lib.decDigits_length]; omega)
  rw [Lib.decDigits_length] at hr
  have HR := hide hr
  have HB := hide hb
  have HG : Hid (Below N w w3) := (hnx.mono hN).grown hg (Nat.le_trans hN hnx.size) fun k hk => (h2.lt k hk).1
  clear hr hb hg eo HH0 HF hcells hnx h2
  go_wp2_with (at_builtin; refine wpList_append_eq rfl _ _ _ _ rfl rfl rfl HR.out ?_)
  go_ret
  exact ⟨v2, rfl, HB.out, HG.out⟩
theorem appUint_any (N : Nat) (l : List UInt8) (u : Nat) (hu : u < 100000) (v : Value) (w : World) (h : ByM w N v l) (hN : N ≤ w.heap.size) (hl : l.length ≤ 90000) (hT : Tb N w) :
    Calls Tryz.prog 114 #[v, .int .u64 (u : Int), .int .i64 10] w (AiP N l u w) := by
  by_cases h1 : u < 100
  · exact appUint_small N l u h1 v w h hN hl
  · exact appUint_big N l u (by omega) hu v w h hN hl hT
set_option maxHeartbeats 4000000 in
theorem appInt1_any (N : Nat) (l : List UInt8) (u : Nat) (hu : u < 100000) (v : Value) (w : World) (h : ByM w N v l) (hN : N ≤ w.heap.size) (hl : l.length ≤ 90000) (hT : Tb N w) :
    Calls Tryz.prog 104 #[v, .int .i64 (u : Int), .int .i64 10] w (AiP N l u w) := by
  have HC := hide (appUint_any N l u hu v w h hN hl hT)
  obtain ⟨a, c, rfl⟩ := h.shape
  have hwr : IntKind.u64.wrap (u : Int) = (u : Int) := by rw [IntKind.wrap_u64]; omega
  have hng : ¬ (u : Int) < 0 := by omega
  clear h hT
  go_enter Tryz.func104, Tryz.ntmps104
  go_wp2_with fail
  refine HC.out.mono ?_
  rintro e w1 ⟨v1, rfl, hb, hbl⟩
  go_wp2_with fail
  go_ret
  exact ⟨v1, rfl, hb, hbl⟩
set_option maxHeartbeats 4000000 in
theorem appInt_any (N : Nat) (l : List UInt8) (u : Nat) (hu : u < 100000) (v : Value) (w : World) (h : ByM w N v l) (hN : N ≤ w.heap.size) (hl : l.length ≤ 90000) (hT : Tb N w) :
    Calls Tryz.prog 78 #[v, .int .i64 (u : Int), .int .i64 10] w (AiP N l u w) := by
  have HC := hide (appInt1_any N l u hu v w h hN hl hT)
  obtain ⟨a, c, rfl⟩ := h.shape
  clear h hT
  go_enter Tryz.func78, Tryz.ntmps78
  go_wp2_with fail
  refine HC.out.mono ?_
  rintro e w1 ⟨v1, rfl, hb, hbl⟩
  go_wp2_with fail
  go_ret
  exact ⟨v1, rfl, hb, hbl⟩
end Go.Proofs.YtdmaijmglblccaaGreatDoor

/- Walks: a term's sign (closure's classes.sign). -/
namespace Go.Proofs.YtdmaijmglblccaaGreatDoor
open Go.RowKit
set_option linter.unusedSimpArgs false
set_option linter.unusedVariables false
set_option maxRecDepth 8000

theorem byM_back {w : World} {N : Nat} {v : Value} {l : List UInt8} (h : ByM w N v l) : (convert 98 9 v).run Tryz.prog w = .ok (.string ⟨l.toArray⟩) w := by
  obtain ⟨g, cap, rfl, hc⟩ := h.cells
  refine run_convert_bytes_back (P := Tryz.prog) w 98 9 5 ⟨g, 0, none⟩ cap l Tryz.underlying98 Tryz.underlying5 Tryz.underlying9 fun j hj => ?_
  exact hc j _ (by simp [Lib.byteCells, List.getElem?_map, List.getElem?_eq_getElem hj])
theorem dec_lenK (u : Nat) (h : u < 100000) : (Lib.decDigits u).length ≤ 20 := by
  rw [Lib.decDigits_length]
  by_cases h0 : 1 ≤ u
  · have := Lib.numDigits_eq u h0 (by omega)
    split at this <;> omega
  · have : u = 0 := by omega
    subst this
    rw [Lib.nDigits_small (by omega)]
    omega
theorem sgW_len (f : Nat → Nat) (hf : ∀ b, f b < 100000) : ∀ l : List Nat, (sgW (l.map f)).length ≤ 21 * l.length
  | [] => Nat.le_refl _
  | c :: r => by
    have h1 := dec_lenK (f c) (hf c)
    have h2 := sgW_len f hf r
    simp only [List.map_cons, sgW, List.length_cons, List.length_append]
    omega
theorem sgW_snoc (f : Nat → Nat) (l : List Nat) (j : Nat) (h : j < l.length) : sgW ((l.take (j + 1)).map f) = sgW ((l.take j).map f) ++ ([32] ++ Lib.decDigits (f l[j])) := by
  rw [List.take_succ_eq_append_getElem h, List.map_append, sgW_app]
  simp [sgW]
set_option maxHeartbeats 4000000 in
theorem sign_any {BT N B r : Nat} {X : Nat → Prop} {w : World} {o : Nat → Oid} {k : Kl} {m : Km} (h : KlAt N B r X w o k m) (hT : Tb BT w) (hBT : BT ≤ w.heap.size) {id : Oid} {v : Value} {bs : List Nat} (hb : Rwo w N o id 3 1 v (iL bs).length (iL bs)) (hlt : ∀ b ∈ bs, b < k.cl.length) (hc : ∀ b, k.C b < 100000) (s : ByteArray) (hs : s.size ≤ 1000) (hbl : bs.length ≤ 1000) :
    Calls Tryz.prog 61 #[.pointer (some ⟨B, 0, none⟩), .string s, v] w fun e w' => e = .returned (.string (sgn s (bs.map k.C))) ∧ Below w.heap.size w w' := by
  obtain ⟨a, c, rfl⟩ := hb.shape
  rw [iL_len] at hb
  obtain ⟨sv, w1, hconv, hby, hb1⟩ := byM_conv w w.heap.size s (Nat.le_refl _) (by omega)
  have HK := hide h
  have HB := hide hb
  have HLT := hide hlt
  have HC := hide hc
  have HT := hide (show Tb w.heap.size w from fun w' h => hT w' (h.mono hBT))
  have HBY : Hid (ByM w1 w.heap.size sv (s.data.toList ++ sgW ((bs.take 0).map k.C))) := by unfold Hid; simpa [sgW] using hby
  have HB1 := hide hb1
  have hsz : s.data.toList.length = s.size := Array.length_toList
  rw [iL_len]
  clear hlt hc hT hBT hby hb1 hb h
  go_enter Tryz.func61, Tryz.ntmps61
  go_wp2_with fail
  clear hconv
  go_loopw [7, 14] (fun v i wr => ∃ j : Nat, j ≤ bs.length ∧ i = .int .i64 (j : Int) ∧ ByM wr w.heap.size v (s.data.toList ++ sgW ((bs.take j).map k.C)) ∧ Below w.heap.size w wr) (fun v i wr => bs.length - (intOf i).toNat)
  case atStart => exact ⟨0, Nat.zero_le _, rfl, HBY.out, HB1.out⟩
  case round =>
    obtain ⟨j, hj, rfl, hby, hbw⟩ := hrel
    have HBW := hide hbw
    have HBYR := hide hby
    by_cases hin : j < bs.length
    · have hji : (j : Int) < (bs.length : Int) := by omega
      obtain ⟨g, u, rfl, hu, hcell, -, -, -, -⟩ := (HB.out.later hbw).at hin
      have hu2 := iL_at hu
      rw [gd_get hin] at hu2
      subst hu2
      have hbj := HLT.out bs[j] (List.getElem_mem hin)
      have hlen : (s.data.toList ++ sgW ((bs.take j).map k.C)).length ≤ 80000 := by
        have := sgW_len k.C HC.out (bs.take j)
        rw [List.length_append, hsz]
        rw [List.length_take] at this
        omega
      have hcj := HC.out bs[j]
      have hz := hbw.size
      obtain ⟨v2, w2, hr2, hby2, hg2⟩ := app_byM (hby.later ((Below.refl _ _).alloc (Nat.le_refl _) (.cells #[.int .u8 32] 5))) (by simp; omega) ⟨wr.heap.size, 0, none⟩ 1 [32] (World.news_of_block (cs := #[.int .u8 32]) (heap_alloc_new wr _)) (by rw [show ([32] : List UInt8).length = 1 from rfl]; omega)
      have hlt2 := hby.lt
      have HB2 : Hid (Below w.heap.size w w2) := (hbw.alloc hz _).grown hg2 (by simp; omega) fun q hq => (hlt2 q hq).1
      obtain ⟨a2, c2, rfl⟩ := hby2.shape
      have HR2 := hide hr2
      have K2 := HK.out.later HB2.out
      have bx := K2.box
      have b2 := bx.cell 2
      simp at b2
      have hr := K2.r2
      obtain ⟨ca, cc, hv2⟩ := hr.shape
      rw [hv2] at b2 hr
      rw [iL_len] at b2 hr
      obtain ⟨gc, uc, rfl, huc, hcc, -, -, -, -⟩ := hr.at (i := bs[j]) hbj
      have hue : uc = iV (k.C bs[j]) := iL_at huc
      subst hue
      have hbji : ((bs[j] : Nat) : Int) < (k.cl.length : Int) := by omega
      have HTW : Hid (Tb w.heap.size w2) := HT.out.on HB2.out
      have HAI := hide (appInt_any w.heap.size ((s.data.toList ++ sgW ((bs.take j).map k.C)) ++ [32]) (k.C bs[j]) hcj _ w2 hby2 (by have := HB2.out.size; omega) (by simp at hlen ⊢; omega) HTW.out)
      have HE : Hid ((s.data.toList ++ sgW ((bs.take j).map k.C)) ++ [32] ++ Lib.decDigits (k.C bs[j]) = s.data.toList ++ sgW ((bs.take (j + 1)).map k.C)) := by unfold Hid; rw [sgW_snoc k.C bs j hin]; simp
      have hl1 : ((s.data.toList ++ sgW ((bs.take j).map k.C)) ++ [32]).length < 9223372036854775807 := by simp at hlen ⊢; omega
      clear hu huc hby hbw hz hr2 hby2 hg2 hlt2 hr bx K2 hlen
      generalize (s.data.toList ++ sgW ((bs.take j).map k.C)) ++ [32] = L at *
      generalize bs[j] = bj at *
      go_wp2_with (at_builtin; refine wpList_append_eq rfl _ _ _ _ rfl rfl rfl HR2.out ?_)
      refine HAI.out.mono ?_
      rintro e w3 ⟨v3, rfl, hby3, hb3⟩
      have HB3 := hide (HB2.out.trans hb3)
      have HBY3 := hide hby3
      rw [HE.out] at HBY3
      clear hby3 hb3
      go_wp2_with fail
      go_roundw
      case rel => exact ⟨j + 1, hin, by go_num, HBY3.out, HB3.out⟩
      case measure => simp [intOf]; omega
    · have hji : ¬ (j : Int) < (bs.length : Int) := by omega
      have hbk := byM_back hby
      have HE : Hid ((⟨(s.data.toList ++ sgW ((bs.take j).map k.C)).toArray⟩ : ByteArray) = sgn s (bs.map k.C)) := by unfold Hid sgn; rw [List.take_of_length_le (by omega)]
      rw [HE.out] at hbk
      clear hby hbw HE
      go_wp2_with fail
      go_ret
      exact ⟨rfl, HBW.out⟩
end Go.Proofs.YtdmaijmglblccaaGreatDoor

/- Walks: a term right above another one is noted (closure's classes.noteAbove). -/
namespace Go.Proofs.YtdmaijmglblccaaGreatDoor
open Go.RowKit
set_option linter.unusedSimpArgs false
set_option linter.unusedVariables false
set_option maxRecDepth 8000

theorem step_append_eqK {P : Program} {ops : Array Oper} {o : Oper} {a : Act} {K : Act → World → Prop} {Q : Exit → Act → World → Prop} {E : Prop} {w w' : World} {v u v' : Value} (hgd : o.guard = none) (s x : Operand) (t t' : TypeId)
    (ho : o.op = .call { callee := .builtin .append, args := #[s, x], argTypes := #[t, t'] }) (hs : a.eval s = v) (hx : a.eval x = u)
    (hr : (Builtin.append_ #[t, t'] o.type #[v, u]).run P w = .ok v' w') (h : K (a.put o.dst v') w') : if Region.wanted o (yielded ops a.tmps) = true then Oper.wp P o a w K Q else E := by
  have hw : Region.wanted o (yielded ops a.tmps) = true := by simp [Region.wanted, hgd]
  rw [if_pos hw]
  unfold Oper.wp execOp
  simp only [ho, resolve, invoke, builtin, Sem.run_bind, Sem.run_pure, Result.andThen_ok, List.map_toArray, List.map_cons, List.map_nil, hs, hx, hr]
  exact h
theorem last_none {l : List Nat} {p n : Nat} (h : l.length = p + 1) : l.getLast? = some n ↔ gd l 0 p = n := by
  rw [List.getLast?_eq_getElem?, h, Nat.add_sub_cancel]
  unfold gd
  have hp : p < l.length := by omega
  rw [List.getElem?_eq_getElem hp]
  simp
/-- One more in a row within above. -/
theorem note_step {N B r : Nat} {X : Nat → Prop} {w : World} {o : Nat → Oid} {k : Kl} {m : Km} (h : KlAt N B r X w o k m) {b : Nat} (n : Nat) (hb : b < k.ab.length) (hl : (k.A b).length ≤ 900000) :
    ∃ g cap w3 g4 c4 va o', m.v4 = .slice (some ⟨g4, 0, none⟩) m.va.length c4 ∧ (Builtin.append_ #[45, 45] 45 #[gd m.va nV b, .slice (some ⟨w.heap.size, 0, none⟩) 1 1]).run Tryz.prog (w.alloc (.cells #[iV n] 3)) = .ok (.slice (some ⟨g, 0, none⟩) ((k.A b).length + 1) cap) w3 ∧
      Blk w3 B #[m.v0, m.v1, m.v2, m.v3, m.v4, .map (some r)] 65 ∧ w3.cell? ⟨g4, b, none⟩ = some (gd m.va nV b) ∧ w3.frozen? ⟨g4, b, none⟩ = false ∧ g4 ≠ B ∧
      KlAt N B r X (w3.setCell ⟨g4, b, none⟩ (.slice (some ⟨g, 0, none⟩) ((k.A b).length + 1) cap)) o' { k with ab := k.ab.set b (k.A b ++ [n]) } { m with va := va } ∧ Exo o w o' (w3.setCell ⟨g4, b, none⟩ (.slice (some ⟨g, 0, none⟩) ((k.A b).length + 1) cap)) := by
  obtain ⟨g, cap, w3, hr, ho, hf⟩ := app_cell Tryz.underlying45 Tryz.infoInt rfl (by decide) (h.i4 b hb) h.nN (by rw [iL_len]; omega) (iV n) rfl
  rw [iL_len] at hr ho hf
  have e : iL (k.A b) ++ [iV n] = iL (k.A b ++ [n]) := by simp [iL]
  rw [e] at ho
  obtain ⟨g4, c4, h1, h2, h3, h4, h5⟩ := h.row_ab hb hf ho
  have hB := hf.blk B h.box.lt (by rw [h.oB]; simp)
  refine ⟨g, cap, w3, g4, c4, _, _, h1, hr, hB.1.trans h.box, h2, h3, fun e => ?_, h4, h5.exo (by simp)⟩
  have h6 := h.r4.2 g4 (by rw [h1]; rfl)
  rw [e, h.oB] at h6
  cases h6
set_option maxHeartbeats 4000000 in
theorem note_any {N B r : Nat} {X : Nat → Prop} {w : World} {o : Nat → Oid} {k : Kl} {m : Km} (h : KlAt N B r X w o k m) {b n : Nat} (hb : b < k.ab.length) (hl : (k.A b).length ≤ 900000) :
    Calls Tryz.prog 62 #[.pointer (some ⟨B, 0, none⟩), .int .i64 (b : Int), .int .i64 (n : Int)] w fun e w' => e = .returned (.tuple #[]) ∧ ∃ o' va, KlAt N B r X w' o' (k.note b n) { m with va := va } ∧ Exo o w o' w' := by
  have row := h.i4 b hb
  obtain ⟨a, c, hv⟩ := row.shape
  have h4 := h.r4
  obtain ⟨a4, c4, hv4⟩ := h4.shape
  rw [hv4] at h4
  obtain ⟨g4, u4, rfl, hu4, hc4, -, -, -, -⟩ := h4.at (i := b) (by rw [h.l4]; exact hb)
  have hue : u4 = gd m.va nV b := by unfold gd; rw [hu4]; rfl
  rw [hue, hv, iL_len] at hc4
  have bx4 : w.cell? ⟨B, 4, none⟩ = some (.slice (some ⟨g4, 0, none⟩) m.va.length c4) := by rw [h.box.cell]; simp [hv4]
  have hbi : ((b : Nat) : Int) < (m.va.length : Int) := by rw [h.l4]; omega
  have HH := hide h
  have HB := hide hb
  have HLL := hide hl
  obtain ⟨q, hq⟩ : ∃ q, q = (k.A b).length := ⟨_, rfl⟩
  have HQ := hide hq
  rw [hv, iL_len, ← hq] at row
  rw [← hq] at hc4
  have HV := hide hv
  have HV4 := hide hv4
  have hz : Below w.heap.size w w.drew := (Below.refl _ _).drew
  obtain ⟨g, cap, w3, g4', c4', va, o', n1, n2, n3, n4, n5, n6, n7, n8⟩ := note_step (h.later hz) n hb hl
  rw [hv4] at n1
  obtain ⟨rfl, rfl⟩ : g4 = g4' ∧ c4 = c4' := by cases n1; exact ⟨rfl, rfl⟩
  rw [hv, iL_len, ← hq] at n2 n4
  rw [← hq] at n7 n8
  have HR2 := hide n2
  have HB3 := hide n3
  have HC3 := hide n4
  have HF3 := hide n5
  have HN := hide n6
  have HK := hide n7
  have HX : Hid (Exo o w o' (w3.setCell ⟨g4, b, none⟩ (.slice (some ⟨g, 0, none⟩) (q + 1) cap))) := (Exo.below hz fun _ _ => rfl).trans n8
  have HD : Hid (w.drew.cell? ⟨B, 4, none⟩ = some (.slice (some ⟨g4, 0, none⟩) m.va.length c4)) := bx4
  clear h4 hu4 hue hl h hq hv hv4 n1 n2 n3 n4 n5 n6 n7 n8 hb
  go_enter Tryz.func62, Tryz.ntmps62
  by_cases hq0 : q = 0
  · subst hq0
    have HE : Hid (k.note b n = { k with ab := k.ab.set b (k.A b ++ [n]) }) := by
      have h0 : k.A b = [] := List.eq_nil_of_length_eq_zero HQ.out.symm
      unfold Hid Kl.note
      rw [if_neg (by rw [h0]; simp)]
    clear row
    go_upto_region 2 with fail
    refine wp_region_held_drew (S := fun w' => w'.cell? ⟨B, 4, none⟩ = some (.slice (some ⟨g4, 0, none⟩) m.va.length c4)) (by kernel_rfl) HD.out (fun hHeld => ?_)
    clear bx4 hc4
    generalize w.drew = wd at *
    refine wpAnyH_take (i := 0) (v := ?_) rfl (by kernel_rfl) (by kernel_rfl) (by kernel_rfl) (fun _ _ _ h => h) (Or.inl ⟨by rfl, ?_⟩) (by assumption) ?_
    rotate_left
    · intro w' hSw
      go_simp <;> with_reducible rfl
    try simp only [Act.put, List.setIfInBounds_toArray, List.set_cons_zero, List.set_cons_succ, List.getElem_toArray, List.getElem_cons_succ, List.getElem_cons_zero]
    refine wpAnyH_take (i := 1) (v := ?_) rfl (by kernel_rfl) (by kernel_rfl) (by kernel_rfl) (fun _ _ _ h => h) (Or.inl ⟨by rfl, ?_⟩) (by assumption) ?_
    rotate_left
    · intro w' hSw
      go_simp <;> with_reducible rfl
    try simp only [Act.put, List.setIfInBounds_toArray, List.set_cons_zero, List.set_cons_succ, List.getElem_toArray, List.getElem_cons_succ, List.getElem_cons_zero]
    refine wpAnyH_take (i := 2) (v := ?_) rfl (by kernel_rfl) (by kernel_rfl) (by kernel_rfl) (fun _ _ _ h => h) (Or.inl ⟨by rfl, ?_⟩) (by assumption) ?_
    rotate_left
    · intro w' hSw
      go_simp <;> with_reducible rfl
    try simp only [Act.put, List.setIfInBounds_toArray, List.set_cons_zero, List.set_cons_succ, List.getElem_toArray, List.getElem_cons_succ, List.getElem_cons_zero]
    refine wpAnyH_take (i := 3) (v := ?_) rfl (by kernel_rfl) (by kernel_rfl) (by kernel_rfl) (fun _ _ _ h => h) (Or.inl ⟨by rfl, ?_⟩) (by assumption) ?_
    rotate_left
    · intro w' hSw
      have x0 : w'.cell? ⟨B, 4, none⟩ = some (.slice (some ⟨g4, 0, none⟩) m.va.length c4) := hSw
      go_simp <;> with_reducible rfl
    try simp only [Act.put, List.setIfInBounds_toArray, List.set_cons_zero, List.set_cons_succ, List.getElem_toArray, List.getElem_cons_succ, List.getElem_cons_zero]
    refine wpAnyH_take (i := 4) (v := ?_) rfl (by kernel_rfl) (by kernel_rfl) (by kernel_rfl) (fun _ _ _ h => h) (Or.inl ⟨by rfl, ?_⟩) (by assumption) ?_
    rotate_left
    · intro w' hSw
      go_simp <;> with_reducible rfl
    try simp only [Act.put, List.setIfInBounds_toArray, List.set_cons_zero, List.set_cons_succ, List.getElem_toArray, List.getElem_cons_succ, List.getElem_cons_zero]
    refine wpAnyH_take (i := 5) (v := ?_) rfl (by kernel_rfl) (by kernel_rfl) (by kernel_rfl) (fun _ _ _ h => h) (Or.inl ⟨by rfl, ?_⟩) (by assumption) ?_
    rotate_left
    · intro w' hSw
      go_simp <;> with_reducible rfl
    try simp only [Act.put, List.setIfInBounds_toArray, List.set_cons_zero, List.set_cons_succ, List.getElem_toArray, List.getElem_cons_succ, List.getElem_cons_zero]
    refine wpAnyH_take (i := 6) (v := ?_) rfl (by kernel_rfl) (by kernel_rfl) (by kernel_rfl) (fun _ _ _ h => h) (Or.inl ⟨by rfl, ?_⟩) (by assumption) ?_
    rotate_left
    · intro w' hSw
      go_simp <;> with_reducible rfl
    try simp only [Act.put, List.setIfInBounds_toArray, List.set_cons_zero, List.set_cons_succ, List.getElem_toArray, List.getElem_cons_succ, List.getElem_cons_zero]
    refine wpAnyH_ready (rs := [7]) (by kernel_rfl) (by simp) ?_
    refine AllReadyH.cons rfl (fun K hK => ?_) AllReadyH.nil
    go_simp
    refine hK.out _ _ (by exact (World.cell?_of_block (Below.heap_alloc wd _ B (World.block_lt_of_cell? wd _ HD.out))).trans HD.out) (fun hHeld => ?_)
    clear hK K
    try simp only [Act.put, List.setIfInBounds_toArray, List.set_cons_zero, List.set_cons_succ, List.getElem_toArray, List.getElem_cons_succ, List.getElem_cons_zero]
    have qB : w3.cell? ⟨B, 4, none⟩ = some (.slice (some ⟨g4, 0, none⟩) m.va.length c4) := by rw [HB3.out.cell]; simp [HV4.out]
    refine wpAnyH_ready (rs := [8]) (by kernel_rfl) (by simp) ?_
    refine AllReadyH.cons rfl (fun K hK => ?_) AllReadyH.nil
    refine step_append_eqK rfl _ _ _ _ rfl rfl rfl HR2.out ?_
    refine hK.out _ _ (by exact qB) (fun hHeld => ?_)
    clear hK K
    try simp only [Act.put, List.setIfInBounds_toArray, List.set_cons_zero, List.set_cons_succ, List.getElem_toArray, List.getElem_cons_succ, List.getElem_cons_zero]
    refine wpAnyH_take (i := 9) (v := ?_) rfl (by kernel_rfl) (by kernel_rfl) (by kernel_rfl) (fun _ _ _ h => h) (Or.inl ⟨by rfl, ?_⟩) (by assumption) ?_
    rotate_left
    · intro w' hSw
      go_simp <;> with_reducible rfl
    try simp only [Act.put, List.setIfInBounds_toArray, List.set_cons_zero, List.set_cons_succ, List.getElem_toArray, List.getElem_cons_succ, List.getElem_cons_zero]
    have qc := HC3.out
    have qf := HF3.out
    refine wpAnyH_ready (rs := [10]) (by kernel_rfl) (by simp) ?_
    refine AllReadyH.cons rfl (fun K hK => ?_) AllReadyH.nil
    go_simp
    refine hK.out _ _ (by exact (World.cell?_of_block (Below.heap_setCell _ _ _ _ (by simpa using fun e => HN.out e.symm))).trans qB) (fun hHeld => ?_)
    clear hK K
    try simp only [Act.put, List.setIfInBounds_toArray, List.set_cons_zero, List.set_cons_succ, List.getElem_toArray, List.getElem_cons_succ, List.getElem_cons_zero]
    refine wpAnyH_done (by kernel_rfl) ?_ _
    clear hHeld qB qc qf
    go_wp2_with fail
    go_end0
    exact ⟨rfl, o', va, by rw [HE.out]; exact HK.out, HX.out⟩
  · obtain ⟨p, rfl⟩ : ∃ p, q = p + 1 := ⟨q - 1, by omega⟩
    obtain ⟨ga, ua, rfl, hua, hca, -, -, -, -⟩ := row.at (i := p) (by omega)
    have hua2 := iL_at hua
    subst hua2
    obtain ⟨z, hz9⟩ : ∃ z, z = gd (k.A b) 0 p := ⟨_, rfl⟩
    have HZ := hide hz9
    rw [← hz9] at hca
    have hpl : p ≤ 900000 := by have := HLL.out; have := HQ.out; omega
    have hpi : ((p + 1 : Nat) : Int) - 1 = ((p : Nat) : Int) := by omega
    clear row hua hz9 hq0
    by_cases hzn : z = n
    · subst hzn
      have HE : Hid (k.note b z = k) := by
        unfold Hid Kl.note
        rw [if_pos ((last_none HQ.out.symm).2 HZ.out.symm)]
      clear hz HR2 HB3 HC3 HF3 HN HK HX HD
      go_wp2_with fail
      go_end0
      exact ⟨rfl, o, m.va, by rw [HE.out]; exact HH.out, Exo.refl _ _⟩
    · have hzi : ((z : Int) != (n : Int)) = true := by
        rw [bne_iff_ne]
        omega
      have HE : Hid (k.note b n = { k with ab := k.ab.set b (k.A b ++ [n]) }) := by
        unfold Hid Kl.note
        rw [if_neg fun e => hzn (HZ.out.trans ((last_none HQ.out.symm).1 e))]
      clear hzn
      go_upto_region 2 with fail
      refine wp_region_held_drew (S := fun w' => w'.cell? ⟨B, 4, none⟩ = some (.slice (some ⟨g4, 0, none⟩) m.va.length c4)) (by kernel_rfl) HD.out (fun hHeld => ?_)
      clear bx4 hc4
      generalize w.drew = wd at *
      refine wpAnyH_take (i := 0) (v := ?_) rfl (by kernel_rfl) (by kernel_rfl) (by kernel_rfl) (fun _ _ _ h => h) (Or.inl ⟨by rfl, ?_⟩) (by assumption) ?_
      rotate_left
      · intro w' hSw
        go_simp <;> with_reducible rfl
      try simp only [Act.put, List.setIfInBounds_toArray, List.set_cons_zero, List.set_cons_succ, List.getElem_toArray, List.getElem_cons_succ, List.getElem_cons_zero]
      refine wpAnyH_take (i := 1) (v := ?_) rfl (by kernel_rfl) (by kernel_rfl) (by kernel_rfl) (fun _ _ _ h => h) (Or.inl ⟨by rfl, ?_⟩) (by assumption) ?_
      rotate_left
      · intro w' hSw
        go_simp <;> with_reducible rfl
      try simp only [Act.put, List.setIfInBounds_toArray, List.set_cons_zero, List.set_cons_succ, List.getElem_toArray, List.getElem_cons_succ, List.getElem_cons_zero]
      refine wpAnyH_take (i := 2) (v := ?_) rfl (by kernel_rfl) (by kernel_rfl) (by kernel_rfl) (fun _ _ _ h => h) (Or.inl ⟨by rfl, ?_⟩) (by assumption) ?_
      rotate_left
      · intro w' hSw
        go_simp <;> with_reducible rfl
      try simp only [Act.put, List.setIfInBounds_toArray, List.set_cons_zero, List.set_cons_succ, List.getElem_toArray, List.getElem_cons_succ, List.getElem_cons_zero]
      refine wpAnyH_take (i := 3) (v := ?_) rfl (by kernel_rfl) (by kernel_rfl) (by kernel_rfl) (fun _ _ _ h => h) (Or.inl ⟨by rfl, ?_⟩) (by assumption) ?_
      rotate_left
      · intro w' hSw
        have x0 : w'.cell? ⟨B, 4, none⟩ = some (.slice (some ⟨g4, 0, none⟩) m.va.length c4) := hSw
        go_simp <;> with_reducible rfl
      try simp only [Act.put, List.setIfInBounds_toArray, List.set_cons_zero, List.set_cons_succ, List.getElem_toArray, List.getElem_cons_succ, List.getElem_cons_zero]
      refine wpAnyH_take (i := 4) (v := ?_) rfl (by kernel_rfl) (by kernel_rfl) (by kernel_rfl) (fun _ _ _ h => h) (Or.inl ⟨by rfl, ?_⟩) (by assumption) ?_
      rotate_left
      · intro w' hSw
        go_simp <;> with_reducible rfl
      try simp only [Act.put, List.setIfInBounds_toArray, List.set_cons_zero, List.set_cons_succ, List.getElem_toArray, List.getElem_cons_succ, List.getElem_cons_zero]
      refine wpAnyH_take (i := 5) (v := ?_) rfl (by kernel_rfl) (by kernel_rfl) (by kernel_rfl) (fun _ _ _ h => h) (Or.inl ⟨by rfl, ?_⟩) (by assumption) ?_
      rotate_left
      · intro w' hSw
        go_simp <;> with_reducible rfl
      try simp only [Act.put, List.setIfInBounds_toArray, List.set_cons_zero, List.set_cons_succ, List.getElem_toArray, List.getElem_cons_succ, List.getElem_cons_zero]
      refine wpAnyH_take (i := 6) (v := ?_) rfl (by kernel_rfl) (by kernel_rfl) (by kernel_rfl) (fun _ _ _ h => h) (Or.inl ⟨by rfl, ?_⟩) (by assumption) ?_
      rotate_left
      · intro w' hSw
        go_simp <;> with_reducible rfl
      try simp only [Act.put, List.setIfInBounds_toArray, List.set_cons_zero, List.set_cons_succ, List.getElem_toArray, List.getElem_cons_succ, List.getElem_cons_zero]
      refine wpAnyH_ready (rs := [7]) (by kernel_rfl) (by simp) ?_
      refine AllReadyH.cons rfl (fun K hK => ?_) AllReadyH.nil
      go_simp
      refine hK.out _ _ (by exact (World.cell?_of_block (Below.heap_alloc wd _ B (World.block_lt_of_cell? wd _ HD.out))).trans HD.out) (fun hHeld => ?_)
      clear hK K
      try simp only [Act.put, List.setIfInBounds_toArray, List.set_cons_zero, List.set_cons_succ, List.getElem_toArray, List.getElem_cons_succ, List.getElem_cons_zero]
      have qB : w3.cell? ⟨B, 4, none⟩ = some (.slice (some ⟨g4, 0, none⟩) m.va.length c4) := by rw [HB3.out.cell]; simp [HV4.out]
      refine wpAnyH_ready (rs := [8]) (by kernel_rfl) (by simp) ?_
      refine AllReadyH.cons rfl (fun K hK => ?_) AllReadyH.nil
      refine step_append_eqK rfl _ _ _ _ rfl rfl rfl HR2.out ?_
      refine hK.out _ _ (by exact qB) (fun hHeld => ?_)
      clear hK K
      try simp only [Act.put, List.setIfInBounds_toArray, List.set_cons_zero, List.set_cons_succ, List.getElem_toArray, List.getElem_cons_succ, List.getElem_cons_zero]
      refine wpAnyH_take (i := 9) (v := ?_) rfl (by kernel_rfl) (by kernel_rfl) (by kernel_rfl) (fun _ _ _ h => h) (Or.inl ⟨by rfl, ?_⟩) (by assumption) ?_
      rotate_left
      · intro w' hSw
        go_simp <;> with_reducible rfl
      try simp only [Act.put, List.setIfInBounds_toArray, List.set_cons_zero, List.set_cons_succ, List.getElem_toArray, List.getElem_cons_succ, List.getElem_cons_zero]
      have qc := HC3.out
      have qf := HF3.out
      refine wpAnyH_ready (rs := [10]) (by kernel_rfl) (by simp) ?_
      refine AllReadyH.cons rfl (fun K hK => ?_) AllReadyH.nil
      go_simp
      refine hK.out _ _ (by exact (World.cell?_of_block (Below.heap_setCell _ _ _ _ (by simpa using fun e => HN.out e.symm))).trans qB) (fun hHeld => ?_)
      clear hK K
      try simp only [Act.put, List.setIfInBounds_toArray, List.set_cons_zero, List.set_cons_succ, List.getElem_toArray, List.getElem_cons_succ, List.getElem_cons_zero]
      refine wpAnyH_done (by kernel_rfl) ?_ _
      clear hHeld qB qc qf
      go_wp2_with fail
      go_end0
      exact ⟨rfl, o', va, by rw [HE.out]; exact HK.out, HX.out⟩
end Go.Proofs.YtdmaijmglblccaaGreatDoor

/- Memory and plain: what numbering a term keeps. -/
namespace Go.Proofs.YtdmaijmglblccaaGreatDoor
open Go.RowKit
set_option linter.unusedSimpArgs false
set_option linter.unusedVariables false
set_option maxRecDepth 8000

theorem Tb.heapK {B : Nat} {w w' : World} (h : Tb B w) (hs : w.heap.size ≤ w'.heap.size) (hk : ∀ b, b < B → w'.heap[b]? = w.heap[b]?) : Tb B w' := fun w'' h2 => by
  have h3 := h { w'' with os := w.os, tape := w.tape, output := w.output } ⟨rfl, rfl, rfl, Nat.le_trans hs h2.size, fun b hb => (h2.block b hb).trans (hk b hb)⟩
  exact h3
/-- The library's table, below what is the classes'. -/
def TbO (BT : Nat) (o : Nat → Oid) (w : World) : Prop := Tb BT w ∧ BT ≤ w.heap.size ∧ ∀ b, b < BT → o b = eX
theorem TbO.exo {BT : Nat} {o o' : Nat → Oid} {w w' : World} (h : TbO BT o w) (e : Exo o w o' w') : TbO BT o' w' :=
  ⟨h.1.heapK e.2.2.2.1 fun b hb => (e.2.2.2.2 b (Nat.lt_of_lt_of_le hb h.2.1) (h.2.2 b hb)).1, Nat.le_trans h.2.1 e.2.2.2.1, fun b hb => (e.2.2.2.2 b (Nat.lt_of_lt_of_le hb h.2.1) (h.2.2 b hb)).2⟩
theorem Sl.exo {w w' : World} {o o' : Nat → Oid} {X : Nat → Prop} {a : Option Addr} {l : List Tm} (h : Sl w X a l) (hX : ∀ b, X b → b < w.heap.size ∧ o b = eX) (e : Exo o w o' w') : Sl w' X a l := h.kept fun b hb => (e.2.2.2.2 b (hX b hb).1 (hX b hb).2).1
theorem exo_X {w w' : World} {o o' : Nat → Oid} {X : Nat → Prop} (hX : ∀ b, X b → b < w.heap.size ∧ o b = eX) (e : Exo o w o' w') : ∀ b, X b → b < w'.heap.size ∧ o' b = eX := fun b hb => ⟨Nat.lt_of_lt_of_le (hX b hb).1 e.2.2.2.1, (e.2.2.2.2 b (hX b hb).1 (hX b hb).2).2⟩
theorem Rwo.exo {w w' : World} {N : Nat} {o o' : Nat → Oid} {T e : Nat} {v : Value} {n : Nat} {xs : List Value} (h : Rwo w N o eX T e v n xs) (f : Exo o w o' w') : Rwo w' N o' eX T e v n xs := h.keep fun b hb he => f.2.2.2.2 b hb he
theorem Blk.exo {w w' : World} {o o' : Nat → Oid} {b T : Nat} {cs : Array Value} (h : Blk w b cs T) (f : Exo o w o' w') (he : o b = eX) : Blk w' b cs T := (f.2.2.2.2 b h.lt he).1.trans h
/-- A block that is new is none of theirs. -/
def upN (o : Nat → Oid) (n : Nat) : Nat → Oid := fun b => if b < n then o b else eX
theorem upN_lt {o : Nat → Oid} {n b : Nat} (h : b < n) : upN o n b = o b := if_pos h
theorem upN_ge {o : Nat → Oid} {n b : Nat} (h : n ≤ b) : upN o n b = eX := if_neg (by omega)
theorem KlAt.upn {N B r : Nat} {X : Nat → Prop} {w w' : World} {o : Nat → Oid} {k : Kl} {m : Km} (h : KlAt N B r X w o k m) (hb : Below w.heap.size w w') : KlAt N B r X w' (upN o w.heap.size) k m ∧ Exo o w (upN o w.heap.size) w' :=
  ⟨h.fresh hb fun b h1 => upN_lt h1, Exo.below hb fun b h1 => upN_lt h1⟩
/-- One more in a row that is none of theirs. -/
theorem app_loc {N B r : Nat} {X : Nat → Prop} {w : World} {o : Nat → Oid} {k : Kl} {m : Km} (h : KlAt N B r X w o k m) {TL T by_ : Nat} {z : Value} {v : Value} {xs : List Value} (hT : Tryz.prog.underlying TL = some (.slice T)) (hinfo : (Tryz.prog.info? T).map (fun i => (i.zero, i.size, i.bytes)) = some (some z, 1, by_)) (hz : z.cells.size = 1) (hby : by_ ≤ 100)
    (hv : Rwo w N o eX T 1 v xs.length xs) (hnX : ∀ b, v.ownBlock = some b → ¬ X b) (hl : xs.length ≤ 1000000) (x : Value) (hx : x.oneCell' = true) :
    ∃ g cap w3 o', (Builtin.append_ #[TL, TL] TL #[v, .slice (some ⟨w.heap.size, 0, none⟩) 1 1]).run Tryz.prog (w.alloc (.cells #[x] T)) = .ok (.slice (some ⟨g, 0, none⟩) (xs.length + 1) cap) w3 ∧
      Rwo w3 N o' eX T 1 (.slice (some ⟨g, 0, none⟩) (xs.length + 1) cap) (xs ++ [x]).length (xs ++ [x]) ∧ KlAt N B r X w3 o' k m ∧ (v.ownBlock = some g ∨ w.heap.size ≤ g) ∧
      (w3.os = w.os ∧ w3.tape = w.tape ∧ w3.output = w.output ∧ w.heap.size ≤ w3.heap.size) ∧ (∀ b, b < w.heap.size → v.ownBlock ≠ some b → w3.heap[b]? = w.heap[b]?) ∧ ∀ b, b < w.heap.size → o' b = o b := by
  obtain ⟨i0, hi, hz0, hz1, hz2⟩ := info_parts hinfo
  obtain ⟨g, cap, w3, hr, ho, hg, hat, _⟩ := run_append_lies (P := Tryz.prog) (w := w.alloc (.cells #[x] T)) TL TL N T i0 _ 1 by_ hT hi hz0 hz1 hz2 hz (by decide) v xs.length xs (hv.1.alloc _) ⟨w.heap.size, 0, none⟩ 1 1 [x] rfl (World.news_of_block (cs := #[x]) (heap_alloc_new w _)) (by simpa using hx) (by omega) (by unfold maxLen; omega) (by have : (xs.length + 1) * by_ ≤ 1000001 * 100 := Nat.mul_le_mul (by omega) hby; omega) (by have := h.nN; simp; omega) _ rfl
  have hblk : ∀ b, b < w.heap.size → v.ownBlock ≠ some b → w3.heap[b]? = w.heap[b]? := fun b hb hne => by rw [hg.block b (by simp; omega) (fun e => hne e.symm), Below.heap_alloc _ _ _ hb]
  have hsz : w.heap.size ≤ w3.heap.size := Nat.le_trans (by simp) hg.size
  have hoo : ∀ b, b < w.heap.size → upN o w.heap.size b = o b := fun b hb => upN_lt hb
  refine ⟨g, cap, w3, upN o w.heap.size, hr, ⟨by simpa using ho, fun b hb => ?_⟩, h.mv hsz fun b hb hor => ⟨hblk b hb fun e => ?_, hoo b hb⟩, ?_, ⟨hg.os, hg.tape, hg.output, hsz⟩, hblk, hoo⟩
  · have e : g = b := by simpa [Value.ownBlock] using hb
    subst e
    rcases hat with e | e
    · rw [upN_lt (hv.1.lt g e).2]; exact hv.2 g e
    · rw [World.size_alloc] at e; exact upN_ge (by omega)
  · rcases hor with hne | hx
    · exact hne (hv.2 b e)
    · exact hnX b e hx
  · rcases hat with e | e
    · exact Or.inl e
    · rw [World.size_alloc] at e; exact Or.inr (by omega)
theorem NumI.full {k : Kl} {U : Nat → Nat → Prop} (h : NumI k U) (hU : ∀ m, m < k.ts.length → ∀ b ∈ k.B m, U m b) : NumI k AllU := ⟨h.lb, h.lc, h.lm, h.la, h.nd, h.may, h.arg, h.own, fun m hm b hb _ => h.up m hm b hb (hU m hm b hb), h.alt, h.ent, h.has⟩
theorem kT_pre {k k' : Kl} (h : k.ts <+: k'.ts) {b : Nat} (hb : b < k.ts.length) : k'.T b = k.T b := by
  obtain ⟨r, hr⟩ := h
  unfold Kl.T
  rw [← hr, gd_app hb]
/-- What numbering the first of a term's parts does. -/
structure NumJ (k : Kl) (l : List Tm) (k' : Kl) (bs : List Nat) : Prop where
  ok : NumI k' AllU
  lt : ∀ b ∈ bs, b < k'.ts.length
  eq : bs.map k'.T = l
  pre : k.ts <+: k'.ts
  old : ∀ x ∈ k'.ts, x ∈ k.ts ∨ x ∈ preL l
  all : ∀ x ∈ preL l, x ∈ k'.ts
  len : k'.ts.length ≤ k.ts.length + sizeL l
  sum : sumN k'.ab + l.length ≤ sumN k.ab + sizeL l
theorem NumJ.start {k : Kl} (h : NumI k AllU) : NumJ k [] k [] := ⟨h, by simp, rfl, List.prefix_refl _, fun x hx => Or.inl hx, by simp [preL], by simp [sizeL], by simp [sizeL]⟩
theorem NumJ.next {k k1 k2 : Kl} {l : List Tm} {bs : List Nat} {t : Tm} {i : Nat} (h : NumJ k l k1 bs) (g : NumR k1 t k2 i) : NumJ k (l ++ [t]) k2 (bs ++ [i]) := by
  have hlt : ∀ b ∈ bs, b < k2.ts.length := fun b hb => Nat.lt_of_lt_of_le (h.lt b hb) g.pre.length_le
  refine ⟨g.ok, fun b hb => ?_, ?_, h.pre.trans g.pre, fun x hx => ?_, fun x hx => ?_, ?_, ?_⟩
  · rcases List.mem_append.1 hb with hb | hb
    · exact hlt b hb
    · rw [List.mem_singleton.1 hb]; exact g.lt
  · rw [List.map_append, List.map_singleton, g.eq, ← h.eq]
    congr 1
    exact List.map_congr_left fun b hb => kT_pre g.pre (h.lt b hb)
  · rw [preL_append, List.mem_append]
    rcases g.old x hx with hx | hx
    · rcases h.old x hx with hx | hx
      · exact Or.inl hx
      · exact Or.inr (Or.inl hx)
    · exact Or.inr (Or.inr hx)
  · rw [preL_append, List.mem_append] at hx
    rcases hx with hx | hx
    · exact g.pre.subset (h.all x hx)
    · exact g.all x hx
  · have := h.len; have := g.len; rw [sizeL_append]; omega
  · have := h.sum; have := g.sum; rw [sizeL_append, List.length_append, List.length_singleton]; omega
/-- The term is there. -/
theorem numR_found {k k1 : Kl} {t : Tm} {bs : List Nat} {i : Nat} (h : NumJ k t.args k1 bs) (he : errL [t] = 0) (hs : sgG k1.sg (sgn t.name bs) = some i) : NumR k t k1 i := by
  obtain ⟨h1, h2⟩ := num_found h.ok he h.eq.symm hs
  have e : preL [t] = t :: preL t.args := by obtain ⟨s, l⟩ := t; simp [preL]
  have ez : sizeL [t] = 1 + sizeL t.args := by obtain ⟨s, l⟩ := t; simp [sizeL]
  refine ⟨h.ok, h1, h2, h.pre, fun x hx => ?_, num_within h.ok t (by rw [← h2]; exact kT_mem h1), ?_, ?_⟩
  · rw [e]
    rcases h.old x hx with hx | hx
    · exact Or.inl hx
    · exact Or.inr (List.mem_cons_of_mem _ hx)
  · have := h.len; omega
  · have := h.sum; omega
/-- The term is new. -/
theorem numR_new {k k1 : Kl} {t : Tm} {bs : List Nat} (h : NumJ k t.args k1 bs) (he : errL [t] = 0) (hs : sgG k1.sg (sgn t.name bs) = none) : NumR k t ((k1.more t bs).notes bs k1.ts.length) k1.ts.length := by
  obtain ⟨h1, h2, h3⟩ := num_more h.ok he h.lt h.eq.symm hs
  have hz : (k1.more t bs).ts.length = k1.ts.length + 1 := by simp [Kl.more]
  obtain ⟨e1, e2, e3, e4, e5, e6⟩ := notes_same k1.ts.length bs (k1.more t bs)
  obtain ⟨n1, n2⟩ := num_notes bs h1 (fun b hb => by have := h.lt b hb; omega) (by omega : k1.ts.length < (k1.more t bs).ts.length)
  have e : preL [t] = t :: preL t.args := by obtain ⟨s, l⟩ := t; simp [preL]
  have ez : sizeL [t] = 1 + sizeL t.args := by obtain ⟨s, l⟩ := t; simp [sizeL]
  have hT : ((k1.more t bs).notes bs k1.ts.length).T = (k1.more t bs).T := by unfold Kl.T; rw [e1]
  have hB : ((k1.more t bs).notes bs k1.ts.length).B = (k1.more t bs).B := by unfold Kl.B; rw [e2]
  have hblen : bs.length = t.args.length := by rw [← h.eq]; simp
  refine ⟨n1.full fun m hm b hb => ?_, by rw [e1]; omega, by rw [hT]; exact h2, ?_, fun x hx => ?_, fun x hx => ?_, ?_, ?_⟩
  · rw [e1, hz] at hm
    by_cases hmn : m < k1.ts.length
    · exact Or.inl hmn
    · have : m = k1.ts.length := by omega
      subst this
      rw [hB, h3] at hb
      exact Or.inr ⟨rfl, hb⟩
  · rw [e1]; exact h.pre.trans (List.prefix_append _ _)
  · rw [e1] at hx
    rw [e]
    rcases List.mem_append.1 hx with hx | hx
    · rcases h.old x hx with hx | hx
      · exact Or.inl hx
      · exact Or.inr (List.mem_cons_of_mem _ hx)
    · rw [List.mem_singleton.1 hx]; exact Or.inr (by simp)
  · rw [e1]
    rw [e] at hx
    rcases List.mem_cons.1 hx with hx | hx
    · rw [hx]; exact List.mem_append_right _ (by simp)
    · exact List.mem_append_left _ (h.all x hx)
  · rw [e1, hz, ez]; have := h.len; omega
  · have h4 := h.sum
    have h5 : sumN (k1.more t bs).ab = sumN k1.ab := by show sumN (k1.ab ++ [[]]) = _; rw [sumN_app]; simp [sumN]
    omega
theorem num_C {k : Kl} {U : Nat → Nat → Prop} (h : NumI k U) (hz : k.ts.length ≤ 90000) : ∀ b, k.C b < 100000 := fun b => by
  by_cases hb : b < k.ts.length
  · rw [(h.own b hb).1]; omega
  · unfold Kl.C gd
    rw [List.getElem?_eq_none (by rw [h.lc]; omega)]
    simp
theorem num_S {k : Kl} {U : Nat → Nat → Prop} (h : NumI k U) {bs : List Nat} (hb : ∀ b ∈ bs, b < k.ts.length) : bs.map k.C = bs := by
  have : bs.map k.C = bs.map id := List.map_congr_left fun b hb2 => (h.own b (hb b hb2)).1
  rw [this, List.map_id]
end Go.Proofs.YtdmaijmglblccaaGreatDoor

/- Walks: a class goes into another one (closure's classes.size, swallow). -/
namespace Go.Proofs.YtdmaijmglblccaaGreatDoor
open Go.RowKit
set_option linter.unusedSimpArgs false
set_option linter.unusedVariables false
set_option maxRecDepth 8000

/-- An inner row, as it is read. -/
theorem KlAt.mb_at {N B r : Nat} {X : Nat → Prop} {w : World} {o : Nat → Oid} {k : Kl} {m : Km} (h : KlAt N B r X w o k m) {i : Nat} (hi : i < k.mb.length) : ∃ g3 c3 a c, m.v3 = .slice (some ⟨g3, 0, none⟩) m.vm.length c3 ∧ gd m.vm nV i = .slice a (k.M i).length c ∧ w.cell? ⟨g3, i, none⟩ = some (.slice a (k.M i).length c) ∧ w.frozen? ⟨g3, i, none⟩ = false ∧ g3 ≠ B ∧ w.cell? ⟨B, 3, none⟩ = some (.slice (some ⟨g3, 0, none⟩) m.vm.length c3) ∧ o g3 = (6, 0) := by
  have row := h.i3 i hi
  obtain ⟨a, c, hv⟩ := row.shape
  have h4 := h.r3
  obtain ⟨a4, c4, hv4⟩ := h4.shape
  rw [hv4] at h4
  obtain ⟨g4, u4, rfl, hu4, hc4, hf4, ho4, -, -⟩ := h4.at (i := i) (by rw [h.l3]; exact hi)
  have hue : u4 = gd m.vm nV i := by unfold gd; rw [hu4]; rfl
  rw [hue, hv, iL_len] at hc4
  rw [iL_len] at hv
  refine ⟨g4, c4, a, c, hv4, hv, hc4, hf4, fun e => ?_, by rw [h.box.cell]; simp [hv4], ho4⟩
  rw [e, h.oB] at ho4
  cases ho4
theorem KlAt.ab_at {N B r : Nat} {X : Nat → Prop} {w : World} {o : Nat → Oid} {k : Kl} {m : Km} (h : KlAt N B r X w o k m) {i : Nat} (hi : i < k.ab.length) : ∃ g3 c3 a c, m.v4 = .slice (some ⟨g3, 0, none⟩) m.va.length c3 ∧ gd m.va nV i = .slice a (k.A i).length c ∧ w.cell? ⟨g3, i, none⟩ = some (.slice a (k.A i).length c) ∧ w.frozen? ⟨g3, i, none⟩ = false ∧ g3 ≠ B ∧ w.cell? ⟨B, 4, none⟩ = some (.slice (some ⟨g3, 0, none⟩) m.va.length c3) ∧ o g3 = (7, 0) := by
  have row := h.i4 i hi
  obtain ⟨a, c, hv⟩ := row.shape
  have h4 := h.r4
  obtain ⟨a4, c4, hv4⟩ := h4.shape
  rw [hv4] at h4
  obtain ⟨g4, u4, rfl, hu4, hc4, hf4, ho4, -, -⟩ := h4.at (i := i) (by rw [h.l4]; exact hi)
  have hue : u4 = gd m.va nV i := by unfold gd; rw [hu4]; rfl
  rw [hue, hv, iL_len] at hc4
  rw [iL_len] at hv
  refine ⟨g4, c4, a, c, hv4, hv, hc4, hf4, fun e => ?_, by rw [h.box.cell]; simp [hv4], ho4⟩
  rw [e, h.oB] at ho4
  cases ho4
set_option maxHeartbeats 4000000 in
theorem ksize_any {N B r : Nat} {X : Nat → Prop} {w : World} {o : Nat → Oid} {k : Kl} {m : Km} (h : KlAt N B r X w o k m) {c : Nat} (h1 : c < k.mb.length) (h2 : c < k.ab.length) (hz : (k.M c).length ≤ 900000 ∧ (k.A c).length ≤ 900000) :
    Calls Tryz.prog 63 #[.pointer (some ⟨B, 0, none⟩), .int .i64 (c : Int)] w fun e w' => e = .returned (.int .i64 (((k.M c).length : Int) + ((k.A c).length : Int))) ∧ Below w.heap.size w w' := by
  obtain ⟨g3, c3, a3, d3, -, -, e3, -, -, e4, -⟩ := h.mb_at h1
  obtain ⟨g4, c4, a4, d4, -, -, e5, -, -, e6, -⟩ := h.ab_at h2
  have hi1 : (c : Int) < (m.vm.length : Int) := by rw [h.l3]; omega
  have hi2 : (c : Int) < (m.va.length : Int) := by rw [h.l4]; omega
  obtain ⟨hz1, hz2⟩ := hz
  clear h h1 h2
  go_enter Tryz.func63, Tryz.ntmps63
  go_upto_region 1 with fail
  go_quiet (fail)
  go_wp2_with fail
  go_ret
  exact ⟨rfl, below_drewN (Below.refl _ _) _⟩
/-- Numbers put for some. -/
def clP (cl : List Nat) (ns : List Nat) (m : Nat) : List Nat := ns.foldl (fun c n => c.set n m) cl
theorem clP_len (m : Nat) : ∀ (ns cl : List Nat), (clP cl ns m).length = cl.length
  | [], _ => rfl
  | n :: r, cl => by
    show (clP (cl.set n m) r m).length = _
    rw [clP_len m r]
    simp
theorem clP_snoc (cl ns : List Nat) (n m : Nat) : clP cl (ns ++ [n]) m = (clP cl ns m).set n m := by simp [clP]
theorem clP_get (m : Nat) : ∀ (ns cl : List Nat) (i : Nat), i < cl.length → gd (clP cl ns m) 0 i = if i ∈ ns then m else gd cl 0 i
  | [], cl, i, _ => by simp [clP]
  | n :: r, cl, i, h => by
    show gd (clP (cl.set n m) r m) 0 i = _
    rw [clP_get m r _ i (by simpa using h)]
    by_cases h1 : i ∈ r
    · rw [if_pos h1, if_pos (List.mem_cons_of_mem _ h1)]
    · rw [if_neg h1]
      by_cases h2 : n = i
      · subst h2
        rw [gd_set h, if_pos (List.mem_cons_self ..)]
      · rw [gd_set_ne h2, if_neg]
        intro h3
        rcases List.mem_cons.1 h3 with h3 | h3
        · exact h2 h3.symm
        · exact h1 h3
theorem clP_all {k : Kl} {l m : Nat} (hl : ∀ i, i < k.cl.length → (i ∈ k.M l ↔ k.C i = l)) : clP k.cl (k.M l) m = k.cl.map (fun c => if c = l then m else c) := by
  apply List.ext_getElem (by rw [clP_len]; simp)
  intro i h1 h2
  have h3 : i < k.cl.length := by simpa using h2
  rw [← gd_get (d := 0) h1, clP_get m _ _ i h3, List.getElem_map]
  have e : k.cl[i] = k.C i := (gd_get h3).symm
  rw [e]
  by_cases h : k.C i = l
  · rw [if_pos h, if_pos ((hl i h3).2 h)]
  · rw [if_neg h, if_neg (fun q => h ((hl i h3).1 q))]
    rfl
/-- A row within above that is given away. -/
theorem KlAt.free_ab {N B r : Nat} {X : Nat → Prop} {w : World} {o : Nat → Oid} {k : Kl} {m : Km} (h : KlAt N B r X w o k m) {i : Nat} (hn : gd m.va nV i = nV) {v : Value} (hv : ∀ b, v.ownBlock = some b → o b = (10, i)) : KlAt N B r X w (upV o v eX) k m := by
  have oth : ∀ {id : Oid} {T e : Nat} {u : Value} {n : Nat} {xs : List Value}, Rwo w N o id T e u n xs → id ≠ (10, i) → Rwo w N (upV o v eX) id T e u n xs := fun hh hne => hh.other hv hne
  have one : ∀ b, o b ≠ (10, i) → upV o v eX b = o b := fun b hb => upV_no fun e => hb (hv b e)
  refine ⟨h.box, h.map, h.nB, h.nr, h.nN, (one B (by rw [h.oB]; simp)).trans h.oB, (one r (by rw [h.oR]; simp)).trans h.oR, oth h.r0 (by simp), h.ts, h.tx, fun b hb => ⟨(h.hX b hb).1, (one b (by rw [(h.hX b hb).2]; simp)).trans (h.hX b hb).2⟩, oth h.r1 (by simp), oth h.r2 (by simp), oth h.r3 (by simp), oth h.r4 (by simp), h.l1, h.l3, h.l4, fun j hj => oth (h.i1 j hj) (by simp), fun j hj => oth (h.i3 j hj) (by simp), fun j hj => ?_⟩
  by_cases hij : j = i
  · subst hij
    have h1 := h.i4 j hj
    rw [hn] at h1 ⊢
    exact ⟨h1.1, fun b hb => by simp [Value.ownBlock] at hb⟩
  · exact oth (h.i4 j hj) (by simp; exact hij)
/-- What is left behind: the terms that look otherwise now. -/
def SwP (N B r : Nat) (X : Nat → Prop) (k : Kl) (l m : Nat) (o : Nat → Oid) (w : World) (e : Ending) (w' : World) : Prop :=
  ∃ v m' o', e = .returned v ∧ Rwo w' N o' eX 3 1 v (iL (k.A l)).length (iL (k.A l)) ∧ (∀ b, v.ownBlock = some b → b < w.heap.size ∧ o b ≠ eX) ∧ KlAt N B r X w' o' (k.swal l m) m' ∧ Exo o w o' w'
/-- While the members are put. -/
def SwI (N B r : Nat) (X : Nat → Prop) (k : Kl) (l m : Nat) (q0 : Km) (o : Nat → Oid) (w : World) (i : Value) (wr : World) : Prop :=
  ∃ q : Nat, q ≤ (k.M l).length ∧ i = .int .i64 (q : Int) ∧ KlAt N B r X wr o { k with cl := clP k.cl ((k.M l).take q) m } q0 ∧ Exo o w o wr
set_option maxHeartbeats 8000000 in
theorem swallow_any {N B r : Nat} {X : Nat → Prop} {w : World} {o : Nat → Oid} {k : Kl} {km : Km} (h : KlAt N B r X w o k km) {l m : Nat} (hl : l < k.mb.length) (hm : m < k.mb.length) (hl2 : l < k.ab.length) (hm2 : m < k.ab.length) (hne : l ≠ m) (hmem : ∀ i, i < k.cl.length → (i ∈ k.M l ↔ k.C i = l)) (hmlt : ∀ i ∈ k.M l, i < k.cl.length) (hz : (k.M l).length + (k.M m).length ≤ 900000 ∧ (k.A l).length + (k.A m).length ≤ 900000) :
    Calls Tryz.prog 64 #[.pointer (some ⟨B, 0, none⟩), .int .i64 (l : Int), .int .i64 (m : Int)] w (SwP N B r X k l m o w) := by
  obtain ⟨g3, c3, a3, d3, hv3, hvl, e3, -, hg3B, e4, -⟩ := h.mb_at hl
  have hli : (l : Int) < (km.vm.length : Int) := by rw [h.l3]; omega
  have hmi : (m : Int) < (km.vm.length : Int) := by rw [h.l3]; omega
  have hli2 : (l : Int) < (km.va.length : Int) := by rw [h.l4]; omega
  have hmi2 : (m : Int) < (km.va.length : Int) := by rw [h.l4]; omega
  have HH := hide h
  have HMEM := hide hmem
  have HMLT := hide hmlt
  have HL := hide hl
  have HM := hide hm
  have HL2 := hide hl2
  have HM2 := hide hm2
  have HNE := hide hne
  have HV3 := hide hv3
  have HVL := hide hvl
  have HZ := hide hz
  have hML : (k.M l).length ≤ 900000 := by omega
  clear h hmem hmlt hl hm hl2 hm2 hne hv3 hvl hz
  go_enter Tryz.func64, Tryz.ntmps64
  go_wp2_with fail
  clear e3 e4
  go_loopw [18] (fun i wr => SwI N B r X k l m km o w i wr) (fun i wr => (k.M l).length - (intOf i).toNat)
  case atStart => exact ⟨0, Nat.zero_le _, rfl, HH.out, Exo.refl _ _⟩
  case round =>
    obtain ⟨q, hq, rfl, hK, hX⟩ := hrel
    by_cases hql : q < (k.M l).length
    · have hqi : (q : Int) < ((k.M l).length : Int) := by omega
      have row : Rwo wr N o (9, l) 3 1 (.slice a3 (k.M l).length d3) (k.M l).length (iL (k.M l)) := by
        have h1 := hK.i3 l HL.out
        have e : Kl.M { k with cl := clP k.cl ((k.M l).take q) m } l = k.M l := rfl
        rw [e, HVL.out, iL_len] at h1
        exact h1
      obtain ⟨gq, uq, rfl, huq, hcq, -, -, -, -⟩ := row.at hql
      have huq2 := iL_at huq
      rw [gd_get hql] at huq2
      subst huq2
      have hr2 := hK.r2
      obtain ⟨a2, d2, hv2⟩ := hr2.shape
      rw [hv2] at hr2
      have hnl := HMLT.out (k.M l)[q] (List.getElem_mem hql)
      obtain ⟨g2, u2, rfl, -, hc2, hf2, -, -, -⟩ := hr2.at (i := (k.M l)[q]) (by rw [iL_len, clP_len]; exact hnl)
      obtain ⟨K2, F2⟩ := hK.put_cl hv2 (k.M l)[q] m
      have b2 : wr.cell? ⟨B, 2, none⟩ = some (.slice (some ⟨g2, 0, none⟩) (iL (clP k.cl ((k.M l).take q) m)).length d2) := by rw [hK.box.cell]; simp [hv2]
      have hnli : (((k.M l)[q] : Nat) : Int) < ((iL (clP k.cl ((k.M l).take q) m)).length : Int) := by rw [iL_len, clP_len]; omega
      have NXT : Hid (SwI N B r X k l m km o w (.int .i64 ((q + 1 : Nat) : Int)) (wr.setCell ⟨g2, (k.M l)[q], none⟩ (iV m))) := ⟨q + 1, hql, rfl, by rw [List.take_succ_eq_append_getElem hql, clP_snoc]; exact K2, hX.trans (F2.exo (by simp))⟩
      clear hK hX row huq hr2 hv2 hnl K2 F2
      generalize (iL (clP k.cl ((k.M l).take q) m)).length = zl at *
      generalize (k.M l)[q] = n at *
      go_wp2_with fail
      go_roundw
      case rel => exact NXT.out
      case measure => simp [intOf]; omega
    · have hqi : ¬ (q : Int) < ((k.M l).length : Int) := by omega
      have etk : (k.M l).take q = k.M l := List.take_of_length_le (by omega)
      rw [etk, clP_all HMEM.out] at hK
      have row4 := hK.i4 l HL2.out
      obtain ⟨g4, c4, a4, d4, hv4, hal, e5, -, hg4B, e6, hog4⟩ := hK.ab_at (i := l) HL2.out
      have eA : Kl.A { k with cl := k.cl.map (fun c => if c = l then m else c) } l = k.A l := rfl
      rw [eA] at row4 hal e5
      rw [hal] at row4
      have HK := hide hK
      have HX := hide hX
      have HR4 := hide row4
      have HV4 := hide hv4
      have HAL := hide hal
      clear hK hX row4 hv4 hal eA
      go_upto_region 7 with fail
      clear e5 e6
      have kd : Below wr.heap.size wr wr.drew := (Below.refl _ _).drew
      have KD := HK.out.later kd
      have XD := HX.out.trans (Exo.below kd fun _ _ => rfl)
      have RD := HR4.out.later kd
      obtain ⟨v5, w5, o5, hr5, R5, F5⟩ := app_sp (KD.i3 m HM.out) (KD.i3 l HL.out) KD.nN (by have := HZ.out; show (k.M m).length + (k.M l).length ≤ _; omega)
      obtain ⟨g3', c3', hv3', hc5, hf5, K5, FF5⟩ := KD.row_mb HM.out F5 R5
      obtain ⟨rfl, rfl⟩ : g3 = g3' ∧ c3 = c3' := by rw [HV3.out] at hv3'; cases hv3'; exact ⟨rfl, rfl⟩
      obtain ⟨gm, cm, am, dm, hvm, hgm, em, -, -, bm, -⟩ := KD.mb_at (i := m) HM.out
      obtain ⟨rfl, rfl⟩ : g3 = gm ∧ c3 = cm := by rw [HV3.out] at hvm; cases hvm; exact ⟨rfl, rfl⟩
      obtain ⟨gm2, cm2, am2, dm2, hvm2, hgm2, el, -, -, -, hog3⟩ := KD.mb_at (i := l) HL.out
      obtain ⟨rfl, rfl⟩ : g3 = gm2 ∧ c3 = cm2 := by rw [HV3.out] at hvm2; cases hvm2; exact ⟨rfl, rfl⟩
      obtain ⟨a5, d5, hv5⟩ := R5.shape
      subst hv5
      rw [hgm] at hr5 hc5
      rw [hgm2] at hr5
      have HR5 := hide hr5
      have HC5 := hide hc5
      have HF5 := hide hf5
      have HK5 := hide K5
      have HX5 := hide (XD.trans (FF5.exo (by simp)))
      have HR45 := hide (RD.fr FF5 (by simp))
      have hb5 : Hid (w5.cell? ⟨B, 3, none⟩ = some (.slice (some ⟨g3, 0, none⟩) km.vm.length c3) ∧ w5.cell? ⟨g3, l, none⟩ = some (.slice am2 (Kl.M { k with cl := k.cl.map (fun c => if c = l then m else c) } l).length dm2)) := by
        have q1 := F5.blk B KD.box.lt (by rw [KD.oB]; simp)
        have q2 := F5.blk g3 (World.block_lt_of_cell? _ _ el) (by rw [hog3]; simp)
        exact ⟨(World.cell?_of_block q1.1).trans bm, (World.cell?_of_block q2.1).trans el⟩
      clear hr5 hc5 hf5 K5 FF5 XD RD R5 F5 hv3' hvm hvm2 hgm hgm2 hog3 kd KD
      refine wp_region_held_drew (S := fun w' => w'.cell? ⟨B, 3, none⟩ = some (.slice (some ⟨g3, 0, none⟩) km.vm.length c3) ∧ w'.cell? ⟨g3, l, none⟩ = some (.slice am2 (Kl.M { k with cl := k.cl.map (fun c => if c = l then m else c) } l).length dm2)) (by kernel_rfl) ⟨bm, el⟩ (fun hHeld => ?_)
      generalize wr.drew = wd at *
      refine wpAnyH_take (i := 0) (v := ?_) rfl (by kernel_rfl) (by kernel_rfl) (by kernel_rfl) (fun _ _ _ h => h) (Or.inl ⟨by rfl, ?_⟩) (by assumption) ?_
      rotate_left
      · intro w' hSw
        go_simp <;> with_reducible rfl
      try simp only [Act.put, List.setIfInBounds_toArray, List.set_cons_zero, List.set_cons_succ, List.getElem_toArray, List.getElem_cons_succ, List.getElem_cons_zero]
      refine wpAnyH_take (i := 1) (v := ?_) rfl (by kernel_rfl) (by kernel_rfl) (by kernel_rfl) (fun _ _ _ h => h) (Or.inl ⟨by rfl, ?_⟩) (by assumption) ?_
      rotate_left
      · intro w' hSw
        go_simp <;> with_reducible rfl
      try simp only [Act.put, List.setIfInBounds_toArray, List.set_cons_zero, List.set_cons_succ, List.getElem_toArray, List.getElem_cons_succ, List.getElem_cons_zero]
      refine wpAnyH_take (i := 2) (v := ?_) rfl (by kernel_rfl) (by kernel_rfl) (by kernel_rfl) (fun _ _ _ h => h) (Or.inl ⟨by rfl, ?_⟩) (by assumption) ?_
      rotate_left
      · intro w' hSw
        go_simp <;> with_reducible rfl
      try simp only [Act.put, List.setIfInBounds_toArray, List.set_cons_zero, List.set_cons_succ, List.getElem_toArray, List.getElem_cons_succ, List.getElem_cons_zero]
      refine wpAnyH_take (i := 3) (v := ?_) rfl (by kernel_rfl) (by kernel_rfl) (by kernel_rfl) (fun _ _ _ h => h) (Or.inl ⟨by rfl, ?_⟩) (by assumption) ?_
      rotate_left
      · intro w' hSw
        have x0 := hSw.1
        go_simp <;> with_reducible rfl
      try simp only [Act.put, List.setIfInBounds_toArray, List.set_cons_zero, List.set_cons_succ, List.getElem_toArray, List.getElem_cons_succ, List.getElem_cons_zero]
      refine wpAnyH_take (i := 4) (v := ?_) rfl (by kernel_rfl) (by kernel_rfl) (by kernel_rfl) (fun _ _ _ h => h) (Or.inl ⟨by rfl, ?_⟩) (by assumption) ?_
      rotate_left
      · intro w' hSw
        go_simp <;> with_reducible rfl
      try simp only [Act.put, List.setIfInBounds_toArray, List.set_cons_zero, List.set_cons_succ, List.getElem_toArray, List.getElem_cons_succ, List.getElem_cons_zero]
      refine wpAnyH_take (i := 5) (v := ?_) rfl (by kernel_rfl) (by kernel_rfl) (by kernel_rfl) (fun _ _ _ h => h) (Or.inl ⟨by rfl, ?_⟩) (by assumption) ?_
      rotate_left
      · intro w' hSw
        go_simp <;> with_reducible rfl
      try simp only [Act.put, List.setIfInBounds_toArray, List.set_cons_zero, List.set_cons_succ, List.getElem_toArray, List.getElem_cons_succ, List.getElem_cons_zero]
      refine wpAnyH_take (i := 6) (v := ?_) rfl (by kernel_rfl) (by kernel_rfl) (by kernel_rfl) (fun _ _ _ h => h) (Or.inl ⟨by rfl, ?_⟩) (by assumption) ?_
      rotate_left
      · intro w' hSw
        go_simp <;> with_reducible rfl
      try simp only [Act.put, List.setIfInBounds_toArray, List.set_cons_zero, List.set_cons_succ, List.getElem_toArray, List.getElem_cons_succ, List.getElem_cons_zero]
      refine wpAnyH_take (i := 7) (v := ?_) rfl (by kernel_rfl) (by kernel_rfl) (by kernel_rfl) (fun _ _ _ h => h) (Or.inl ⟨by rfl, ?_⟩) (by assumption) ?_
      rotate_left
      · intro w' hSw
        go_simp <;> with_reducible rfl
      try simp only [Act.put, List.setIfInBounds_toArray, List.set_cons_zero, List.set_cons_succ, List.getElem_toArray, List.getElem_cons_succ, List.getElem_cons_zero]
      refine wpAnyH_take (i := 8) (v := ?_) rfl (by kernel_rfl) (by kernel_rfl) (by kernel_rfl) (fun _ _ _ h => h) (Or.inl ⟨by rfl, ?_⟩) (by assumption) ?_
      rotate_left
      · intro w' hSw
        have x0 := hSw.1
        go_simp <;> with_reducible rfl
      try simp only [Act.put, List.setIfInBounds_toArray, List.set_cons_zero, List.set_cons_succ, List.getElem_toArray, List.getElem_cons_succ, List.getElem_cons_zero]
      refine wpAnyH_take (i := 9) (v := ?_) rfl (by kernel_rfl) (by kernel_rfl) (by kernel_rfl) (fun _ _ _ h => h) (Or.inl ⟨by rfl, ?_⟩) (by assumption) ?_
      rotate_left
      · intro w' hSw
        go_simp <;> with_reducible rfl
      try simp only [Act.put, List.setIfInBounds_toArray, List.set_cons_zero, List.set_cons_succ, List.getElem_toArray, List.getElem_cons_succ, List.getElem_cons_zero]
      refine wpAnyH_take (i := 10) (v := ?_) rfl (by kernel_rfl) (by kernel_rfl) (by kernel_rfl) (fun _ _ _ h => h) (Or.inl ⟨by rfl, ?_⟩) (by assumption) ?_
      rotate_left
      · intro w' hSw
        go_simp <;> with_reducible rfl
      try simp only [Act.put, List.setIfInBounds_toArray, List.set_cons_zero, List.set_cons_succ, List.getElem_toArray, List.getElem_cons_succ, List.getElem_cons_zero]
      refine wpAnyH_take (i := 12) (v := ?_) rfl (by kernel_rfl) (by kernel_rfl) (by kernel_rfl) (fun _ _ _ h => h) (Or.inl ⟨by rfl, ?_⟩) (by assumption) ?_
      rotate_left
      · intro w' hSw
        go_simp <;> with_reducible rfl
      try simp only [Act.put, List.setIfInBounds_toArray, List.set_cons_zero, List.set_cons_succ, List.getElem_toArray, List.getElem_cons_succ, List.getElem_cons_zero]
      refine wpAnyH_take (i := 13) (v := ?_) rfl (by kernel_rfl) (by kernel_rfl) (by kernel_rfl) (fun _ _ _ h => h) (Or.inl ⟨by rfl, ?_⟩) (by assumption) ?_
      rotate_left
      · intro w' hSw
        go_simp <;> with_reducible rfl
      try simp only [Act.put, List.setIfInBounds_toArray, List.set_cons_zero, List.set_cons_succ, List.getElem_toArray, List.getElem_cons_succ, List.getElem_cons_zero]
      refine wpAnyH_take (i := 14) (v := ?_) rfl (by kernel_rfl) (by kernel_rfl) (by kernel_rfl) (fun _ _ _ h => h) (Or.inl ⟨by rfl, ?_⟩) (by assumption) ?_
      rotate_left
      · intro w' hSw
        go_simp <;> with_reducible rfl
      try simp only [Act.put, List.setIfInBounds_toArray, List.set_cons_zero, List.set_cons_succ, List.getElem_toArray, List.getElem_cons_succ, List.getElem_cons_zero]
      refine wpAnyH_take (i := 15) (v := ?_) rfl (by kernel_rfl) (by kernel_rfl) (by kernel_rfl) (fun _ _ _ h => h) (Or.inl ⟨by rfl, ?_⟩) (by assumption) ?_
      rotate_left
      · intro w' hSw
        have x0 := hSw.1
        go_simp <;> with_reducible rfl
      try simp only [Act.put, List.setIfInBounds_toArray, List.set_cons_zero, List.set_cons_succ, List.getElem_toArray, List.getElem_cons_succ, List.getElem_cons_zero]
      refine wpAnyH_take (i := 16) (v := ?_) rfl (by kernel_rfl) (by kernel_rfl) (by kernel_rfl) (fun _ _ _ h => h) (Or.inl ⟨by rfl, ?_⟩) (by assumption) ?_
      rotate_left
      · intro w' hSw
        go_simp <;> with_reducible rfl
      try simp only [Act.put, List.setIfInBounds_toArray, List.set_cons_zero, List.set_cons_succ, List.getElem_toArray, List.getElem_cons_succ, List.getElem_cons_zero]
      refine wpAnyH_take (i := 17) (v := ?_) rfl (by kernel_rfl) (by kernel_rfl) (by kernel_rfl) (fun _ _ _ h => h) (Or.inl ⟨by rfl, ?_⟩) (by assumption) ?_
      rotate_left
      · intro w' hSw
        go_simp <;> with_reducible rfl
      try simp only [Act.put, List.setIfInBounds_toArray, List.set_cons_zero, List.set_cons_succ, List.getElem_toArray, List.getElem_cons_succ, List.getElem_cons_zero]
      refine wpAnyH_take (i := 18) (v := ?_) rfl (by kernel_rfl) (by kernel_rfl) (by kernel_rfl) (fun _ _ _ h => h) (Or.inl ⟨by rfl, ?_⟩) (by assumption) ?_
      rotate_left
      · intro w' hSw
        have x0 := hSw.2
        go_simp <;> with_reducible rfl
      try simp only [Act.put, List.setIfInBounds_toArray, List.set_cons_zero, List.set_cons_succ, List.getElem_toArray, List.getElem_cons_succ, List.getElem_cons_zero]
      refine wpAnyH_ready (rs := [11]) (by kernel_rfl) (by simp) ?_
      refine AllReadyH.cons rfl (fun K hK => ?_) AllReadyH.nil
      go_simp
      refine hK.out _ _ (by exact ⟨bm, el⟩) (fun hHeld => ?_)
      clear hK K
      try simp only [Act.put, List.setIfInBounds_toArray, List.set_cons_zero, List.set_cons_succ, List.getElem_toArray, List.getElem_cons_succ, List.getElem_cons_zero]
      refine wpAnyH_ready (rs := [19]) (by kernel_rfl) (by simp) ?_
      refine AllReadyH.cons rfl (fun K hK => ?_) AllReadyH.nil
      refine step_append_eqK rfl _ _ _ _ rfl rfl rfl HR5.out ?_
      refine hK.out _ _ (by exact hb5.out) (fun hHeld => ?_)
      clear hK K
      try simp only [Act.put, List.setIfInBounds_toArray, List.set_cons_zero, List.set_cons_succ, List.getElem_toArray, List.getElem_cons_succ, List.getElem_cons_zero]
      refine wpAnyH_take (i := 20) (v := ?_) rfl (by kernel_rfl) (by kernel_rfl) (by kernel_rfl) (fun _ _ _ h => h) (Or.inl ⟨by rfl, ?_⟩) (by assumption) ?_
      rotate_left
      · intro w' hSw
        go_simp <;> with_reducible rfl
      try simp only [Act.put, List.setIfInBounds_toArray, List.set_cons_zero, List.set_cons_succ, List.getElem_toArray, List.getElem_cons_succ, List.getElem_cons_zero]
      have c5 := HC5.out
      have f5 := HF5.out
      refine wpAnyH_ready (rs := [21]) (by kernel_rfl) (by simp) ?_
      refine AllReadyH.cons rfl (fun K hK => ?_) AllReadyH.nil
      go_simp
      refine hK.out _ _ (by exact ⟨(World.cell?_of_block (Below.heap_setCell _ _ _ _ (by simpa using fun e => hg3B e.symm))).trans hb5.out.1, (World.cell?_setCell_other _ _ _ _ (by simpa using fun e => HNE.out e.symm)).trans hb5.out.2⟩) (fun hHeld => ?_)
      clear hK K
      try simp only [Act.put, List.setIfInBounds_toArray, List.set_cons_zero, List.set_cons_succ, List.getElem_toArray, List.getElem_cons_succ, List.getElem_cons_zero]
      refine wpAnyH_done (by kernel_rfl) ?_ _
      clear hHeld c5 f5 bm el em
      generalize (w5.setCell ⟨g3, m, none⟩ _) = w7 at *
      clear HR5 HC5 HF5 hb5
      have hal7 := (HK5.out.ab_at (i := m) HM2.out)
      obtain ⟨h4', i4', am4, dm4, hvm4, hgm4, em4, -, -, bm4, hog4'⟩ := hal7
      obtain ⟨rfl, rfl⟩ : g4 = h4' ∧ c4 = i4' := by have h9 := HV4.out; rw [show (Km.v4 _) = km.v4 from rfl, h9] at hvm4; cases hvm4; exact ⟨rfl, rfl⟩
      go_upto_region 8 with fail
      have kd : Below w7.heap.size w7 w7.drew := (Below.refl _ _).drew
      have KD := HK5.out.later kd
      have XD := HX5.out.trans (Exo.below kd fun _ _ => rfl)
      have RD := HR45.out.later kd
      obtain ⟨v8, w8, o8, hr8, R8, F8⟩ := app_sp (KD.i4 m HM2.out) RD KD.nN (by have := HZ.out; show (k.A m).length + (k.A l).length ≤ _; omega)
      obtain ⟨g8', c8', hv8', hc8, hf8, K8, FF8⟩ := KD.row_ab HM2.out F8 R8
      obtain ⟨rfl, rfl⟩ : g4 = g8' ∧ c4 = c8' := by have h9 := HV4.out; rw [show (Km.v4 _) = km.v4 from rfl, h9] at hv8'; cases hv8'; exact ⟨rfl, rfl⟩
      obtain ⟨a8, d8, hv8⟩ := R8.shape
      subst hv8
      rw [hgm4] at hr8 hc8
      have HR8 := hide hr8
      have HC8 := hide hc8
      have HF8 := hide hf8
      have HK8 := hide K8
      have HX8 := hide (XD.trans (FF8.exo (by simp)))
      have HR48 := hide (RD.fr FF8 (by simp; exact HNE.out))
      have hb8 : Hid (w8.cell? ⟨B, 4, none⟩ = some (.slice (some ⟨g4, 0, none⟩) km.va.length c4)) := by
        have q1 := F8.blk B KD.box.lt (by rw [KD.oB]; simp)
        exact (World.cell?_of_block q1.1).trans bm4
      clear hr8 hc8 hf8 K8 FF8 XD RD R8 F8 hv8' hvm4 hgm4 kd KD HK5 HX5 HR45
      have em5 : w7.drew.cell? ⟨g4, m, none⟩ = some (.slice am4 (Kl.A { k with cl := k.cl.map (fun c => if c = l then m else c) } m).length dm4) := em4
      have bm5 : w7.drew.cell? ⟨B, 4, none⟩ = some (.slice (some ⟨g4, 0, none⟩) km.va.length c4) := bm4
      clear em4 bm4
      refine wp_region_held_drew (S := fun w' => w'.cell? ⟨B, 4, none⟩ = some (.slice (some ⟨g4, 0, none⟩) km.va.length c4)) (by kernel_rfl) bm5 (fun hHeld => ?_)
      generalize w7.drew = wd at *
      refine wpAnyH_take (i := 0) (v := ?_) rfl (by kernel_rfl) (by kernel_rfl) (by kernel_rfl) (fun _ _ _ h => h) (Or.inl ⟨by rfl, ?_⟩) (by assumption) ?_
      rotate_left
      · intro w' hSw
        go_simp <;> with_reducible rfl
      try simp only [Act.put, List.setIfInBounds_toArray, List.set_cons_zero, List.set_cons_succ, List.getElem_toArray, List.getElem_cons_succ, List.getElem_cons_zero]
      refine wpAnyH_take (i := 1) (v := ?_) rfl (by kernel_rfl) (by kernel_rfl) (by kernel_rfl) (fun _ _ _ h => h) (Or.inl ⟨by rfl, ?_⟩) (by assumption) ?_
      rotate_left
      · intro w' hSw
        go_simp <;> with_reducible rfl
      try simp only [Act.put, List.setIfInBounds_toArray, List.set_cons_zero, List.set_cons_succ, List.getElem_toArray, List.getElem_cons_succ, List.getElem_cons_zero]
      refine wpAnyH_take (i := 2) (v := ?_) rfl (by kernel_rfl) (by kernel_rfl) (by kernel_rfl) (fun _ _ _ h => h) (Or.inl ⟨by rfl, ?_⟩) (by assumption) ?_
      rotate_left
      · intro w' hSw
        go_simp <;> with_reducible rfl
      try simp only [Act.put, List.setIfInBounds_toArray, List.set_cons_zero, List.set_cons_succ, List.getElem_toArray, List.getElem_cons_succ, List.getElem_cons_zero]
      refine wpAnyH_take (i := 3) (v := ?_) rfl (by kernel_rfl) (by kernel_rfl) (by kernel_rfl) (fun _ _ _ h => h) (Or.inl ⟨by rfl, ?_⟩) (by assumption) ?_
      rotate_left
      · intro w' hSw
        have x0 : w'.cell? ⟨B, 4, none⟩ = some (.slice (some ⟨g4, 0, none⟩) km.va.length c4) := hSw
        go_simp <;> with_reducible rfl
      try simp only [Act.put, List.setIfInBounds_toArray, List.set_cons_zero, List.set_cons_succ, List.getElem_toArray, List.getElem_cons_succ, List.getElem_cons_zero]
      refine wpAnyH_take (i := 4) (v := ?_) rfl (by kernel_rfl) (by kernel_rfl) (by kernel_rfl) (fun _ _ _ h => h) (Or.inl ⟨by rfl, ?_⟩) (by assumption) ?_
      rotate_left
      · intro w' hSw
        go_simp <;> with_reducible rfl
      try simp only [Act.put, List.setIfInBounds_toArray, List.set_cons_zero, List.set_cons_succ, List.getElem_toArray, List.getElem_cons_succ, List.getElem_cons_zero]
      refine wpAnyH_take (i := 5) (v := ?_) rfl (by kernel_rfl) (by kernel_rfl) (by kernel_rfl) (fun _ _ _ h => h) (Or.inl ⟨by rfl, ?_⟩) (by assumption) ?_
      rotate_left
      · intro w' hSw
        go_simp <;> with_reducible rfl
      try simp only [Act.put, List.setIfInBounds_toArray, List.set_cons_zero, List.set_cons_succ, List.getElem_toArray, List.getElem_cons_succ, List.getElem_cons_zero]
      refine wpAnyH_take (i := 6) (v := ?_) rfl (by kernel_rfl) (by kernel_rfl) (by kernel_rfl) (fun _ _ _ h => h) (Or.inl ⟨by rfl, ?_⟩) (by assumption) ?_
      rotate_left
      · intro w' hSw
        go_simp <;> with_reducible rfl
      try simp only [Act.put, List.setIfInBounds_toArray, List.set_cons_zero, List.set_cons_succ, List.getElem_toArray, List.getElem_cons_succ, List.getElem_cons_zero]
      refine wpAnyH_take (i := 7) (v := ?_) rfl (by kernel_rfl) (by kernel_rfl) (by kernel_rfl) (fun _ _ _ h => h) (Or.inl ⟨by rfl, ?_⟩) (by assumption) ?_
      rotate_left
      · intro w' hSw
        go_simp <;> with_reducible rfl
      try simp only [Act.put, List.setIfInBounds_toArray, List.set_cons_zero, List.set_cons_succ, List.getElem_toArray, List.getElem_cons_succ, List.getElem_cons_zero]
      refine wpAnyH_take (i := 8) (v := ?_) rfl (by kernel_rfl) (by kernel_rfl) (by kernel_rfl) (fun _ _ _ h => h) (Or.inl ⟨by rfl, ?_⟩) (by assumption) ?_
      rotate_left
      · intro w' hSw
        have x0 : w'.cell? ⟨B, 4, none⟩ = some (.slice (some ⟨g4, 0, none⟩) km.va.length c4) := hSw
        go_simp <;> with_reducible rfl
      try simp only [Act.put, List.setIfInBounds_toArray, List.set_cons_zero, List.set_cons_succ, List.getElem_toArray, List.getElem_cons_succ, List.getElem_cons_zero]
      refine wpAnyH_take (i := 9) (v := ?_) rfl (by kernel_rfl) (by kernel_rfl) (by kernel_rfl) (fun _ _ _ h => h) (Or.inl ⟨by rfl, ?_⟩) (by assumption) ?_
      rotate_left
      · intro w' hSw
        go_simp <;> with_reducible rfl
      try simp only [Act.put, List.setIfInBounds_toArray, List.set_cons_zero, List.set_cons_succ, List.getElem_toArray, List.getElem_cons_succ, List.getElem_cons_zero]
      refine wpAnyH_take (i := 10) (v := ?_) rfl (by kernel_rfl) (by kernel_rfl) (by kernel_rfl) (fun _ _ _ h => h) (Or.inl ⟨by rfl, ?_⟩) (by assumption) ?_
      rotate_left
      · intro w' hSw
        go_simp <;> with_reducible rfl
      try simp only [Act.put, List.setIfInBounds_toArray, List.set_cons_zero, List.set_cons_succ, List.getElem_toArray, List.getElem_cons_succ, List.getElem_cons_zero]
      refine wpAnyH_take (i := 12) (v := ?_) rfl (by kernel_rfl) (by kernel_rfl) (by kernel_rfl) (fun _ _ _ h => h) (Or.inl ⟨by rfl, ?_⟩) (by assumption) ?_
      rotate_left
      · intro w' hSw
        go_simp <;> with_reducible rfl
      try simp only [Act.put, List.setIfInBounds_toArray, List.set_cons_zero, List.set_cons_succ, List.getElem_toArray, List.getElem_cons_succ, List.getElem_cons_zero]
      refine wpAnyH_ready (rs := [11]) (by kernel_rfl) (by simp) ?_
      refine AllReadyH.cons rfl (fun K hK => ?_) AllReadyH.nil
      go_simp
      refine hK.out _ _ (by exact bm5) (fun hHeld => ?_)
      clear hK K
      try simp only [Act.put, List.setIfInBounds_toArray, List.set_cons_zero, List.set_cons_succ, List.getElem_toArray, List.getElem_cons_succ, List.getElem_cons_zero]
      refine wpAnyH_ready (rs := [13]) (by kernel_rfl) (by simp) ?_
      refine AllReadyH.cons rfl (fun K hK => ?_) AllReadyH.nil
      refine step_append_eqK rfl _ _ _ _ rfl rfl rfl HR8.out ?_
      refine hK.out _ _ (by exact hb8.out) (fun hHeld => ?_)
      clear hK K
      try simp only [Act.put, List.setIfInBounds_toArray, List.set_cons_zero, List.set_cons_succ, List.getElem_toArray, List.getElem_cons_succ, List.getElem_cons_zero]
      refine wpAnyH_take (i := 14) (v := ?_) rfl (by kernel_rfl) (by kernel_rfl) (by kernel_rfl) (fun _ _ _ h => h) (Or.inl ⟨by rfl, ?_⟩) (by assumption) ?_
      rotate_left
      · intro w' hSw
        go_simp <;> with_reducible rfl
      try simp only [Act.put, List.setIfInBounds_toArray, List.set_cons_zero, List.set_cons_succ, List.getElem_toArray, List.getElem_cons_succ, List.getElem_cons_zero]
      have c8 := HC8.out
      have f8 := HF8.out
      refine wpAnyH_ready (rs := [15]) (by kernel_rfl) (by simp) ?_
      refine AllReadyH.cons rfl (fun K hK => ?_) AllReadyH.nil
      go_simp
      refine hK.out _ _ (by exact (World.cell?_of_block (Below.heap_setCell _ _ _ _ (by simpa using fun e => hg4B e.symm))).trans hb8.out) (fun hHeld => ?_)
      clear hK K
      try simp only [Act.put, List.setIfInBounds_toArray, List.set_cons_zero, List.set_cons_succ, List.getElem_toArray, List.getElem_cons_succ, List.getElem_cons_zero]
      refine wpAnyH_done (by kernel_rfl) ?_ _
      clear hHeld c8 f8 bm5 em5
      generalize (w8.setCell ⟨g4, m, none⟩ _) = w8x at *
      clear HR8 HC8 HF8 hb8
      go_upto_region 9 with fail
      have kd : Below w8x.heap.size w8x w8x.drew := (Below.refl _ _).drew
      have HKd := hide (HK8.out.later kd)
      have HXd := hide (HX8.out.trans (Exo.below kd fun _ _ => rfl))
      have HRd := hide (HR48.out.later kd)
      have bx3 : w8x.drew.cell? ⟨B, 3, none⟩ = some (.slice (some ⟨g3, 0, none⟩) km.vm.length c3) := by rw [HKd.out.box.cell]; simp [HV3.out]
      have bx4 : w8x.drew.cell? ⟨B, 4, none⟩ = some (.slice (some ⟨g4, 0, none⟩) km.va.length c4) := by rw [HKd.out.box.cell]; simp [HV4.out]
      clear HK8 HX8 HR48 kd
      refine wp_region_held_drew (S := fun w' => w'.cell? ⟨B, 3, none⟩ = some (.slice (some ⟨g3, 0, none⟩) km.vm.length c3) ∧ w'.cell? ⟨B, 4, none⟩ = some (.slice (some ⟨g4, 0, none⟩) km.va.length c4)) (by kernel_rfl) ⟨bx3, bx4⟩ (fun hHeld => ?_)
      generalize w8x.drew = w9 at *
      have HK8 := HKd
      have HX8 := HXd
      have HR48 := HRd
      clear HKd HXd HRd
      obtain ⟨h3', i3', a9, d9, hvm9, hgm9, em9, f9, -, bm9, -⟩ := HK8.out.mb_at (i := l) (by simp; exact HL.out)
      obtain ⟨rfl, rfl⟩ : g3 = h3' ∧ c3 = i3' := by
        have q9 : km.v3 = .slice (some ⟨h3', 0, none⟩) _ i3' := hvm9
        rw [HV3.out] at q9
        simpa using q9
      obtain ⟨h4', i4', b9, e9, hvm8, hgm8, en9, n9, -, bn9, hog9⟩ := HK8.out.ab_at (i := l) (by simp; exact HL2.out)
      obtain ⟨rfl, rfl⟩ : g4 = h4' ∧ c4 = i4' := by
        have q9 : km.v4 = .slice (some ⟨h4', 0, none⟩) _ i4' := hvm8
        rw [HV4.out] at q9
        simpa using q9
      simp only [List.length_set] at bm9 bn9
      obtain ⟨s3, sc3, hvs, hcs9, hfs9, K10, F10⟩ := HK8.out.row_mb (i := l) (by simp; exact HL.out) (Fr.refl _ _ _) (v := nV) (l := []) (Rwo.nil _ _ _ _ _ _)
      obtain ⟨rfl, rfl⟩ : g3 = s3 ∧ c3 = sc3 := by
        have q9 : km.v3 = .slice (some ⟨s3, 0, none⟩) _ sc3 := hvs
        rw [HV3.out] at q9
        simpa using q9
      obtain ⟨s4, sc4, hvt, hct9, hft9, K11, F11⟩ := K10.row_ab (i := l) (by simp; exact HL2.out) (Fr.refl _ _ _) (v := nV) (l := []) (Rwo.nil _ _ _ _ _ _)
      obtain ⟨rfl, rfl⟩ : g4 = s4 ∧ c4 = sc4 := by
        have q9 : km.v4 = .slice (some ⟨s4, 0, none⟩) _ sc4 := hvt
        rw [HV4.out] at q9
        simpa using q9
      have R11 := (HR48.out.fr F10 (by simp)).fr (fr_box (o := o8) (w := (w9.setCell ⟨g3, l, none⟩ nV)) hog9 l nV) (by simp)
      have K12 := K11.free_ab (i := l) (by show gd (List.set _ l nV) nV l = nV; exact gd_set (by simp; rw [HK.out.l4]; exact HL2.out)) HR48.out.2
      have HR12 := hide (R11.give (id' := eX))
      have HNX : Hid (∀ b, (Value.slice a4 (k.A l).length d4).ownBlock = some b → b < w.heap.size ∧ o b ≠ eX) := fun b hb => by
        have h1 := HH.out.i4 l HL2.out
        have h2 : gd km.va nV l = .slice a4 (k.A l).length d4 := HAL.out
        rw [h2] at h1
        exact ⟨(h1.1.lt b hb).2, by rw [h1.2 b hb]; simp⟩
      have HK12 : Hid (∃ m', KlAt N B r X ((w9.setCell ⟨g3, l, none⟩ nV).setCell ⟨g4, l, none⟩ nV) (upV o8 (.slice a4 (k.A l).length d4) eX) (k.swal l m) m') := ⟨_, K12⟩
      have HX12 : Hid (Exo o w (upV o8 (.slice a4 (k.A l).length d4) eX) ((w9.setCell ⟨g3, l, none⟩ nV).setCell ⟨g4, l, none⟩ nV)) := by
        have h1 := (HX8.out.trans (F10.exo (by simp))).trans (F11.exo (by simp))
        refine ⟨h1.1, h1.2.1, h1.2.2.1, h1.2.2.2.1, fun b hb he => ?_⟩
        obtain ⟨q1, q2⟩ := h1.2.2.2.2 b hb he
        refine ⟨q1, ?_⟩
        unfold upV
        split
        · rfl
        · exact q2
      have HC9 : Hid ((w9.setCell ⟨g3, l, none⟩ nV).cell? ⟨B, 3, none⟩ = some (.slice (some ⟨g3, 0, none⟩) km.vm.length c3) ∧ (w9.setCell ⟨g3, l, none⟩ nV).cell? ⟨B, 4, none⟩ = some (.slice (some ⟨g4, 0, none⟩) km.va.length c4)) := ⟨(World.cell?_of_block (Below.heap_setCell _ _ _ _ (by simpa using fun e => hg3B e.symm))).trans bm9, (World.cell?_of_block (Below.heap_setCell _ _ _ _ (by simpa using fun e => hg3B e.symm))).trans bn9⟩
      have hg34 : Hid (g3 ≠ g4) := fun e => by
        have h1 := HK8.out.r3.2 g3 (by rw [show (Km.v3 _) = km.v3 from rfl, HV3.out]; rfl)
        have h2 := HK8.out.r4.2 g3 (by rw [show (Km.v4 _) = km.v4 from rfl, HV4.out, e]; rfl)
        rw [h1] at h2
        cases h2
      have hn9 : (w9.setCell ⟨g3, l, none⟩ nV).cell? ⟨g4, l, none⟩ = some (gd (km.va.set m (.slice a8 (iL (Kl.A { k with cl := k.cl.map (fun c => if c = l then m else c) } m ++ k.A l)).length d8)) nV l) := hct9
      have hm9 : (w9.setCell ⟨g3, l, none⟩ nV).frozen? ⟨g4, l, none⟩ = false := hft9
      have hg9 := em9
      have hgf9 := f9
      clear HK8 HX8 HR48 hvm9 hgm9 hvm8 hgm8 en9 n9 hog9 hvs hcs9 hfs9 K10 F10 hvt hct9 hft9 K11 F11 R11 K12 bm9 bn9 em9 f9
      refine wpAnyH_take (i := 0) (v := ?_) rfl (by kernel_rfl) (by kernel_rfl) (by kernel_rfl) (fun _ _ _ h => h) (Or.inl ⟨by rfl, ?_⟩) (by assumption) ?_
      rotate_left
      · intro w' hSw
        go_simp <;> with_reducible rfl
      try simp only [Act.put, List.setIfInBounds_toArray, List.set_cons_zero, List.set_cons_succ, List.getElem_toArray, List.getElem_cons_succ, List.getElem_cons_zero]
      refine wpAnyH_take (i := 1) (v := ?_) rfl (by kernel_rfl) (by kernel_rfl) (by kernel_rfl) (fun _ _ _ h => h) (Or.inl ⟨by rfl, ?_⟩) (by assumption) ?_
      rotate_left
      · intro w' hSw
        go_simp <;> with_reducible rfl
      try simp only [Act.put, List.setIfInBounds_toArray, List.set_cons_zero, List.set_cons_succ, List.getElem_toArray, List.getElem_cons_succ, List.getElem_cons_zero]
      refine wpAnyH_take (i := 2) (v := ?_) rfl (by kernel_rfl) (by kernel_rfl) (by kernel_rfl) (fun _ _ _ h => h) (Or.inl ⟨by rfl, ?_⟩) (by assumption) ?_
      rotate_left
      · intro w' hSw
        go_simp <;> with_reducible rfl
      try simp only [Act.put, List.setIfInBounds_toArray, List.set_cons_zero, List.set_cons_succ, List.getElem_toArray, List.getElem_cons_succ, List.getElem_cons_zero]
      refine wpAnyH_take (i := 3) (v := ?_) rfl (by kernel_rfl) (by kernel_rfl) (by kernel_rfl) (fun _ _ _ h => h) (Or.inl ⟨by rfl, ?_⟩) (by assumption) ?_
      rotate_left
      · intro w' hSw
        have x0 := hSw.1
        have x1 := hSw.2
        go_simp <;> with_reducible rfl
      try simp only [Act.put, List.setIfInBounds_toArray, List.set_cons_zero, List.set_cons_succ, List.getElem_toArray, List.getElem_cons_succ, List.getElem_cons_zero]
      refine wpAnyH_take (i := 4) (v := ?_) rfl (by kernel_rfl) (by kernel_rfl) (by kernel_rfl) (fun _ _ _ h => h) (Or.inl ⟨by rfl, ?_⟩) (by assumption) ?_
      rotate_left
      · intro w' hSw
        go_simp <;> with_reducible rfl
      try simp only [Act.put, List.setIfInBounds_toArray, List.set_cons_zero, List.set_cons_succ, List.getElem_toArray, List.getElem_cons_succ, List.getElem_cons_zero]
      refine wpAnyH_take (i := 5) (v := ?_) rfl (by kernel_rfl) (by kernel_rfl) (by kernel_rfl) (fun _ _ _ h => h) (Or.inl ⟨by rfl, ?_⟩) (by assumption) ?_
      rotate_left
      · intro w' hSw
        go_simp <;> with_reducible rfl
      try simp only [Act.put, List.setIfInBounds_toArray, List.set_cons_zero, List.set_cons_succ, List.getElem_toArray, List.getElem_cons_succ, List.getElem_cons_zero]
      refine wpAnyH_take (i := 6) (v := ?_) rfl (by kernel_rfl) (by kernel_rfl) (by kernel_rfl) (fun _ _ _ h => h) (Or.inl ⟨by rfl, ?_⟩) (by assumption) ?_
      rotate_left
      · intro w' hSw
        go_simp <;> with_reducible rfl
      try simp only [Act.put, List.setIfInBounds_toArray, List.set_cons_zero, List.set_cons_succ, List.getElem_toArray, List.getElem_cons_succ, List.getElem_cons_zero]
      refine wpAnyH_take (i := 7) (v := ?_) rfl (by kernel_rfl) (by kernel_rfl) (by kernel_rfl) (fun _ _ _ h => h) (Or.inl ⟨by rfl, ?_⟩) (by assumption) ?_
      rotate_left
      · intro w' hSw
        go_simp <;> with_reducible rfl
      try simp only [Act.put, List.setIfInBounds_toArray, List.set_cons_zero, List.set_cons_succ, List.getElem_toArray, List.getElem_cons_succ, List.getElem_cons_zero]
      refine wpAnyH_take (i := 8) (v := ?_) rfl (by kernel_rfl) (by kernel_rfl) (by kernel_rfl) (fun _ _ _ h => h) (Or.inl ⟨by rfl, ?_⟩) (by assumption) ?_
      rotate_left
      · intro w' hSw
        have x0 := hSw.1
        have x1 := hSw.2
        go_simp <;> with_reducible rfl
      try simp only [Act.put, List.setIfInBounds_toArray, List.set_cons_zero, List.set_cons_succ, List.getElem_toArray, List.getElem_cons_succ, List.getElem_cons_zero]
      refine wpAnyH_take (i := 9) (v := ?_) rfl (by kernel_rfl) (by kernel_rfl) (by kernel_rfl) (fun _ _ _ h => h) (Or.inl ⟨by rfl, ?_⟩) (by assumption) ?_
      rotate_left
      · intro w' hSw
        go_simp <;> with_reducible rfl
      try simp only [Act.put, List.setIfInBounds_toArray, List.set_cons_zero, List.set_cons_succ, List.getElem_toArray, List.getElem_cons_succ, List.getElem_cons_zero]
      refine wpAnyH_take (i := 10) (v := ?_) rfl (by kernel_rfl) (by kernel_rfl) (by kernel_rfl) (fun _ _ _ h => h) (Or.inl ⟨by rfl, ?_⟩) (by assumption) ?_
      rotate_left
      · intro w' hSw
        go_simp <;> with_reducible rfl
      try simp only [Act.put, List.setIfInBounds_toArray, List.set_cons_zero, List.set_cons_succ, List.getElem_toArray, List.getElem_cons_succ, List.getElem_cons_zero]
      refine wpAnyH_ready (rs := [11]) (by kernel_rfl) (by simp) ?_
      refine AllReadyH.cons rfl (fun K hK => ?_) AllReadyH.nil
      go_simp
      refine hK.out _ _ (by exact HC9.out) (fun hHeld => ?_)
      clear hK K
      try simp only [Act.put, List.setIfInBounds_toArray, List.set_cons_zero, List.set_cons_succ, List.getElem_toArray, List.getElem_cons_succ, List.getElem_cons_zero]
      clear hg9 hgf9
      refine wpAnyH_take (i := 12) (v := ?_) rfl (by kernel_rfl) (by kernel_rfl) (by kernel_rfl) (fun _ _ _ h => h) (Or.inl ⟨by rfl, ?_⟩) (by assumption) ?_
      rotate_left
      · intro w' hSw
        go_simp <;> with_reducible rfl
      try simp only [Act.put, List.setIfInBounds_toArray, List.set_cons_zero, List.set_cons_succ, List.getElem_toArray, List.getElem_cons_succ, List.getElem_cons_zero]
      refine wpAnyH_ready (rs := [13]) (by kernel_rfl) (by simp) ?_
      refine AllReadyH.cons rfl (fun K hK => ?_) AllReadyH.nil
      go_simp
      refine hK.out _ _ (by exact ⟨(World.cell?_of_block (Below.heap_setCell _ _ _ _ (by simpa using fun e => hg4B e.symm))).trans HC9.out.1, (World.cell?_of_block (Below.heap_setCell _ _ _ _ (by simpa using fun e => hg4B e.symm))).trans HC9.out.2⟩) (fun hHeld => ?_)
      clear hK K
      try simp only [Act.put, List.setIfInBounds_toArray, List.set_cons_zero, List.set_cons_succ, List.getElem_toArray, List.getElem_cons_succ, List.getElem_cons_zero]
      refine wpAnyH_done (by kernel_rfl) ?_ _
      clear hHeld hn9 hm9
      obtain ⟨m9, hKm⟩ := HK12.out
      go_wp2_with fail
      go_ret
      exact ⟨_, m9, _, rfl, HR12.out, HNX.out, hKm, HX12.out⟩
end Go.Proofs.YtdmaijmglblccaaGreatDoor

/- Memory and plain: what is to be joined. -/
namespace Go.Proofs.YtdmaijmglblccaaGreatDoor
open Go.RowKit
set_option linter.unusedSimpArgs false
set_option linter.unusedVariables false
set_option maxRecDepth 8000

def pL : List (Nat × Nat) → List Value
  | [] => []
  | p :: r => iV p.1 :: iV p.2 :: pL r
theorem pL_len : ∀ l : List (Nat × Nat), (pL l).length = l.length * 2
  | [] => rfl
  | p :: r => by simp only [pL, List.length_cons, pL_len r]; omega
theorem pL_app : ∀ a b : List (Nat × Nat), pL (a ++ b) = pL a ++ pL b
  | [], b => rfl
  | p :: r, b => by simp [pL, pL_app r b]
theorem Tryz.infoPairI : (Tryz.prog.info? 81).map (fun i => (i.zero, i.size, i.bytes)) = some (some (.agg #[.int .i64 0, .int .i64 0]), 2, 16) := by kernel_rfl
/-- One more that is to be done. -/
theorem app_todo {N B r : Nat} {X : Nat → Prop} {w : World} {o : Nat → Oid} {k : Kl} {m : Km} (h : KlAt N B r X w o k m) {v : Value} {td : List (Nat × Nat)} (hv : Rwo w N o eX 81 2 v td.length (pL td)) (hnX : ∀ b, v.ownBlock = some b → ¬ X b) (hl : td.length ≤ 2000000) (a b : Nat) :
    ∃ g cap w3 o', (Builtin.append_ #[79, 79] 79 #[v, .slice (some ⟨w.heap.size, 0, none⟩) 1 1]).run Tryz.prog (w.alloc (.cells #[iV a, iV b] 81)) = .ok (.slice (some ⟨g, 0, none⟩) (td.length + 1) cap) w3 ∧
      Rwo w3 N o' eX 81 2 (.slice (some ⟨g, 0, none⟩) (td.length + 1) cap) (td ++ [(a, b)]).length (pL (td ++ [(a, b)])) ∧ KlAt N B r X w3 o' k m ∧ (v.ownBlock = some g ∨ w.heap.size ≤ g) ∧
      (w3.os = w.os ∧ w3.tape = w.tape ∧ w3.output = w.output ∧ w.heap.size ≤ w3.heap.size) ∧ (∀ b, b < w.heap.size → v.ownBlock ≠ some b → w3.heap[b]? = w.heap[b]?) ∧ ∀ b, b < w.heap.size → o' b = o b := by
  obtain ⟨i0, hi, hz0, hz1, hz2⟩ := info_parts Tryz.infoPairI
  obtain ⟨g, cap, w3, hr, ho, hg, hat, _⟩ := run_append_lies (P := Tryz.prog) (w := w.alloc (.cells #[iV a, iV b] 81)) 79 79 N 81 i0 _ 2 16 Tryz.underlying79 hi hz0 hz1 hz2 rfl (by decide) v td.length (pL td) (hv.1.alloc _) ⟨w.heap.size, 0, none⟩ 1 1 [iV a, iV b] rfl (World.news_of_block (cs := #[iV a, iV b]) (heap_alloc_new w _)) (by simp [Value.oneCell']) (by omega) (by unfold maxLen; omega) (by omega) (by have := h.nN; simp; omega) _ rfl
  have hblk : ∀ b, b < w.heap.size → v.ownBlock ≠ some b → w3.heap[b]? = w.heap[b]? := fun b hb hne => by rw [hg.block b (by simp; omega) (fun e => hne e.symm), Below.heap_alloc _ _ _ hb]
  have hsz : w.heap.size ≤ w3.heap.size := Nat.le_trans (by simp) hg.size
  have hoo : ∀ b, b < w.heap.size → upN o w.heap.size b = o b := fun b hb => upN_lt hb
  refine ⟨g, cap, w3, upN o w.heap.size, hr, ⟨by rw [pL_app, List.length_append]; exact ho, fun b hb => ?_⟩, h.mv hsz fun b hb hor => ⟨hblk b hb fun e => ?_, hoo b hb⟩, ?_, ⟨hg.os, hg.tape, hg.output, hsz⟩, hblk, hoo⟩
  · have e : g = b := by simpa [Value.ownBlock] using hb
    subst e
    rcases hat with e | e
    · rw [upN_lt (hv.1.lt g e).2]; exact hv.2 g e
    · rw [World.size_alloc] at e; exact upN_ge (by omega)
  · rcases hor with hne | hx
    · exact hne (hv.2 b e)
    · exact hnX b e hx
  · rcases hat with e | e
    · exact Or.inl e
    · rw [World.size_alloc] at e; exact Or.inr (by omega)
/-- The last one. -/
theorem todo_last {w : World} {N : Nat} {o : Nat → Oid} {id : Oid} {v : Value} {td : List (Nat × Nat)} {a b : Nat} (h : Rwo w N o id 81 2 v (td ++ [(a, b)]).length (pL (td ++ [(a, b)]))) : ∃ g cap, v = .slice (some ⟨g, 0, none⟩) (td.length + 1) cap ∧ w.cell? ⟨g, td.length * 2, none⟩ = some (iV a) ∧ w.cell? ⟨g, td.length * 2 + 1, none⟩ = some (iV b) ∧ td.length + 1 ≤ cap ∧ Rwo w N o id 81 2 (.slice (some ⟨g, 0, none⟩) td.length cap) td.length (pL td) := by
  rw [List.length_append, List.length_singleton, pL_app] at h
  obtain ⟨g, cap, rfl, hg, hlt⟩ := h.1.form (by omega)
  have hx := pL_len td
  refine ⟨g, cap, rfl, ?_, ?_, ?_, ⟨ownsRow_pop (by rw [hx]) h.1, fun b hb => h.2 b hb⟩⟩
  · rw [h.1.cellAt (td.length * 2) (by omega), List.getElem?_append_right (by omega), hx, Nat.sub_self]; rfl
  · rw [h.1.cellAt (td.length * 2 + 1) (by omega), List.getElem?_append_right (by omega), hx, show td.length * 2 + 1 - td.length * 2 = 1 by omega]; rfl
  · rcases h.1.2 with ⟨h0, _⟩ | ⟨g', cap', cur, hv, _, _, hle, _⟩
    · cases h0
    · cases hv; exact hle
theorem todo_pop (g n cap : Nat) (hn : n + 1 ≤ cap) (w' : World) : Sem.run Tryz.prog (Instr.slice 79 (.slice (some ⟨g, 0, none⟩) (n + 1) cap) none (some (.int .i64 (n : Int))) none) w' = .ok (.slice (some ⟨g, 0, none⟩) n cap) w' := by
  rw [run_slice_h (P := Tryz.prog) (ht := Tryz.underlying79) (h0 := by omega) (h2 := by omega)]
  simp [go_sem, sliced]
/-- What is to be done is none of the classes'. -/
theorem KlAt.relT {N B r : Nat} {X : Nat → Prop} {w : World} {o : Nat → Oid} {k : Kl} {m : Km} (h : KlAt N B r X w o k m) {v : Value} (hv : ∀ b, v.ownBlock = some b → o b = (11, 0)) : KlAt N B r X w (upV o v eX) k m := by
  have oth : ∀ {id : Oid} {T e : Nat} {u : Value} {n : Nat} {xs : List Value}, Rwo w N o id T e u n xs → id ≠ (11, 0) → Rwo w N (upV o v eX) id T e u n xs := fun hh hne => hh.other hv hne
  have one : ∀ b, o b ≠ (11, 0) → upV o v eX b = o b := fun b hb => upV_no fun e => hb (hv b e)
  exact ⟨h.box, h.map, h.nB, h.nr, h.nN, (one B (by rw [h.oB]; simp)).trans h.oB, (one r (by rw [h.oR]; simp)).trans h.oR, oth h.r0 (by simp), h.ts, h.tx, fun b hb => ⟨(h.hX b hb).1, (one b (by rw [(h.hX b hb).2]; simp)).trans (h.hX b hb).2⟩, oth h.r1 (by simp), oth h.r2 (by simp), oth h.r3 (by simp), oth h.r4 (by simp), h.l1, h.l3, h.l4, fun j hj => oth (h.i1 j hj) (by simp), fun j hj => oth (h.i3 j hj) (by simp), fun j hj => oth (h.i4 j hj) (by simp)⟩
theorem drop_ne {l : List Nat} {q x : Nat} (h : q < l.length) (hx : x ∈ l.drop q) (hne : x ≠ l[q]) : x ∈ l.drop (q + 1) := by
  rw [List.drop_eq_getElem_cons h] at hx
  rcases List.mem_cons.1 hx with e | e
  · exact absurd e hne
  · exact e
theorem cnt_le (k : Kl) : k.cnt ≤ k.ts.length := by
  unfold Kl.cnt
  have := List.length_filter_le (fun c => !(k.M c).isEmpty) (List.range k.ts.length)
  simpa using this
/-- A term's symbol, and those right below it, in memory. -/
theorem KlAt.ts_at {N B r : Nat} {X : Nat → Prop} {w : World} {o : Nat → Oid} {k : Kl} {m : Km} (h : KlAt N B r X w o k m) {i : Nat} (hi : i < k.ts.length) : ∃ g0 c0 a c, m.v0 = .slice (some ⟨g0, 0, none⟩) m.cs.length c0 ∧ w.cell? ⟨B, 0, none⟩ = some (.slice (some ⟨g0, 0, none⟩) m.cs.length c0) ∧ w.cell? ⟨g0, i * 2, none⟩ = some (.string (k.T i).name) ∧ w.cell? ⟨g0, i * 2 + 1, none⟩ = some (.slice a (k.T i).args.length c) ∧ Sl w X a (k.T i).args ∧ m.cs.length = k.ts.length := by
  have hz : m.cs.length = k.ts.length := by rw [← h.ts]; simp
  have h0 := h.r0
  obtain ⟨g, cap, hv, hg, hlt⟩ := h0.1.form (by omega)
  have hic : i < m.cs.length := by omega
  obtain ⟨f1, f2⟩ := flatT_get m.cs i hic
  have eT : m.cs[i].1 = k.T i := by
    unfold Kl.T
    rw [gd_get hi]
    have : (m.cs.map (·.1))[i]'(by simpa using hic) = k.ts[i] := by congr 1; exact h.ts
    simpa using this
  rw [hv] at h0
  have hx := flatT_len m.cs
  refine ⟨g, cap, m.cs[i].2.1, m.cs[i].2.2, hv, by rw [h.box.cell]; simp [hv], ?_, ?_, ?_, hz⟩
  · rw [h0.1.cellAt (i * 2) (by omega), f1, eT]
  · rw [h0.1.cellAt (i * 2 + 1) (by omega), f2, eT]
  · rw [← eT]; exact h.tx _ (List.getElem_mem hic)
theorem KlAt.bl_at {N B r : Nat} {X : Nat → Prop} {w : World} {o : Nat → Oid} {k : Kl} {m : Km} (h : KlAt N B r X w o k m) {i : Nat} (hi : i < k.bl.length) : ∃ g3 c3 a c, w.cell? ⟨B, 1, none⟩ = some (.slice (some ⟨g3, 0, none⟩) m.vb.length c3) ∧ gd m.vb nV i = .slice a (k.B i).length c ∧ w.cell? ⟨g3, i, none⟩ = some (.slice a (k.B i).length c) ∧ m.vb.length = k.bl.length := by
  have row := h.i1 i hi
  obtain ⟨a, c, hv⟩ := row.shape
  have h4 := h.r1
  obtain ⟨a4, c4, hv4⟩ := h4.shape
  rw [hv4] at h4
  obtain ⟨g4, u4, rfl, hu4, hc4, hf4, ho4, -, -⟩ := h4.at (i := i) (by rw [h.l1]; exact hi)
  have hue : u4 = gd m.vb nV i := by unfold gd; rw [hu4]; rfl
  rw [hue, hv, iL_len] at hc4
  rw [iL_len] at hv
  exact ⟨g4, c4, a, c, by rw [h.box.cell]; simp [hv4], hv, hc4, h.l1⟩
theorem KlAt.cl_at {N B r : Nat} {X : Nat → Prop} {w : World} {o : Nat → Oid} {k : Kl} {m : Km} (h : KlAt N B r X w o k m) {i : Nat} (hi : i < k.cl.length) : ∃ g2 c2, w.cell? ⟨B, 2, none⟩ = some (.slice (some ⟨g2, 0, none⟩) k.cl.length c2) ∧ w.cell? ⟨g2, i, none⟩ = some (iV (k.C i)) ∧ m.v2 = .slice (some ⟨g2, 0, none⟩) k.cl.length c2 := by
  have h4 := h.r2
  obtain ⟨a4, c4, hv4⟩ := h4.shape
  rw [hv4] at h4
  obtain ⟨g4, u4, rfl, hu4, hc4, -, -, -, -⟩ := h4.at (i := i) (by rw [iL_len]; exact hi)
  rw [iL_at hu4] at hc4
  rw [iL_len] at hv4
  exact ⟨g4, c4, by rw [h.box.cell]; simp [hv4], hc4, hv4⟩
end Go.Proofs.YtdmaijmglblccaaGreatDoor

/- Walks: a term gets its number (closure's classes.number). -/
namespace Go.Proofs.YtdmaijmglblccaaGreatDoor
open Go.RowKit
set_option linter.unusedSimpArgs false
set_option linter.unusedVariables false
set_option maxRecDepth 8000

/-- What numbering a term leaves. -/
def NuP (N B r : Nat) (X : Nat → Prop) (k : Kl) (t : Tm) (o : Nat → Oid) (w : World) (e : Ending) (w' : World) : Prop :=
  ∃ k' m' o' i, e = .returned (.int .i64 ((i : Nat) : Int)) ∧ NumR k t k' i ∧ KlAt N B r X w' o' k' m' ∧ Exo o w o' w'
/-- While its parts are numbered. -/
def NuI (N B r : Nat) (X : Nat → Prop) (k : Kl) (l : List Tm) (o1 : Nat → Oid) (w1 : World) (v i : Value) (wr : World) : Prop :=
  ∃ (j : Nat) (bs : List Nat) (kj : Kl) (mj : Km) (oj : Nat → Oid), j ≤ l.length ∧ i = .int .i64 (j : Int) ∧ NumJ k (l.take j) kj bs ∧ KlAt N B r X wr oj kj mj ∧ Exo o1 w1 oj wr ∧ Rwo wr N oj eX 3 1 v (iL bs).length (iL bs) ∧ bs.length = j ∧ ∀ b, v.ownBlock = some b → w1.heap.size ≤ b
/-- While the parts are noted. -/
def NuN (N B r : Nat) (X : Nat → Prop) (k0 : Kl) (m0 : Km) (bs : List Nat) (n : Nat) (o1 : Nat → Oid) (w1 : World) (i : Value) (wr : World) : Prop :=
  ∃ (q : Nat) (oq : Nat → Oid) (va : List Value), q ≤ bs.length ∧ i = .int .i64 (q : Int) ∧ KlAt N B r X wr oq (k0.notes (bs.take q) n) { m0 with va := va } ∧ Exo o1 w1 oq wr
theorem size_parts (s : ByteArray) (l : List Tm) : sizeL [(⟨s, l⟩ : Tm)] = 1 + sizeL l := by simp [sizeL]
theorem size_takeK (l : List Tm) (j : Nat) : sizeL (l.take j) ≤ sizeL l := by
  conv => rhs; rw [← List.take_append_drop j l, sizeL_append]
  omega
theorem len_sizeK : ∀ l : List Tm, l.length ≤ sizeL l
  | [] => by simp [sizeL]
  | ⟨s, a⟩ :: r => by
    have := len_sizeK r
    simp only [List.length_cons, sizeL]
    omega
theorem err_memK {l : List Tm} (h : errL l = 0) {t : Tm} (ht : t ∈ l) : errL [t] = 0 := by
  induction l with
  | nil => cases ht
  | cons u r ih =>
    have h1 : errL [u] = 0 ∧ errL r = 0 := by
      rw [errL_cons] at h
      split at h
      · rename_i g; exact ⟨g, h⟩
      · rename_i g; exact absurd h g
    rcases List.mem_cons.1 ht with e | e
    · rw [e]; exact h1.1
    · exact ih h1.2 e
theorem name_sizeK {s : ByteArray} (h : nameB s = true) : s.size ≤ 8 := by
  unfold nameB at h
  simp only [Bool.and_eq_true, decide_eq_true_eq] at h
  exact h.1.1.2
theorem exo_push {I : Oid → Prop} {o1 o o' : Nat → Oid} {w1 w w' : World} {lv : Value} (E : Exo o1 w1 o w) (f : Fr I o w o' w') (hp : ∀ b, b < w.heap.size → o b = eX → lv.ownBlock ≠ some b → w'.heap[b]? = w.heap[b]? ∧ o' b = eX) (how : ∀ b, lv.ownBlock = some b → w1.heap.size ≤ b) : Exo o1 w1 o' w' :=
  ⟨f.os.trans E.1, f.tape.trans E.2.1, f.output.trans E.2.2.1, Nat.le_trans E.2.2.2.1 f.size, fun b hb he => by
    obtain ⟨e1, e2⟩ := E.2.2.2.2 b hb he
    obtain ⟨e3, e4⟩ := hp b (Nat.lt_of_lt_of_le hb E.2.2.2.1) e2 fun e => by have := how b e; omega
    exact ⟨e3.trans e1, e4⟩⟩
theorem lit_row {w : World} {N : Nat} {o : Nat → Oid} (hN : N ≤ w.heap.size) (n : Nat) : Rwo (w.alloc (.cells #[iV n] 3)) N (upN o w.heap.size) eX 3 1 (.slice (some ⟨w.heap.size, 0, none⟩) 1 1) (iL [n]).length (iL [n]) :=
  ⟨World.ownsRow_lit w #[iV n] 1 hN (by unfold maxLen; omega) rfl, fun b hb => by
    have e : w.heap.size = b := by simpa [Value.ownBlock] using hb
    exact upN_ge (by omega)⟩
theorem map_look {w : World} {r : Nat} {l : List (ByteArray × Nat)} (h : MapAt w r (sgV l)) (s : ByteArray) : (Instr.lookup 63 (.map (some r)) (.string s) true).run Tryz.prog w = .ok (.tuple #[((sgG l s).map iV).getD (.int .i64 0), .bool (sgG l s).isSome]) w := by
  rw [run_look (P := Tryz.prog) Tryz.underlying63 Tryz.underlying9 (Tryz.zeroValue3 w) h, sgG_get]
  cases sgG l s <;> rfl
set_option maxHeartbeats 8000000 in
theorem number_any {BT N B r : Nat} {X : Nat → Prop} (t : Tm) : ∀ {w : World} {o : Nat → Oid} {k : Kl} {m : Km} (a : Option Addr) (c : Nat), KlAt N B r X w o k m → NumI k AllU → TbO BT o w → errL [t] = 0 → sizeL [t] ≤ 900 → k.ts.length + sizeL [t] ≤ 80000 → sumN k.ab + sizeL [t] ≤ 800000 → Sl w X a t.args →
    Calls Tryz.prog 46 #[.pointer (some ⟨B, 0, none⟩), .agg #[.string t.name, .slice a t.args.length c]] w (NuP N B r X k t o w) := by
  induction t using Tm.ind with
  | h s l ih =>
    intro w o k m a c hk hn ht he hz hz1 hz2 hs
    rw [size_parts] at hz hz1 hz2
    have hel : errL l = 0 := errL_parts0 he
    have hs8 := name_sizeK (errL_name0 he)
    obtain ⟨K1, E1⟩ := hk.upn ((Below.refl _ _).alloc (Nat.le_refl _) (.cells #[.string s, .slice a l.length c] 25))
    have P1 := Blk.new w #[.string s, .slice a l.length c] 25
    have S1 := (hs.exo hk.hX E1)
    have X1 := exo_X hk.hX E1
    have T1 := ht.exo E1
    have oP : upN o w.heap.size w.heap.size = eX := upN_ge (Nat.le_refl _)
    have IH := hide ih
    have HE := hide he
    have HEL := hide hel
    have HN := hide hn
    have HXO := hide X1
    have hll := len_sizeK l
    clear ih hk ht hs hn
    go_enter Tryz.func46, Tryz.ntmps46
    go_upto_region 2 with fail
    have HE1 := hide E1
    have HXN := hide (show ∀ b, X b → b < (w.alloc (.cells #[.string s, .slice a l.length c] 25)).heap.size from fun b hb => (X1 b hb).1)
    generalize upN o w.heap.size = o1 at *
    generalize w.heap.size = P at *
    generalize (w.alloc (.cells #[.string s, .slice a l.length c] 25)) = w1 at *
    have HP1 := hide P1
    have HS1 := hide S1
    have HT1 := hide T1
    have HOP := hide oP
    have p1 : w1.cell? ⟨P, 1, none⟩ = some (.slice a l.length c) := P1.cell 1
    have START : Hid (NuI N B r X k l o1 w1 (.slice none 0 0) (.int .i64 0) w1) := ⟨0, [], k, m, o1, Nat.zero_le _, rfl, NumJ.start HN.out, K1, Exo.refl _ _, Rwo.nil _ _ _ _ _ _, rfl, by simp [Value.ownBlock]⟩
    clear K1 E1 P1 S1 X1 T1 oP hel he
    go_wp2_with fail
    clear p1
    go_loopw [5, 17] (fun v i wr => NuI N B r X k l o1 w1 v i wr) (fun v i wr => l.length - (intOf i).toNat)
    case atStart => exact START.out
    case round =>
      obtain ⟨j, bs, kj, mj, oj, hj, rfl, hJ, hK, hX, hR, hbl, how⟩ := hrel
      obtain ⟨va, vc, rfl⟩ := hR.shape
      by_cases hjl : j < l.length
      · have hji : (j : Int) < (l.length : Int) := by omega
        obtain ⟨ab_, ao, aj, cj, hae, d0, d1, htv⟩ := (HS1.out.exo HXO.out hX).get (Below.refl _ _) (fun _ _ h => h) j hjl
        obtain ⟨aj2, cj2, etv, hsj⟩ := htv
        obtain ⟨rfl, rfl⟩ : aj = aj2 ∧ cj = cj2 := by simp at etv; exact etv
        clear etv
        subst hae
        obtain ⟨Ka, Ea⟩ := hK.upn ((Below.refl _ _).alloc (Nat.le_refl _) (.cells #[.string l[j].name, .slice aj l[j].args.length cj] 25))
        have Pa := Blk.new wr #[.string l[j].name, .slice aj l[j].args.length cj] 25
        have Sa := hsj.exo (exo_X HXO.out hX) Ea
        have Xa := hX.trans Ea
        have Ra := hR.exo Ea
        have hlj := hJ.len
        have hsj2 := hJ.sum
        have htk := size_takeK l (j + 1)
        rw [List.take_succ_eq_append_getElem hjl, sizeL_append] at htk
        have hm := List.getElem_mem hjl
        have IHc := hide (IH.out l[j] hm aj cj Ka hJ.ok (HT1.out.exo Xa) (err_memK HEL.out hm) (by omega) (by omega) (by omega) Sa)
        have HXa := hide Xa
        have HRa := hide Ra
        have HJ := hide hJ
        have HOW := hide how
        have q0 := Pa.cell 0
        have q1 := Pa.cell 1
        have hltj : Hid (bs.length ≤ 900 ∧ sizeL (l.take j) ≤ 900) := ⟨by omega, by omega⟩
        clear hJ hK hX hR hbl how hsj Sa Xa Ra Ka Ea hlj hsj2 htk hm
        go_upto_region 5 with fail
        clear d0 d1
        generalize (wr.alloc (.cells #[.string l[j].name, .slice aj l[j].args.length cj] 25)) = wa at *
        generalize upN oj wr.heap.size = oa at *
        generalize wr.heap.size = Q at *
        go_wp2_with fail
        refine IHc.out.mono ?_
        rintro e w2 ⟨k2, m2, o2, i2, rfl, hNR, K2, E2⟩
        have X2 := HXa.out.trans E2
        have R2 := HRa.out.exo E2
        obtain ⟨g, cap, w3, o3, hr3, R3, K3, hat3, hw3, hb3, ho3⟩ := app_loc K2 Tryz.underlying45 Tryz.infoInt rfl (by decide) R2 (fun b hb hx => by have h1 := HOW.out b hb; have h2 := HXN.out b hx; omega) (by rw [iL_len]; have := hltj.out.1; omega) (iV i2) rfl
        have X3 : Exo o1 w1 o3 w3 := ⟨hw3.1.trans X2.1, hw3.2.1.trans X2.2.1, hw3.2.2.1.trans X2.2.2.1, Nat.le_trans X2.2.2.2.1 hw3.2.2.2, fun b hb he => by
          obtain ⟨e1, e2⟩ := X2.2.2.2.2 b hb he
          have hb2 := Nat.lt_of_lt_of_le hb X2.2.2.2.1
          exact ⟨(hb3 b hb2 fun e => by have := HOW.out b e; omega).trans e1, (ho3 b hb2).trans e2⟩⟩
        have e9 : iL bs ++ [iV i2] = iL (bs ++ [i2]) := by simp [iL]
        rw [e9] at R3
        have HR3 := hide hr3
        have NXT : Hid (NuI N B r X k l o1 w1 (.slice (some ⟨g, 0, none⟩) ((iL bs).length + 1) cap) (.int .i64 ((j + 1 : Nat) : Int)) w3) := ⟨j + 1, bs ++ [i2], k2, m2, o3, hjl, rfl, by rw [List.take_succ_eq_append_getElem hjl]; exact HJ.out.next hNR, K3, X3, R3, by have := HJ.out.eq; have h5 := congrArg List.length this; simp at h5 ⊢; omega, fun b hb => by
          have e : g = b := by simpa [Value.ownBlock] using hb
          subst e
          rcases hat3 with e | e
          · exact HOW.out g e
          · have := X2.2.2.2.1; omega⟩
        clear hr3 R3 K3 hat3 hw3 hb3 ho3 X3 e9 X2 R2 hNR K2 E2 IHc
        have hl9 : (iL bs).length ≤ 900 := by rw [iL_len]; exact hltj.out.1
        go_wp2_with (at_builtin; refine wpList_append_eq rfl _ _ _ _ rfl rfl rfl HR3.out ?_)
        go_roundw
        case rel => exact NXT.out
        case measure => simp [intOf]; omega
      · have hji : ¬ (j : Int) < (l.length : Int) := by omega
        have etk : l.take j = l := List.take_of_length_le (by omega)
        rw [etk] at hJ
        have hS := num_S hJ.ok hJ.lt
        have hC := num_C hJ.ok (by have := hJ.len; omega)
        have T2 := HT1.out.exo hX
        have HSG := hide (sign_any hK T2.1 T2.2.1 hR (fun b hb => by rw [hJ.ok.lc]; exact hJ.lt b hb) hC s (by omega) (by omega))
        rw [hS] at HSG
        have PP := HP1.out.exo hX HOP.out
        have p0 := PP.cell 0
        have HJ := hide hJ
        have HK := hide hK
        have HX := hide hX
        have HR := hide hR
        have HOW := hide how
        have hlen : Hid (kj.ts.length ≤ 79999 ∧ sumN kj.ab + bs.length ≤ 800000 ∧ bs.length ≤ 900) := ⟨by have := hJ.len; omega, by have := hJ.sum; have e9 : l.length = j := (by omega); omega, by omega⟩
        clear hJ hK hX hR how T2 hS hC PP
        go_wp2_with fail
        clear p0
        refine HSG.out.mono ?_
        rintro e w2 ⟨rfl, hb2⟩
        have K2 := HK.out.later hb2
        have X2 := HX.out.trans (Exo.below hb2 fun _ _ => rfl)
        have R2 := HR.out.later hb2
        have P2 := HP1.out.exo X2 HOP.out
        have b5 : w2.cell? ⟨B, 5, none⟩ = some (.map (some r)) := by rw [K2.box.cell]; simp
        have hlk := map_look K2.map (sgn s bs)
        clear HSG HK HX HR
        cases hsg : sgG kj.sg (sgn s bs) with
        | some i =>
          rw [hsg] at hlk
          simp only [Option.map_some, Option.getD_some, Option.isSome_some] at hlk
          have HF := hide (numR_found (t := ⟨s, l⟩) HJ.out HE.out hsg)
          have HK2 := hide K2
          have HX2 := hide X2
          clear K2 X2 R2 P2 hsg hb2
          go_wp2_with fail
          go_ret
          exact ⟨kj, mj, oj, i, rfl, HF.out, HK2.out, HE1.out.trans HX2.out⟩
        | none =>
          rw [hsg] at hlk
          simp only [Option.map_none, Option.getD_none, Option.isSome_none] at hlk
          have HF := hide (numR_new (t := ⟨s, l⟩) HJ.out HE.out hsg)
          have HSGN := hide hsg
          have hcz : mj.cs.length = kj.ts.length := by rw [← K2.ts]; simp
          obtain ⟨a0, c0, hv0⟩ := K2.r0.shape
          rw [hcz] at hv0
          have b0 : w2.cell? ⟨B, 0, none⟩ = some (.slice a0 kj.ts.length c0) := by rw [K2.box.cell]; simp [hv0]
          have HV0 := hide hv0
          have HK2 := hide K2
          have HX2 := hide X2
          have HR2 := hide R2
          have HP2 := hide P2
          clear K2 X2 R2 P2 hsg hb2 hcz hv0
          go_upto_region 12 with fail
          clear b5 hlk b0
          go_cut [] (fun wc => ∃ v0' cs' oc, KlAt N B r X wc oc { kj with ts := kj.ts ++ [⟨s, l⟩] } { mj with v0 := v0', cs := cs' } ∧ Exo oj w2 oc wc)
          case first =>
            have kd : Below w2.heap.size w2 w2.drew := (Below.refl _ _).drew
            have KD := HK2.out.later kd
            have XD := HX2.out.trans (Exo.below kd fun _ _ => rfl)
            have SD := HS1.out.exo HXO.out XD
            have PD : Hid (Blk w2.drew P #[.string s, .slice a l.length c] 25) := HP2.out
            have HFD : Hid (Exo oj w2 oj w2.drew) := Exo.below kd fun _ _ => rfl
            refine wp_region_held_drew (S := fun w' => Blk w' P #[.string s, .slice a l.length c] 25) (by kernel_rfl) PD.out (fun hHeld => ?_)
            generalize w2.drew = wd at *
            obtain ⟨g, cap, w3, o3, hr, hgB, hB3, ⟨gc0, gc1, gcf⟩, KF, FF⟩ := KD.push_ts (by have := hlen.out; omega) ⟨s, l⟩ a c SD
            have d0 : wd.cell? ⟨B, 0, none⟩ = some (.slice a0 kj.ts.length c0) := by rw [KD.box.cell]; simp [HV0.out]
            rw [HV0.out] at hr
            have HR3 := hide hr
            have HB3 := hide hB3
            have HGB := hide hgB
            have HG := hide (And.intro gc0 (And.intro gc1 gcf))
            have HKF := hide KF
            have HXF : Hid (Exo oj w2 o3 _) := HFD.out.trans (FF.exo (by simp))
            have hPB : Hid (P ≠ B) := fun e => by
              have h1 := (XD.2.2.2.2 P HP1.out.lt HOP.out).2
              rw [e, KD.oB] at h1
              cases h1
            have hPg : Hid (P ≠ g) := fun e => by
              have h1 := (HX2.out.2.2.2.2 P HP1.out.lt HOP.out).2
              have h2 := (HXF.out.2.2.2.2 P HP2.out.lt h1).2
              have h3 := HKF.out.r0.2 g rfl
              rw [← e, h2] at h3
              cases h3
            have PA : Hid (Blk (wd.alloc (.cells #[.string ⟨#[]⟩, .slice none 0 0] 25)) P #[.string s, .slice a l.length c] 25) := PD.out.alloc _
            have P3 : Hid (Blk w3 P #[.string s, .slice a l.length c] 25) := by
              have h1 := (HX2.out.2.2.2.2 P HP1.out.lt HOP.out).2
              have h2 := (HXF.out.2.2.2.2 P HP2.out.lt h1).1
              rw [Below.heap_setCell _ _ _ _ (by simpa using hPB.out), Below.heap_setCell _ _ _ _ (by simpa using hPg.out), Below.heap_setCell _ _ _ _ (by simpa using hPg.out)] at h2
              exact h2.trans HP2.out
            clear kd KD XD SD hr hgB hB3 gc0 gc1 gcf KF FF HFD HK2 HX2 HR2
            refine wpAnyH_take (i := 0) (v := ?_) rfl (by kernel_rfl) (by kernel_rfl) (by kernel_rfl) (fun _ _ _ h => h) (Or.inl ⟨by rfl, ?_⟩) (by assumption) ?_
            rotate_left
            · intro w' hSw
              go_simp <;> with_reducible rfl
            try simp only [Act.put, List.setIfInBounds_toArray, List.set_cons_zero, List.set_cons_succ, List.getElem_toArray, List.getElem_cons_succ, List.getElem_cons_zero]
            refine wpAnyH_take (i := 1) (v := ?_) rfl (by kernel_rfl) (by kernel_rfl) (by kernel_rfl) (fun _ _ _ h => h) (Or.inl ⟨by rfl, ?_⟩) (by assumption) ?_
            rotate_left
            · intro w' hSw
              go_simp <;> with_reducible rfl
            try simp only [Act.put, List.setIfInBounds_toArray, List.set_cons_zero, List.set_cons_succ, List.getElem_toArray, List.getElem_cons_succ, List.getElem_cons_zero]
            refine wpAnyH_take (i := 2) (v := ?_) rfl (by kernel_rfl) (by kernel_rfl) (by kernel_rfl) (fun _ _ _ h => h) (Or.inl ⟨by rfl, ?_⟩) (by assumption) ?_
            rotate_left
            · intro w' hSw
              go_simp <;> with_reducible rfl
            try simp only [Act.put, List.setIfInBounds_toArray, List.set_cons_zero, List.set_cons_succ, List.getElem_toArray, List.getElem_cons_succ, List.getElem_cons_zero]
            refine wpAnyH_take (i := 4) (v := ?_) rfl (by kernel_rfl) (by kernel_rfl) (by kernel_rfl) (fun _ _ _ h => h) (Or.inl ⟨by rfl, ?_⟩) (by assumption) ?_
            rotate_left
            · intro w' hSw
              have x0 : w'.cell? ⟨P, 0, none⟩ = some (.string s) := Blk.cell hSw 0
              have x1 : w'.cell? ⟨P, 1, none⟩ = some (.slice a l.length c) := Blk.cell hSw 1
              go_simp <;> with_reducible rfl
            try simp only [Act.put, List.setIfInBounds_toArray, List.set_cons_zero, List.set_cons_succ, List.getElem_toArray, List.getElem_cons_succ, List.getElem_cons_zero]
            refine wpAnyH_ready (rs := [3, 6]) (by kernel_rfl) (by simp) ?_
            refine AllReadyH.cons rfl (fun K hK => ?_) (AllReadyH.cons rfl (fun K hK => ?_) AllReadyH.nil)
            · go_simp
              refine hK.out _ _ (by exact PD.out) (fun hHeld => ?_)
              clear hK K
              try simp only [Act.put, List.setIfInBounds_toArray, List.set_cons_zero, List.set_cons_succ, List.getElem_toArray, List.getElem_cons_succ, List.getElem_cons_zero]
              refine wpAnyH_take (i := 5) (v := ?_) rfl (by kernel_rfl) (by kernel_rfl) (by kernel_rfl) (fun _ _ _ h => h) (Or.inl ⟨by rfl, ?_⟩) (by assumption) ?_
              rotate_left
              · intro w' hSw
                go_simp <;> with_reducible rfl
              try simp only [Act.put, List.setIfInBounds_toArray, List.set_cons_zero, List.set_cons_succ, List.getElem_toArray, List.getElem_cons_succ, List.getElem_cons_zero]
              refine wpAnyH_ready (rs := [6]) (by kernel_rfl) (by simp) ?_
              refine AllReadyH.cons rfl (fun K hK => ?_) AllReadyH.nil
              go_simp
              refine hK.out _ _ (by exact PA.out) (fun hHeld => ?_)
              clear hK K
              try simp only [Act.put, List.setIfInBounds_toArray, List.set_cons_zero, List.set_cons_succ, List.getElem_toArray, List.getElem_cons_succ, List.getElem_cons_zero]
              refine wpAnyH_ready (rs := [7]) (by kernel_rfl) (by simp) ?_
              refine AllReadyH.cons rfl (fun K hK => ?_) AllReadyH.nil
              refine step_append_eqK rfl _ _ _ _ rfl rfl rfl HR3.out ?_
              refine hK.out _ _ (by exact P3.out) (fun hHeld => ?_)
              clear hK K
              try simp only [Act.put, List.setIfInBounds_toArray, List.set_cons_zero, List.set_cons_succ, List.getElem_toArray, List.getElem_cons_succ, List.getElem_cons_zero]
              refine wpAnyH_take (i := 8) (v := ?_) rfl (by kernel_rfl) (by kernel_rfl) (by kernel_rfl) (fun _ _ _ h => h) (Or.inl ⟨by rfl, ?_⟩) (by assumption) ?_
              rotate_left
              · intro w' hSw
                go_simp
                rw [if_pos (show (kj.ts.length : Int) < (kj.ts.length : Int) + 1 by omega)]
              try simp only [Act.put, List.setIfInBounds_toArray, List.set_cons_zero, List.set_cons_succ, List.getElem_toArray, List.getElem_cons_succ, List.getElem_cons_zero]
              refine wpAnyH_take (i := 10) (v := ?_) rfl (by kernel_rfl) (by kernel_rfl) (by kernel_rfl) (fun _ _ _ h => h) (Or.inl ⟨by rfl, ?_⟩) (by assumption) ?_
              rotate_left
              · intro w' hSw
                go_simp <;> with_reducible rfl
              try simp only [Act.put, List.setIfInBounds_toArray, List.set_cons_zero, List.set_cons_succ, List.getElem_toArray, List.getElem_cons_succ, List.getElem_cons_zero]
              refine wpAnyH_take (i := 11) (v := ?_) rfl (by kernel_rfl) (by kernel_rfl) (by kernel_rfl) (fun _ _ _ h => h) (Or.inl ⟨by rfl, ?_⟩) (by assumption) ?_
              rotate_left
              · intro w' hSw
                go_simp <;> with_reducible rfl
              try simp only [Act.put, List.setIfInBounds_toArray, List.set_cons_zero, List.set_cons_succ, List.getElem_toArray, List.getElem_cons_succ, List.getElem_cons_zero]
              have g0 := HG.out.1
              have g1 := HG.out.2.1
              have gf := HG.out.2.2
              refine wpAnyH_ready (rs := [9, 12]) (by kernel_rfl) (by simp) ?_
              refine AllReadyH.cons rfl (fun K hK => ?_) (AllReadyH.cons rfl (fun K hK => ?_) AllReadyH.nil)
              · go_simp
                refine hK.out _ _ (by exact (P3.out.setOther (b' := g) (kj.ts.length * 2) (.string s) hPg.out).setOther (b' := g) (kj.ts.length * 2 + 1) (.slice a l.length c) hPg.out) (fun hHeld => ?_)
                clear hK K
                try simp only [Act.put, List.setIfInBounds_toArray, List.set_cons_zero, List.set_cons_succ, List.getElem_toArray, List.getElem_cons_succ, List.getElem_cons_zero]
                clear g0 g1 gf
                have e0 : ((w3.setCell ⟨g, kj.ts.length * 2, none⟩ (.string s)).setCell ⟨g, kj.ts.length * 2 + 1, none⟩ (.slice a l.length c)).cell? ⟨B, 0, none⟩ = some (.slice a0 kj.ts.length c0) := by rw [((HB3.out.setOther (b' := g) _ _ (fun e => HGB.out e.symm)).setOther (b' := g) _ _ (fun e => HGB.out e.symm)).cell]; simp [HV0.out]
                have ef : ((w3.setCell ⟨g, kj.ts.length * 2, none⟩ (.string s)).setCell ⟨g, kj.ts.length * 2 + 1, none⟩ (.slice a l.length c)).frozen? ⟨B, 0, none⟩ = false := ((HB3.out.setOther (b' := g) _ _ (fun e => HGB.out e.symm)).setOther (b' := g) _ _ (fun e => HGB.out e.symm)).frozen 0
                refine wpAnyH_ready (rs := [12]) (by kernel_rfl) (by simp) ?_
                refine AllReadyH.cons rfl (fun K hK => ?_) AllReadyH.nil
                go_simp
                refine hK.out _ _ (by exact ((P3.out.setOther (b' := g) (kj.ts.length * 2) (.string s) hPg.out).setOther (b' := g) (kj.ts.length * 2 + 1) (.slice a l.length c) hPg.out).setOther (b' := B) 0 (.slice (some ⟨g, 0, none⟩) (kj.ts.length + 1) cap) hPB.out) (fun hHeld => ?_)
                clear hK K
                try simp only [Act.put, List.setIfInBounds_toArray, List.set_cons_zero, List.set_cons_succ, List.getElem_toArray, List.getElem_cons_succ, List.getElem_cons_zero]
                refine wpAnyH_done (by kernel_rfl) ?_ _
                clear hHeld
                go_wp2_with fail
                go_meet
                exact ⟨_, _, o3, HKF.out, HXF.out⟩
              · clear g0 g1 gf
                have g0 := HG.out.1
                have g1 := HG.out.2.1
                have gf := HG.out.2.2
                have e0 : w3.cell? ⟨B, 0, none⟩ = some (.slice a0 kj.ts.length c0) := by rw [HB3.out.cell]; simp [HV0.out]
                have ef := HB3.out.frozen 0
                go_simp
                refine hK.out _ _ (by exact P3.out.setOther (b' := B) 0 (.slice (some ⟨g, 0, none⟩) (kj.ts.length + 1) cap) hPB.out) (fun hHeld => ?_)
                clear hK K
                try simp only [Act.put, List.setIfInBounds_toArray, List.set_cons_zero, List.set_cons_succ, List.getElem_toArray, List.getElem_cons_succ, List.getElem_cons_zero]
                clear g0 g1 gf e0 ef
                have g0 : (w3.setCell ⟨B, 0, none⟩ (.slice (some ⟨g, 0, none⟩) (kj.ts.length + 1) cap)).cell? ⟨g, kj.ts.length * 2, none⟩ = some (.string ⟨#[]⟩) := (World.cell?_of_block (Below.heap_setCell _ _ _ _ (by simpa using HGB.out))).trans HG.out.1
                have g1 : (w3.setCell ⟨B, 0, none⟩ (.slice (some ⟨g, 0, none⟩) (kj.ts.length + 1) cap)).cell? ⟨g, kj.ts.length * 2 + 1, none⟩ = some (.slice none 0 0) := (World.cell?_of_block (Below.heap_setCell _ _ _ _ (by simpa using HGB.out))).trans HG.out.2.1
                have gf : ∀ i, (w3.setCell ⟨B, 0, none⟩ (.slice (some ⟨g, 0, none⟩) (kj.ts.length + 1) cap)).frozen? ⟨g, i, none⟩ = false := fun i => (World.frozen?_of_block (Below.heap_setCell _ _ _ _ (by simpa using HGB.out))).trans (HG.out.2.2 i)
                refine wpAnyH_ready (rs := [9]) (by kernel_rfl) (by simp) ?_
                refine AllReadyH.cons rfl (fun K hK => ?_) AllReadyH.nil
                go_simp
                refine hK.out _ _ (by exact ((P3.out.setOther (b' := B) 0 (.slice (some ⟨g, 0, none⟩) (kj.ts.length + 1) cap) hPB.out).setOther (b' := g) (kj.ts.length * 2) (.string s) hPg.out).setOther (b' := g) (kj.ts.length * 2 + 1) (.slice a l.length c) hPg.out) (fun hHeld => ?_)
                clear hK K
                try simp only [Act.put, List.setIfInBounds_toArray, List.set_cons_zero, List.set_cons_succ, List.getElem_toArray, List.getElem_cons_succ, List.getElem_cons_zero]
                clear g0 g1 gf
                refine wpAnyH_done (by kernel_rfl) ?_ _
                clear hHeld
                go_wp2_with fail
                go_meet
                refine ⟨.slice (some ⟨g, 0, none⟩) (kj.ts.length + 1) cap, mj.cs ++ [(⟨s, l⟩, a, c)], o3, ?_, ?_⟩
                · rw [setCell_comm _ ⟨B, 0, none⟩ ⟨g, kj.ts.length * 2, none⟩ _ _ (fun e => HGB.out e.symm), setCell_comm _ ⟨B, 0, none⟩ ⟨g, kj.ts.length * 2 + 1, none⟩ _ _ (fun e => HGB.out e.symm)]; exact HKF.out
                · rw [setCell_comm _ ⟨B, 0, none⟩ ⟨g, kj.ts.length * 2, none⟩ _ _ (fun e => HGB.out e.symm), setCell_comm _ ⟨B, 0, none⟩ ⟨g, kj.ts.length * 2 + 1, none⟩ _ _ (fun e => HGB.out e.symm)]; exact HXF.out
            · go_simp
              refine hK.out _ _ (by exact PA.out) (fun hHeld => ?_)
              clear hK K
              try simp only [Act.put, List.setIfInBounds_toArray, List.set_cons_zero, List.set_cons_succ, List.getElem_toArray, List.getElem_cons_succ, List.getElem_cons_zero]
              have d1 : (wd.alloc (.cells #[.string ⟨#[]⟩, .slice none 0 0] 25)).cell? ⟨B, 0, none⟩ = some (.slice a0 kj.ts.length c0) := (World.cell?_of_block (Below.heap_alloc wd _ B (World.block_lt_of_cell? wd _ d0))).trans d0
              refine wpAnyH_ready (rs := [3]) (by kernel_rfl) (by simp) ?_
              refine AllReadyH.cons rfl (fun K hK => ?_) AllReadyH.nil
              go_simp
              refine hK.out _ _ (by exact PA.out) (fun hHeld => ?_)
              clear hK K
              try simp only [Act.put, List.setIfInBounds_toArray, List.set_cons_zero, List.set_cons_succ, List.getElem_toArray, List.getElem_cons_succ, List.getElem_cons_zero]
              refine wpAnyH_take (i := 5) (v := ?_) rfl (by kernel_rfl) (by kernel_rfl) (by kernel_rfl) (fun _ _ _ h => h) (Or.inl ⟨by rfl, ?_⟩) (by assumption) ?_
              rotate_left
              · intro w' hSw
                go_simp <;> with_reducible rfl
              try simp only [Act.put, List.setIfInBounds_toArray, List.set_cons_zero, List.set_cons_succ, List.getElem_toArray, List.getElem_cons_succ, List.getElem_cons_zero]
              clear d1
              refine wpAnyH_ready (rs := [7]) (by kernel_rfl) (by simp) ?_
              refine AllReadyH.cons rfl (fun K hK => ?_) AllReadyH.nil
              refine step_append_eqK rfl _ _ _ _ rfl rfl rfl HR3.out ?_
              refine hK.out _ _ (by exact P3.out) (fun hHeld => ?_)
              clear hK K
              try simp only [Act.put, List.setIfInBounds_toArray, List.set_cons_zero, List.set_cons_succ, List.getElem_toArray, List.getElem_cons_succ, List.getElem_cons_zero]
              refine wpAnyH_take (i := 8) (v := ?_) rfl (by kernel_rfl) (by kernel_rfl) (by kernel_rfl) (fun _ _ _ h => h) (Or.inl ⟨by rfl, ?_⟩) (by assumption) ?_
              rotate_left
              · intro w' hSw
                go_simp
                rw [if_pos (show (kj.ts.length : Int) < (kj.ts.length : Int) + 1 by omega)]
              try simp only [Act.put, List.setIfInBounds_toArray, List.set_cons_zero, List.set_cons_succ, List.getElem_toArray, List.getElem_cons_succ, List.getElem_cons_zero]
              refine wpAnyH_take (i := 10) (v := ?_) rfl (by kernel_rfl) (by kernel_rfl) (by kernel_rfl) (fun _ _ _ h => h) (Or.inl ⟨by rfl, ?_⟩) (by assumption) ?_
              rotate_left
              · intro w' hSw
                go_simp <;> with_reducible rfl
              try simp only [Act.put, List.setIfInBounds_toArray, List.set_cons_zero, List.set_cons_succ, List.getElem_toArray, List.getElem_cons_succ, List.getElem_cons_zero]
              refine wpAnyH_take (i := 11) (v := ?_) rfl (by kernel_rfl) (by kernel_rfl) (by kernel_rfl) (fun _ _ _ h => h) (Or.inl ⟨by rfl, ?_⟩) (by assumption) ?_
              rotate_left
              · intro w' hSw
                go_simp <;> with_reducible rfl
              try simp only [Act.put, List.setIfInBounds_toArray, List.set_cons_zero, List.set_cons_succ, List.getElem_toArray, List.getElem_cons_succ, List.getElem_cons_zero]
              have g0 := HG.out.1
              have g1 := HG.out.2.1
              have gf := HG.out.2.2
              refine wpAnyH_ready (rs := [9, 12]) (by kernel_rfl) (by simp) ?_
              refine AllReadyH.cons rfl (fun K hK => ?_) (AllReadyH.cons rfl (fun K hK => ?_) AllReadyH.nil)
              · go_simp
                refine hK.out _ _ (by exact (P3.out.setOther (b' := g) (kj.ts.length * 2) (.string s) hPg.out).setOther (b' := g) (kj.ts.length * 2 + 1) (.slice a l.length c) hPg.out) (fun hHeld => ?_)
                clear hK K
                try simp only [Act.put, List.setIfInBounds_toArray, List.set_cons_zero, List.set_cons_succ, List.getElem_toArray, List.getElem_cons_succ, List.getElem_cons_zero]
                clear g0 g1 gf
                have e0 : ((w3.setCell ⟨g, kj.ts.length * 2, none⟩ (.string s)).setCell ⟨g, kj.ts.length * 2 + 1, none⟩ (.slice a l.length c)).cell? ⟨B, 0, none⟩ = some (.slice a0 kj.ts.length c0) := by rw [((HB3.out.setOther (b' := g) _ _ (fun e => HGB.out e.symm)).setOther (b' := g) _ _ (fun e => HGB.out e.symm)).cell]; simp [HV0.out]
                have ef : ((w3.setCell ⟨g, kj.ts.length * 2, none⟩ (.string s)).setCell ⟨g, kj.ts.length * 2 + 1, none⟩ (.slice a l.length c)).frozen? ⟨B, 0, none⟩ = false := ((HB3.out.setOther (b' := g) _ _ (fun e => HGB.out e.symm)).setOther (b' := g) _ _ (fun e => HGB.out e.symm)).frozen 0
                refine wpAnyH_ready (rs := [12]) (by kernel_rfl) (by simp) ?_
                refine AllReadyH.cons rfl (fun K hK => ?_) AllReadyH.nil
                go_simp
                refine hK.out _ _ (by exact ((P3.out.setOther (b' := g) (kj.ts.length * 2) (.string s) hPg.out).setOther (b' := g) (kj.ts.length * 2 + 1) (.slice a l.length c) hPg.out).setOther (b' := B) 0 (.slice (some ⟨g, 0, none⟩) (kj.ts.length + 1) cap) hPB.out) (fun hHeld => ?_)
                clear hK K
                try simp only [Act.put, List.setIfInBounds_toArray, List.set_cons_zero, List.set_cons_succ, List.getElem_toArray, List.getElem_cons_succ, List.getElem_cons_zero]
                refine wpAnyH_done (by kernel_rfl) ?_ _
                clear hHeld
                go_wp2_with fail
                go_meet
                exact ⟨_, _, o3, HKF.out, HXF.out⟩
              · clear g0 g1 gf
                have g0 := HG.out.1
                have g1 := HG.out.2.1
                have gf := HG.out.2.2
                have e0 : w3.cell? ⟨B, 0, none⟩ = some (.slice a0 kj.ts.length c0) := by rw [HB3.out.cell]; simp [HV0.out]
                have ef := HB3.out.frozen 0
                go_simp
                refine hK.out _ _ (by exact P3.out.setOther (b' := B) 0 (.slice (some ⟨g, 0, none⟩) (kj.ts.length + 1) cap) hPB.out) (fun hHeld => ?_)
                clear hK K
                try simp only [Act.put, List.setIfInBounds_toArray, List.set_cons_zero, List.set_cons_succ, List.getElem_toArray, List.getElem_cons_succ, List.getElem_cons_zero]
                clear g0 g1 gf e0 ef
                have g0 : (w3.setCell ⟨B, 0, none⟩ (.slice (some ⟨g, 0, none⟩) (kj.ts.length + 1) cap)).cell? ⟨g, kj.ts.length * 2, none⟩ = some (.string ⟨#[]⟩) := (World.cell?_of_block (Below.heap_setCell _ _ _ _ (by simpa using HGB.out))).trans HG.out.1
                have g1 : (w3.setCell ⟨B, 0, none⟩ (.slice (some ⟨g, 0, none⟩) (kj.ts.length + 1) cap)).cell? ⟨g, kj.ts.length * 2 + 1, none⟩ = some (.slice none 0 0) := (World.cell?_of_block (Below.heap_setCell _ _ _ _ (by simpa using HGB.out))).trans HG.out.2.1
                have gf : ∀ i, (w3.setCell ⟨B, 0, none⟩ (.slice (some ⟨g, 0, none⟩) (kj.ts.length + 1) cap)).frozen? ⟨g, i, none⟩ = false := fun i => (World.frozen?_of_block (Below.heap_setCell _ _ _ _ (by simpa using HGB.out))).trans (HG.out.2.2 i)
                refine wpAnyH_ready (rs := [9]) (by kernel_rfl) (by simp) ?_
                refine AllReadyH.cons rfl (fun K hK => ?_) AllReadyH.nil
                go_simp
                refine hK.out _ _ (by exact ((P3.out.setOther (b' := B) 0 (.slice (some ⟨g, 0, none⟩) (kj.ts.length + 1) cap) hPB.out).setOther (b' := g) (kj.ts.length * 2) (.string s) hPg.out).setOther (b' := g) (kj.ts.length * 2 + 1) (.slice a l.length c) hPg.out) (fun hHeld => ?_)
                clear hK K
                try simp only [Act.put, List.setIfInBounds_toArray, List.set_cons_zero, List.set_cons_succ, List.getElem_toArray, List.getElem_cons_succ, List.getElem_cons_zero]
                clear g0 g1 gf
                refine wpAnyH_done (by kernel_rfl) ?_ _
                clear hHeld
                go_wp2_with fail
                go_meet
                refine ⟨.slice (some ⟨g, 0, none⟩) (kj.ts.length + 1) cap, mj.cs ++ [(⟨s, l⟩, a, c)], o3, ?_, ?_⟩
                · rw [setCell_comm _ ⟨B, 0, none⟩ ⟨g, kj.ts.length * 2, none⟩ _ _ (fun e => HGB.out e.symm), setCell_comm _ ⟨B, 0, none⟩ ⟨g, kj.ts.length * 2 + 1, none⟩ _ _ (fun e => HGB.out e.symm)]; exact HKF.out
                · rw [setCell_comm _ ⟨B, 0, none⟩ ⟨g, kj.ts.length * 2, none⟩ _ _ (fun e => HGB.out e.symm), setCell_comm _ ⟨B, 0, none⟩ ⟨g, kj.ts.length * 2 + 1, none⟩ _ _ (fun e => HGB.out e.symm)]; exact HXF.out
          case rest =>
            obtain ⟨v0', cs', oc, KC, EC⟩ := hcut
            have XC := HX2.out.trans EC
            have RC := HR2.out.exo EC
            have HOWX : Hid (∀ b, (Value.slice va (iL bs).length vc).ownBlock = some b → ¬ X b) := fun b hb hx => by have h1 := HOW.out b hb; have h2 := HXN.out b hx; omega
            clear EC HR2 HK2 HX2 HP2 HV0
            have hJl := HJ.out.ok
            have HVB : Hid (mj.vb.length = kj.ts.length) := KC.l1.trans hJl.lb
            obtain ⟨g, cap, w3, o3, hr3, hb3, K3, F3, N3⟩ := KC.push_bl (by show kj.bl.length ≤ 1000000; rw [hJl.lb]; have := hlen.out; omega) (.slice va (iL bs).length vc) bs RC HOWX.out rfl
            have X3 := exo_push XC F3 N3 HOW.out
            have HR3 := hide hr3
            have b1 : wc.cell? ⟨B, 1, none⟩ = some mj.v1 := by rw [KC.box.cell]; simp
            have c1 := hb3.cell 1
            have cf := hb3.frozen 1
            simp at c1
            clear hr3 hb3 F3 N3 KC XC RC
            go_upto_region 14 with (at_builtin; refine wpList_append_eq rfl _ _ _ _ rfl rfl rfl HR3.out ?_)
            clear b1 c1 cf HR3
            have HK3 := hide K3
            have HX3 := hide X3
            clear K3 X3
            generalize (w3.setCell ⟨B, 1, none⟩ _) = w13 at *
            obtain ⟨g4, cap4, w4, o4, hr4, hb4, K4, F4⟩ := HK3.out.push_cl (by show kj.cl.length ≤ 1000000; rw [hJl.lc]; have := hlen.out; omega) kj.ts.length
            have X4 := HX3.out.trans (F4.exo (by simp))
            have HR4 := hide hr4
            have b1 : w13.cell? ⟨B, 2, none⟩ = some mj.v2 := by rw [HK3.out.box.cell]; simp
            have c1 := hb4.cell 2
            have cf := hb4.frozen 2
            simp at c1
            clear hr4 hb4 F4 HK3 HX3
            go_upto_region 15 with (at_builtin; refine wpList_append_eq rfl _ _ _ _ rfl rfl rfl HR4.out ?_)
            clear b1 c1 cf HR4
            have HK4 := hide K4
            have HX4 := hide X4
            clear K4 X4
            generalize (w4.setCell ⟨B, 2, none⟩ _) = w14 at *
            obtain ⟨KA, EA⟩ := HK4.out.upn ((Below.refl _ _).alloc (Nat.le_refl _) (.cells #[iV kj.ts.length] 3))
            have RA := lit_row (o := o4) HK4.out.nN kj.ts.length
            have hzA := HX4.out.2.2.2.1
            obtain ⟨g5, cap5, w5, o5, hr5, hb5, K5, F5, N5⟩ := KA.push_mb (by show kj.mb.length ≤ 1000000; rw [hJl.lm]; have := hlen.out; omega) (.slice (some ⟨w14.heap.size, 0, none⟩) 1 1) [kj.ts.length] RA (fun b hb hx => by
              have e : w14.heap.size = b := by simpa [Value.ownBlock] using hb
              have h2 := HXN.out b hx
              omega) rfl
            have X5 := exo_push (HX4.out.trans EA) F5 N5 (fun b hb => by
              have e : w14.heap.size = b := by simpa [Value.ownBlock] using hb
              omega)
            rw [World.size_alloc] at hr5
            have HR5 := hide hr5
            have b1 : w14.cell? ⟨B, 3, none⟩ = some mj.v3 := by rw [HK4.out.box.cell]; simp
            have c1 := hb5.cell 3
            have cf := hb5.frozen 3
            simp at c1
            clear hr5 hb5 F5 N5 HK4 HX4 KA EA RA hzA
            go_upto_region 16 with (at_builtin; refine wpList_append_eq rfl _ _ _ _ rfl rfl rfl HR5.out ?_)
            clear b1 c1 cf HR5
            have HK5 := hide K5
            have HX5 := hide X5
            clear K5 X5
            generalize (w5.setCell ⟨B, 3, none⟩ _) = w15 at *
            obtain ⟨g6, cap6, w6, o6, hr6, hb6, K6, F6, N6⟩ := HK5.out.push_ab (by show kj.ab.length ≤ 1000000; rw [hJl.la]; have := hlen.out; omega) (.slice none 0 0) [] (Rwo.nil _ _ _ _ _ _) (by simp [Value.ownBlock]) rfl
            have X6 := exo_push HX5.out F6 N6 (by simp [Value.ownBlock])
            have HR6 := hide hr6
            have b1 : w15.cell? ⟨B, 4, none⟩ = some mj.v4 := by rw [HK5.out.box.cell]; simp
            have c1 := hb6.cell 4
            have cf := hb6.frozen 4
            simp at c1
            clear hr6 hb6 F6 N6 HK5 HX5
            go_upto_region 17 with (at_builtin; refine wpList_append_eq rfl _ _ _ _ rfl rfl rfl HR6.out ?_)
            clear b1 c1 cf HR6
            have HK6 := hide K6
            have HX6 := hide X6
            clear K6 X6
            generalize (w6.setCell ⟨B, 4, none⟩ _) = w16 at *
            obtain ⟨w17, hm, K7, F7⟩ := HK6.out.push_sg (sgn s bs) kj.ts.length HSGN.out
            have HX7 := hide (HX6.out.trans (F7.exo (by simp)))
            have b5 : w16.cell? ⟨B, 5, none⟩ = some (.map (some r)) := by rw [HK6.out.box.cell]; simp
            obtain ⟨M, hMv, KM⟩ : ∃ M : Km, M.vb = mj.vb ++ [.slice va (iL bs).length vc] ∧ KlAt N B r X w17 o6 (kj.more ⟨s, l⟩ bs) M := ⟨_, rfl, K7⟩
            have HKM := hide KM
            have HMV := hide hMv
            clear K7 F7 HK6 HX6 KM hMv
            go_upto_region 18 with fail
            clear b5 hm
            obtain ⟨n, hn⟩ : ∃ n, n = kj.ts.length := ⟨_, rfl⟩
            rw [← hn] at HF ⊢
            have HNN := hide hn
            have HNO : Hid (NumI (kj.more ⟨s, l⟩ bs) (fun m _ => m < kj.ts.length) ∧ (kj.more ⟨s, l⟩ bs).T kj.ts.length = ⟨s, l⟩ ∧ (kj.more ⟨s, l⟩ bs).B kj.ts.length = bs) := num_more hJl HE.out HJ.out.lt HJ.out.eq.symm HSGN.out
            have hlv : Hid (gd M.vb nV n = .slice va (iL bs).length vc) := by unfold Hid; rw [HMV.out]; exact gd_end2 (by rw [HVB.out, hn])
            clear hn hJl
            have hil : (iL bs).length ≤ 900 := by rw [iL_len]; exact hlen.out.2.2
            go_wp2_with fail
            go_loopw [108] (fun i wr => NuN N B r X (kj.more ⟨s, l⟩ bs) M bs n o1 w1 i wr) (fun i wr => bs.length - (intOf i).toNat)
            case atStart => exact ⟨0, o6, M.va, Nat.zero_le _, rfl, HKM.out, HX7.out⟩
            case round =>
              obtain ⟨q, oq, vaq, hq, rfl, KQ, XQ⟩ := hrel
              obtain ⟨e1, e2, e3, e4, e5, e6⟩ := notes_same n (bs.take q) (kj.more ⟨s, l⟩ bs)
              by_cases hql : q < bs.length
              · have hqi : (q : Int) < ((iL bs).length : Int) := by rw [iL_len]; omega
                have hB : ((kj.more ⟨s, l⟩ bs).notes (bs.take q) n).B n = bs := by
                  have h9 := HNO.out.2.2
                  rw [← HNN.out] at h9
                  unfold Kl.B at h9 ⊢
                  rw [e2]
                  exact h9
                have row := KQ.i1 n (by rw [e2]; have h9 := HNO.out.1.lb; have h8 : (kj.more ⟨s, l⟩ bs).ts.length = kj.ts.length + 1 := (by simp [Kl.more]); have := HNN.out; omega)
                rw [hB] at row
                have row2 : Rwo wr N oq (8, n) 3 1 (.slice va (iL bs).length vc) (iL bs).length (iL bs) := by rw [← hlv.out]; exact row
                obtain ⟨gq, uq, hva, huq, hcq, -, -, -, -⟩ := row2.at (i := q) (by rw [iL_len]; exact hql)
                have huq2 := iL_at huq
                rw [gd_get hql] at huq2
                subst huq2
                subst hva
                have hbq := HJ.out.lt bs[q] (List.getElem_mem hql)
                have hab : bs[q] < ((kj.more ⟨s, l⟩ bs).notes (bs.take q) n).ab.length := by rw [e6, HNO.out.1.la]; have h8 : (kj.more ⟨s, l⟩ bs).ts.length = kj.ts.length + 1 := (by simp [Kl.more]); omega
                have hsum : ((((kj.more ⟨s, l⟩ bs).notes (bs.take q) n).A bs[q])).length ≤ 900000 := by
                  have h1 := sumN_at hab
                  have h2 := (num_notes (n := n) (bs.take q) HNO.out.1 (fun b hb => by have := HJ.out.lt b (List.mem_of_mem_take hb); simp [Kl.more]; omega) (by rw [HNN.out]; simp [Kl.more])).2
                  have h3 : sumN (kj.more ⟨s, l⟩ bs).ab = sumN kj.ab := by show sumN (kj.ab ++ [[]]) = _; rw [sumN_app]; simp [sumN]
                  rw [List.length_take] at h2
                  have := hlen.out
                  show (gd _ [] _).length ≤ _
                  omega
                have HNA := hide (note_any (n := n) KQ hab hsum)
                have hsn : Hid (((kj.more ⟨s, l⟩ bs).notes (bs.take q) n).note bs[q] n = (kj.more ⟨s, l⟩ bs).notes (bs.take (q + 1)) n) := by unfold Hid; rw [List.take_succ_eq_append_getElem hql, notes_snoc]
                have HXQ := hide XQ
                clear e1 e2 e3 e4 e5 e6 hB row row2 huq hbq hab hsum KQ XQ
                go_wp2_with fail
                refine HNA.out.mono ?_
                rintro e w9 ⟨rfl, o9, va9, K9, X9⟩
                have HK9 := hide K9
                rw [hsn.out] at HK9
                have HX9 := hide (HXQ.out.trans X9)
                clear K9 X9
                go_wp2_with fail
                go_roundw
                case rel => exact ⟨q + 1, o9, va9, hql, by go_num, HK9.out, HX9.out⟩
                case measure => simp [intOf]; omega
              · have hqi : ¬ (q : Int) < ((iL bs).length : Int) := by rw [iL_len]; omega
                have hqe : Hid (bs.take q = bs) := List.take_of_length_le (by omega)
                have HKQ := hide KQ
                rw [hqe.out] at HKQ
                have HXQ := hide XQ
                clear e1 e2 e3 e4 e5 e6 KQ XQ
                go_wp2_with fail
                go_ret
                exact ⟨_, _, oq, n, rfl, HF.out, HKQ.out, HE1.out.trans HXQ.out⟩
end Go.Proofs.YtdmaijmglblccaaGreatDoor

/- Walks: classes are joined till nothing is left to do (closure's classes.join). -/
namespace Go.Proofs.YtdmaijmglblccaaGreatDoor
open Go.RowKit
set_option linter.unusedSimpArgs false
set_option linter.unusedVariables false
set_option maxRecDepth 8000

/-- Where what is to be done lies. -/
def TdO (o0 : Nat → Oid) (w0 : World) (v : Value) : Prop := ∀ b, v.ownBlock = some b → b < w0.heap.size → o0 b = (11, 0)
theorem exo_todo {o0 o o' : Nat → Oid} {w0 w w3 : World} {v : Value} (E : Exo o0 w0 o w) (h1 : w3.os = w.os ∧ w3.tape = w.tape ∧ w3.output = w.output ∧ w.heap.size ≤ w3.heap.size) (h2 : ∀ b, b < w.heap.size → v.ownBlock ≠ some b → w3.heap[b]? = w.heap[b]?) (h3 : ∀ b, b < w.heap.size → o' b = o b) (hT : TdO o0 w0 v) : Exo o0 w0 o' w3 :=
  ⟨h1.1.trans E.1, h1.2.1.trans E.2.1, h1.2.2.1.trans E.2.2.1, Nat.le_trans E.2.2.2.1 h1.2.2.2, fun b hb he => by
    obtain ⟨e1, e2⟩ := E.2.2.2.2 b hb he
    have hbw := Nat.lt_of_lt_of_le hb E.2.2.2.1
    exact ⟨(h2 b hbw fun e => by rw [hT b e hb] at he; cases he).trans e1, (h3 b hbw).trans e2⟩⟩
/-- Between two that are joined. -/
def JoI (N B r : Nat) (X : Nat → Prop) (E : List Pr) (S : Tm → Prop) (W : Nat) (k0 : Kl) (o0 : Nat → Oid) (w0 : World) (g : Nat) (v : Value) (wr : World) : Prop :=
  ∃ (k : Kl) (m : Km) (o : Nat → Oid) (td : List (Nat × Nat)), JnI E S W k td (fun _ => False) ∧ KlAt N B r X wr o k m ∧ Exo o0 w0 o wr ∧ Rwo wr N o eX 81 2 v td.length (pL td) ∧ TdO o0 w0 v ∧ (k.ts = k0.ts ∧ k.bl = k0.bl) ∧ td.length + k.cnt * (W + 1) ≤ g ∧ td.length + k.cnt * (W + 1) ≤ 1000000
/-- While what looks otherwise is signed anew. -/
def JoJ (N B r : Nat) (X : Nat → Prop) (E : List Pr) (S : Tm → Prop) (W : Nat) (k0 : Kl) (o0 : Nat → Oid) (w0 : World) (kS : Kl) (tl : Nat) (al : List Nat) (av v i : Value) (wr : World) : Prop :=
  ∃ (q : Nat) (k : Kl) (m : Km) (o : Nat → Oid) (td : List (Nat × Nat)), q ≤ al.length ∧ i = .int .i64 (q : Int) ∧ JnI E S W k td (fun x => x ∈ al.drop q) ∧ KlAt N B r X wr o k m ∧ Exo o0 w0 o wr ∧ Rwo wr N o eX 81 2 v td.length (pL td) ∧ TdO o0 w0 v ∧ Rwo wr N o eX 3 1 av (iL al).length (iL al) ∧ (∀ b, av.ownBlock = some b → v.ownBlock ≠ some b) ∧ (k.ts = k0.ts ∧ k.bl = k0.bl) ∧ k.cnt = kS.cnt ∧ td.length ≤ tl + q
/-- One of the two goes into the other one. -/
def JoW (a b : Nat) (wz : World) (x y : Value) (w' : World) : Prop := ∃ l m : Nat, x = .int .i64 (l : Int) ∧ y = .int .i64 (m : Int) ∧ ((l = a ∧ m = b) ∨ (l = b ∧ m = a)) ∧ w' = wz
theorem jn_A {E : List Pr} {S : Tm → Prop} {W : Nat} {k : Kl} {td : List (Nat × Nat)} {P : Nat → Prop} (h : JnI E S W k td P) {c d : Nat} (hc : c < k.ts.length) (hd : d < k.ts.length) (hne : c ≠ d) : (k.A c).length + (k.A d).length ≤ W ∧ (k.M c).length + (k.M d).length ≤ k.ts.length := by
  have key : ∀ (L : List (List Nat)), c < L.length → d < L.length → (gd L [] c).length + (gd L [] d).length ≤ sumN L := fun L h1 h2 => by
    have e1 := sumN_set (l := L) (i := c) [] h1
    have e2 := sumN_at (l := L.set c []) (i := d) (by simpa using h2)
    rw [gd_set_ne hne] at e2
    simp only [List.length_nil] at e1
    omega
  have h1 := key k.ab (by rw [h.la]; exact hc) (by rw [h.la]; exact hd)
  have h2 := key k.mb (by rw [h.lm]; exact hc) (by rw [h.lm]; exact hd)
  exact ⟨Nat.le_trans h1 h.sa, Nat.le_trans h2 h.ms⟩
theorem Rwo.upn {w w' : World} {N : Nat} {o : Nat → Oid} {id : Oid} {T e : Nat} {v : Value} {n : Nat} {xs : List Value} (h : Rwo w N o id T e v n xs) (hb : Below w.heap.size w w') : Rwo w' N (upN o w.heap.size) id T e v n xs := h.keep fun b h1 h2 => ⟨hb.block b h1, (upN_lt h1).trans h2⟩
set_option maxHeartbeats 8000000 in
theorem join_any {BT N B r : Nat} {X : Nat → Prop} {E : List Pr} {S : Tm → Prop} {W : Nat} {w : World} {o : Nat → Oid} {k : Kl} {m : Km} {td : List (Nat × Nat)} {v : Value} (h : KlAt N B r X w o k m) (hT : TbO BT o w) (hJ : JnI E S W k td (fun _ => False)) (hv : Rwo w N o (11, 0) 81 2 v td.length (pL td)) (hz : k.ts.length ≤ 900 ∧ W ≤ 900 ∧ td.length ≤ 100) (hbl : ∀ n, n < k.ts.length → (k.B n).length ≤ 1000) :
    Calls Tryz.prog 47 #[.pointer (some ⟨B, 0, none⟩), v] w fun e w' => e = .returned (.tuple #[]) ∧ ∃ k' m' o', KlAt N B r X w' o' k' m' ∧ JnI E S W k' [] (fun _ => False) ∧ k'.ts = k.ts ∧ Exo o w o' w' := by
  have hrk : td.length + k.cnt * (W + 1) ≤ 1000000 := by
    have h1 := cnt_le k
    have h2 : k.cnt * (W + 1) ≤ 900 * 901 := Nat.mul_le_mul (by omega) (by omega)
    omega
  have START : Hid (JoI N B r X E S W k o w (td.length + k.cnt * (W + 1)) v w) := ⟨k, m, upV o v eX, td, hJ, h.relT hv.2, ⟨rfl, rfl, rfl, Nat.le_refl _, fun b _ he => ⟨rfl, by unfold upV; split; rfl; exact he⟩⟩, hv.give, fun b hb _ => hv.2 b hb, ⟨rfl, rfl⟩, Nat.le_refl _, hrk⟩
  have HX0 := hide h.hX
  have HT := hide hT
  have HBL := hide hbl
  have HZ := hide hz
  obtain ⟨ta, tc, rfl⟩ := hv.shape
  clear hT hJ hv hz hbl h hrk
  generalize td.length = tl0 at *
  go_enter Tryz.func47, Tryz.ntmps47
  go_wp2_with fail
  go_loopg [1] (tl0 + k.cnt * (W + 1)) (fun g v wr => JoI N B r X E S W k o w g v wr)
  case atStart => exact START.out
  case round =>
    obtain ⟨k1, m1, o1, td1, hJ1, hK1, hX1, hR1, hto1, hts1, hrk1, hrk2⟩ := hrel
    rcases List.eq_nil_or_concat td1 with rfl | ⟨td2, ⟨a, b⟩, rfl⟩
    · obtain ⟨ta1, tc1, rfl⟩ := hR1.shape
      have HJ1 := hide hJ1
      have HK1 := hide hK1
      have HX1 := hide hX1
      clear hJ1 hK1 hX1 hR1 hrk1 hrk2
      go_wp2_with fail
      go_end0
      exact ⟨rfl, k1, m1, o1, HK1.out, HJ1.out, hts1.1, HX1.out⟩
    · rw [List.concat_eq_append] at *
      obtain ⟨gq, cap, rfl, hc0, hc1, hle, hR2⟩ := todo_last hR1
      obtain ⟨ga, gb, gc⟩ := hJ1.tsn (a, b) (by simp)
      simp only at ga gb gc
      have hz1 : k1.ts.length ≤ 900 := by rw [hts1.1]; exact HZ.out.1
      obtain ⟨Ka, Ea⟩ := hK1.upn ((Below.refl _ _).alloc (Nat.le_refl _) (.cells #[iV a, iV b] 81))
      have Ra := hR2.upn ((Below.refl _ _).alloc (Nat.le_refl _) (.cells #[iV a, iV b] 81))
      have Pa := Blk.new wr #[iV a, iV b] 81
      have hpop := todo_pop gq td2.length cap hle
      have hn1 : ((td2.length + 1 : Nat) : Int) - 1 = ((td2.length : Nat) : Int) := by omega
      have hbd : td2.length ≤ 1000000 := by simp at hrk2; omega
      obtain ⟨g2, c2, b2, ca, hv2⟩ := Ka.cl_at (i := a) (by rw [hJ1.lc]; exact ga)
      obtain ⟨g2', c2', b2', cb, hv2'⟩ := Ka.cl_at (i := b) (by rw [hJ1.lc]; exact gb)
      obtain ⟨rfl, rfl⟩ : g2 = g2' ∧ c2 = c2' := by rw [hv2] at hv2'; simpa using hv2'
      have hai : (a : Int) < (k1.cl.length : Int) := by rw [hJ1.lc]; omega
      have hbi : (b : Int) < (k1.cl.length : Int) := by rw [hJ1.lc]; omega
      have pa0 := Pa.cell 0
      have pa1 := Pa.cell 1
      have HKa := hide Ka
      have HXa := hide (hX1.trans Ea)
      have HRa := hide Ra
      have HJ := hide hJ1
      have HTS := hide hts1
      have HTO : Hid (TdO o w (.slice (some ⟨gq, 0, none⟩) td2.length cap)) := fun b hb h2 => hto1 b hb h2
      have HRK : Hid (td2.length + 1 + k1.cnt * (W + 1) ≤ gk ∧ td2.length + 1 + k1.cnt * (W + 1) ≤ 1000000) := by simp at hrk1 hrk2; exact ⟨by omega, by omega⟩
      clear hJ1 hK1 hX1 hR1 hR2 hto1 hts1 hrk1 hrk2 Ka Ea Ra hle hv2 hv2' b2' Pa
      go_upto_region 3 with fail
      clear hpop hc0 hc1
      generalize (wr.alloc (.cells #[iV a, iV b] 81)) = wa at *
      generalize upN o1 wr.heap.size = oa at *
      generalize wr.heap.size = P at *
      go_quiet (fail)
      have kd : Below wa.heap.size wa (wa.drewN nq) := below_drewN (Below.refl _ _) _
      have HKd := hide (HKa.out.later kd)
      have HXd := hide (HXa.out.trans (Exo.below kd fun _ _ => rfl))
      have HRd := hide (HRa.out.later kd)
      generalize wa.drewN nq = wd at *
      clear HKa HXa HRa b2 ca cb pa0 pa1 kd hai hbi
      have hCa := HJ.out.clt a ga
      have hCb := HJ.out.clt b gb
      by_cases hab : k1.C a = k1.C b
      · have hcmp : ((k1.C a : Int) == (k1.C b : Int)) = true := by rw [hab]; simp
        have NXT : Hid (JoI N B r X E S W k o w (td2.length + k1.cnt * (W + 1)) (.slice (some ⟨gq, 0, none⟩) td2.length cap) wd) := ⟨k1, m1, oa, td2, jn_skip HJ.out hab, HKd.out, HXd.out, HRd.out, HTO.out, HTS.out, Nat.le_refl _, by have := HRK.out; omega⟩
        clear HKd HXd HRd HTO hab
        go_wp2_with fail
        go_roundg (td2.length + k1.cnt * (W + 1))
        case measure => have := HRK.out; omega
        case rel => exact NXT.out
      · have hcmp : ((k1.C a : Int) == (k1.C b : Int)) = false := by
          rw [beq_eq_false_iff_ne]
          omega
        obtain ⟨hA, hM⟩ := jn_A HJ.out hCa hCb hab
        have HAM : Hid ((k1.A (k1.C a)).length + (k1.A (k1.C b)).length ≤ 900 ∧ (k1.M (k1.C a)).length + (k1.M (k1.C b)).length ≤ 900) := ⟨by have := HZ.out; omega, by omega⟩
        have HS1 := hide (ksize_any HKd.out (c := k1.C a) (by rw [HJ.out.lm]; exact hCa) (by rw [HJ.out.la]; exact hCa) ⟨by have := HAM.out; omega, by have := HAM.out; omega⟩)
        have HAB := hide hab
        have HCA := hide hCa
        have HCB := hide hCb
        clear hA hM hab hCa hCb
        go_wp2_with fail
        refine HS1.out.mono ?_
        rintro e w4 ⟨rfl, hb4⟩
        have HK4 := hide (HKd.out.later hb4)
        have HX4 := hide (HXd.out.trans (Exo.below hb4 fun _ _ => rfl))
        have HR4 := hide (HRd.out.later hb4)
        have HS2 := hide (ksize_any HK4.out (c := k1.C b) (by rw [HJ.out.lm]; exact HCB.out) (by rw [HJ.out.la]; exact HCB.out) ⟨by have := HAM.out; omega, by have := HAM.out; omega⟩)
        clear hb4 HS1 HKd HXd HRd
        go_wp2_with fail
        refine HS2.out.mono ?_
        rintro e w5 ⟨rfl, hb5⟩
        have HK5 := hide (HK4.out.later hb5)
        have HX5 := hide (HX4.out.trans (Exo.below hb5 fun _ _ => rfl))
        have HR5 := hide (HR4.out.later hb5)
        clear hb5 HS2 HK4 HX4 HR4
        go_upto_if 51 with fail
        go_cut [5, 6] (fun x y w' => JoW (k1.C a) (k1.C b) w5 x y w')
        case first =>
          by_cases hgt : ((k1.M (k1.C b)).length : Int) + ((k1.A (k1.C b)).length : Int) < ((k1.M (k1.C a)).length : Int) + ((k1.A (k1.C a)).length : Int)
          · go_wp2_with fail
            go_meet
            exact ⟨k1.C b, k1.C a, rfl, rfl, Or.inr ⟨rfl, rfl⟩, rfl⟩
          · go_wp2_with fail
            go_meet
            exact ⟨k1.C a, k1.C b, rfl, rfl, Or.inl ⟨rfl, rfl⟩, rfl⟩
        case rest =>
          obtain ⟨l, mm, rfl, rfl, hlm, rfl⟩ := hcut
          have hl : l < k1.ts.length := by rcases hlm with ⟨e, _⟩ | ⟨e, _⟩ <;> rw [e]; exact HCA.out; exact HCB.out
          have hmm : mm < k1.ts.length := by rcases hlm with ⟨_, e⟩ | ⟨_, e⟩ <;> rw [e]; exact HCB.out; exact HCA.out
          have hne : l ≠ mm := by
            rcases hlm with ⟨e1, e2⟩ | ⟨e1, e2⟩ <;> rw [e1, e2]
            · exact HAB.out
            · exact fun e => HAB.out e.symm
          have hszs : (k1.M l).length + (k1.M mm).length ≤ 900000 ∧ (k1.A l).length + (k1.A mm).length ≤ 900 := by
            have h9 := HAM.out
            rcases hlm with ⟨e1, e2⟩ | ⟨e1, e2⟩ <;> rw [e1, e2] <;> omega
          have HSW := hide (swallow_any HK5.out (l := l) (m := mm) (by rw [HJ.out.lm]; exact hl) (by rw [HJ.out.lm]; exact hmm) (by rw [HJ.out.la]; exact hl) (by rw [HJ.out.la]; exact hmm) hne (fun i hi => HJ.out.mem i l (by rw [← HJ.out.lc]; exact hi) hl) (fun i hi => by rw [HJ.out.lc]; exact HJ.out.mlt l hl i hi) ⟨hszs.1, by omega⟩)
          obtain ⟨hJS, hcnt⟩ := jn_swal HJ.out hlm hne
          have HJS := hide hJS
          have HCN := hide hcnt
          have HAL : Hid ((k1.A l).length ≤ W ∧ ∀ x ∈ k1.A l, x < k1.ts.length) := ⟨Nat.le_trans (sumN_at (by rw [HJ.out.la]; exact hl)) HJ.out.sa, HJ.out.alt l hl⟩
          have hAl9 : (k1.A l).length ≤ 900 := by omega
          clear hl hmm hne hszs hlm hJS hcnt HAB HCA HCB HAM
          go_wp2_with fail
          refine HSW.out.mono ?_
          rintro e w7 ⟨v7, m7, o7, rfl, R7, h7, K7, X7⟩
          obtain ⟨a7, c7, rfl⟩ := R7.shape
          have HX7 := hide (HX5.out.trans X7)
          have START2 : Hid (JoJ N B r X E S W k o w (k1.swal l mm) td2.length (k1.A l) (.slice a7 (iL (k1.A l)).length c7) (.slice (some ⟨gq, 0, none⟩) td2.length cap) (.int .i64 0) w7) := ⟨0, k1.swal l mm, m7, o7, td2, Nat.zero_le _, rfl, by rw [List.drop_zero]; exact HJS.out, K7, HX7.out, HR5.out.exo X7, HTO.out, R7, fun b hb e => (h7 b hb).2 (HR5.out.2 b e), HTS.out, rfl, Nat.le_refl _⟩
          clear HSW HK5 HX5 HR5 R7 h7 K7 X7 HJS HX7 HJ
          go_wp2_with fail
          go_loopw [1, 59] (fun v i wr => JoJ N B r X E S W k o w (k1.swal l mm) td2.length (k1.A l) (.slice a7 (iL (k1.A l)).length c7) v i wr) (fun v i wr => (k1.A l).length - (intOf i).toNat)
          case atStart => exact START2.out
          case round =>
            obtain ⟨q, k3, m3, o3, td3, hq, rfl, hJ3, hK3, hX3, hR3, hto3, hA3, hdis3, hts3, hcn3, htl3⟩ := hrel
            obtain ⟨t3, c3, rfl⟩ := hR3.shape
            by_cases hql : q < (k1.A l).length
            · have hqi : (q : Int) < ((iL (k1.A l)).length : Int) := by rw [iL_len]; omega
              obtain ⟨gA, uA, hgA, huA, hcA, -, -, -, -⟩ := hA3.at (i := q) (by rw [iL_len]; exact hql)
              have huA2 := iL_at huA
              rw [gd_get hql] at huA2
              subst huA2
              have hnx := HAL.out.2 _ (List.getElem_mem hql)
              obtain ⟨n, hn⟩ : ∃ n, n = (k1.A l)[q] := ⟨_, rfl⟩
              have HNQ := hide hn
              rw [← hn] at hcA hnx
              have hn3 : n < k3.ts.length := by rw [hts3.1, ← HTS.out.1]; exact hnx
              have hB3 : (k3.B n).length ≤ 1000 := by
                have e : k3.B n = k.B n := by unfold Kl.B; rw [hts3.2]
                rw [e]
                exact HBL.out n (by rw [← hts3.1]; exact hn3)
              have hC3 : ∀ b, k3.C b < 100000 := fun b => by
                by_cases hb : b < k3.ts.length
                · have h1 := hJ3.clt b hb
                  rw [hts3.1] at h1
                  have := HZ.out.1
                  omega
                · unfold Kl.C gd
                  rw [List.getElem?_eq_none (by rw [hJ3.lc]; omega)]
                  simp
              have T3 := HT.out.exo hX3
              obtain ⟨g0, c0, at3, ct3, -, b0, d0, -, -, hcs⟩ := hK3.ts_at hn3
              obtain ⟨g1, c1, ab3, cb3, b1, hvb, e1, hvl⟩ := hK3.bl_at (i := n) (by rw [hJ3.lb]; exact hn3)
              have hni0 : (n : Int) < (m3.cs.length : Int) := by rw [hcs]; omega
              have hni1 : (n : Int) < (m3.vb.length : Int) := by rw [hvl, hJ3.lb]; omega
              have row := hK3.i1 n (by rw [hJ3.lb]; exact hn3)
              rw [hvb] at row
              have HSG : Hid (∀ w', Below wr.heap.size wr w' → Calls Tryz.prog 61 #[.pointer (some ⟨B, 0, none⟩), .string (k3.T n).name, .slice ab3 (k3.B n).length cb3] w' fun e w'' => e = .returned (.string (k3.sig n)) ∧ Below wr.heap.size wr w'') := fun w' hb => by
                refine (sign_any (hK3.later hb) (T3.1.on (hb.mono T3.2.1)) (Nat.le_trans T3.2.1 hb.size) (row.later hb) (fun b hb => by rw [hJ3.lc]; exact (hJ3.arg n hn3).2 b hb) hC3 (k3.T n).name (by have := name_sizeK (hJ3.nm n hn3); omega) hB3).mono ?_
                rintro e w'' ⟨rfl, hb2⟩
                exact ⟨rfl, hb.trans (hb2.mono hb.size)⟩
              have HJ3 := hide hJ3
              have HK3 := hide hK3
              have HX3 := hide hX3
              have HR3 := hide hR3
              have HTO3 := hide hto3
              have HA3 := hide hA3
              have HD3 := hide hdis3
              have HTS3 := hide hts3
              have HCN3 := hide hcn3
              have HTL3 := hide htl3
              have HN3 := hide hn3
              have KB : Hid (∀ w', Below wr.heap.size wr w' → w'.cell? ⟨B, 0, none⟩ = some (.slice (some ⟨g0, 0, none⟩) m3.cs.length c0) ∧ w'.cell? ⟨g0, n * 2, none⟩ = some (.string (k3.T n).name) ∧ w'.cell? ⟨B, 1, none⟩ = some (.slice (some ⟨g1, 0, none⟩) m3.vb.length c1) ∧ w'.cell? ⟨g1, n, none⟩ = some (.slice ab3 (k3.B n).length cb3)) := fun w' hb => ⟨cell_later hb b0, cell_later hb d0, cell_later hb b1, cell_later hb e1⟩
              have HIL : Hid (td3.length ≤ 1001000) := by have := HRK.out; have h5 := HTL3.out; unfold Hid; omega
              clear hJ3 hK3 hX3 hR3 hto3 hA3 hdis3 hts3 hcn3 htl3 T3 row hvb hvl hcs huA hB3 hC3 hn b0 d0 b1 e1 hnx hn3
              subst hgA
              go_upto_region 10 with fail
              clear hcA
              have kd : Below wr.heap.size wr wr.drew := (Below.refl _ _).drew
              refine wp_region_held_drew (S := Below wr.heap.size wr) (by kernel_rfl) kd (fun hHeld => ?_)
              generalize wr.drew = wd at *
              refine wpAnyH_take (i := 0) (v := ?_) rfl (by kernel_rfl) (by kernel_rfl) (by kernel_rfl) (fun _ _ _ h => h) (Or.inl ⟨by rfl, ?_⟩) (by assumption) ?_
              rotate_left
              · intro w' hSw
                go_simp <;> with_reducible rfl
              try simp only [Act.put, List.setIfInBounds_toArray, List.set_cons_zero, List.set_cons_succ, List.getElem_toArray, List.getElem_cons_succ, List.getElem_cons_zero]
              refine wpAnyH_take (i := 1) (v := ?_) rfl (by kernel_rfl) (by kernel_rfl) (by kernel_rfl) (fun _ _ _ h => h) (Or.inl ⟨by rfl, ?_⟩) (by assumption) ?_
              rotate_left
              · intro w' hSw
                go_simp <;> with_reducible rfl
              try simp only [Act.put, List.setIfInBounds_toArray, List.set_cons_zero, List.set_cons_succ, List.getElem_toArray, List.getElem_cons_succ, List.getElem_cons_zero]
              refine wpAnyH_take (i := 2) (v := ?_) rfl (by kernel_rfl) (by kernel_rfl) (by kernel_rfl) (fun _ _ _ h => h) (Or.inl ⟨by rfl, ?_⟩) (by assumption) ?_
              rotate_left
              · intro w' hSw
                go_simp <;> with_reducible rfl
              try simp only [Act.put, List.setIfInBounds_toArray, List.set_cons_zero, List.set_cons_succ, List.getElem_toArray, List.getElem_cons_succ, List.getElem_cons_zero]
              refine wpAnyH_take (i := 3) (v := ?_) rfl (by kernel_rfl) (by kernel_rfl) (by kernel_rfl) (fun _ _ _ h => h) (Or.inl ⟨by rfl, ?_⟩) (by assumption) ?_
              rotate_left
              · intro w' hSw
                go_simp <;> with_reducible rfl
              try simp only [Act.put, List.setIfInBounds_toArray, List.set_cons_zero, List.set_cons_succ, List.getElem_toArray, List.getElem_cons_succ, List.getElem_cons_zero]
              refine wpAnyH_take (i := 4) (v := ?_) rfl (by kernel_rfl) (by kernel_rfl) (by kernel_rfl) (fun _ _ _ h => h) (Or.inl ⟨by rfl, ?_⟩) (by assumption) ?_
              rotate_left
              · intro w' hSw
                have x0 := (KB.out w' hSw).1
                have x1 := (KB.out w' hSw).2.1
                have x2 := (KB.out w' hSw).2.2.1
                have x3 := (KB.out w' hSw).2.2.2
                go_simp <;> with_reducible rfl
              try simp only [Act.put, List.setIfInBounds_toArray, List.set_cons_zero, List.set_cons_succ, List.getElem_toArray, List.getElem_cons_succ, List.getElem_cons_zero]
              refine wpAnyH_take (i := 5) (v := ?_) rfl (by kernel_rfl) (by kernel_rfl) (by kernel_rfl) (fun _ _ _ h => h) (Or.inl ⟨by rfl, ?_⟩) (by assumption) ?_
              rotate_left
              · intro w' hSw
                go_simp <;> with_reducible rfl
              try simp only [Act.put, List.setIfInBounds_toArray, List.set_cons_zero, List.set_cons_succ, List.getElem_toArray, List.getElem_cons_succ, List.getElem_cons_zero]
              refine wpAnyH_take (i := 6) (v := ?_) rfl (by kernel_rfl) (by kernel_rfl) (by kernel_rfl) (fun _ _ _ h => h) (Or.inl ⟨by rfl, ?_⟩) (by assumption) ?_
              rotate_left
              · intro w' hSw
                go_simp <;> with_reducible rfl
              try simp only [Act.put, List.setIfInBounds_toArray, List.set_cons_zero, List.set_cons_succ, List.getElem_toArray, List.getElem_cons_succ, List.getElem_cons_zero]
              refine wpAnyH_take (i := 7) (v := ?_) rfl (by kernel_rfl) (by kernel_rfl) (by kernel_rfl) (fun _ _ _ h => h) (Or.inl ⟨by rfl, ?_⟩) (by assumption) ?_
              rotate_left
              · intro w' hSw
                go_simp <;> with_reducible rfl
              try simp only [Act.put, List.setIfInBounds_toArray, List.set_cons_zero, List.set_cons_succ, List.getElem_toArray, List.getElem_cons_succ, List.getElem_cons_zero]
              refine wpAnyH_take (i := 8) (v := ?_) rfl (by kernel_rfl) (by kernel_rfl) (by kernel_rfl) (fun _ _ _ h => h) (Or.inl ⟨by rfl, ?_⟩) (by assumption) ?_
              rotate_left
              · intro w' hSw
                have x0 := (KB.out w' hSw).1
                have x1 := (KB.out w' hSw).2.1
                have x2 := (KB.out w' hSw).2.2.1
                have x3 := (KB.out w' hSw).2.2.2
                go_simp <;> with_reducible rfl
              try simp only [Act.put, List.setIfInBounds_toArray, List.set_cons_zero, List.set_cons_succ, List.getElem_toArray, List.getElem_cons_succ, List.getElem_cons_zero]
              refine wpAnyH_take (i := 9) (v := ?_) rfl (by kernel_rfl) (by kernel_rfl) (by kernel_rfl) (fun _ _ _ h => h) (Or.inl ⟨by rfl, ?_⟩) (by assumption) ?_
              rotate_left
              · intro w' hSw
                go_simp <;> with_reducible rfl
              try simp only [Act.put, List.setIfInBounds_toArray, List.set_cons_zero, List.set_cons_succ, List.getElem_toArray, List.getElem_cons_succ, List.getElem_cons_zero]
              refine wpAnyH_take (i := 10) (v := ?_) rfl (by kernel_rfl) (by kernel_rfl) (by kernel_rfl) (fun _ _ _ h => h) (Or.inl ⟨by rfl, ?_⟩) (by assumption) ?_
              rotate_left
              · intro w' hSw
                go_simp <;> with_reducible rfl
              try simp only [Act.put, List.setIfInBounds_toArray, List.set_cons_zero, List.set_cons_succ, List.getElem_toArray, List.getElem_cons_succ, List.getElem_cons_zero]
              refine wpAnyH_take (i := 11) (v := ?_) rfl (by kernel_rfl) (by kernel_rfl) (by kernel_rfl) (fun _ _ _ h => h) (Or.inl ⟨by rfl, ?_⟩) (by assumption) ?_
              rotate_left
              · intro w' hSw
                go_simp <;> with_reducible rfl
              try simp only [Act.put, List.setIfInBounds_toArray, List.set_cons_zero, List.set_cons_succ, List.getElem_toArray, List.getElem_cons_succ, List.getElem_cons_zero]
              refine wpAnyH_take (i := 12) (v := ?_) rfl (by kernel_rfl) (by kernel_rfl) (by kernel_rfl) (fun _ _ _ h => h) (Or.inl ⟨by rfl, ?_⟩) (by assumption) ?_
              rotate_left
              · intro w' hSw
                have x0 := (KB.out w' hSw).1
                have x1 := (KB.out w' hSw).2.1
                have x2 := (KB.out w' hSw).2.2.1
                have x3 := (KB.out w' hSw).2.2.2
                go_simp <;> with_reducible rfl
              try simp only [Act.put, List.setIfInBounds_toArray, List.set_cons_zero, List.set_cons_succ, List.getElem_toArray, List.getElem_cons_succ, List.getElem_cons_zero]
              refine wpAnyH_take (i := 13) (v := ?_) rfl (by kernel_rfl) (by kernel_rfl) (by kernel_rfl) (fun _ _ _ h => h) (Or.inl ⟨by rfl, ?_⟩) (by assumption) ?_
              rotate_left
              · intro w' hSw
                go_simp <;> with_reducible rfl
              try simp only [Act.put, List.setIfInBounds_toArray, List.set_cons_zero, List.set_cons_succ, List.getElem_toArray, List.getElem_cons_succ, List.getElem_cons_zero]
              refine wpAnyH_take (i := 14) (v := ?_) rfl (by kernel_rfl) (by kernel_rfl) (by kernel_rfl) (fun _ _ _ h => h) (Or.inl ⟨by rfl, ?_⟩) (by assumption) ?_
              rotate_left
              · intro w' hSw
                go_simp <;> with_reducible rfl
              try simp only [Act.put, List.setIfInBounds_toArray, List.set_cons_zero, List.set_cons_succ, List.getElem_toArray, List.getElem_cons_succ, List.getElem_cons_zero]
              refine wpAnyH_take (i := 15) (v := ?_) rfl (by kernel_rfl) (by kernel_rfl) (by kernel_rfl) (fun _ _ _ h => h) (Or.inl ⟨by rfl, ?_⟩) (by assumption) ?_
              rotate_left
              · intro w' hSw
                have x0 := (KB.out w' hSw).1
                have x1 := (KB.out w' hSw).2.1
                have x2 := (KB.out w' hSw).2.2.1
                have x3 := (KB.out w' hSw).2.2.2
                go_simp <;> with_reducible rfl
              try simp only [Act.put, List.setIfInBounds_toArray, List.set_cons_zero, List.set_cons_succ, List.getElem_toArray, List.getElem_cons_succ, List.getElem_cons_zero]
              refine wpAnyH_ready (rs := [16]) (by kernel_rfl) (by simp) ?_
              refine AllReadyH.cons rfl (fun K hK => ?_) AllReadyH.nil
              go_simp
              go_at_call 61
              refine (HSG.out _ kd).mono ?_
              rintro e w9 ⟨rfl, hb9⟩
              go_simp
              refine hK.out _ _ (by exact hb9) (fun hHeld => ?_)
              clear hK K
              try simp only [Act.put, List.setIfInBounds_toArray, List.set_cons_zero, List.set_cons_succ, List.getElem_toArray, List.getElem_cons_succ, List.getElem_cons_zero]
              refine wpAnyH_take (i := 17) (v := ?_) rfl (by kernel_rfl) (by kernel_rfl) (by kernel_rfl) (fun _ _ _ h => h) (Or.inl ⟨by rfl, ?_⟩) (by assumption) ?_
              rotate_left
              · intro w' hSw
                go_simp <;> with_reducible rfl
              try simp only [Act.put, List.setIfInBounds_toArray, List.set_cons_zero, List.set_cons_succ, List.getElem_toArray, List.getElem_cons_succ, List.getElem_cons_zero]
              refine wpAnyH_done (by kernel_rfl) ?_ _
              have K9 := HK3.out.later hb9
              have X9 := HX3.out.trans (Exo.below hb9 fun _ _ => rfl)
              have R9 := HR3.out.later hb9
              have A9 := HA3.out.later hb9
              have b5 : w9.cell? ⟨B, 5, none⟩ = some (.map (some r)) := by rw [K9.box.cell]; simp
              have hlk := map_look K9.map (k3.sig n)
              clear hHeld kd hb9 HSG KB HK3 HX3 HR3 HA3
              cases hsg : sgG k3.sg (k3.sig n) with
              | some ot =>
                rw [hsg] at hlk
                simp only [Option.map_some, Option.getD_some, Option.isSome_some] at hlk
                obtain ⟨g, cap2, w11, o11, hr11, R11, K11, hat, hw11, hb11, ho11⟩ := app_todo K9 R9 (fun b hb hx => by
                  have h1 := HX0.out b hx
                  have h2 := HTO3.out b hb h1.1
                  rw [h1.2] at h2
                  cases h2) (Nat.le_trans HIL.out (by omega)) n ot
                have X11 := exo_todo X9 hw11 hb11 ho11 HTO3.out
                have A11 : Rwo w11 N o11 eX 3 1 (.slice (some ⟨gA, 0, none⟩) (iL (k1.A l)).length c7) (iL (k1.A l)).length (iL (k1.A l)) := ⟨ownsRow_at A9.1 fun gb hgb => hb11 gb (A9.1.lt gb hgb).2 (HD3.out gb hgb), fun b hb => (ho11 b (A9.1.lt b hb).2).trans (A9.2 b hb)⟩
                have NX2 : Hid (JoJ N B r X E S W k o w (k1.swal l mm) td2.length (k1.A l) (.slice (some ⟨gA, 0, none⟩) (iL (k1.A l)).length c7) (.slice (some ⟨g, 0, none⟩) (td3.length + 1) cap2) (.int .i64 ((q + 1 : Nat) : Int)) w11) := by
                  refine ⟨q + 1, k3, m3, o11, td3 ++ [(n, ot)], hql, rfl, (jn_other HJ3.out HN3.out hsg).less fun x hx => drop_ne hql hx.1 (by rw [← HNQ.out]; exact hx.2), K11, X11, R11, fun b hb h2 => ?_, A11, fun b hb e => ?_, HTS3.out, HCN3.out, by have := HTL3.out; simp; omega⟩
                  · have e : g = b := by simpa [Value.ownBlock] using hb
                    subst e
                    rcases hat with e | e
                    · exact HTO3.out g e h2
                    · have := X9.2.2.2.1; omega
                  · have e2 : g = b := by simpa [Value.ownBlock] using e
                    subst e2
                    rcases hat with e3 | e3
                    · exact HD3.out g hb e3
                    · have := (A9.1.lt g hb).2; omega
                have HR11 := hide hr11
                clear hsg hr11 R11 K11 hat hw11 hb11 ho11 X11 A11 K9 X9 R9 A9
                have hil := HIL.out
                go_wp2_with (at_builtin; refine wpList_append_eq rfl _ _ _ _ rfl rfl rfl HR11.out ?_)
                go_roundw
                case rel => exact NX2.out
                case measure => simp [intOf]; omega
              | none =>
                rw [hsg] at hlk
                simp only [Option.map_none, Option.getD_none, Option.isSome_none] at hlk
                obtain ⟨w10, hm10, K10, F10⟩ := K9.push_sg (k3.sig n) n hsg
                have NX2 : Hid (JoJ N B r X E S W k o w (k1.swal l mm) td2.length (k1.A l) (.slice (some ⟨gA, 0, none⟩) (iL (k1.A l)).length c7) (.slice t3 td3.length c3) (.int .i64 ((q + 1 : Nat) : Int)) w10) :=
                  ⟨q + 1, k3.signed n, m3, o3, td3, hql, rfl, (jn_new HJ3.out HN3.out hsg).less fun x hx => drop_ne hql hx.1 (by rw [← HNQ.out]; exact hx.2), K10, X9.trans (F10.exo (by simp)), R9.fr F10 (by simp), HTO3.out, A9.fr F10 (by simp), HD3.out, HTS3.out, HCN3.out, by have := HTL3.out; omega⟩
                clear hsg K10 F10 K9 X9 R9 A9
                go_wp2_with fail
                go_roundw
                case rel => exact NX2.out
                case measure => simp [intOf]; omega
            · have hqi : ¬ (q : Int) < ((iL (k1.A l)).length : Int) := by rw [iL_len]; omega
              have hdr : (k1.A l).drop q = [] := List.drop_eq_nil_of_le (by omega)
              rw [hdr] at hJ3
              have hrk9 : td3.length + k3.cnt * (W + 1) < td2.length + 1 + k1.cnt * (W + 1) := by
                have h1 := HCN.out
                rw [← hcn3] at h1
                have h2 : (k3.cnt + 1) * (W + 1) ≤ k1.cnt * (W + 1) := Nat.mul_le_mul_right _ h1
                rw [Nat.add_mul] at h2
                have h3 := HAL.out.1
                omega
              have NX3 : Hid (JoI N B r X E S W k o w (td3.length + k3.cnt * (W + 1)) (.slice t3 td3.length c3) wr) := ⟨k3, m3, o3, td3, hJ3.less (fun x hx => by cases hx), hK3, hX3, hR3, hto3, hts3, Nat.le_refl _, by have := HRK.out; omega⟩
              have HRK9 : Hid (td3.length + k3.cnt * (W + 1) < gk) := by have := HRK.out; unfold Hid; omega
              clear hJ3 hK3 hX3 hR3 hto3 hA3 hdis3 hts3 hcn3 htl3 hrk9 hdr
              go_wp2_with fail
              go_roundg (td3.length + k3.cnt * (W + 1))
              case measure => exact HRK9.out
              case rel => exact NX3.out
end Go.Proofs.YtdmaijmglblccaaGreatDoor

/- Walks: the classes that equations make (closure.closed). -/
namespace Go.Proofs.YtdmaijmglblccaaGreatDoor
open Go.RowKit
set_option linter.unusedSimpArgs false
set_option linter.unusedVariables false
set_option maxRecDepth 8000

/-- Both sides of equations, one behind the other. -/
def prT : List Pr → List Tm
  | [] => []
  | p :: r => p.l :: p.r :: prT r
theorem prT_app : ∀ a b : List Pr, prT (a ++ b) = prT a ++ prT b
  | [], b => rfl
  | p :: r, b => by simp [prT, prT_app r b]
def flN : List (Nat × Nat) → List Nat
  | [] => []
  | p :: r => p.1 :: p.2 :: flN r
theorem flN_app : ∀ a b : List (Nat × Nat), flN (a ++ b) = flN a ++ flN b
  | [], b => rfl
  | p :: r, b => by simp [flN, flN_app r b]
theorem flN_mem : ∀ {td : List (Nat × Nat)} {p : Nat × Nat}, p ∈ td → p.1 ∈ flN td ∧ p.2 ∈ flN td
  | q :: r, p, h => by
    rcases List.mem_cons.1 h with e | e
    · rw [e]; simp [flN]
    · have := flN_mem e; simp [flN, this.1, this.2]
theorem prT_mem : ∀ {ls : List Pr} {p : Pr}, p ∈ ls → p.l ∈ prT ls ∧ p.r ∈ prT ls
  | q :: r, p, h => by
    rcases List.mem_cons.1 h with e | e
    · rw [e]; simp [prT]
    · have := prT_mem e; simp [prT, this.1, this.2]
/-- Which numbers belong to which equation. -/
theorem td_pairs {k : Kl} : ∀ (td : List (Nat × Nat)) (ls : List Pr), (flN td).map k.T = prT ls → (∀ q ∈ td, ∃ p ∈ ls, k.T q.1 = p.l ∧ k.T q.2 = p.r) ∧ ∀ p ∈ ls, ∃ q ∈ td, k.T q.1 = p.l ∧ k.T q.2 = p.r
  | [], [], _ => ⟨by simp, by simp⟩
  | [], p :: r, h => by simp [flN, prT] at h
  | q :: t, [], h => by simp [flN, prT] at h
  | q :: t, p :: r, h => by
    simp only [flN, prT, List.map_cons, List.cons.injEq] at h
    obtain ⟨h1, h2, h3⟩ := h
    obtain ⟨i1, i2⟩ := td_pairs t r h3
    refine ⟨fun x hx => ?_, fun x hx => ?_⟩
    · rcases List.mem_cons.1 hx with e | e
      · rw [e]; exact ⟨p, by simp, h1, h2⟩
      · obtain ⟨y, hy, g⟩ := i1 x e; exact ⟨y, by simp [hy], g⟩
    · rcases List.mem_cons.1 hx with e | e
      · rw [e]; exact ⟨q, by simp, h1, h2⟩
      · obtain ⟨y, hy, g⟩ := i2 x e; exact ⟨y, by simp [hy], g⟩
def kE : Kl := ⟨[], [], [], [], [], []⟩
theorem kE_ok : NumI kE AllU := ⟨rfl, rfl, rfl, rfl, List.nodup_nil, by simp [kE], fun m h => absurd h (Nat.not_lt_zero m), fun m h => absurd h (Nat.not_lt_zero m), fun m h => absurd h (Nat.not_lt_zero m), fun m h => absurd h (Nat.not_lt_zero m), fun s m h => by simp [kE, sgG] at h, fun m h => absurd h (Nat.not_lt_zero m)⟩
def oS (B r : Nat) : Nat → Oid := fun b => if b = B then (1, 0) else if b = r then (2, 0) else eX
/-- While the equations are numbered. -/
def CdI (N B r : Nat) (X : Nat → Prop) (ls : List Pr) (o1 : Nat → Oid) (w1 : World) (v i : Value) (wr : World) : Prop :=
  ∃ (j : Nat) (td : List (Nat × Nat)) (kj : Kl) (mj : Km) (oj : Nat → Oid), j ≤ ls.length ∧ i = .int .i64 (j : Int) ∧ td.length = j ∧ NumJ kE (prT (ls.take j)) kj (flN td) ∧ KlAt N B r X wr oj kj mj ∧ Exo o1 w1 oj wr ∧ Rwo wr N oj eX 81 2 v td.length (pL td) ∧ ∀ b, v.ownBlock = some b → w1.heap.size ≤ b
/-- While some more are numbered. -/
def CdJ (N B r : Nat) (X : Nat → Prop) (ls : List Pr) (qs : List Tm) (td : List (Nat × Nat)) (tv : Value) (o1 : Nat → Oid) (w1 : World) (v i : Value) (wr : World) : Prop :=
  ∃ (j : Nat) (ns : List Nat) (kj : Kl) (mj : Km) (oj : Nat → Oid), j ≤ qs.length ∧ i = .int .i64 (j : Int) ∧ ns.length = j ∧ NumJ kE (prT ls ++ qs.take j) kj (flN td ++ ns) ∧ KlAt N B r X wr oj kj mj ∧ Exo o1 w1 oj wr ∧ Rwo wr N oj eX 81 2 tv td.length (pL td) ∧ Rwo wr N oj eX 3 1 v (iL ns).length (iL ns) ∧ (∀ b, v.ownBlock = some b → w1.heap.size ≤ b ∧ tv.ownBlock ≠ some b)
/-- The classes that are told, and the numbers of some more. -/
def CdP (X : Nat → Prop) (ls : List Pr) (qs : List Tm) (w : World) (e : Ending) (w' : World) : Prop :=
  ∃ (N B r : Nat) (k : Kl) (m : Km) (o : Nat → Oid) (nv : Value) (ns : List Nat), e = .returned (.tuple #[.pointer (some ⟨B, 0, none⟩), nv]) ∧ w.heap.size ≤ B ∧ KlAt N B r X w' o k m ∧ Rwo w' N o eX 3 1 nv (iL ns).length (iL ns) ∧ ns.map k.T = qs ∧ (∀ n ∈ ns, n < k.ts.length) ∧ Num ls k.ts k.cl ∧ Done ls k.ts k.cl ∧ (∀ x, x ∈ k.ts ↔ x ∈ preL (prT ls ++ qs)) ∧ (∀ x ∈ k.ts, errL [x] = 0) ∧ JnI ls (· ∈ k.ts) 900 k [] (fun _ => False) ∧ k.ts.length ≤ 900 ∧ Below w.heap.size w w'
theorem flN_len : ∀ td : List (Nat × Nat), (flN td).length = td.length * 2
  | [] => rfl
  | p :: r => by simp only [flN, List.length_cons, flN_len r]; omega
theorem prT_len : ∀ ls : List Pr, (prT ls).length = ls.length * 2
  | [] => rfl
  | p :: r => by simp only [prT, List.length_cons, prT_len r]; omega
theorem pre_args (l : List Tm) : ∀ {x : Tm}, x ∈ preL l → x.args.length ≤ sizeL l := by
  induction l using Tm.indL with
  | h0 => intro x h; simp [preL] at h
  | h s l r ihl ihr =>
    intro x h
    have e : sizeL ((⟨s, l⟩ : Tm) :: r) = 1 + sizeL l + sizeL r := by simp [sizeL]
    rw [e]
    simp only [preL, List.mem_cons, List.mem_append] at h
    rcases h with h | h | h
    · rw [h]; have := len_sizeK l; simp only; omega
    · have := ihl h; omega
    · have := ihr h; omega
theorem pre_self : ∀ {l : List Tm} {x : Tm}, x ∈ l → x ∈ preL l
  | ⟨s, a⟩ :: r, x, h => by
    rcases List.mem_cons.1 h with e | e
    · rw [e]; simp [preL]
    · simp [preL, pre_self e]
theorem prT_size : ∀ (ls : List Pr) (j : Nat), sizeL (prT (ls.take j)) ≤ sizeL (prT ls) := fun ls j => by
  conv => rhs; rw [← List.take_append_drop j ls, prT_app, sizeL_append]
  omega
theorem prT_take (ls : List Pr) (j : Nat) (h : j < ls.length) : prT (ls.take (j + 1)) = prT (ls.take j) ++ [ls[j].l] ++ [ls[j].r] := by
  rw [List.take_succ_eq_append_getElem h, prT_app]
  simp [prT]
set_option maxHeartbeats 8000000 in
theorem closed_any {BT : Nat} (ls : List Pr) (qs : List Tm) (u : Value) (qa : Option Addr) (qc : Nat) (w : World) (X : Nat → Prop) (hu : QV w X u ls) (hq : Sl w X qa qs) (hT : Tb BT w) (hBT : BT ≤ w.heap.size) (hX : ∀ b, X b → b < w.heap.size) (he : errL (prT ls ++ qs) = 0) (hz : sizeL (prT ls ++ qs) ≤ 900) (hl : ls.length ≤ 100) :
    Calls Tryz.prog 31 #[u, .slice qa qs.length qc] w (CdP X ls qs w) := by
  obtain ⟨ua, uc, rfl, hul, huu⟩ := id hu
  have hmm := @run_makeMap Tryz.prog
  have W2 := hide (((Below.refl w.heap.size w).alloc (Nat.le_refl _) (.map #[] 0)).alloc (by simp) (.cells #[.slice none 0 0, .slice none 0 0, .slice none 0 0, .slice none 0 0, .slice none 0 0, .map (some w.heap.size)] 65))
  have B2 : Hid (Blk ((w.alloc (.map #[] 0)).alloc (.cells #[.slice none 0 0, .slice none 0 0, .slice none 0 0, .slice none 0 0, .slice none 0 0, .map (some w.heap.size)] 65)) (w.heap.size + 1) #[.slice none 0 0, .slice none 0 0, .slice none 0 0, .slice none 0 0, .slice none 0 0, .map (some w.heap.size)] 65) := by
    have h := Blk.new (w.alloc (.map #[] 0)) #[.slice none 0 0, .slice none 0 0, .slice none 0 0, .slice none 0 0, .slice none 0 0, .map (some w.heap.size)] 65
    rw [World.size_alloc] at h
    exact h
  have M2 : Hid (MapAt ((w.alloc (.map #[] 0)).alloc (.cells #[.slice none 0 0, .slice none 0 0, .slice none 0 0, .slice none 0 0, .slice none 0 0, .map (some w.heap.size)] 65)) w.heap.size []) := (MapAt.new w).kept (Below.heap_alloc _ _ _ (by simp))
  have Z2 : Hid (((w.alloc (.map #[] 0)).alloc (.cells #[.slice none 0 0, .slice none 0 0, .slice none 0 0, .slice none 0 0, .slice none 0 0, .map (some w.heap.size)] 65)).heap.size = w.heap.size + 2) := by unfold Hid; simp
  have HU := hide hu
  have HQ := hide hq
  have HT := hide hT
  have HBT := hide hBT
  have HX := hide hX
  have HE := hide he
  have HZ := hide hz
  have hql : qs.length ≤ 900 := by
    have h1 := len_sizeK (prT ls ++ qs)
    rw [List.length_append] at h1
    omega
  clear hu hq hT hBT hX he hz huu
  go_enter Tryz.func31, Tryz.ntmps31
  go_upto_region 3 with fail
  clear hmm
  generalize ((w.alloc (.map #[] 0)).alloc (.cells #[.slice none 0 0, .slice none 0 0, .slice none 0 0, .slice none 0 0, .slice none 0 0, .map (some w.heap.size)] 65)) = w1 at *
  obtain ⟨r, hr⟩ : ∃ r, r = w.heap.size := ⟨_, rfl⟩
  obtain ⟨B, hB⟩ : ∃ B, B = w.heap.size + 1 := ⟨_, rfl⟩
  obtain ⟨N, hN⟩ : ∃ N, N = w.heap.size + 2 := ⟨_, rfl⟩
  rw [← hB] at B2 ⊢
  rw [← hr] at M2 B2
  have HSZ : Hid (r = w.heap.size ∧ B = w.heap.size + 1 ∧ N = w.heap.size + 2) := ⟨hr, hB, hN⟩
  have K1 : KlAt N B r X w1 (oS B r) kE ⟨nV, nV, nV, nV, nV, [], [], [], []⟩ := by
    have nor : ∀ (id : Oid) (T e : Nat), Rwo w1 N (oS B r) id T e nV 0 [] := fun id T e => Rwo.nil _ _ _ _ _ _
    have z2 := Z2.out
    refine ⟨B2.out, M2.out, by omega, by omega, by omega, if_pos rfl, ?_, nor _ _ _, rfl, by simp, fun b hb => ?_, nor _ _ _, nor _ _ _, nor _ _ _, nor _ _ _, rfl, rfl, rfl, fun i hi => absurd hi (Nat.not_lt_zero i), fun i hi => absurd hi (Nat.not_lt_zero i), fun i hi => absurd hi (Nat.not_lt_zero i)⟩
    · unfold oS; rw [if_neg (by omega), if_pos rfl]
    · have := HX.out b hb
      refine ⟨by omega, ?_⟩
      unfold oS
      rw [if_neg (by omega), if_neg (by omega)]
  have T1 : Hid (TbO BT (oS B r) w1) := ⟨HT.out.on (W2.out.mono HBT.out), by have := HBT.out; have := Z2.out; omega, fun b hb => by
    have := HBT.out
    unfold oS
    rw [if_neg (by omega), if_neg (by omega)]⟩
  have START : Hid (CdI N B r X ls (oS B r) w1 (.slice none 0 0) (.int .i64 0) w1) := ⟨0, [], kE, _, _, Nat.zero_le _, rfl, rfl, by rw [List.take_zero]; exact NumJ.start kE_ok, K1, Exo.refl _ _, Rwo.nil _ _ _ _ _ _, by simp [Value.ownBlock]⟩
  have HXO : Hid (∀ b, X b → b < w1.heap.size ∧ oS B r b = eX) := K1.hX
  have HU1 := hide (HU.out.later W2.out)
  have HQ1 := hide (HQ.out.later W2.out)
  have HOO : Hid (∀ b, b < w.heap.size → oS B r b = eX) := fun b hb => by unfold oS; rw [if_neg (by omega), if_neg (by omega)]
  generalize oS B r = o1 at *
  clear K1 B2 M2 hr hB hN HU HQ
  go_wp2_with fail
  go_loopw [7, 18] (fun v i wr => CdI N B r X ls o1 w1 v i wr) (fun v i wr => ls.length - (intOf i).toNat)
  case atStart => exact START.out
  case round =>
    obtain ⟨j, td, kj, mj, oj, hj, rfl, htl, hJ, hK, hXx, hR, how⟩ := hrel
    obtain ⟨va, vc, rfl⟩ := hR.shape
    by_cases hjl : j < ls.length
    · have hji : (j : Int) < (ls.length : Int) := by omega
      obtain ⟨b, ob, a1, c1, a2, c2, hva, d0, d1, d2, d3, s1, s2⟩ := (HU1.out.kept fun b hb => (hXx.2.2.2.2 b (HXO.out b hb).1 (HXO.out b hb).2).1).get j hjl
      obtain ⟨Ka, Ea⟩ := hK.upn ((Below.refl _ _).alloc (Nat.le_refl _) (.cells #[.string ls[j].l.name, .slice a1 ls[j].l.args.length c1, .string ls[j].r.name, .slice a2 ls[j].r.args.length c2] 35))
      have Pa := Blk.new wr #[.string ls[j].l.name, .slice a1 ls[j].l.args.length c1, .string ls[j].r.name, .slice a2 ls[j].r.args.length c2] 35
      have Ra := hR.exo Ea
      have Xa := hXx.trans Ea
      have S1a := s1.exo (exo_X HXO.out hXx) Ea
      have S2a := s2.exo (exo_X HXO.out hXx) Ea
      have oP : upN oj wr.heap.size wr.heap.size = eX := upN_ge (Nat.le_refl _)
      have hlen := hJ.len
      have hsum := hJ.sum
      have hsz : sizeL (prT (ls.take j)) + sizeL [ls[j].l] + sizeL [ls[j].r] ≤ 900 := by
        have h1 := prT_size ls (j + 1)
        rw [prT_take ls j hjl, sizeL_append, sizeL_append] at h1
        have h2 := HZ.out
        rw [sizeL_append] at h2
        omega
      have hk0 : kE.ts.length = 0 ∧ sumN kE.ab = 0 := ⟨rfl, rfl⟩
      have hel := err_memK HE.out (List.mem_append_left _ (prT_mem (List.getElem_mem hjl)).1)
      have her := err_memK HE.out (List.mem_append_left _ (prT_mem (List.getElem_mem hjl)).2)
      have HKa := hide Ka
      have HXa := hide Xa
      have HRa := hide Ra
      have HPa := hide Pa
      have HS1 := hide S1a
      have HS2 := hide S2a
      have HOP := hide oP
      have HJ := hide hJ
      have HOW := hide how
      have HEL := hide hel
      have HER := hide her
      have HSM : Hid (sizeL [ls[j].l] ≤ 900 ∧ sizeL [ls[j].r] ≤ 900 ∧ kj.ts.length + sizeL [ls[j].l] + sizeL [ls[j].r] ≤ 900 ∧ sumN kj.ab + sizeL [ls[j].l] + sizeL [ls[j].r] ≤ 900) := ⟨by omega, by omega, by omega, by omega⟩
      have htl1 : td.length ≤ 100 := by omega
      have HTL := hide htl
      clear htl
      clear hJ hK hXx hR how Ka Ea Pa Ra Xa S1a S2a oP hlen hsum hsz hk0 hel her s1 s2
      subst hva
      go_upto_region 6 with fail
      clear d0 d1 d2 d3
      generalize (wr.alloc (.cells #[.string ls[j].l.name, .slice a1 ls[j].l.args.length c1, .string ls[j].r.name, .slice a2 ls[j].r.args.length c2] 35)) = wa at *
      generalize upN oj wr.heap.size = oa at *
      generalize wr.heap.size = P at *
      have kd : Below wa.heap.size wa wa.drew := (Below.refl _ _).drew
      have HKd := hide (HKa.out.later kd)
      have Ed : Exo oa wa oa wa.drew := Exo.below kd fun _ _ => rfl
      have HXd := hide (HXa.out.trans Ed)
      have HRd := hide (HRa.out.exo Ed)
      have HPd : Hid (Blk wa.drew P #[.string ls[j].l.name, .slice a1 ls[j].l.args.length c1, .string ls[j].r.name, .slice a2 ls[j].r.args.length c2] 35) := HPa.out.exo Ed HOP.out
      have HS1d := hide (HS1.out.exo (exo_X HXO.out HXa.out) Ed)
      have HS2d := hide (HS2.out.exo (exo_X HXO.out HXa.out) Ed)
      clear Ed kd HKa HXa HRa HPa HS1 HS2
      refine wp_region_held_drew (S := fun w' => Blk w' P #[.string ls[j].l.name, .slice a1 ls[j].l.args.length c1, .string ls[j].r.name, .slice a2 ls[j].r.args.length c2] 35) (by kernel_rfl) HPd.out (fun hHeld => ?_)
      generalize wa.drew = wd at *
      refine wpAnyH_take (i := 0) (v := ?_) rfl (by kernel_rfl) (by kernel_rfl) (by kernel_rfl) (fun _ _ _ h => h) (Or.inl ⟨by rfl, ?_⟩) (by assumption) ?_
      rotate_left
      · intro w' hSw
        go_simp <;> with_reducible rfl
      try simp only [Act.put, List.setIfInBounds_toArray, List.set_cons_zero, List.set_cons_succ, List.getElem_toArray, List.getElem_cons_succ, List.getElem_cons_zero]
      refine wpAnyH_take (i := 1) (v := ?_) rfl (by kernel_rfl) (by kernel_rfl) (by kernel_rfl) (fun _ _ _ h => h) (Or.inl ⟨by rfl, ?_⟩) (by assumption) ?_
      rotate_left
      · intro w' hSw
        go_simp <;> with_reducible rfl
      try simp only [Act.put, List.setIfInBounds_toArray, List.set_cons_zero, List.set_cons_succ, List.getElem_toArray, List.getElem_cons_succ, List.getElem_cons_zero]
      refine wpAnyH_take (i := 2) (v := ?_) rfl (by kernel_rfl) (by kernel_rfl) (by kernel_rfl) (fun _ _ _ h => h) (Or.inl ⟨by rfl, ?_⟩) (by assumption) ?_
      rotate_left
      · intro w' hSw
        go_simp <;> with_reducible rfl
      try simp only [Act.put, List.setIfInBounds_toArray, List.set_cons_zero, List.set_cons_succ, List.getElem_toArray, List.getElem_cons_succ, List.getElem_cons_zero]
      refine wpAnyH_take (i := 3) (v := ?_) rfl (by kernel_rfl) (by kernel_rfl) (by kernel_rfl) (fun _ _ _ h => h) (Or.inl ⟨by rfl, ?_⟩) (by assumption) ?_
      rotate_left
      · intro w' hSw
        have x0 := Blk.cell hSw 0
        have x1 := Blk.cell hSw 1
        have x2 := Blk.cell hSw 2
        have x3 := Blk.cell hSw 3
        go_simp <;> with_reducible rfl
      try simp only [Act.put, List.setIfInBounds_toArray, List.set_cons_zero, List.set_cons_succ, List.getElem_toArray, List.getElem_cons_succ, List.getElem_cons_zero]
      refine wpAnyH_take (i := 5) (v := ?_) rfl (by kernel_rfl) (by kernel_rfl) (by kernel_rfl) (fun _ _ _ h => h) (Or.inl ⟨by rfl, ?_⟩) (by assumption) ?_
      rotate_left
      · intro w' hSw
        go_simp <;> with_reducible rfl
      try simp only [Act.put, List.setIfInBounds_toArray, List.set_cons_zero, List.set_cons_succ, List.getElem_toArray, List.getElem_cons_succ, List.getElem_cons_zero]
      refine wpAnyH_take (i := 6) (v := ?_) rfl (by kernel_rfl) (by kernel_rfl) (by kernel_rfl) (fun _ _ _ h => h) (Or.inl ⟨by rfl, ?_⟩) (by assumption) ?_
      rotate_left
      · intro w' hSw
        go_simp <;> with_reducible rfl
      try simp only [Act.put, List.setIfInBounds_toArray, List.set_cons_zero, List.set_cons_succ, List.getElem_toArray, List.getElem_cons_succ, List.getElem_cons_zero]
      refine wpAnyH_take (i := 7) (v := ?_) rfl (by kernel_rfl) (by kernel_rfl) (by kernel_rfl) (fun _ _ _ h => h) (Or.inl ⟨by rfl, ?_⟩) (by assumption) ?_
      rotate_left
      · intro w' hSw
        have x0 := Blk.cell hSw 0
        have x1 := Blk.cell hSw 1
        have x2 := Blk.cell hSw 2
        have x3 := Blk.cell hSw 3
        go_simp <;> with_reducible rfl
      try simp only [Act.put, List.setIfInBounds_toArray, List.set_cons_zero, List.set_cons_succ, List.getElem_toArray, List.getElem_cons_succ, List.getElem_cons_zero]
      have C4 := hide (number_any (BT := BT) ls[j].l a1 c1 HKd.out HJ.out.ok (T1.out.exo HXd.out) HEL.out HSM.out.1 (by have := HSM.out; omega) (by have := HSM.out; omega) HS1d.out)
      refine wpAnyH_ready (rs := [4]) (by kernel_rfl) (by simp) ?_
      refine AllReadyH.cons rfl (fun K hK => ?_) AllReadyH.nil
      go_simp
      go_at_call 46
      refine C4.out.mono ?_
      rintro e w4 ⟨k4, m4, o4, i4, rfl, N4, K4, X4⟩
      have HP4 : Hid (Blk w4 P #[.string ls[j].l.name, .slice a1 ls[j].l.args.length c1, .string ls[j].r.name, .slice a2 ls[j].r.args.length c2] 35) := HPd.out.exo X4 HOP.out
      have HX4 := hide (HXd.out.trans X4)
      have HR4 := hide (HRd.out.exo X4)
      have HS4 := hide (HS2d.out.exo (exo_X HXO.out HXd.out) X4)
      have oP4 := (X4.2.2.2.2 P HPd.out.lt HOP.out).2
      have HOP4 := hide oP4
      have HN4 := hide N4
      have HK4 := hide K4
      clear C4 N4 K4 X4 oP4
      go_simp
      refine hK.out _ _ (by exact HP4.out) (fun hHeld => ?_)
      clear hK K
      try simp only [Act.put, List.setIfInBounds_toArray, List.set_cons_zero, List.set_cons_succ, List.getElem_toArray, List.getElem_cons_succ, List.getElem_cons_zero]
      have C8 := hide (number_any (BT := BT) ls[j].r a2 c2 HK4.out HN4.out.ok (T1.out.exo HX4.out) HER.out HSM.out.2.1 (by have := HSM.out; have := HN4.out.len; omega) (by have := HSM.out; have := HN4.out.sum; omega) HS4.out)
      refine wpAnyH_ready (rs := [8]) (by kernel_rfl) (by simp) ?_
      refine AllReadyH.cons rfl (fun K hK => ?_) AllReadyH.nil
      go_simp
      go_at_call 46
      refine C8.out.mono ?_
      rintro e w8 ⟨k8, m8, o8, i8, rfl, N8, K8, X8⟩
      have HP8 : Hid (Blk w8 P #[.string ls[j].l.name, .slice a1 ls[j].l.args.length c1, .string ls[j].r.name, .slice a2 ls[j].r.args.length c2] 35) := HP4.out.exo X8 HOP4.out
      have HX8 := hide (HX4.out.trans X8)
      have HR8 := hide (HR4.out.exo X8)
      have oP8 := (X8.2.2.2.2 P HP4.out.lt HOP4.out).2
      obtain ⟨g, cap, w11, o11, hr11, R11, K11, hat, hw11, hb11, ho11⟩ := app_todo K8 HR8.out (fun b hb hx => by have h1 := HOW.out b hb; have h2 := (HXO.out b hx).1; omega) (by omega) i4 i8
      have HP11 : Hid (Blk w11 P #[.string ls[j].l.name, .slice a1 ls[j].l.args.length c1, .string ls[j].r.name, .slice a2 ls[j].r.args.length c2] 35) := (hb11 P HP8.out.lt (fun e => by
        rcases HR8.out.1.2 with ⟨h9, _⟩ | ⟨g9, cap9, cur9, h9, _, hh9, _⟩
        · rw [h9] at e; simp [Value.ownBlock] at e
        · rw [h9] at e
          have e9 : g9 = P := by simpa [Value.ownBlock] using e
          subst e9
          have h8 := HP8.out
          unfold Blk at h8
          rw [hh9] at h8
          cases h8)).trans HP8.out
      have X11 : Exo o1 w1 o11 w11 := exo_push (lv := .slice va td.length vc) HX8.out (I := fun _ => True) ⟨hw11.1, hw11.2.1, hw11.2.2.1, hw11.2.2.2, fun _ _ h => absurd trivial h⟩ (fun b hb he hne => ⟨hb11 b hb hne, (ho11 b hb).trans he⟩) HOW.out
      have NXT : Hid (CdI N B r X ls o1 w1 (.slice (some ⟨g, 0, none⟩) (td.length + 1) cap) (.int .i64 ((j + 1 : Nat) : Int)) w11) := by
        refine ⟨j + 1, td ++ [(i4, i8)], k8, m8, o11, hjl, rfl, by simp [HTL.out], ?_, K11, X11, R11, fun b hb => ?_⟩
        · rw [prT_take ls j hjl, flN_app]
          have h9 := (HJ.out.next HN4.out).next N8
          simpa [flN] using h9
        · have e : g = b := by simpa [Value.ownBlock] using hb
          subst e
          rcases hat with e | e
          · exact HOW.out g e
          · have := HX8.out.2.2.2.1; omega
      have HR11 := hide hr11
      clear C8 N8 K8 X8 oP8 hr11 R11 K11 hat hw11 hb11 ho11 X11
      go_simp
      refine hK.out _ _ (by exact HP8.out) (fun hHeld => ?_)
      clear hK K
      try simp only [Act.put, List.setIfInBounds_toArray, List.set_cons_zero, List.set_cons_succ, List.getElem_toArray, List.getElem_cons_succ, List.getElem_cons_zero]
      refine wpAnyH_take (i := 9) (v := ?_) rfl (by kernel_rfl) (by kernel_rfl) (by kernel_rfl) (fun _ _ _ h => h) (Or.inl ⟨by rfl, ?_⟩) (by assumption) ?_
      rotate_left
      · intro w' hSw
        go_simp <;> with_reducible rfl
      try simp only [Act.put, List.setIfInBounds_toArray, List.set_cons_zero, List.set_cons_succ, List.getElem_toArray, List.getElem_cons_succ, List.getElem_cons_zero]
      refine wpAnyH_ready (rs := [10]) (by kernel_rfl) (by simp) ?_
      refine AllReadyH.cons rfl (fun K hK => ?_) AllReadyH.nil
      go_simp
      refine hK.out _ _ (by exact HP8.out.alloc _) (fun hHeld => ?_)
      clear hK K
      try simp only [Act.put, List.setIfInBounds_toArray, List.set_cons_zero, List.set_cons_succ, List.getElem_toArray, List.getElem_cons_succ, List.getElem_cons_zero]
      refine wpAnyH_ready (rs := [11]) (by kernel_rfl) (by simp) ?_
      refine AllReadyH.cons rfl (fun K hK => ?_) AllReadyH.nil
      refine step_append_eqK rfl _ _ _ _ rfl rfl rfl HR11.out ?_
      refine hK.out _ _ (by exact HP11.out) (fun hHeld => ?_)
      clear hK K
      try simp only [Act.put, List.setIfInBounds_toArray, List.set_cons_zero, List.set_cons_succ, List.getElem_toArray, List.getElem_cons_succ, List.getElem_cons_zero]
      refine wpAnyH_take (i := 12) (v := ?_) rfl (by kernel_rfl) (by kernel_rfl) (by kernel_rfl) (fun _ _ _ h => h) (Or.inl ⟨by rfl, ?_⟩) (by assumption) ?_
      rotate_left
      · intro w' hSw
        go_simp <;> with_reducible rfl
      try simp only [Act.put, List.setIfInBounds_toArray, List.set_cons_zero, List.set_cons_succ, List.getElem_toArray, List.getElem_cons_succ, List.getElem_cons_zero]
      refine wpAnyH_done (by kernel_rfl) ?_ _
      clear hHeld
      go_wp2_with fail
      go_roundw
      case rel => exact NXT.out
      case measure => simp [intOf]; omega
    · have hji : ¬ (j : Int) < (ls.length : Int) := by omega
      have etk : ls.take j = ls := List.take_of_length_le (by omega)
      rw [etk] at hJ
      have START2 : Hid (CdJ N B r X ls qs td (.slice va td.length vc) o1 w1 (.slice none 0 0) (.int .i64 0) wr) := ⟨0, [], kj, mj, oj, Nat.zero_le _, rfl, rfl, by rw [List.take_zero, List.append_nil, List.append_nil]; exact hJ, hK, hXx, hR, Rwo.nil _ _ _ _ _ _, by simp [Value.ownBlock]⟩
      have htl1 : td.length ≤ 100 := by omega
      have HTL : Hid (td.length = ls.length) := by unfold Hid; omega
      have HOW := hide how
      clear hJ hK hXx hR how htl etk
      go_wp2_with fail
      go_loopw [10, 37] (fun v i wr => CdJ N B r X ls qs td (.slice va td.length vc) o1 w1 v i wr) (fun v i wr => qs.length - (intOf i).toNat)
      case atStart => exact START2.out
      case round =>
        obtain ⟨j2, ns, k2, m2, o2, hj2, rfl, hnl, hJ2, hK2, hX2, hT2, hR2, how2⟩ := hrel
        obtain ⟨na, nc, rfl⟩ := hR2.shape
        by_cases hjl2 : j2 < qs.length
        · have hji2 : (j2 : Int) < (qs.length : Int) := by omega
          obtain ⟨ab_, ao, aj, cj, hae, d0, d1, htv⟩ := (HQ1.out.exo HXO.out hX2).get (Below.refl _ _) (fun _ _ h => h) j2 hjl2
          obtain ⟨aj2, cj2, etv, hsj⟩ := htv
          obtain ⟨rfl, rfl⟩ : aj = aj2 ∧ cj = cj2 := by simp at etv; exact etv
          clear etv
          subst hae
          obtain ⟨Ka, Ea⟩ := hK2.upn ((Below.refl _ _).alloc (Nat.le_refl _) (.cells #[.string qs[j2].name, .slice aj qs[j2].args.length cj] 25))
          have Pa := Blk.new wr #[.string qs[j2].name, .slice aj qs[j2].args.length cj] 25
          have Sa := hsj.exo (exo_X HXO.out hX2) Ea
          have Xa := hX2.trans Ea
          have Ra := hR2.exo Ea
          have Ta := hT2.exo Ea
          have hlen := hJ2.len
          have hsum := hJ2.sum
          have hk0 : kE.ts.length = 0 ∧ sumN kE.ab = 0 := ⟨rfl, rfl⟩
          have hsz : sizeL (prT ls ++ qs.take j2) + sizeL [qs[j2]] ≤ 900 := by
            have h1 := size_takeK qs (j2 + 1)
            rw [List.take_succ_eq_append_getElem hjl2, sizeL_append] at h1
            have h2 := HZ.out
            rw [sizeL_append] at h2 ⊢
            omega
          have hel := err_memK HE.out (List.mem_append_right _ (List.getElem_mem hjl2))
          have IHc := hide (number_any (BT := BT) qs[j2] aj cj Ka hJ2.ok (T1.out.exo Xa) hel (by omega) (by omega) (by omega) Sa)
          have HXa := hide Xa
          have HRa := hide Ra
          have HTa := hide Ta
          have HJ := hide hJ2
          have HOW2 := hide how2
          have HNL := hide hnl
          have q0 := Pa.cell 0
          have q1 := Pa.cell 1
          have hns : (iL ns).length ≤ 900 := by rw [iL_len]; omega
          clear hJ2 hK2 hX2 hR2 hT2 how2 hsj Sa Xa Ra Ta Ka Ea hlen hsum hk0 hsz hel hnl
          go_upto_region 12 with fail
          clear d0 d1
          generalize (wr.alloc (.cells #[.string qs[j2].name, .slice aj qs[j2].args.length cj] 25)) = wa at *
          generalize upN o2 wr.heap.size = oa at *
          generalize wr.heap.size = Q at *
          go_wp2_with fail
          refine IHc.out.mono ?_
          rintro e w2 ⟨k3, m3, o3, i3, rfl, hNR, K3, E3⟩
          have X3 := HXa.out.trans E3
          have R3 := HRa.out.exo E3
          have T3 := HTa.out.exo E3
          obtain ⟨g, cap, w5, o5, hr5, R5, K5, hat5, hw5, hb5, ho5⟩ := app_loc K3 Tryz.underlying45 Tryz.infoInt rfl (by decide) R3 (fun b hb hx => by have h1 := (HOW2.out b hb).1; have h2 := (HXO.out b hx).1; omega) (by omega) (iV i3) rfl
          have X5 : Exo o1 w1 o5 w5 := exo_push (lv := .slice na (iL ns).length nc) X3 (I := fun _ => True) ⟨hw5.1, hw5.2.1, hw5.2.2.1, hw5.2.2.2, fun _ _ h => absurd trivial h⟩ (fun b hb he hne => ⟨hb5 b hb hne, (ho5 b hb).trans he⟩) (fun b hb => (HOW2.out b hb).1)
          have T5 : Rwo w5 N o5 eX 81 2 (.slice va td.length vc) td.length (pL td) := ⟨ownsRow_at T3.1 fun gb hgb => hb5 gb (T3.1.lt gb hgb).2 fun e => (HOW2.out gb e).2 hgb, fun b hb => (ho5 b (T3.1.lt b hb).2).trans (T3.2 b hb)⟩
          have e9 : iL ns ++ [iV i3] = iL (ns ++ [i3]) := by simp [iL]
          rw [e9] at R5
          have HR5 := hide hr5
          have NXT : Hid (CdJ N B r X ls qs td (.slice va td.length vc) o1 w1 (.slice (some ⟨g, 0, none⟩) ((iL ns).length + 1) cap) (.int .i64 ((j2 + 1 : Nat) : Int)) w5) := by
            refine ⟨j2 + 1, ns ++ [i3], k3, m3, o5, hjl2, rfl, by simp [HNL.out], ?_, K5, X5, T5, R5, fun b hb => ?_⟩
            · rw [List.take_succ_eq_append_getElem hjl2, ← List.append_assoc, ← List.append_assoc]
              exact HJ.out.next hNR
            · have e : g = b := by simpa [Value.ownBlock] using hb
              subst e
              rcases hat5 with e | e
              · exact HOW2.out g e
              · refine ⟨by have := X3.2.2.2.1; omega, fun e2 => ?_⟩
                have := (T3.1.lt g e2).2
                omega
          clear hr5 R5 K5 hat5 hw5 hb5 ho5 X5 T5 T3 e9 X3 R3 hNR K3 E3 IHc
          go_wp2_with (at_builtin; refine wpList_append_eq rfl _ _ _ _ rfl rfl rfl HR5.out ?_)
          go_roundw
          case rel => exact NXT.out
          case measure => simp [intOf]; omega
        · have hji2 : ¬ (j2 : Int) < (qs.length : Int) := by omega
          have etk2 : qs.take j2 = qs := List.take_of_length_le (by omega)
          rw [etk2] at hJ2
          have hk0 : kE.ts.length = 0 ∧ sumN kE.ab = 0 := ⟨rfl, rfl⟩
          have hlen := hJ2.len
          have hsum := hJ2.sum
          have hz9 := HZ.out
          have hsplit : (flN td).map k2.T = prT ls ∧ ns.map k2.T = qs := by
            have h1 := hJ2.eq
            rw [List.map_append] at h1
            exact List.append_inj h1 (by rw [List.length_map, flN_len, prT_len, HTL.out])
          obtain ⟨hp1, hp2⟩ := td_pairs td ls hsplit.1
          have nX : ∀ b, (Value.slice va td.length vc).ownBlock = some b → ¬ X b := fun b hb hx => by have h1 := HOW.out b hb; have h2 := (HXO.out b hx).1; omega
          have K' : KlAt N B r X wr (upV o2 (.slice va td.length vc) (11, 0)) k2 m2 := hK2.mv (Nat.le_refl _) fun b hb hor => ⟨rfl, upV_no fun e => by
            rcases hor with hne | hx
            · exact hne (hT2.2 b e)
            · exact nX b e hx⟩
          have T2 := T1.out.exo hX2
          have T' : TbO BT (upV o2 (.slice va td.length vc) (11, 0)) wr := ⟨T2.1, T2.2.1, fun b hb => by
            rw [upV_no]
            · exact T2.2.2 b hb
            · intro e
              have h1 := HOW.out b e
              have h2 := T1.out.2.1
              omega⟩
          have J0 : JnI ls (fun x => x ∈ k2.ts) 900 k2 td (fun _ => False) := jn_start hJ2.ok (by omega) (fun t ht => ht) (fun p hp => by
            obtain ⟨h1, h2⟩ := flN_mem hp
            obtain ⟨q, hq, e1, e2⟩ := hp1 p hp
            refine ⟨hJ2.lt _ (List.mem_append_left _ h1), hJ2.lt _ (List.mem_append_left _ h2), ?_⟩
            rw [e1, e2]
            exact .eq hq) hp2
          have RN : Rwo wr N (upV o2 (.slice va td.length vc) (11, 0)) eX 3 1 (.slice na (iL ns).length nc) (iL ns).length (iL ns) := ⟨hR2.1, fun b hb => by
            rw [upV_no]
            · exact hR2.2 b hb
            · exact (how2 b hb).2⟩
          have hargs : ∀ n, n < k2.ts.length → (k2.B n).length ≤ 1000 := fun n hn => by
            have h1 := (hJ2.ok.arg n hn).1
            have h2 : (k2.T n).args.length = (k2.B n).length := by rw [h1]; simp
            have h3 : k2.T n ∈ preL (prT ls ++ qs) := (hJ2.old _ (kT_mem hn)).resolve_left (by simp [kE])
            have h4 := pre_args _ h3
            omega
          have HJN := hide (join_any K' T' J0 hT2.give ⟨by omega, by omega, by omega⟩ hargs)
          have HRN := hide RN
          have HX2 := hide hX2
          have HJ2 := hide hJ2
          have HSP := hide hsplit
          have hXE : Hid (∀ b, b < w1.heap.size → o1 b = eX → upV o2 (.slice va td.length vc) (11, 0) b = eX ∧ b < wr.heap.size ∧ wr.heap[b]? = w1.heap[b]?) := fun b hb he => by
            obtain ⟨e1, e2⟩ := hX2.2.2.2.2 b hb he
            refine ⟨?_, Nat.lt_of_lt_of_le hb hX2.2.2.2.1, e1⟩
            rw [upV_no]
            · exact e2
            · intro e
              have := HOW.out b e
              omega
          clear hJ2 hK2 hX2 hT2 hR2 how2 K' T' T2 J0 RN hargs hsplit hp1 hp2 nX hk0 hlen hsum hz9 hnl
          go_wp2_with fail
          refine HJN.out.mono ?_
          rintro e w9 ⟨rfl, k9, m9, o9, K9, J9, hts, X9⟩
          have hT9 : k9.T = k2.T := by unfold Kl.T; rw [hts]
          rw [← hts] at J9
          have hall : ∀ x, x ∈ k9.ts ↔ x ∈ preL (prT ls ++ qs) := fun x => by
            rw [hts]
            exact ⟨fun h => (HJ2.out.old x h).resolve_left (by simp [kE]), HJ2.out.all x⟩
          have hnum : Num ls k9.ts k9.cl := by
            refine ⟨J9.nd, J9.lc, fun t ht x hx => ?_, fun p hp => ?_⟩
            · obtain ⟨i, hi, rfl⟩ := gd_of_mem noK ht
              have h1 := J9.arg i hi
              have hx2 : x ∈ (k9.T i).args := hx
              rw [h1.1] at hx2
              obtain ⟨y, hy, rfl⟩ := List.mem_map.1 hx2
              exact kT_mem (h1.2 y hy)
            · have h1 := prT_mem hp
              exact ⟨(hall _).2 (pre_self (List.mem_append_left _ h1.1)), (hall _).2 (pre_self (List.mem_append_left _ h1.2))⟩
          have HFIN : Hid (CdP X ls qs w (.returned (.tuple #[.pointer (some ⟨B, 0, none⟩), .slice na (iL ns).length nc])) w9) := by
            refine ⟨N, B, r, k9, m9, o9, _, ns, rfl, by have := HSZ.out; omega, K9, HRN.out.exo X9, by rw [hT9]; exact HSP.out.2, fun n hn => by rw [hts]; exact HJ2.out.lt n (List.mem_append_right _ hn), hnum, jn_done J9, hall, fun x hx => by rw [hts] at hx; exact HJ2.out.ok.may x hx, J9, by rw [hts]; have h1 := HJ2.out.len; have h2 := HZ.out; have h3 : kE.ts.length = 0 := rfl; omega, ?_⟩
            have hw2 := W2.out
            refine ⟨X9.1.trans (HX2.out.1.trans hw2.os), X9.2.1.trans (HX2.out.2.1.trans hw2.tape), X9.2.2.1.trans (HX2.out.2.2.1.trans hw2.output), Nat.le_trans hw2.size (Nat.le_trans HX2.out.2.2.2.1 X9.2.2.2.1), fun b hb => ?_⟩
            have hb1 : b < w1.heap.size := Nat.lt_of_lt_of_le hb hw2.size
            obtain ⟨q1, q2, q3⟩ := hXE.out b hb1 (HOO.out b hb)
            exact ((X9.2.2.2.2 b q2 q1).1.trans q3).trans (hw2.block b hb)
          clear K9 J9 hts X9 hT9 hall hnum HJN HRN HX2 HJ2 HSP hXE
          go_wp2_with fail
          go_ret2
          exact HFIN.out
end Go.Proofs.YtdmaijmglblccaaGreatDoor

/- Walks: does some variable stand in a term (knots.IsOpen). -/
namespace Go.Proofs.YtdmaijmglblccaaGreatDoor
open Go.RowKit
set_option linter.unusedSimpArgs false
set_option linter.unusedVariables false
set_option maxRecDepth 8000

/-- A variable stands in it. -/
def opnB (t : Tm) : Bool := (preL [t]).any fun k => varB k.name
theorem opnB_eq (t : Tm) : opnB t = (varB t.name || t.args.any opnB) := by
  have key : ∀ l : List Tm, ((preL l).any fun k => varB k.name) = l.any opnB := by
    intro l
    induction l with
    | nil => simp [preL]
    | cons x r ih =>
      have h := preL_append [x] r
      simp only [List.singleton_append] at h
      rw [h, List.any_append, ih, List.any_cons]
      rfl
  obtain ⟨s, l⟩ := t
  unfold opnB
  rw [preL, List.any_cons, List.any_append, key l]
  rw [show preL ([] : List Tm) = [] by simp [preL]]
  simp only [List.any_nil, Bool.or_false]
  rfl
theorem varsP_pos : ∀ (ks : List Tm) (acc : List ByteArray), (0 < (varsP acc ks).length) ↔ (0 < acc.length ∨ (ks.any fun k => varB k.name) = true)
  | [], acc => by simp [varsP]
  | k :: r, acc => by
    have h : varsP acc (k :: r) = varsP (addV acc k.name) r := rfl
    rw [h, varsP_pos r, List.any_cons, Bool.or_eq_true]
    have h2 : 0 < (addV acc k.name).length ↔ (0 < acc.length ∨ varB k.name = true) := by
      cases hv : varB k.name with
      | false => rw [addV_no hv]; simp
      | true =>
        cases hi : inB k.name acc with
        | false => rw [addV_yes hv hi]; simp
        | true =>
          rw [addV_in hv hi]
          have : 0 < acc.length := by
            cases acc with
            | nil => simp [inB] at hi
            | cons a b => simp
          simp [this]
    rw [h2]
    constructor
    · rintro ((h | h) | h)
      · exact Or.inl h
      · exact Or.inr (Or.inl h)
      · exact Or.inr (Or.inr h)
    · rintro (h | h | h)
      · exact Or.inl (Or.inl h)
      · exact Or.inl (Or.inr h)
      · exact Or.inr h
theorem opn_vars (t : Tm) : (0 < (varsP [] (preL [t])).length) ↔ opnB t = true := by
  rw [varsP_pos]; simp [opnB]
theorem any_takeT {l : List Tm} {f : Tm → Bool} {k : Nat} (h : k < l.length) (hk : (l.take k).any f = false) (h1 : f l[k] = false) : (l.take (k + 1)).any f = false := by
  rw [List.take_succ_eq_append_getElem h, List.any_append, hk]; simp [h1]
theorem any_atT {l : List Tm} {f : Tm → Bool} {k : Nat} (h : k < l.length) (h1 : f l[k] = true) : l.any f = true := List.any_eq_true.2 ⟨_, List.getElem_mem h, h1⟩

set_option maxHeartbeats 1000000 in
theorem indexOpen_of (l : List Tm) (HC : ∀ x ∈ l, ∀ (v : Value) (w : World) (X : Nat → Prop), TV w X v x → Calls Tryz.prog 34 #[v] w fun e w' => e = .returned (.bool (opnB x)) ∧ Below w.heap.size w w') (a : Option Addr) (c : Nat) (w : World) (X : Nat → Prop) (hs : Sl w X a l) :
    Calls Tryz.prog 72 #[.slice a l.length c, .func (.func 34) #[] #[]] w fun e w' => ∃ z : Int, e = .returned (.int .i64 z) ∧ decide (0 ≤ z) = l.any opnB ∧ Below w.heap.size w w' := by
  have H := hide HC
  have HS := hide (hs.mono (Y := fun b => X b ∧ b < w.heap.size) fun b h1 h2 => ⟨h1, h2⟩)
  have hl := hs.1
  clear HC hs
  go_enter Tryz.func72, Tryz.ntmps72
  go_wp2_with fail
  go_loopw [8] (fun i wr => ∃ k : Nat, k ≤ l.length ∧ i = .int .i64 (k : Int) ∧ (l.take k).any opnB = false ∧ Below w.heap.size w wr) (fun i wr => l.length - (intOf i).toNat)
  case atStart => exact ⟨0, Nat.zero_le _, rfl, by simp, Below.refl _ _⟩
  case round =>
    obtain ⟨k, hk, rfl, hno, hbr⟩ := hrel
    have HNO := hide hno
    have HBR := hide hbr
    clear hno hbr
    by_cases hlt : k < l.length
    · have hki : (k : Int) < (l.length : Int) := by omega
      obtain ⟨b, o, a1, c1, rfl, x0, x1, hx⟩ := HS.out.get HBR.out (fun b h _ => h.2) k hlt
      have HX := hide hx
      clear hx
      go_wp2_with fail
      refine (H.out l[k] (List.getElem_mem hlt) _ _ _ HX.out).mono ?_
      rintro e w2 ⟨rfl, hb2⟩
      have HB2 := hide (HBR.out.trans (hb2.mono HBR.out.size))
      clear hb2 x0 x1
      cases ho : opnB l[k] with
      | true =>
        have HA := hide (any_atT (f := opnB) hlt ho)
        clear ho
        go_wp2_with fail
        go_ret
        exact ⟨_, rfl, by rw [HA.out]; simp, HB2.out⟩
      | false =>
        have HA := hide (any_takeT (f := opnB) hlt HNO.out ho)
        clear ho
        go_wp2_with fail
        go_roundw
        case rel => exact ⟨k + 1, by omega, by go_num, HA.out, HB2.out⟩
        case measure => simp [intOf]; omega
    · have hki : ¬ (k : Int) < (l.length : Int) := by omega
      have HA : Hid (l.any opnB = false) := by have h := HNO.out; rw [List.take_of_length_le (by omega)] at h; exact h
      go_wp2_with fail
      go_ret
      exact ⟨-1, rfl, by rw [HA.out]; rfl, HBR.out⟩
theorem isOpen_any (t : Tm) : ∀ (v : Value) (w : World) (X : Nat → Prop), TV w X v t → Calls Tryz.prog 34 #[v] w fun e w' => e = .returned (.bool (opnB t)) ∧ Below w.heap.size w w' := by
  induction t using Tm.ind with
  | h s0 l0 ih =>
    intro v w X ht
    have IH := hide ih
    clear ih
    obtain ⟨t, hte⟩ : ∃ t : Tm, t = ⟨s0, l0⟩ := ⟨_, rfl⟩
    rw [← hte] at ht ⊢
    have HTE : Hid (t.args = l0) := by rw [hte]; rfl
    clear hte
    obtain ⟨aw, ct, rfl, hst⟩ := ht
    have B1 : Hid (Below w.heap.size w (w.alloc (.cells #[.string t.name, .slice aw t.args.length ct] 25))) := (Below.refl _ _).alloc (Nat.le_refl _) _
    have K1 : Hid (Blk (w.alloc (.cells #[.string t.name, .slice aw t.args.length ct] 25)) w.heap.size #[.string t.name, .slice aw t.args.length ct] 25) := Blk.new _ _ _
    have S1 := hide (hst.later B1.out)
    have hla := hst.1
    clear hst
    have HV := hide (isVariable_all t.name (w.alloc (.cells #[.string t.name, .slice aw t.args.length ct] 25)))
    have c0 := K1.out.cell 0
    have c1 := K1.out.cell 1
    cases hv : varB t.name with
    | true =>
      have HO : Hid (opnB t = true) := by unfold Hid; rw [opnB_eq, hv]; rfl
      have HVV := hide hv
      clear hv
      go_enter Tryz.func34, Tryz.ntmps34
      go_wp2_with fail
      refine HV.out.mono ?_
      rintro e w2 ⟨rfl, rfl⟩
      rw [HVV.out]
      go_wp2_with fail
      go_ret
      exact ⟨by rw [HO.out]; rfl, B1.out⟩
    | false =>
      have HO : Hid (opnB t = t.args.any opnB) := by unfold Hid; rw [opnB_eq, hv]; rfl
      have HVV := hide hv
      clear hv
      go_enter Tryz.func34, Tryz.ntmps34
      go_wp2_with fail
      refine HV.out.mono ?_
      rintro e w2 ⟨rfl, rfl⟩
      rw [HVV.out]
      go_wp2_with fail
      generalize (w.alloc (.cells #[.string t.name, .slice aw t.args.length ct] 25)) = w1 at *
      clear c0 c1
      have CF : Calls Tryz.prog 53 #[.slice aw t.args.length ct, .func (.func 34) #[] #[]] w1 fun e w' => e = .returned (.bool (t.args.any opnB)) ∧ Below w1.heap.size w1 w' := by
        go_enter Tryz.func53, Tryz.ntmps53
        go_wp2_with fail
        refine (indexOpen_of t.args (fun x hx v w X h => IH.out x (by rw [← HTE.out]; exact hx) v w X h) aw ct _ _ S1.out).mono ?_
        rintro e w' ⟨z, rfl, hz, hb⟩
        have HZ := hide hz
        have HB := hide hb
        clear hz hb
        go_wp2_with fail
        go_ret
        exact ⟨by rw [← HZ.out]; rfl, HB.out⟩
      refine CF.mono ?_
      rintro e w3 ⟨rfl, hb3⟩
      have B3 := hide (B1.out.trans (hb3.mono B1.out.size))
      clear hb3
      go_wp2_with fail
      go_ret
      exact ⟨by rw [HO.out]; rfl, B3.out⟩
end Go.Proofs.YtdmaijmglblccaaGreatDoor


/- Walks: what stands at a place, as the document says. -/
namespace Go.Proofs.YtdmaijmglblccaaGreatDoor
open Go.RowKit
set_option linter.unusedSimpArgs false
set_option linter.unusedVariables false

theorem TV.back {w w' : World} {X : Nat → Prop} {v : Value} {t : Tm} {B : Nat} (h : TV w' X v t) (hb : Below B w w') (hX : ∀ b, X b → b < B) : TV w X v t := by
  obtain ⟨a, c, e, h⟩ := h
  exact ⟨a, c, e, h.back hb hX⟩

end Go.Proofs.YtdmaijmglblccaaGreatDoor


/- Walks: a copy of a term. -/
namespace Go.Proofs.YtdmaijmglblccaaGreatDoor
open Go.RowKit
set_option linter.unusedSimpArgs false
set_option linter.unusedVariables false

end Go.Proofs.YtdmaijmglblccaaGreatDoor

/- Walks: two terms that are the same. -/
namespace Go.Proofs.YtdmaijmglblccaaGreatDoor
open Go.RowKit
set_option linter.unusedSimpArgs false
set_option linter.unusedVariables false

theorem same_cells {w w1 : World} {n : Nat} {p1 p2 p3 p4 p5 p6 : Addr} {v1 v2 v3 v4 v5 v6 : Value} (hb : Below (w.drewN n).heap.size (w.drewN n) w1)
    (h : w.cell? p1 = some v1 ∧ w.cell? p2 = some v2 ∧ w.cell? p3 = some v3 ∧ w.cell? p4 = some v4 ∧ w.cell? p5 = some v5 ∧ w.cell? p6 = some v6) :
    w1.cell? p1 = some v1 ∧ w1.cell? p2 = some v2 ∧ w1.cell? p3 = some v3 ∧ w1.cell? p4 = some v4 ∧ w1.cell? p5 = some v5 ∧ w1.cell? p6 = some v6 := by
  have hb' : Below w.heap.size w w1 := (below_drewN (Below.refl _ _) n).trans (hb.mono (by simp))
  exact ⟨cell_later hb' h.1, cell_later hb' h.2.1, cell_later hb' h.2.2.1, cell_later hb' h.2.2.2.1, cell_later hb' h.2.2.2.2.1, cell_later hb' h.2.2.2.2.2⟩

end Go.Proofs.YtdmaijmglblccaaGreatDoor

/- Walks: pairs of which nothing is said; whether pairs may be. -/
namespace Go.Proofs.YtdmaijmglblccaaGreatDoor
open Go.RowKit
set_option linter.unusedSimpArgs false
set_option linter.unusedVariables false
set_option maxRecDepth 8000

def hugeQ1 (p : Pr) : Bool := decide (3000 < sizeL [p.l]) || decide (3000 < sizeL [p.r])
def hugeQL (l : List Pr) : Bool := l.any hugeQ1
def hugeQ (ls : List Pr) : Bool := hugeQL ls || decide (100 < ls.length)
theorem hugeQL_take {l : List Pr} {k : Nat} (h : k < l.length) : hugeQL (l.take (k + 1)) = (hugeQL (l.take k) || hugeQ1 l[k]) := by
  unfold hugeQL; rw [List.take_succ_eq_append_getElem h, List.any_append]; simp
theorem hugeQL_yes {l : List Pr} {k : Nat} (h : k < l.length) (h0 : hugeQ1 l[k] = true) : hugeQ l = true := by
  have e : hugeQL l = true := by
    unfold hugeQL
    rw [List.any_eq_true]
    exact ⟨l[k], List.getElem_mem h, h0⟩
  unfold hugeQ
  rw [e]; rfl
def HqInv (ls : List Pr) (w : World) (v : Value) (wr : World) : Prop := ∃ k : Nat, v = .int .i64 (k : Int) ∧ k ≤ ls.length ∧ hugeQL (ls.take k) = false ∧ Below w.heap.size w wr

set_option maxHeartbeats 1000000 in
theorem hugePairs_any (ls : List Pr) (u : Value) (w : World) (X : Nat → Prop) (hu : QV w X u ls) :
    Calls Tryz.prog 6 #[u] w fun e w' => e = .returned (.bool (hugeQ ls)) ∧ Below w.heap.size w w' := by
  have HU := hide (hu.mono (Y := fun b => X b ∧ b < w.heap.size) fun b h1 h2 => ⟨h1, h2⟩)
  obtain ⟨a, c, rfl, hl, hu2⟩ := hu
  clear hu2
  go_enter Tryz.func6, Tryz.ntmps6
  go_wp2_with fail
  go_loopw [3] (fun v wr => HqInv ls w v wr) (fun v wr => ls.length - (intOf v).toNat)
  case atStart => exact ⟨0, rfl, Nat.zero_le _, rfl, Below.refl _ _⟩
  case round =>
    obtain ⟨k, rfl, hk, hT, hb⟩ := hrel
    have HB := hide hb
    have HT := hide hT
    clear hT
    by_cases hlt : k < ls.length
    · obtain ⟨b, o, a1, c1, a2, c2, rfl, d0, d1, d2, d3, hs1, hs2⟩ := (HU.out.later hb).get k hlt
      have hlt2 : (k : Int) < (ls.length : Int) := by omega
      have HX1 := hide hs1
      have HX2 := hide hs2
      have HY := hide (hugeQL_yes hlt)
      have HN := hide (hugeQL_take hlt)
      clear hs1 hs2 hb
      generalize ls[k] = d at *
      go_wp2_with fail
      refine (huge_any d.l _ _ _ ⟨a1, c1, rfl, HX1.out⟩).mono ?_
      rintro e w1 ⟨rfl, hb1⟩
      have HB1 := hide (HB.out.trans (hb1.mono HB.out.size))
      have HX3 := hide (HX2.out.later hb1)
      have d2' := cell_later hb1 d2
      have d3' := cell_later hb1 d3
      clear hb1
      cases hq : decide (3000 < sizeL [d.l]) with
      | true =>
        have HF := hide (HY.out (by unfold hugeQ1; rw [hq]; rfl))
        clear hq
        go_wp2_with fail
        go_ret
        exact ⟨ret_bool HF.out.symm, HB1.out⟩
      | false =>
        have HQ := hide hq
        clear hq
        go_wp2_with fail
        refine (huge_any d.r _ _ _ ⟨a2, c2, rfl, HX3.out⟩).mono ?_
        rintro e w2 ⟨rfl, hb2⟩
        have HB2 := hide (HB1.out.trans (hb2.mono HB1.out.size))
        clear hb2
        cases hq : decide (3000 < sizeL [d.r]) with
        | true =>
          have HF := hide (HY.out (by unfold hugeQ1; rw [hq]; simp))
          clear hq
          go_wp2_with fail
          go_ret
          exact ⟨ret_bool HF.out.symm, HB2.out⟩
        | false =>
          have HF : Hid (hugeQL (ls.take (k + 1)) = false) := by unfold Hid; rw [HN.out, HT.out]; unfold hugeQ1; rw [HQ.out, hq]; rfl
          clear hq
          go_wp2_with fail
          go_roundw
          case rel => exact ⟨k + 1, by go_num, by omega, HF.out, HB2.out⟩
          case measure => simp [intOf]; omega
    · have HF : Hid (decide (100 < ls.length) = hugeQ ls) := by
        have h := HT.out
        rw [List.take_of_length_le (by omega)] at h
        unfold Hid hugeQ
        rw [h]; rfl
      go_wp2_with fail
      go_ret
      exact ⟨ret_bool (by rw [← HF.out, Bool.eq_iff_iff]; simp; omega), HB.out⟩

def PmInv (ls : List Pr) (w : World) (v : Value) (wr : World) : Prop := ∃ k : Nat, v = .int .i64 (k : Int) ∧ k ≤ ls.length ∧ pmT ls k = 0 ∧ Below w.heap.size w wr

set_option maxHeartbeats 1000000 in
theorem pairsMay_any (ls : List Pr) (u : Value) (w : World) (X : Nat → Prop) (hu : QV w X u ls) :
    Calls Tryz.prog 24 #[u] w fun e w' => e = .returned (.int .i64 (pairsE ls)) ∧ Below w.heap.size w w' := by
  have HU := hide (hu.mono (Y := fun b => X b ∧ b < w.heap.size) fun b h1 h2 => ⟨h1, h2⟩)
  obtain ⟨a, c, rfl, hl, hu2⟩ := hu
  clear hu2
  go_enter Tryz.func24, Tryz.ntmps24
  by_cases h40 : 40 < ls.length
  · go_wp2_with fail
    go_ret
    exact ⟨ret_int (by unfold pairsE; rw [if_pos h40]), Below.refl _ _⟩
  · go_wp2_with fail
    go_loopw [3] (fun v wr => PmInv ls w v wr) (fun v wr => ls.length - (intOf v).toNat)
    case atStart => exact ⟨0, rfl, Nat.zero_le _, rfl, Below.refl _ _⟩
    case round =>
      obtain ⟨k, rfl, hk, hT, hb⟩ := hrel
      have HB := hide hb
      have HT := hide hT
      clear hT
      by_cases hlt : k < ls.length
      · obtain ⟨b, o, a1, c1, a2, c2, rfl, d0, d1, d2, d3, hs1, hs2⟩ := (HU.out.later hb).get k hlt
        have hlt2 : (k : Int) < (ls.length : Int) := by omega
        have HX1 := hide hs1
        have HX2 := hide hs2
        have HY := hide (pmT_err hlt h40 HT.out)
        have HN := hide (pmT_next hlt HT.out)
        clear hs1 hs2 hb
        generalize ls[k] = d at *
        go_wp2_with fail
        have HS0 := hide (And.intro d0 (And.intro d1 (And.intro d2 d3)))
        have TM : Hid (∀ w', Below wr.heap.size wr w' → Calls Tryz.prog 41 #[.agg #[.string d.l.name, .slice a1 d.l.args.length c1], .agg #[.string d.r.name, .slice a2 d.r.args.length c2]] w' fun e w'' => e = .returned (.int .i64 (twoE d.l d.r)) ∧ Below w.heap.size w w'' ∧ (w''.cell? ⟨b, o + k * 4, none⟩ = some (.string d.l.name) ∧ w''.cell? ⟨b, o + k * 4 + 1, none⟩ = some (.slice a1 d.l.args.length c1) ∧ w''.cell? ⟨b, o + k * 4 + 2, none⟩ = some (.string d.r.name) ∧ w''.cell? ⟨b, o + k * 4 + 3, none⟩ = some (.slice a2 d.r.args.length c2))) := fun w' hb => by
          refine (twoMay_any d.l d.r _ _ w' _ ⟨_, _, rfl, HX1.out.later hb⟩ ⟨_, _, rfl, HX2.out.later hb⟩).mono ?_
          rintro e w'' ⟨rfl, hb2⟩
          have hb3 := hb.trans (hb2.mono hb.size)
          exact ⟨rfl, HB.out.trans (hb3.mono HB.out.size), cell_later hb3 d0, cell_later hb3 d1, cell_later hb3 d2, cell_later hb3 d3⟩
        go_region_held3 (fun w' => w'.cell? ⟨b, o + k * 4, none⟩ = some (.string d.l.name) ∧ w'.cell? ⟨b, o + k * 4 + 1, none⟩ = some (.slice a1 d.l.args.length c1) ∧ w'.cell? ⟨b, o + k * 4 + 2, none⟩ = some (.string d.r.name) ∧ w'.cell? ⟨b, o + k * 4 + 3, none⟩ = some (.slice a2 d.r.args.length c2)) (first | exact hS | exact HS0.out | go_keep)
          (first
            | (go_at_call 41; refine (TM.out _ (by first | exact Below.refl _ _ | exact (Below.refl _ _).drew)).mono ?_; rintro e w5 ⟨rfl, hb5, hS⟩))
        have HB5 := hide hb5
        clear hb5 hS TM HX1 HX2 HS0 d0 d1 d2 d3
        by_cases hm : twoE d.l d.r = 0
        · rw [hm] at HN
          rw [hm]
          clear hm
          go_wp2_with fail
          go_roundw
          case rel => exact ⟨k + 1, by go_num, by omega, HN.out, HB5.out⟩
          case measure => simp [intOf]; omega
        · have hm2 : (twoE d.l d.r == 0) = false := by simpa using hm
          have HM := hide hm
          clear hm
          go_wp2_with fail
          go_ret
          exact ⟨ret_int (HY.out HM.out).symm, HB5.out⟩
      · have hkl : k = ls.length := by omega
        go_wp2_with fail
        go_ret
        exact ⟨ret_int (by unfold pairsE; rw [if_neg h40, ← hkl]; exact HT.out.symm), HB.out⟩

theorem twoE_fst {a b : Tm} (h : mayE a ≠ 0) : twoE a b = mayE a := by unfold twoE; rw [if_neg h]
theorem twoE_snd {a b : Tm} (h : mayE a = 0) : twoE a b = mayE b := by unfold twoE; rw [if_pos h]
set_option maxHeartbeats 1000000 in
theorem ucheck_any (ls : List Pr) (u : Value) (w : World) (X : Nat → Prop) (hu : QV w X u ls) :
    Calls Tryz.prog 33 #[u] w fun e w' => e = .returned (.int .i64 (pairsE ls)) ∧ Below w.heap.size w w' := by
  have HU := hide (hu.mono (Y := fun b => X b ∧ b < w.heap.size) fun b h1 h2 => ⟨h1, h2⟩)
  obtain ⟨a, c, rfl, hl, hu2⟩ := hu
  clear hu2
  go_enter Tryz.func33, Tryz.ntmps33
  by_cases h40 : 40 < ls.length
  · go_wp2_with fail
    go_ret
    exact ⟨ret_int (by unfold pairsE; rw [if_pos h40]), Below.refl _ _⟩
  · go_wp2_with fail
    go_loopw [12] (fun v wr => PmInv ls w v wr) (fun v wr => ls.length - (intOf v).toNat)
    case atStart => exact ⟨0, rfl, Nat.zero_le _, rfl, Below.refl _ _⟩
    case round =>
      obtain ⟨k, rfl, hk, hT, hb⟩ := hrel
      have HB := hide hb
      have HT := hide hT
      clear hT
      by_cases hlt : k < ls.length
      · obtain ⟨b, o, a1, c1, a2, c2, rfl, d0, d1, d2, d3, hs1, hs2⟩ := (HU.out.later hb).get k hlt
        have hlt2 : (k : Int) < (ls.length : Int) := by omega
        have hbA : Below wr.heap.size wr (wr.alloc (.cells #[.string ls[k].l.name, .slice a1 ls[k].l.args.length c1, .string ls[k].r.name, .slice a2 ls[k].r.args.length c2] 35)) := (Below.refl _ _).alloc (Nat.le_refl _) _
        have HX1 := hide (hs1.later hbA)
        have HX2 := hide (hs2.later hbA)
        have P1 := hide (Blk.new wr #[.string ls[k].l.name, .slice a1 ls[k].l.args.length c1, .string ls[k].r.name, .slice a2 ls[k].r.args.length c2] 35)
        have HB1 := hide (hb.trans (hbA.mono hb.size))
        have HY := hide (pmT_err hlt h40 HT.out)
        have HN := hide (pmT_next hlt HT.out)
        clear hs1 hs2 hb hbA
        generalize ls[k] = d at *
        go_wp2_with fail
        generalize wr.alloc (.cells #[.string d.l.name, .slice a1 d.l.args.length c1, .string d.r.name, .slice a2 d.r.args.length c2] 35) = w1 at *
        generalize wr.heap.size = P at *
        refine (check_any d.l _ _ _ ⟨a1, c1, rfl, HX1.out⟩).mono ?_
        rintro e w2 ⟨rfl, hb2⟩
        have HX3 := hide (HX2.out.later hb2)
        have HB2 := hide (HB1.out.trans (hb2.mono HB1.out.size))
        have p2 := cell_later hb2 (P1.out.cell 2)
        have p3 := cell_later hb2 (P1.out.cell 3)
        clear hb2
        by_cases hm : mayE d.l = 0
        · have HM := hide (twoE_snd (b := d.r) hm)
          rw [hm]
          clear hm
          go_wp2_with fail
          refine (check_any d.r _ _ _ ⟨a2, c2, rfl, HX3.out⟩).mono ?_
          rintro e w3 ⟨rfl, hb3⟩
          have HB3 := hide (HB2.out.trans (hb3.mono HB2.out.size))
          clear hb3
          by_cases hm : mayE d.r = 0
          · have HF : Hid (pmT ls (k + 1) = 0) := by unfold Hid; rw [HN.out, HM.out, hm]
            rw [hm]
            clear hm
            go_wp2_with fail
            go_roundw
            case rel => exact ⟨k + 1, by go_num, by omega, HF.out, HB3.out⟩
            case measure => simp [intOf]; omega
          · have hm2 : (mayE d.r == 0) = false := by simpa using hm
            have HF : Hid (pairsE ls = mayE d.r) := by unfold Hid; rw [HY.out (by rw [HM.out]; exact hm), HM.out]
            clear hm
            go_wp2_with fail
            go_ret
            exact ⟨ret_int HF.out.symm, HB3.out⟩
        · have hm2 : (mayE d.l == 0) = false := by simpa using hm
          have HF : Hid (pairsE ls = mayE d.l) := by unfold Hid; rw [HY.out (by rw [twoE_fst hm]; exact hm), twoE_fst hm]
          clear hm
          go_wp2_with fail
          go_ret
          exact ⟨ret_int HF.out.symm, HB2.out⟩
      · have hkl : k = ls.length := by omega
        go_wp2_with fail
        go_ret
        exact ⟨ret_int (by unfold pairsE; rw [if_neg h40, ← hkl]; exact HT.out.symm), HB.out⟩
end Go.Proofs.YtdmaijmglblccaaGreatDoor
