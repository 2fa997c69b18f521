/- Several texts in one. -/
import Derived.Test.YtkfppicbningaaaZTopRobinsonOwn
import Derived.Deep.RegionHeld3
/- Walks: terms out of raw numbers. -/
namespace Go.Proofs.Ytkfppicbningaaa
open Go.RowKit
set_option linter.unusedSimpArgs false
set_option linter.unusedVariables false
set_option maxRecDepth 8000

theorem leaf_any (s : ByteArray) (w : World) :
    Calls Try.prog 19 #[.string s] w fun e w' => e = .returned (.agg #[.string s, .slice none 0 0]) ∧ Below w.heap.size w w' := by
  go_enter Try.func19, Try.ntmps19
  go_wp2_with fail
  have hb := Blk.new w #[.string s, .slice none 0 0] 28
  have c0 := hb.cell 0
  have c1 := hb.cell 1
  refine bodyPost_ret (v := .agg #[.string s, .slice none 0 0]) (by simp [results, Try.results19, go_sem, c0, c1]) rfl ⟨rfl, (Below.refl _ _).alloc (Nat.le_refl _) _⟩

/-- How many knots at the most. -/
def top (m : Nat) : Nat := if m < 3 then 1 else 2 * m - 1

/-- No error, and no variables but the first ones. -/
def okV (nv : Nat) (l : List Tm) : Prop := errL l = 0 ∧ ∀ k ∈ preL l, varB k.name = true → k.name ∈ ([⟨#[88]⟩, ⟨#[89]⟩, ⟨#[90]⟩, ⟨#[85]⟩] : List ByteArray).take nv
def GrowPV (nv : Nat) (w : World) (i m : Nat) (e : Ending) (w' : World) : Prop :=
  ∃ (a : Option Addr) (c n : Nat) (t : Tm), e = .returned (.tuple #[.agg #[.string t.name, .slice a t.args.length c], .int .i64 (n : Int)]) ∧ Sl w' (fun b => w.heap.size ≤ b) a t.args ∧ t.args.length ≤ c ∧ c ≤ 9223372036854775807 ∧ sizeL [t] ≤ top m ∧ i ≤ n ∧ n ≤ i + top m ∧ Below w.heap.size w w' ∧ okV nv [t]

theorem top_pos (m : Nat) : 1 ≤ top m := by unfold top; split <;> omega

theorem top_step {m : Nat} (h : 3 ≤ m + 1) : top m + 1 ≤ top (m + 1) := by unfold top; split <;> split <;> omega

theorem top_half {m h : Nat} (hm : 3 ≤ m + 1) (hh : h = (m + 1) / 2) : 2 * top h + 1 ≤ top (m + 1) := by unfold top; split <;> split <;> omega

theorem err_leaf {s : ByteArray} (h : nameB s = true) : errL [(⟨s, []⟩ : Tm)] = 0 := by simp [errL, h]
theorem err_node {s : ByteArray} {l : List Tm} (h : nameB s = true) (hv : varB s = false) (hl : errL l = 0) : errL [(⟨s, l⟩ : Tm)] = 0 := by simp [errL, h, hv, hl]

theorem ok_node {nv : Nat} {s : ByteArray} {l : List Tm} (h : nameB s = true) (hv : varB s = false) (hl : okV nv l) : okV nv [(⟨s, l⟩ : Tm)] := by
  refine ⟨err_node h hv hl.1, fun k hk hvk => ?_⟩
  simp only [preL, List.append_nil, List.mem_cons] at hk
  rcases hk with rfl | hk
  · simp only at hvk
    rw [hv] at hvk; cases hvk
  · exact hl.2 k hk hvk
theorem preL_cons2 (t : Tm) (r : List Tm) : preL (t :: r) = preL [t] ++ preL r := by
  obtain ⟨s, l⟩ := t
  simp [preL]
theorem ok_two {nv : Nat} {a b : Tm} (ha : okV nv [a]) (hb : okV nv [b]) : okV nv [a, b] := by
  refine ⟨by rw [errL_cons, if_pos ha.1]; exact hb.1, fun k hk hv => ?_⟩
  rw [preL_cons2] at hk
  rcases List.mem_append.1 hk with hk | hk
  · exact ha.2 k hk hv
  · exact hb.2 k hk hv
theorem grow_leaf {nv : Nat} {w w' : World} {s : ByteArray} {i m : Nat} (hes : okV nv [(⟨s, []⟩ : Tm)]) (hb : Below w.heap.size w w') : GrowPV nv w i m (.returned (.tuple #[.agg #[.string s, .slice none 0 0], .int .i64 ((i : Int) + 1)])) w' := by
  have := top_pos m
  exact ⟨none, 0, i + 1, ⟨s, []⟩, by simp, ⟨by simp, Or.inl rfl⟩, by simp, by omega, by simp [sizeL]; omega, by omega, by omega, hb, hes⟩

theorem pick_var (w : World) (T k nv : Nat) (hk : k < nv) (hnv : nv ≤ 4) : ∃ s, okV nv [(⟨s, []⟩ : Tm)] ∧ (w.alloc (.cells #[.string ⟨#[88]⟩, .string ⟨#[89]⟩, .string ⟨#[90]⟩, .string ⟨#[85]⟩] T)).cell? ⟨w.heap.size, k, none⟩ = some (.string s) := by
  have h := heap_alloc_new w (.cells (([⟨#[88]⟩, ⟨#[89]⟩, ⟨#[90]⟩, ⟨#[85]⟩] : List ByteArray).map Value.string).toArray T)
  have hk4 : k < ([⟨#[88]⟩, ⟨#[89]⟩, ⟨#[90]⟩, ⟨#[85]⟩] : List ByteArray).length := by simp; omega
  refine ⟨([⟨#[88]⟩, ⟨#[89]⟩, ⟨#[90]⟩, ⟨#[85]⟩] : List ByteArray)[k], ⟨err_leaf ((show ∀ s ∈ ([⟨#[88]⟩, ⟨#[89]⟩, ⟨#[90]⟩, ⟨#[85]⟩] : List ByteArray), nameB s = true by decide) _ (List.getElem_mem hk4)), fun x hx _ => ?_⟩, ?_⟩
  · simp only [preL, List.append_nil, List.mem_cons, List.not_mem_nil, or_false] at hx
    rw [hx]
    rw [← List.getElem_take (h := by simp; omega) (j := nv)]
    exact List.getElem_mem _
  · have h2 := Lib.cell_of_heap h k
    refine h2.trans ?_
    rw [List.getElem?_toArray, List.getElem?_map, List.getElem?_eq_getElem hk4]
    rfl
theorem pick_const (w : World) (T k nv : Nat) (hk : k < 3) : ∃ s, okV nv [(⟨s, []⟩ : Tm)] ∧ (w.alloc (.cells #[.string ⟨#[97]⟩, .string ⟨#[98]⟩, .string ⟨#[99]⟩] T)).cell? ⟨w.heap.size, k, none⟩ = some (.string s) := by
  have h := heap_alloc_new w (.cells (([⟨#[97]⟩, ⟨#[98]⟩, ⟨#[99]⟩] : List ByteArray).map Value.string).toArray T)
  have hk4 : k < ([⟨#[97]⟩, ⟨#[98]⟩, ⟨#[99]⟩] : List ByteArray).length := by simpa using hk
  refine ⟨([⟨#[97]⟩, ⟨#[98]⟩, ⟨#[99]⟩] : List ByteArray)[k], ⟨err_leaf ((show ∀ s ∈ ([⟨#[97]⟩, ⟨#[98]⟩, ⟨#[99]⟩] : List ByteArray), nameB s = true by decide) _ (List.getElem_mem hk4)), fun x hx hv => ?_⟩, ?_⟩
  · simp only [preL, List.append_nil, List.mem_cons, List.not_mem_nil, or_false] at hx
    rw [hx] at hv
    have := (show ∀ s ∈ ([⟨#[97]⟩, ⟨#[98]⟩, ⟨#[99]⟩] : List ByteArray), varB s = false by decide) _ (List.getElem_mem hk4)
    rw [this] at hv; cases hv
  · have h2 := Lib.cell_of_heap h k
    refine h2.trans ?_
    rw [List.getElem?_toArray, List.getElem?_map, List.getElem?_eq_getElem hk4]
    rfl
theorem pick_cell (w : World) (l : List ByteArray) (T k : Nat) (hl : ∀ s ∈ l, nameB s = true) (hk : k < l.length) : ∃ s, errL [(⟨s, []⟩ : Tm)] = 0 ∧ (w.alloc (.cells (l.map Value.string).toArray T)).cell? ⟨w.heap.size, k, none⟩ = some (.string s) := by
  have h := heap_alloc_new w (.cells (l.map Value.string).toArray T)
  exact ⟨l[k], err_leaf (hl _ (List.getElem_mem hk)), by rw [Lib.cell_of_heap h]; simp [hk]⟩

theorem sl_one {w : World} {X Z : Nat → Prop} {B : Nat} {t : Tm} {a : Option Addr} {c T : Nat} (hb : w.heap[B]? = some (.cells #[.string t.name, .slice a t.args.length c] T (0, 0))) (hB : X B) (hs : Sl w Z a t.args) (hZ : ∀ b, Z b → b < w.heap.size → X b) : Sl w X (some ⟨B, 0, none⟩) [t] := by
  refine ⟨by simp, Or.inr ⟨B, 0, rfl, lies_mk _ _ _ fun i hi => ?_⟩⟩
  simp at hi
  subst hi
  exact ⟨hB, by simp [World.cell?, hb], a, c, by simp [World.cell?, hb], hs.mono hZ⟩

theorem grow_one {nv : Nat} {w w5 : World} {Z : Nat → Prop} {s : ByteArray} {i m n T : Nat} {a5 : Option Addr} {c5 : Nat} {t5 : Tm} {v0 v1 : Value} {o1 : Obj} (hB : Below w.heap.size w w5) (hlt : w.heap.size < w5.heap.size) (hs : Sl w5 Z a5 t5.args) (hZ : ∀ b, Z b → w.heap.size < b) (hz : sizeL [t5] ≤ top m) (hm : 3 ≤ m + 1) (hn : i ≤ n) (hn' : n ≤ i + 1 + top m) (hes : okV nv [(⟨s, [t5]⟩ : Tm)]) :
    GrowPV nv w i (m + 1) (.returned (.tuple #[.agg #[.string s, .slice (some ⟨w5.heap.size + 1, 0, none⟩) 1 1], .int .i64 (n : Int)])) ((((w5.setCell ⟨w.heap.size, 0, none⟩ v0).setCell ⟨w.heap.size, 1, none⟩ v1).alloc o1).alloc (.cells #[.string t5.name, .slice a5 t5.args.length c5] T)) := by
  have ht := top_step hm
  have hb0 : Below w.heap.size w (((w5.setCell ⟨w.heap.size, 0, none⟩ v0).setCell ⟨w.heap.size, 1, none⟩ v1).alloc o1) := ((hB.setCell (by simp) _).setCell (by simp) _).alloc (by simp [World.setCell]; omega) _
  refine ⟨some ⟨w5.heap.size + 1, 0, none⟩, 1, n, ⟨s, [t5]⟩, rfl, ?_, by simp, by omega, by simp [sizeL] at hz ⊢; omega, hn, by omega, hb0.alloc hb0.size _, hes⟩
  have hnew := heap_alloc_new (((w5.setCell ⟨w.heap.size, 0, none⟩ v0).setCell ⟨w.heap.size, 1, none⟩ v1).alloc o1) (.cells #[.string t5.name, .slice a5 t5.args.length c5] T)
  have e : (((w5.setCell ⟨w.heap.size, 0, none⟩ v0).setCell ⟨w.heap.size, 1, none⟩ v1).alloc o1).heap.size = w5.heap.size + 1 := by simp [World.setCell]
  rw [e] at hnew
  refine sl_one hnew (by omega) ((hs.mono (Y := fun b => Z b ∧ b < w5.heap.size) fun b h1 h2 => ⟨h1, h2⟩).kept (w' := _) fun b hb => ?_) (fun b hb _ => by have := hZ b hb.1; omega)
  have := hZ b hb.1
  rw [Below.heap_alloc _ _ _ (by rw [e]; omega), Below.heap_alloc _ _ _ (by simp [World.setCell]; omega), Below.heap_setCell _ _ _ _ (by simp; omega), Below.heap_setCell _ _ _ _ (by simp; omega)]

section
variable {P : Program} {ops : Array Oper} {Q : Exit → Act → World → Prop} {md : Region.Mode}
/-- A stronger condition held does as well. -/
theorem held_mono {S S' : World → Prop} (h : ∀ w, S' w → S w) : ∀ (fuel : Nat) (listed : Array Bool) (a : Act) (w : World), wpAnyH P md ops Q S' fuel listed a w → wpAnyH P md ops Q S fuel listed a w
  | 0, _, _, _, H => H
  | fuel + 1, listed, a, w, H => ⟨H.1, fun i hi => wpOp_mono (fun a' w' hh => ⟨h _ hh.1, held_mono h fuel _ a' w' hh.2⟩) (H.2 i hi)⟩
end

def TwoS (w5 w6 : World) (t5 t6 : Tm) (a5 a6 : Option Addr) (c5 c6 : Nat) (w' : World) : Prop :=
  Blk w' w5.heap.size #[.string t5.name, .slice a5 t5.args.length c5] 28 ∧ Blk w' w6.heap.size #[.string t6.name, .slice a6 t6.args.length c6] 28
def TwoF (w5 w6 : World) (t5 t6 : Tm) (a5 a6 : Option Addr) (c5 c6 : Nat) (b : Nat) (w' : World) : Prop :=
  TwoS w5 w6 t5 t6 a5 a6 c5 c6 w' ∧ Blk w' b #[.string ⟨#[102]⟩, .string ⟨#[103]⟩] 9
theorem TwoS.alloc {w5 w6 : World} {t5 t6 : Tm} {a5 a6 : Option Addr} {c5 c6 : Nat} {w' : World} (h : TwoS w5 w6 t5 t6 a5 a6 c5 c6 w') (o : Obj) : TwoS w5 w6 t5 t6 a5 a6 c5 c6 (w'.alloc o) := ⟨h.1.alloc o, h.2.alloc o⟩
theorem TwoF.alloc {w5 w6 : World} {t5 t6 : Tm} {a5 a6 : Option Addr} {c5 c6 b : Nat} {w' : World} (h : TwoF w5 w6 t5 t6 a5 a6 c5 c6 b w') (o : Obj) : TwoF w5 w6 t5 t6 a5 a6 c5 c6 b (w'.alloc o) := ⟨h.1.alloc o, h.2.alloc o⟩

theorem blk_at {w : World} {n : Nat} (h : w.heap.size = n) (cs : Array Value) (T : Nat) : Blk (w.alloc (.cells cs T)) n cs T := h ▸ Blk.new w cs T
theorem two_endA {w5 w6 : World} {t5 t6 : Tm} {a5 a6 : Option Addr} {c5 c6 b : Nat} (v0 v1 : Value) (A : Obj) (hX : Blk w6 w5.heap.size #[.string t5.name, .slice a5 t5.args.length c5] 28) (hne : w5.heap.size ≠ b) :
    TwoF w5 w6 t5 t6 a5 a6 c5 c6 (w6.heap.size + 1) (((((w6.setCell ⟨b, 0, none⟩ v0).setCell ⟨b, 1, none⟩ v1).alloc (.cells #[.string t6.name, .slice a6 t6.args.length c6] 28)).alloc (.cells #[.string ⟨#[102]⟩, .string ⟨#[103]⟩] 9)).alloc A) :=
  ⟨⟨(((((hX.setOther 0 v0 hne).setOther 1 v1 hne).alloc _).alloc _).alloc _), ((blk_at (by simp [World.setCell]) _ _).alloc _).alloc _⟩, (blk_at (by simp [World.setCell]) _ _).alloc _⟩
theorem two_endB {w5 w6 : World} {t5 t6 : Tm} {a5 a6 : Option Addr} {c5 c6 b : Nat} (v0 v1 : Value) (A : Obj) (hX : Blk w6 w5.heap.size #[.string t5.name, .slice a5 t5.args.length c5] 28) (hne : w5.heap.size ≠ b) :
    TwoF w5 w6 t5 t6 a5 a6 c5 c6 (w6.heap.size + 1 + 1) (((((w6.setCell ⟨b, 0, none⟩ v0).setCell ⟨b, 1, none⟩ v1).alloc (.cells #[.string t6.name, .slice a6 t6.args.length c6] 28)).alloc A).alloc (.cells #[.string ⟨#[102]⟩, .string ⟨#[103]⟩] 9)) :=
  ⟨⟨(((((hX.setOther 0 v0 hne).setOther 1 v1 hne).alloc _).alloc _).alloc _), ((blk_at (by simp [World.setCell]) _ _).alloc _).alloc _⟩, (blk_at (by simp [World.setCell]) _ _)⟩

theorem sl_two {w : World} {X Z5 Z6 : Nat → Prop} {B : Nat} {t5 t6 : Tm} {a5 a6 : Option Addr} {c5 c6 T : Nat} (hb : Blk w B #[.string t5.name, .slice a5 t5.args.length c5, .string t6.name, .slice a6 t6.args.length c6] T) (hB : X B) (h5 : Sl w Z5 a5 t5.args) (h6 : Sl w Z6 a6 t6.args) (hZ5 : ∀ b, Z5 b → b < w.heap.size → X b) (hZ6 : ∀ b, Z6 b → b < w.heap.size → X b) : Sl w X (some ⟨B, 0, none⟩) [t5, t6] := by
  refine ⟨by simp, Or.inr ⟨B, 0, rfl, lies_mk _ _ _ fun i hi => ?_⟩⟩
  have h01 : i = 0 ∨ i = 1 := by simp at hi; omega
  rcases h01 with rfl | rfl
  · exact ⟨hB, hb.cell 0, a5, c5, hb.cell 1, h5.mono hZ5⟩
  · exact ⟨hB, hb.cell 2, a6, c6, hb.cell 3, h6.mono hZ6⟩

theorem two_world {w w6 : World} {Z : Nat → Prop} {a : Option Addr} {l : List Tm} {v0 v1 : Value} {o1 o2 o3 : Obj} (hs : Sl w6 Z a l) (hZ : ∀ b, Z b → w.heap.size < b) : Sl (((((w6.setCell ⟨w.heap.size, 0, none⟩ v0).setCell ⟨w.heap.size, 1, none⟩ v1).alloc o1).alloc o2).alloc o3).drew (fun b => Z b ∧ b < w6.heap.size) a l := by
  refine (hs.mono (Y := fun b => Z b ∧ b < w6.heap.size) fun b h1 h2 => ⟨h1, h2⟩).kept fun b hb => ?_
  have := hZ b hb.1
  show ((((((w6.setCell ⟨w.heap.size, 0, none⟩ v0).setCell ⟨w.heap.size, 1, none⟩ v1).alloc o1).alloc o2).alloc o3)).heap[b]? = w6.heap[b]?
  rw [Below.heap_alloc _ _ _ (by simp [World.setCell]; omega), Below.heap_alloc _ _ _ (by simp [World.setCell]; omega), Below.heap_alloc _ _ _ (by simp [World.setCell]; omega), Below.heap_setCell _ _ _ _ (by simp; omega), Below.heap_setCell _ _ _ _ (by simp; omega)]

theorem grow_two {nv : Nat} {w w6 : World} {Z5 Z6 : Nat → Prop} {s : ByteArray} {i m n T bA : Nat} {a5 a6 : Option Addr} {c5 c6 : Nat} {t5 t6 : Tm} {v0 v1 : Value} {o1 o2 o3 : Obj} (hB : Below w.heap.size w w6) (hlt : w.heap.size < w6.heap.size) (h5 : Sl w6 Z5 a5 t5.args) (h6 : Sl w6 Z6 a6 t6.args) (hZ5 : ∀ b, Z5 b → w.heap.size < b) (hZ6 : ∀ b, Z6 b → w.heap.size < b) (hbig : i ≤ n ∧ n ≤ i + top (m + 1) ∧ sizeL [t5] + sizeL [t6] + 1 ≤ top (m + 1)) (hes : okV nv [(⟨s, [t5, t6]⟩ : Tm)]) (hbA : w6.heap.size < bA)
    (hA : Blk (((((w6.setCell ⟨w.heap.size, 0, none⟩ v0).setCell ⟨w.heap.size, 1, none⟩ v1).alloc o1).alloc o2).alloc o3).drew bA #[.string t5.name, .slice a5 t5.args.length c5, .string t6.name, .slice a6 t6.args.length c6] T) :
    GrowPV nv w i (m + 1) (.returned (.tuple #[.agg #[.string s, .slice (some ⟨bA, 0, none⟩) 2 2], .int .i64 (n : Int)])) (((((w6.setCell ⟨w.heap.size, 0, none⟩ v0).setCell ⟨w.heap.size, 1, none⟩ v1).alloc o1).alloc o2).alloc o3).drew := by
  have hb0 : Below w.heap.size w (((((w6.setCell ⟨w.heap.size, 0, none⟩ v0).setCell ⟨w.heap.size, 1, none⟩ v1).alloc o1).alloc o2).alloc o3) := ((((hB.setCell (by simp) _).setCell (by simp) _).alloc (by simp [World.setCell]; omega) _).alloc (by simp [World.setCell]; omega) _).alloc (by simp [World.setCell]; omega) _
  refine ⟨some ⟨bA, 0, none⟩, 2, n, ⟨s, [t5, t6]⟩, rfl, ?_, by simp, by omega, ?_, hbig.1, hbig.2.1, hb0.drew, hes⟩
  · exact sl_two hA (by omega) (two_world h5 hZ5) (two_world h6 hZ6) (fun b hb _ => by have := hZ5 b hb.1; omega) (fun b hb _ => by have := hZ6 b hb.1; omega)
  · have := hbig.2.2
    have e : sizeL [t5, t6] = sizeL [t5] + sizeL [t6] := sizeL_append [t5] [t6]
    have e2 : sizeL [⟨s, [t5, t6]⟩] = 1 + sizeL [t5, t6] := by simp [sizeL]
    omega

theorem two_up {w5 w6 : World} {t5 t6 : Tm} {a5 a6 : Option Addr} {c5 c6 b : Nat} {w' : World} (h : TwoS w5 w6 t5 t6 a5 a6 c5 c6 w') (hF : Blk w' b #[.string ⟨#[102]⟩, .string ⟨#[103]⟩] 9) : TwoF w5 w6 t5 t6 a5 a6 c5 c6 b w' := ⟨h, hF⟩

set_option maxHeartbeats 8000000 in
theorem growV_any (nv : Nat) (hnv : 1 ≤ nv) (hnv4 : nv ≤ 4) (zs : List Int) (hr : ∀ z ∈ zs, Rng z) (hzl : zs.length ≤ 1000000) : ∀ (m i : Nat) (u : Value) (w : World) (X : Nat → Prop), PV w X u zs → m ≤ 100 → i + top m ≤ 1000 →
    Calls Try.prog 26 #[u, .int .i64 (i : Int), .int .i64 (m : Int), .int .i64 (nv : Int)] w fun e w' => GrowPV nv w i m e w' := by
  have hnvI : (0 : Int) < (nv : Int) := by omega
  intro m
  induction m using Nat.strongRecOn with
  | ind m ih =>
    intro i u w X hu hm hi
    have IH := hide ih
    clear ih
    have HU := hide hu
    clear hu
    go_enter Try.func26, Try.ntmps26
    go_wp2_with fail
    refine (raw_any zs _ _ X (by exact HU.out.alloc _) hr i (by omega) hzl).mono ?_
    rintro e w1 ⟨c, rfl, hc, hb1⟩
    have B1 := hide (((Below.refl w.heap.size w).alloc (Nat.le_refl _) (.cells #[.string ⟨#[]⟩, .slice none 0 0] 28)).trans (hb1.mono (by simp)))
    have R1 := hide ((Blk.new w #[.string ⟨#[]⟩, .slice none 0 0] 28).below hb1 (by simp))
    clear hb1
    by_cases h3 : m < 3
    · go_wp2_with fail
      refine (pick_any _ 3 (by decide) (by decide) ⟨by omega, by omega⟩ _).mono ?_
      rintro e w2 ⟨k2, rfl, hk2, rfl⟩
      by_cases h2 : 0 < k2
      · go_wp2_with fail
        refine (pick_any _ nv (by omega) (by omega) ⟨by omega, by omega⟩ _).mono ?_
        rintro e w3 ⟨k3, rfl, hk3, rfl⟩
        obtain ⟨s5, hes5, hs5⟩ := pick_var w2 9 k3 nv hk3 hnv4
        have hs6 : (w2.alloc (.cells #[.string ⟨#[88]⟩, .string ⟨#[89]⟩, .string ⟨#[90]⟩, .string ⟨#[85]⟩] 9)).cell? ⟨w2.heap.size, k3, none⟩ = some (.string s5) := hs5
        have hk4 : (k3 : Int) < 4 := by omega
        clear hs5
        go_wp2_with fail
        refine (leaf_any _ _).mono ?_
        rintro e w4 ⟨rfl, hb4⟩
        have R4 := hide ((R1.out.alloc _).below hb4 (by have := R1.out.lt; simp; omega))
        have B4 := hide ((B1.out.alloc B1.out.size _).trans (hb4.mono (by have := B1.out.size; simp; omega)))
        clear hb4 hs6
        have r0 : w4.cell? ⟨w.heap.size, 0, none⟩ = some (.string ⟨#[]⟩) := R4.out.cell 0
        have r1 : w4.cell? ⟨w.heap.size, 1, none⟩ = some (.slice none 0 0) := R4.out.cell 1
        have rf := R4.out.frozen
        go_wp2_with fail
        have q0 := ((R4.out.set 0 (.string s5)).set 1 (.slice none 0 0)).cell 0
        have q1 := ((R4.out.set 0 (.string s5)).set 1 (.slice none 0 0)).cell 1
        refine bodyPost_ret (v := .tuple #[.agg #[.string s5, .slice none 0 0], .int .i64 ((i : Int) + 1)]) (by simp [results, Try.results26, go_sem, q0, q1, World.cell?_setCell_same, World.cell?_setCell_other, r0, r1]) rfl ?_
        exact grow_leaf hes5 ((B4.out.setCell (by simp) _).setCell (by simp) _)
      · go_wp2_with fail
        refine (pick_any _ 3 (by decide) (by decide) ⟨by omega, by omega⟩ _).mono ?_
        rintro e w3 ⟨k3, rfl, hk3, rfl⟩
        obtain ⟨s5, hes5, hs5⟩ := pick_const w2 9 k3 nv hk3
        have hs6 : (w2.alloc (.cells #[.string ⟨#[97]⟩, .string ⟨#[98]⟩, .string ⟨#[99]⟩] 9)).cell? ⟨w2.heap.size, k3, none⟩ = some (.string s5) := hs5
        have hk4 : (k3 : Int) < 3 := by omega
        clear hs5
        go_wp2_with fail
        refine (leaf_any _ _).mono ?_
        rintro e w4 ⟨rfl, hb4⟩
        have R4 := hide ((R1.out.alloc _).below hb4 (by have := R1.out.lt; simp; omega))
        have B4 := hide ((B1.out.alloc B1.out.size _).trans (hb4.mono (by have := B1.out.size; simp; omega)))
        clear hb4 hs6
        have r0 : w4.cell? ⟨w.heap.size, 0, none⟩ = some (.string ⟨#[]⟩) := R4.out.cell 0
        have r1 : w4.cell? ⟨w.heap.size, 1, none⟩ = some (.slice none 0 0) := R4.out.cell 1
        have rf := R4.out.frozen
        go_wp2_with fail
        have q0 := ((R4.out.set 0 (.string s5)).set 1 (.slice none 0 0)).cell 0
        have q1 := ((R4.out.set 0 (.string s5)).set 1 (.slice none 0 0)).cell 1
        refine bodyPost_ret (v := .tuple #[.agg #[.string s5, .slice none 0 0], .int .i64 ((i : Int) + 1)]) (by simp [results, Try.results26, go_sem, q0, q1, World.cell?_setCell_same, World.cell?_setCell_other, r0, r1]) rfl ?_
        exact grow_leaf hes5 ((B4.out.setCell (by simp) _).setCell (by simp) _)
    · go_wp2_with fail
      refine (pick_any _ 5 (by decide) (by decide) ⟨by omega, by omega⟩ _).mono ?_
      rintro e w1b ⟨k1, rfl, hk1, rfl⟩
      by_cases h1 : k1 < 2
      · go_wp2_with fail
        refine (pick_any _ 3 (by decide) (by decide) ⟨by omega, by omega⟩ _).mono ?_
        rintro e w2 ⟨k2, rfl, hk2, rfl⟩
        by_cases h2 : 0 < k2
        · go_wp2_with fail
          refine (pick_any _ nv (by omega) (by omega) ⟨by omega, by omega⟩ _).mono ?_
          rintro e w3 ⟨k3, rfl, hk3, rfl⟩
          obtain ⟨s5, hes5, hs5⟩ := pick_var w2 9 k3 nv hk3 hnv4
          have hs6 : (w2.alloc (.cells #[.string ⟨#[88]⟩, .string ⟨#[89]⟩, .string ⟨#[90]⟩, .string ⟨#[85]⟩] 9)).cell? ⟨w2.heap.size, k3, none⟩ = some (.string s5) := hs5
          have hk4 : (k3 : Int) < 4 := by omega
          clear hs5
          go_wp2_with fail
          refine (leaf_any _ _).mono ?_
          rintro e w4 ⟨rfl, hb4⟩
          have R4 := hide ((R1.out.alloc _).below hb4 (by have := R1.out.lt; simp; omega))
          have B4 := hide ((B1.out.alloc B1.out.size _).trans (hb4.mono (by have := B1.out.size; simp; omega)))
          clear hb4 hs6
          have r0 : w4.cell? ⟨w.heap.size, 0, none⟩ = some (.string ⟨#[]⟩) := R4.out.cell 0
          have r1 : w4.cell? ⟨w.heap.size, 1, none⟩ = some (.slice none 0 0) := R4.out.cell 1
          have rf := R4.out.frozen
          go_wp2_with fail
          have q0 := ((R4.out.set 0 (.string s5)).set 1 (.slice none 0 0)).cell 0
          have q1 := ((R4.out.set 0 (.string s5)).set 1 (.slice none 0 0)).cell 1
          refine bodyPost_ret (v := .tuple #[.agg #[.string s5, .slice none 0 0], .int .i64 ((i : Int) + 1)]) (by simp [results, Try.results26, go_sem, q0, q1, World.cell?_setCell_same, World.cell?_setCell_other, r0, r1]) rfl ?_
          exact grow_leaf hes5 ((B4.out.setCell (by simp) _).setCell (by simp) _)
        · go_wp2_with fail
          refine (pick_any _ 3 (by decide) (by decide) ⟨by omega, by omega⟩ _).mono ?_
          rintro e w3 ⟨k3, rfl, hk3, rfl⟩
          obtain ⟨s5, hes5, hs5⟩ := pick_const w2 9 k3 nv hk3
          have hs6 : (w2.alloc (.cells #[.string ⟨#[97]⟩, .string ⟨#[98]⟩, .string ⟨#[99]⟩] 9)).cell? ⟨w2.heap.size, k3, none⟩ = some (.string s5) := hs5
          have hk4 : (k3 : Int) < 3 := by omega
          clear hs5
          go_wp2_with fail
          refine (leaf_any _ _).mono ?_
          rintro e w4 ⟨rfl, hb4⟩
          have R4 := hide ((R1.out.alloc _).below hb4 (by have := R1.out.lt; simp; omega))
          have B4 := hide ((B1.out.alloc B1.out.size _).trans (hb4.mono (by have := B1.out.size; simp; omega)))
          clear hb4 hs6
          have r0 : w4.cell? ⟨w.heap.size, 0, none⟩ = some (.string ⟨#[]⟩) := R4.out.cell 0
          have r1 : w4.cell? ⟨w.heap.size, 1, none⟩ = some (.slice none 0 0) := R4.out.cell 1
          have rf := R4.out.frozen
          go_wp2_with fail
          have q0 := ((R4.out.set 0 (.string s5)).set 1 (.slice none 0 0)).cell 0
          have q1 := ((R4.out.set 0 (.string s5)).set 1 (.slice none 0 0)).cell 1
          refine bodyPost_ret (v := .tuple #[.agg #[.string s5, .slice none 0 0], .int .i64 ((i : Int) + 1)]) (by simp [results, Try.results26, go_sem, q0, q1, World.cell?_setCell_same, World.cell?_setCell_other, r0, r1]) rfl ?_
          exact grow_leaf hes5 ((B4.out.setCell (by simp) _).setCell (by simp) _)
      · go_wp2_with fail
        refine (pick_eq ((c : Int) / 5) 4 (by decide) (by decide) ⟨by omega, by omega⟩ _).mono ?_
        rintro e w2 ⟨rfl, rfl⟩
        have hk4 := pickN_lt ((c : Int) / 5) 4 (by decide)
        generalize hke : pickN ((c : Int) / 5) 4 = k4 at *
        have HKE := hide hke
        clear hke
        obtain ⟨m, rfl⟩ : ∃ m', m = m' + 1 := ⟨m - 1, by omega⟩
        by_cases h40 : k4 = 0
        · subst h40
          go_wp2_with fail
          refine (IH.out m (by omega) (i + 1) _ _ X (by exact HU.out.later B1.out) (by omega) (by have := top_step (m := m) (by omega); omega)).mono ?_
          rintro e w5 ⟨a5, c5, n5, t5, rfl, hs5, hc5, hc5', hz5, hn5, hn5', hb5, he5⟩
          have R5 := hide (R1.out.below hb5 R1.out.lt)
          have B5 := hide (B1.out.trans (hb5.mono B1.out.size))
          have S5 := hide hs5
          have HE5 := hide he5
          clear he5
          have hlt5 : w.heap.size < w5.heap.size := R5.out.lt
          clear hb5 hs5
          have r0 : w5.cell? ⟨w.heap.size, 0, none⟩ = some (.string ⟨#[]⟩) := R5.out.cell 0
          have r1 : w5.cell? ⟨w.heap.size, 1, none⟩ = some (.slice none 0 0) := R5.out.cell 1
          have rf := R5.out.frozen
          go_wp2_with fail
          refine bodyPost_ret (v := .tuple #[.agg #[.string ⟨#[104]⟩, .slice (some ⟨w5.heap.size + 1, 0, none⟩) 1 1], .int .i64 (n5 : Int)]) (by simp [results, Try.results26, go_sem, World.cell?_setCell_same, World.cell?_setCell_other, r0, r1, hlt5, World.cell?_alloc_old]) rfl ?_
          exact grow_one B5.out hlt5 S5.out (fun b hb => Nat.lt_of_lt_of_le R1.out.lt hb) hz5 (by omega) (by omega) (by omega) (ok_node (by decide) (by decide) HE5.out)
        · by_cases h41 : k4 = 1
          · subst h41
            go_wp2_with fail
            refine (IH.out m (by omega) (i + 1) _ _ X (by exact HU.out.later B1.out) (by omega) (by have := top_step (m := m) (by omega); omega)).mono ?_
            rintro e w5 ⟨a5, c5, n5, t5, rfl, hs5, hc5, hc5', hz5, hn5, hn5', hb5, he5⟩
            have R5 := hide (R1.out.below hb5 R1.out.lt)
            have B5 := hide (B1.out.trans (hb5.mono B1.out.size))
            have S5 := hide hs5
            have HE5 := hide he5
            clear he5
            have hlt5 : w.heap.size < w5.heap.size := R5.out.lt
            clear hb5 hs5
            have r0 : w5.cell? ⟨w.heap.size, 0, none⟩ = some (.string ⟨#[]⟩) := R5.out.cell 0
            have r1 : w5.cell? ⟨w.heap.size, 1, none⟩ = some (.slice none 0 0) := R5.out.cell 1
            have rf := R5.out.frozen
            go_wp2_with fail
            refine bodyPost_ret (v := .tuple #[.agg #[.string ⟨#[107]⟩, .slice (some ⟨w5.heap.size + 1, 0, none⟩) 1 1], .int .i64 (n5 : Int)]) (by simp [results, Try.results26, go_sem, World.cell?_setCell_same, World.cell?_setCell_other, r0, r1, hlt5, World.cell?_alloc_old]) rfl ?_
            exact grow_one B5.out hlt5 S5.out (fun b hb => Nat.lt_of_lt_of_le R1.out.lt hb) hz5 (by omega) (by omega) (by omega) (ok_node (by decide) (by decide) HE5.out)
          · have h42 : 2 ≤ k4 := by omega
            obtain ⟨h, hh, hh2⟩ : ∃ h : Nat, ((m : Int) + 1) / 2 = h ∧ h = (m + 1) / 2 := ⟨(m + 1) / 2, by omega, rfl⟩
            have hth := top_half (m := m) (by omega) hh2
            have HH2 := hide hh2
            have hhb : h < m + 1 ∧ h ≤ 100 := by omega
            clear hh2
            go_wp2_with fail
            refine (IH.out h (by omega) (i + 1) _ _ X (by exact HU.out.later B1.out) (by omega) (by omega)).mono ?_
            rintro e w5 ⟨a5, c5, n5, t5, rfl, hs5, hc5, hc5', hz5, hn5, hn5', hb5, he5⟩
            have R5 := hide (R1.out.below hb5 R1.out.lt)
            have B5 := hide (B1.out.trans (hb5.mono B1.out.size))
            have S5 := hide hs5
            have HE5 := hide he5
            clear he5
            have X5 := hide (Blk.new w5 #[.string t5.name, .slice a5 t5.args.length c5] 28)
            have hlt5 : w.heap.size < w5.heap.size := R5.out.lt
            clear hb5 hs5
            go_wp2_with fail
            refine (IH.out h (by omega) n5 _ _ X (by exact HU.out.later (B5.out.alloc B5.out.size _)) (by omega) (by omega)).mono ?_
            rintro e w6 ⟨a6, c6, n6, t6, rfl, hs6, hc6, hc6', hz6, hn6, hn6', hb6, he6⟩
            have R6 := hide ((R5.out.alloc _).below hb6 (by simp; omega))
            have X6 := hide (X5.out.below hb6 (by simp))
            have B6 := hide ((B5.out.alloc B5.out.size _).trans (hb6.mono (by have := B5.out.size; simp; omega)))
            have S56 := hide ((S5.out.later ((Below.refl w5.heap.size w5).alloc (Nat.le_refl _) _)).later hb6)
            have S6 := hide hs6
            have HE6 := hide he6
            clear he6
            have hlt6 : w5.heap.size < w6.heap.size := X6.out.lt
            clear hb6 hs6
            go_wp2_with fail
            have Y6 := hide (Blk.new w6 #[.string t6.name, .slice a6 t6.args.length c6] 28)
            have x0 : ∀ o, (w6.alloc o).cell? ⟨w5.heap.size, 0, none⟩ = some (.string t5.name) := fun o => (X6.out.alloc o).cell 0
            have x1 : ∀ o, (w6.alloc o).cell? ⟨w5.heap.size, 1, none⟩ = some (.slice a5 t5.args.length c5) := fun o => (X6.out.alloc o).cell 1
            have y0 := Y6.out.cell 0
            have y1 := Y6.out.cell 1
            have r0 : w6.cell? ⟨w.heap.size, 0, none⟩ = some (.string ⟨#[]⟩) := R6.out.cell 0
            have r1 : w6.cell? ⟨w.heap.size, 1, none⟩ = some (.slice none 0 0) := R6.out.cell 1
            have rf := R6.out.frozen
            have HWR : Hid (IntKind.i64.wrap ((c : Int) / 5) = (c : Int) / 5) := wrapI _ ⟨by omega, by omega⟩
            have HPK : Hid (∀ w', Calls Try.prog 7 #[.int .i64 (IntKind.i64.wrap ((c : Int) / 5)), .int .i64 4] w' fun e w'' => e = .returned (.int .i64 (k4 : Int)) ∧ w'' = w') := fun w' => by
              have h1 := pick_eq ((c : Int) / 5) 4 (by decide) (by decide) ⟨by omega, by omega⟩ w'
              rw [HKE.out] at h1
              rw [HWR.out]
              exact h1
            have HBIG : Hid (i ≤ n6 ∧ n6 ≤ i + top (m + 1) ∧ sizeL [t5] + sizeL [t6] + 1 ≤ top (m + 1)) := ⟨by omega, by omega, by omega⟩
            have hw0 : IntKind.i64.wrap 0 = 0 := by decide
            have hw1 : IntKind.i64.wrap 1 = 1 := by decide
            have hlt56 : w.heap.size < w6.heap.size := by omega
            have hlt57 : w.heap.size < w6.heap.size + 1 := by omega
            have hlt58 : w.heap.size < w6.heap.size + 1 + 1 := by omega
            have r30 : ∀ o1 o2 o3, (((w6.alloc o1).alloc o2).alloc o3).cell? ⟨w.heap.size, 0, none⟩ = some (.string ⟨#[]⟩) := fun o1 o2 o3 => (((R6.out.alloc o1).alloc o2).alloc o3).cell 0
            have r31 : ∀ o1 o2 o3, (((w6.alloc o1).alloc o2).alloc o3).cell? ⟨w.heap.size, 1, none⟩ = some (.slice none 0 0) := fun o1 o2 o3 => (((R6.out.alloc o1).alloc o2).alloc o3).cell 1
            have r3f : ∀ o1 o2 o3 i, (((w6.alloc o1).alloc o2).alloc o3).frozen? ⟨w.heap.size, i, none⟩ = false := fun o1 o2 o3 => (((R6.out.alloc o1).alloc o2).alloc o3).frozen
            have HZ6 : Hid (∀ b, (w5.alloc (.cells #[.string t5.name, .slice a5 t5.args.length c5] 28)).heap.size ≤ b → w.heap.size < b) := fun b hb => by
              simp at hb
              omega
            obtain rfl | rfl : k4 = 2 ∨ k4 = 3 := by omega
            · clear hth hhb hh hn6 hn6' hz6 hz5 hn5 hn5' hc5 hc5' hc6 hc6' hi hm hc hr hzl h42 h41 h40 hk4 h1 hk1 h3
              have HS0 : TwoS w5 w6 t5 t6 a5 a6 c5 c6 (w6.alloc (.cells #[.string t6.name, .slice a6 t6.args.length c6] 28)).drew := ⟨X6.out.alloc _, Y6.out⟩
              refine wp_region_held_drew (S := TwoS w5 w6 t5 t6 a5 a6 c5 c6) (by kernel_rfl) HS0 (fun hHeld => ?_)
              refine wpAnyH_take (i := 1) (v := ?_) rfl (by kernel_rfl) (by kernel_rfl) (by kernel_rfl) (fun _ _ _ h => h) (Or.inl ⟨by rfl, ?_⟩) (by assumption) ?_
              rotate_left
              · intro w' hSw
                go_simp <;> with_reducible rfl
              try simp only [Act.put, List.setIfInBounds_toArray, List.set_cons_zero, List.set_cons_succ, List.getElem_toArray, List.getElem_cons_succ, List.getElem_cons_zero]
              refine wpAnyH_take (i := 2) (v := ?_) rfl (by kernel_rfl) (by kernel_rfl) (by kernel_rfl) (fun _ _ _ h => h) (Or.inl ⟨by rfl, ?_⟩) (by assumption) ?_
              rotate_left
              · intro w' hSw
                go_simp <;> with_reducible rfl
              try simp only [Act.put, List.setIfInBounds_toArray, List.set_cons_zero, List.set_cons_succ, List.getElem_toArray, List.getElem_cons_succ, List.getElem_cons_zero]
              refine wpAnyH_take (i := 7) (v := ?_) rfl (by kernel_rfl) (by kernel_rfl) (by kernel_rfl) (fun _ _ _ h => h) (Or.inl ⟨by rfl, ?_⟩) (by assumption) ?_
              rotate_left
              · intro w' hSw
                have k0 : w'.cell? ⟨w5.heap.size, 0, none⟩ = some (.string t5.name) := hSw.1.cell 0
                have k1 : w'.cell? ⟨w5.heap.size, 1, none⟩ = some (.slice a5 t5.args.length c5) := hSw.1.cell 1
                go_simp <;> with_reducible rfl
              try simp only [Act.put, List.setIfInBounds_toArray, List.set_cons_zero, List.set_cons_succ, List.getElem_toArray, List.getElem_cons_succ, List.getElem_cons_zero]
              refine wpAnyH_take (i := 8) (v := ?_) rfl (by kernel_rfl) (by kernel_rfl) (by kernel_rfl) (fun _ _ _ h => h) (Or.inl ⟨by rfl, ?_⟩) (by assumption) ?_
              rotate_left
              · intro w' hSw
                have k2 : w'.cell? ⟨w6.heap.size, 0, none⟩ = some (.string t6.name) := hSw.2.cell 0
                have k3 : w'.cell? ⟨w6.heap.size, 1, none⟩ = some (.slice a6 t6.args.length c6) := hSw.2.cell 1
                go_simp <;> with_reducible rfl
              try simp only [Act.put, List.setIfInBounds_toArray, List.set_cons_zero, List.set_cons_succ, List.getElem_toArray, List.getElem_cons_succ, List.getElem_cons_zero]
              refine wpAnyH_take (i := 11) (v := ?_) rfl (by kernel_rfl) (by kernel_rfl) (by kernel_rfl) (fun _ _ _ h => h) (Or.inl ⟨by rfl, ?_⟩) (by assumption) ?_
              rotate_left
              · intro w' hSw
                go_simp <;> with_reducible rfl
              try simp only [Act.put, List.setIfInBounds_toArray, List.set_cons_zero, List.set_cons_succ, List.getElem_toArray, List.getElem_cons_succ, List.getElem_cons_zero]
              refine wpAnyH_ready (rs := [0, 3, 9]) (by kernel_rfl) (by simp) ?_
              refine AllReadyH.cons rfl (fun K hK => ?_) (AllReadyH.cons rfl (fun K hK => ?_) (AllReadyH.cons rfl (fun K hK => ?_) AllReadyH.nil))
              · go_simp
                refine hK.out _ _ (by exact hHeld.alloc _) (fun hHeld => ?_)
                clear hK K
                try simp only [Act.put, List.setIfInBounds_toArray, List.set_cons_zero, List.set_cons_succ, List.getElem_toArray, List.getElem_cons_succ, List.getElem_cons_zero]
                refine held_mono (S' := TwoF w5 w6 t5 t6 a5 a6 c5 c6 (w6.heap.size + 1)) (fun _ h => h.1) _ _ _ _ ?_
                replace hHeld := two_up (b := w6.heap.size + 1) hHeld (by exact blk_at (w := w6.alloc (.cells #[.string t6.name, .slice a6 t6.args.length c6] 28)) (by simp) _ _)
                refine wpAnyH_ready (rs := [3, 9]) (by kernel_rfl) (by simp) ?_
                refine AllReadyH.cons rfl (fun K hK => ?_) (AllReadyH.cons rfl (fun K hK => ?_) AllReadyH.nil)
                · go_simp
                  go_at_call 7
                  refine (HPK.out _).mono ?_
                  rintro e w7 ⟨rfl, rfl⟩
                  go_simp
                  refine hK.out _ _ (by exact hHeld) (fun hHeld => ?_)
                  clear hK K
                  try simp only [Act.put, List.setIfInBounds_toArray, List.set_cons_zero, List.set_cons_succ, List.getElem_toArray, List.getElem_cons_succ, List.getElem_cons_zero]
                  refine wpAnyH_take (i := 4) (v := ?_) rfl (by kernel_rfl) (by kernel_rfl) (by kernel_rfl) (fun _ _ _ h => h) (Or.inl ⟨by rfl, ?_⟩) (by assumption) ?_
                  rotate_left
                  · intro w' hSw
                    go_simp <;> with_reducible rfl
                  try simp only [Act.put, List.setIfInBounds_toArray, List.set_cons_zero, List.set_cons_succ, List.getElem_toArray, List.getElem_cons_succ, List.getElem_cons_zero]
                  refine wpAnyH_take (i := 5) (v := ?_) rfl (by kernel_rfl) (by kernel_rfl) (by kernel_rfl) (fun _ _ _ h => h) (Or.inl ⟨by rfl, ?_⟩) (by assumption) ?_
                  rotate_left
                  · intro w' hSw
                    go_simp <;> with_reducible rfl
                  try simp only [Act.put, List.setIfInBounds_toArray, List.set_cons_zero, List.set_cons_succ, List.getElem_toArray, List.getElem_cons_succ, List.getElem_cons_zero]
                  refine wpAnyH_take (i := 6) (v := ?_) rfl (by kernel_rfl) (by kernel_rfl) (by kernel_rfl) (fun _ _ _ h => h) (Or.inl ⟨by rfl, ?_⟩) (by assumption) ?_
                  rotate_left
                  · intro w' hSw
                    have k4 : w'.cell? ⟨w6.heap.size + 1, 0, none⟩ = some (.string ⟨#[102]⟩) := hSw.2.cell 0
                    have k5 : w'.cell? ⟨w6.heap.size + 1, 1, none⟩ = some (.string ⟨#[103]⟩) := hSw.2.cell 1
                    go_simp <;> with_reducible rfl
                  try simp only [Act.put, List.setIfInBounds_toArray, List.set_cons_zero, List.set_cons_succ, List.getElem_toArray, List.getElem_cons_succ, List.getElem_cons_zero]
                  refine wpAnyH_ready (rs := [9]) (by kernel_rfl) (by simp) ?_
                  refine AllReadyH.cons rfl (fun K hK => ?_) AllReadyH.nil
                  · go_simp
                    refine hK.out _ _ (by exact hHeld.alloc _) (fun hHeld => ?_)
                    clear hK K
                    try simp only [Act.put, List.setIfInBounds_toArray, List.set_cons_zero, List.set_cons_succ, List.getElem_toArray, List.getElem_cons_succ, List.getElem_cons_zero]
                    refine wpAnyH_take (i := 10) (v := ?_) rfl (by kernel_rfl) (by kernel_rfl) (by kernel_rfl) (fun _ _ _ h => h) (Or.inl ⟨by rfl, ?_⟩) (by assumption) ?_
                    rotate_left
                    · intro w' hSw
                      go_simp <;> with_reducible rfl
                    try simp only [Act.put, List.setIfInBounds_toArray, List.set_cons_zero, List.set_cons_succ, List.getElem_toArray, List.getElem_cons_succ, List.getElem_cons_zero]
                    refine wpAnyH_ready (rs := [12]) (by kernel_rfl) (by simp) ?_
                    refine AllReadyH.cons rfl (fun K hK => ?_) AllReadyH.nil
                    · go_simp
                      refine hK.out _ _ (by exact two_endA _ _ _ X6.out (Nat.ne_of_gt hlt5)) (fun hHeld => ?_)
                      clear hK K
                      try simp only [Act.put, List.setIfInBounds_toArray, List.set_cons_zero, List.set_cons_succ, List.getElem_toArray, List.getElem_cons_succ, List.getElem_cons_zero]
                      refine wpAnyH_take (i := 13) (v := ?_) rfl (by kernel_rfl) (by kernel_rfl) (by kernel_rfl) (fun _ _ _ h => h) (Or.inl ⟨by rfl, ?_⟩) (by assumption) ?_
                      rotate_left
                      · intro w' hSw
                        go_simp <;> with_reducible rfl
                      try simp only [Act.put, List.setIfInBounds_toArray, List.set_cons_zero, List.set_cons_succ, List.getElem_toArray, List.getElem_cons_succ, List.getElem_cons_zero]
                      refine wpAnyH_done (by kernel_rfl) ?_ _
                      go_wp2_with fail
                      refine bodyPost_ret (v := .tuple #[.agg #[.string ⟨#[102]⟩, .slice (some ⟨w6.heap.size + 1 + 1, 0, none⟩) 2 2], .int .i64 (n6 : Int)]) (by simp [results, Try.results26, go_sem, World.cell?_setCell_same, World.cell?_setCell_other, r0, r1, hlt56, hlt57, hlt58, World.cell?_alloc_old]) rfl ?_
                      exact grow_two B6.out hlt56 S56.out S6.out (fun b hb => Nat.lt_of_lt_of_le R1.out.lt hb) HZ6.out HBIG.out (ok_node (by decide) (by decide) (ok_two HE5.out HE6.out)) (by omega) (by exact blk_at (by simp [World.setCell]) _ _)
                · go_simp
                  refine hK.out _ _ (by exact hHeld.alloc _) (fun hHeld => ?_)
                  clear hK K
                  try simp only [Act.put, List.setIfInBounds_toArray, List.set_cons_zero, List.set_cons_succ, List.getElem_toArray, List.getElem_cons_succ, List.getElem_cons_zero]
                  refine wpAnyH_ready (rs := [3]) (by kernel_rfl) (by simp) ?_
                  refine AllReadyH.cons rfl (fun K hK => ?_) AllReadyH.nil
                  · go_simp
                    go_at_call 7
                    refine (HPK.out _).mono ?_
                    rintro e w7 ⟨rfl, rfl⟩
                    go_simp
                    refine hK.out _ _ (by exact hHeld) (fun hHeld => ?_)
                    clear hK K
                    try simp only [Act.put, List.setIfInBounds_toArray, List.set_cons_zero, List.set_cons_succ, List.getElem_toArray, List.getElem_cons_succ, List.getElem_cons_zero]
                    refine wpAnyH_take (i := 4) (v := ?_) rfl (by kernel_rfl) (by kernel_rfl) (by kernel_rfl) (fun _ _ _ h => h) (Or.inl ⟨by rfl, ?_⟩) (by assumption) ?_
                    rotate_left
                    · intro w' hSw
                      go_simp <;> with_reducible rfl
                    try simp only [Act.put, List.setIfInBounds_toArray, List.set_cons_zero, List.set_cons_succ, List.getElem_toArray, List.getElem_cons_succ, List.getElem_cons_zero]
                    refine wpAnyH_take (i := 5) (v := ?_) rfl (by kernel_rfl) (by kernel_rfl) (by kernel_rfl) (fun _ _ _ h => h) (Or.inl ⟨by rfl, ?_⟩) (by assumption) ?_
                    rotate_left
                    · intro w' hSw
                      go_simp <;> with_reducible rfl
                    try simp only [Act.put, List.setIfInBounds_toArray, List.set_cons_zero, List.set_cons_succ, List.getElem_toArray, List.getElem_cons_succ, List.getElem_cons_zero]
                    refine wpAnyH_take (i := 6) (v := ?_) rfl (by kernel_rfl) (by kernel_rfl) (by kernel_rfl) (fun _ _ _ h => h) (Or.inl ⟨by rfl, ?_⟩) (by assumption) ?_
                    rotate_left
                    · intro w' hSw
                      have k4 : w'.cell? ⟨w6.heap.size + 1, 0, none⟩ = some (.string ⟨#[102]⟩) := hSw.2.cell 0
                      have k5 : w'.cell? ⟨w6.heap.size + 1, 1, none⟩ = some (.string ⟨#[103]⟩) := hSw.2.cell 1
                      go_simp <;> with_reducible rfl
                    try simp only [Act.put, List.setIfInBounds_toArray, List.set_cons_zero, List.set_cons_succ, List.getElem_toArray, List.getElem_cons_succ, List.getElem_cons_zero]
                    refine wpAnyH_take (i := 10) (v := ?_) rfl (by kernel_rfl) (by kernel_rfl) (by kernel_rfl) (fun _ _ _ h => h) (Or.inl ⟨by rfl, ?_⟩) (by assumption) ?_
                    rotate_left
                    · intro w' hSw
                      go_simp <;> with_reducible rfl
                    try simp only [Act.put, List.setIfInBounds_toArray, List.set_cons_zero, List.set_cons_succ, List.getElem_toArray, List.getElem_cons_succ, List.getElem_cons_zero]
                    refine wpAnyH_ready (rs := [12]) (by kernel_rfl) (by simp) ?_
                    refine AllReadyH.cons rfl (fun K hK => ?_) AllReadyH.nil
                    · go_simp
                      refine hK.out _ _ (by exact two_endA _ _ _ X6.out (Nat.ne_of_gt hlt5)) (fun hHeld => ?_)
                      clear hK K
                      try simp only [Act.put, List.setIfInBounds_toArray, List.set_cons_zero, List.set_cons_succ, List.getElem_toArray, List.getElem_cons_succ, List.getElem_cons_zero]
                      refine wpAnyH_take (i := 13) (v := ?_) rfl (by kernel_rfl) (by kernel_rfl) (by kernel_rfl) (fun _ _ _ h => h) (Or.inl ⟨by rfl, ?_⟩) (by assumption) ?_
                      rotate_left
                      · intro w' hSw
                        go_simp <;> with_reducible rfl
                      try simp only [Act.put, List.setIfInBounds_toArray, List.set_cons_zero, List.set_cons_succ, List.getElem_toArray, List.getElem_cons_succ, List.getElem_cons_zero]
                      refine wpAnyH_done (by kernel_rfl) ?_ _
                      go_wp2_with fail
                      refine bodyPost_ret (v := .tuple #[.agg #[.string ⟨#[102]⟩, .slice (some ⟨w6.heap.size + 1 + 1, 0, none⟩) 2 2], .int .i64 (n6 : Int)]) (by simp [results, Try.results26, go_sem, World.cell?_setCell_same, World.cell?_setCell_other, r0, r1, hlt56, hlt57, hlt58, World.cell?_alloc_old]) rfl ?_
                      exact grow_two B6.out hlt56 S56.out S6.out (fun b hb => Nat.lt_of_lt_of_le R1.out.lt hb) HZ6.out HBIG.out (ok_node (by decide) (by decide) (ok_two HE5.out HE6.out)) (by omega) (by exact blk_at (by simp [World.setCell]) _ _)
              · go_simp
                go_at_call 7
                refine (HPK.out _).mono ?_
                rintro e w7 ⟨rfl, rfl⟩
                go_simp
                refine hK.out _ _ (by exact hHeld) (fun hHeld => ?_)
                clear hK K
                try simp only [Act.put, List.setIfInBounds_toArray, List.set_cons_zero, List.set_cons_succ, List.getElem_toArray, List.getElem_cons_succ, List.getElem_cons_zero]
                refine wpAnyH_take (i := 4) (v := ?_) rfl (by kernel_rfl) (by kernel_rfl) (by kernel_rfl) (fun _ _ _ h => h) (Or.inl ⟨by rfl, ?_⟩) (by assumption) ?_
                rotate_left
                · intro w' hSw
                  go_simp <;> with_reducible rfl
                try simp only [Act.put, List.setIfInBounds_toArray, List.set_cons_zero, List.set_cons_succ, List.getElem_toArray, List.getElem_cons_succ, List.getElem_cons_zero]
                refine wpAnyH_ready (rs := [0, 9]) (by kernel_rfl) (by simp) ?_
                refine AllReadyH.cons rfl (fun K hK => ?_) (AllReadyH.cons rfl (fun K hK => ?_) AllReadyH.nil)
                · go_simp
                  refine hK.out _ _ (by exact hHeld.alloc _) (fun hHeld => ?_)
                  clear hK K
                  try simp only [Act.put, List.setIfInBounds_toArray, List.set_cons_zero, List.set_cons_succ, List.getElem_toArray, List.getElem_cons_succ, List.getElem_cons_zero]
                  refine held_mono (S' := TwoF w5 w6 t5 t6 a5 a6 c5 c6 (w6.heap.size + 1)) (fun _ h => h.1) _ _ _ _ ?_
                  replace hHeld := two_up (b := w6.heap.size + 1) hHeld (by exact blk_at (w := w6.alloc (.cells #[.string t6.name, .slice a6 t6.args.length c6] 28)) (by simp) _ _)
                  refine wpAnyH_take (i := 5) (v := ?_) rfl (by kernel_rfl) (by kernel_rfl) (by kernel_rfl) (fun _ _ _ h => h) (Or.inl ⟨by rfl, ?_⟩) (by assumption) ?_
                  rotate_left
                  · intro w' hSw
                    go_simp <;> with_reducible rfl
                  try simp only [Act.put, List.setIfInBounds_toArray, List.set_cons_zero, List.set_cons_succ, List.getElem_toArray, List.getElem_cons_succ, List.getElem_cons_zero]
                  refine wpAnyH_take (i := 6) (v := ?_) rfl (by kernel_rfl) (by kernel_rfl) (by kernel_rfl) (fun _ _ _ h => h) (Or.inl ⟨by rfl, ?_⟩) (by assumption) ?_
                  rotate_left
                  · intro w' hSw
                    have k4 : w'.cell? ⟨w6.heap.size + 1, 0, none⟩ = some (.string ⟨#[102]⟩) := hSw.2.cell 0
                    have k5 : w'.cell? ⟨w6.heap.size + 1, 1, none⟩ = some (.string ⟨#[103]⟩) := hSw.2.cell 1
                    go_simp <;> with_reducible rfl
                  try simp only [Act.put, List.setIfInBounds_toArray, List.set_cons_zero, List.set_cons_succ, List.getElem_toArray, List.getElem_cons_succ, List.getElem_cons_zero]
                  refine wpAnyH_ready (rs := [9]) (by kernel_rfl) (by simp) ?_
                  refine AllReadyH.cons rfl (fun K hK => ?_) AllReadyH.nil
                  · go_simp
                    refine hK.out _ _ (by exact hHeld.alloc _) (fun hHeld => ?_)
                    clear hK K
                    try simp only [Act.put, List.setIfInBounds_toArray, List.set_cons_zero, List.set_cons_succ, List.getElem_toArray, List.getElem_cons_succ, List.getElem_cons_zero]
                    refine wpAnyH_take (i := 10) (v := ?_) rfl (by kernel_rfl) (by kernel_rfl) (by kernel_rfl) (fun _ _ _ h => h) (Or.inl ⟨by rfl, ?_⟩) (by assumption) ?_
                    rotate_left
                    · intro w' hSw
                      go_simp <;> with_reducible rfl
                    try simp only [Act.put, List.setIfInBounds_toArray, List.set_cons_zero, List.set_cons_succ, List.getElem_toArray, List.getElem_cons_succ, List.getElem_cons_zero]
                    refine wpAnyH_ready (rs := [12]) (by kernel_rfl) (by simp) ?_
                    refine AllReadyH.cons rfl (fun K hK => ?_) AllReadyH.nil
                    · go_simp
                      refine hK.out _ _ (by exact two_endA _ _ _ X6.out (Nat.ne_of_gt hlt5)) (fun hHeld => ?_)
                      clear hK K
                      try simp only [Act.put, List.setIfInBounds_toArray, List.set_cons_zero, List.set_cons_succ, List.getElem_toArray, List.getElem_cons_succ, List.getElem_cons_zero]
                      refine wpAnyH_take (i := 13) (v := ?_) rfl (by kernel_rfl) (by kernel_rfl) (by kernel_rfl) (fun _ _ _ h => h) (Or.inl ⟨by rfl, ?_⟩) (by assumption) ?_
                      rotate_left
                      · intro w' hSw
                        go_simp <;> with_reducible rfl
                      try simp only [Act.put, List.setIfInBounds_toArray, List.set_cons_zero, List.set_cons_succ, List.getElem_toArray, List.getElem_cons_succ, List.getElem_cons_zero]
                      refine wpAnyH_done (by kernel_rfl) ?_ _
                      go_wp2_with fail
                      refine bodyPost_ret (v := .tuple #[.agg #[.string ⟨#[102]⟩, .slice (some ⟨w6.heap.size + 1 + 1, 0, none⟩) 2 2], .int .i64 (n6 : Int)]) (by simp [results, Try.results26, go_sem, World.cell?_setCell_same, World.cell?_setCell_other, r0, r1, hlt56, hlt57, hlt58, World.cell?_alloc_old]) rfl ?_
                      exact grow_two B6.out hlt56 S56.out S6.out (fun b hb => Nat.lt_of_lt_of_le R1.out.lt hb) HZ6.out HBIG.out (ok_node (by decide) (by decide) (ok_two HE5.out HE6.out)) (by omega) (by exact blk_at (by simp [World.setCell]) _ _)
                · go_simp
                  refine hK.out _ _ (by exact hHeld.alloc _) (fun hHeld => ?_)
                  clear hK K
                  try simp only [Act.put, List.setIfInBounds_toArray, List.set_cons_zero, List.set_cons_succ, List.getElem_toArray, List.getElem_cons_succ, List.getElem_cons_zero]
                  refine wpAnyH_ready (rs := [0]) (by kernel_rfl) (by simp) ?_
                  refine AllReadyH.cons rfl (fun K hK => ?_) AllReadyH.nil
                  · go_simp
                    refine hK.out _ _ (by exact hHeld.alloc _) (fun hHeld => ?_)
                    clear hK K
                    try simp only [Act.put, List.setIfInBounds_toArray, List.set_cons_zero, List.set_cons_succ, List.getElem_toArray, List.getElem_cons_succ, List.getElem_cons_zero]
                    refine held_mono (S' := TwoF w5 w6 t5 t6 a5 a6 c5 c6 (w6.heap.size + 1 + 1)) (fun _ h => h.1) _ _ _ _ ?_
                    replace hHeld := two_up (b := w6.heap.size + 1 + 1) hHeld (by exact blk_at (w := (w6.alloc (.cells #[.string t6.name, .slice a6 t6.args.length c6] 28)).alloc (.cells #[.string t5.name, .slice a5 t5.args.length c5, .string t6.name, .slice a6 t6.args.length c6] 28)) (by simp) _ _)
                    refine wpAnyH_take (i := 5) (v := ?_) rfl (by kernel_rfl) (by kernel_rfl) (by kernel_rfl) (fun _ _ _ h => h) (Or.inl ⟨by rfl, ?_⟩) (by assumption) ?_
                    rotate_left
                    · intro w' hSw
                      go_simp <;> with_reducible rfl
                    try simp only [Act.put, List.setIfInBounds_toArray, List.set_cons_zero, List.set_cons_succ, List.getElem_toArray, List.getElem_cons_succ, List.getElem_cons_zero]
                    refine wpAnyH_take (i := 6) (v := ?_) rfl (by kernel_rfl) (by kernel_rfl) (by kernel_rfl) (fun _ _ _ h => h) (Or.inl ⟨by rfl, ?_⟩) (by assumption) ?_
                    rotate_left
                    · intro w' hSw
                      have k4 : w'.cell? ⟨w6.heap.size + 1 + 1, 0, none⟩ = some (.string ⟨#[102]⟩) := hSw.2.cell 0
                      have k5 : w'.cell? ⟨w6.heap.size + 1 + 1, 1, none⟩ = some (.string ⟨#[103]⟩) := hSw.2.cell 1
                      go_simp <;> with_reducible rfl
                    try simp only [Act.put, List.setIfInBounds_toArray, List.set_cons_zero, List.set_cons_succ, List.getElem_toArray, List.getElem_cons_succ, List.getElem_cons_zero]
                    refine wpAnyH_take (i := 10) (v := ?_) rfl (by kernel_rfl) (by kernel_rfl) (by kernel_rfl) (fun _ _ _ h => h) (Or.inl ⟨by rfl, ?_⟩) (by assumption) ?_
                    rotate_left
                    · intro w' hSw
                      go_simp <;> with_reducible rfl
                    try simp only [Act.put, List.setIfInBounds_toArray, List.set_cons_zero, List.set_cons_succ, List.getElem_toArray, List.getElem_cons_succ, List.getElem_cons_zero]
                    refine wpAnyH_ready (rs := [12]) (by kernel_rfl) (by simp) ?_
                    refine AllReadyH.cons rfl (fun K hK => ?_) AllReadyH.nil
                    · go_simp
                      refine hK.out _ _ (by exact two_endB _ _ _ X6.out (Nat.ne_of_gt hlt5)) (fun hHeld => ?_)
                      clear hK K
                      try simp only [Act.put, List.setIfInBounds_toArray, List.set_cons_zero, List.set_cons_succ, List.getElem_toArray, List.getElem_cons_succ, List.getElem_cons_zero]
                      refine wpAnyH_take (i := 13) (v := ?_) rfl (by kernel_rfl) (by kernel_rfl) (by kernel_rfl) (fun _ _ _ h => h) (Or.inl ⟨by rfl, ?_⟩) (by assumption) ?_
                      rotate_left
                      · intro w' hSw
                        go_simp <;> with_reducible rfl
                      try simp only [Act.put, List.setIfInBounds_toArray, List.set_cons_zero, List.set_cons_succ, List.getElem_toArray, List.getElem_cons_succ, List.getElem_cons_zero]
                      refine wpAnyH_done (by kernel_rfl) ?_ _
                      go_wp2_with fail
                      refine bodyPost_ret (v := .tuple #[.agg #[.string ⟨#[102]⟩, .slice (some ⟨w6.heap.size + 1, 0, none⟩) 2 2], .int .i64 (n6 : Int)]) (by simp [results, Try.results26, go_sem, World.cell?_setCell_same, World.cell?_setCell_other, r0, r1, hlt56, hlt57, hlt58, World.cell?_alloc_old]) rfl ?_
                      exact grow_two B6.out hlt56 S56.out S6.out (fun b hb => Nat.lt_of_lt_of_le R1.out.lt hb) HZ6.out HBIG.out (ok_node (by decide) (by decide) (ok_two HE5.out HE6.out)) (by omega) (by exact (blk_at (by simp [World.setCell]) _ _).alloc _)
              · go_simp
                refine hK.out _ _ (by exact hHeld.alloc _) (fun hHeld => ?_)
                clear hK K
                try simp only [Act.put, List.setIfInBounds_toArray, List.set_cons_zero, List.set_cons_succ, List.getElem_toArray, List.getElem_cons_succ, List.getElem_cons_zero]
                refine wpAnyH_ready (rs := [0, 3]) (by kernel_rfl) (by simp) ?_
                refine AllReadyH.cons rfl (fun K hK => ?_) (AllReadyH.cons rfl (fun K hK => ?_) AllReadyH.nil)
                · go_simp
                  refine hK.out _ _ (by exact hHeld.alloc _) (fun hHeld => ?_)
                  clear hK K
                  try simp only [Act.put, List.setIfInBounds_toArray, List.set_cons_zero, List.set_cons_succ, List.getElem_toArray, List.getElem_cons_succ, List.getElem_cons_zero]
                  refine held_mono (S' := TwoF w5 w6 t5 t6 a5 a6 c5 c6 (w6.heap.size + 1 + 1)) (fun _ h => h.1) _ _ _ _ ?_
                  replace hHeld := two_up (b := w6.heap.size + 1 + 1) hHeld (by exact blk_at (w := (w6.alloc (.cells #[.string t6.name, .slice a6 t6.args.length c6] 28)).alloc (.cells #[.string t5.name, .slice a5 t5.args.length c5, .string t6.name, .slice a6 t6.args.length c6] 28)) (by simp) _ _)
                  refine wpAnyH_ready (rs := [3]) (by kernel_rfl) (by simp) ?_
                  refine AllReadyH.cons rfl (fun K hK => ?_) AllReadyH.nil
                  · go_simp
                    go_at_call 7
                    refine (HPK.out _).mono ?_
                    rintro e w7 ⟨rfl, rfl⟩
                    go_simp
                    refine hK.out _ _ (by exact hHeld) (fun hHeld => ?_)
                    clear hK K
                    try simp only [Act.put, List.setIfInBounds_toArray, List.set_cons_zero, List.set_cons_succ, List.getElem_toArray, List.getElem_cons_succ, List.getElem_cons_zero]
                    refine wpAnyH_take (i := 4) (v := ?_) rfl (by kernel_rfl) (by kernel_rfl) (by kernel_rfl) (fun _ _ _ h => h) (Or.inl ⟨by rfl, ?_⟩) (by assumption) ?_
                    rotate_left
                    · intro w' hSw
                      go_simp <;> with_reducible rfl
                    try simp only [Act.put, List.setIfInBounds_toArray, List.set_cons_zero, List.set_cons_succ, List.getElem_toArray, List.getElem_cons_succ, List.getElem_cons_zero]
                    refine wpAnyH_take (i := 5) (v := ?_) rfl (by kernel_rfl) (by kernel_rfl) (by kernel_rfl) (fun _ _ _ h => h) (Or.inl ⟨by rfl, ?_⟩) (by assumption) ?_
                    rotate_left
                    · intro w' hSw
                      go_simp <;> with_reducible rfl
                    try simp only [Act.put, List.setIfInBounds_toArray, List.set_cons_zero, List.set_cons_succ, List.getElem_toArray, List.getElem_cons_succ, List.getElem_cons_zero]
                    refine wpAnyH_take (i := 6) (v := ?_) rfl (by kernel_rfl) (by kernel_rfl) (by kernel_rfl) (fun _ _ _ h => h) (Or.inl ⟨by rfl, ?_⟩) (by assumption) ?_
                    rotate_left
                    · intro w' hSw
                      have k4 : w'.cell? ⟨w6.heap.size + 1 + 1, 0, none⟩ = some (.string ⟨#[102]⟩) := hSw.2.cell 0
                      have k5 : w'.cell? ⟨w6.heap.size + 1 + 1, 1, none⟩ = some (.string ⟨#[103]⟩) := hSw.2.cell 1
                      go_simp <;> with_reducible rfl
                    try simp only [Act.put, List.setIfInBounds_toArray, List.set_cons_zero, List.set_cons_succ, List.getElem_toArray, List.getElem_cons_succ, List.getElem_cons_zero]
                    refine wpAnyH_take (i := 10) (v := ?_) rfl (by kernel_rfl) (by kernel_rfl) (by kernel_rfl) (fun _ _ _ h => h) (Or.inl ⟨by rfl, ?_⟩) (by assumption) ?_
                    rotate_left
                    · intro w' hSw
                      go_simp <;> with_reducible rfl
                    try simp only [Act.put, List.setIfInBounds_toArray, List.set_cons_zero, List.set_cons_succ, List.getElem_toArray, List.getElem_cons_succ, List.getElem_cons_zero]
                    refine wpAnyH_ready (rs := [12]) (by kernel_rfl) (by simp) ?_
                    refine AllReadyH.cons rfl (fun K hK => ?_) AllReadyH.nil
                    · go_simp
                      refine hK.out _ _ (by exact two_endB _ _ _ X6.out (Nat.ne_of_gt hlt5)) (fun hHeld => ?_)
                      clear hK K
                      try simp only [Act.put, List.setIfInBounds_toArray, List.set_cons_zero, List.set_cons_succ, List.getElem_toArray, List.getElem_cons_succ, List.getElem_cons_zero]
                      refine wpAnyH_take (i := 13) (v := ?_) rfl (by kernel_rfl) (by kernel_rfl) (by kernel_rfl) (fun _ _ _ h => h) (Or.inl ⟨by rfl, ?_⟩) (by assumption) ?_
                      rotate_left
                      · intro w' hSw
                        go_simp <;> with_reducible rfl
                      try simp only [Act.put, List.setIfInBounds_toArray, List.set_cons_zero, List.set_cons_succ, List.getElem_toArray, List.getElem_cons_succ, List.getElem_cons_zero]
                      refine wpAnyH_done (by kernel_rfl) ?_ _
                      go_wp2_with fail
                      refine bodyPost_ret (v := .tuple #[.agg #[.string ⟨#[102]⟩, .slice (some ⟨w6.heap.size + 1, 0, none⟩) 2 2], .int .i64 (n6 : Int)]) (by simp [results, Try.results26, go_sem, World.cell?_setCell_same, World.cell?_setCell_other, r0, r1, hlt56, hlt57, hlt58, World.cell?_alloc_old]) rfl ?_
                      exact grow_two B6.out hlt56 S56.out S6.out (fun b hb => Nat.lt_of_lt_of_le R1.out.lt hb) HZ6.out HBIG.out (ok_node (by decide) (by decide) (ok_two HE5.out HE6.out)) (by omega) (by exact (blk_at (by simp [World.setCell]) _ _).alloc _)
                · go_simp
                  go_at_call 7
                  refine (HPK.out _).mono ?_
                  rintro e w7 ⟨rfl, rfl⟩
                  go_simp
                  refine hK.out _ _ (by exact hHeld) (fun hHeld => ?_)
                  clear hK K
                  try simp only [Act.put, List.setIfInBounds_toArray, List.set_cons_zero, List.set_cons_succ, List.getElem_toArray, List.getElem_cons_succ, List.getElem_cons_zero]
                  refine wpAnyH_take (i := 4) (v := ?_) rfl (by kernel_rfl) (by kernel_rfl) (by kernel_rfl) (fun _ _ _ h => h) (Or.inl ⟨by rfl, ?_⟩) (by assumption) ?_
                  rotate_left
                  · intro w' hSw
                    go_simp <;> with_reducible rfl
                  try simp only [Act.put, List.setIfInBounds_toArray, List.set_cons_zero, List.set_cons_succ, List.getElem_toArray, List.getElem_cons_succ, List.getElem_cons_zero]
                  refine wpAnyH_ready (rs := [0]) (by kernel_rfl) (by simp) ?_
                  refine AllReadyH.cons rfl (fun K hK => ?_) AllReadyH.nil
                  · go_simp
                    refine hK.out _ _ (by exact hHeld.alloc _) (fun hHeld => ?_)
                    clear hK K
                    try simp only [Act.put, List.setIfInBounds_toArray, List.set_cons_zero, List.set_cons_succ, List.getElem_toArray, List.getElem_cons_succ, List.getElem_cons_zero]
                    refine held_mono (S' := TwoF w5 w6 t5 t6 a5 a6 c5 c6 (w6.heap.size + 1 + 1)) (fun _ h => h.1) _ _ _ _ ?_
                    replace hHeld := two_up (b := w6.heap.size + 1 + 1) hHeld (by exact blk_at (w := (w6.alloc (.cells #[.string t6.name, .slice a6 t6.args.length c6] 28)).alloc (.cells #[.string t5.name, .slice a5 t5.args.length c5, .string t6.name, .slice a6 t6.args.length c6] 28)) (by simp) _ _)
                    refine wpAnyH_take (i := 5) (v := ?_) rfl (by kernel_rfl) (by kernel_rfl) (by kernel_rfl) (fun _ _ _ h => h) (Or.inl ⟨by rfl, ?_⟩) (by assumption) ?_
                    rotate_left
                    · intro w' hSw
                      go_simp <;> with_reducible rfl
                    try simp only [Act.put, List.setIfInBounds_toArray, List.set_cons_zero, List.set_cons_succ, List.getElem_toArray, List.getElem_cons_succ, List.getElem_cons_zero]
                    refine wpAnyH_take (i := 6) (v := ?_) rfl (by kernel_rfl) (by kernel_rfl) (by kernel_rfl) (fun _ _ _ h => h) (Or.inl ⟨by rfl, ?_⟩) (by assumption) ?_
                    rotate_left
                    · intro w' hSw
                      have k4 : w'.cell? ⟨w6.heap.size + 1 + 1, 0, none⟩ = some (.string ⟨#[102]⟩) := hSw.2.cell 0
                      have k5 : w'.cell? ⟨w6.heap.size + 1 + 1, 1, none⟩ = some (.string ⟨#[103]⟩) := hSw.2.cell 1
                      go_simp <;> with_reducible rfl
                    try simp only [Act.put, List.setIfInBounds_toArray, List.set_cons_zero, List.set_cons_succ, List.getElem_toArray, List.getElem_cons_succ, List.getElem_cons_zero]
                    refine wpAnyH_take (i := 10) (v := ?_) rfl (by kernel_rfl) (by kernel_rfl) (by kernel_rfl) (fun _ _ _ h => h) (Or.inl ⟨by rfl, ?_⟩) (by assumption) ?_
                    rotate_left
                    · intro w' hSw
                      go_simp <;> with_reducible rfl
                    try simp only [Act.put, List.setIfInBounds_toArray, List.set_cons_zero, List.set_cons_succ, List.getElem_toArray, List.getElem_cons_succ, List.getElem_cons_zero]
                    refine wpAnyH_ready (rs := [12]) (by kernel_rfl) (by simp) ?_
                    refine AllReadyH.cons rfl (fun K hK => ?_) AllReadyH.nil
                    · go_simp
                      refine hK.out _ _ (by exact two_endB _ _ _ X6.out (Nat.ne_of_gt hlt5)) (fun hHeld => ?_)
                      clear hK K
                      try simp only [Act.put, List.setIfInBounds_toArray, List.set_cons_zero, List.set_cons_succ, List.getElem_toArray, List.getElem_cons_succ, List.getElem_cons_zero]
                      refine wpAnyH_take (i := 13) (v := ?_) rfl (by kernel_rfl) (by kernel_rfl) (by kernel_rfl) (fun _ _ _ h => h) (Or.inl ⟨by rfl, ?_⟩) (by assumption) ?_
                      rotate_left
                      · intro w' hSw
                        go_simp <;> with_reducible rfl
                      try simp only [Act.put, List.setIfInBounds_toArray, List.set_cons_zero, List.set_cons_succ, List.getElem_toArray, List.getElem_cons_succ, List.getElem_cons_zero]
                      refine wpAnyH_done (by kernel_rfl) ?_ _
                      go_wp2_with fail
                      refine bodyPost_ret (v := .tuple #[.agg #[.string ⟨#[102]⟩, .slice (some ⟨w6.heap.size + 1, 0, none⟩) 2 2], .int .i64 (n6 : Int)]) (by simp [results, Try.results26, go_sem, World.cell?_setCell_same, World.cell?_setCell_other, r0, r1, hlt56, hlt57, hlt58, World.cell?_alloc_old]) rfl ?_
                      exact grow_two B6.out hlt56 S56.out S6.out (fun b hb => Nat.lt_of_lt_of_le R1.out.lt hb) HZ6.out HBIG.out (ok_node (by decide) (by decide) (ok_two HE5.out HE6.out)) (by omega) (by exact (blk_at (by simp [World.setCell]) _ _).alloc _)
            · clear hth hhb hh hn6 hn6' hz6 hz5 hn5 hn5' hc5 hc5' hc6 hc6' hi hm hc hr hzl h42 h41 h40 hk4 h1 hk1 h3
              have HS0 : TwoS w5 w6 t5 t6 a5 a6 c5 c6 (w6.alloc (.cells #[.string t6.name, .slice a6 t6.args.length c6] 28)).drew := ⟨X6.out.alloc _, Y6.out⟩
              refine wp_region_held_drew (S := TwoS w5 w6 t5 t6 a5 a6 c5 c6) (by kernel_rfl) HS0 (fun hHeld => ?_)
              refine wpAnyH_take (i := 1) (v := ?_) rfl (by kernel_rfl) (by kernel_rfl) (by kernel_rfl) (fun _ _ _ h => h) (Or.inl ⟨by rfl, ?_⟩) (by assumption) ?_
              rotate_left
              · intro w' hSw
                go_simp <;> with_reducible rfl
              try simp only [Act.put, List.setIfInBounds_toArray, List.set_cons_zero, List.set_cons_succ, List.getElem_toArray, List.getElem_cons_succ, List.getElem_cons_zero]
              refine wpAnyH_take (i := 2) (v := ?_) rfl (by kernel_rfl) (by kernel_rfl) (by kernel_rfl) (fun _ _ _ h => h) (Or.inl ⟨by rfl, ?_⟩) (by assumption) ?_
              rotate_left
              · intro w' hSw
                go_simp <;> with_reducible rfl
              try simp only [Act.put, List.setIfInBounds_toArray, List.set_cons_zero, List.set_cons_succ, List.getElem_toArray, List.getElem_cons_succ, List.getElem_cons_zero]
              refine wpAnyH_take (i := 7) (v := ?_) rfl (by kernel_rfl) (by kernel_rfl) (by kernel_rfl) (fun _ _ _ h => h) (Or.inl ⟨by rfl, ?_⟩) (by assumption) ?_
              rotate_left
              · intro w' hSw
                have k0 : w'.cell? ⟨w5.heap.size, 0, none⟩ = some (.string t5.name) := hSw.1.cell 0
                have k1 : w'.cell? ⟨w5.heap.size, 1, none⟩ = some (.slice a5 t5.args.length c5) := hSw.1.cell 1
                go_simp <;> with_reducible rfl
              try simp only [Act.put, List.setIfInBounds_toArray, List.set_cons_zero, List.set_cons_succ, List.getElem_toArray, List.getElem_cons_succ, List.getElem_cons_zero]
              refine wpAnyH_take (i := 8) (v := ?_) rfl (by kernel_rfl) (by kernel_rfl) (by kernel_rfl) (fun _ _ _ h => h) (Or.inl ⟨by rfl, ?_⟩) (by assumption) ?_
              rotate_left
              · intro w' hSw
                have k2 : w'.cell? ⟨w6.heap.size, 0, none⟩ = some (.string t6.name) := hSw.2.cell 0
                have k3 : w'.cell? ⟨w6.heap.size, 1, none⟩ = some (.slice a6 t6.args.length c6) := hSw.2.cell 1
                go_simp <;> with_reducible rfl
              try simp only [Act.put, List.setIfInBounds_toArray, List.set_cons_zero, List.set_cons_succ, List.getElem_toArray, List.getElem_cons_succ, List.getElem_cons_zero]
              refine wpAnyH_take (i := 11) (v := ?_) rfl (by kernel_rfl) (by kernel_rfl) (by kernel_rfl) (fun _ _ _ h => h) (Or.inl ⟨by rfl, ?_⟩) (by assumption) ?_
              rotate_left
              · intro w' hSw
                go_simp <;> with_reducible rfl
              try simp only [Act.put, List.setIfInBounds_toArray, List.set_cons_zero, List.set_cons_succ, List.getElem_toArray, List.getElem_cons_succ, List.getElem_cons_zero]
              refine wpAnyH_ready (rs := [0, 3, 9]) (by kernel_rfl) (by simp) ?_
              refine AllReadyH.cons rfl (fun K hK => ?_) (AllReadyH.cons rfl (fun K hK => ?_) (AllReadyH.cons rfl (fun K hK => ?_) AllReadyH.nil))
              · go_simp
                refine hK.out _ _ (by exact hHeld.alloc _) (fun hHeld => ?_)
                clear hK K
                try simp only [Act.put, List.setIfInBounds_toArray, List.set_cons_zero, List.set_cons_succ, List.getElem_toArray, List.getElem_cons_succ, List.getElem_cons_zero]
                refine held_mono (S' := TwoF w5 w6 t5 t6 a5 a6 c5 c6 (w6.heap.size + 1)) (fun _ h => h.1) _ _ _ _ ?_
                replace hHeld := two_up (b := w6.heap.size + 1) hHeld (by exact blk_at (w := w6.alloc (.cells #[.string t6.name, .slice a6 t6.args.length c6] 28)) (by simp) _ _)
                refine wpAnyH_ready (rs := [3, 9]) (by kernel_rfl) (by simp) ?_
                refine AllReadyH.cons rfl (fun K hK => ?_) (AllReadyH.cons rfl (fun K hK => ?_) AllReadyH.nil)
                · go_simp
                  go_at_call 7
                  refine (HPK.out _).mono ?_
                  rintro e w7 ⟨rfl, rfl⟩
                  go_simp
                  refine hK.out _ _ (by exact hHeld) (fun hHeld => ?_)
                  clear hK K
                  try simp only [Act.put, List.setIfInBounds_toArray, List.set_cons_zero, List.set_cons_succ, List.getElem_toArray, List.getElem_cons_succ, List.getElem_cons_zero]
                  refine wpAnyH_take (i := 4) (v := ?_) rfl (by kernel_rfl) (by kernel_rfl) (by kernel_rfl) (fun _ _ _ h => h) (Or.inl ⟨by rfl, ?_⟩) (by assumption) ?_
                  rotate_left
                  · intro w' hSw
                    go_simp <;> with_reducible rfl
                  try simp only [Act.put, List.setIfInBounds_toArray, List.set_cons_zero, List.set_cons_succ, List.getElem_toArray, List.getElem_cons_succ, List.getElem_cons_zero]
                  refine wpAnyH_take (i := 5) (v := ?_) rfl (by kernel_rfl) (by kernel_rfl) (by kernel_rfl) (fun _ _ _ h => h) (Or.inl ⟨by rfl, ?_⟩) (by assumption) ?_
                  rotate_left
                  · intro w' hSw
                    go_simp <;> with_reducible rfl
                  try simp only [Act.put, List.setIfInBounds_toArray, List.set_cons_zero, List.set_cons_succ, List.getElem_toArray, List.getElem_cons_succ, List.getElem_cons_zero]
                  refine wpAnyH_take (i := 6) (v := ?_) rfl (by kernel_rfl) (by kernel_rfl) (by kernel_rfl) (fun _ _ _ h => h) (Or.inl ⟨by rfl, ?_⟩) (by assumption) ?_
                  rotate_left
                  · intro w' hSw
                    have k4 : w'.cell? ⟨w6.heap.size + 1, 0, none⟩ = some (.string ⟨#[102]⟩) := hSw.2.cell 0
                    have k5 : w'.cell? ⟨w6.heap.size + 1, 1, none⟩ = some (.string ⟨#[103]⟩) := hSw.2.cell 1
                    go_simp <;> with_reducible rfl
                  try simp only [Act.put, List.setIfInBounds_toArray, List.set_cons_zero, List.set_cons_succ, List.getElem_toArray, List.getElem_cons_succ, List.getElem_cons_zero]
                  refine wpAnyH_ready (rs := [9]) (by kernel_rfl) (by simp) ?_
                  refine AllReadyH.cons rfl (fun K hK => ?_) AllReadyH.nil
                  · go_simp
                    refine hK.out _ _ (by exact hHeld.alloc _) (fun hHeld => ?_)
                    clear hK K
                    try simp only [Act.put, List.setIfInBounds_toArray, List.set_cons_zero, List.set_cons_succ, List.getElem_toArray, List.getElem_cons_succ, List.getElem_cons_zero]
                    refine wpAnyH_take (i := 10) (v := ?_) rfl (by kernel_rfl) (by kernel_rfl) (by kernel_rfl) (fun _ _ _ h => h) (Or.inl ⟨by rfl, ?_⟩) (by assumption) ?_
                    rotate_left
                    · intro w' hSw
                      go_simp <;> with_reducible rfl
                    try simp only [Act.put, List.setIfInBounds_toArray, List.set_cons_zero, List.set_cons_succ, List.getElem_toArray, List.getElem_cons_succ, List.getElem_cons_zero]
                    refine wpAnyH_ready (rs := [12]) (by kernel_rfl) (by simp) ?_
                    refine AllReadyH.cons rfl (fun K hK => ?_) AllReadyH.nil
                    · go_simp
                      refine hK.out _ _ (by exact two_endA _ _ _ X6.out (Nat.ne_of_gt hlt5)) (fun hHeld => ?_)
                      clear hK K
                      try simp only [Act.put, List.setIfInBounds_toArray, List.set_cons_zero, List.set_cons_succ, List.getElem_toArray, List.getElem_cons_succ, List.getElem_cons_zero]
                      refine wpAnyH_take (i := 13) (v := ?_) rfl (by kernel_rfl) (by kernel_rfl) (by kernel_rfl) (fun _ _ _ h => h) (Or.inl ⟨by rfl, ?_⟩) (by assumption) ?_
                      rotate_left
                      · intro w' hSw
                        go_simp <;> with_reducible rfl
                      try simp only [Act.put, List.setIfInBounds_toArray, List.set_cons_zero, List.set_cons_succ, List.getElem_toArray, List.getElem_cons_succ, List.getElem_cons_zero]
                      refine wpAnyH_done (by kernel_rfl) ?_ _
                      go_wp2_with fail
                      refine bodyPost_ret (v := .tuple #[.agg #[.string ⟨#[103]⟩, .slice (some ⟨w6.heap.size + 1 + 1, 0, none⟩) 2 2], .int .i64 (n6 : Int)]) (by simp [results, Try.results26, go_sem, World.cell?_setCell_same, World.cell?_setCell_other, r0, r1, hlt56, hlt57, hlt58, World.cell?_alloc_old]) rfl ?_
                      exact grow_two B6.out hlt56 S56.out S6.out (fun b hb => Nat.lt_of_lt_of_le R1.out.lt hb) HZ6.out HBIG.out (ok_node (by decide) (by decide) (ok_two HE5.out HE6.out)) (by omega) (by exact blk_at (by simp [World.setCell]) _ _)
                · go_simp
                  refine hK.out _ _ (by exact hHeld.alloc _) (fun hHeld => ?_)
                  clear hK K
                  try simp only [Act.put, List.setIfInBounds_toArray, List.set_cons_zero, List.set_cons_succ, List.getElem_toArray, List.getElem_cons_succ, List.getElem_cons_zero]
                  refine wpAnyH_ready (rs := [3]) (by kernel_rfl) (by simp) ?_
                  refine AllReadyH.cons rfl (fun K hK => ?_) AllReadyH.nil
                  · go_simp
                    go_at_call 7
                    refine (HPK.out _).mono ?_
                    rintro e w7 ⟨rfl, rfl⟩
                    go_simp
                    refine hK.out _ _ (by exact hHeld) (fun hHeld => ?_)
                    clear hK K
                    try simp only [Act.put, List.setIfInBounds_toArray, List.set_cons_zero, List.set_cons_succ, List.getElem_toArray, List.getElem_cons_succ, List.getElem_cons_zero]
                    refine wpAnyH_take (i := 4) (v := ?_) rfl (by kernel_rfl) (by kernel_rfl) (by kernel_rfl) (fun _ _ _ h => h) (Or.inl ⟨by rfl, ?_⟩) (by assumption) ?_
                    rotate_left
                    · intro w' hSw
                      go_simp <;> with_reducible rfl
                    try simp only [Act.put, List.setIfInBounds_toArray, List.set_cons_zero, List.set_cons_succ, List.getElem_toArray, List.getElem_cons_succ, List.getElem_cons_zero]
                    refine wpAnyH_take (i := 5) (v := ?_) rfl (by kernel_rfl) (by kernel_rfl) (by kernel_rfl) (fun _ _ _ h => h) (Or.inl ⟨by rfl, ?_⟩) (by assumption) ?_
                    rotate_left
                    · intro w' hSw
                      go_simp <;> with_reducible rfl
                    try simp only [Act.put, List.setIfInBounds_toArray, List.set_cons_zero, List.set_cons_succ, List.getElem_toArray, List.getElem_cons_succ, List.getElem_cons_zero]
                    refine wpAnyH_take (i := 6) (v := ?_) rfl (by kernel_rfl) (by kernel_rfl) (by kernel_rfl) (fun _ _ _ h => h) (Or.inl ⟨by rfl, ?_⟩) (by assumption) ?_
                    rotate_left
                    · intro w' hSw
                      have k4 : w'.cell? ⟨w6.heap.size + 1, 0, none⟩ = some (.string ⟨#[102]⟩) := hSw.2.cell 0
                      have k5 : w'.cell? ⟨w6.heap.size + 1, 1, none⟩ = some (.string ⟨#[103]⟩) := hSw.2.cell 1
                      go_simp <;> with_reducible rfl
                    try simp only [Act.put, List.setIfInBounds_toArray, List.set_cons_zero, List.set_cons_succ, List.getElem_toArray, List.getElem_cons_succ, List.getElem_cons_zero]
                    refine wpAnyH_take (i := 10) (v := ?_) rfl (by kernel_rfl) (by kernel_rfl) (by kernel_rfl) (fun _ _ _ h => h) (Or.inl ⟨by rfl, ?_⟩) (by assumption) ?_
                    rotate_left
                    · intro w' hSw
                      go_simp <;> with_reducible rfl
                    try simp only [Act.put, List.setIfInBounds_toArray, List.set_cons_zero, List.set_cons_succ, List.getElem_toArray, List.getElem_cons_succ, List.getElem_cons_zero]
                    refine wpAnyH_ready (rs := [12]) (by kernel_rfl) (by simp) ?_
                    refine AllReadyH.cons rfl (fun K hK => ?_) AllReadyH.nil
                    · go_simp
                      refine hK.out _ _ (by exact two_endA _ _ _ X6.out (Nat.ne_of_gt hlt5)) (fun hHeld => ?_)
                      clear hK K
                      try simp only [Act.put, List.setIfInBounds_toArray, List.set_cons_zero, List.set_cons_succ, List.getElem_toArray, List.getElem_cons_succ, List.getElem_cons_zero]
                      refine wpAnyH_take (i := 13) (v := ?_) rfl (by kernel_rfl) (by kernel_rfl) (by kernel_rfl) (fun _ _ _ h => h) (Or.inl ⟨by rfl, ?_⟩) (by assumption) ?_
                      rotate_left
                      · intro w' hSw
                        go_simp <;> with_reducible rfl
                      try simp only [Act.put, List.setIfInBounds_toArray, List.set_cons_zero, List.set_cons_succ, List.getElem_toArray, List.getElem_cons_succ, List.getElem_cons_zero]
                      refine wpAnyH_done (by kernel_rfl) ?_ _
                      go_wp2_with fail
                      refine bodyPost_ret (v := .tuple #[.agg #[.string ⟨#[103]⟩, .slice (some ⟨w6.heap.size + 1 + 1, 0, none⟩) 2 2], .int .i64 (n6 : Int)]) (by simp [results, Try.results26, go_sem, World.cell?_setCell_same, World.cell?_setCell_other, r0, r1, hlt56, hlt57, hlt58, World.cell?_alloc_old]) rfl ?_
                      exact grow_two B6.out hlt56 S56.out S6.out (fun b hb => Nat.lt_of_lt_of_le R1.out.lt hb) HZ6.out HBIG.out (ok_node (by decide) (by decide) (ok_two HE5.out HE6.out)) (by omega) (by exact blk_at (by simp [World.setCell]) _ _)
              · go_simp
                go_at_call 7
                refine (HPK.out _).mono ?_
                rintro e w7 ⟨rfl, rfl⟩
                go_simp
                refine hK.out _ _ (by exact hHeld) (fun hHeld => ?_)
                clear hK K
                try simp only [Act.put, List.setIfInBounds_toArray, List.set_cons_zero, List.set_cons_succ, List.getElem_toArray, List.getElem_cons_succ, List.getElem_cons_zero]
                refine wpAnyH_take (i := 4) (v := ?_) rfl (by kernel_rfl) (by kernel_rfl) (by kernel_rfl) (fun _ _ _ h => h) (Or.inl ⟨by rfl, ?_⟩) (by assumption) ?_
                rotate_left
                · intro w' hSw
                  go_simp <;> with_reducible rfl
                try simp only [Act.put, List.setIfInBounds_toArray, List.set_cons_zero, List.set_cons_succ, List.getElem_toArray, List.getElem_cons_succ, List.getElem_cons_zero]
                refine wpAnyH_ready (rs := [0, 9]) (by kernel_rfl) (by simp) ?_
                refine AllReadyH.cons rfl (fun K hK => ?_) (AllReadyH.cons rfl (fun K hK => ?_) AllReadyH.nil)
                · go_simp
                  refine hK.out _ _ (by exact hHeld.alloc _) (fun hHeld => ?_)
                  clear hK K
                  try simp only [Act.put, List.setIfInBounds_toArray, List.set_cons_zero, List.set_cons_succ, List.getElem_toArray, List.getElem_cons_succ, List.getElem_cons_zero]
                  refine held_mono (S' := TwoF w5 w6 t5 t6 a5 a6 c5 c6 (w6.heap.size + 1)) (fun _ h => h.1) _ _ _ _ ?_
                  replace hHeld := two_up (b := w6.heap.size + 1) hHeld (by exact blk_at (w := w6.alloc (.cells #[.string t6.name, .slice a6 t6.args.length c6] 28)) (by simp) _ _)
                  refine wpAnyH_take (i := 5) (v := ?_) rfl (by kernel_rfl) (by kernel_rfl) (by kernel_rfl) (fun _ _ _ h => h) (Or.inl ⟨by rfl, ?_⟩) (by assumption) ?_
                  rotate_left
                  · intro w' hSw
                    go_simp <;> with_reducible rfl
                  try simp only [Act.put, List.setIfInBounds_toArray, List.set_cons_zero, List.set_cons_succ, List.getElem_toArray, List.getElem_cons_succ, List.getElem_cons_zero]
                  refine wpAnyH_take (i := 6) (v := ?_) rfl (by kernel_rfl) (by kernel_rfl) (by kernel_rfl) (fun _ _ _ h => h) (Or.inl ⟨by rfl, ?_⟩) (by assumption) ?_
                  rotate_left
                  · intro w' hSw
                    have k4 : w'.cell? ⟨w6.heap.size + 1, 0, none⟩ = some (.string ⟨#[102]⟩) := hSw.2.cell 0
                    have k5 : w'.cell? ⟨w6.heap.size + 1, 1, none⟩ = some (.string ⟨#[103]⟩) := hSw.2.cell 1
                    go_simp <;> with_reducible rfl
                  try simp only [Act.put, List.setIfInBounds_toArray, List.set_cons_zero, List.set_cons_succ, List.getElem_toArray, List.getElem_cons_succ, List.getElem_cons_zero]
                  refine wpAnyH_ready (rs := [9]) (by kernel_rfl) (by simp) ?_
                  refine AllReadyH.cons rfl (fun K hK => ?_) AllReadyH.nil
                  · go_simp
                    refine hK.out _ _ (by exact hHeld.alloc _) (fun hHeld => ?_)
                    clear hK K
                    try simp only [Act.put, List.setIfInBounds_toArray, List.set_cons_zero, List.set_cons_succ, List.getElem_toArray, List.getElem_cons_succ, List.getElem_cons_zero]
                    refine wpAnyH_take (i := 10) (v := ?_) rfl (by kernel_rfl) (by kernel_rfl) (by kernel_rfl) (fun _ _ _ h => h) (Or.inl ⟨by rfl, ?_⟩) (by assumption) ?_
                    rotate_left
                    · intro w' hSw
                      go_simp <;> with_reducible rfl
                    try simp only [Act.put, List.setIfInBounds_toArray, List.set_cons_zero, List.set_cons_succ, List.getElem_toArray, List.getElem_cons_succ, List.getElem_cons_zero]
                    refine wpAnyH_ready (rs := [12]) (by kernel_rfl) (by simp) ?_
                    refine AllReadyH.cons rfl (fun K hK => ?_) AllReadyH.nil
                    · go_simp
                      refine hK.out _ _ (by exact two_endA _ _ _ X6.out (Nat.ne_of_gt hlt5)) (fun hHeld => ?_)
                      clear hK K
                      try simp only [Act.put, List.setIfInBounds_toArray, List.set_cons_zero, List.set_cons_succ, List.getElem_toArray, List.getElem_cons_succ, List.getElem_cons_zero]
                      refine wpAnyH_take (i := 13) (v := ?_) rfl (by kernel_rfl) (by kernel_rfl) (by kernel_rfl) (fun _ _ _ h => h) (Or.inl ⟨by rfl, ?_⟩) (by assumption) ?_
                      rotate_left
                      · intro w' hSw
                        go_simp <;> with_reducible rfl
                      try simp only [Act.put, List.setIfInBounds_toArray, List.set_cons_zero, List.set_cons_succ, List.getElem_toArray, List.getElem_cons_succ, List.getElem_cons_zero]
                      refine wpAnyH_done (by kernel_rfl) ?_ _
                      go_wp2_with fail
                      refine bodyPost_ret (v := .tuple #[.agg #[.string ⟨#[103]⟩, .slice (some ⟨w6.heap.size + 1 + 1, 0, none⟩) 2 2], .int .i64 (n6 : Int)]) (by simp [results, Try.results26, go_sem, World.cell?_setCell_same, World.cell?_setCell_other, r0, r1, hlt56, hlt57, hlt58, World.cell?_alloc_old]) rfl ?_
                      exact grow_two B6.out hlt56 S56.out S6.out (fun b hb => Nat.lt_of_lt_of_le R1.out.lt hb) HZ6.out HBIG.out (ok_node (by decide) (by decide) (ok_two HE5.out HE6.out)) (by omega) (by exact blk_at (by simp [World.setCell]) _ _)
                · go_simp
                  refine hK.out _ _ (by exact hHeld.alloc _) (fun hHeld => ?_)
                  clear hK K
                  try simp only [Act.put, List.setIfInBounds_toArray, List.set_cons_zero, List.set_cons_succ, List.getElem_toArray, List.getElem_cons_succ, List.getElem_cons_zero]
                  refine wpAnyH_ready (rs := [0]) (by kernel_rfl) (by simp) ?_
                  refine AllReadyH.cons rfl (fun K hK => ?_) AllReadyH.nil
                  · go_simp
                    refine hK.out _ _ (by exact hHeld.alloc _) (fun hHeld => ?_)
                    clear hK K
                    try simp only [Act.put, List.setIfInBounds_toArray, List.set_cons_zero, List.set_cons_succ, List.getElem_toArray, List.getElem_cons_succ, List.getElem_cons_zero]
                    refine held_mono (S' := TwoF w5 w6 t5 t6 a5 a6 c5 c6 (w6.heap.size + 1 + 1)) (fun _ h => h.1) _ _ _ _ ?_
                    replace hHeld := two_up (b := w6.heap.size + 1 + 1) hHeld (by exact blk_at (w := (w6.alloc (.cells #[.string t6.name, .slice a6 t6.args.length c6] 28)).alloc (.cells #[.string t5.name, .slice a5 t5.args.length c5, .string t6.name, .slice a6 t6.args.length c6] 28)) (by simp) _ _)
                    refine wpAnyH_take (i := 5) (v := ?_) rfl (by kernel_rfl) (by kernel_rfl) (by kernel_rfl) (fun _ _ _ h => h) (Or.inl ⟨by rfl, ?_⟩) (by assumption) ?_
                    rotate_left
                    · intro w' hSw
                      go_simp <;> with_reducible rfl
                    try simp only [Act.put, List.setIfInBounds_toArray, List.set_cons_zero, List.set_cons_succ, List.getElem_toArray, List.getElem_cons_succ, List.getElem_cons_zero]
                    refine wpAnyH_take (i := 6) (v := ?_) rfl (by kernel_rfl) (by kernel_rfl) (by kernel_rfl) (fun _ _ _ h => h) (Or.inl ⟨by rfl, ?_⟩) (by assumption) ?_
                    rotate_left
                    · intro w' hSw
                      have k4 : w'.cell? ⟨w6.heap.size + 1 + 1, 0, none⟩ = some (.string ⟨#[102]⟩) := hSw.2.cell 0
                      have k5 : w'.cell? ⟨w6.heap.size + 1 + 1, 1, none⟩ = some (.string ⟨#[103]⟩) := hSw.2.cell 1
                      go_simp <;> with_reducible rfl
                    try simp only [Act.put, List.setIfInBounds_toArray, List.set_cons_zero, List.set_cons_succ, List.getElem_toArray, List.getElem_cons_succ, List.getElem_cons_zero]
                    refine wpAnyH_take (i := 10) (v := ?_) rfl (by kernel_rfl) (by kernel_rfl) (by kernel_rfl) (fun _ _ _ h => h) (Or.inl ⟨by rfl, ?_⟩) (by assumption) ?_
                    rotate_left
                    · intro w' hSw
                      go_simp <;> with_reducible rfl
                    try simp only [Act.put, List.setIfInBounds_toArray, List.set_cons_zero, List.set_cons_succ, List.getElem_toArray, List.getElem_cons_succ, List.getElem_cons_zero]
                    refine wpAnyH_ready (rs := [12]) (by kernel_rfl) (by simp) ?_
                    refine AllReadyH.cons rfl (fun K hK => ?_) AllReadyH.nil
                    · go_simp
                      refine hK.out _ _ (by exact two_endB _ _ _ X6.out (Nat.ne_of_gt hlt5)) (fun hHeld => ?_)
                      clear hK K
                      try simp only [Act.put, List.setIfInBounds_toArray, List.set_cons_zero, List.set_cons_succ, List.getElem_toArray, List.getElem_cons_succ, List.getElem_cons_zero]
                      refine wpAnyH_take (i := 13) (v := ?_) rfl (by kernel_rfl) (by kernel_rfl) (by kernel_rfl) (fun _ _ _ h => h) (Or.inl ⟨by rfl, ?_⟩) (by assumption) ?_
                      rotate_left
                      · intro w' hSw
                        go_simp <;> with_reducible rfl
                      try simp only [Act.put, List.setIfInBounds_toArray, List.set_cons_zero, List.set_cons_succ, List.getElem_toArray, List.getElem_cons_succ, List.getElem_cons_zero]
                      refine wpAnyH_done (by kernel_rfl) ?_ _
                      go_wp2_with fail
                      refine bodyPost_ret (v := .tuple #[.agg #[.string ⟨#[103]⟩, .slice (some ⟨w6.heap.size + 1, 0, none⟩) 2 2], .int .i64 (n6 : Int)]) (by simp [results, Try.results26, go_sem, World.cell?_setCell_same, World.cell?_setCell_other, r0, r1, hlt56, hlt57, hlt58, World.cell?_alloc_old]) rfl ?_
                      exact grow_two B6.out hlt56 S56.out S6.out (fun b hb => Nat.lt_of_lt_of_le R1.out.lt hb) HZ6.out HBIG.out (ok_node (by decide) (by decide) (ok_two HE5.out HE6.out)) (by omega) (by exact (blk_at (by simp [World.setCell]) _ _).alloc _)
              · go_simp
                refine hK.out _ _ (by exact hHeld.alloc _) (fun hHeld => ?_)
                clear hK K
                try simp only [Act.put, List.setIfInBounds_toArray, List.set_cons_zero, List.set_cons_succ, List.getElem_toArray, List.getElem_cons_succ, List.getElem_cons_zero]
                refine wpAnyH_ready (rs := [0, 3]) (by kernel_rfl) (by simp) ?_
                refine AllReadyH.cons rfl (fun K hK => ?_) (AllReadyH.cons rfl (fun K hK => ?_) AllReadyH.nil)
                · go_simp
                  refine hK.out _ _ (by exact hHeld.alloc _) (fun hHeld => ?_)
                  clear hK K
                  try simp only [Act.put, List.setIfInBounds_toArray, List.set_cons_zero, List.set_cons_succ, List.getElem_toArray, List.getElem_cons_succ, List.getElem_cons_zero]
                  refine held_mono (S' := TwoF w5 w6 t5 t6 a5 a6 c5 c6 (w6.heap.size + 1 + 1)) (fun _ h => h.1) _ _ _ _ ?_
                  replace hHeld := two_up (b := w6.heap.size + 1 + 1) hHeld (by exact blk_at (w := (w6.alloc (.cells #[.string t6.name, .slice a6 t6.args.length c6] 28)).alloc (.cells #[.string t5.name, .slice a5 t5.args.length c5, .string t6.name, .slice a6 t6.args.length c6] 28)) (by simp) _ _)
                  refine wpAnyH_ready (rs := [3]) (by kernel_rfl) (by simp) ?_
                  refine AllReadyH.cons rfl (fun K hK => ?_) AllReadyH.nil
                  · go_simp
                    go_at_call 7
                    refine (HPK.out _).mono ?_
                    rintro e w7 ⟨rfl, rfl⟩
                    go_simp
                    refine hK.out _ _ (by exact hHeld) (fun hHeld => ?_)
                    clear hK K
                    try simp only [Act.put, List.setIfInBounds_toArray, List.set_cons_zero, List.set_cons_succ, List.getElem_toArray, List.getElem_cons_succ, List.getElem_cons_zero]
                    refine wpAnyH_take (i := 4) (v := ?_) rfl (by kernel_rfl) (by kernel_rfl) (by kernel_rfl) (fun _ _ _ h => h) (Or.inl ⟨by rfl, ?_⟩) (by assumption) ?_
                    rotate_left
                    · intro w' hSw
                      go_simp <;> with_reducible rfl
                    try simp only [Act.put, List.setIfInBounds_toArray, List.set_cons_zero, List.set_cons_succ, List.getElem_toArray, List.getElem_cons_succ, List.getElem_cons_zero]
                    refine wpAnyH_take (i := 5) (v := ?_) rfl (by kernel_rfl) (by kernel_rfl) (by kernel_rfl) (fun _ _ _ h => h) (Or.inl ⟨by rfl, ?_⟩) (by assumption) ?_
                    rotate_left
                    · intro w' hSw
                      go_simp <;> with_reducible rfl
                    try simp only [Act.put, List.setIfInBounds_toArray, List.set_cons_zero, List.set_cons_succ, List.getElem_toArray, List.getElem_cons_succ, List.getElem_cons_zero]
                    refine wpAnyH_take (i := 6) (v := ?_) rfl (by kernel_rfl) (by kernel_rfl) (by kernel_rfl) (fun _ _ _ h => h) (Or.inl ⟨by rfl, ?_⟩) (by assumption) ?_
                    rotate_left
                    · intro w' hSw
                      have k4 : w'.cell? ⟨w6.heap.size + 1 + 1, 0, none⟩ = some (.string ⟨#[102]⟩) := hSw.2.cell 0
                      have k5 : w'.cell? ⟨w6.heap.size + 1 + 1, 1, none⟩ = some (.string ⟨#[103]⟩) := hSw.2.cell 1
                      go_simp <;> with_reducible rfl
                    try simp only [Act.put, List.setIfInBounds_toArray, List.set_cons_zero, List.set_cons_succ, List.getElem_toArray, List.getElem_cons_succ, List.getElem_cons_zero]
                    refine wpAnyH_take (i := 10) (v := ?_) rfl (by kernel_rfl) (by kernel_rfl) (by kernel_rfl) (fun _ _ _ h => h) (Or.inl ⟨by rfl, ?_⟩) (by assumption) ?_
                    rotate_left
                    · intro w' hSw
                      go_simp <;> with_reducible rfl
                    try simp only [Act.put, List.setIfInBounds_toArray, List.set_cons_zero, List.set_cons_succ, List.getElem_toArray, List.getElem_cons_succ, List.getElem_cons_zero]
                    refine wpAnyH_ready (rs := [12]) (by kernel_rfl) (by simp) ?_
                    refine AllReadyH.cons rfl (fun K hK => ?_) AllReadyH.nil
                    · go_simp
                      refine hK.out _ _ (by exact two_endB _ _ _ X6.out (Nat.ne_of_gt hlt5)) (fun hHeld => ?_)
                      clear hK K
                      try simp only [Act.put, List.setIfInBounds_toArray, List.set_cons_zero, List.set_cons_succ, List.getElem_toArray, List.getElem_cons_succ, List.getElem_cons_zero]
                      refine wpAnyH_take (i := 13) (v := ?_) rfl (by kernel_rfl) (by kernel_rfl) (by kernel_rfl) (fun _ _ _ h => h) (Or.inl ⟨by rfl, ?_⟩) (by assumption) ?_
                      rotate_left
                      · intro w' hSw
                        go_simp <;> with_reducible rfl
                      try simp only [Act.put, List.setIfInBounds_toArray, List.set_cons_zero, List.set_cons_succ, List.getElem_toArray, List.getElem_cons_succ, List.getElem_cons_zero]
                      refine wpAnyH_done (by kernel_rfl) ?_ _
                      go_wp2_with fail
                      refine bodyPost_ret (v := .tuple #[.agg #[.string ⟨#[103]⟩, .slice (some ⟨w6.heap.size + 1, 0, none⟩) 2 2], .int .i64 (n6 : Int)]) (by simp [results, Try.results26, go_sem, World.cell?_setCell_same, World.cell?_setCell_other, r0, r1, hlt56, hlt57, hlt58, World.cell?_alloc_old]) rfl ?_
                      exact grow_two B6.out hlt56 S56.out S6.out (fun b hb => Nat.lt_of_lt_of_le R1.out.lt hb) HZ6.out HBIG.out (ok_node (by decide) (by decide) (ok_two HE5.out HE6.out)) (by omega) (by exact (blk_at (by simp [World.setCell]) _ _).alloc _)
                · go_simp
                  go_at_call 7
                  refine (HPK.out _).mono ?_
                  rintro e w7 ⟨rfl, rfl⟩
                  go_simp
                  refine hK.out _ _ (by exact hHeld) (fun hHeld => ?_)
                  clear hK K
                  try simp only [Act.put, List.setIfInBounds_toArray, List.set_cons_zero, List.set_cons_succ, List.getElem_toArray, List.getElem_cons_succ, List.getElem_cons_zero]
                  refine wpAnyH_take (i := 4) (v := ?_) rfl (by kernel_rfl) (by kernel_rfl) (by kernel_rfl) (fun _ _ _ h => h) (Or.inl ⟨by rfl, ?_⟩) (by assumption) ?_
                  rotate_left
                  · intro w' hSw
                    go_simp <;> with_reducible rfl
                  try simp only [Act.put, List.setIfInBounds_toArray, List.set_cons_zero, List.set_cons_succ, List.getElem_toArray, List.getElem_cons_succ, List.getElem_cons_zero]
                  refine wpAnyH_ready (rs := [0]) (by kernel_rfl) (by simp) ?_
                  refine AllReadyH.cons rfl (fun K hK => ?_) AllReadyH.nil
                  · go_simp
                    refine hK.out _ _ (by exact hHeld.alloc _) (fun hHeld => ?_)
                    clear hK K
                    try simp only [Act.put, List.setIfInBounds_toArray, List.set_cons_zero, List.set_cons_succ, List.getElem_toArray, List.getElem_cons_succ, List.getElem_cons_zero]
                    refine held_mono (S' := TwoF w5 w6 t5 t6 a5 a6 c5 c6 (w6.heap.size + 1 + 1)) (fun _ h => h.1) _ _ _ _ ?_
                    replace hHeld := two_up (b := w6.heap.size + 1 + 1) hHeld (by exact blk_at (w := (w6.alloc (.cells #[.string t6.name, .slice a6 t6.args.length c6] 28)).alloc (.cells #[.string t5.name, .slice a5 t5.args.length c5, .string t6.name, .slice a6 t6.args.length c6] 28)) (by simp) _ _)
                    refine wpAnyH_take (i := 5) (v := ?_) rfl (by kernel_rfl) (by kernel_rfl) (by kernel_rfl) (fun _ _ _ h => h) (Or.inl ⟨by rfl, ?_⟩) (by assumption) ?_
                    rotate_left
                    · intro w' hSw
                      go_simp <;> with_reducible rfl
                    try simp only [Act.put, List.setIfInBounds_toArray, List.set_cons_zero, List.set_cons_succ, List.getElem_toArray, List.getElem_cons_succ, List.getElem_cons_zero]
                    refine wpAnyH_take (i := 6) (v := ?_) rfl (by kernel_rfl) (by kernel_rfl) (by kernel_rfl) (fun _ _ _ h => h) (Or.inl ⟨by rfl, ?_⟩) (by assumption) ?_
                    rotate_left
                    · intro w' hSw
                      have k4 : w'.cell? ⟨w6.heap.size + 1 + 1, 0, none⟩ = some (.string ⟨#[102]⟩) := hSw.2.cell 0
                      have k5 : w'.cell? ⟨w6.heap.size + 1 + 1, 1, none⟩ = some (.string ⟨#[103]⟩) := hSw.2.cell 1
                      go_simp <;> with_reducible rfl
                    try simp only [Act.put, List.setIfInBounds_toArray, List.set_cons_zero, List.set_cons_succ, List.getElem_toArray, List.getElem_cons_succ, List.getElem_cons_zero]
                    refine wpAnyH_take (i := 10) (v := ?_) rfl (by kernel_rfl) (by kernel_rfl) (by kernel_rfl) (fun _ _ _ h => h) (Or.inl ⟨by rfl, ?_⟩) (by assumption) ?_
                    rotate_left
                    · intro w' hSw
                      go_simp <;> with_reducible rfl
                    try simp only [Act.put, List.setIfInBounds_toArray, List.set_cons_zero, List.set_cons_succ, List.getElem_toArray, List.getElem_cons_succ, List.getElem_cons_zero]
                    refine wpAnyH_ready (rs := [12]) (by kernel_rfl) (by simp) ?_
                    refine AllReadyH.cons rfl (fun K hK => ?_) AllReadyH.nil
                    · go_simp
                      refine hK.out _ _ (by exact two_endB _ _ _ X6.out (Nat.ne_of_gt hlt5)) (fun hHeld => ?_)
                      clear hK K
                      try simp only [Act.put, List.setIfInBounds_toArray, List.set_cons_zero, List.set_cons_succ, List.getElem_toArray, List.getElem_cons_succ, List.getElem_cons_zero]
                      refine wpAnyH_take (i := 13) (v := ?_) rfl (by kernel_rfl) (by kernel_rfl) (by kernel_rfl) (fun _ _ _ h => h) (Or.inl ⟨by rfl, ?_⟩) (by assumption) ?_
                      rotate_left
                      · intro w' hSw
                        go_simp <;> with_reducible rfl
                      try simp only [Act.put, List.setIfInBounds_toArray, List.set_cons_zero, List.set_cons_succ, List.getElem_toArray, List.getElem_cons_succ, List.getElem_cons_zero]
                      refine wpAnyH_done (by kernel_rfl) ?_ _
                      go_wp2_with fail
                      refine bodyPost_ret (v := .tuple #[.agg #[.string ⟨#[103]⟩, .slice (some ⟨w6.heap.size + 1, 0, none⟩) 2 2], .int .i64 (n6 : Int)]) (by simp [results, Try.results26, go_sem, World.cell?_setCell_same, World.cell?_setCell_other, r0, r1, hlt56, hlt57, hlt58, World.cell?_alloc_old]) rfl ?_
                      exact grow_two B6.out hlt56 S56.out S6.out (fun b hb => Nat.lt_of_lt_of_le R1.out.lt hb) HZ6.out HBIG.out (ok_node (by decide) (by decide) (ok_two HE5.out HE6.out)) (by omega) (by exact (blk_at (by simp [World.setCell]) _ _).alloc _)

def GrowPost (w : World) (i m : Nat) (e : Ending) (w' : World) : Prop :=
  ∃ (a : Option Addr) (c n : Nat) (t : Tm), e = .returned (.tuple #[.agg #[.string t.name, .slice a t.args.length c], .int .i64 (n : Int)]) ∧ Sl w' (fun b => w.heap.size ≤ b) a t.args ∧ t.args.length ≤ c ∧ c ≤ 9223372036854775807 ∧ sizeL [t] ≤ top m ∧ i ≤ n ∧ n ≤ i + top m ∧ Below w.heap.size w w' ∧ errL [t] = 0

theorem grow_any (nv : Nat) (hnv : 1 ≤ nv) (hnv4 : nv ≤ 4) (zs : List Int) (hr : ∀ z ∈ zs, Rng z) (hzl : zs.length ≤ 1000000) (m i : Nat) (u : Value) (w : World) (X : Nat → Prop) (hu : PV w X u zs) (hm : m ≤ 100) (hi : i + top m ≤ 1000) :
    Calls Try.prog 26 #[u, .int .i64 (i : Int), .int .i64 (m : Int), .int .i64 (nv : Int)] w fun e w' => GrowPost w i m e w' := by
  refine (growV_any nv hnv hnv4 zs hr hzl m i u w X hu hm hi).mono ?_
  rintro e w' ⟨a, c, n, t, h1, h2, h3, h4, h5, h6, h7, h8, h9⟩
  exact ⟨a, c, n, t, h1, h2, h3, h4, h5, h6, h7, h8, h9.1⟩
end Go.Proofs.Ytkfppicbningaaa

/- Bindings in which no bound variable occurs: plain. -/
namespace Go.Proofs.Ytkfppicbningaaa
open Go.RowKit
set_option linter.unusedSimpArgs false
set_option linter.unusedVariables false

/-- A name occurs in terms. -/
def occL (x : ByteArray) (l : List Tm) : Prop := ∃ k ∈ preL l, k.name = x
theorem occL_node {x s : ByteArray} {l r : List Tm} : occL x (⟨s, l⟩ :: r) ↔ s = x ∨ occL x l ∨ occL x r := by
  unfold occL
  rw [preL]
  constructor
  · rintro ⟨k, hk, e⟩
    rcases List.mem_cons.1 hk with rfl | hk
    · exact Or.inl e
    · rcases List.mem_append.1 hk with hk | hk
      · exact Or.inr (Or.inl ⟨k, hk, e⟩)
      · exact Or.inr (Or.inr ⟨k, hk, e⟩)
  · rintro (e | ⟨k, hk, e⟩ | ⟨k, hk, e⟩)
    · exact ⟨⟨s, l⟩, by simp, e⟩
    · exact ⟨k, by simp [hk], e⟩
    · exact ⟨k, by simp [hk], e⟩
theorem occL_nil {x : ByteArray} : ¬ occL x [] := by
  rintro ⟨k, hk, _⟩
  simp [preL] at hk
theorem occL_cons {x : ByteArray} {t : Tm} {r : List Tm} : occL x (t :: r) ↔ occL x [t] ∨ occL x r := by
  obtain ⟨s, l⟩ := t
  rw [occL_node, occL_node]
  have h0 : ¬ occL x [] := occL_nil
  constructor
  · rintro (h | h | h)
    · exact Or.inl (Or.inl h)
    · exact Or.inl (Or.inr (Or.inl h))
    · exact Or.inr h
  · rintro ((h | h | h) | h)
    · exact Or.inl h
    · exact Or.inr (Or.inl h)
    · exact absurd h h0
    · exact Or.inr (Or.inr h)
theorem occL_append {x : ByteArray} {a b : List Tm} : occL x (a ++ b) ↔ occL x a ∨ occL x b := by
  induction a with
  | nil =>
    have h0 : ¬ occL x [] := occL_nil
    simp [h0]
  | cons t r ih => rw [List.cons_append, occL_cons, occL_cons (r := r), ih, or_assoc]

/-- Bindings that are put into one another in full. -/
def OkS (s : List Bd) : Prop := ApartB s ∧ (∀ d ∈ s, varB d.nm = true ∧ errL [d.t] = 0) ∧ ∀ d ∈ s, ∀ e ∈ s, ¬ occL e.nm [d.t]
theorem okS_nil : OkS [] := ⟨by simp [ApartB], by simp, by simp⟩

theorem onT_sym2 {s : List Bd} (h : ∀ d ∈ s, varB d.nm = true) {n : ByteArray} (hn : varB n = false) (l : List Tm) : onT s ⟨n, l⟩ = ⟨n, onL s l⟩ := by
  refine onT_deep (Or.inr ?_)
  cases hf : forT s n with
  | none => rfl
  | some x =>
    obtain ⟨d, hd, e, _⟩ := forT_mem hf
    have h1 := h d hd
    rw [e, hn] at h1
    cases h1
theorem onL_id {s : List Bd} : ∀ l : List Tm, (∀ e ∈ s, ¬ occL e.nm l) → onL s l = l := by
  intro l
  induction l using Tm.indL with
  | h0 => intro _; simp [onL]
  | h n l r ihl ihr =>
    intro h
    rw [onL_cons, ihr fun e he ho => h e he (occL_node.2 (Or.inr (Or.inr ho)))]
    congr 1
    rw [onT_deep (Or.inr ?_), ihl fun e he ho => h e he (occL_node.2 (Or.inr (Or.inl ho)))]
    cases hf : forT s n with
    | none => rfl
    | some x =>
      obtain ⟨d, hd, e, _⟩ := forT_mem hf
      exact absurd (occL_node.2 (Or.inl e.symm)) (h d hd)
theorem occ_on {s : List Bd} (hs : ∀ d ∈ s, varB d.nm = true) {y : ByteArray} (hy : varB y = true) : ∀ l : List Tm, errL l = 0 → occL y (onL s l) → (occL y l ∧ forT s y = none) ∨ ∃ d ∈ s, occL d.nm l ∧ occL y [d.t] := by
  intro l
  induction l using Tm.indL with
  | h0 => intro _ h; simp only [onL] at h; exact absurd h occL_nil
  | h n l r ihl ihr =>
    intro he h
    obtain ⟨g1, g2, g3⟩ := errL_parts he
    rw [onL_cons, occL_cons] at h
    rcases h with h | h
    · cases hv : varB n with
      | false =>
        rw [onT_sym2 hs hv, occL_node] at h
        rcases h with h | h | h
        · rw [h, hy] at hv; cases hv
        · rcases ihl g2 h with ⟨h1, h2⟩ | ⟨d, hd, h1, h2⟩
          · exact Or.inl ⟨occL_node.2 (Or.inr (Or.inl h1)), h2⟩
          · exact Or.inr ⟨d, hd, occL_node.2 (Or.inr (Or.inl h1)), h2⟩
        · exact absurd h occL_nil
      | true =>
        have e := g1 hv
        subst e
        rw [onT_leaf] at h
        cases hf : forT s n with
        | none =>
          rw [hf] at h
          rcases occL_node.1 h with h | h | h
          · subst h; exact Or.inl ⟨occL_node.2 (Or.inl rfl), hf⟩
          · exact absurd h occL_nil
          · exact absurd h occL_nil
        | some x =>
          rw [hf] at h
          obtain ⟨d, hd, e1, e2⟩ := forT_mem hf
          refine Or.inr ⟨d, hd, occL_node.2 (Or.inl e1.symm), ?_⟩
          rw [e2]; exact h
    · rcases ihr g3 h with ⟨h1, h2⟩ | ⟨d, hd, h1, h2⟩
      · exact Or.inl ⟨occL_node.2 (Or.inr (Or.inr h1)), h2⟩
      · exact Or.inr ⟨d, hd, occL_node.2 (Or.inr (Or.inr h1)), h2⟩
theorem OkS.vars {s : List Bd} (h : OkS s) : ∀ d ∈ s, varB d.nm = true := fun d hd => (h.2.1 d hd).1
/-- No bound variable is left. -/
theorem OkS.gone {s : List Bd} (h : OkS s) {l : List Tm} (he : errL l = 0) : ∀ e ∈ s, ¬ occL e.nm (onL s l) := by
  intro e hm ho
  rcases occ_on h.vars (h.vars e hm) l he ho with ⟨_, h2⟩ | ⟨d, hd, _, h2⟩
  · obtain ⟨t, ht⟩ := forT_some_of hm
    rw [ht] at h2; cases h2
  · exact h.2.2 d hd e hm h2
theorem OkS.idem {s : List Bd} (h : OkS s) {l : List Tm} (he : errL l = 0) : onL s (onL s l) = onL s l := onL_id _ (h.gone he)
theorem errL_on2 {s : List Bd} (h : OkS s) : ∀ l : List Tm, errL l = 0 → errL (onL s l) = 0 := by
  intro l
  induction l using Tm.indL with
  | h0 => intro _; simp [onL, errL]
  | h n l r ihl ihr =>
    intro he
    obtain ⟨g1, g2, g3⟩ := errL_parts he
    have hn := errL_name he
    rw [onL_cons]
    have key : errL [onT s ⟨n, l⟩] = 0 := by
      cases hv : varB n with
      | false => rw [onT_sym2 h.vars hv]; exact err_node hn hv (ihl g2)
      | true =>
        have e := g1 hv
        subst e
        rw [onT_leaf]
        cases hf : forT s n with
        | none => exact err_leaf hn
        | some x =>
          obtain ⟨d, hd, _, e2⟩ := forT_mem hf
          have h3 := (h.2.1 d hd).2
          rw [e2] at h3
          exact h3
    rw [errL_cons, if_pos key]
    exact ihr g3
theorem onT_of {P : List Tm → List Tm → Prop} {s : List Bd} {t : Tm} (h : P [t] (onL s [t])) : P [t] [onT s t] := by
  rw [onL_cons] at h
  simpa [onL] using h
theorem errL_onT2 {s : List Bd} (h : OkS s) {t : Tm} (he : errL [t] = 0) : errL [onT s t] = 0 := onT_of (P := fun _ b => errL b = 0) (errL_on2 h [t] he)
theorem OkS.goneT {s : List Bd} (h : OkS s) {t : Tm} (he : errL [t] = 0) : ∀ e ∈ s, ¬ occL e.nm [onT s t] := onT_of (P := fun _ b => ∀ e ∈ s, ¬ occL e.nm b) (h.gone he)

theorem forT_perm {a b : List Bd} (hp : a.Perm b) (ha : ApartB b) (n : ByteArray) : forT a n = forT b n := by
  have ha' : ApartB a := ha.perm hp
  cases h1 : forT b n with
  | some x =>
    obtain ⟨d, hd, e1, e2⟩ := forT_mem h1
    have h2 := forT_of ha' (hp.symm.subset hd)
    rw [e1, e2] at h2
    exact h2
  | none =>
    cases h2 : forT a n with
    | none => rfl
    | some x =>
      obtain ⟨d, hd, e1, e2⟩ := forT_mem h2
      have h3 := forT_of ha (hp.subset hd)
      rw [e1, h1] at h3
      cases h3
theorem forT_put (x : ByteArray) (t : Tm) (s : List Bd) (n : ByteArray) : forT (s.map (putB x t)) n = (forT s n).map (onT [⟨x, t⟩]) := by
  induction s with
  | nil => rfl
  | cons d r ih =>
    rw [List.map_cons, forT, forT]
    by_cases e : d.nm = n
    · rw [if_pos e, if_pos (show (putB x t d).nm = n from e)]; rfl
    · rw [if_neg e, if_neg (show ¬ (putB x t d).nm = n from e)]; exact ih
/-- One more is bound. -/
def addS (s : List Bd) (x : ByteArray) (t : Tm) : List Bd := srtB (s.map (putB x t) ++ [⟨x, t⟩])
theorem add_apart {s : List Bd} {x : ByteArray} {t : Tm} (h : ApartB s) (hx : ∀ d ∈ s, d.nm ≠ x) : ApartB (s.map (putB x t) ++ [⟨x, t⟩]) := by
  refine List.pairwise_append.2 ⟨List.pairwise_map.2 h, by simp, fun a ha b hb => ?_⟩
  obtain ⟨d, hd, rfl⟩ := List.mem_map.1 ha
  have e : b = ⟨x, t⟩ := by simpa using hb
  rw [e]
  exact hx d hd
theorem add_val {s : List Bd} {x : ByteArray} {t : Tm} (h : ApartB s) (hx : ∀ d ∈ s, d.nm ≠ x) (n : ByteArray) : onT (addS s x t) ⟨n, []⟩ = onT [⟨x, t⟩] (onT s ⟨n, []⟩) := by
  rw [onT_leaf (addS s x t)]
  unfold addS
  rw [forT_perm (srtB_perm _) (add_apart h hx), forT_append, forT_put, onT_leaf s]
  cases hf : forT s n with
  | some u => rfl
  | none =>
    show (forT [⟨x, t⟩] n).getD _ = onT [⟨x, t⟩] ⟨n, []⟩
    rw [onT_leaf]
theorem one_vars {x : ByteArray} {t : Tm} (hx : varB x = true) : ∀ d ∈ [(⟨x, t⟩ : Bd)], varB d.nm = true := fun d hd => by
  have e : d = ⟨x, t⟩ := by simpa using hd
  rw [e]; exact hx
theorem OkS.add {s : List Bd} (h : OkS s) {x : ByteArray} {t : Tm} (hx : varB x = true) (hn : ∀ d ∈ s, d.nm ≠ x) (he : errL [t] = 0) (ht : ∀ e ∈ s, ¬ occL e.nm [t]) (ho : ¬ occL x [t]) : OkS (addS s x t) := by
  have O1 : OkS [(⟨x, t⟩ : Bd)] := by
    refine ⟨by simp [ApartB], fun d hd => ?_, fun d hd e hm => ?_⟩
    · have e : d = ⟨x, t⟩ := by simpa using hd
      rw [e]; exact ⟨hx, he⟩
    · have e1 : d = ⟨x, t⟩ := by simpa using hd
      have e2 : e = ⟨x, t⟩ := by simpa using hm
      rw [e1, e2]; exact ho
  have hp := srtB_perm (s.map (putB x t) ++ [⟨x, t⟩])
  have hmem : ∀ d ∈ addS s x t, (∃ d0 ∈ s, d = putB x t d0) ∨ d = ⟨x, t⟩ := fun d hd => by
    rcases List.mem_append.1 (hp.subset hd) with hd | hd
    · obtain ⟨d0, h0, rfl⟩ := List.mem_map.1 hd
      exact Or.inl ⟨d0, h0, rfl⟩
    · exact Or.inr (by simpa using hd)
  have hnot : ∀ d0 ∈ s, ∀ y, varB y = true → (y = x ∨ ∃ e ∈ s, e.nm = y) → ¬ occL y [onT [⟨x, t⟩] d0.t] := fun d0 h0 y hy hyy hoc => by
    have h1 : occL y (onL [⟨x, t⟩] [d0.t]) := by rw [onL_cons]; simpa [onL] using hoc
    rcases occ_on O1.vars hy [d0.t] (h.2.1 d0 h0).2 h1 with ⟨h2, h3⟩ | ⟨d, hd, h2, h3⟩
    · rcases hyy with rfl | ⟨e, hm, rfl⟩
      · simp [forT] at h3
      · exact h.2.2 d0 h0 e hm h2
    · have e1 : d = ⟨x, t⟩ := by simpa using hd
      subst e1
      rcases hyy with rfl | ⟨e, hm, rfl⟩
      · exact ho h3
      · exact ht e hm h3
  refine ⟨(add_apart h.1 hn).perm hp, fun d hd => ?_, fun d hd e hm => ?_⟩
  · rcases hmem d hd with ⟨d0, h0, rfl⟩ | rfl
    · exact ⟨(h.2.1 d0 h0).1, errL_onT2 O1 (h.2.1 d0 h0).2⟩
    · exact ⟨hx, he⟩
  · have hy : e.nm = x ∨ ∃ e0 ∈ s, e0.nm = e.nm := by
      rcases hmem e hm with ⟨e0, h0, rfl⟩ | rfl
      · exact Or.inr ⟨e0, h0, rfl⟩
      · exact Or.inl rfl
    have hyv : varB e.nm = true := by
      rcases hy with h1 | ⟨e0, h0, h1⟩
      · rw [h1]; exact hx
      · rw [← h1]; exact (h.2.1 e0 h0).1
    rcases hmem d hd with ⟨d0, h0, rfl⟩ | rfl
    · exact hnot d0 h0 e.nm hyv hy
    · rcases hy with h1 | ⟨e0, h0, h1⟩
      · rw [h1]; exact ho
      · rw [← h1]; exact ht e0 h0
/-- Putting one more in is putting it in behind the others. -/
theorem add_on {s : List Bd} (h : OkS s) {x : ByteArray} {t : Tm} (hx : varB x = true) (hn : ∀ d ∈ s, d.nm ≠ x) (hs : OkS (addS s x t)) : ∀ l : List Tm, errL l = 0 → onL (addS s x t) l = onL [⟨x, t⟩] (onL s l) := by
  intro l
  induction l using Tm.indL with
  | h0 => intro _; simp [onL]
  | h n l r ihl ihr =>
    intro he
    obtain ⟨g1, g2, g3⟩ := errL_parts he
    rw [onL_cons, onL_cons, onL_cons, ihr g3]
    congr 1
    cases hv : varB n with
    | false => rw [onT_sym2 hs.vars hv, onT_sym2 h.vars hv, onT_sym2 (one_vars hx) hv, ihl g2]
    | true =>
      have e := g1 hv
      subst e
      exact add_val h.1 hn n
#print axioms OkS.add
#print axioms add_on
end Go.Proofs.Ytkfppicbningaaa

/- The steps come to an end: plain. -/
namespace Go.Proofs.Ytkfppicbningaaa
open Go.RowKit
set_option linter.unusedSimpArgs false
set_option linter.unusedVariables false

/-- All terms of pairs, in a row. -/
def flatP : List Pr → List Tm
  | [] => []
  | p :: l => p.l :: p.r :: flatP l
theorem flatP_append : ∀ a b : List Pr, flatP (a ++ b) = flatP a ++ flatP b
  | [], b => rfl
  | p :: a, b => by rw [List.cons_append, flatP, flatP, flatP_append a b]; rfl
theorem size_cons (t : Tm) (r : List Tm) : sizeL (t :: r) = sizeL [t] + sizeL r := by
  obtain ⟨s, l⟩ := t
  simp [sizeL]
theorem err_two {t : Tm} {r : List Tm} : errL (t :: r) = 0 ↔ errL [t] = 0 ∧ errL r = 0 := by
  rw [errL_cons]
  constructor
  · intro h
    by_cases e : errL [t] = 0
    · rw [if_pos e] at h; exact ⟨e, h⟩
    · rw [if_neg e] at h; exact absurd h e
  · rintro ⟨h1, h2⟩
    rw [if_pos h1]; exact h2
theorem err_append : ∀ {a b : List Tm}, errL (a ++ b) = 0 ↔ errL a = 0 ∧ errL b = 0
  | [], b => by simp [errL]
  | t :: a, b => by
    rw [List.cons_append, err_two, err_append, err_two (r := a), and_assoc]
theorem zip_occ {y : ByteArray} : ∀ {a b : List Tm}, occL y (flatP (zipP a b)) → occL y a ∨ occL y b
  | [], _, h => by simp only [zipP, flatP] at h; exact absurd h occL_nil
  | _ :: _, [], h => by simp only [zipP, flatP] at h; exact absurd h occL_nil
  | t :: a, u :: b, h => by
    rw [zipP, flatP, occL_cons, occL_cons (t := u)] at h
    rw [occL_cons, occL_cons (t := u)]
    rcases h with h | h | h
    · exact Or.inl (Or.inl h)
    · exact Or.inr (Or.inl h)
    · rcases zip_occ h with h | h
      · exact Or.inl (Or.inr h)
      · exact Or.inr (Or.inr h)
theorem zip_size : ∀ {a b : List Tm}, sizeL (flatP (zipP a b)) ≤ sizeL a + sizeL b
  | [], _ => by simp [zipP, flatP, sizeL]
  | _ :: _, [] => by simp [zipP, flatP, sizeL]
  | t :: a, u :: b => by
    rw [zipP, flatP]
    have h0 := zip_size (a := a) (b := b)
    have h1 := size_cons t (u :: flatP (zipP a b))
    have h2 := size_cons u (flatP (zipP a b))
    have h3 := size_cons t a
    have h4 := size_cons u b
    simp only at h1 h2 ⊢
    omega
theorem zip_err : ∀ {a b : List Tm}, errL a = 0 → errL b = 0 → errL (flatP (zipP a b)) = 0
  | [], _, _, _ => by simp [zipP, flatP, errL]
  | _ :: _, [], _, _ => by simp [zipP, flatP, errL]
  | t :: a, u :: b, h1, h2 => by
    rw [zipP, flatP]
    obtain ⟨g1, g2⟩ := err_two.1 h1
    obtain ⟨g3, g4⟩ := err_two.1 h2
    exact err_two.2 ⟨g1, err_two.2 ⟨g3, zip_err g2 g4⟩⟩

def occB (y : ByteArray) (l : List Tm) : Bool := (preL l).any fun k => k.name.toList == y.toList
theorem occB_iff {y : ByteArray} {l : List Tm} : occB y l = true ↔ occL y l := by
  unfold occB occL
  rw [List.any_eq_true]
  constructor
  · rintro ⟨k, hk, e⟩
    exact ⟨k, hk, bytes_inj (by simpa using e)⟩
  · rintro ⟨k, hk, e⟩
    exact ⟨k, hk, bytes_yes e⟩
def cntV (V : List ByteArray) (l : List Tm) : Nat := (V.filter fun y => occB y l).length
theorem filter_le {α : Type} {p q : α → Bool} : ∀ V : List α, (∀ y ∈ V, q y = true → p y = true) → (V.filter q).length ≤ (V.filter p).length
  | [], _ => by simp
  | v :: V, h => by
    have ih := filter_le V fun y hy => h y (by simp [hy])
    cases hq : q v with
    | true =>
      rw [List.filter_cons_of_pos hq, List.filter_cons_of_pos (h v (by simp) hq)]
      simp only [List.length_cons]
      omega
    | false =>
      rw [List.filter_cons_of_neg (by rw [hq]; simp)]
      cases hp : p v with
      | true => rw [List.filter_cons_of_pos hp]; simp only [List.length_cons]; omega
      | false => rw [List.filter_cons_of_neg (by rw [hp]; simp)]; exact ih
theorem filter_lt {α : Type} {p q : α → Bool} : ∀ V : List α, (∀ y ∈ V, q y = true → p y = true) → (∃ x ∈ V, p x = true ∧ q x = false) → (V.filter q).length < (V.filter p).length
  | [], _, ⟨x, hx, _⟩ => by cases hx
  | v :: V, h, ⟨x, hx, h1, h2⟩ => by
    have hle := filter_le V fun y hy => h y (by simp [hy])
    rcases List.mem_cons.1 hx with rfl | hx
    · rw [List.filter_cons_of_neg (by rw [h2]; simp), List.filter_cons_of_pos h1]
      simp only [List.length_cons]
      omega
    · have ih := filter_lt V (fun y hy => h y (by simp [hy])) ⟨x, hx, h1, h2⟩
      cases hq : q v with
      | true =>
        rw [List.filter_cons_of_pos hq, List.filter_cons_of_pos (h v (by simp) hq)]
        simp only [List.length_cons]
        omega
      | false =>
        rw [List.filter_cons_of_neg (by rw [hq]; simp)]
        cases hp : p v with
        | true => rw [List.filter_cons_of_pos hp]; simp only [List.length_cons]; omega
        | false => rw [List.filter_cons_of_neg (by rw [hp]; simp)]; exact ih
theorem not_inB {x : ByteArray} {t : Tm} (hx : varB x = true) (h : ¬ inB x (varsP [] (preL [t])) = true) : ¬ occL x [t] := by
  rintro ⟨k, hk, e⟩
  have h1 := (varsP_has (preL [t]) []).2 k hk (by rw [e]; exact hx)
  refine h ?_
  unfold inB
  rw [List.any_eq_true]
  exact ⟨k.name, h1, bytes_yes e⟩

/-- What a step of binding leaves. -/
theorem bind_facts {s : List Bd} {L : List Tm} {x : ByteArray} {t : Tm} (h : OkS s) (hx : varB x = true) (hn : ∀ d ∈ s, d.nm ≠ x) (he : errL [t] = 0) (ht : ∀ e ∈ s, ¬ occL e.nm [t]) (ho : ¬ occL x [t]) (hL : errL L = 0) :
    OkS (addS s x t) ∧ (∀ y, varB y = true → occL y (onL (addS s x t) L) → occL y (onL s L) ∨ occL y [t]) ∧ ¬ occL x (onL (addS s x t) L) := by
  have h1 := h.add hx hn he ht ho
  have h2 := add_on h hx hn h1 L hL
  have key : ∀ y, varB y = true → occL y (onL (addS s x t) L) → (occL y (onL s L) ∧ forT [⟨x, t⟩] y = none) ∨ occL y [t] := fun y hy hoc => by
    rw [h2] at hoc
    rcases occ_on (one_vars hx) hy _ (errL_on2 h L hL) hoc with h3 | ⟨d, hd, _, h4⟩
    · exact Or.inl h3
    · have e : d = ⟨x, t⟩ := by simpa using hd
      rw [e] at h4
      exact Or.inr h4
  refine ⟨h1, fun y hy hoc => (key y hy hoc).imp (fun h => h.1) id, fun hoc => ?_⟩
  rcases key x hx hoc with ⟨_, h3⟩ | h3
  · simp [forT] at h3
  · exact ho h3

/-- The steps come to an end. -/
theorem u_ends (V : List ByteArray) : ∀ (c z : Nat) (s : List Bd) (l : List Pr), OkS s → errL (flatP l) = 0 → (∀ y, varB y = true → occL y (onL s (flatP l)) → y ∈ V) → cntV (V.filter varB) (onL s (flatP l)) ≤ c → sizeL (onL s (flatP l)) ≤ z → ∃ n r, uRun false n s l = some r := by
  intro c
  induction c using Nat.strongRecOn with
  | _ c ihc =>
    intro z
    induction z using Nat.strongRecOn with
    | _ z ihz =>
      intro s l hs he hV hc hz
      have stop : ∀ e s', uNext false s l = .stop e s' → ∃ n r, uRun false n s l = some r := fun e s' h => ⟨1, (e, s'), by rw [uRun, h]⟩
      have go : ∀ s' l', uNext false s l = .go s' l' → (∃ n r, uRun false n s' l' = some r) → ∃ n r, uRun false n s l = some r := fun s' l' h ⟨n, r, h2⟩ => ⟨n + 1, r, by rw [uRun, h]; exact h2⟩
      cases l with
      | nil => exact stop 0 s rfl
      | cons p l =>
        obtain ⟨e1, e2⟩ := err_two.1 he
        obtain ⟨e2, e3⟩ := err_two.1 e2
        have ea := errL_onT2 hs e1
        have eb := errL_onT2 hs e2
        have ga := hs.goneT e1
        have gb := hs.goneT e2
        rw [flatP, onL_cons, onL_cons] at hV hc hz
        rw [uNext_cons] at stop go
        generalize onT s p.l = a at *
        generalize onT s p.r = b at *
        have hself : ∀ u : Tm, occL u.name [u] := fun u => by obtain ⟨n, k⟩ := u; exact occL_node.2 (Or.inl rfl)
        have inA : ∀ y, occL y [a] → occL y (a :: b :: onL s (flatP l)) := fun y h => occL_cons.2 (Or.inl h)
        have inBb : ∀ y, occL y [b] → occL y (a :: b :: onL s (flatP l)) := fun y h => occL_cons.2 (Or.inr (occL_cons.2 (Or.inl h)))
        have inL : ∀ y, occL y (onL s (flatP l)) → occL y (a :: b :: onL s (flatP l)) := fun y h => occL_cons.2 (Or.inr (occL_cons.2 (Or.inr h)))
        have hsz : sizeL (a :: b :: onL s (flatP l)) = sizeL [a] + (sizeL [b] + sizeL (onL s (flatP l))) := by rw [size_cons, size_cons b]
        have pa := sizeL_pos a
        have pb := sizeL_pos b
        have same : ∀ l2, errL (flatP l2) = 0 → (∀ y, occL y (onL s (flatP l2)) → occL y (a :: b :: onL s (flatP l))) → sizeL (onL s (flatP l2)) < sizeL (a :: b :: onL s (flatP l)) → ∃ n r, uRun false n s l2 = some r := fun l2 h1 h2 h3 =>
          ihz _ (Nat.lt_of_lt_of_le h3 hz) s l2 hs h1 (fun y hy ho => hV y hy (h2 y ho)) (Nat.le_trans (filter_le _ fun y hy hq => occB_iff.2 (h2 y (occB_iff.1 hq))) hc) (Nat.le_refl _)
        have bind : ∀ x t, varB x = true → (∀ d ∈ s, d.nm ≠ x) → errL [t] = 0 → (∀ e ∈ s, ¬ occL e.nm [t]) → occL x (a :: b :: onL s (flatP l)) → (∀ y, occL y [t] → occL y (a :: b :: onL s (flatP l))) → uPair false s l a b = uBind false s l x t → ∃ n r, uRun false n s (p :: l) = some r := fun x t hx hn het ht hox hot h => by
          unfold uBind at h
          by_cases hin : inB x (varsP [] (preL [t])) = true
          · rw [if_pos hin] at h
            exact stop 6 s h
          · rw [if_neg hin, if_neg (by simp)] at h
            have ho := not_inB hx hin
            obtain ⟨f1, f2, f3⟩ := bind_facts (L := flatP l) hs hx hn het ht ho e3
            have f2' : ∀ y, varB y = true → occL y (onL (addS s x t) (flatP l)) → occL y (a :: b :: onL s (flatP l)) := fun y hy hoc => (f2 y hy hoc).elim (inL y) (hot y)
            have hlt : cntV (V.filter varB) (onL (addS s x t) (flatP l)) < c := by
              refine Nat.lt_of_lt_of_le (filter_lt _ (fun y hy hq => occB_iff.2 (f2' y (List.mem_filter.1 hy).2 (occB_iff.1 hq))) ⟨x, List.mem_filter.2 ⟨hV x hx hox, hx⟩, occB_iff.2 hox, ?_⟩) hc
              cases hq : occB x (onL (addS s x t) (flatP l)) with
              | false => rfl
              | true => exact absurd (occB_iff.1 hq) f3
            exact go _ l h (ihc _ hlt _ _ _ f1 e3 (fun y hy hoc => hV y hy (f2' y hy hoc)) (Nat.le_refl _) (Nat.le_refl _))
        by_cases h1 : 2000 < sizeL [a] ∨ 2000 < sizeL [b]
        · exact stop 8 s (by unfold uPair; rw [if_pos h1])
        · by_cases h2 : varB a.name = true
          · by_cases h3 : a.name = b.name
            · exact go s l (by unfold uPair; rw [if_neg h1, if_pos h2, if_pos h3]) (same l e3 inL (by omega))
            · exact bind a.name b h2 (fun d hd e => ga d hd (by rw [e]; exact hself a)) eb gb (inA _ (hself a)) inBb (by unfold uPair; rw [if_neg h1, if_pos h2, if_neg h3])
          · by_cases h3 : varB b.name = true
            · exact bind b.name a h3 (fun d hd e => gb d hd (by rw [e]; exact hself b)) ea ga (inBb _ (hself b)) inA (by unfold uPair; rw [if_neg h1, if_neg h2, if_pos h3])
            · by_cases h4 : a.name = b.name ∧ a.args.length = b.args.length
              · refine go s (zipP a.args b.args ++ l) (by unfold uPair; rw [if_neg h1, if_neg h2, if_neg h3, if_pos h4]) ?_
                have sub : ∀ (u : Tm) y, occL y u.args → occL y [u] := fun u y h => by obtain ⟨n, k⟩ := u; exact occL_node.2 (Or.inr (Or.inl h))
                have erg : ∀ u : Tm, errL [u] = 0 → errL u.args = 0 := fun u h => by obtain ⟨n, k⟩ := u; exact (errL_parts h).2.1
                have szg : ∀ u : Tm, sizeL [u] = 1 + sizeL u.args := fun u => by obtain ⟨n, k⟩ := u; simp [sizeL]
                have hfl : onL s (flatP (zipP a.args b.args ++ l)) = flatP (zipP a.args b.args) ++ onL s (flatP l) := by
                  rw [flatP_append, onL_append, onL_id]
                  intro e hm hoc
                  rcases zip_occ hoc with hoc | hoc
                  · exact ga e hm (sub a _ hoc)
                  · exact gb e hm (sub b _ hoc)
                refine same _ ?_ ?_ ?_
                · rw [flatP_append]
                  exact err_append.2 ⟨zip_err (erg a ea) (erg b eb), e3⟩
                · intro y hoc
                  rw [hfl] at hoc
                  rcases occL_append.1 hoc with hoc | hoc
                  · rcases zip_occ hoc with hoc | hoc
                    · exact inA y (sub a y hoc)
                    · exact inBb y (sub b y hoc)
                  · exact inL y hoc
                · rw [hfl, sizeL_append, hsz, szg a, szg b]
                  have := zip_size (a := a.args) (b := b.args)
                  omega
              · exact stop 5 s (by unfold uPair; rw [if_neg h1, if_neg h2, if_neg h3, if_neg h4])
/-- The steps come to an end, from the start. -/
theorem u_ends0 (l : List Pr) (h : errL (flatP l) = 0) : ∃ n r, uRun false n [] l = some r := by
  refine u_ends ((preL (onL [] (flatP l))).map (·.name)) _ _ [] l okS_nil h (fun y _ hoc => ?_) (Nat.le_refl _) (Nat.le_refl _)
  obtain ⟨k, hk, e⟩ := hoc
  exact List.mem_map.2 ⟨k, hk, e⟩
#print axioms u_ends0
#print axioms u_ends
end Go.Proofs.Ytkfppicbningaaa

/- What was bound, in its order, and what stood for each variable at each time: plain. -/
namespace Go.Proofs.Ytkfppicbningaaa
open Go.RowKit
set_option linter.unusedSimpArgs false
set_option linter.unusedVariables false

/-- The bindings that come of binding these, one behind the other. -/
def sAt (h : List (ByteArray × Tm)) : List Bd := h.foldl (fun s p => addS s p.1 p.2) []
theorem sAt_snoc (h : List (ByteArray × Tm)) (p : ByteArray × Tm) : sAt (h ++ [p]) = addS (sAt h) p.1 p.2 := by simp [sAt]
theorem sAt_take {h : List (ByteArray × Tm)} {j : Nat} (hj : j < h.length) : sAt (h.take (j + 1)) = addS (sAt (h.take j)) h[j].1 h[j].2 := by
  rw [List.take_succ_eq_append_getElem hj, sAt_snoc]
/-- A variable may be bound so, behind those bindings. -/
def MayAdd (s : List Bd) (x : ByteArray) (t : Tm) : Prop := varB x = true ∧ (∀ d ∈ s, d.nm ≠ x) ∧ errL [t] = 0 ∧ (∀ e ∈ s, ¬ occL e.nm [t]) ∧ ¬ occL x [t]
def GoodH (h : List (ByteArray × Tm)) : Prop := ∀ j (hj : j < h.length), MayAdd (sAt (h.take j)) h[j].1 h[j].2
theorem goodH_nil : GoodH [] := fun j hj => by simp at hj
theorem GoodH.snoc {h : List (ByteArray × Tm)} (g : GoodH h) {x : ByteArray} {t : Tm} (m : MayAdd (sAt h) x t) : GoodH (h ++ [(x, t)]) := by
  intro j hj
  by_cases e : j < h.length
  · have h1 := g j e
    rw [List.take_append_of_le_length (by omega)]
    rw [List.getElem_append_left e]
    exact h1
  · have e2 : j = h.length := by simp at hj; omega
    subst e2
    rw [List.take_append_of_le_length (by omega), List.take_length]
    simpa using m
theorem GoodH.ok {h : List (ByteArray × Tm)} (g : GoodH h) : ∀ j, j ≤ h.length → OkS (sAt (h.take j))
  | 0, _ => by simpa [sAt] using okS_nil
  | j + 1, hj => by
    rw [sAt_take (by omega)]
    obtain ⟨m1, m2, m3, m4, m5⟩ := g j (by omega)
    exact (g.ok j (by omega)).add m1 m2 m3 m4 m5
theorem GoodH.all {h : List (ByteArray × Tm)} (g : GoodH h) : OkS (sAt h) := by
  have := g.ok h.length (Nat.le_refl _)
  rwa [List.take_length] at this
/-- What was put in earlier may be put in ahead. -/
theorem GoodH.absorb {h : List (ByteArray × Tm)} (g : GoodH h) {i : Nat} : ∀ j, i ≤ j → j ≤ h.length → ∀ L : List Tm, errL L = 0 → onL (sAt (h.take j)) (onL (sAt (h.take i)) L) = onL (sAt (h.take j)) L
  | 0, hi, _, L, he => by
    have e : i = 0 := by omega
    subst e
    exact (g.ok 0 (Nat.zero_le _)).idem he
  | j + 1, hi, hj, L, he => by
    by_cases e : i = j + 1
    · subst e
      exact (g.ok _ hj).idem he
    · have ih := g.absorb (i := i) j (by omega) (by omega) L he
      have o1 := g.ok j (by omega)
      have o2 := g.ok (j + 1) hj
      have hjl2 : j < h.length := by omega
      obtain ⟨m1, m2, _⟩ := g j hjl2
      rw [sAt_take (h := h) (j := j) (by omega)] at o2 ⊢
      rw [add_on o1 m1 m2 o2 _ (errL_on2 (g.ok i (by omega)) L he), add_on o1 m1 m2 o2 L he, ih]
/-- Just those are bound. -/
theorem GoodH.bound {h : List (ByteArray × Tm)} (g : GoodH h) : ∀ j, j ≤ h.length → ∀ y, (∃ d ∈ sAt (h.take j), d.nm = y) ↔ ∃ i, ∃ hi : i < h.length, i < j ∧ h[i].1 = y
  | 0, _, y => by simp [sAt]
  | j + 1, hj, y => by
    have ih := g.bound j (by omega) y
    rw [sAt_take (by omega)]
    have hp := srtB_perm ((sAt (h.take j)).map (putB h[j].1 h[j].2) ++ [⟨h[j].1, h[j].2⟩])
    constructor
    · rintro ⟨d, hd, e⟩
      rcases List.mem_append.1 (hp.subset hd) with hd | hd
      · obtain ⟨d0, h0, rfl⟩ := List.mem_map.1 hd
        obtain ⟨i, hi, h1, h2⟩ := ih.1 ⟨d0, h0, e⟩
        exact ⟨i, hi, by omega, h2⟩
      · have e2 : d = ⟨h[j].1, h[j].2⟩ := by simpa using hd
        rw [e2] at e
        exact ⟨j, by omega, by omega, e⟩
    · rintro ⟨i, hi, h1, h2⟩
      by_cases e : i = j
      · subst e
        exact ⟨⟨h[i].1, h[i].2⟩, hp.symm.subset (by simp), h2⟩
      · obtain ⟨d0, h0, e0⟩ := ih.2 ⟨i, hi, by omega, h2⟩
        exact ⟨putB h[j].1 h[j].2 d0, hp.symm.subset (List.mem_append.2 (Or.inl (List.mem_map.2 ⟨d0, h0, rfl⟩))), e0⟩
/-- No variable is bound twice. -/
theorem GoodH.once {h : List (ByteArray × Tm)} (g : GoodH h) {i j : Nat} (hi : i < h.length) (hj : j < h.length) (e : h[i].1 = h[j].1) : i = j := by
  have key : ∀ a b (ha : a < h.length) (hb : b < h.length), a < b → h[a].1 ≠ h[b].1 := fun a b ha hb hab e => by
    obtain ⟨d, hd, e1⟩ := (g.bound b (by omega) h[a].1).2 ⟨a, ha, hab, rfl⟩
    exact (g b hb).2.1 d hd (e1.trans e)
  rcases Nat.lt_trichotomy i j with h1 | h1 | h1
  · exact absurd e (key i j hi hj h1)
  · exact h1
  · exact absurd e.symm (key j i hj hi h1)
/-- What stood for the i-th variable when j were bound. -/
def stood (h : List (ByteArray × Tm)) (i j : Nat) (hi : i < h.length) : Tm := onT (sAt (h.take j)) ⟨h[i].1, []⟩
theorem onT_absorb {h : List (ByteArray × Tm)} (g : GoodH h) {i j : Nat} (hij : i ≤ j) (hj : j ≤ h.length) {t : Tm} (he : errL [t] = 0) : onT (sAt (h.take j)) (onT (sAt (h.take i)) t) = onT (sAt (h.take j)) t := by
  have h1 := g.absorb j hij hj [t] he
  rw [onL_cons, onL_cons, onL_cons] at h1
  simpa [onL] using h1
/-- What stood for it, with all in it that has been bound since, is what stands for it. -/
theorem stood_on {h : List (ByteArray × Tm)} (g : GoodH h) {i j : Nat} (hi : i < h.length) (hj : j ≤ h.length) (hn : nameB h[i].1 = true) : onT (sAt h) (stood h i j hi) = stood h i h.length hi := by
  have h1 := onT_absorb g hj (Nat.le_refl _) (err_leaf hn)
  unfold stood
  rw [List.take_length] at h1 ⊢
  exact h1
/-- A bound variable that is left in it was bound later. -/
theorem stood_later {h : List (ByteArray × Tm)} (g : GoodH h) {i j k : Nat} (hi : i < h.length) (hj : j ≤ h.length) (hn : nameB h[i].1 = true) (hk : k < h.length) (ho : occL h[k].1 [stood h i j hi]) : j ≤ k := by
  rcases Nat.lt_or_ge k j with h1 | h1
  · obtain ⟨d, hd, e⟩ := (g.bound j hj h[k].1).2 ⟨k, hk, h1, rfl⟩
    have h2 := (g.ok j hj).goneT (err_leaf hn) d hd
    rw [e] at h2
    exact absurd ho h2
  · exact h1
#print axioms stood_on
#print axioms stood_later
end Go.Proofs.Ytkfppicbningaaa

/- But for some blocks the world is as it was. -/
namespace Go.Proofs.Ytkfppicbningaaa
open Go.RowKit
set_option linter.unusedSimpArgs false
set_option linter.unusedVariables false
set_option maxRecDepth 8000

/-- But for the blocks that Q names the world is as it was. -/
structure ExQ (Q : Nat → Prop) (w w' : World) : Prop where
  os : w'.os = w.os
  tape : w'.tape = w.tape
  output : w'.output = w.output
  size : w.heap.size ≤ w'.heap.size
  block : ∀ k, k < w.heap.size → ¬ Q k → w'.heap[k]? = w.heap[k]?
theorem ExQ.refl (Q : Nat → Prop) (w : World) : ExQ Q w w := ⟨rfl, rfl, rfl, Nat.le_refl _, fun _ _ _ => rfl⟩
theorem ExQ.trans {Q : Nat → Prop} {a b c : World} (h : ExQ Q a b) (k : ExQ Q b c) : ExQ Q a c :=
  ⟨k.os.trans h.os, k.tape.trans h.tape, k.output.trans h.output, Nat.le_trans h.size k.size, fun i hi hn => (k.block i (Nat.lt_of_lt_of_le hi h.size) hn).trans (h.block i hi hn)⟩
/-- One behind the other, the second naming blocks that the first world had not. -/
theorem ExQ.transN {Q R : Nat → Prop} {a b c : World} (h : ExQ Q a b) (k : ExQ R b c) (hR : ∀ i, R i → i < a.heap.size → Q i) : ExQ Q a c :=
  ⟨k.os.trans h.os, k.tape.trans h.tape, k.output.trans h.output, Nat.le_trans h.size k.size, fun i hi hn => (k.block i (Nat.lt_of_lt_of_le hi h.size) (fun hr => hn (hR i hr hi))).trans (h.block i hi hn)⟩
theorem ExQ.mono {Q R : Nat → Prop} {a b : World} (h : ExQ Q a b) (hR : ∀ i, Q i → i < a.heap.size → R i) : ExQ R a b := ⟨h.os, h.tape, h.output, h.size, fun i hi hn => h.block i hi (fun hq => hn (hR i hq hi))⟩
theorem ExQ.drewN {Q : Nat → Prop} {a w : World} (h : ExQ Q a w) (n : Nat) : ExQ Q a (w.drewN n) := ⟨h.os, h.tape, h.output, h.size, h.block⟩
theorem ExQ.drew {Q : Nat → Prop} {a w : World} (h : ExQ Q a w) : ExQ Q a w.drew := ⟨h.os, h.tape, h.output, h.size, h.block⟩
theorem ExQ.set {Q : Nat → Prop} {a w : World} (h : ExQ Q a w) {B : Nat} (hB : Q B) (i : Nat) (v : Value) : ExQ Q a (w.setCell ⟨B, i, none⟩ v) :=
  ⟨h.os, h.tape, h.output, by simpa [World.setCell] using h.size, fun k hk hn => (Below.heap_setCell _ _ _ _ (by simp; intro e; subst e; exact hn hB)).trans (h.block k hk hn)⟩
theorem ExQ.alloc {Q : Nat → Prop} {a w : World} (h : ExQ Q a w) (o : Obj) : ExQ Q a (w.alloc o) :=
  ⟨h.os, h.tape, h.output, by have := h.size; simp; omega, fun k hk hn => (Below.heap_alloc _ _ _ (Nat.lt_of_lt_of_le hk h.size)).trans (h.block k hk hn)⟩
theorem ExQ.grown {Q : Nat → Prop} {a w w' : World} {row : Option Nat} (h : ExQ Q a w) (hg : w.grownBy w' row) (hr : ∀ k, row = some k → a.heap.size ≤ k ∨ Q k) : ExQ Q a w' :=
  ⟨hg.os.trans h.os, hg.tape.trans h.tape, hg.output.trans h.output, Nat.le_trans h.size hg.size, fun k hk hn => (hg.block k (Nat.lt_of_lt_of_le hk h.size) (fun e => by rcases hr k e.symm with h1 | h1; omega; exact hn h1)).trans (h.block k hk hn)⟩
theorem ExQ.setNew {Q : Nat → Prop} {a w : World} (h : ExQ Q a w) {b : Nat} (hb : a.heap.size ≤ b) (i : Nat) (v : Value) : ExQ Q a (w.setCell ⟨b, i, none⟩ v) :=
  ⟨h.os, h.tape, h.output, by simpa [World.setCell] using h.size, fun k hk hn => (Below.heap_setCell _ _ _ _ (by simp; omega)).trans (h.block k hk hn)⟩
theorem ExQ.ofBelow {Q : Nat → Prop} {w w' : World} (h : Below w.heap.size w w') : ExQ Q w w' := ⟨h.os, h.tape, h.output, h.size, fun k hk _ => h.block k hk⟩
theorem ExQ.ofEx {Q : Nat → Prop} {B : Nat} {w w' : World} (h : Ex B w w') (hB : Q B) : ExQ Q w w' := ⟨h.os, h.tape, h.output, h.size, fun k hk hn => h.block k hk (fun e => hn (by rw [e]; exact hB))⟩
theorem ExQ.below {Q : Nat → Prop} {w w' : World} {B : Nat} (h : ExQ Q w w') (hB : B ≤ w.heap.size) (hQ : ∀ b, Q b → B ≤ b) : Below B w w' :=
  ⟨h.os, h.tape, h.output, h.size, fun k hk => h.block k (by omega) (fun hq => by have := hQ k hq; omega)⟩
theorem Blk.exq {w w' : World} {Q : Nat → Prop} {b T : Nat} {cs : Array Value} (h : Blk w b cs T) (he : ExQ Q w w') (hne : ¬ Q b) : Blk w' b cs T := by
  unfold Blk at *
  rw [he.block b (Blk.lt h) hne]; exact h
theorem Sl.exq {w w' : World} {Q X : Nat → Prop} {a : Option Addr} {l : List Tm} (h : Sl w X a l) (he : ExQ Q w w') (hX : ∀ b, X b → ¬ Q b) : Sl w' X a l :=
  ((h.mono (Y := fun b => X b ∧ b < w.heap.size) fun b h1 h2 => ⟨h1, h2⟩).kept fun b hb => he.block b hb.2 (hX b hb.1)).mono fun b hb _ => hb.1
theorem ExQ.mid {Q : Nat → Prop} {w w1 : World} (h : ExQ Q w w1) : ∃ wm, Below wm.heap.size wm w1 ∧ wm.heap.size = w.heap.size ∧ ExQ Q w wm := by
  have hs := h.size
  have hz : (w1.heap.extract 0 w.heap.size).size = w.heap.size := by simp; omega
  refine ⟨{ w1 with heap := w1.heap.extract 0 w.heap.size }, ⟨rfl, rfl, rfl, by simp; omega, fun k hk => ?_⟩, hz, ⟨h.os, h.tape, h.output, by simp [hz], fun k hk hn => ?_⟩⟩
  · have hk2 : k < w.heap.size := by simp at hk; omega
    simp [Array.getElem?_extract, hk2]
    omega
  · rw [← h.block k hk hn]
    simp [Array.getElem?_extract, hk]
    omega
theorem ownsRow_at {w w' : World} {base e size n : Nat} {v : Value} {xs : List Value} (h : w.ownsRow base e size v n xs) (hk : ∀ g, v.ownBlock = some g → w'.heap[g]? = w.heap[g]?) : w'.ownsRow base e size v n xs := by
  obtain ⟨hl, h1⟩ := h
  refine ⟨hl, ?_⟩
  rcases h1 with h1 | ⟨g, cap, cur, hv, hg, hh, hr⟩
  · exact Or.inl h1
  · refine Or.inr ⟨g, cap, cur, hv, hg, ?_, hr⟩
    rw [hk g (by rw [hv]; rfl)]
    exact hh
theorem Row.exq {w w' : World} {Q : Nat → Prop} {N T : Nat} {Y : Nat → Prop} {v : Value} {l : List Tm} {xs : List Value} (h : Row w N T Y v l xs) (he : ExQ Q w w') (hQ : ∀ b, Q b → b < N) (hY : ∀ b, Q b → ¬ Y b) : Row w' N T Y v l xs :=
  ⟨ownsRow_at h.own fun g hg => he.block g (h.own.lt g hg).2 (fun hq => by have := hQ g hq; have := (h.own.lt g hg).1; omega),
   h.row.imp fun a l hs => hs.exq he fun b hb hq => by
     rcases hb with h1 | h1
     · exact hY b hq h1
     · have := hQ b hq; omega⟩
theorem BRow.exq {w w' : World} {Q : Nat → Prop} {N : Nat} {Y : Nat → Prop} {v : Value} {cs : List Bc} (h : BRow w N Y v cs) (he : ExQ Q w w') (hQ : ∀ b, Q b → b < N) (hY : ∀ b, Q b → ¬ Y b) : BRow w' N Y v cs :=
  ⟨ownsRow_at h.own fun g hg => he.block g (h.own.lt g hg).2 (fun hq => by have := hQ g hq; have := (h.own.lt g hg).1; omega),
   fun x hx => (h.row x hx).exq he fun b hb hq => by
     rcases hb with h1 | h1
     · exact hY b hq h1
     · have := hQ b hq; omega⟩
#print axioms Row.exq
#print axioms BRow.exq
end Go.Proofs.Ytkfppicbningaaa

/- Walks: a term is filled by a function that may turn what it looks into. -/
namespace Go.Proofs.Ytkfppicbningaaa
open Go.RowKit
set_option linter.unusedSimpArgs false
set_option linter.unusedVariables false
set_option maxRecDepth 8000

/-- A term with what stands for its variables. -/
def gN (lk : ByteArray → Option Tm) (s : ByteArray) (bs : List Tm) : Tm := if varB s = true then (match lk s with | some x => x | none => ⟨s, bs⟩) else ⟨s, bs⟩
def gL (lk : ByteArray → Option Tm) : List Tm → List Tm
  | [] => []
  | ⟨s, a⟩ :: r => gN lk s (gL lk a) :: gL lk r
def gT (lk : ByteArray → Option Tm) (t : Tm) : Tm := gN lk t.name (gL lk t.args)
theorem gL_map (lk : ByteArray → Option Tm) : ∀ l : List Tm, gL lk l = l.map (gT lk)
  | [] => by simp [gL]
  | ⟨s, a⟩ :: r => by rw [gL, gL_map lk r]; rfl
theorem gL_append (lk : ByteArray → Option Tm) (a b : List Tm) : gL lk (a ++ b) = gL lk a ++ gL lk b := by simp [gL_map]

/-- What is looked at: whether it has become too great, the blocks that it is made of. -/
abbrev Ev := Bool → (Nat → Prop) → World → Prop
structure EvOk (E : Ev) (Mt : Nat → Prop) : Prop where
  keep : ∀ f Y w w', E f Y w → (∀ b, Y b → w'.heap[b]? = w.heap[b]?) → E f Y w'
  inY : ∀ f Y w, E f Y w → ∀ b, Y b → b < w.heap.size
  mt : ∀ f Y w, E f Y w → ∀ b, Mt b → Y b
theorem EvOk.below {E : Ev} {Mt : Nat → Prop} (h : EvOk E Mt) {f : Bool} {Y : Nat → Prop} {w w' : World} (he : E f Y w) (hb : Below w.heap.size w w') : E f Y w' := h.keep f Y w w' he fun b hy => hb.block b (h.inY f Y w he b hy)
def sV (S : Nat) : Value := .func (.func 127) #[.pointer (some ⟨S, 0, none⟩)] #[]
/-- What looking gives. -/
def LkPost (E : Ev) (Mt : Nat → Prop) (o : Option Tm) (f : Bool) (Y : Nat → Prop) (w : World) (e : Ending) (w' : World) : Prop :=
  ∃ (s : ByteArray) (a : Option Addr) (n c : Nat) (ok : Bool) (f' : Bool) (Y' : Nat → Prop), e = .returned (.tuple #[.agg #[.string s, .slice a n c], .bool ok]) ∧ E f' Y' w' ∧ (∀ b, Y' b → Y b ∨ w.heap.size ≤ b) ∧ (f = true → f' = true) ∧ ExQ Mt w w' ∧
    ((ok = true ∧ ∃ x : Tm, s = x.name ∧ n = x.args.length ∧ Sl w' Y' a x.args ∧ (f' = false → o = some x)) ∨ (ok = false ∧ (f' = false → o = none)))
def LkC (E : Ev) (Mt : Nat → Prop) (S : Nat) (o : Option Tm) (nm : ByteArray) : Prop :=
  ∀ (f : Bool) (Y : Nat → Prop) (w : World), E f Y w → Calls Try.prog 127 #[.pointer (some ⟨S, 0, none⟩), .string nm] w fun e w' => LkPost E Mt o f Y w e w'
/-- What a counted making gives. -/
def FlC (w : World) (tgt : Tm) (n : Nat) (f' : Bool) (s' : ByteArray) (a' : Option Addr) (l' : Nat) (m : Int) (k : Nat) (w' : World) : Prop :=
  (∃ y : Tm, s' = y.name ∧ l' = y.args.length ∧ m = (n : Int) - sizeL [y] ∧ sizeL [y] ≤ n ∧ Sl w' (fun b => w.heap.size + k ≤ b) a' y.args ∧ (f' = false → y = tgt)) ∨ (m = -1 ∧ (f' = false → n < sizeL [tgt]))
def FlPost (E : Ev) (Mt : Nat → Prop) (F : Nat) (sv : Value) (tgt : Tm) (n : Nat) (f : Bool) (Y : Nat → Prop) (w : World) (e : Ending) (w' : World) : Prop :=
  ∃ (s' : ByteArray) (a' : Option Addr) (l' c' : Nat) (m : Int) (f' : Bool) (Y' : Nat → Prop), e = .returned (.agg #[.string s', .slice a' l' c']) ∧ Blk w' F #[.int .i64 m, sv] 102 ∧ ExQ (fun b => b = F ∨ Mt b) w w' ∧ E f' Y' w' ∧ (∀ b, Y' b → Y b ∨ w.heap.size ≤ b) ∧ (f = true → f' = true) ∧ FlC w tgt n f' s' a' l' m 0 w'

theorem fl_end {E : Ev} {Mt : Nat → Prop} (hE : EvOk E Mt) {w w9 : World} {F : Nat} {sv : Value} {tgt : Tm} {n : Nat} {f f' : Bool} {Y Y' : Nat → Prop} {s' : ByteArray} {a' : Option Addr} {l' c' : Nat} {m : Int} {v0 v1 : Value} (hF : F < w.heap.size) (hY : ∀ b, Y b → b < w.heap.size)
    (h1 : Blk w9 F #[.int .i64 m, sv] 102) (hx : ExQ (fun b => b = F ∨ Mt b) w w9) (hE9 : E f' Y' w9) (hsub : ∀ b, Y' b → Y b ∨ w.heap.size + 2 ≤ b) (hff : f = true → f' = true) (hc : FlC w tgt n f' s' a' l' m 2 w9) :
    FlPost E Mt F sv tgt n f Y w (.returned (.agg #[.string s', .slice a' l' c'])) ((w9.setCell ⟨w.heap.size + 1, 0, none⟩ v0).setCell ⟨w.heap.size + 1, 1, none⟩ v1) := by
  have hk : ∀ b, b ≠ w.heap.size + 1 → ((w9.setCell ⟨w.heap.size + 1, 0, none⟩ v0).setCell ⟨w.heap.size + 1, 1, none⟩ v1).heap[b]? = w9.heap[b]? := fun b hb => by
    rw [Below.heap_setCell _ _ _ _ (by simpa using hb), Below.heap_setCell _ _ _ _ (by simpa using hb)]
  refine ⟨s', a', l', c', m, f', Y', rfl, (h1.setOther _ _ (by omega)).setOther _ _ (by omega), (hx.setNew (by omega) _ _).setNew (by omega) _ _, hE.keep _ _ _ _ hE9 fun b hb => hk b fun e => ?_, fun b hb => ?_, hff, ?_⟩
  · rcases hsub b hb with h | h
    · have := hY b h; omega
    · omega
  · rcases hsub b hb with h | h
    · exact Or.inl h
    · exact Or.inr (by omega)
  · rcases hc with ⟨y, e1, e2, e3, e4, e5, e6⟩ | hc
    · exact Or.inl ⟨y, e1, e2, e3, e4, (e5.kept fun b hb => hk b (by omega)).mono fun b hb _ => by omega, e6⟩
    · exact Or.inr hc

theorem wayq1 {Q : Nat → Prop} {w0 w1 : World} (h : ExQ Q w0.drew w1) : ExQ Q w0 w1 := ((ExQ.refl Q w0).drew).trans h
theorem wayq2 {Q : Nat → Prop} {w0 w1 : World} {o : Obj} (h : ExQ Q (w0.alloc o).drew w1) : ExQ Q w0 w1 := (((ExQ.refl Q w0).alloc o).drew).trans h
theorem wayq2b {Q : Nat → Prop} {w0 w1 : World} {cs : Array Value} {T : Nat} (h : ExQ Q (w0.alloc (.cells cs T)).drew w1) (hQ : ¬ Q w0.heap.size) : Blk w1 w0.heap.size cs T := ((Blk.new w0 cs T).drewN 1).exq h hQ

set_option maxHeartbeats 1000000 in
theorem ffillL_of {E : Ev} {Mt : Nat → Prop} (hE : EvOk E Mt) (F S : Nat) (lk : ByteArray → Option Tm) (t : Tm) (n : Nat) (a : Option Addr) (c : Nat) (w : World) (X Y : Nat → Prop) (f : Bool) (hn : n ≤ 1000000) (hXF : ∀ b, X b → b ≠ F ∧ ¬ Mt b) (hYF : ¬ Y F) (hs : Sl w X a t.args) (hF : Blk w F #[.int .i64 (n : Int), sV S] 102) (hEv : E f Y w)
    (hL : varB t.name = true → LkC E Mt S (lk t.name) t.name)
    (h : ∀ (w' : World) (f' : Bool) (Y' : Nat → Prop), Sl w' X a t.args → Blk w' F #[.int .i64 (n : Int), sV S] 102 → E f' Y' w' → ¬ Y' F → Calls Try.prog 92 #[.pointer (some ⟨F, 0, none⟩), .agg #[.string t.name, .slice a t.args.length c], .func (.func 75) #[.pointer (some ⟨F, 0, none⟩)] #[]] w' fun e w'' => FlPost E Mt F (sV S) ⟨t.name, gL lk t.args⟩ n f' Y' w' e w'') :
    Calls Try.prog 75 #[.pointer (some ⟨F, 0, none⟩), .agg #[.string t.name, .slice a t.args.length c]] w fun e w' => FlPost E Mt F (sV S) (gT lk t) n f Y w e w' := by
  have hmf : ∀ (fn : Fn) (first cap : Array Value) (w : World), (Instr.makeFunc fn first cap).run Try.prog w = .ok (.func fn first cap) w := fun _ _ _ _ => rfl
  have H := hide h
  have HS := hide hs
  have HF := hide hF
  have HE := hide hEv
  have HL := hide hL
  have HXF := hide hXF
  have hFl : F < w.heap.size := hF.lt
  have HYW : Hid (∀ b, Y b → b < w.heap.size) := hE.inY _ _ _ hEv
  have HMT : Hid (∀ b, Mt b → Y b) := hE.mt _ _ _ hEv
  have hFM : ¬ Mt F := fun h => hYF (HMT.out F h)
  clear h hs hF hEv hL hXF
  have HB0 := hide (((Below.refl w.heap.size w).alloc (Nat.le_refl _) (.cells #[.string t.name, .slice a t.args.length c] 28)).alloc (by simp) (.cells #[.string ⟨#[]⟩, .slice none 0 0] 28))
  have f1 : ∀ o o', ((w.alloc o).alloc o').cell? ⟨F, 1, none⟩ = some (sV S) := fun o o' => ((HF.out.alloc o).alloc o').cell 1
  have RW : Hid (Blk ((w.alloc (.cells #[.string t.name, .slice a t.args.length c] 28)).alloc (.cells #[.string ⟨#[]⟩, .slice none 0 0] 28)) (w.heap.size + 1) #[.string ⟨#[]⟩, .slice none 0 0] 28) := by
    have h := Blk.new (w.alloc (.cells #[.string t.name, .slice a t.args.length c] 28)) #[.string ⟨#[]⟩, .slice none 0 0] 28
    unfold Hid
    simpa using h
  have EXW := hide (((ExQ.refl (fun b => b = F ∨ Mt b) w).alloc (.cells #[.string t.name, .slice a t.args.length c] 28)).alloc (.cells #[.string ⟨#[]⟩, .slice none 0 0] 28))
  have hW2 : Hid (((w.alloc (.cells #[.string t.name, .slice a t.args.length c] 28)).alloc (.cells #[.string ⟨#[]⟩, .slice none 0 0] 28)).heap.size = w.heap.size + 2) := by unfold Hid; simp
  have hR1 : ¬ (w.heap.size + 1 = F ∨ Mt (w.heap.size + 1)) := fun h => by
    rcases h with h | h
    · omega
    · have := HYW.out _ (HMT.out _ h); omega
  cases hv : varB t.name with
  | false =>
    have HV := hide hv
    have HT : Hid (gT lk t = ⟨t.name, gL lk t.args⟩) := by unfold Hid gT gN; rw [hv]; rfl
    clear hv
    go_enter Try.func75, Try.ntmps75
    go_wp2_with (go_at_call 49; refine (isVariable_all _ _).mono ?_; rintro e w' ⟨rfl, rfl⟩; rw [HV.out])
    refine (H.out _ f Y (HS.out.later HB0.out) (by exact (HF.out.alloc _).alloc _) (hE.below HE.out HB0.out) hYF).mono ?_
    rintro e w9 ⟨s', a', l', c', m, f', Y', rfl, hF1, hx1, hE1, hsub1, hff1, hc1⟩
    have R9 := hide (RW.out.exq hx1 hR1)
    have HX9 := hide (EXW.out.trans hx1)
    have HF9 := hide hF1
    have HE9 := hide hE1
    have HSUB := hide hsub1
    have HFF := hide hff1
    have HC := hide hc1
    clear hF1 hx1 hE1 hsub1 hff1 hc1
    have r0 : w9.cell? ⟨w.heap.size + 1, 0, none⟩ = some (.string ⟨#[]⟩) := R9.out.cell 0
    have r1 : w9.cell? ⟨w.heap.size + 1, 1, none⟩ = some (.slice none 0 0) := R9.out.cell 1
    have rf := R9.out.frozen
    go_wp2_with fail
    refine bodyPost_ret (v := .agg #[.string s', .slice a' l' c']) (by simp [results, Try.results75, go_sem, World.cell?_setCell_same, World.cell?_setCell_other, r0, r1]) rfl ?_
    rw [HT.out]
    refine fl_end hE (by omega) HYW.out HF9.out HX9.out HE9.out (fun b hb => (HSUB.out b hb).imp id fun h => by rw [hW2.out] at h; exact h) HFF.out ?_
    rcases HC.out with ⟨y, e1, e2, e3, e4, e5, e6⟩ | h
    · exact Or.inl ⟨y, e1, e2, e3, e4, e5.mono fun b hb _ => by have := hW2.out; omega, e6⟩
    · exact Or.inr h
  | true =>
    have HV := hide hv
    have HLK := hide (HL.out hv)
    clear hv HL
    have E0 := hide (hE.below HE.out HB0.out)
    have F0 := hide ((HF.out.alloc (.cells #[.string t.name, .slice a t.args.length c] 28)).alloc (.cells #[.string ⟨#[]⟩, .slice none 0 0] 28))
    have S0 := hide (HS.out.later HB0.out)
    have T0 := hide ((Blk.new w #[.string t.name, .slice a t.args.length c] 28).alloc (.cells #[.string ⟨#[]⟩, .slice none 0 0] 28))
    have g1 := F0.out.cell 1
    have g0 := T0.out.cell 0
    simp only [List.getElem?_toArray, List.getElem?_cons_succ, List.getElem?_cons_zero] at g1 g0
    have LKA : Hid (∀ w', Below ((w.alloc (.cells #[.string t.name, .slice a t.args.length c] 28)).alloc (.cells #[.string ⟨#[]⟩, .slice none 0 0] 28)).heap.size ((w.alloc (.cells #[.string t.name, .slice a t.args.length c] 28)).alloc (.cells #[.string ⟨#[]⟩, .slice none 0 0] 28)) w' → Calls Try.prog 127 #[.pointer (some ⟨S, 0, none⟩), .string t.name] w' fun e w'' => LkPost E Mt (lk t.name) f Y w' e w'') := fun w' hb => HLK.out f Y w' (hE.below E0.out hb)
    have HKP : Hid (∀ w', ExQ Mt ((w.alloc (.cells #[.string t.name, .slice a t.args.length c] 28)).alloc (.cells #[.string ⟨#[]⟩, .slice none 0 0] 28)) w' → w'.cell? ⟨F, 1, none⟩ = some (sV S) ∧ w'.cell? ⟨w.heap.size, 0, none⟩ = some (.string t.name)) := fun w' hb => ⟨(F0.out.exq hb hFM).cell 1, (T0.out.exq hb (fun h => by have := HYW.out _ (HMT.out _ h); omega)).cell 0⟩
    have nF : ((w.alloc (.cells #[.string t.name, .slice a t.args.length c] 28)).alloc (.cells #[.string ⟨#[]⟩, .slice none 0 0] 28)).heap.size ≠ F := by have := hW2.out; omega
    have nT : ((w.alloc (.cells #[.string t.name, .slice a t.args.length c] 28)).alloc (.cells #[.string ⟨#[]⟩, .slice none 0 0] 28)).heap.size ≠ w.heap.size := by have := hW2.out; omega
    have nM : ¬ Mt ((w.alloc (.cells #[.string t.name, .slice a t.args.length c] 28)).alloc (.cells #[.string ⟨#[]⟩, .slice none 0 0] 28)).heap.size := fun h => by have := HYW.out _ (HMT.out _ h); have := hW2.out; omega
    clear f1
    unfold sV at g1 HKP
    go_enter Try.func75, Try.ntmps75
    go_wp2_with (go_at_call 49; refine (isVariable_all _ _).mono ?_; rintro e w' ⟨rfl, rfl⟩; rw [HV.out])
    generalize ((w.alloc (.cells #[.string t.name, .slice a t.args.length c] 28)).alloc (.cells #[.string ⟨#[]⟩, .slice none 0 0] 28)) = w0 at *
    go_region_held3 (fun w' => w'.cell? ⟨F, 1, none⟩ = some (.func (.func 127) #[.pointer (some ⟨S, 0, none⟩)] #[]) ∧ w'.cell? ⟨w.heap.size, 0, none⟩ = some (.string t.name)) (first | exact hS | exact ⟨g1, g0⟩ | exact two_keep hS nF nT | exact two_keep (two_keep hS nF nT) nF nT | go_keep)
      ((go_at_call 127; refine (LKA.out _ (by first | exact (Below.refl _ _).drew | exact ((Below.refl _ _).alloc (Nat.le_refl _) _).drew)).mono ?_; rintro e w1 ⟨s1, a1, n1, c1, ok1, f1, Y1, rfl, hE1, hsub1, hff1, hx1, hc1⟩; have HE1 := hide hE1; have HSUB1 := hide hsub1; have HFF1 := hide hff1; have HC1 := hide hc1; clear hE1 hsub1 hff1 hc1; (first | (have hB0 := wayq1 hx1; have hS := HKP.out _ hB0) | (have hB0 := wayq2 hx1; have xb := hide (wayq2b hx1 nM); have x0 := xb.out.cell 0; have x1 := xb.out.cell 1; have xf := xb.out.frozen; have hS := HKP.out _ hB0)); have HX1 := hide hx1; clear hx1))
    · generalize hz : (w1.alloc (Obj.cells #[Value.string s1, Value.slice a1 n1 c1] 28)) = wz at *
      have hkz : ∀ b, b < w1.heap.size → wz.heap[b]? = w1.heap[b]? := fun b hb => by rw [← hz]; exact Below.heap_alloc _ _ _ hb
      have hxz : ExQ Mt w0 wz := by rw [← hz]; exact hB0.alloc _
      have HS1 : Hid (∀ b, Y1 b → wz.heap[b]? = w1.heap[b]?) := fun b hb => hkz b (hE.inY _ _ _ HE1.out b hb)
      have HU1 : Hid (∀ b, Y1 b → Y b ∨ w.heap.size + 2 ≤ b) := fun b hb => (HSUB1.out b hb).imp id fun h => by have h2 := hW2.out; have h3 : w0.heap.size ≤ b := h; omega
      have q0 : wz.cell? ⟨w1.heap.size, 0, none⟩ = some (.string s1) := by rw [← hz]; exact (Blk.new w1 _ _).cell 0
      have q1 : wz.cell? ⟨w1.heap.size, 1, none⟩ = some (.slice a1 n1 c1) := by rw [← hz]; exact (Blk.new w1 _ _).cell 1
      have HXZ := hide hxz
      have HEZ : Hid (E f1 Y1 wz) := hE.keep _ _ _ _ HE1.out HS1.out
      have HFZ := hide (F0.out.exq hxz hFM)
      have HRZ := hide (RW.out.exq hxz (fun h => hR1 (Or.inr h)))
      have HTZ := hide (T0.out.exq hxz (fun h => by have := HYW.out _ (HMT.out _ h); omega))
      have HY1F : Hid (¬ Y1 F) := fun h => by
        rcases HU1.out F h with h1 | h1
        · exact hYF h1
        · omega
      have HSZ2 : Hid (w.heap.size + 2 ≤ wz.heap.size) := by have := hxz.size; have := hW2.out; unfold Hid; omega
      clear hxz hz hS hB0
      rcases HC1.out with ⟨rfl, x, rfl, rfl, hsx, hox⟩ | ⟨rfl, hox⟩
      · have HSX : Hid (Sl wz Y1 a1 x.args) := hsx.kept HS1.out
        have HOX := hide hox
        clear hsx hox HC1
        go_wp2_with fail
        refine (knotC_any F _ x n _ wz Y1 ⟨a1, c1, rfl, HSX.out⟩ (fun b hb e => HY1F.out (e ▸ hb)) hn HFZ.out).mono ?_
        rintro e w9 ⟨s', a', l', c', m, rfl, hF1, hx1, hy1, hn1⟩
        have R9 := hide (HRZ.out.ex hx1 (by omega))
        have HX9 : Hid (ExQ (fun b => b = F ∨ Mt b) w w9) := (EXW.out.trans (HXZ.out.mono fun b hb _ => Or.inr hb)).trans (ExQ.ofEx hx1 (Or.inl rfl))
        have HE9 : Hid (E f1 Y1 w9) := hE.keep _ _ _ _ HEZ.out fun b hb => hx1.block b (hE.inY _ _ _ HEZ.out b hb) (fun e => HY1F.out (e ▸ hb))
        have HF9 := hide hF1
        have HCC : Hid (FlC w (gT lk t) n f1 s' a' l' m 2 w9) := by
          by_cases hle : sizeL [x] ≤ n
          · obtain ⟨e1, e2, e3, e4⟩ := hy1 hle
            exact Or.inl ⟨x, e2, e3, e1, hle, e4.mono fun b hb _ => by have := HSZ2.out; omega, fun hf => by unfold gT gN; rw [HV.out, HOX.out hf]; rfl⟩
          · exact Or.inr ⟨hn1 (by omega), fun hf => by unfold gT gN; rw [HV.out, HOX.out hf]; simpa using hle⟩
        clear hF1 hx1 hy1 hn1
        have r0 : w9.cell? ⟨w.heap.size + 1, 0, none⟩ = some (.string ⟨#[]⟩) := R9.out.cell 0
        have r1 : w9.cell? ⟨w.heap.size + 1, 1, none⟩ = some (.slice none 0 0) := R9.out.cell 1
        have rf := R9.out.frozen
        go_wp2_with fail
        refine bodyPost_ret (v := .agg #[.string s', .slice a' l' c']) (by simp [results, Try.results75, go_sem, World.cell?_setCell_same, World.cell?_setCell_other, r0, r1]) rfl ?_
        exact fl_end hE (by omega) HYW.out HF9.out HX9.out HE9.out HU1.out HFF1.out HCC.out
      · have HOX := hide hox
        clear hox HC1
        have t0 : wz.cell? ⟨w.heap.size, 0, none⟩ = some (.string t.name) := HTZ.out.cell 0
        have t1 : wz.cell? ⟨w.heap.size, 1, none⟩ = some (.slice a t.args.length c) := HTZ.out.cell 1
        go_wp2_with fail
        refine (H.out wz f1 Y1 (S0.out.exq HXZ.out (fun b hb => (HXF.out b hb).2)) HFZ.out HEZ.out HY1F.out).mono ?_
        rintro e w9 ⟨s', a', l', c', m, f', Y', rfl, hF1, hx1, hE1, hsub1, hff1, hc1⟩
        have R9 := hide (HRZ.out.exq hx1 hR1)
        have HX9 : Hid (ExQ (fun b => b = F ∨ Mt b) w w9) := (EXW.out.trans (HXZ.out.mono fun b hb _ => Or.inr hb)).trans hx1
        have HE9 := hide hE1
        have HF9 := hide hF1
        have HU9 : Hid (∀ b, Y' b → Y b ∨ w.heap.size + 2 ≤ b) := fun b hb => by
          rcases hsub1 b hb with h | h
          · exact HU1.out b h
          · right; have := HSZ2.out; omega
        have HFF9 : Hid (f = true → f' = true) := fun h => hff1 (HFF1.out h)
        have HCC : Hid (FlC w (gT lk t) n f' s' a' l' m 2 w9) := by
          have hT : f' = false → gT lk t = ⟨t.name, gL lk t.args⟩ := fun hf => by
            have hf1 : f1 = false := by
              cases h : f1 with
              | false => rfl
              | true => have := hff1 h; rw [hf] at this; cases this
            unfold gT gN; rw [HV.out, HOX.out hf1]; rfl
          rcases hc1 with ⟨y, e1, e2, e3, e4, e5, e6⟩ | ⟨e1, e2⟩
          · exact Or.inl ⟨y, e1, e2, e3, e4, e5.mono fun b hb _ => by have := HSZ2.out; omega, fun hf => by rw [hT hf]; exact e6 hf⟩
          · exact Or.inr ⟨e1, fun hf => by rw [hT hf]; exact e2 hf⟩
        clear hF1 hx1 hE1 hsub1 hff1 hc1
        have r0 : w9.cell? ⟨w.heap.size + 1, 0, none⟩ = some (.string ⟨#[]⟩) := R9.out.cell 0
        have r1 : w9.cell? ⟨w.heap.size + 1, 1, none⟩ = some (.slice none 0 0) := R9.out.cell 1
        have rf := R9.out.frozen
        go_wp2_with fail
        refine bodyPost_ret (v := .agg #[.string s', .slice a' l' c']) (by simp [results, Try.results75, go_sem, World.cell?_setCell_same, World.cell?_setCell_other, r0, r1]) rfl ?_
        exact fl_end hE (by omega) HYW.out HF9.out HX9.out HE9.out HU9.out HFF9.out HCC.out
    · generalize hz : ((w1.setCell { block := w0.heap.size, off := 0 } (Value.string s1)).setCell { block := w0.heap.size, off := 1 } (Value.slice a1 n1 c1)) = wz at *
      have hxz : ExQ Mt w0 wz := by rw [← hz]; exact (hB0.setNew (Nat.le_refl _) _ _).setNew (Nat.le_refl _) _ _
      have HU1 : Hid (∀ b, Y1 b → Y b ∨ w.heap.size + 2 ≤ b) := fun b hb => (HSUB1.out b hb).imp id fun h => by have h2 := hW2.out; simp at h; omega
      have HS1 : Hid (∀ b, Y1 b → wz.heap[b]? = w1.heap[b]?) := fun b hb => by
        have hne : b ≠ w0.heap.size := fun e => by
          rcases HSUB1.out b hb with h | h
          · have := HYW.out b h; have := hW2.out; omega
          · simp at h; omega
        rw [← hz, Below.heap_setCell _ _ _ _ (by simpa using hne), Below.heap_setCell _ _ _ _ (by simpa using hne)]
      have q0 : wz.cell? ⟨w0.heap.size, 0, none⟩ = some (.string s1) := by rw [← hz]; simp [World.cell?_setCell_same, World.cell?_setCell_other, x0, x1]
      have q1 : wz.cell? ⟨w0.heap.size, 1, none⟩ = some (.slice a1 n1 c1) := by rw [← hz]; simp [World.cell?_setCell_same, World.cell?_setCell_other, x0, x1]
      have HXZ := hide hxz
      have HEZ : Hid (E f1 Y1 wz) := hE.keep _ _ _ _ HE1.out HS1.out
      have HFZ := hide (F0.out.exq hxz hFM)
      have HRZ := hide (RW.out.exq hxz (fun h => hR1 (Or.inr h)))
      have HTZ := hide (T0.out.exq hxz (fun h => by have := HYW.out _ (HMT.out _ h); omega))
      have HY1F : Hid (¬ Y1 F) := fun h => by
        rcases HU1.out F h with h1 | h1
        · exact hYF h1
        · omega
      have HSZ2 : Hid (w.heap.size + 2 ≤ wz.heap.size) := by have := hxz.size; have := hW2.out; unfold Hid; omega
      clear hxz hz hS hB0
      rcases HC1.out with ⟨rfl, x, rfl, rfl, hsx, hox⟩ | ⟨rfl, hox⟩
      · have HSX : Hid (Sl wz Y1 a1 x.args) := hsx.kept HS1.out
        have HOX := hide hox
        clear hsx hox HC1
        go_wp2_with fail
        refine (knotC_any F _ x n _ wz Y1 ⟨a1, c1, rfl, HSX.out⟩ (fun b hb e => HY1F.out (e ▸ hb)) hn HFZ.out).mono ?_
        rintro e w9 ⟨s', a', l', c', m, rfl, hF1, hx1, hy1, hn1⟩
        have R9 := hide (HRZ.out.ex hx1 (by omega))
        have HX9 : Hid (ExQ (fun b => b = F ∨ Mt b) w w9) := (EXW.out.trans (HXZ.out.mono fun b hb _ => Or.inr hb)).trans (ExQ.ofEx hx1 (Or.inl rfl))
        have HE9 : Hid (E f1 Y1 w9) := hE.keep _ _ _ _ HEZ.out fun b hb => hx1.block b (hE.inY _ _ _ HEZ.out b hb) (fun e => HY1F.out (e ▸ hb))
        have HF9 := hide hF1
        have HCC : Hid (FlC w (gT lk t) n f1 s' a' l' m 2 w9) := by
          by_cases hle : sizeL [x] ≤ n
          · obtain ⟨e1, e2, e3, e4⟩ := hy1 hle
            exact Or.inl ⟨x, e2, e3, e1, hle, e4.mono fun b hb _ => by have := HSZ2.out; omega, fun hf => by unfold gT gN; rw [HV.out, HOX.out hf]; rfl⟩
          · exact Or.inr ⟨hn1 (by omega), fun hf => by unfold gT gN; rw [HV.out, HOX.out hf]; simpa using hle⟩
        clear hF1 hx1 hy1 hn1
        have r0 : w9.cell? ⟨w.heap.size + 1, 0, none⟩ = some (.string ⟨#[]⟩) := R9.out.cell 0
        have r1 : w9.cell? ⟨w.heap.size + 1, 1, none⟩ = some (.slice none 0 0) := R9.out.cell 1
        have rf := R9.out.frozen
        go_wp2_with fail
        refine bodyPost_ret (v := .agg #[.string s', .slice a' l' c']) (by simp [results, Try.results75, go_sem, World.cell?_setCell_same, World.cell?_setCell_other, r0, r1]) rfl ?_
        exact fl_end hE (by omega) HYW.out HF9.out HX9.out HE9.out HU1.out HFF1.out HCC.out
      · have HOX := hide hox
        clear hox HC1
        have t0 : wz.cell? ⟨w.heap.size, 0, none⟩ = some (.string t.name) := HTZ.out.cell 0
        have t1 : wz.cell? ⟨w.heap.size, 1, none⟩ = some (.slice a t.args.length c) := HTZ.out.cell 1
        go_wp2_with fail
        refine (H.out wz f1 Y1 (S0.out.exq HXZ.out (fun b hb => (HXF.out b hb).2)) HFZ.out HEZ.out HY1F.out).mono ?_
        rintro e w9 ⟨s', a', l', c', m, f', Y', rfl, hF1, hx1, hE1, hsub1, hff1, hc1⟩
        have R9 := hide (HRZ.out.exq hx1 hR1)
        have HX9 : Hid (ExQ (fun b => b = F ∨ Mt b) w w9) := (EXW.out.trans (HXZ.out.mono fun b hb _ => Or.inr hb)).trans hx1
        have HE9 := hide hE1
        have HF9 := hide hF1
        have HU9 : Hid (∀ b, Y' b → Y b ∨ w.heap.size + 2 ≤ b) := fun b hb => by
          rcases hsub1 b hb with h | h
          · exact HU1.out b h
          · right; have := HSZ2.out; omega
        have HFF9 : Hid (f = true → f' = true) := fun h => hff1 (HFF1.out h)
        have HCC : Hid (FlC w (gT lk t) n f' s' a' l' m 2 w9) := by
          have hT : f' = false → gT lk t = ⟨t.name, gL lk t.args⟩ := fun hf => by
            have hf1 : f1 = false := by
              cases h : f1 with
              | false => rfl
              | true => have := hff1 h; rw [hf] at this; cases this
            unfold gT gN; rw [HV.out, HOX.out hf1]; rfl
          rcases hc1 with ⟨y, e1, e2, e3, e4, e5, e6⟩ | ⟨e1, e2⟩
          · exact Or.inl ⟨y, e1, e2, e3, e4, e5.mono fun b hb _ => by have := HSZ2.out; omega, fun hf => by rw [hT hf]; exact e6 hf⟩
          · exact Or.inr ⟨e1, fun hf => by rw [hT hf]; exact e2 hf⟩
        clear hF1 hx1 hE1 hsub1 hff1 hc1
        have r0 : w9.cell? ⟨w.heap.size + 1, 0, none⟩ = some (.string ⟨#[]⟩) := R9.out.cell 0
        have r1 : w9.cell? ⟨w.heap.size + 1, 1, none⟩ = some (.slice none 0 0) := R9.out.cell 1
        have rf := R9.out.frozen
        go_wp2_with fail
        refine bodyPost_ret (v := .agg #[.string s', .slice a' l' c']) (by simp [results, Try.results75, go_sem, World.cell?_setCell_same, World.cell?_setCell_other, r0, r1]) rfl ?_
        exact fl_end hE (by omega) HYW.out HF9.out HX9.out HE9.out HU9.out HFF9.out HCC.out
#print axioms ffillL_of
end Go.Proofs.Ytkfppicbningaaa

/- Maps by texts: looked into, and set where the key is there. -/
namespace Go.Proofs.Ytkfppicbningaaa
open Go.RowKit
set_option linter.unusedSimpArgs false
set_option linter.unusedVariables false

/-- What stands for a key is another. -/
def setAt : List (ByteArray × Value) → ByteArray → Value → List (ByteArray × Value)
  | [], _, _ => []
  | p :: r, n, v => if p.1 = n then (p.1, v) :: r else p :: setAt r n v
theorem mapGet_setAt (n : ByteArray) (v : Value) : ∀ L : List (ByteArray × Value), mapGet (setAt L n v) n = (mapGet L n).map fun _ => v
  | [] => rfl
  | p :: r => by
    by_cases h : p.1 = n
    · simp [setAt, mapGet, h]
    · simp [setAt, mapGet, h, mapGet_setAt n v r]
theorem mapGet_append (n : ByteArray) (q : ByteArray × Value) : ∀ L : List (ByteArray × Value), mapGet L n = none → mapGet (L ++ [q]) n = if q.1 = n then some q.2 else none
  | [], _ => by simp [mapGet]
  | p :: r, h => by
    by_cases hp : p.1 = n
    · simp [mapGet, hp] at h
    · rw [mapGet, if_neg hp] at h
      rw [List.cons_append, mapGet, if_neg hp]
      exact mapGet_append n q r h

theorem findNow_set (n : ByteArray) (x : Value) : ∀ (l : List MapEntry) (L : List (ByteArray × Value)) (i : Nat) (v : Value), l.map (fun e => (e.key, e.val)) = L.map (fun p => (Value.string p.1, p.2)) → mapGet L n = some v →
    ∃ j e, Instr.findNow .string (.string n) l i = some (some (i + j, v)) ∧ l[j]? = some e ∧ e.key = .string n ∧ (l.modify j fun e => { e with key := .string n, val := x }).map (fun e => (e.key, e.val)) = (setAt L n x).map (fun p => (Value.string p.1, p.2))
  | [], [], i, v, h, hv => by simp [mapGet] at hv
  | [], p :: L, i, v, h, hv => by simp at h
  | e :: l, [], i, v, h, hv => by simp at h
  | e :: l, p :: L, i, v, h, hv => by
    simp only [List.map_cons, List.cons.injEq, Prod.mk.injEq] at h
    obtain ⟨⟨hk, he⟩, ht⟩ := h
    by_cases hn : p.1 = n
    · have hs : Instr.sameNow .string (.string n) e.key = some true := by
        rw [hk, hn]
        show some (n == n) = some true
        rw [show (n == n) = true from (MapKept.bytes_beq _ _).2 rfl]
      simp only [mapGet, hn, if_true, Option.some.injEq] at hv
      refine ⟨0, e, by simp [Instr.findNow, hs, he, hv], rfl, by rw [hk, hn], ?_⟩
      simp [setAt, hn, ht]
    · have hs : Instr.sameNow .string (.string n) e.key = some false := by
        rw [hk]
        show some (n == p.1) = some false
        have hb : (n == p.1) = false := by
          cases hh : (n == p.1) with
          | false => rfl
          | true => exact absurd ((MapKept.bytes_beq _ _).1 hh).symm hn
        rw [hb]
      rw [mapGet, if_neg hn] at hv
      obtain ⟨j, e', h1, h2, h3, h4⟩ := findNow_set n x l L (i + 1) v ht hv
      refine ⟨j + 1, e', by simp [Instr.findNow, hs, h1]; omega, by simpa using h2, h3, ?_⟩
      rw [setAt, if_neg hn]
      simp [List.modify_succ_cons, h4, hk, he]

theorem run_look1 {P : Program} {w : World} {T kt et : TypeId} {r : Nat} {L : List (ByteArray × Value)} {z : Value} (hm : P.underlying T = some (.map kt et)) (hk : P.underlying kt = some .string) (hz : (zeroValue et).run P w = .ok z w) (h : MapAt w r L) (n : ByteArray) :
    (Instr.lookup T (.map (some r)) (.string n) false).run P w = .ok ((mapGet L n).getD z) w := by
  obtain ⟨es, clk, hb, he, hstm⟩ := h
  obtain ⟨h1, h2⟩ := findNow_map n es.toList L 0 he
  have hc : ∀ b, (Instr.checkKey b 10000 kt (.string n)).run P w = .ok () w := fun b => MapKept.run_checkKey (k := .string n) hk (by simp [MapKept.IsKey]) b 9999
  cases hg : mapGet L n with
  | none => simp [Instr.lookup, run_underlying hm, MapKept.run_getObj_map hb, hc, MapKept.run_findKey hk (h1 hg), Result.andThen, hz]
  | some v =>
    obtain ⟨j, hj⟩ := h2 v hg
    simp [Instr.lookup, run_underlying hm, MapKept.run_getObj_map hb, hc, MapKept.run_findKey hk hj, Result.andThen]

theorem run_set {P : Program} {w : World} {T kt et : TypeId} {r : Nat} {L : List (ByteArray × Value)} (hm : P.underlying T = some (.map kt et)) (hk : P.underlying kt = some .string) (h : MapAt w r L) (n : ByteArray) (v old : Value) (hn : mapGet L n = some old) :
    ∃ w', (Instr.mapUpdate T (.map (some r)) (.string n) v).run P w = .ok () w' ∧ MapAt w' r (setAt L n v) ∧ w'.heap.size = w.heap.size ∧ w'.os = w.os ∧ w'.tape = w.tape ∧ w'.output = w.output ∧ (∀ b, b ≠ r → w'.heap[b]? = w.heap[b]?) := by
  obtain ⟨es, clk, hb, he, hstm⟩ := h
  obtain ⟨j, e0, h1, h2, h3, h4⟩ := findNow_set n v es.toList L 0 old he hn
  have hc : (Instr.checkKey false 10000 kt (.string n)).run P w = .ok () w := MapKept.run_checkKey (k := .string n) hk (by simp [MapKept.IsKey]) false 9999
  have hj : es[j]? = some e0 := by simpa using h2
  rw [Nat.zero_add] at h1
  have hst : (Instr.keyThatStays (.string n) (.string n)).run P w = .ok (.string n) w := MapKept.run_keyThatStays (d := .string) (by simp [MapKept.IsKey])
  refine ⟨{ w with heap := w.heap.setIfInBounds r (.map (es.modify j fun e => { e with key := .string n, val := v }) clk) }, ?_, ⟨_, _, (MapKept.heap_set hb).1, by rw [Array.toList_modify]; exact h4, hstm.modify _ _ _⟩, by simp, rfl, rfl, rfl, fun b hne => (MapKept.heap_set hb).2 b hne⟩
  simp [Instr.mapUpdate, run_underlying hm, MapKept.run_getObj_map hb, hc, MapKept.run_findKey hk h1, hj, h3, hst, MapKept.run_setObj_map _ hb, Result.andThen]
end Go.Proofs.Ytkfppicbningaaa

/- What stands for variables while equations are worked off, in a map: what was put in, and when. -/
namespace Go.Proofs.Ytkfppicbningaaa
open Go.RowKit
set_option linter.unusedSimpArgs false
set_option linter.unusedVariables false
set_option maxRecDepth 8000

theorem gL_onL {s : List Bd} (hs : ∀ d ∈ s, varB d.nm = true) : ∀ l : List Tm, errL l = 0 → gL (forT s) l = onL s l := by
  intro l
  induction l using Tm.indL with
  | h0 => intro _; simp [gL, onL]
  | h n l r ihl ihr =>
    intro he
    obtain ⟨g1, g2, g3⟩ := errL_parts he
    rw [gL, onL_cons, ihr g3, ihl g2]
    congr 1
    cases hv : varB n with
    | false => rw [onT_sym2 hs hv, gN, hv]; rfl
    | true =>
      have e := g1 hv
      subst e
      rw [onT_leaf, gN, hv]
      cases forT s n with
      | none => simp [onL]
      | some x => rfl
theorem gT_onT {s : List Bd} (hs : ∀ d ∈ s, varB d.nm = true) {t : Tm} (he : errL [t] = 0) : gT (forT s) t = onT s t := by
  have h := gL_onL hs [t] he
  rw [gL_map, onL_cons] at h
  simpa [onL] using h

/-- The names may be. -/
def NamesH (h : List (ByteArray × Tm)) : Prop := ∀ i (hi : i < h.length), nameB h[i].1 = true
/-- What stands for the i-th variable, as it lies in the map. -/
def StE (w : World) (Y : Nat → Prop) (h : List (ByteArray × Tm)) (i : Nat) (hi : i < h.length) (v : Value) : Prop :=
  ∃ (j : Nat) (a : Option Addr) (c : Nat), j ≤ h.length ∧ v = .agg #[.string (stood h i (max j (i + 1)) hi).name, .slice a (stood h i (max j (i + 1)) hi).args.length c, .int .i64 (j : Int)] ∧ Sl w Y a (stood h i (max j (i + 1)) hi).args
def StMap (w : World) (Y : Nat → Prop) (h : List (ByteArray × Tm)) (L : List (ByteArray × Value)) : Prop :=
  L.length = h.length ∧ ∀ i (hi : i < h.length) (hl : i < L.length), L[i].1 = h[i].1 ∧ StE w Y h i hi L[i].2
theorem StE.imp {w w' : World} {Y Z : Nat → Prop} {h : List (ByteArray × Tm)} {i : Nat} {hi : i < h.length} {v : Value} (hs : ∀ a l, Sl w Y a l → Sl w' Z a l) (e : StE w Y h i hi v) : StE w' Z h i hi v := by
  obtain ⟨j, a, c, h1, h2, h3⟩ := e
  exact ⟨j, a, c, h1, h2, hs _ _ h3⟩
theorem StMap.imp {w w' : World} {Y Z : Nat → Prop} {h : List (ByteArray × Tm)} {L : List (ByteArray × Value)} (hs : ∀ a l, Sl w Y a l → Sl w' Z a l) (e : StMap w Y h L) : StMap w' Z h L :=
  ⟨e.1, fun i hi hl => ⟨(e.2 i hi hl).1, (e.2 i hi hl).2.imp hs⟩⟩
theorem mapGet_at : ∀ (L : List (ByteArray × Value)) (i : Nat) (hi : i < L.length), (∀ k (hk : k < L.length), k < i → L[k].1 ≠ L[i].1) → mapGet L L[i].1 = some L[i].2
  | [], i, hi, _ => by simp at hi
  | p :: r, 0, hi, _ => by simp [mapGet]
  | p :: r, i + 1, hi, h => by
    have h0 := h 0 (by simp) (by omega)
    simp only [List.getElem_cons_zero, List.getElem_cons_succ] at h0 ⊢
    rw [mapGet, if_neg h0]
    refine mapGet_at r i (by simpa using hi) fun k hk hki => ?_
    have := h (k + 1) (by simpa using hk) (by omega)
    simpa using this
theorem mapGet_none : ∀ (L : List (ByteArray × Value)) (n : ByteArray), (∀ k (hk : k < L.length), L[k].1 ≠ n) → mapGet L n = none
  | [], n, _ => rfl
  | p :: r, n, h => by
    have h0 := h 0 (by simp)
    simp only [List.getElem_cons_zero] at h0
    rw [mapGet, if_neg h0]
    exact mapGet_none r n fun k hk => by have := h (k + 1) (by simpa using hk); simpa using this
theorem setAt_get : ∀ (L : List (ByteArray × Value)) (i : Nat) (hi : i < L.length) (v : Value), (∀ k (hk : k < L.length), k < i → L[k].1 ≠ L[i].1) → setAt L L[i].1 v = L.set i (L[i].1, v)
  | [], i, hi, v, _ => by simp at hi
  | p :: r, 0, hi, v, _ => by simp [setAt]
  | p :: r, i + 1, hi, v, h => by
    have h0 := h 0 (by simp) (by omega)
    simp only [List.getElem_cons_zero, List.getElem_cons_succ] at h0 ⊢
    rw [setAt, if_neg h0, setAt_get r i (by simpa using hi) v fun k hk hki => by have := h (k + 1) (by simpa using hk) (by omega); simpa using this]
    rfl
theorem StMap.apart {w : World} {Y : Nat → Prop} {h : List (ByteArray × Tm)} {L : List (ByteArray × Value)} (e : StMap w Y h L) (g : GoodH h) (i : Nat) (hi : i < L.length) : ∀ k (hk : k < L.length), k < i → L[k].1 ≠ L[i].1 := fun k hk hki hh => by
  have hl := e.1
  rw [(e.2 k (by omega) hk).1, (e.2 i (by omega) hi).1] at hh
  have := g.once (by omega) (by omega) hh
  omega
theorem StMap.get {w : World} {Y : Nat → Prop} {h : List (ByteArray × Tm)} {L : List (ByteArray × Value)} (e : StMap w Y h L) (g : GoodH h) {i : Nat} (hi : i < h.length) : ∃ v, mapGet L h[i].1 = some v ∧ StE w Y h i hi v := by
  have hl : i < L.length := by rw [e.1]; exact hi
  have h1 := mapGet_at L i hl (e.apart g i hl)
  rw [(e.2 i hi hl).1] at h1
  exact ⟨_, h1, (e.2 i hi hl).2⟩
theorem StMap.none {w : World} {Y : Nat → Prop} {h : List (ByteArray × Tm)} {L : List (ByteArray × Value)} (e : StMap w Y h L) {n : ByteArray} (hn : ∀ i (hi : i < h.length), h[i].1 ≠ n) : mapGet L n = none :=
  mapGet_none L n fun k hk => by rw [(e.2 k (by rw [← e.1]; exact hk) hk).1]; exact hn k _
theorem StMap.set {w : World} {Y : Nat → Prop} {h : List (ByteArray × Tm)} {L : List (ByteArray × Value)} (e : StMap w Y h L) (g : GoodH h) {i : Nat} (hi : i < h.length) {v : Value} (hv : StE w Y h i hi v) : StMap w Y h (setAt L h[i].1 v) := by
  have hl : i < L.length := by rw [e.1]; exact hi
  have h1 := setAt_get L i hl v (e.apart g i hl)
  rw [(e.2 i hi hl).1] at h1
  rw [h1]
  refine ⟨by simp [e.1], fun k hk hkl => ?_⟩
  by_cases hki : i = k
  · subst hki
    simp only [List.getElem_set_self]
    exact ⟨trivial, hv⟩
  · rw [List.getElem_set_ne hki]
    exact e.2 k hk (by simpa using hkl)
/-- What stands for a bound variable. -/
theorem forT_at {h : List (ByteArray × Tm)} (g : GoodH h) {i : Nat} (hi : i < h.length) : forT (sAt h) h[i].1 = some (stood h i h.length hi) := by
  obtain ⟨d, hd, e⟩ := (g.bound h.length (Nat.le_refl _) h[i].1).2 ⟨i, hi, hi, rfl⟩
  rw [List.take_length] at hd
  obtain ⟨t, ht⟩ := forT_some_of hd
  rw [e] at ht
  rw [ht]
  unfold stood
  rw [List.take_length, onT_some ht]
theorem forT_free {h : List (ByteArray × Tm)} (g : GoodH h) {n : ByteArray} (hn : ∀ i (hi : i < h.length), h[i].1 ≠ n) : forT (sAt h) n = none := by
  cases hf : forT (sAt h) n with
  | none => rfl
  | some x =>
    obtain ⟨d, hd, e, _⟩ := forT_mem hf
    have h1 := (g.bound h.length (Nat.le_refl _) n).1 ⟨d, by rw [List.take_length]; exact hd, e⟩
    obtain ⟨i, hi, _, h2⟩ := h1
    exact absurd h2 (hn i hi)
theorem stood_err {h : List (ByteArray × Tm)} (g : GoodH h) (hn : NamesH h) {i : Nat} (hi : i < h.length) {j : Nat} (hj : j ≤ h.length) : errL [stood h i j hi] = 0 := errL_onT2 (g.ok j hj) (err_leaf (hn i hi))
/-- Filled, it is what stands for it. -/
theorem stood_fill {h : List (ByteArray × Tm)} (g : GoodH h) (hn : NamesH h) {i : Nat} (hi : i < h.length) {j : Nat} (hj : j ≤ h.length) : gT (forT (sAt h)) (stood h i j hi) = stood h i h.length hi := by
  rw [gT_onT g.all.vars (stood_err g hn hi hj), stood_on g hi hj (hn i hi)]
/-- Too great: then some binding is. -/
theorem stood_great {h : List (ByteArray × Tm)} (g : GoodH h) {i : Nat} (hi : i < h.length) (hz : 2000 < sizeL [stood h i h.length hi]) : grtB (sAt h) = true := by
  obtain ⟨d, hd, e1, e2⟩ := forT_mem (forT_at g hi)
  unfold grtB
  rw [List.any_eq_true]
  exact ⟨d, hd, by rw [e2]; simpa using hz⟩

/-- What is looked into while equations are worked off. -/
def SolE (S q : Nat) (td : Value) (h : List (ByteArray × Tm)) : Ev := fun f Y w =>
  (∃ L, Blk w S #[td, .map (some q), .bool f] 116 ∧ MapAt w q L ∧ StMap w (fun b => Y b ∧ b ≠ S ∧ b ≠ q) h L) ∧ Y S ∧ Y q ∧ (∀ b, Y b → b < w.heap.size) ∧ (f = true → grtB (sAt h) = true)
def SolM (S q : Nat) : Nat → Prop := fun b => b = S ∨ b = q
theorem solE_ok (S q : Nat) (td : Value) (h : List (ByteArray × Tm)) : EvOk (SolE S q td h) (SolM S q) := by
  refine ⟨fun f Y w w' he hk => ?_, fun f Y w he => he.2.2.2.1, fun f Y w he b hb => ?_⟩
  · obtain ⟨⟨L, h1, h2, h3⟩, h4, h5, h6, h7⟩ := he
    refine ⟨⟨L, ?_, h2.kept (hk q h5), h3.imp fun a l hs => hs.kept fun b hb => hk b hb.1⟩, h4, h5, fun b hb => ?_, h7⟩
    · unfold Blk at *; rw [hk S h4]; exact h1
    · have h8 := hk b hb
      have h9 := h6 b hb
      apply Classical.byContradiction
      intro hn
      rw [Array.getElem?_eq_none (by omega), Array.getElem?_eq_getElem h9] at h8
      cases h8
  · rcases hb with rfl | rfl
    · exact he.2.1
    · exact he.2.2.1
#print axioms solE_ok
#print axioms stood_fill
end Go.Proofs.Ytkfppicbningaaa

/- What holds between two steps, and how many equations may be to come: plain. -/
namespace Go.Proofs.Ytkfppicbningaaa
open Go.RowKit
set_option linter.unusedSimpArgs false
set_option linter.unusedVariables false

theorem le_of_apart {α : Type} : ∀ (l V : List α), l.Nodup → (∀ x ∈ l, x ∈ V) → l.length ≤ V.length
  | [], V, _, _ => by simp
  | a :: l, V, h, hs => by
    classical
    obtain ⟨h1, h2⟩ := List.nodup_cons.1 h
    have ih := le_of_apart l (V.filter fun x => decide (x ≠ a)) h2 fun x hx => List.mem_filter.2 ⟨hs x (by simp [hx]), by simp; rintro rfl; exact h1 hx⟩
    have hlt := filter_lt (p := fun _ => true) (q := fun x => decide (x ≠ a)) V (fun _ _ _ => rfl) ⟨a, hs a (by simp), rfl, by simp⟩
    have e : V.filter (fun _ => true) = V := List.filter_eq_self.2 (by simp)
    rw [e] at hlt
    simp only [List.length_cons]
    omega

/-- What holds between two steps. -/
structure UI (V : List ByteArray) (h : List (ByteArray × Tm)) (l : List Pr) : Prop where
  good : GoodH h
  names : NamesH h
  inV : ∀ i (hi : i < h.length), h[i].1 ∈ V
  err : errL (flatP l) = 0
  vars : ∀ y, varB y = true → occL y (onL (sAt h) (flatP l)) → y ∈ V
  size : ∀ p ∈ l, sizeL [p.l] ≤ 2000 ∧ sizeL [p.r] ≤ 2000
  len : ∃ l1 l2, l = l1 ++ l2 ∧ (∀ p ∈ l1, onT (sAt h) p.l = p.l ∧ onT (sAt h) p.r = p.r) ∧ sizeL (l1.map (·.l)) ≤ 2000 ∧ l2.length ≤ 40 + 2000 * h.length
theorem UI.hlen {V : List ByteArray} {h : List (ByteArray × Tm)} {l : List Pr} (u : UI V h l) : h.length ≤ V.length := by
  have h1 := le_of_apart (h.map (·.1)) V ?_ ?_
  · simpa using h1
  · rw [List.nodup_iff_pairwise_ne, List.pairwise_map, List.pairwise_iff_getElem]
    intro i j hi hj hij e
    have := u.good.once hi hj e
    omega
  · intro x hx
    obtain ⟨p, hp, rfl⟩ := List.mem_map.1 hx
    obtain ⟨i, hi, rfl⟩ := List.getElem_of_mem hp
    exact u.inV i hi
theorem map_len_size : ∀ l : List Pr, l.length ≤ sizeL (l.map (·.l))
  | [] => by simp
  | p :: l => by
    have := map_len_size l
    rw [List.map_cons, size_cons]
    have := sizeL_pos p.l
    simp only [List.length_cons]
    omega
theorem UI.llen {V : List ByteArray} {h : List (ByteArray × Tm)} {l : List Pr} (u : UI V h l) : l.length ≤ 2040 + 2000 * V.length := by
  obtain ⟨l1, l2, rfl, _, h2, h3⟩ := u.len
  have h4 := map_len_size l1
  have h5 := u.hlen
  rw [List.length_append]
  have : 2000 * h.length ≤ 2000 * V.length := Nat.mul_le_mul_left _ h5
  omega
theorem UI.start {l : List Pr} (he : errL (flatP l) = 0) (hs : ∀ p ∈ l, sizeL [p.l] ≤ 2000 ∧ sizeL [p.r] ≤ 2000) (hl : l.length ≤ 40) : UI ((preL (onL [] (flatP l))).map (·.name)) [] l :=
  ⟨goodH_nil, fun i hi => by simp at hi, fun i hi => by simp at hi, he, fun y _ ho => by obtain ⟨k, hk, e⟩ := ho; exact List.mem_map.2 ⟨k, hk, e⟩, hs, [], l, rfl, by simp, by simp [sizeL], by simpa using hl⟩
theorem UI.drop {V : List ByteArray} {h : List (ByteArray × Tm)} {p : Pr} {l : List Pr} (u : UI V h (p :: l)) : UI V h l := by
  obtain ⟨g1, g2, g3, g4, g5, g6, l1, l2, e, g7, g8, g9⟩ := u
  rw [flatP] at g4 g5
  refine ⟨g1, g2, g3, (err_two.1 (err_two.1 g4).2).2, fun y hy ho => g5 y hy ?_, fun q hq => g6 q (by simp [hq]), ?_⟩
  · rw [onL_cons, onL_cons]
    exact occL_cons.2 (Or.inr (occL_cons.2 (Or.inr ho)))
  · cases l1 with
    | nil =>
      cases l2 with
      | nil => cases e
      | cons q l2 =>
        simp only [List.nil_append, List.cons.injEq] at e
        obtain ⟨rfl, rfl⟩ := e
        simp only [List.length_cons] at g9
        exact ⟨[], l, rfl, by simp, by simp [sizeL], by omega⟩
    | cons q l1 =>
      simp only [List.cons_append, List.cons.injEq] at e
      obtain ⟨rfl, rfl⟩ := e
      rw [List.map_cons, size_cons] at g8
      exact ⟨l1, l2, rfl, fun q hq => g7 q (by simp [hq]), by omega, g9⟩
/-- What is popped. -/
theorem UI.head {V : List ByteArray} {h : List (ByteArray × Tm)} {p : Pr} {l : List Pr} (u : UI V h (p :: l)) : errL [p.l] = 0 ∧ errL [p.r] = 0 := by
  have g := u.err
  rw [flatP] at g
  exact ⟨(err_two.1 g).1, (err_two.1 (err_two.1 g).2).1⟩
theorem occ_self (u : Tm) : occL u.name [u] := by obtain ⟨n, k⟩ := u; exact occL_node.2 (Or.inl rfl)
theorem occ_sub {u : Tm} {y : ByteArray} (h : occL y u.args) : occL y [u] := by obtain ⟨n, k⟩ := u; exact occL_node.2 (Or.inr (Or.inl h))
theorem err_sub {u : Tm} (h : errL [u] = 0) : errL u.args = 0 := by obtain ⟨n, k⟩ := u; exact (errL_parts h).2.1
theorem size_sub (u : Tm) : sizeL [u] = 1 + sizeL u.args := by obtain ⟨n, k⟩ := u; simp [sizeL]
theorem name_of_err {u : Tm} (h : errL [u] = 0) : nameB u.name = true := by obtain ⟨n, k⟩ := u; exact errL_name h
/-- A variable is bound. -/
theorem UI.bindV {V : List ByteArray} {h : List (ByteArray × Tm)} {p : Pr} {l : List Pr} (u : UI V h (p :: l)) {x : ByteArray} {t : Tm} (hx : varB x = true) (hxt : (x = (onT (sAt h) p.l).name ∧ t = onT (sAt h) p.r) ∨ (x = (onT (sAt h) p.r).name ∧ t = onT (sAt h) p.l)) (ho : ¬ inB x (varsP [] (preL [t])) = true) :
    MayAdd (sAt h) x t ∧ UI V (h ++ [(x, t)]) l := by
  have ok := u.good.all
  obtain ⟨e1, e2⟩ := u.head
  have ea := errL_onT2 ok e1
  have eb := errL_onT2 ok e2
  have ga := ok.goneT e1
  have gb := ok.goneT e2
  have hV := u.vars
  rw [flatP, onL_cons, onL_cons] at hV
  have e3 : errL (flatP l) = 0 := u.drop.err
  have both : (∀ d ∈ sAt h, d.nm ≠ x) ∧ errL [t] = 0 ∧ (∀ e ∈ sAt h, ¬ occL e.nm [t]) ∧ nameB x = true ∧ x ∈ V ∧ (∀ y, occL y [t] → occL y (onT (sAt h) p.l :: onT (sAt h) p.r :: onL (sAt h) (flatP l))) := by
    rcases hxt with ⟨rfl, rfl⟩ | ⟨rfl, rfl⟩
    · exact ⟨fun d hd e => ga d hd (by rw [e]; exact occ_self _), eb, gb, name_of_err ea, hV _ hx (occL_cons.2 (Or.inl (occ_self _))), fun y hy => occL_cons.2 (Or.inr (occL_cons.2 (Or.inl hy)))⟩
    · exact ⟨fun d hd e => gb d hd (by rw [e]; exact occ_self _), ea, ga, name_of_err eb, hV _ hx (occL_cons.2 (Or.inr (occL_cons.2 (Or.inl (occ_self _))))), fun y hy => occL_cons.2 (Or.inl hy)⟩
  obtain ⟨b1, b2, b3, b4, b5, b6⟩ := both
  have hoc := not_inB hx ho
  have may : MayAdd (sAt h) x t := ⟨hx, b1, b2, b3, hoc⟩
  obtain ⟨f1, f2, f3⟩ := bind_facts (L := flatP l) ok hx b1 b2 b3 hoc e3
  refine ⟨may, u.good.snoc may, fun i hi => ?_, fun i hi => ?_, e3, fun y hy hoc => ?_, u.drop.size, [], l, rfl, by simp, by simp [sizeL], ?_⟩
  · by_cases e : i < h.length
    · rw [List.getElem_append_left e]; exact u.names i e
    · have : i = h.length := by simp at hi; omega
      subst this
      simpa using b4
  · by_cases e : i < h.length
    · rw [List.getElem_append_left e]; exact u.inV i e
    · have : i = h.length := by simp at hi; omega
      subst this
      simpa using b5
  · rw [sAt_snoc] at hoc
    rcases f2 y hy hoc with h1 | h1
    · exact hV y hy (occL_cons.2 (Or.inr (occL_cons.2 (Or.inr h1))))
    · exact hV y hy (b6 y h1)
  · obtain ⟨l1, l2, e, g7, g8, g9⟩ := u.len
    have h4 := map_len_size l1
    have h5 : l.length + 1 = l1.length + l2.length := by rw [← List.length_append, ← e]; simp
    simp only [List.length_append, List.length_cons, List.length_nil]
    omega
theorem zip_mem : ∀ {a b : List Tm} {p : Pr}, p ∈ zipP a b → p.l ∈ a ∧ p.r ∈ b
  | [], _, p, h => by simp [zipP] at h
  | _ :: _, [], p, h => by simp [zipP] at h
  | t :: a, u :: b, p, h => by
    rw [zipP] at h
    rcases List.mem_cons.1 h with rfl | h
    · exact ⟨by simp, by simp⟩
    · have := zip_mem h
      exact ⟨by simp [this.1], by simp [this.2]⟩
theorem zip_left : ∀ {a b : List Tm}, a.length = b.length → (zipP a b).map (·.l) = a
  | [], [], _ => rfl
  | [], _ :: _, h => by simp at h
  | _ :: _, [], h => by simp at h
  | t :: a, u :: b, h => by rw [zipP, List.map_cons, zip_left (by simpa using h)]
theorem size_mem {l : List Tm} {t : Tm} (h : t ∈ l) : sizeL [t] ≤ sizeL l := by
  induction l with
  | nil => cases h
  | cons a r ih =>
    have hc := size_cons a r
    rcases List.mem_cons.1 h with rfl | h
    · omega
    · have := ih h; omega
theorem onT_id {s : List Bd} {t : Tm} (h : ∀ e ∈ s, ¬ occL e.nm [t]) : onT s t = t := by
  have h1 := onL_id [t] h
  rw [onL_cons] at h1
  simpa [onL] using h1
theorem occ_mem {y : ByteArray} {l : List Tm} {t : Tm} (h : t ∈ l) (ho : occL y [t]) : occL y l := by
  induction l with
  | nil => cases h
  | cons a r ih =>
    rcases List.mem_cons.1 h with rfl | h
    · exact occL_cons.2 (Or.inl ho)
    · exact occL_cons.2 (Or.inr (ih h))
/-- Those below come ahead. -/
theorem UI.deep {V : List ByteArray} {h : List (ByteArray × Tm)} {p : Pr} {l : List Pr} (u : UI V h (p :: l)) (ha : sizeL [onT (sAt h) p.l] ≤ 2000) (hb : sizeL [onT (sAt h) p.r] ≤ 2000) (hl : (onT (sAt h) p.l).args.length = (onT (sAt h) p.r).args.length) :
    UI V h (zipP (onT (sAt h) p.l).args (onT (sAt h) p.r).args ++ l) ∧ ∀ q ∈ zipP (onT (sAt h) p.l).args (onT (sAt h) p.r).args, onT (sAt h) q.l = q.l ∧ onT (sAt h) q.r = q.r := by
  have ok := u.good.all
  obtain ⟨e1, e2⟩ := u.head
  have ea := errL_onT2 ok e1
  have eb := errL_onT2 ok e2
  have ga := ok.goneT e1
  have gb := ok.goneT e2
  have hV := u.vars
  rw [flatP, onL_cons, onL_cons] at hV
  have hset : ∀ q ∈ zipP (onT (sAt h) p.l).args (onT (sAt h) p.r).args, onT (sAt h) q.l = q.l ∧ onT (sAt h) q.r = q.r := fun q hq => by
    obtain ⟨m1, m2⟩ := zip_mem hq
    exact ⟨onT_id fun e he ho => ga e he (occ_sub (occ_mem m1 ho)), onT_id fun e he ho => gb e he (occ_sub (occ_mem m2 ho))⟩
  have sa := size_sub (onT (sAt h) p.l)
  have sb := size_sub (onT (sAt h) p.r)
  refine ⟨⟨u.good, u.names, u.inV, ?_, fun y hy ho => ?_, fun q hq => ?_, ?_⟩, hset⟩
  · rw [flatP_append]
    exact err_append.2 ⟨zip_err (err_sub ea) (err_sub eb), u.drop.err⟩
  · rw [flatP_append, onL_append] at ho
    rcases occL_append.1 ho with ho | ho
    · rw [onL_id] at ho
      · rcases zip_occ ho with ho | ho
        · exact hV y hy (occL_cons.2 (Or.inl (occ_sub ho)))
        · exact hV y hy (occL_cons.2 (Or.inr (occL_cons.2 (Or.inl (occ_sub ho)))))
      · intro e he hoc
        rcases zip_occ hoc with hoc | hoc
        · exact ga e he (occ_sub hoc)
        · exact gb e he (occ_sub hoc)
    · exact hV y hy (occL_cons.2 (Or.inr (occL_cons.2 (Or.inr ho))))
  · rcases List.mem_append.1 hq with hq | hq
    · obtain ⟨m1, m2⟩ := zip_mem hq
      have := size_mem m1
      have := size_mem m2
      omega
    · exact u.size q (by simp [hq])
  · obtain ⟨l1, l2, e, g7, g8, g9⟩ := u.len
    cases l1 with
    | nil =>
      cases l2 with
      | nil => cases e
      | cons q l2 =>
        simp only [List.nil_append, List.cons.injEq] at e
        obtain ⟨rfl, rfl⟩ := e
        simp only [List.length_cons] at g9
        exact ⟨_, l, rfl, hset, by rw [zip_left hl]; omega, by omega⟩
    | cons q l1 =>
      simp only [List.cons_append, List.cons.injEq] at e
      obtain ⟨rfl, rfl⟩ := e
      rw [List.map_cons, size_cons] at g8
      have hp := (g7 p (by simp)).1
      refine ⟨zipP (onT (sAt h) p.l).args (onT (sAt h) p.r).args ++ l1, l2, by rw [List.append_assoc], fun q hq => ?_, ?_, g9⟩
      · rcases List.mem_append.1 hq with hq | hq
        · exact hset q hq
        · exact g7 q (by simp [hq])
      · rw [List.map_append, sizeL_append, zip_left hl]
        rw [hp] at sa ⊢
        omega
#print axioms UI.bindV
#print axioms UI.deep
end Go.Proofs.Ytkfppicbningaaa

/- What makes both sides one comes of what the steps find, and what they find makes both sides one: plain. -/
namespace Go.Proofs.Ytkfppicbningaaa
open Go.RowKit
set_option linter.unusedSimpArgs false
set_option linter.unusedVariables false

/-- t makes of each bound variable what it makes of its term. -/
def Agr (t s : List Bd) : Prop := ∀ d ∈ s, onT t ⟨d.nm, []⟩ = onT t d.t
def Uni (t : List Bd) (l : List Pr) : Prop := ∀ p ∈ l, onT t p.l = onT t p.r
theorem agr_nil (t : List Bd) : Agr t [] := by simp [Agr]
theorem agr_onL {t s : List Bd} (ht : ∀ d ∈ t, varB d.nm = true) (hs : ∀ d ∈ s, varB d.nm = true) (ha : Agr t s) : ∀ l : List Tm, errL l = 0 → onL t (onL s l) = onL t l := by
  intro l
  induction l using Tm.indL with
  | h0 => intro _; simp [onL]
  | h n l r ihl ihr =>
    intro he
    obtain ⟨g1, g2, g3⟩ := errL_parts he
    rw [onL_cons, onL_cons, onL_cons, ihr g3]
    congr 1
    cases hv : varB n with
    | false => rw [onT_sym2 hs hv, onT_sym2 ht hv, onT_sym2 ht hv, ihl g2]
    | true =>
      have e := g1 hv
      subst e
      cases hf : forT s n with
      | none => rw [onT_leaf s, hf]; rfl
      | some x =>
        rw [onT_some hf]
        obtain ⟨d, hd, e1, e2⟩ := forT_mem hf
        rw [← e2, ← ha d hd, e1]
theorem agr_on {t s : List Bd} (ht : ∀ d ∈ t, varB d.nm = true) (hs : ∀ d ∈ s, varB d.nm = true) (ha : Agr t s) {x : Tm} (he : errL [x] = 0) : onT t (onT s x) = onT t x := by
  have h := agr_onL ht hs ha [x] he
  rw [onL_cons, onL_cons, onL_cons] at h
  simpa [onL] using h
theorem agr_add {t s : List Bd} (ht : ∀ d ∈ t, varB d.nm = true) {x : ByteArray} {u : Tm} (hx : varB x = true) (hs : ∀ d ∈ s, errL [d.t] = 0) : Agr t (addS s x u) ↔ (Agr t s ∧ onT t ⟨x, []⟩ = onT t u) := by
  have one : ∀ {v : Tm}, onT t ⟨x, []⟩ = onT t u → errL [v] = 0 → onT t (onT [⟨x, u⟩] v) = onT t v := fun hxu hv => agr_on ht (by simpa using hx) (by simpa [Agr] using hxu) hv
  have hm : ∀ d, d ∈ addS s x u ↔ d ∈ s.map (putB x u) ++ [⟨x, u⟩] := fun d => (srtB_perm _).mem_iff
  constructor
  · intro h
    have hxu : onT t ⟨x, []⟩ = onT t u := h ⟨x, u⟩ ((hm _).2 (by simp))
    refine ⟨fun d hd => ?_, hxu⟩
    have h1 := h (putB x u d) ((hm _).2 (List.mem_append_left _ (List.mem_map.2 ⟨d, hd, rfl⟩)))
    simp only [putB] at h1
    rw [h1, one hxu (hs d hd)]
  · rintro ⟨h, hxu⟩ d hd
    rcases List.mem_append.1 ((hm d).1 hd) with hd | hd
    · obtain ⟨e, he, rfl⟩ := List.mem_map.1 hd
      simp only [putB]
      rw [one hxu (hs e he)]
      exact h e he
    · have e : d = ⟨x, u⟩ := by simpa using hd
      subst e
      exact hxu
/-- What stands for a variable is no greater than what stands for a term that it is in. -/
theorem occ_size {t : List Bd} (ht : ∀ d ∈ t, varB d.nm = true) {x : ByteArray} (hx : varB x = true) : ∀ l : List Tm, errL l = 0 → occL x l → sizeL [onT t ⟨x, []⟩] ≤ sizeL (onL t l) := by
  intro l
  induction l using Tm.indL with
  | h0 => intro _ ho; obtain ⟨k, hk, _⟩ := ho; simp [preL] at hk
  | h n l r ihl ihr =>
    intro he ho
    obtain ⟨g1, g2, g3⟩ := errL_parts he
    have hcc := size_cons (onT t ⟨n, l⟩) (onL t r)
    rw [onL_cons]
    rcases occL_node.1 ho with rfl | ho | ho
    · have e := g1 hx
      subst e
      omega
    · cases hv : varB n with
      | false =>
        have := ihl g2 ho
        rw [onT_sym2 ht hv] at hcc ⊢
        have e : sizeL [(⟨n, onL t l⟩ : Tm)] = 1 + sizeL (onL t l) := by simp [sizeL]
        omega
      | true =>
        have e := g1 hv
        subst e
        obtain ⟨k, hk, _⟩ := ho
        simp [preL] at hk
    · have := ihr g3 ho
      omega
theorem occ_never {t : List Bd} (ht : ∀ d ∈ t, varB d.nm = true) {x : ByteArray} (hx : varB x = true) {u : Tm} (he : errL [u] = 0) (hn : x ≠ u.name) (ho : occL x [u]) : onT t ⟨x, []⟩ ≠ onT t u := fun hh => by
  obtain ⟨n, k⟩ := u
  obtain ⟨g1, g2, _⟩ := errL_parts he
  have hok : occL x k := by
    rcases occL_node.1 ho with h | h | h
    · exact absurd h.symm hn
    · exact h
    · obtain ⟨y, hy, _⟩ := h; simp [preL] at hy
  cases hv : varB n with
  | true =>
    have e := g1 hv
    subst e
    obtain ⟨y, hy, _⟩ := hok
    simp [preL] at hy
  | false =>
    have h1 := occ_size ht hx k g2 hok
    rw [hh, onT_sym2 ht hv] at h1
    have e : sizeL [(⟨n, onL t k⟩ : Tm)] = 1 + sizeL (onL t k) := by simp [sizeL]
    omega
theorem uni_zip {t : List Bd} : ∀ {a b : List Tm}, a.length = b.length → (Uni t (zipP a b) ↔ onL t a = onL t b)
  | [], [], _ => by simp [Uni, zipP]
  | [], _ :: _, h => by simp at h
  | _ :: _, [], h => by simp at h
  | x :: a, y :: b, h => by
    have ih := uni_zip (t := t) (a := a) (b := b) (by simpa using h)
    rw [zipP, onL_cons, onL_cons, List.cons.injEq, ← ih]
    simp [Uni]
theorem var_leaf {u : Tm} (he : errL [u] = 0) (hv : varB u.name = true) : u = ⟨u.name, []⟩ := by
  obtain ⟨n, k⟩ := u
  have := (errL_parts he).1 hv
  subst this
  rfl
/-- A step of those without a limit, and a substitution t: from both sides being one for t to the next ones being so, and back. -/
theorem step_agr {t : List Bd} (ht : ∀ d ∈ t, varB d.nm = true) {V : List ByteArray} {h : List (ByteArray × Tm)} {p : Pr} {l : List Pr} (u : UI V h (p :: l)) :
    (∀ e s', uPair false (sAt h) l (onT (sAt h) p.l) (onT (sAt h) p.r) = .stop e s' → e = 8 ∨ ¬ (Agr t (sAt h) ∧ onT t p.l = onT t p.r)) ∧
    (∀ s' l', uPair false (sAt h) l (onT (sAt h) p.l) (onT (sAt h) p.r) = .go s' l' → ∃ h', s' = sAt h' ∧ UI V h' l' ∧ ((Agr t (sAt h') ∧ Uni t l') ↔ (Agr t (sAt h) ∧ Uni t (p :: l)))) := by
  have ok := u.good.all
  obtain ⟨e1, e2⟩ := u.head
  have ea := errL_onT2 ok e1
  have eb := errL_onT2 ok e2
  have hon : Agr t (sAt h) → (onT t p.l = onT t p.r ↔ onT t (onT (sAt h) p.l) = onT t (onT (sAt h) p.r)) := fun ha => by
    rw [agr_on ht ok.vars ha e1, agr_on ht ok.vars ha e2]
  have huc : Uni t (p :: l) ↔ (onT t p.l = onT t p.r ∧ Uni t l) := by simp [Uni]
  have hbv := fun x y => u.bindV (x := x) (t := y)
  have hdp := u.deep
  have hse : ∀ d ∈ sAt h, errL [d.t] = 0 := fun d hd => (ok.2.1 d hd).2
  generalize onT (sAt h) p.l = a at *
  generalize onT (sAt h) p.r = b at *
  have bindCase : ∀ (x : ByteArray) (y : Tm), varB x = true → x ≠ y.name → errL [y] = 0 → ((x = a.name ∧ y = b) ∨ (x = b.name ∧ y = a)) → (Agr t (sAt h) → (onT t p.l = onT t p.r ↔ onT t ⟨x, []⟩ = onT t y)) →
      (∀ e s', uBind false (sAt h) l x y = .stop e s' → e = 8 ∨ ¬ (Agr t (sAt h) ∧ onT t p.l = onT t p.r)) ∧ (∀ s' l', uBind false (sAt h) l x y = .go s' l' → ∃ h', s' = sAt h' ∧ UI V h' l' ∧ ((Agr t (sAt h') ∧ Uni t l') ↔ (Agr t (sAt h) ∧ Uni t (p :: l)))) := fun x y hx hne hey hor hiff => by
    unfold uBind
    by_cases ho : inB x (varsP [] (preL [y])) = true
    · rw [if_pos ho]
      have hoc : occL x [y] := by
        apply Classical.byContradiction
        intro hn
        unfold inB at ho
        rw [List.any_eq_true] at ho
        obtain ⟨z, hz, e⟩ := ho
        have e2 : z = x := bytes_inj (by simpa using e)
        subst e2
        rcases varsP_sub _ _ _ hz with h1 | ⟨k, h1, h2, _⟩
        · cases h1
        · exact hn ⟨k, h1, h2⟩
      refine ⟨fun e s' hh => Or.inr fun hA => occ_never ht hx hey hne hoc ((hiff hA.1).1 hA.2), fun s' l' hh => by cases hh⟩
    · rw [if_neg ho, if_neg (by simp)]
      refine ⟨fun e s' hh => (by cases hh), fun s' l' hh => ?_⟩
      cases hh
      refine ⟨h ++ [(x, y)], by rw [sAt_snoc]; rfl, (hbv x y hx hor ho).2, ?_⟩
      rw [sAt_snoc, agr_add ht hx hse, huc]
      constructor
      · rintro ⟨⟨h1, h2⟩, h3⟩
        exact ⟨h1, (hiff h1).2 h2, h3⟩
      · rintro ⟨h1, h2, h3⟩
        exact ⟨⟨h1, (hiff h1).1 h2⟩, h3⟩
  unfold uPair
  by_cases hz : 2000 < sizeL [a] ∨ 2000 < sizeL [b]
  · rw [if_pos hz]
    refine ⟨fun e s' hh => (by cases hh; exact Or.inl rfl), fun s' l' hh => by cases hh⟩
  rw [if_neg hz]
  by_cases hva : varB a.name = true
  · rw [if_pos hva]
    have hal := var_leaf ea hva
    by_cases hn : a.name = b.name
    · rw [if_pos hn]
      refine ⟨fun e s' hh => (by cases hh), fun s' l' hh => ?_⟩
      cases hh
      have hbl := var_leaf eb (by rw [← hn]; exact hva)
      refine ⟨h, rfl, u.drop, ?_⟩
      rw [huc]
      constructor
      · rintro ⟨h1, h2⟩
        exact ⟨h1, (hon h1).2 (by rw [hal, hbl, hn]), h2⟩
      · rintro ⟨h1, _, h2⟩
        exact ⟨h1, h2⟩
    · rw [if_neg hn]
      exact bindCase a.name b hva hn eb (Or.inl ⟨rfl, rfl⟩) (fun hA => by rw [hon hA, ← hal])
  rw [if_neg hva]
  have hva' : varB a.name = false := by simpa using hva
  by_cases hvb : varB b.name = true
  · rw [if_pos hvb]
    have hbl := var_leaf eb hvb
    exact bindCase b.name a hvb (fun e => hva (by rw [← e]; exact hvb)) ea (Or.inr ⟨rfl, rfl⟩) (fun hA => by rw [hon hA, ← hbl]; exact eq_comm)
  rw [if_neg hvb]
  have hvb' : varB b.name = false := by simpa using hvb
  have ha2 : onT t a = ⟨a.name, onL t a.args⟩ := by
    obtain ⟨n, k⟩ := a
    exact onT_sym2 ht hva' k
  have hb2 : onT t b = ⟨b.name, onL t b.args⟩ := by
    obtain ⟨n, k⟩ := b
    exact onT_sym2 ht hvb' k
  by_cases hnl : a.name = b.name ∧ a.args.length = b.args.length
  · rw [if_pos hnl]
    refine ⟨fun e s' hh => (by cases hh), fun s' l' hh => ?_⟩
    cases hh
    refine ⟨h, rfl, (hdp (by omega) (by omega) hnl.2).1, ?_⟩
    have hua : Uni t (zipP a.args b.args ++ l) ↔ (Uni t (zipP a.args b.args) ∧ Uni t l) := by
      constructor
      · intro hh
        exact ⟨fun q hq => hh q (List.mem_append_left _ hq), fun q hq => hh q (List.mem_append_right _ hq)⟩
      · rintro ⟨h1, h2⟩ q hq
        rcases List.mem_append.1 hq with hq | hq
        · exact h1 q hq
        · exact h2 q hq
    rw [hua, huc, uni_zip hnl.2]
    constructor
    · rintro ⟨h1, h2, h3⟩
      exact ⟨h1, (hon h1).2 (by rw [ha2, hb2, h2, hnl.1]), h3⟩
    · rintro ⟨h1, h2, h3⟩
      have h4 := (hon h1).1 h2
      rw [ha2, hb2] at h4
      exact ⟨h1, by injection h4, h3⟩
  · rw [if_neg hnl]
    refine ⟨fun e s' hh => Or.inr ?_, fun s' l' hh => by cases hh⟩
    rintro ⟨h1, h2⟩
    have h4 := (hon h1).1 h2
    rw [ha2, hb2] at h4
    injection h4 with h5 h6
    have h7 := congrArg List.length h6
    rw [onL_length, onL_length] at h7
    exact hnl ⟨h5, h7⟩
/-- The run: what it ends with makes all one, and all that makes all one agrees with it. -/
theorem run_agr {V : List ByteArray} : ∀ (n : Nat) (h : List (ByteArray × Tm)) (l : List Pr) (R : Int × List Bd), UI V h l → uRun false n (sAt h) l = some R →
    ∃ h', R.2 = sAt h' ∧ GoodH h' ∧ NamesH h' ∧ (R.1 = 0 → ∀ t, (∀ d ∈ t, varB d.nm = true) → (Agr t R.2 ↔ (Agr t (sAt h) ∧ Uni t l))) ∧ (R.1 ≠ 0 → R.1 ≠ 8 → ∀ t, (∀ d ∈ t, varB d.nm = true) → ¬ (Agr t (sAt h) ∧ Uni t l))
  | 0, h, l, R, u, hr => by cases hr
  | n + 1, h, [], R, u, hr => by
    simp [uRun, uNext] at hr
    subst hr
    exact ⟨h, rfl, u.good, u.names, fun _ t _ => by simp [Uni], fun h0 => absurd rfl h0⟩
  | n + 1, h, p :: l, R, u, hr => by
    rw [uRun, uNext_cons] at hr
    cases hp : uPair false (sAt h) l (onT (sAt h) p.l) (onT (sAt h) p.r) with
    | stop e s' =>
      rw [hp] at hr
      have e2 : s' = sAt h := uNext_stop (lim := false) (l := p :: l) (e := e) (by rw [uNext_cons]; exact hp)
      simp at hr
      subst hr
      refine ⟨h, e2, u.good, u.names, fun h0 => ?_, fun _ h8 t ht => ?_⟩
      · exfalso
        have h0 : e = 0 := h0
        subst h0
        unfold uPair uBind at hp
        repeat' split at hp
        all_goals first | (cases hp; done) | (injection hp with h1 h2; exact absurd h1 (by decide))
      · rcases (step_agr ht u).1 e s' hp with h1 | h1
        · exact absurd h1 h8
        · rintro ⟨h2, h3⟩
          exact h1 ⟨h2, h3 p (by simp)⟩
    | go s' l' =>
      rw [hp] at hr
      obtain ⟨h', rfl, u', _⟩ := (step_agr (t := []) (by simp) u).2 s' l' hp
      obtain ⟨h2, q1, q2, q3, q4, q5⟩ := run_agr n h' l' R u' hr
      have key : ∀ t, (∀ d ∈ t, varB d.nm = true) → ((Agr t (sAt h') ∧ Uni t l') ↔ (Agr t (sAt h) ∧ Uni t (p :: l))) := fun t ht => by
        obtain ⟨h3, e3, _, k3⟩ := (step_agr ht u).2 (sAt h') l' hp
        rw [e3]
        exact k3
      exact ⟨h2, q1, q2, q3, fun h0 t ht => (q4 h0 t ht).trans (key t ht), fun h0 h8 t ht hh => q5 h0 h8 t ht ((key t ht).2 hh)⟩
#print axioms run_agr
end Go.Proofs.Ytkfppicbningaaa

/- Where small terms make both sides one, the steps find what does, and nothing is too great: plain. -/
namespace Go.Proofs.Ytkfppicbningaaa
open Go.RowKit
set_option linter.unusedSimpArgs false
set_option linter.unusedVariables false

theorem on_mem {t : List Bd} {l : List Tm} {x : Tm} (h : x ∈ l) : sizeL [onT t x] ≤ sizeL (onL t l) := by
  induction l with
  | nil => cases h
  | cons a r ih =>
    have hc := size_cons (onT t a) (onL t r)
    rw [onL_cons]
    rcases List.mem_cons.1 h with rfl | h
    · omega
    · have := ih h; omega
theorem run_finds {t : List Bd} (ht : ∀ d ∈ t, varB d.nm = true) {V : List ByteArray} : ∀ (n : Nat) (h : List (ByteArray × Tm)) (l : List Pr) (R : Int × List Bd), UI V h l → Agr t (sAt h) → Uni t l → (∀ p ∈ l, sizeL [onT t p.l] ≤ 2000) → uRun false n (sAt h) l = some R → R.1 = 0 ∧ Agr t R.2
  | 0, h, l, R, u, ha, hu, hz, hr => by cases hr
  | n + 1, h, [], R, u, ha, hu, hz, hr => by
    simp [uRun, uNext] at hr
    subst hr
    exact ⟨rfl, ha⟩
  | n + 1, h, p :: l, R, u, ha, hu, hz, hr => by
    rw [uRun, uNext_cons] at hr
    have ok := u.good.all
    obtain ⟨e1, e2⟩ := u.head
    have hpp : onT t p.l = onT t p.r := hu p (by simp)
    have hp1 := hz p (by simp)
    have hsa : sizeL [onT (sAt h) p.l] ≤ 2000 := by
      have h1 := onT_grow t (onT (sAt h) p.l)
      rw [agr_on ht ok.vars ha e1] at h1
      omega
    have hsb : sizeL [onT (sAt h) p.r] ≤ 2000 := by
      have h1 := onT_grow t (onT (sAt h) p.r)
      rw [agr_on ht ok.vars ha e2, ← hpp] at h1
      omega
    cases hp : uPair false (sAt h) l (onT (sAt h) p.l) (onT (sAt h) p.r) with
    | stop e s' =>
      exfalso
      rcases (step_agr ht u).1 e s' hp with h1 | h1
      · subst h1
        unfold uPair uBind at hp
        rw [if_neg (by omega)] at hp
        repeat' split at hp
        all_goals first | (cases hp; done) | (injection hp with h1 h2; exact absurd h1 (by decide)) | simp_all
      · exact h1 ⟨ha, hpp⟩
    | go s' l' =>
      rw [hp] at hr
      obtain ⟨h', rfl, u', k⟩ := (step_agr ht u).2 s' l' hp
      obtain ⟨ha', hu'⟩ := k.2 ⟨ha, hu⟩
      refine run_finds ht n h' l' R u' ha' hu' (fun q hq => ?_) hr
      have hl' : l' = l ∨ ∃ a b, a = onT (sAt h) p.l ∧ varB a.name = false ∧ l' = zipP a.args b ++ l := by
        unfold uPair uBind at hp
        rw [if_neg (by omega)] at hp
        repeat' split at hp
        all_goals first | (cases hp; done) | (injection hp with h1 h2; first | exact Or.inl h2.symm | exact Or.inr ⟨_, _, rfl, by simp_all, h2.symm⟩)
      rcases hl' with rfl | ⟨a, b, rfl, hva, rfl⟩
      · exact hz q (by simp [hq])
      · rcases List.mem_append.1 hq with hq | hq
        · have hm := (zip_mem hq).1
          have h1 := on_mem (t := t) hm
          have h2 : sizeL [onT t (onT (sAt h) p.l)] = 1 + sizeL (onL t (onT (sAt h) p.l).args) := by
            generalize onT (sAt h) p.l = a at *
            obtain ⟨m, k⟩ := a
            rw [onT_sym2 ht hva]
            simp [sizeL]
          rw [agr_on ht ok.vars ha e1] at h2
          omega
        · exact hz q (by simp [hq])
/-- Found: it makes all one, leaves itself as it is, and nothing of it is too great. -/
theorem run_solves {t : List Bd} (ht : ∀ d ∈ t, varB d.nm = true) (hts : ∀ d ∈ t, sizeL [d.t] ≤ 2000) {V : List ByteArray} {n : Nat} {l : List Pr} {R : Int × List Bd} (u : UI V [] l) (hu : Uni t l) (hz : ∀ p ∈ l, sizeL [onT t p.l] ≤ 2000) (hr : uRun false n [] l = some R) :
    R.1 = 0 ∧ grtB R.2 = false ∧ OkS R.2 ∧ Agr t R.2 ∧ Uni R.2 l := by
  obtain ⟨h0, ha⟩ := run_finds ht n [] l R u (by simp [sAt, Agr]) hu hz hr
  obtain ⟨h', e, g, hn, k, _⟩ := run_agr n [] l R u hr
  have ok : OkS R.2 := by rw [e]; exact g.all
  refine ⟨h0, ?_, ok, ha, ?_⟩
  · unfold grtB
    rw [List.any_eq_false]
    intro d hd hc
    have hc : 2000 < sizeL [d.t] := of_decide_eq_true hc
    have h1 := onT_grow t d.t
    rw [← ha d hd, onT_leaf] at h1
    cases hf : forT t d.nm with
    | none => rw [hf] at h1; simp [sizeL] at h1; omega
    | some x =>
      rw [hf] at h1
      obtain ⟨d', hd', _, e2⟩ := forT_mem hf
      have h2 := hts d' hd'
      rw [e2] at h2
      simp at h1
      omega
  · have hself : Agr R.2 R.2 := fun d hd => by
      rw [onT_some (forT_of ok.1 hd), onT_id (fun e he => ok.2.2 d hd e he)]
    exact ((k h0 R.2 ok.vars).1 hself).2
#print axioms run_solves
end Go.Proofs.Ytkfppicbningaaa

/- Equations worked off without any limit: plain. -/
namespace Go.Proofs.Ytkfppicbningaaa
open Go.RowKit
set_option linter.unusedSimpArgs false
set_option linter.unusedVariables false

/-- What one equation leaves, with no limit. -/
inductive FO where
  | go (s : List Bd) (l : List Pr)
  | stop (e : Int)
def fBind (s : List Bd) (x : ByteArray) (t : Tm) : FO := if inB x (varsP [] (preL [t])) = true then .stop 6 else .go (addS s x t) []
def fPair (s : List Bd) (a b : Tm) : FO :=
  if varB a.name = true then (if a.name = b.name then .go s [] else fBind s a.name b)
  else if varB b.name = true then fBind s b.name a
  else if a.name = b.name ∧ a.args.length = b.args.length then .go s (zipP a.args b.args)
  else .stop 5
/-- Equations worked off, the first one first: how that ends. -/
inductive FR : List Bd → List Pr → Int → List Bd → Prop
  | done (s : List Bd) : FR s [] 0 s
  | step {s s' sf : List Bd} {p : Pr} {l' rest : List Pr} {e : Int} : fPair s (onT s p.l) (onT s p.r) = .go s' l' → FR s' (l' ++ rest) e sf → FR s (p :: rest) e sf
  | stop {s : List Bd} {p : Pr} {rest : List Pr} {e : Int} : fPair s (onT s p.l) (onT s p.r) = .stop e → FR s (p :: rest) e s

theorem fBind_stop {s : List Bd} {x : ByteArray} {t : Tm} {e : Int} (h : fBind s x t = .stop e) : e = 6 := by
  unfold fBind at h
  split at h
  · cases h; rfl
  · cases h
theorem fPair_stop {s : List Bd} {a b : Tm} {e : Int} (h : fPair s a b = .stop e) : e ≠ 0 := by
  unfold fPair at h
  split at h
  · split at h
    · cases h
    · rw [fBind_stop h]; decide
  · split at h
    · rw [fBind_stop h]; decide
    · split at h
      · cases h
      · cases h; decide
theorem FR.append_ok {s s' : List Bd} {a : List Pr} {e0 : Int} (h : FR s a e0 s') : e0 = 0 → ∀ {b : List Pr} {e : Int} {sf : List Bd}, FR s' b e sf → FR s (a ++ b) e sf := by
  induction h with
  | done s => intro _ b e sf h; exact h
  | step h1 _ ih => intro h0 b e sf h; exact FR.step h1 (by have h2 := ih h0 h; rw [List.append_assoc] at h2; exact h2)
  | stop h1 => intro h0; exact absurd h0 (fPair_stop h1)
theorem FR.append_err {s s' : List Bd} {a : List Pr} {e : Int} (h : FR s a e s') : e ≠ 0 → ∀ (b : List Pr), FR s (a ++ b) e s' := by
  induction h with
  | done s => intro h; exact absurd rfl h
  | step h1 _ ih => intro h0 b; exact FR.step h1 (by have h2 := ih h0 b; rw [List.append_assoc] at h2; exact h2)
  | stop h1 => intro h0 b; exact FR.stop h1

/-- What is put in first changes nothing for what is put in later. -/
def Abs (s s' : List Bd) : Prop := ∀ L : List Tm, errL L = 0 → onL s' (onL s L) = onL s' L
theorem Abs.T {s s' : List Bd} (h : Abs s s') {t : Tm} (he : errL [t] = 0) : onT s' (onT s t) = onT s' t := by
  have h1 := h [t] he
  rw [onL_cons, onL_cons, onL_cons] at h1
  injection h1
theorem abs_refl {s : List Bd} (h : OkS s) : Abs s s := fun L he => h.idem he
theorem Abs.trans {s s' s'' : List Bd} (hs : OkS s) (h : Abs s s') (k : Abs s' s'') : Abs s s'' := fun L he => by
  rw [← k (onL s L) (errL_on2 hs L he), h L he, k L he]
theorem fBind_go {s s' : List Bd} {x : ByteArray} {t : Tm} {l' : List Pr} (hs : OkS s) (hx : varB x = true) (hn : ∀ d ∈ s, d.nm ≠ x) (he : errL [t] = 0) (ht : ∀ e ∈ s, ¬ occL e.nm [t]) (h : fBind s x t = .go s' l') : s' = addS s x t ∧ l' = [] ∧ ¬ occL x [t] ∧ OkS s' ∧ Abs s s' := by
  unfold fBind at h
  split at h
  · cases h
  · rename_i ho
    cases h
    have h1 := not_inB hx ho
    have h2 := hs.add hx hn he ht h1
    refine ⟨rfl, rfl, h1, h2, fun L hL => ?_⟩
    rw [add_on hs hx hn h2 _ (errL_on2 hs L hL), add_on hs hx hn h2 L hL, hs.idem hL]
/-- What a step leaves that goes on. -/
def GoF (s s' : List Bd) (a b : Tm) (l' : List Pr) : Prop :=
  OkS s' ∧ Abs s s' ∧ errL (flatP l') = 0 ∧ (∀ V : List ByteArray, (∀ d ∈ s, d.nm ∈ V) → (∀ y, varB y = true → (occL y [a] ∨ occL y [b]) → y ∈ V) → (∀ d ∈ s', d.nm ∈ V)) ∧
    (∀ L, errL L = 0 → ∀ y, varB y = true → occL y (onL s' L) → occL y (onL s L) ∨ occL y [a] ∨ occL y [b]) ∧
    (l' = [] ∨ (s' = s ∧ varB a.name = false ∧ varB b.name = false ∧ l' = zipP a.args b.args))
theorem fPair_go {s s' : List Bd} {a b : Tm} {l' : List Pr} (hs : OkS s) (ha : errL [a] = 0) (hb : errL [b] = 0) (hna : ∀ e ∈ s, ¬ occL e.nm [a]) (hnb : ∀ e ∈ s, ¬ occL e.nm [b]) (h : fPair s a b = .go s' l') : GoF s s' a b l' := by
  have bind : ∀ x t, varB x = true → (∀ d ∈ s, d.nm ≠ x) → errL [t] = 0 → (∀ e ∈ s, ¬ occL e.nm [t]) → (occL x [a] ∨ occL x [b]) → (∀ y, occL y [t] → occL y [a] ∨ occL y [b]) → fBind s x t = .go s' l' → GoF s s' a b l' := fun x t hx hn he ht hxo hto h => by
    obtain ⟨rfl, rfl, h3, h4, h5⟩ := fBind_go hs hx hn he ht h
    refine ⟨h4, h5, by simp [flatP, errL], fun V h6 h7 d hd => ?_, fun L hL y hy ho => ?_, Or.inl rfl⟩
    · have h8 := (srtB_perm (s.map (putB x t) ++ [⟨x, t⟩])).subset hd
      rcases List.mem_append.1 h8 with h8 | h8
      · obtain ⟨d', hd', rfl⟩ := List.mem_map.1 h8
        exact h6 d' hd'
      · have e : d = ⟨x, t⟩ := by simpa using h8
        rw [e]
        exact h7 x hx hxo
    · exact ((bind_facts hs hx hn he ht h3 hL).2.1 y hy ho).imp id (hto y)
  unfold fPair at h
  split at h
  · rename_i hva
    split at h
    · cases h
      exact ⟨hs, abs_refl hs, by simp [flatP, errL], fun V h6 _ => h6, fun L hL y hy ho => Or.inl ho, Or.inl rfl⟩
    · exact bind a.name b hva (fun d hd e => hna d hd (by rw [e]; exact occ_self a)) hb hnb (Or.inl (occ_self a)) (fun y h => Or.inr h) h
  · rename_i hva
    split at h
    · rename_i hvb
      exact bind b.name a hvb (fun d hd e => hnb d hd (by rw [e]; exact occ_self b)) ha hna (Or.inr (occ_self b)) (fun y h => Or.inl h) h
    · rename_i hvb
      split at h
      · cases h
        exact ⟨hs, abs_refl hs, zip_err (err_sub ha) (err_sub hb), fun V h6 _ => h6, fun L hL y hy ho => Or.inl ho, Or.inr ⟨rfl, by simpa using hva, by simpa using hvb, rfl⟩⟩
      · cases h
/-- Without a limit, or with one that is never met: the same. -/
theorem uPair_of {s : List Bd} {rest : List Pr} {a b : Tm} (ha : sizeL [a] ≤ 2000) (hb : sizeL [b] ≤ 2000) : uPair false s rest a b = match fPair s a b with
    | .go s' l' => .go s' (l' ++ rest)
    | .stop e => .stop e s := by
  have bind : ∀ x t, uBind false s rest x t = match fBind s x t with
      | .go s' l' => .go s' (l' ++ rest)
      | .stop e => .stop e s := fun x t => by
    unfold uBind fBind
    by_cases h : inB x (varsP [] (preL [t])) = true
    · rw [if_pos h, if_pos h]
    · rw [if_neg h, if_neg h, if_neg (by simp)]; rfl
  unfold uPair fPair
  rw [if_neg (by omega)]
  by_cases h1 : varB a.name = true
  · rw [if_pos h1, if_pos h1]
    by_cases h2 : a.name = b.name
    · rw [if_pos h2, if_pos h2]; rfl
    · rw [if_neg h2, if_neg h2]; exact bind _ _
  · rw [if_neg h1, if_neg h1]
    by_cases h2 : varB b.name = true
    · rw [if_pos h2, if_pos h2]; exact bind _ _
    · rw [if_neg h2, if_neg h2]
      by_cases h3 : a.name = b.name ∧ a.args.length = b.args.length
      · rw [if_pos h3, if_pos h3]
      · rw [if_neg h3, if_neg h3]

theorem zip_in : ∀ {a b : List Tm} {p : Pr}, p ∈ zipP a b → p.l ∈ a ∧ p.r ∈ b := @zip_mem
theorem size_in {sf : List Bd} (hf : OkS sf) {u x : Tm} (hv : varB u.name = false) (hx : x ∈ u.args) : sizeL [onT sf x] ≤ sizeL [onT sf u] := by
  obtain ⟨n, l⟩ := u
  rw [onT_sym2 hf.vars hv]
  have h1 := on_mem (t := sf) hx
  have h2 := size_sub ⟨n, onL sf l⟩
  simp only at h1 h2
  show sizeL [onT sf x] ≤ sizeL [⟨n, onL sf l⟩]
  omega

/-- How it ends without any limit is how it ends with one, if at the end nothing is too great. -/
theorem FR.run {s sf : List Bd} {l : List Pr} {e : Int} (h : FR s l e sf) : OkS s → errL (flatP l) = 0 → (OkS sf ∧ Abs s sf) ∧ ((∀ p ∈ l, sizeL [onT sf p.l] ≤ 2000 ∧ sizeL [onT sf p.r] ≤ 2000) → ∃ n, uRun false n s l = some (e, sf)) ∧
    (∀ V : List ByteArray, (∀ d ∈ s, d.nm ∈ V) → (∀ y, varB y = true → occL y (onL s (flatP l)) → y ∈ V) → ∀ d ∈ sf, d.nm ∈ V) := by
  induction h with
  | done s => intro hs _; exact ⟨⟨hs, abs_refl hs⟩, fun _ => ⟨1, rfl⟩, fun V h _ => h⟩
  | @step s s' sf p l' rest e h1 h2 ih =>
    intro hs he
    obtain ⟨e1, e2⟩ := err_two.1 he
    obtain ⟨e2, e3⟩ := err_two.1 e2
    have ea := errL_onT2 hs e1
    have eb := errL_onT2 hs e2
    obtain ⟨g1, g2, g3, g4, g5, g6⟩ := fPair_go hs ea eb (hs.goneT e1) (hs.goneT e2) h1
    have he' : errL (flatP (l' ++ rest)) = 0 := by rw [flatP_append]; exact err_append.2 ⟨g3, e3⟩
    obtain ⟨⟨i1, i2⟩, i3, i4⟩ := ih g1 he'
    have hab : Abs s sf := g2.trans hs i2
    refine ⟨⟨i1, hab⟩, fun hz => ?_, fun V h6 h7 => i4 V (g4 V h6 fun y hy ho => h7 y hy ?_) fun y hy ho => ?_⟩
    · have za := (hz p (by simp)).1
      have zb := (hz p (by simp)).2
      have ya : sizeL [onT s p.l] ≤ 2000 := by
        have := onT_grow sf (onT s p.l)
        rw [hab.T e1] at this
        omega
      have yb : sizeL [onT s p.r] ≤ 2000 := by
        have := onT_grow sf (onT s p.r)
        rw [hab.T e2] at this
        omega
      obtain ⟨n, hn⟩ := i3 fun p' hp' => by
        rcases List.mem_append.1 hp' with hp' | hp'
        · rcases g6 with g6 | ⟨rfl, va, vb, g6⟩
          · rw [g6] at hp'; cases hp'
          · rw [g6] at hp'
            obtain ⟨m1, m2⟩ := zip_in hp'
            have z1 := size_in i1 va m1
            have z2 := size_in i1 vb m2
            rw [hab.T e1] at z1
            rw [hab.T e2] at z2
            omega
        · exact hz p' (by simp [hp'])
      refine ⟨n + 1, ?_⟩
      rw [uRun, uNext_cons, uPair_of ya yb, h1]
      exact hn
    · rw [flatP, onL_cons, onL_cons]
      rcases ho with ho | ho
      · exact occL_cons.2 (Or.inl ho)
      · exact occL_cons.2 (Or.inr (occL_cons.2 (Or.inl ho)))
    · refine h7 y hy ?_
      rw [flatP, onL_cons, onL_cons]
      rw [flatP_append, onL_append] at ho
      have fin : occL y (onL s (flatP rest)) ∨ occL y [onT s p.l] ∨ occL y [onT s p.r] := by
        rcases occL_append.1 ho with ho | ho
        · rcases g6 with g6 | ⟨gs, va, vb, g6⟩
          · rw [g6] at ho; simp only [flatP, onL] at ho; exact absurd ho occL_nil
          · rw [g6, gs] at ho
            have e6 : onL s (flatP (zipP (onT s p.l).args (onT s p.r).args)) = flatP (zipP (onT s p.l).args (onT s p.r).args) := onL_id _ fun d hd hoc => by
              rcases zip_occ hoc with hoc | hoc
              · exact hs.goneT e1 d hd (occ_sub hoc)
              · exact hs.goneT e2 d hd (occ_sub hoc)
            rw [e6] at ho
            rcases zip_occ ho with ho | ho
            · exact Or.inr (Or.inl (occ_sub ho))
            · exact Or.inr (Or.inr (occ_sub ho))
        · exact g5 _ e3 y hy ho
      rcases fin with ho | ho | ho
      · exact occL_cons.2 (Or.inr (occL_cons.2 (Or.inr ho)))
      · exact occL_cons.2 (Or.inl ho)
      · exact occL_cons.2 (Or.inr (occL_cons.2 (Or.inl ho)))
  | @stop s p rest e h1 =>
    intro hs he
    obtain ⟨e1, e2⟩ := err_two.1 he
    obtain ⟨e2, e3⟩ := err_two.1 e2
    refine ⟨⟨hs, abs_refl hs⟩, fun hz => ⟨1, ?_⟩, fun V h _ => h⟩
    rw [uRun, uNext_cons, uPair_of (hz p (by simp)).1 (hz p (by simp)).2, h1]

theorem occ_flat {y : ByteArray} : ∀ {l : List Pr}, occL y (flatP l) → ∃ p ∈ l, occL y [p.l] ∨ occL y [p.r]
  | [], h => absurd h occL_nil
  | p :: r, h => by
    rw [flatP] at h
    rcases occL_cons.1 h with h | h
    · exact ⟨p, by simp, Or.inl h⟩
    · rcases occL_cons.1 h with h | h
      · exact ⟨p, by simp, Or.inr h⟩
      · obtain ⟨q, hq, h⟩ := occ_flat h
        exact ⟨q, by simp [hq], h⟩
theorem err_flat : ∀ {l : List Pr}, errL (flatP l) = 0 → ∀ p ∈ l, errL [p.l] = 0 ∧ errL [p.r] = 0
  | [], _, p, hp => by cases hp
  | q :: r, h, p, hp => by
    rw [flatP] at h
    obtain ⟨e1, e2⟩ := err_two.1 h
    obtain ⟨e2, e3⟩ := err_two.1 e2
    rcases List.mem_cons.1 hp with rfl | hp
    · exact ⟨e1, e2⟩
    · exact err_flat e3 p hp

/-- An end that is come to without any limit, with nothing too great: that is the end. -/
theorem FR.ends {sf : List Bd} {l : List Pr} {e : Int} (h : FR [] l e sf) (he : errL (flatP l) = 0) (hz : ∀ p ∈ l, sizeL [onT sf p.l] ≤ 2000 ∧ sizeL [onT sf p.r] ≤ 2000) : (∃ n, uRun false n [] l = some (e, sf)) ∧ grtB sf = false := by
  obtain ⟨⟨h1, h2⟩, h3, h4⟩ := h.run okS_nil he
  refine ⟨h3 hz, ?_⟩
  have h5 := h4 ((preL (flatP l)).map (·.name)) (by simp) (fun y hy ho => by
    rw [onL_id _ (by simp)] at ho
    obtain ⟨k, hk, rfl⟩ := ho
    exact List.mem_map.2 ⟨k, hk, rfl⟩)
  unfold grtB
  rw [Bool.eq_false_iff]
  intro hg
  rw [List.any_eq_true] at hg
  obtain ⟨d, hd, hgd⟩ := hg
  simp only [decide_eq_true_eq] at hgd
  obtain ⟨k, hk, ek⟩ := List.mem_map.1 (h5 d hd)
  obtain ⟨p, hp, ho⟩ := occ_flat (y := d.nm) ⟨k, hk, ek⟩
  have hv := h1.vars d hd
  have ed : onT sf ⟨d.nm, []⟩ = d.t := by rw [onT_leaf, forT_of h1.1 hd]; rfl
  obtain ⟨e1, e2⟩ := err_flat he p hp
  have hzz := hz p hp
  rcases ho with ho | ho
  · have h6 := occ_size h1.vars hv [p.l] e1 ho
    rw [onL_cons, ed] at h6
    simp only [onL] at h6
    omega
  · have h6 := occ_size h1.vars hv [p.r] e2 ho
    rw [onL_cons, ed] at h6
    simp only [onL] at h6
    omega
#print axioms FR.ends
end Go.Proofs.Ytkfppicbningaaa

/- Walks: two terms that are the same. -/
namespace Go.Proofs.Ytkfppicbningaaa
open Go.RowKit
set_option linter.unusedSimpArgs false
set_option linter.unusedVariables false

theorem same_cells {w w1 : World} {n : Nat} {p1 p2 p3 p4 p5 p6 : Addr} {v1 v2 v3 v4 v5 v6 : Value} (hb : Below (w.drewN n).heap.size (w.drewN n) w1)
    (h : w.cell? p1 = some v1 ∧ w.cell? p2 = some v2 ∧ w.cell? p3 = some v3 ∧ w.cell? p4 = some v4 ∧ w.cell? p5 = some v5 ∧ w.cell? p6 = some v6) :
    w1.cell? p1 = some v1 ∧ w1.cell? p2 = some v2 ∧ w1.cell? p3 = some v3 ∧ w1.cell? p4 = some v4 ∧ w1.cell? p5 = some v5 ∧ w1.cell? p6 = some v6 := by
  have hb' : Below w.heap.size w w1 := (below_drewN (Below.refl _ _) n).trans (hb.mono (by simp))
  exact ⟨cell_later hb' h.1, cell_later hb' h.2.1, cell_later hb' h.2.2.1, cell_later hb' h.2.2.2.1, cell_later hb' h.2.2.2.2.1, cell_later hb' h.2.2.2.2.2⟩

set_option maxHeartbeats 1000000 in
theorem same_any (t : Tm) : ∀ (v u : Value) (w : World) (X Y : Nat → Prop), TV w X v t → TV w Y u t →
    Calls Try.prog 12 #[v, u] w fun e w' => e = .returned (.bool true) ∧ Below w.heap.size w w' := by
  induction t using Tm.ind with
  | h s l ih =>
    intro v u w X Y hv hu
    have IH := hide ih
    clear ih
    obtain ⟨a, c, rfl, hs⟩ := hv
    obtain ⟨a2, c2, rfl, hs2⟩ := hu
    have hl := hs.1
    go_enter Try.func12, Try.ntmps12
    go_wp2_with fail
    go_loopw [5] (fun i wr => ∃ (k : Nat), k ≤ l.length ∧ i = .int .i64 k ∧ Below w.heap.size w wr ∧ wr.cell? ⟨w.heap.size, 1, none⟩ = some (.slice a l.length c) ∧ wr.cell? ⟨w.heap.size + 1, 1, none⟩ = some (.slice a2 l.length c2) ∧ w.heap.size + 2 ≤ wr.heap.size) (fun i wr => l.length - (intOf i).toNat)
    case atStart => exact ⟨0, Nat.zero_le _, rfl, below2 _ _, by simp, by simp, by simp⟩
    case round =>
      obtain ⟨k, hk, rfl, hb, hc1, hc2, hsz⟩ := hrel
      by_cases hlt : k < l.length
      · obtain ⟨b, o, a', c', rfl, d0, d1, hx⟩ := hs.get hb (fun _ _ h => h) k hlt
        obtain ⟨b2, o2, a2', c2', rfl, e0, e1, hx2⟩ := hs2.get hb (fun _ _ h => h) k hlt
        have HX := hide hx
        have HX2 := hide hx2
        have HB := hide hb
        have HS0 := hide (And.intro hc1 (And.intro hc2 (And.intro d0 (And.intro d1 (And.intro e0 e1)))))
        clear hx hx2 hb
        go_wp2_with fail
        go_region_held3 (fun w' => w'.cell? ⟨w.heap.size, 1, none⟩ = some (.slice (some ⟨b, o, none⟩) l.length c) ∧ w'.cell? ⟨w.heap.size + 1, 1, none⟩ = some (.slice (some ⟨b2, o2, none⟩) l.length c2) ∧ w'.cell? ⟨b, o + k * 2, none⟩ = some (.string l[k].name) ∧ w'.cell? ⟨b, o + k * 2 + 1, none⟩ = some (.slice a' l[k].args.length c') ∧ w'.cell? ⟨b2, o2 + k * 2, none⟩ = some (.string l[k].name) ∧ w'.cell? ⟨b2, o2 + k * 2 + 1, none⟩ = some (.slice a2' l[k].args.length c2')) (first | exact HS0.out | exact hS1)
          ((go_at_call 12; refine (IH.out _ (List.getElem_mem hlt) _ _ _ X Y (by exact HX.out.later (below_drewN (Below.refl _ _) 1)) (by exact HX2.out.later (below_drewN (Below.refl _ _) 1))).mono ?_; rintro e w1 ⟨rfl, hb1⟩; have hS1 := same_cells (n := 1) hb1 HS0.out))
        go_wp2_with fail
        go_roundw
        case rel => exact ⟨k + 1, by omega, by go_num, (HB.out.trans (below_drewN (Below.refl _ _) 1)).trans (hb1.mono (by simp; omega)), hS1.1, hS1.2.1, by have := hb1.size; simp at this; omega⟩
        case measure => simp [intOf]; omega
      · go_wp2_with fail
        go_ret
        exact ⟨rfl, hb⟩
#print axioms same_any
end Go.Proofs.Ytkfppicbningaaa

/- Walks: whether two terms are the same. -/
namespace Go.Proofs.Ytkfppicbningaaa
open Go.RowKit
set_option linter.unusedSimpArgs false
set_option linter.unusedVariables false
set_option maxRecDepth 8000

def eqL : List Tm → List Tm → Bool
  | [], [] => true
  | ⟨s, a⟩ :: r, t :: ts => ((s.toList == t.name.toList) && ((a.length == t.args.length) && eqL a t.args)) && eqL r ts
  | _, _ => false
/-- Two terms are the same. -/
def sameB (a b : Tm) : Bool := (a.name.toList == b.name.toList) && ((a.args.length == b.args.length) && eqL a.args b.args)
theorem eqL_cons (x t : Tm) (r ts : List Tm) : eqL (x :: r) (t :: ts) = (sameB x t && eqL r ts) := by obtain ⟨s, a⟩ := x; simp only [eqL, sameB]
theorem eqL_append : ∀ (a b c d : List Tm), a.length = b.length → eqL (a ++ c) (b ++ d) = (eqL a b && eqL c d)
  | [], [], c, d, _ => by simp [eqL]
  | [], _ :: _, _, _, h => by simp at h
  | _ :: _, [], _, _, h => by simp at h
  | x :: r, t :: ts, c, d, h => by rw [List.cons_append, List.cons_append, eqL_cons, eqL_cons, eqL_append r ts c d (by simpa using h), Bool.and_assoc]
theorem eqL_take {l m : List Tm} {k : Nat} (h : k < l.length) (h2 : k < m.length) : eqL (l.take (k + 1)) (m.take (k + 1)) = (eqL (l.take k) (m.take k) && sameB l[k] m[k]) := by
  rw [List.take_succ_eq_append_getElem h, List.take_succ_eq_append_getElem h2, eqL_append _ _ _ _ (by simp; omega), eqL_cons]
  simp [eqL]
theorem eqL_no {l m : List Tm} {k : Nat} (h : k < l.length) (hlm : l.length = m.length) (h0 : sameB l[k] (m[k]'(by omega)) = false) : eqL l m = false := by
  have e1 : l = l.take (k + 1) ++ l.drop (k + 1) := (List.take_append_drop _ _).symm
  have e2 : m = m.take (k + 1) ++ m.drop (k + 1) := (List.take_append_drop _ _).symm
  rw [e1, e2, eqL_append _ _ _ _ (by simp; omega), eqL_take h (by omega), h0]
  simp

def SaInv (w : World) (l m : List Tm) (a a2 : Option Addr) (c c2 : Nat) (i : Value) (wr : World) : Prop :=
  ∃ (k : Nat), k ≤ l.length ∧ i = .int .i64 k ∧ eqL (l.take k) (m.take k) = true ∧ Below w.heap.size w wr ∧ wr.cell? ⟨w.heap.size, 1, none⟩ = some (.slice a l.length c) ∧ wr.cell? ⟨w.heap.size + 1, 1, none⟩ = some (.slice a2 l.length c2) ∧ w.heap.size + 2 ≤ wr.heap.size

set_option maxHeartbeats 2000000 in
theorem sameR_all (t : Tm) : ∀ (x : Tm) (v u : Value) (w : World) (X Y : Nat → Prop), TV w X v t → TV w Y u x →
    Calls Try.prog 12 #[v, u] w fun e w' => e = .returned (.bool (sameB t x)) ∧ Below w.heap.size w w' := by
  induction t using Tm.ind with
  | h s l ih =>
    intro x v u w X Y hv hu
    obtain ⟨s2, m⟩ := x
    have IH := hide ih
    clear ih
    obtain ⟨a, c, rfl, hs⟩ := hv
    obtain ⟨a2, c2, rfl, hs2⟩ := hu
    have hl := hs.1
    have hl2 := hs2.1
    dsimp only
    cases hn : (s.toList == s2.toList) with
    | false =>
      have HR : Hid (false = sameB ⟨s, l⟩ ⟨s2, m⟩) := by unfold Hid sameB; rw [hn]; rfl
      go_enter Try.func12, Try.ntmps12
      go_wp2_with fail
      go_ret
      exact ⟨ret_bool HR.out, below2 _ _⟩
    | true =>
      by_cases hm : l.length = m.length
      · have HR : Hid (eqL l m = sameB ⟨s, l⟩ ⟨s2, m⟩) := by unfold Hid sameB; simp [hn, hm]
        have HM := hide hm
        rw [← hm]
        clear hm
        go_enter Try.func12, Try.ntmps12
        go_wp2_with fail
        go_loopw [5] (fun i wr => SaInv w l m a a2 c c2 i wr) (fun i wr => l.length - (intOf i).toNat)
        case atStart => exact ⟨0, Nat.zero_le _, rfl, by simp [eqL], below2 _ _, by simp, by simp, by simp⟩
        case round =>
          obtain ⟨k, hk, rfl, hq, hb, hc1, hc2, hsz⟩ := hrel
          have HQ := hide hq
          clear hq
          by_cases hlt : k < l.length
          · obtain ⟨b, o, a', c', rfl, d0, d1, hx⟩ := hs.get hb (fun _ _ h => h) k hlt
            obtain ⟨b2, o2, a2', c2', rfl, e0, e1, hx2⟩ := hs2.get hb (fun _ _ h => h) k (by have := HM.out; omega)
            have hltm : k < m.length := by have := HM.out; omega
            have HX := hide hx
            have HX2 := hide hx2
            have HB := hide hb
            have HS0 := hide (And.intro hc1 (And.intro hc2 (And.intro d0 (And.intro d1 (And.intro e0 e1)))))
            have IHK := hide (fun (w' : World) => IH.out l[k] (List.getElem_mem hlt) m[k] (.agg #[.string l[k].name, .slice a' l[k].args.length c']) (.agg #[.string m[k].name, .slice a2' m[k].args.length c2']) w' X Y)
            have HT := hide (eqL_take hlt hltm)
            have HNO := hide (eqL_no hlt HM.out)
            clear hx hx2 hb
            generalize l[k] = y at *
            generalize m[k] = z at *
            go_wp2_with fail
            cases hsm : sameB y z with
            | true =>
              rw [hsm] at IHK HT
              go_region_held3 (fun w' => w'.cell? ⟨w.heap.size, 1, none⟩ = some (.slice (some ⟨b, o, none⟩) l.length c) ∧ w'.cell? ⟨w.heap.size + 1, 1, none⟩ = some (.slice (some ⟨b2, o2, none⟩) l.length c2) ∧ w'.cell? ⟨b, o + k * 2, none⟩ = some (.string y.name) ∧ w'.cell? ⟨b, o + k * 2 + 1, none⟩ = some (.slice a' y.args.length c') ∧ w'.cell? ⟨b2, o2 + k * 2, none⟩ = some (.string z.name) ∧ w'.cell? ⟨b2, o2 + k * 2 + 1, none⟩ = some (.slice a2' z.args.length c2')) (first | exact HS0.out | exact hS1 | go_keep)
                ((go_at_call 12; refine (IHK.out _ (by exact HX.out.later (below_drewN (Below.refl _ _) 1)) (by exact HX2.out.later (below_drewN (Below.refl _ _) 1))).mono ?_; rintro e w1 ⟨rfl, hb1⟩; have hS1 := same_cells (n := 1) hb1 HS0.out))
              go_wp2_with fail
              go_roundw
              case rel => exact ⟨k + 1, by omega, by go_num, by rw [HT.out, HQ.out]; rfl, (HB.out.trans (below_drewN (Below.refl _ _) 1)).trans (hb1.mono (by simp; omega)), hS1.1, hS1.2.1, by have := hb1.size; simp at this; omega⟩
              case measure => simp [intOf]; omega
            | false =>
              have HF : Hid (false = sameB ⟨s, l⟩ ⟨s2, m⟩) := by unfold Hid; rw [← HR.out, HNO.out hsm]
              rw [hsm] at IHK
              go_region_held3 (fun w' => w'.cell? ⟨w.heap.size, 1, none⟩ = some (.slice (some ⟨b, o, none⟩) l.length c) ∧ w'.cell? ⟨w.heap.size + 1, 1, none⟩ = some (.slice (some ⟨b2, o2, none⟩) l.length c2) ∧ w'.cell? ⟨b, o + k * 2, none⟩ = some (.string y.name) ∧ w'.cell? ⟨b, o + k * 2 + 1, none⟩ = some (.slice a' y.args.length c') ∧ w'.cell? ⟨b2, o2 + k * 2, none⟩ = some (.string z.name) ∧ w'.cell? ⟨b2, o2 + k * 2 + 1, none⟩ = some (.slice a2' z.args.length c2')) (first | exact HS0.out | exact hS1 | go_keep)
                ((go_at_call 12; refine (IHK.out _ (by exact HX.out.later (below_drewN (Below.refl _ _) 1)) (by exact HX2.out.later (below_drewN (Below.refl _ _) 1))).mono ?_; rintro e w1 ⟨rfl, hb1⟩; have hS1 := same_cells (n := 1) hb1 HS0.out))
              go_wp2_with fail
              go_ret
              exact ⟨ret_bool HF.out, (HB.out.trans (below_drewN (Below.refl _ _) 1)).trans (hb1.mono (by simp; omega))⟩
          · have HF : Hid (true = sameB ⟨s, l⟩ ⟨s2, m⟩) := by
              unfold Hid
              rw [← HR.out, ← HQ.out, List.take_of_length_le (by omega), List.take_of_length_le (by have := HM.out; omega)]
            go_wp2_with fail
            go_ret
            exact ⟨ret_bool HF.out, hb⟩
      · have HR : Hid (false = sameB ⟨s, l⟩ ⟨s2, m⟩) := by unfold Hid sameB; simp [hn, hm]
        have hm2 : ((l.length : Int) == (m.length : Int)) = false := beq_eq_false_iff_ne.2 (by omega)
        clear hm
        go_enter Try.func12, Try.ntmps12
        go_wp2_with fail
        go_ret
        exact ⟨ret_bool HR.out, below2 _ _⟩
#print axioms sameR_all
end Go.Proofs.Ytkfppicbningaaa

/- One term as a case of another one: plain. -/
namespace Go.Proofs.Ytkfppicbningaaa
open Go.RowKit
set_option linter.unusedSimpArgs false
set_option linter.unusedVariables false

/-- What stands for a pattern's variables, found knot by knot. -/
def mtL : List Tm → List Tm → List Bd → Option (List Bd)
  | [], _, h => some h
  | ⟨s, a⟩ :: r, ts, h => match ts with
    | [] => none
    | t :: ts' =>
      match (if varB s = true then (match forT h s with
          | some x => if sameB x t = true then some h else none
          | none => some (h ++ [⟨s, t⟩]))
        else if ((s.toList == t.name.toList) && (a.length == t.args.length)) = true then mtL a t.args h else none) with
      | some h' => mtL r ts' h'
      | none => none
def mtT (p t : Tm) (h : List Bd) : Option (List Bd) :=
  if varB p.name = true then (match forT h p.name with
      | some x => if sameB x t = true then some h else none
      | none => some (h ++ [⟨p.name, t⟩]))
    else if ((p.name.toList == t.name.toList) && (p.args.length == t.args.length)) = true then mtL p.args t.args h else none
theorem mtL_cons (p t : Tm) (r ts : List Tm) (h : List Bd) : mtL (p :: r) (t :: ts) h = (match mtT p t h with
      | some h' => mtL r ts h'
      | none => none) := by obtain ⟨s, a⟩ := p; simp only [mtL, mtT]
theorem mtL_append : ∀ (a b c d : List Tm) (h : List Bd), a.length = b.length → mtL (a ++ c) (b ++ d) h = (match mtL a b h with
      | some h' => mtL c d h'
      | none => none)
  | [], [], c, d, h, _ => by simp [mtL]
  | [], _ :: _, _, _, _, e => by simp at e
  | _ :: _, [], _, _, _, e => by simp at e
  | x :: r, t :: ts, c, d, h, e => by
    rw [List.cons_append, List.cons_append, mtL_cons, mtL_cons]
    cases mtT x t h with
    | none => rfl
    | some h' => exact mtL_append r ts c d h' (by simpa using e)
theorem mtL_take {l m : List Tm} {k : Nat} (h : k < l.length) (h2 : k < m.length) (hv : List Bd) : mtL (l.take (k + 1)) (m.take (k + 1)) hv = (match mtL (l.take k) (m.take k) hv with
      | some h' => mtT l[k] m[k] h'
      | none => none) := by
  rw [List.take_succ_eq_append_getElem h, List.take_succ_eq_append_getElem h2, mtL_append _ _ _ _ _ (by simp; omega)]
  cases mtL (l.take k) (m.take k) hv with
  | none => rfl
  | some h' =>
    show mtL [l[k]] [m[k]] h' = mtT l[k] m[k] h'
    rw [mtL_cons]
    cases mtT l[k] m[k] h' with
    | none => rfl
    | some h'' => simp [mtL]
theorem mtL_no {l m : List Tm} {k : Nat} {hv h' : List Bd} (h : k < l.length) (hlm : l.length = m.length) (h1 : mtL (l.take k) (m.take k) hv = some h') (h0 : mtT l[k] (m[k]'(by omega)) h' = none) : mtL l m hv = none := by
  have e1 : l = l.take (k + 1) ++ l.drop (k + 1) := (List.take_append_drop _ _).symm
  have e2 : m = m.take (k + 1) ++ m.drop (k + 1) := (List.take_append_drop _ _).symm
  rw [e1, e2, mtL_append _ _ _ _ _ (by simp; omega), mtL_take h (by omega), h1]
  simp only [h0]
theorem mtL_next {l m : List Tm} {k : Nat} {hv h' h'' : List Bd} (h : k < l.length) (h2 : k < m.length) (h1 : mtL (l.take k) (m.take k) hv = some h') (h0 : mtT l[k] m[k] h' = some h'') : mtL (l.take (k + 1)) (m.take (k + 1)) hv = some h'' := by
  rw [mtL_take h h2, h1]
  exact h0
theorem mtT_deep {s s2 : ByteArray} {l m : List Tm} {h : List Bd} (hv : varB s = false) (hn : (s.toList == s2.toList) = true) (hl : l.length = m.length) : mtT ⟨s, l⟩ ⟨s2, m⟩ h = mtL l m h := by
  simp [mtT, hv, hn, hl]
theorem mtT_off {s s2 : ByteArray} {l m : List Tm} {h : List Bd} (hv : varB s = false) (hn : ((s.toList == s2.toList) && (l.length == m.length)) = false) : mtT ⟨s, l⟩ ⟨s2, m⟩ h = none := by
  unfold mtT
  rw [if_neg (by rw [hv]; simp), if_neg (by simp only [hn]; simp)]
theorem mtT_new {s : ByteArray} {l : List Tm} {t : Tm} {h : List Bd} (hv : varB s = true) (hf : forT h s = none) : mtT ⟨s, l⟩ t h = some (h ++ [⟨s, t⟩]) := by simp [mtT, hv, hf]
theorem mtT_old {s : ByteArray} {l : List Tm} {t x : Tm} {h : List Bd} (hv : varB s = true) (hf : forT h s = some x) : mtT ⟨s, l⟩ t h = if sameB x t = true then some h else none := by simp [mtT, hv, hf]

/-- No name twice, and not more than there are knots; the terms are knots of the other one. -/
theorem forT_none {h : List Bd} {s : ByteArray} (hf : forT h s = none) : ∀ d ∈ h, d.nm ≠ s := by
  induction h with
  | nil => intro d hd; cases hd
  | cons a r ih =>
    intro d hd
    rw [forT] at hf
    split at hf
    · cases hf
    · rename_i hne
      rcases List.mem_cons.1 hd with rfl | hd
      · exact hne
      · exact ih hf d hd
theorem mtT_apart_one {p t : Tm} {h h' : List Bd} (ih : ∀ ts g g', mtL p.args ts g = some g' → ApartB g → ApartB g' ∧ g'.length ≤ g.length + sizeL p.args) (he : mtT p t h = some h') (ha : ApartB h) : ApartB h' ∧ h'.length ≤ h.length + (1 + sizeL p.args) := by
  unfold mtT at he
  split at he
  · split at he
    · split at he
      · cases he; exact ⟨ha, by omega⟩
      · cases he
    · rename_i hf
      cases he
      refine ⟨List.pairwise_append.2 ⟨ha, by simp, fun a h1 b h2 => ?_⟩, by simp⟩
      have e : b = ⟨p.name, t⟩ := by simpa using h2
      rw [e]
      exact forT_none hf a h1
  · split at he
    · obtain ⟨h1, h2⟩ := ih _ _ _ he ha
      exact ⟨h1, by omega⟩
    · cases he
theorem mtL_apart : ∀ (l ts : List Tm) (h h' : List Bd), mtL l ts h = some h' → ApartB h → ApartB h' ∧ h'.length ≤ h.length + sizeL l := by
  intro l
  induction l using Tm.indL with
  | h0 => intro ts h h' he ha; simp [mtL] at he; subst he; exact ⟨ha, by simp⟩
  | h s l r ihl ihr =>
    intro ts h h' he ha
    cases ts with
    | nil => simp [mtL] at he
    | cons t ts =>
      rw [mtL_cons] at he
      cases hm : mtT ⟨s, l⟩ t h with
      | none => rw [hm] at he; cases he
      | some g =>
        rw [hm] at he
        obtain ⟨h1, h2⟩ := mtT_apart_one (p := ⟨s, l⟩) (fun ts g g' h3 h4 => ihl ts g g' h3 h4) hm ha
        obtain ⟨h3, h4⟩ := ihr ts g h' he h1
        refine ⟨h3, ?_⟩
        simp only [sizeL]
        simp only at h2
        omega
theorem mtT_apart {p t : Tm} {h h' : List Bd} (he : mtT p t h = some h') (ha : ApartB h) : ApartB h' ∧ h'.length ≤ h.length + sizeL [p] := by
  obtain ⟨h1, h2⟩ := mtT_apart_one (fun ts g g' h3 h4 => mtL_apart p.args ts g g' h3 h4) he ha
  refine ⟨h1, ?_⟩
  obtain ⟨s, a⟩ := p
  simp [sizeL] at h2 ⊢
  omega
#print axioms mtT_apart
end Go.Proofs.Ytkfppicbningaaa

/- One term has another one's symbols wherever that has some: plain. -/
namespace Go.Proofs.Ytkfppicbningaaa
open Go.RowKit
set_option linter.unusedSimpArgs false
set_option linter.unusedVariables false

/-- Symbols, and how many there are below, are the pattern's, wherever the pattern has one. -/
def shL : List Tm → List Tm → Bool
  | [], _ => true
  | ⟨s, a⟩ :: r, ts => match ts with
    | [] => false
    | t :: ts' => (varB s || ((s.toList == t.name.toList) && (a.length == t.args.length) && shL a t.args)) && shL r ts'
def shT (p t : Tm) : Bool := varB p.name || ((p.name.toList == t.name.toList) && (p.args.length == t.args.length) && shL p.args t.args)
theorem shL_cons (p t : Tm) (r ts : List Tm) : shL (p :: r) (t :: ts) = (shT p t && shL r ts) := by obtain ⟨s, a⟩ := p; simp only [shL, shT]
theorem shT_deep {s s2 : ByteArray} {l m : List Tm} (hv : varB s = false) : shT ⟨s, l⟩ ⟨s2, m⟩ = ((s.toList == s2.toList) && (l.length == m.length) && shL l m) := by simp [shT, hv]
theorem shT_var {s : ByteArray} {l : List Tm} {t : Tm} (hv : varB s = true) : shT ⟨s, l⟩ t = true := by simp [shT, hv]
theorem shL_iff : ∀ (l m : List Tm), l.length = m.length → (shL l m = true ↔ ∀ k (h : k < l.length) (h2 : k < m.length), shT l[k] m[k] = true)
  | [], m, _ => by simp [shL]
  | _ :: _, [], e => by simp at e
  | p :: r, t :: ts, e => by
    have ih := shL_iff r ts (by simpa using e)
    rw [shL_cons, Bool.and_eq_true, ih]
    refine ⟨fun h k h1 h2 => ?_, fun h => ⟨h 0 (by simp) (by simp), fun k h1 h2 => h (k + 1) (by simpa using h1) (by simpa using h2)⟩⟩
    cases k with
    | zero => exact h.1
    | succ k => exact h.2 k (by simpa using h1) (by simpa using h2)
theorem shL_no {l m : List Tm} {k : Nat} (hlm : l.length = m.length) (h : k < l.length) (h2 : k < m.length) (h0 : shT l[k] m[k] = false) : shL l m = false := by
  cases hs : shL l m with
  | false => rfl
  | true => rw [(shL_iff l m hlm).1 hs k h h2] at h0; cases h0
/-- Where they aren't, nothing makes one the other. -/
theorem mtL_unshaped : ∀ (l m : List Tm) (h : List Bd), l.length = m.length → shL l m = false → mtL l m h = none := by
  intro l
  induction l using Tm.indL with
  | h0 => intro m h _ hs; simp [shL] at hs
  | h s a r iha ihr =>
    intro m h hlm hs
    cases m with
    | nil => simp at hlm
    | cons t ts =>
      rw [shL_cons] at hs
      rw [mtL_cons]
      cases h1 : shT ⟨s, a⟩ t with
      | true =>
        rw [h1, Bool.true_and] at hs
        cases mtT ⟨s, a⟩ t h with
        | none => rfl
        | some h' => exact ihr ts h' (by simpa using hlm) hs
      | false =>
        obtain ⟨s2, m2⟩ := t
        have hv : varB s = false := by
          cases hv : varB s with
          | false => rfl
          | true => rw [shT_var hv] at h1; cases h1
        rw [shT_deep hv] at h1
        have e : mtT ⟨s, a⟩ ⟨s2, m2⟩ h = none := by
          cases hn : ((s.toList == s2.toList) && (a.length == m2.length)) with
          | false => exact mtT_off hv hn
          | true =>
            rw [hn, Bool.true_and] at h1
            rw [Bool.and_eq_true] at hn
            have hl : a.length = m2.length := by simpa using hn.2
            rw [mtT_deep hv hn.1 hl]
            exact iha m2 h hl h1
        rw [e]
theorem mtT_unshaped {p t : Tm} (h : List Bd) (hs : shT p t = false) : mtT p t h = none := by
  have := mtL_unshaped [p] [t] h rfl (by rw [shL_cons, hs]; rfl)
  rw [mtL_cons] at this
  cases hm : mtT p t h with
  | none => rfl
  | some h' => rw [hm] at this; simp [mtL] at this
#print axioms mtT_unshaped
end Go.Proofs.Ytkfppicbningaaa

/- Walks: whether two terms are the same, as the program asks. -/
namespace Go.Proofs.Ytkfppicbningaaa
open Go.RowKit
set_option linter.unusedSimpArgs false
set_option linter.unusedVariables false
set_option maxRecDepth 8000

set_option maxHeartbeats 2000000 in
theorem sameK_all (t : Tm) : ∀ (x : Tm) (v u : Value) (w : World) (X Y : Nat → Prop), TV w X v t → TV w Y u x →
    Calls Try.prog 61 #[v, u] w fun e w' => e = .returned (.bool (sameB t x)) ∧ Below w.heap.size w w' := by
  induction t using Tm.ind with
  | h s l ih =>
    intro x v u w X Y hv hu
    obtain ⟨s2, m⟩ := x
    have IH := hide ih
    clear ih
    obtain ⟨a, c, rfl, hs⟩ := hv
    obtain ⟨a2, c2, rfl, hs2⟩ := hu
    have hl := hs.1
    have hl2 := hs2.1
    dsimp only
    cases hn : (s.toList == s2.toList) with
    | false =>
      have HR : Hid (false = sameB ⟨s, l⟩ ⟨s2, m⟩) := by unfold Hid sameB; rw [hn]; rfl
      go_enter Try.func61, Try.ntmps61
      go_wp2_with fail
      go_ret
      exact ⟨ret_bool HR.out, below2 _ _⟩
    | true =>
      by_cases hm : l.length = m.length
      · have HR : Hid (eqL l m = sameB ⟨s, l⟩ ⟨s2, m⟩) := by unfold Hid sameB; simp [hn, hm]
        have HM := hide hm
        rw [← hm]
        clear hm
        go_enter Try.func61, Try.ntmps61
        go_wp2_with fail
        go_loopw [23] (fun i wr => SaInv w l m a a2 c c2 i wr) (fun i wr => l.length - (intOf i).toNat)
        case atStart => exact ⟨0, Nat.zero_le _, rfl, by simp [eqL], below2 _ _, by simp, by simp, by simp⟩
        case round =>
          obtain ⟨k, hk, rfl, hq, hb, hc1, hc2, hsz⟩ := hrel
          have HQ := hide hq
          clear hq
          by_cases hlt : k < l.length
          · obtain ⟨b, o, a', c', rfl, d0, d1, hx⟩ := hs.get hb (fun _ _ h => h) k hlt
            obtain ⟨b2, o2, a2', c2', rfl, e0, e1, hx2⟩ := hs2.get hb (fun _ _ h => h) k (by have := HM.out; omega)
            have hltm : k < m.length := by have := HM.out; omega
            have HX := hide hx
            have HX2 := hide hx2
            have HB := hide hb
            have HS0 := hide (And.intro hc1 (And.intro hc2 (And.intro d0 (And.intro d1 (And.intro e0 e1)))))
            have IHK := hide (fun (w' : World) => IH.out l[k] (List.getElem_mem hlt) m[k] (.agg #[.string l[k].name, .slice a' l[k].args.length c']) (.agg #[.string m[k].name, .slice a2' m[k].args.length c2']) w' X Y)
            have HT := hide (eqL_take hlt hltm)
            have HNO := hide (eqL_no hlt HM.out)
            clear hx hx2 hb
            generalize l[k] = y at *
            generalize m[k] = z at *
            go_wp2_with fail
            cases hsm : sameB y z with
            | true =>
              rw [hsm] at IHK HT
              go_region_held3 (fun w' => w'.cell? ⟨w.heap.size, 1, none⟩ = some (.slice (some ⟨b, o, none⟩) l.length c) ∧ w'.cell? ⟨w.heap.size + 1, 1, none⟩ = some (.slice (some ⟨b2, o2, none⟩) l.length c2) ∧ w'.cell? ⟨b, o + k * 2, none⟩ = some (.string y.name) ∧ w'.cell? ⟨b, o + k * 2 + 1, none⟩ = some (.slice a' y.args.length c') ∧ w'.cell? ⟨b2, o2 + k * 2, none⟩ = some (.string z.name) ∧ w'.cell? ⟨b2, o2 + k * 2 + 1, none⟩ = some (.slice a2' z.args.length c2')) (first | exact HS0.out | exact hS1 | go_keep)
                ((go_at_call 61; refine (IHK.out _ (by exact HX.out.later (below_drewN (Below.refl _ _) 1)) (by exact HX2.out.later (below_drewN (Below.refl _ _) 1))).mono ?_; rintro e w1 ⟨rfl, hb1⟩; have hS1 := same_cells (n := 1) hb1 HS0.out))
              go_wp2_with fail
              go_roundw
              case rel => exact ⟨k + 1, by omega, by go_num, by rw [HT.out, HQ.out]; rfl, (HB.out.trans (below_drewN (Below.refl _ _) 1)).trans (hb1.mono (by simp; omega)), hS1.1, hS1.2.1, by have := hb1.size; simp at this; omega⟩
              case measure => simp [intOf]; omega
            | false =>
              have HF : Hid (false = sameB ⟨s, l⟩ ⟨s2, m⟩) := by unfold Hid; rw [← HR.out, HNO.out hsm]
              rw [hsm] at IHK
              go_region_held3 (fun w' => w'.cell? ⟨w.heap.size, 1, none⟩ = some (.slice (some ⟨b, o, none⟩) l.length c) ∧ w'.cell? ⟨w.heap.size + 1, 1, none⟩ = some (.slice (some ⟨b2, o2, none⟩) l.length c2) ∧ w'.cell? ⟨b, o + k * 2, none⟩ = some (.string y.name) ∧ w'.cell? ⟨b, o + k * 2 + 1, none⟩ = some (.slice a' y.args.length c') ∧ w'.cell? ⟨b2, o2 + k * 2, none⟩ = some (.string z.name) ∧ w'.cell? ⟨b2, o2 + k * 2 + 1, none⟩ = some (.slice a2' z.args.length c2')) (first | exact HS0.out | exact hS1 | go_keep)
                ((go_at_call 61; refine (IHK.out _ (by exact HX.out.later (below_drewN (Below.refl _ _) 1)) (by exact HX2.out.later (below_drewN (Below.refl _ _) 1))).mono ?_; rintro e w1 ⟨rfl, hb1⟩; have hS1 := same_cells (n := 1) hb1 HS0.out))
              go_wp2_with fail
              go_ret
              exact ⟨ret_bool HF.out, (HB.out.trans (below_drewN (Below.refl _ _) 1)).trans (hb1.mono (by simp; omega))⟩
          · have HF : Hid (true = sameB ⟨s, l⟩ ⟨s2, m⟩) := by
              unfold Hid
              rw [← HR.out, ← HQ.out, List.take_of_length_le (by omega), List.take_of_length_le (by have := HM.out; omega)]
            go_wp2_with fail
            go_ret
            exact ⟨ret_bool HF.out, hb⟩
      · have HR : Hid (false = sameB ⟨s, l⟩ ⟨s2, m⟩) := by unfold Hid sameB; simp [hn, hm]
        have hm2 : ((l.length : Int) == (m.length : Int)) = false := beq_eq_false_iff_ne.2 (by omega)
        clear hm
        go_enter Try.func61, Try.ntmps61
        go_wp2_with fail
        go_ret
        exact ⟨ret_bool HR.out, below2 _ _⟩
#print axioms sameK_all
end Go.Proofs.Ytkfppicbningaaa
