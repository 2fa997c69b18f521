import Derived.Test.YtmkendjmfdaedaaGreatZRewriteMadeOwn
import Derived.Test.YtmkendjmfdaedaaGreatZDRewriteMadeOwn
import Derived.Deep.RegionHeld3
namespace Go.Proofs.YtmkendjmfdaedaaGreat
open Go.RowKit
set_option linter.unusedSimpArgs false
set_option linter.unusedVariables false
set_option maxRecDepth 8000
theorem leaf_any (s : ByteArray) (w : World) :
  Calls Tryz.prog 33 #[.string s] w fun e w' => e = .returned (.agg #[.string s, .slice none 0 0]) ∧ Below w.heap.size w w' := by
 go_enter Tryz.func33, Tryz.ntmps33
 go_wp2_with fail
 have hb := Blk.new w #[.string s, .slice none 0 0] 27
 have c0 := hb.cell 0
 have c1 := hb.cell 1
 refine bodyPost_ret (v := .agg #[.string s, .slice none 0 0]) (by simp [results, Tryz.results33, go_sem, c0, c1]) rfl ⟨rfl, (Below.refl _ _).alloc (Nat.le_refl _) _⟩
def top (m : Nat) : Nat := if m < 3 then 1 else 2 * m - 1
def okV (nv : Nat) (l : List Tm) : Prop := errL l = 0 ∧ ∀ k ∈ preL l, varB k.name = true → k.name ∈ ([⟨#[88]⟩, ⟨#[89]⟩, ⟨#[90]⟩, ⟨#[85]⟩] : List ByteArray).take nv
def GrowPV (nv : Nat) (w : World) (i m : Nat) (e : Ending) (w' : World) : Prop :=
 ∃ (a : Option Addr) (c n : Nat) (t : Tm), e = .returned (.tuple #[.agg #[.string t.name, .slice a t.args.length c], .int .i64 (n : Int)]) ∧ Sl w' (fun b => w.heap.size ≤ b) a t.args ∧ t.args.length ≤ c ∧ c ≤ 9223372036854775807 ∧ sizeL [t] ≤ top m ∧ i ≤ n ∧ n ≤ i + top m ∧ Below w.heap.size w w' ∧ okV nv [t]
theorem top_pos (m : Nat) : 1 ≤ top m := by unfold top; split <;> omega
theorem top_step {m : Nat} (h : 3 ≤ m + 1) : top m + 1 ≤ top (m + 1) := by unfold top; split <;> split <;> omega
theorem top_half {m h : Nat} (hm : 3 ≤ m + 1) (hh : h = (m + 1) / 2) : 2 * top h + 1 ≤ top (m + 1) := by unfold top; split <;> split <;> omega
theorem err_leaf {s : ByteArray} (h : nameB s = true) : errL [(⟨s, []⟩ : Tm)] = 0 := by simp [errL, h]
theorem err_node {s : ByteArray} {l : List Tm} (h : nameB s = true) (hv : varB s = false) (hl : errL l = 0) : errL [(⟨s, l⟩ : Tm)] = 0 := by simp [errL, h, hv, hl]
theorem ok_node {nv : Nat} {s : ByteArray} {l : List Tm} (h : nameB s = true) (hv : varB s = false) (hl : okV nv l) : okV nv [(⟨s, l⟩ : Tm)] := by
 refine ⟨err_node h hv hl.1, fun k hk hvk => ?_⟩
 simp only [preL, List.append_nil, List.mem_cons] at hk
 rcases hk with rfl | hk
 ·simp only at hvk
  rw [hv] at hvk; cases hvk
 ·exact hl.2 k hk hvk
theorem preL_cons2 (t : Tm) (r : List Tm) : preL (t :: r) = preL [t] ++ preL r := by
 obtain ⟨s, l⟩ := t
 simp [preL]
theorem ok_two {nv : Nat} {a b : Tm} (ha : okV nv [a]) (hb : okV nv [b]) : okV nv [a, b] := by
 refine ⟨by rw [errL_cons, if_pos ha.1]; exact hb.1, fun k hk hv => ?_⟩
 rw [preL_cons2] at hk
 rcases List.mem_append.1 hk with hk | hk
 ·exact ha.2 k hk hv
 ·exact hb.2 k hk hv
theorem grow_leaf {nv : Nat} {w w' : World} {s : ByteArray} {i m : Nat} (hes : okV nv [(⟨s, []⟩ : Tm)]) (hb : Below w.heap.size w w') : GrowPV nv w i m (.returned (.tuple #[.agg #[.string s, .slice none 0 0], .int .i64 ((i : Int) + 1)])) w' := by
 have := top_pos m
 exact ⟨none, 0, i + 1, ⟨s, []⟩, by simp, ⟨by simp, Or.inl rfl⟩, by simp, by omega, by simp [sizeL]; omega, by omega, by omega, hb, hes⟩
theorem pick_var (w : World) (T k nv : Nat) (hk : k < nv) (hnv : nv ≤ 4) : ∃ s, okV nv [(⟨s, []⟩ : Tm)] ∧ (w.alloc (.cells #[.string ⟨#[88]⟩, .string ⟨#[89]⟩, .string ⟨#[90]⟩, .string ⟨#[85]⟩] T)).cell? ⟨w.heap.size, k, none⟩ = some (.string s) := by
 have h := heap_alloc_new w (.cells (([⟨#[88]⟩, ⟨#[89]⟩, ⟨#[90]⟩, ⟨#[85]⟩] : List ByteArray).map Value.string).toArray T)
 have hk4 : k < ([⟨#[88]⟩, ⟨#[89]⟩, ⟨#[90]⟩, ⟨#[85]⟩] : List ByteArray).length := by simp; omega
 refine ⟨([⟨#[88]⟩, ⟨#[89]⟩, ⟨#[90]⟩, ⟨#[85]⟩] : List ByteArray)[k], ⟨err_leaf ((show ∀ s ∈ ([⟨#[88]⟩, ⟨#[89]⟩, ⟨#[90]⟩, ⟨#[85]⟩] : List ByteArray), nameB s = true by decide) _ (List.getElem_mem hk4)), fun x hx _ => ?_⟩, ?_⟩
 ·simp only [preL, List.append_nil, List.mem_cons, List.not_mem_nil, or_false] at hx
  rw [hx]
  rw [← List.getElem_take (h := by simp; omega) (j := nv)]
  exact List.getElem_mem _
 ·have h2 := Lib.cell_of_heap h k
  refine h2.trans ?_
  rw [List.getElem?_toArray, List.getElem?_map, List.getElem?_eq_getElem hk4]
  rfl
theorem pick_const (w : World) (T k nv : Nat) (hk : k < 3) : ∃ s, okV nv [(⟨s, []⟩ : Tm)] ∧ (w.alloc (.cells #[.string ⟨#[97]⟩, .string ⟨#[98]⟩, .string ⟨#[99]⟩] T)).cell? ⟨w.heap.size, k, none⟩ = some (.string s) := by
 have h := heap_alloc_new w (.cells (([⟨#[97]⟩, ⟨#[98]⟩, ⟨#[99]⟩] : List ByteArray).map Value.string).toArray T)
 have hk4 : k < ([⟨#[97]⟩, ⟨#[98]⟩, ⟨#[99]⟩] : List ByteArray).length := by simpa using hk
 refine ⟨([⟨#[97]⟩, ⟨#[98]⟩, ⟨#[99]⟩] : List ByteArray)[k], ⟨err_leaf ((show ∀ s ∈ ([⟨#[97]⟩, ⟨#[98]⟩, ⟨#[99]⟩] : List ByteArray), nameB s = true by decide) _ (List.getElem_mem hk4)), fun x hx hv => ?_⟩, ?_⟩
 ·simp only [preL, List.append_nil, List.mem_cons, List.not_mem_nil, or_false] at hx
  rw [hx] at hv
  have := (show ∀ s ∈ ([⟨#[97]⟩, ⟨#[98]⟩, ⟨#[99]⟩] : List ByteArray), varB s = false by decide) _ (List.getElem_mem hk4)
  rw [this] at hv; cases hv
 ·have h2 := Lib.cell_of_heap h k
  refine h2.trans ?_
  rw [List.getElem?_toArray, List.getElem?_map, List.getElem?_eq_getElem hk4]
  rfl
theorem sl_one {w : World} {X Z : Nat → Prop} {B : Nat} {t : Tm} {a : Option Addr} {c T : Nat} (hb : w.heap[B]? = some (.cells #[.string t.name, .slice a t.args.length c] T (0, 0))) (hB : X B) (hs : Sl w Z a t.args) (hZ : ∀ b, Z b → b < w.heap.size → X b) : Sl w X (some ⟨B, 0, none⟩) [t] := by
 refine ⟨by simp, Or.inr ⟨B, 0, rfl, lies_mk _ _ _ fun i hi => ?_⟩⟩
 simp at hi
 subst hi
 exact ⟨hB, by simp [World.cell?, hb], a, c, by simp [World.cell?, hb], hs.mono hZ⟩
theorem grow_one {nv : Nat} {w w5 : World} {Z : Nat → Prop} {s : ByteArray} {i m n T : Nat} {a5 : Option Addr} {c5 : Nat} {t5 : Tm} {v0 v1 : Value} {o1 : Obj} (hB : Below w.heap.size w w5) (hlt : w.heap.size < w5.heap.size) (hs : Sl w5 Z a5 t5.args) (hZ : ∀ b, Z b → w.heap.size < b) (hz : sizeL [t5] ≤ top m) (hm : 3 ≤ m + 1) (hn : i ≤ n) (hn' : n ≤ i + 1 + top m) (hes : okV nv [(⟨s, [t5]⟩ : Tm)]) :
  GrowPV nv w i (m + 1) (.returned (.tuple #[.agg #[.string s, .slice (some ⟨w5.heap.size + 1, 0, none⟩) 1 1], .int .i64 (n : Int)])) ((((w5.setCell ⟨w.heap.size, 0, none⟩ v0).setCell ⟨w.heap.size, 1, none⟩ v1).alloc o1).alloc (.cells #[.string t5.name, .slice a5 t5.args.length c5] T)) := by
 have ht := top_step hm
 have hb0 : Below w.heap.size w (((w5.setCell ⟨w.heap.size, 0, none⟩ v0).setCell ⟨w.heap.size, 1, none⟩ v1).alloc o1) := ((hB.setCell (by simp) _).setCell (by simp) _).alloc (by simp [World.setCell]; omega) _
 refine ⟨some ⟨w5.heap.size + 1, 0, none⟩, 1, n, ⟨s, [t5]⟩, rfl, ?_, by simp, by omega, by simp [sizeL] at hz ⊢; omega, hn, by omega, hb0.alloc hb0.size _, hes⟩
 have hnew := heap_alloc_new (((w5.setCell ⟨w.heap.size, 0, none⟩ v0).setCell ⟨w.heap.size, 1, none⟩ v1).alloc o1) (.cells #[.string t5.name, .slice a5 t5.args.length c5] T)
 have e : (((w5.setCell ⟨w.heap.size, 0, none⟩ v0).setCell ⟨w.heap.size, 1, none⟩ v1).alloc o1).heap.size = w5.heap.size + 1 := by simp [World.setCell]
 rw [e] at hnew
 refine sl_one hnew (by omega) ((hs.mono (Y := fun b => Z b ∧ b < w5.heap.size) fun b h1 h2 => ⟨h1, h2⟩).kept (w' := _) fun b hb => ?_) (fun b hb _ => by have := hZ b hb.1; omega)
 have := hZ b hb.1
 rw [Below.heap_alloc _ _ _ (by rw [e]; omega), Below.heap_alloc _ _ _ (by simp [World.setCell]; omega), Below.heap_setCell _ _ _ _ (by simp; omega), Below.heap_setCell _ _ _ _ (by simp; omega)]
section
variable {P : Program} {ops : Array Oper} {Q : Exit → Act → World → Prop} {md : Region.Mode}
theorem held_mono {S S' : World → Prop} (h : ∀ w, S' w → S w) : ∀ (fuel : Nat) (listed : Array Bool) (a : Act) (w : World), wpAnyH P md ops Q S' fuel listed a w → wpAnyH P md ops Q S fuel listed a w
 | 0, _, _, _, H => H
 | fuel + 1, listed, a, w, H => ⟨H.1, fun i hi => wpOp_mono (fun a' w' hh => ⟨h _ hh.1, held_mono h fuel _ a' w' hh.2⟩) (H.2 i hi)⟩
end
def TwoS (w5 w6 : World) (t5 t6 : Tm) (a5 a6 : Option Addr) (c5 c6 : Nat) (w' : World) : Prop :=
 Blk w' w5.heap.size #[.string t5.name, .slice a5 t5.args.length c5] 27 ∧ Blk w' w6.heap.size #[.string t6.name, .slice a6 t6.args.length c6] 27
def TwoF (w5 w6 : World) (t5 t6 : Tm) (a5 a6 : Option Addr) (c5 c6 : Nat) (b : Nat) (w' : World) : Prop :=
 TwoS w5 w6 t5 t6 a5 a6 c5 c6 w' ∧ Blk w' b #[.string ⟨#[102]⟩, .string ⟨#[103]⟩] 9
theorem TwoS.alloc {w5 w6 : World} {t5 t6 : Tm} {a5 a6 : Option Addr} {c5 c6 : Nat} {w' : World} (h : TwoS w5 w6 t5 t6 a5 a6 c5 c6 w') (o : Obj) : TwoS w5 w6 t5 t6 a5 a6 c5 c6 (w'.alloc o) := ⟨h.1.alloc o, h.2.alloc o⟩
theorem TwoF.alloc {w5 w6 : World} {t5 t6 : Tm} {a5 a6 : Option Addr} {c5 c6 b : Nat} {w' : World} (h : TwoF w5 w6 t5 t6 a5 a6 c5 c6 b w') (o : Obj) : TwoF w5 w6 t5 t6 a5 a6 c5 c6 b (w'.alloc o) := ⟨h.1.alloc o, h.2.alloc o⟩
theorem blk_at {w : World} {n : Nat} (h : w.heap.size = n) (cs : Array Value) (T : Nat) : Blk (w.alloc (.cells cs T)) n cs T := h ▸ Blk.new w cs T
theorem two_endA {w5 w6 : World} {t5 t6 : Tm} {a5 a6 : Option Addr} {c5 c6 b : Nat} (v0 v1 : Value) (A : Obj) (hX : Blk w6 w5.heap.size #[.string t5.name, .slice a5 t5.args.length c5] 27) (hne : w5.heap.size ≠ b) :
  TwoF w5 w6 t5 t6 a5 a6 c5 c6 (w6.heap.size + 1) (((((w6.setCell ⟨b, 0, none⟩ v0).setCell ⟨b, 1, none⟩ v1).alloc (.cells #[.string t6.name, .slice a6 t6.args.length c6] 27)).alloc (.cells #[.string ⟨#[102]⟩, .string ⟨#[103]⟩] 9)).alloc A) :=
 ⟨⟨(((((hX.setOther 0 v0 hne).setOther 1 v1 hne).alloc _).alloc _).alloc _), ((blk_at (by simp [World.setCell]) _ _).alloc _).alloc _⟩, (blk_at (by simp [World.setCell]) _ _).alloc _⟩
theorem two_endB {w5 w6 : World} {t5 t6 : Tm} {a5 a6 : Option Addr} {c5 c6 b : Nat} (v0 v1 : Value) (A : Obj) (hX : Blk w6 w5.heap.size #[.string t5.name, .slice a5 t5.args.length c5] 27) (hne : w5.heap.size ≠ b) :
  TwoF w5 w6 t5 t6 a5 a6 c5 c6 (w6.heap.size + 1 + 1) (((((w6.setCell ⟨b, 0, none⟩ v0).setCell ⟨b, 1, none⟩ v1).alloc (.cells #[.string t6.name, .slice a6 t6.args.length c6] 27)).alloc A).alloc (.cells #[.string ⟨#[102]⟩, .string ⟨#[103]⟩] 9)) :=
 ⟨⟨(((((hX.setOther 0 v0 hne).setOther 1 v1 hne).alloc _).alloc _).alloc _), ((blk_at (by simp [World.setCell]) _ _).alloc _).alloc _⟩, (blk_at (by simp [World.setCell]) _ _)⟩
theorem sl_two {w : World} {X Z5 Z6 : Nat → Prop} {B : Nat} {t5 t6 : Tm} {a5 a6 : Option Addr} {c5 c6 T : Nat} (hb : Blk w B #[.string t5.name, .slice a5 t5.args.length c5, .string t6.name, .slice a6 t6.args.length c6] T) (hB : X B) (h5 : Sl w Z5 a5 t5.args) (h6 : Sl w Z6 a6 t6.args) (hZ5 : ∀ b, Z5 b → b < w.heap.size → X b) (hZ6 : ∀ b, Z6 b → b < w.heap.size → X b) : Sl w X (some ⟨B, 0, none⟩) [t5, t6] := by
 refine ⟨by simp, Or.inr ⟨B, 0, rfl, lies_mk _ _ _ fun i hi => ?_⟩⟩
 have h01 : i = 0 ∨ i = 1 := by simp at hi; omega
 rcases h01 with rfl | rfl
 ·exact ⟨hB, hb.cell 0, a5, c5, hb.cell 1, h5.mono hZ5⟩
 ·exact ⟨hB, hb.cell 2, a6, c6, hb.cell 3, h6.mono hZ6⟩
theorem two_world {w w6 : World} {Z : Nat → Prop} {a : Option Addr} {l : List Tm} {v0 v1 : Value} {o1 o2 o3 : Obj} (hs : Sl w6 Z a l) (hZ : ∀ b, Z b → w.heap.size < b) : Sl (((((w6.setCell ⟨w.heap.size, 0, none⟩ v0).setCell ⟨w.heap.size, 1, none⟩ v1).alloc o1).alloc o2).alloc o3).drew (fun b => Z b ∧ b < w6.heap.size) a l := by
 refine (hs.mono (Y := fun b => Z b ∧ b < w6.heap.size) fun b h1 h2 => ⟨h1, h2⟩).kept fun b hb => ?_
 have := hZ b hb.1
 show ((((((w6.setCell ⟨w.heap.size, 0, none⟩ v0).setCell ⟨w.heap.size, 1, none⟩ v1).alloc o1).alloc o2).alloc o3)).heap[b]? = w6.heap[b]?
 rw [Below.heap_alloc _ _ _ (by simp [World.setCell]; omega), Below.heap_alloc _ _ _ (by simp [World.setCell]; omega), Below.heap_alloc _ _ _ (by simp [World.setCell]; omega), Below.heap_setCell _ _ _ _ (by simp; omega), Below.heap_setCell _ _ _ _ (by simp; omega)]
theorem grow_two {nv : Nat} {w w6 : World} {Z5 Z6 : Nat → Prop} {s : ByteArray} {i m n T bA : Nat} {a5 a6 : Option Addr} {c5 c6 : Nat} {t5 t6 : Tm} {v0 v1 : Value} {o1 o2 o3 : Obj} (hB : Below w.heap.size w w6) (hlt : w.heap.size < w6.heap.size) (h5 : Sl w6 Z5 a5 t5.args) (h6 : Sl w6 Z6 a6 t6.args) (hZ5 : ∀ b, Z5 b → w.heap.size < b) (hZ6 : ∀ b, Z6 b → w.heap.size < b) (hbig : i ≤ n ∧ n ≤ i + top (m + 1) ∧ sizeL [t5] + sizeL [t6] + 1 ≤ top (m + 1)) (hes : okV nv [(⟨s, [t5, t6]⟩ : Tm)]) (hbA : w6.heap.size < bA)
  (hA : Blk (((((w6.setCell ⟨w.heap.size, 0, none⟩ v0).setCell ⟨w.heap.size, 1, none⟩ v1).alloc o1).alloc o2).alloc o3).drew bA #[.string t5.name, .slice a5 t5.args.length c5, .string t6.name, .slice a6 t6.args.length c6] T) :
  GrowPV nv w i (m + 1) (.returned (.tuple #[.agg #[.string s, .slice (some ⟨bA, 0, none⟩) 2 2], .int .i64 (n : Int)])) (((((w6.setCell ⟨w.heap.size, 0, none⟩ v0).setCell ⟨w.heap.size, 1, none⟩ v1).alloc o1).alloc o2).alloc o3).drew := by
 have hb0 : Below w.heap.size w (((((w6.setCell ⟨w.heap.size, 0, none⟩ v0).setCell ⟨w.heap.size, 1, none⟩ v1).alloc o1).alloc o2).alloc o3) := ((((hB.setCell (by simp) _).setCell (by simp) _).alloc (by simp [World.setCell]; omega) _).alloc (by simp [World.setCell]; omega) _).alloc (by simp [World.setCell]; omega) _
 refine ⟨some ⟨bA, 0, none⟩, 2, n, ⟨s, [t5, t6]⟩, rfl, ?_, by simp, by omega, ?_, hbig.1, hbig.2.1, hb0.drew, hes⟩
 ·exact sl_two hA (by omega) (two_world h5 hZ5) (two_world h6 hZ6) (fun b hb _ => by have := hZ5 b hb.1; omega) (fun b hb _ => by have := hZ6 b hb.1; omega)
 ·have := hbig.2.2
  have e : sizeL [t5, t6] = sizeL [t5] + sizeL [t6] := sizeL_append [t5] [t6]
  have e2 : sizeL [⟨s, [t5, t6]⟩] = 1 + sizeL [t5, t6] := by simp [sizeL]
  omega
theorem two_up {w5 w6 : World} {t5 t6 : Tm} {a5 a6 : Option Addr} {c5 c6 b : Nat} {w' : World} (h : TwoS w5 w6 t5 t6 a5 a6 c5 c6 w') (hF : Blk w' b #[.string ⟨#[102]⟩, .string ⟨#[103]⟩] 9) : TwoF w5 w6 t5 t6 a5 a6 c5 c6 b w' := ⟨h, hF⟩
set_option maxHeartbeats 8000000 in
theorem growV_any (nv : Nat) (hnv : 1 ≤ nv) (hnv4 : nv ≤ 4) (zs : List Int) (hr : ∀ z ∈ zs, Rng z) (hzl : zs.length ≤ 1000000) : ∀ (m i : Nat) (u : Value) (w : World) (X : Nat → Prop), PV w X u zs → m ≤ 100 → i + top m ≤ 1000 →
  Calls Tryz.prog 12 #[u, .int .i64 (i : Int), .int .i64 (m : Int), .int .i64 (nv : Int)] w fun e w' => GrowPV nv w i m e w' := by
 have hnvI : (0 : Int) < (nv : Int) := by omega
 intro m
 induction m using Nat.strongRecOn with
 | ind m ih =>
  intro i u w X hu hm hi
  have IH := hide ih
  clear ih
  have HU := hide hu
  clear hu
  go_enter Tryz.func12, Tryz.ntmps12
  go_wp2_with fail
  refine (raw_any zs _ _ X (by exact HU.out.alloc _) hr i (by omega) hzl).mono ?_
  rintro e w1 ⟨c, rfl, hc, hb1⟩
  have B1 := hide (((Below.refl w.heap.size w).alloc (Nat.le_refl _) (.cells #[.string ⟨#[]⟩, .slice none 0 0] 27)).trans (hb1.mono (by simp)))
  have R1 := hide ((Blk.new w #[.string ⟨#[]⟩, .slice none 0 0] 27).below hb1 (by simp))
  clear hb1
  by_cases h3 : m < 3
  ·go_wp2_with fail
   refine (pick_any _ 3 (by decide) (by decide) ⟨by omega, by omega⟩ _).mono ?_
   rintro e w2 ⟨k2, rfl, hk2, rfl⟩
   by_cases h2 : 0 < k2
   ·go_wp2_with fail
    refine (pick_any _ nv (by omega) (by omega) ⟨by omega, by omega⟩ _).mono ?_
    rintro e w3 ⟨k3, rfl, hk3, rfl⟩
    obtain ⟨s5, hes5, hs5⟩ := pick_var w2 9 k3 nv hk3 hnv4
    have hs6 : (w2.alloc (.cells #[.string ⟨#[88]⟩, .string ⟨#[89]⟩, .string ⟨#[90]⟩, .string ⟨#[85]⟩] 9)).cell? ⟨w2.heap.size, k3, none⟩ = some (.string s5) := hs5
    have hk4 : (k3 : Int) < 4 := by omega
    clear hs5
    go_wp2_with fail
    refine (leaf_any _ _).mono ?_
    rintro e w4 ⟨rfl, hb4⟩
    have R4 := hide ((R1.out.alloc _).below hb4 (by have := R1.out.lt; simp; omega))
    have B4 := hide ((B1.out.alloc B1.out.size _).trans (hb4.mono (by have := B1.out.size; simp; omega)))
    clear hb4 hs6
    have r0 := R4.out.c0
    have r1 := R4.out.c1
    have rf := R4.out.frozen
    go_wp2_with fail
    have q0 := ((R4.out.set 0 (.string s5)).set 1 (.slice none 0 0)).cell 0
    have q1 := ((R4.out.set 0 (.string s5)).set 1 (.slice none 0 0)).cell 1
    refine bodyPost_ret (v := .tuple #[.agg #[.string s5, .slice none 0 0], .int .i64 ((i : Int) + 1)]) (by simp [results, Tryz.results12, go_sem, q0, q1, World.cell?_setCell_same, World.cell?_setCell_other, r0, r1]) rfl ?_
    exact grow_leaf hes5 ((B4.out.setCell (by simp) _).setCell (by simp) _)
   ·go_wp2_with fail
    refine (pick_any _ 3 (by decide) (by decide) ⟨by omega, by omega⟩ _).mono ?_
    rintro e w3 ⟨k3, rfl, hk3, rfl⟩
    obtain ⟨s5, hes5, hs5⟩ := pick_const w2 9 k3 nv hk3
    have hs6 : (w2.alloc (.cells #[.string ⟨#[97]⟩, .string ⟨#[98]⟩, .string ⟨#[99]⟩] 9)).cell? ⟨w2.heap.size, k3, none⟩ = some (.string s5) := hs5
    have hk4 : (k3 : Int) < 3 := by omega
    clear hs5
    go_wp2_with fail
    refine (leaf_any _ _).mono ?_
    rintro e w4 ⟨rfl, hb4⟩
    have R4 := hide ((R1.out.alloc _).below hb4 (by have := R1.out.lt; simp; omega))
    have B4 := hide ((B1.out.alloc B1.out.size _).trans (hb4.mono (by have := B1.out.size; simp; omega)))
    clear hb4 hs6
    have r0 := R4.out.c0
    have r1 := R4.out.c1
    have rf := R4.out.frozen
    go_wp2_with fail
    have q0 := ((R4.out.set 0 (.string s5)).set 1 (.slice none 0 0)).cell 0
    have q1 := ((R4.out.set 0 (.string s5)).set 1 (.slice none 0 0)).cell 1
    refine bodyPost_ret (v := .tuple #[.agg #[.string s5, .slice none 0 0], .int .i64 ((i : Int) + 1)]) (by simp [results, Tryz.results12, go_sem, q0, q1, World.cell?_setCell_same, World.cell?_setCell_other, r0, r1]) rfl ?_
    exact grow_leaf hes5 ((B4.out.setCell (by simp) _).setCell (by simp) _)
  ·go_wp2_with fail
   refine (pick_any _ 5 (by decide) (by decide) ⟨by omega, by omega⟩ _).mono ?_
   rintro e w1b ⟨k1, rfl, hk1, rfl⟩
   by_cases h1 : k1 < 2
   ·go_wp2_with fail
    refine (pick_any _ 3 (by decide) (by decide) ⟨by omega, by omega⟩ _).mono ?_
    rintro e w2 ⟨k2, rfl, hk2, rfl⟩
    by_cases h2 : 0 < k2
    ·go_wp2_with fail
     refine (pick_any _ nv (by omega) (by omega) ⟨by omega, by omega⟩ _).mono ?_
     rintro e w3 ⟨k3, rfl, hk3, rfl⟩
     obtain ⟨s5, hes5, hs5⟩ := pick_var w2 9 k3 nv hk3 hnv4
     have hs6 : (w2.alloc (.cells #[.string ⟨#[88]⟩, .string ⟨#[89]⟩, .string ⟨#[90]⟩, .string ⟨#[85]⟩] 9)).cell? ⟨w2.heap.size, k3, none⟩ = some (.string s5) := hs5
     have hk4 : (k3 : Int) < 4 := by omega
     clear hs5
     go_wp2_with fail
     refine (leaf_any _ _).mono ?_
     rintro e w4 ⟨rfl, hb4⟩
     have R4 := hide ((R1.out.alloc _).below hb4 (by have := R1.out.lt; simp; omega))
     have B4 := hide ((B1.out.alloc B1.out.size _).trans (hb4.mono (by have := B1.out.size; simp; omega)))
     clear hb4 hs6
     have r0 := R4.out.c0
     have r1 := R4.out.c1
     have rf := R4.out.frozen
     go_wp2_with fail
     have q0 := ((R4.out.set 0 (.string s5)).set 1 (.slice none 0 0)).cell 0
     have q1 := ((R4.out.set 0 (.string s5)).set 1 (.slice none 0 0)).cell 1
     refine bodyPost_ret (v := .tuple #[.agg #[.string s5, .slice none 0 0], .int .i64 ((i : Int) + 1)]) (by simp [results, Tryz.results12, go_sem, q0, q1, World.cell?_setCell_same, World.cell?_setCell_other, r0, r1]) rfl ?_
     exact grow_leaf hes5 ((B4.out.setCell (by simp) _).setCell (by simp) _)
    ·go_wp2_with fail
     refine (pick_any _ 3 (by decide) (by decide) ⟨by omega, by omega⟩ _).mono ?_
     rintro e w3 ⟨k3, rfl, hk3, rfl⟩
     obtain ⟨s5, hes5, hs5⟩ := pick_const w2 9 k3 nv hk3
     have hs6 : (w2.alloc (.cells #[.string ⟨#[97]⟩, .string ⟨#[98]⟩, .string ⟨#[99]⟩] 9)).cell? ⟨w2.heap.size, k3, none⟩ = some (.string s5) := hs5
     have hk4 : (k3 : Int) < 3 := by omega
     clear hs5
     go_wp2_with fail
     refine (leaf_any _ _).mono ?_
     rintro e w4 ⟨rfl, hb4⟩
     have R4 := hide ((R1.out.alloc _).below hb4 (by have := R1.out.lt; simp; omega))
     have B4 := hide ((B1.out.alloc B1.out.size _).trans (hb4.mono (by have := B1.out.size; simp; omega)))
     clear hb4 hs6
     have r0 := R4.out.c0
     have r1 := R4.out.c1
     have rf := R4.out.frozen
     go_wp2_with fail
     have q0 := ((R4.out.set 0 (.string s5)).set 1 (.slice none 0 0)).cell 0
     have q1 := ((R4.out.set 0 (.string s5)).set 1 (.slice none 0 0)).cell 1
     refine bodyPost_ret (v := .tuple #[.agg #[.string s5, .slice none 0 0], .int .i64 ((i : Int) + 1)]) (by simp [results, Tryz.results12, go_sem, q0, q1, World.cell?_setCell_same, World.cell?_setCell_other, r0, r1]) rfl ?_
     exact grow_leaf hes5 ((B4.out.setCell (by simp) _).setCell (by simp) _)
   ·go_wp2_with fail
    refine (pick_eq ((c : Int) / 5) 4 (by decide) (by decide) ⟨by omega, by omega⟩ _).mono ?_
    rintro e w2 ⟨rfl, rfl⟩
    have hk4 := pickN_lt ((c : Int) / 5) 4 (by decide)
    generalize hke : pickN ((c : Int) / 5) 4 = k4 at *
    have HKE := hide hke
    clear hke
    obtain ⟨m, rfl⟩ : ∃ m', m = m' + 1 := ⟨m - 1, by omega⟩
    by_cases h40 : k4 = 0
    ·subst h40
     go_wp2_with fail
     refine (IH.out m (by omega) (i + 1) _ _ X (by exact HU.out.later B1.out) (by omega) (by have := top_step (m := m) (by omega); omega)).mono ?_
     rintro e w5 ⟨a5, c5, n5, t5, rfl, hs5, hc5, hc5', hz5, hn5, hn5', hb5, he5⟩
     have R5 := hide (R1.out.below hb5 R1.out.lt)
     have B5 := hide (B1.out.trans (hb5.mono B1.out.size))
     have S5 := hide hs5
     have HE5 := hide he5
     clear he5
     have hlt5 : w.heap.size < w5.heap.size := R5.out.lt
     clear hb5 hs5
     have r0 := R5.out.c0
     have r1 := R5.out.c1
     have rf := R5.out.frozen
     go_wp2_with fail
     refine bodyPost_ret (v := .tuple #[.agg #[.string ⟨#[104]⟩, .slice (some ⟨w5.heap.size + 1, 0, none⟩) 1 1], .int .i64 (n5 : Int)]) (by simp [results, Tryz.results12, go_sem, World.cell?_setCell_same, World.cell?_setCell_other, r0, r1, hlt5, World.cell?_alloc_old]) rfl ?_
     exact grow_one B5.out hlt5 S5.out (fun b hb => Nat.lt_of_lt_of_le R1.out.lt hb) hz5 (by omega) (by omega) (by omega) (ok_node (by decide) (by decide) HE5.out)
    ·by_cases h41 : k4 = 1
     ·subst h41
      go_wp2_with fail
      refine (IH.out m (by omega) (i + 1) _ _ X (by exact HU.out.later B1.out) (by omega) (by have := top_step (m := m) (by omega); omega)).mono ?_
      rintro e w5 ⟨a5, c5, n5, t5, rfl, hs5, hc5, hc5', hz5, hn5, hn5', hb5, he5⟩
      have R5 := hide (R1.out.below hb5 R1.out.lt)
      have B5 := hide (B1.out.trans (hb5.mono B1.out.size))
      have S5 := hide hs5
      have HE5 := hide he5
      clear he5
      have hlt5 : w.heap.size < w5.heap.size := R5.out.lt
      clear hb5 hs5
      have r0 := R5.out.c0
      have r1 := R5.out.c1
      have rf := R5.out.frozen
      go_wp2_with fail
      refine bodyPost_ret (v := .tuple #[.agg #[.string ⟨#[107]⟩, .slice (some ⟨w5.heap.size + 1, 0, none⟩) 1 1], .int .i64 (n5 : Int)]) (by simp [results, Tryz.results12, go_sem, World.cell?_setCell_same, World.cell?_setCell_other, r0, r1, hlt5, World.cell?_alloc_old]) rfl ?_
      exact grow_one B5.out hlt5 S5.out (fun b hb => Nat.lt_of_lt_of_le R1.out.lt hb) hz5 (by omega) (by omega) (by omega) (ok_node (by decide) (by decide) HE5.out)
     ·have h42 : 2 ≤ k4 := by omega
      obtain ⟨h, hh, hh2⟩ : ∃ h : Nat, ((m : Int) + 1) / 2 = h ∧ h = (m + 1) / 2 := ⟨(m + 1) / 2, by omega, rfl⟩
      have hth := top_half (m := m) (by omega) hh2
      have HH2 := hide hh2
      have hhb : h < m + 1 ∧ h ≤ 100 := by omega
      clear hh2
      go_wp2_with fail
      refine (IH.out h (by omega) (i + 1) _ _ X (by exact HU.out.later B1.out) (by omega) (by omega)).mono ?_
      rintro e w5 ⟨a5, c5, n5, t5, rfl, hs5, hc5, hc5', hz5, hn5, hn5', hb5, he5⟩
      have R5 := hide (R1.out.below hb5 R1.out.lt)
      have B5 := hide (B1.out.trans (hb5.mono B1.out.size))
      have S5 := hide hs5
      have HE5 := hide he5
      clear he5
      have X5 := hide (Blk.new w5 #[.string t5.name, .slice a5 t5.args.length c5] 27)
      have hlt5 : w.heap.size < w5.heap.size := R5.out.lt
      clear hb5 hs5
      go_wp2_with fail
      refine (IH.out h (by omega) n5 _ _ X (by exact HU.out.later (B5.out.alloc B5.out.size _)) (by omega) (by omega)).mono ?_
      rintro e w6 ⟨a6, c6, n6, t6, rfl, hs6, hc6, hc6', hz6, hn6, hn6', hb6, he6⟩
      have R6 := hide ((R5.out.alloc _).below hb6 (by simp; omega))
      have X6 := hide (X5.out.below hb6 (by simp))
      have B6 := hide ((B5.out.alloc B5.out.size _).trans (hb6.mono (by have := B5.out.size; simp; omega)))
      have S56 := hide ((S5.out.later ((Below.refl w5.heap.size w5).alloc (Nat.le_refl _) _)).later hb6)
      have S6 := hide hs6
      have HE6 := hide he6
      clear he6
      have hlt6 : w5.heap.size < w6.heap.size := X6.out.lt
      clear hb6 hs6
      go_wp2_with fail
      have Y6 := hide (Blk.new w6 #[.string t6.name, .slice a6 t6.args.length c6] 27)
      have x0 : ∀ o, (w6.alloc o).cell? ⟨w5.heap.size, 0, none⟩ = some (.string t5.name) := fun o => (X6.out.alloc o).cell 0
      have x1 : ∀ o, (w6.alloc o).cell? ⟨w5.heap.size, 1, none⟩ = some (.slice a5 t5.args.length c5) := fun o => (X6.out.alloc o).cell 1
      have y0 := Y6.out.cell 0
      have y1 := Y6.out.cell 1
      have r0 := R6.out.c0
      have r1 := R6.out.c1
      have rf := R6.out.frozen
      have HWR : Hid (IntKind.i64.wrap ((c : Int) / 5) = (c : Int) / 5) := wrapI _ ⟨by omega, by omega⟩
      have HPK : Hid (∀ w', Calls Tryz.prog 6 #[.int .i64 (IntKind.i64.wrap ((c : Int) / 5)), .int .i64 4] w' fun e w'' => e = .returned (.int .i64 (k4 : Int)) ∧ w'' = w') := fun w' => by
       have h1 := pick_eq ((c : Int) / 5) 4 (by decide) (by decide) ⟨by omega, by omega⟩ w'
       rw [HKE.out] at h1
       rw [HWR.out]
       exact h1
      have HBIG : Hid (i ≤ n6 ∧ n6 ≤ i + top (m + 1) ∧ sizeL [t5] + sizeL [t6] + 1 ≤ top (m + 1)) := ⟨by omega, by omega, by omega⟩
      have hw0 : IntKind.i64.wrap 0 = 0 := by decide
      have hw1 : IntKind.i64.wrap 1 = 1 := by decide
      have hlt56 : w.heap.size < w6.heap.size := by omega
      have hlt57 : w.heap.size < w6.heap.size + 1 := by omega
      have hlt58 : w.heap.size < w6.heap.size + 1 + 1 := by omega
      have r30 : ∀ o1 o2 o3, (((w6.alloc o1).alloc o2).alloc o3).cell? ⟨w.heap.size, 0, none⟩ = some (.string ⟨#[]⟩) := fun o1 o2 o3 => (((R6.out.alloc o1).alloc o2).alloc o3).cell 0
      have r31 : ∀ o1 o2 o3, (((w6.alloc o1).alloc o2).alloc o3).cell? ⟨w.heap.size, 1, none⟩ = some (.slice none 0 0) := fun o1 o2 o3 => (((R6.out.alloc o1).alloc o2).alloc o3).cell 1
      have r3f : ∀ o1 o2 o3 i, (((w6.alloc o1).alloc o2).alloc o3).frozen? ⟨w.heap.size, i, none⟩ = false := fun o1 o2 o3 => (((R6.out.alloc o1).alloc o2).alloc o3).frozen
      have HZ6 : Hid (∀ b, (w5.alloc (.cells #[.string t5.name, .slice a5 t5.args.length c5] 27)).heap.size ≤ b → w.heap.size < b) := fun b hb => by
       simp at hb
       omega
      obtain rfl | rfl : k4 = 2 ∨ k4 = 3 := by omega
      ·clear hth hhb hh hn6 hn6' hz6 hz5 hn5 hn5' hc5 hc5' hc6 hc6' hi hm hc hr hzl h42 h41 h40 hk4 h1 hk1 h3
       have HS0 : TwoS w5 w6 t5 t6 a5 a6 c5 c6 (w6.alloc (.cells #[.string t6.name, .slice a6 t6.args.length c6] 27)).drew := ⟨X6.out.alloc _, Y6.out⟩
       refine wp_region_held_drew (S := TwoS w5 w6 t5 t6 a5 a6 c5 c6) (by kernel_rfl) HS0 (fun hHeld => ?_)
       refine tkq (v := ?_) 1 rfl ?_ ?_
       rotate_left
       ·intro w' hSw
        go_simp <;> with_reducible rfl
       try simp only [Act.put, sq]
       refine tkq (v := ?_) 2 rfl ?_ ?_
       rotate_left
       ·intro w' hSw
        go_simp <;> with_reducible rfl
       try simp only [Act.put, sq]
       refine tkq (v := ?_) 7 rfl ?_ ?_
       rotate_left
       ·intro w' hSw
        have k0 : w'.cell? ⟨w5.heap.size, 0, none⟩ = some (.string t5.name) := hSw.1.cell 0
        have k1 : w'.cell? ⟨w5.heap.size, 1, none⟩ = some (.slice a5 t5.args.length c5) := hSw.1.cell 1
        go_simp <;> with_reducible rfl
       try simp only [Act.put, sq]
       refine tkq (v := ?_) 8 rfl ?_ ?_
       rotate_left
       ·intro w' hSw
        have k2 : w'.cell? ⟨w6.heap.size, 0, none⟩ = some (.string t6.name) := hSw.2.cell 0
        have k3 : w'.cell? ⟨w6.heap.size, 1, none⟩ = some (.slice a6 t6.args.length c6) := hSw.2.cell 1
        go_simp <;> with_reducible rfl
       try simp only [Act.put, sq]
       refine tkq (v := ?_) 11 rfl ?_ ?_
       rotate_left
       ·intro w' hSw
        go_simp <;> with_reducible rfl
       try simp only [Act.put, sq]
       refine wpAnyH_ready (rs := [0, 3, 9]) (by kernel_rfl) (by simp) ?_
       refine AllReadyH.cons rfl (fun K hK => ?_) (AllReadyH.cons rfl (fun K hK => ?_) (AllReadyH.cons rfl (fun K hK => ?_) AllReadyH.nil))
       ·go_simp
        refine hK.out _ _ (by exact hHeld.alloc _) (fun hHeld => ?_)
        clear hK K
        try simp only [Act.put, sq]
        refine held_mono (S' := TwoF w5 w6 t5 t6 a5 a6 c5 c6 (w6.heap.size + 1)) (fun _ h => h.1) _ _ _ _ ?_
        replace hHeld := two_up (b := w6.heap.size + 1) hHeld (by exact blk_at (w := w6.alloc (.cells #[.string t6.name, .slice a6 t6.args.length c6] 27)) (by simp) _ _)
        refine wpAnyH_ready (rs := [3, 9]) (by kernel_rfl) (by simp) ?_
        refine AllReadyH.cons rfl (fun K hK => ?_) (AllReadyH.cons rfl (fun K hK => ?_) AllReadyH.nil)
        ·go_simp
         go_at_call 6
         refine (HPK.out _).mono ?_
         rintro e w7 ⟨rfl, rfl⟩
         go_simp
         refine hK.out _ _ (by exact hHeld) (fun hHeld => ?_)
         clear hK K
         try simp only [Act.put, sq]
         refine tkq (v := ?_) 4 rfl ?_ ?_
         rotate_left
         ·intro w' hSw
          go_simp <;> with_reducible rfl
         try simp only [Act.put, sq]
         refine tkq (v := ?_) 5 rfl ?_ ?_
         rotate_left
         ·intro w' hSw
          go_simp <;> with_reducible rfl
         try simp only [Act.put, sq]
         refine tkq (v := ?_) 6 rfl ?_ ?_
         rotate_left
         ·intro w' hSw
          have k4 : w'.cell? ⟨w6.heap.size + 1, 0, none⟩ = some (.string ⟨#[102]⟩) := hSw.2.cell 0
          have k5 : w'.cell? ⟨w6.heap.size + 1, 1, none⟩ = some (.string ⟨#[103]⟩) := hSw.2.cell 1
          go_simp <;> with_reducible rfl
         try simp only [Act.put, sq]
         refine rdq 9 rfl fun K hK => ?_
         ·go_simp
          refine hK.out _ _ (by exact hHeld.alloc _) (fun hHeld => ?_)
          clear hK K
          try simp only [Act.put, sq]
          refine tkq (v := ?_) 10 rfl ?_ ?_
          rotate_left
          ·intro w' hSw
           go_simp <;> with_reducible rfl
          try simp only [Act.put, sq]
          refine rdq 12 rfl fun K hK => ?_
          ·go_simp
           refine hK.out _ _ (by exact two_endA _ _ _ X6.out (Nat.ne_of_gt hlt5)) (fun hHeld => ?_)
           clear hK K
           try simp only [Act.put, sq]
           refine tkq (v := ?_) 13 rfl ?_ ?_
           rotate_left
           ·intro w' hSw
            go_simp <;> with_reducible rfl
           try simp only [Act.put, sq]
           refine wpAnyH_done (by kernel_rfl) ?_ _
           go_wp2_with fail
           refine bodyPost_ret (v := .tuple #[.agg #[.string ⟨#[102]⟩, .slice (some ⟨w6.heap.size + 1 + 1, 0, none⟩) 2 2], .int .i64 (n6 : Int)]) (by simp [results, Tryz.results12, go_sem, World.cell?_setCell_same, World.cell?_setCell_other, r0, r1, hlt56, hlt57, hlt58, World.cell?_alloc_old]) rfl ?_
           exact grow_two B6.out hlt56 S56.out S6.out (fun b hb => Nat.lt_of_lt_of_le R1.out.lt hb) HZ6.out HBIG.out (ok_node (by decide) (by decide) (ok_two HE5.out HE6.out)) (by omega) (by exact blk_at (by simp [World.setCell]) _ _)
        ·go_simp
         refine hK.out _ _ (by exact hHeld.alloc _) (fun hHeld => ?_)
         clear hK K
         try simp only [Act.put, sq]
         refine rdq 3 rfl fun K hK => ?_
         ·go_simp
          go_at_call 6
          refine (HPK.out _).mono ?_
          rintro e w7 ⟨rfl, rfl⟩
          go_simp
          refine hK.out _ _ (by exact hHeld) (fun hHeld => ?_)
          clear hK K
          try simp only [Act.put, sq]
          refine tkq (v := ?_) 4 rfl ?_ ?_
          rotate_left
          ·intro w' hSw
           go_simp <;> with_reducible rfl
          try simp only [Act.put, sq]
          refine tkq (v := ?_) 5 rfl ?_ ?_
          rotate_left
          ·intro w' hSw
           go_simp <;> with_reducible rfl
          try simp only [Act.put, sq]
          refine tkq (v := ?_) 6 rfl ?_ ?_
          rotate_left
          ·intro w' hSw
           have k4 : w'.cell? ⟨w6.heap.size + 1, 0, none⟩ = some (.string ⟨#[102]⟩) := hSw.2.cell 0
           have k5 : w'.cell? ⟨w6.heap.size + 1, 1, none⟩ = some (.string ⟨#[103]⟩) := hSw.2.cell 1
           go_simp <;> with_reducible rfl
          try simp only [Act.put, sq]
          refine tkq (v := ?_) 10 rfl ?_ ?_
          rotate_left
          ·intro w' hSw
           go_simp <;> with_reducible rfl
          try simp only [Act.put, sq]
          refine rdq 12 rfl fun K hK => ?_
          ·go_simp
           refine hK.out _ _ (by exact two_endA _ _ _ X6.out (Nat.ne_of_gt hlt5)) (fun hHeld => ?_)
           clear hK K
           try simp only [Act.put, sq]
           refine tkq (v := ?_) 13 rfl ?_ ?_
           rotate_left
           ·intro w' hSw
            go_simp <;> with_reducible rfl
           try simp only [Act.put, sq]
           refine wpAnyH_done (by kernel_rfl) ?_ _
           go_wp2_with fail
           refine bodyPost_ret (v := .tuple #[.agg #[.string ⟨#[102]⟩, .slice (some ⟨w6.heap.size + 1 + 1, 0, none⟩) 2 2], .int .i64 (n6 : Int)]) (by simp [results, Tryz.results12, go_sem, World.cell?_setCell_same, World.cell?_setCell_other, r0, r1, hlt56, hlt57, hlt58, World.cell?_alloc_old]) rfl ?_
           exact grow_two B6.out hlt56 S56.out S6.out (fun b hb => Nat.lt_of_lt_of_le R1.out.lt hb) HZ6.out HBIG.out (ok_node (by decide) (by decide) (ok_two HE5.out HE6.out)) (by omega) (by exact blk_at (by simp [World.setCell]) _ _)
       ·go_simp
        go_at_call 6
        refine (HPK.out _).mono ?_
        rintro e w7 ⟨rfl, rfl⟩
        go_simp
        refine hK.out _ _ (by exact hHeld) (fun hHeld => ?_)
        clear hK K
        try simp only [Act.put, sq]
        refine tkq (v := ?_) 4 rfl ?_ ?_
        rotate_left
        ·intro w' hSw
         go_simp <;> with_reducible rfl
        try simp only [Act.put, sq]
        refine wpAnyH_ready (rs := [0, 9]) (by kernel_rfl) (by simp) ?_
        refine AllReadyH.cons rfl (fun K hK => ?_) (AllReadyH.cons rfl (fun K hK => ?_) AllReadyH.nil)
        ·go_simp
         refine hK.out _ _ (by exact hHeld.alloc _) (fun hHeld => ?_)
         clear hK K
         try simp only [Act.put, sq]
         refine held_mono (S' := TwoF w5 w6 t5 t6 a5 a6 c5 c6 (w6.heap.size + 1)) (fun _ h => h.1) _ _ _ _ ?_
         replace hHeld := two_up (b := w6.heap.size + 1) hHeld (by exact blk_at (w := w6.alloc (.cells #[.string t6.name, .slice a6 t6.args.length c6] 27)) (by simp) _ _)
         refine tkq (v := ?_) 5 rfl ?_ ?_
         rotate_left
         ·intro w' hSw
          go_simp <;> with_reducible rfl
         try simp only [Act.put, sq]
         refine tkq (v := ?_) 6 rfl ?_ ?_
         rotate_left
         ·intro w' hSw
          have k4 : w'.cell? ⟨w6.heap.size + 1, 0, none⟩ = some (.string ⟨#[102]⟩) := hSw.2.cell 0
          have k5 : w'.cell? ⟨w6.heap.size + 1, 1, none⟩ = some (.string ⟨#[103]⟩) := hSw.2.cell 1
          go_simp <;> with_reducible rfl
         try simp only [Act.put, sq]
         refine rdq 9 rfl fun K hK => ?_
         ·go_simp
          refine hK.out _ _ (by exact hHeld.alloc _) (fun hHeld => ?_)
          clear hK K
          try simp only [Act.put, sq]
          refine tkq (v := ?_) 10 rfl ?_ ?_
          rotate_left
          ·intro w' hSw
           go_simp <;> with_reducible rfl
          try simp only [Act.put, sq]
          refine rdq 12 rfl fun K hK => ?_
          ·go_simp
           refine hK.out _ _ (by exact two_endA _ _ _ X6.out (Nat.ne_of_gt hlt5)) (fun hHeld => ?_)
           clear hK K
           try simp only [Act.put, sq]
           refine tkq (v := ?_) 13 rfl ?_ ?_
           rotate_left
           ·intro w' hSw
            go_simp <;> with_reducible rfl
           try simp only [Act.put, sq]
           refine wpAnyH_done (by kernel_rfl) ?_ _
           go_wp2_with fail
           refine bodyPost_ret (v := .tuple #[.agg #[.string ⟨#[102]⟩, .slice (some ⟨w6.heap.size + 1 + 1, 0, none⟩) 2 2], .int .i64 (n6 : Int)]) (by simp [results, Tryz.results12, go_sem, World.cell?_setCell_same, World.cell?_setCell_other, r0, r1, hlt56, hlt57, hlt58, World.cell?_alloc_old]) rfl ?_
           exact grow_two B6.out hlt56 S56.out S6.out (fun b hb => Nat.lt_of_lt_of_le R1.out.lt hb) HZ6.out HBIG.out (ok_node (by decide) (by decide) (ok_two HE5.out HE6.out)) (by omega) (by exact blk_at (by simp [World.setCell]) _ _)
        ·go_simp
         refine hK.out _ _ (by exact hHeld.alloc _) (fun hHeld => ?_)
         clear hK K
         try simp only [Act.put, sq]
         refine rdq 0 rfl fun K hK => ?_
         ·go_simp
          refine hK.out _ _ (by exact hHeld.alloc _) (fun hHeld => ?_)
          clear hK K
          try simp only [Act.put, sq]
          refine held_mono (S' := TwoF w5 w6 t5 t6 a5 a6 c5 c6 (w6.heap.size + 1 + 1)) (fun _ h => h.1) _ _ _ _ ?_
          replace hHeld := two_up (b := w6.heap.size + 1 + 1) hHeld (by exact blk_at (w := (w6.alloc (.cells #[.string t6.name, .slice a6 t6.args.length c6] 27)).alloc (.cells #[.string t5.name, .slice a5 t5.args.length c5, .string t6.name, .slice a6 t6.args.length c6] 27)) (by simp) _ _)
          refine tkq (v := ?_) 5 rfl ?_ ?_
          rotate_left
          ·intro w' hSw
           go_simp <;> with_reducible rfl
          try simp only [Act.put, sq]
          refine tkq (v := ?_) 6 rfl ?_ ?_
          rotate_left
          ·intro w' hSw
           have k4 : w'.cell? ⟨w6.heap.size + 1 + 1, 0, none⟩ = some (.string ⟨#[102]⟩) := hSw.2.cell 0
           have k5 : w'.cell? ⟨w6.heap.size + 1 + 1, 1, none⟩ = some (.string ⟨#[103]⟩) := hSw.2.cell 1
           go_simp <;> with_reducible rfl
          try simp only [Act.put, sq]
          refine tkq (v := ?_) 10 rfl ?_ ?_
          rotate_left
          ·intro w' hSw
           go_simp <;> with_reducible rfl
          try simp only [Act.put, sq]
          refine rdq 12 rfl fun K hK => ?_
          ·go_simp
           refine hK.out _ _ (by exact two_endB _ _ _ X6.out (Nat.ne_of_gt hlt5)) (fun hHeld => ?_)
           clear hK K
           try simp only [Act.put, sq]
           refine tkq (v := ?_) 13 rfl ?_ ?_
           rotate_left
           ·intro w' hSw
            go_simp <;> with_reducible rfl
           try simp only [Act.put, sq]
           refine wpAnyH_done (by kernel_rfl) ?_ _
           go_wp2_with fail
           refine bodyPost_ret (v := .tuple #[.agg #[.string ⟨#[102]⟩, .slice (some ⟨w6.heap.size + 1, 0, none⟩) 2 2], .int .i64 (n6 : Int)]) (by simp [results, Tryz.results12, go_sem, World.cell?_setCell_same, World.cell?_setCell_other, r0, r1, hlt56, hlt57, hlt58, World.cell?_alloc_old]) rfl ?_
           exact grow_two B6.out hlt56 S56.out S6.out (fun b hb => Nat.lt_of_lt_of_le R1.out.lt hb) HZ6.out HBIG.out (ok_node (by decide) (by decide) (ok_two HE5.out HE6.out)) (by omega) (by exact (blk_at (by simp [World.setCell]) _ _).alloc _)
       ·go_simp
        refine hK.out _ _ (by exact hHeld.alloc _) (fun hHeld => ?_)
        clear hK K
        try simp only [Act.put, sq]
        refine wpAnyH_ready (rs := [0, 3]) (by kernel_rfl) (by simp) ?_
        refine AllReadyH.cons rfl (fun K hK => ?_) (AllReadyH.cons rfl (fun K hK => ?_) AllReadyH.nil)
        ·go_simp
         refine hK.out _ _ (by exact hHeld.alloc _) (fun hHeld => ?_)
         clear hK K
         try simp only [Act.put, sq]
         refine held_mono (S' := TwoF w5 w6 t5 t6 a5 a6 c5 c6 (w6.heap.size + 1 + 1)) (fun _ h => h.1) _ _ _ _ ?_
         replace hHeld := two_up (b := w6.heap.size + 1 + 1) hHeld (by exact blk_at (w := (w6.alloc (.cells #[.string t6.name, .slice a6 t6.args.length c6] 27)).alloc (.cells #[.string t5.name, .slice a5 t5.args.length c5, .string t6.name, .slice a6 t6.args.length c6] 27)) (by simp) _ _)
         refine rdq 3 rfl fun K hK => ?_
         ·go_simp
          go_at_call 6
          refine (HPK.out _).mono ?_
          rintro e w7 ⟨rfl, rfl⟩
          go_simp
          refine hK.out _ _ (by exact hHeld) (fun hHeld => ?_)
          clear hK K
          try simp only [Act.put, sq]
          refine tkq (v := ?_) 4 rfl ?_ ?_
          rotate_left
          ·intro w' hSw
           go_simp <;> with_reducible rfl
          try simp only [Act.put, sq]
          refine tkq (v := ?_) 5 rfl ?_ ?_
          rotate_left
          ·intro w' hSw
           go_simp <;> with_reducible rfl
          try simp only [Act.put, sq]
          refine tkq (v := ?_) 6 rfl ?_ ?_
          rotate_left
          ·intro w' hSw
           have k4 : w'.cell? ⟨w6.heap.size + 1 + 1, 0, none⟩ = some (.string ⟨#[102]⟩) := hSw.2.cell 0
           have k5 : w'.cell? ⟨w6.heap.size + 1 + 1, 1, none⟩ = some (.string ⟨#[103]⟩) := hSw.2.cell 1
           go_simp <;> with_reducible rfl
          try simp only [Act.put, sq]
          refine tkq (v := ?_) 10 rfl ?_ ?_
          rotate_left
          ·intro w' hSw
           go_simp <;> with_reducible rfl
          try simp only [Act.put, sq]
          refine rdq 12 rfl fun K hK => ?_
          ·go_simp
           refine hK.out _ _ (by exact two_endB _ _ _ X6.out (Nat.ne_of_gt hlt5)) (fun hHeld => ?_)
           clear hK K
           try simp only [Act.put, sq]
           refine tkq (v := ?_) 13 rfl ?_ ?_
           rotate_left
           ·intro w' hSw
            go_simp <;> with_reducible rfl
           try simp only [Act.put, sq]
           refine wpAnyH_done (by kernel_rfl) ?_ _
           go_wp2_with fail
           refine bodyPost_ret (v := .tuple #[.agg #[.string ⟨#[102]⟩, .slice (some ⟨w6.heap.size + 1, 0, none⟩) 2 2], .int .i64 (n6 : Int)]) (by simp [results, Tryz.results12, go_sem, World.cell?_setCell_same, World.cell?_setCell_other, r0, r1, hlt56, hlt57, hlt58, World.cell?_alloc_old]) rfl ?_
           exact grow_two B6.out hlt56 S56.out S6.out (fun b hb => Nat.lt_of_lt_of_le R1.out.lt hb) HZ6.out HBIG.out (ok_node (by decide) (by decide) (ok_two HE5.out HE6.out)) (by omega) (by exact (blk_at (by simp [World.setCell]) _ _).alloc _)
        ·go_simp
         go_at_call 6
         refine (HPK.out _).mono ?_
         rintro e w7 ⟨rfl, rfl⟩
         go_simp
         refine hK.out _ _ (by exact hHeld) (fun hHeld => ?_)
         clear hK K
         try simp only [Act.put, sq]
         refine tkq (v := ?_) 4 rfl ?_ ?_
         rotate_left
         ·intro w' hSw
          go_simp <;> with_reducible rfl
         try simp only [Act.put, sq]
         refine rdq 0 rfl fun K hK => ?_
         ·go_simp
          refine hK.out _ _ (by exact hHeld.alloc _) (fun hHeld => ?_)
          clear hK K
          try simp only [Act.put, sq]
          refine held_mono (S' := TwoF w5 w6 t5 t6 a5 a6 c5 c6 (w6.heap.size + 1 + 1)) (fun _ h => h.1) _ _ _ _ ?_
          replace hHeld := two_up (b := w6.heap.size + 1 + 1) hHeld (by exact blk_at (w := (w6.alloc (.cells #[.string t6.name, .slice a6 t6.args.length c6] 27)).alloc (.cells #[.string t5.name, .slice a5 t5.args.length c5, .string t6.name, .slice a6 t6.args.length c6] 27)) (by simp) _ _)
          refine tkq (v := ?_) 5 rfl ?_ ?_
          rotate_left
          ·intro w' hSw
           go_simp <;> with_reducible rfl
          try simp only [Act.put, sq]
          refine tkq (v := ?_) 6 rfl ?_ ?_
          rotate_left
          ·intro w' hSw
           have k4 : w'.cell? ⟨w6.heap.size + 1 + 1, 0, none⟩ = some (.string ⟨#[102]⟩) := hSw.2.cell 0
           have k5 : w'.cell? ⟨w6.heap.size + 1 + 1, 1, none⟩ = some (.string ⟨#[103]⟩) := hSw.2.cell 1
           go_simp <;> with_reducible rfl
          try simp only [Act.put, sq]
          refine tkq (v := ?_) 10 rfl ?_ ?_
          rotate_left
          ·intro w' hSw
           go_simp <;> with_reducible rfl
          try simp only [Act.put, sq]
          refine rdq 12 rfl fun K hK => ?_
          ·go_simp
           refine hK.out _ _ (by exact two_endB _ _ _ X6.out (Nat.ne_of_gt hlt5)) (fun hHeld => ?_)
           clear hK K
           try simp only [Act.put, sq]
           refine tkq (v := ?_) 13 rfl ?_ ?_
           rotate_left
           ·intro w' hSw
            go_simp <;> with_reducible rfl
           try simp only [Act.put, sq]
           refine wpAnyH_done (by kernel_rfl) ?_ _
           go_wp2_with fail
           refine bodyPost_ret (v := .tuple #[.agg #[.string ⟨#[102]⟩, .slice (some ⟨w6.heap.size + 1, 0, none⟩) 2 2], .int .i64 (n6 : Int)]) (by simp [results, Tryz.results12, go_sem, World.cell?_setCell_same, World.cell?_setCell_other, r0, r1, hlt56, hlt57, hlt58, World.cell?_alloc_old]) rfl ?_
           exact grow_two B6.out hlt56 S56.out S6.out (fun b hb => Nat.lt_of_lt_of_le R1.out.lt hb) HZ6.out HBIG.out (ok_node (by decide) (by decide) (ok_two HE5.out HE6.out)) (by omega) (by exact (blk_at (by simp [World.setCell]) _ _).alloc _)
      ·clear hth hhb hh hn6 hn6' hz6 hz5 hn5 hn5' hc5 hc5' hc6 hc6' hi hm hc hr hzl h42 h41 h40 hk4 h1 hk1 h3
       have HS0 : TwoS w5 w6 t5 t6 a5 a6 c5 c6 (w6.alloc (.cells #[.string t6.name, .slice a6 t6.args.length c6] 27)).drew := ⟨X6.out.alloc _, Y6.out⟩
       refine wp_region_held_drew (S := TwoS w5 w6 t5 t6 a5 a6 c5 c6) (by kernel_rfl) HS0 (fun hHeld => ?_)
       refine tkq (v := ?_) 1 rfl ?_ ?_
       rotate_left
       ·intro w' hSw
        go_simp <;> with_reducible rfl
       try simp only [Act.put, sq]
       refine tkq (v := ?_) 2 rfl ?_ ?_
       rotate_left
       ·intro w' hSw
        go_simp <;> with_reducible rfl
       try simp only [Act.put, sq]
       refine tkq (v := ?_) 7 rfl ?_ ?_
       rotate_left
       ·intro w' hSw
        have k0 : w'.cell? ⟨w5.heap.size, 0, none⟩ = some (.string t5.name) := hSw.1.cell 0
        have k1 : w'.cell? ⟨w5.heap.size, 1, none⟩ = some (.slice a5 t5.args.length c5) := hSw.1.cell 1
        go_simp <;> with_reducible rfl
       try simp only [Act.put, sq]
       refine tkq (v := ?_) 8 rfl ?_ ?_
       rotate_left
       ·intro w' hSw
        have k2 : w'.cell? ⟨w6.heap.size, 0, none⟩ = some (.string t6.name) := hSw.2.cell 0
        have k3 : w'.cell? ⟨w6.heap.size, 1, none⟩ = some (.slice a6 t6.args.length c6) := hSw.2.cell 1
        go_simp <;> with_reducible rfl
       try simp only [Act.put, sq]
       refine tkq (v := ?_) 11 rfl ?_ ?_
       rotate_left
       ·intro w' hSw
        go_simp <;> with_reducible rfl
       try simp only [Act.put, sq]
       refine wpAnyH_ready (rs := [0, 3, 9]) (by kernel_rfl) (by simp) ?_
       refine AllReadyH.cons rfl (fun K hK => ?_) (AllReadyH.cons rfl (fun K hK => ?_) (AllReadyH.cons rfl (fun K hK => ?_) AllReadyH.nil))
       ·go_simp
        refine hK.out _ _ (by exact hHeld.alloc _) (fun hHeld => ?_)
        clear hK K
        try simp only [Act.put, sq]
        refine held_mono (S' := TwoF w5 w6 t5 t6 a5 a6 c5 c6 (w6.heap.size + 1)) (fun _ h => h.1) _ _ _ _ ?_
        replace hHeld := two_up (b := w6.heap.size + 1) hHeld (by exact blk_at (w := w6.alloc (.cells #[.string t6.name, .slice a6 t6.args.length c6] 27)) (by simp) _ _)
        refine wpAnyH_ready (rs := [3, 9]) (by kernel_rfl) (by simp) ?_
        refine AllReadyH.cons rfl (fun K hK => ?_) (AllReadyH.cons rfl (fun K hK => ?_) AllReadyH.nil)
        ·go_simp
         go_at_call 6
         refine (HPK.out _).mono ?_
         rintro e w7 ⟨rfl, rfl⟩
         go_simp
         refine hK.out _ _ (by exact hHeld) (fun hHeld => ?_)
         clear hK K
         try simp only [Act.put, sq]
         refine tkq (v := ?_) 4 rfl ?_ ?_
         rotate_left
         ·intro w' hSw
          go_simp <;> with_reducible rfl
         try simp only [Act.put, sq]
         refine tkq (v := ?_) 5 rfl ?_ ?_
         rotate_left
         ·intro w' hSw
          go_simp <;> with_reducible rfl
         try simp only [Act.put, sq]
         refine tkq (v := ?_) 6 rfl ?_ ?_
         rotate_left
         ·intro w' hSw
          have k4 : w'.cell? ⟨w6.heap.size + 1, 0, none⟩ = some (.string ⟨#[102]⟩) := hSw.2.cell 0
          have k5 : w'.cell? ⟨w6.heap.size + 1, 1, none⟩ = some (.string ⟨#[103]⟩) := hSw.2.cell 1
          go_simp <;> with_reducible rfl
         try simp only [Act.put, sq]
         refine rdq 9 rfl fun K hK => ?_
         ·go_simp
          refine hK.out _ _ (by exact hHeld.alloc _) (fun hHeld => ?_)
          clear hK K
          try simp only [Act.put, sq]
          refine tkq (v := ?_) 10 rfl ?_ ?_
          rotate_left
          ·intro w' hSw
           go_simp <;> with_reducible rfl
          try simp only [Act.put, sq]
          refine rdq 12 rfl fun K hK => ?_
          ·go_simp
           refine hK.out _ _ (by exact two_endA _ _ _ X6.out (Nat.ne_of_gt hlt5)) (fun hHeld => ?_)
           clear hK K
           try simp only [Act.put, sq]
           refine tkq (v := ?_) 13 rfl ?_ ?_
           rotate_left
           ·intro w' hSw
            go_simp <;> with_reducible rfl
           try simp only [Act.put, sq]
           refine wpAnyH_done (by kernel_rfl) ?_ _
           go_wp2_with fail
           refine bodyPost_ret (v := .tuple #[.agg #[.string ⟨#[103]⟩, .slice (some ⟨w6.heap.size + 1 + 1, 0, none⟩) 2 2], .int .i64 (n6 : Int)]) (by simp [results, Tryz.results12, go_sem, World.cell?_setCell_same, World.cell?_setCell_other, r0, r1, hlt56, hlt57, hlt58, World.cell?_alloc_old]) rfl ?_
           exact grow_two B6.out hlt56 S56.out S6.out (fun b hb => Nat.lt_of_lt_of_le R1.out.lt hb) HZ6.out HBIG.out (ok_node (by decide) (by decide) (ok_two HE5.out HE6.out)) (by omega) (by exact blk_at (by simp [World.setCell]) _ _)
        ·go_simp
         refine hK.out _ _ (by exact hHeld.alloc _) (fun hHeld => ?_)
         clear hK K
         try simp only [Act.put, sq]
         refine rdq 3 rfl fun K hK => ?_
         ·go_simp
          go_at_call 6
          refine (HPK.out _).mono ?_
          rintro e w7 ⟨rfl, rfl⟩
          go_simp
          refine hK.out _ _ (by exact hHeld) (fun hHeld => ?_)
          clear hK K
          try simp only [Act.put, sq]
          refine tkq (v := ?_) 4 rfl ?_ ?_
          rotate_left
          ·intro w' hSw
           go_simp <;> with_reducible rfl
          try simp only [Act.put, sq]
          refine tkq (v := ?_) 5 rfl ?_ ?_
          rotate_left
          ·intro w' hSw
           go_simp <;> with_reducible rfl
          try simp only [Act.put, sq]
          refine tkq (v := ?_) 6 rfl ?_ ?_
          rotate_left
          ·intro w' hSw
           have k4 : w'.cell? ⟨w6.heap.size + 1, 0, none⟩ = some (.string ⟨#[102]⟩) := hSw.2.cell 0
           have k5 : w'.cell? ⟨w6.heap.size + 1, 1, none⟩ = some (.string ⟨#[103]⟩) := hSw.2.cell 1
           go_simp <;> with_reducible rfl
          try simp only [Act.put, sq]
          refine tkq (v := ?_) 10 rfl ?_ ?_
          rotate_left
          ·intro w' hSw
           go_simp <;> with_reducible rfl
          try simp only [Act.put, sq]
          refine rdq 12 rfl fun K hK => ?_
          ·go_simp
           refine hK.out _ _ (by exact two_endA _ _ _ X6.out (Nat.ne_of_gt hlt5)) (fun hHeld => ?_)
           clear hK K
           try simp only [Act.put, sq]
           refine tkq (v := ?_) 13 rfl ?_ ?_
           rotate_left
           ·intro w' hSw
            go_simp <;> with_reducible rfl
           try simp only [Act.put, sq]
           refine wpAnyH_done (by kernel_rfl) ?_ _
           go_wp2_with fail
           refine bodyPost_ret (v := .tuple #[.agg #[.string ⟨#[103]⟩, .slice (some ⟨w6.heap.size + 1 + 1, 0, none⟩) 2 2], .int .i64 (n6 : Int)]) (by simp [results, Tryz.results12, go_sem, World.cell?_setCell_same, World.cell?_setCell_other, r0, r1, hlt56, hlt57, hlt58, World.cell?_alloc_old]) rfl ?_
           exact grow_two B6.out hlt56 S56.out S6.out (fun b hb => Nat.lt_of_lt_of_le R1.out.lt hb) HZ6.out HBIG.out (ok_node (by decide) (by decide) (ok_two HE5.out HE6.out)) (by omega) (by exact blk_at (by simp [World.setCell]) _ _)
       ·go_simp
        go_at_call 6
        refine (HPK.out _).mono ?_
        rintro e w7 ⟨rfl, rfl⟩
        go_simp
        refine hK.out _ _ (by exact hHeld) (fun hHeld => ?_)
        clear hK K
        try simp only [Act.put, sq]
        refine tkq (v := ?_) 4 rfl ?_ ?_
        rotate_left
        ·intro w' hSw
         go_simp <;> with_reducible rfl
        try simp only [Act.put, sq]
        refine wpAnyH_ready (rs := [0, 9]) (by kernel_rfl) (by simp) ?_
        refine AllReadyH.cons rfl (fun K hK => ?_) (AllReadyH.cons rfl (fun K hK => ?_) AllReadyH.nil)
        ·go_simp
         refine hK.out _ _ (by exact hHeld.alloc _) (fun hHeld => ?_)
         clear hK K
         try simp only [Act.put, sq]
         refine held_mono (S' := TwoF w5 w6 t5 t6 a5 a6 c5 c6 (w6.heap.size + 1)) (fun _ h => h.1) _ _ _ _ ?_
         replace hHeld := two_up (b := w6.heap.size + 1) hHeld (by exact blk_at (w := w6.alloc (.cells #[.string t6.name, .slice a6 t6.args.length c6] 27)) (by simp) _ _)
         refine tkq (v := ?_) 5 rfl ?_ ?_
         rotate_left
         ·intro w' hSw
          go_simp <;> with_reducible rfl
         try simp only [Act.put, sq]
         refine tkq (v := ?_) 6 rfl ?_ ?_
         rotate_left
         ·intro w' hSw
          have k4 : w'.cell? ⟨w6.heap.size + 1, 0, none⟩ = some (.string ⟨#[102]⟩) := hSw.2.cell 0
          have k5 : w'.cell? ⟨w6.heap.size + 1, 1, none⟩ = some (.string ⟨#[103]⟩) := hSw.2.cell 1
          go_simp <;> with_reducible rfl
         try simp only [Act.put, sq]
         refine rdq 9 rfl fun K hK => ?_
         ·go_simp
          refine hK.out _ _ (by exact hHeld.alloc _) (fun hHeld => ?_)
          clear hK K
          try simp only [Act.put, sq]
          refine tkq (v := ?_) 10 rfl ?_ ?_
          rotate_left
          ·intro w' hSw
           go_simp <;> with_reducible rfl
          try simp only [Act.put, sq]
          refine rdq 12 rfl fun K hK => ?_
          ·go_simp
           refine hK.out _ _ (by exact two_endA _ _ _ X6.out (Nat.ne_of_gt hlt5)) (fun hHeld => ?_)
           clear hK K
           try simp only [Act.put, sq]
           refine tkq (v := ?_) 13 rfl ?_ ?_
           rotate_left
           ·intro w' hSw
            go_simp <;> with_reducible rfl
           try simp only [Act.put, sq]
           refine wpAnyH_done (by kernel_rfl) ?_ _
           go_wp2_with fail
           refine bodyPost_ret (v := .tuple #[.agg #[.string ⟨#[103]⟩, .slice (some ⟨w6.heap.size + 1 + 1, 0, none⟩) 2 2], .int .i64 (n6 : Int)]) (by simp [results, Tryz.results12, go_sem, World.cell?_setCell_same, World.cell?_setCell_other, r0, r1, hlt56, hlt57, hlt58, World.cell?_alloc_old]) rfl ?_
           exact grow_two B6.out hlt56 S56.out S6.out (fun b hb => Nat.lt_of_lt_of_le R1.out.lt hb) HZ6.out HBIG.out (ok_node (by decide) (by decide) (ok_two HE5.out HE6.out)) (by omega) (by exact blk_at (by simp [World.setCell]) _ _)
        ·go_simp
         refine hK.out _ _ (by exact hHeld.alloc _) (fun hHeld => ?_)
         clear hK K
         try simp only [Act.put, sq]
         refine rdq 0 rfl fun K hK => ?_
         ·go_simp
          refine hK.out _ _ (by exact hHeld.alloc _) (fun hHeld => ?_)
          clear hK K
          try simp only [Act.put, sq]
          refine held_mono (S' := TwoF w5 w6 t5 t6 a5 a6 c5 c6 (w6.heap.size + 1 + 1)) (fun _ h => h.1) _ _ _ _ ?_
          replace hHeld := two_up (b := w6.heap.size + 1 + 1) hHeld (by exact blk_at (w := (w6.alloc (.cells #[.string t6.name, .slice a6 t6.args.length c6] 27)).alloc (.cells #[.string t5.name, .slice a5 t5.args.length c5, .string t6.name, .slice a6 t6.args.length c6] 27)) (by simp) _ _)
          refine tkq (v := ?_) 5 rfl ?_ ?_
          rotate_left
          ·intro w' hSw
           go_simp <;> with_reducible rfl
          try simp only [Act.put, sq]
          refine tkq (v := ?_) 6 rfl ?_ ?_
          rotate_left
          ·intro w' hSw
           have k4 : w'.cell? ⟨w6.heap.size + 1 + 1, 0, none⟩ = some (.string ⟨#[102]⟩) := hSw.2.cell 0
           have k5 : w'.cell? ⟨w6.heap.size + 1 + 1, 1, none⟩ = some (.string ⟨#[103]⟩) := hSw.2.cell 1
           go_simp <;> with_reducible rfl
          try simp only [Act.put, sq]
          refine tkq (v := ?_) 10 rfl ?_ ?_
          rotate_left
          ·intro w' hSw
           go_simp <;> with_reducible rfl
          try simp only [Act.put, sq]
          refine rdq 12 rfl fun K hK => ?_
          ·go_simp
           refine hK.out _ _ (by exact two_endB _ _ _ X6.out (Nat.ne_of_gt hlt5)) (fun hHeld => ?_)
           clear hK K
           try simp only [Act.put, sq]
           refine tkq (v := ?_) 13 rfl ?_ ?_
           rotate_left
           ·intro w' hSw
            go_simp <;> with_reducible rfl
           try simp only [Act.put, sq]
           refine wpAnyH_done (by kernel_rfl) ?_ _
           go_wp2_with fail
           refine bodyPost_ret (v := .tuple #[.agg #[.string ⟨#[103]⟩, .slice (some ⟨w6.heap.size + 1, 0, none⟩) 2 2], .int .i64 (n6 : Int)]) (by simp [results, Tryz.results12, go_sem, World.cell?_setCell_same, World.cell?_setCell_other, r0, r1, hlt56, hlt57, hlt58, World.cell?_alloc_old]) rfl ?_
           exact grow_two B6.out hlt56 S56.out S6.out (fun b hb => Nat.lt_of_lt_of_le R1.out.lt hb) HZ6.out HBIG.out (ok_node (by decide) (by decide) (ok_two HE5.out HE6.out)) (by omega) (by exact (blk_at (by simp [World.setCell]) _ _).alloc _)
       ·go_simp
        refine hK.out _ _ (by exact hHeld.alloc _) (fun hHeld => ?_)
        clear hK K
        try simp only [Act.put, sq]
        refine wpAnyH_ready (rs := [0, 3]) (by kernel_rfl) (by simp) ?_
        refine AllReadyH.cons rfl (fun K hK => ?_) (AllReadyH.cons rfl (fun K hK => ?_) AllReadyH.nil)
        ·go_simp
         refine hK.out _ _ (by exact hHeld.alloc _) (fun hHeld => ?_)
         clear hK K
         try simp only [Act.put, sq]
         refine held_mono (S' := TwoF w5 w6 t5 t6 a5 a6 c5 c6 (w6.heap.size + 1 + 1)) (fun _ h => h.1) _ _ _ _ ?_
         replace hHeld := two_up (b := w6.heap.size + 1 + 1) hHeld (by exact blk_at (w := (w6.alloc (.cells #[.string t6.name, .slice a6 t6.args.length c6] 27)).alloc (.cells #[.string t5.name, .slice a5 t5.args.length c5, .string t6.name, .slice a6 t6.args.length c6] 27)) (by simp) _ _)
         refine rdq 3 rfl fun K hK => ?_
         ·go_simp
          go_at_call 6
          refine (HPK.out _).mono ?_
          rintro e w7 ⟨rfl, rfl⟩
          go_simp
          refine hK.out _ _ (by exact hHeld) (fun hHeld => ?_)
          clear hK K
          try simp only [Act.put, sq]
          refine tkq (v := ?_) 4 rfl ?_ ?_
          rotate_left
          ·intro w' hSw
           go_simp <;> with_reducible rfl
          try simp only [Act.put, sq]
          refine tkq (v := ?_) 5 rfl ?_ ?_
          rotate_left
          ·intro w' hSw
           go_simp <;> with_reducible rfl
          try simp only [Act.put, sq]
          refine tkq (v := ?_) 6 rfl ?_ ?_
          rotate_left
          ·intro w' hSw
           have k4 : w'.cell? ⟨w6.heap.size + 1 + 1, 0, none⟩ = some (.string ⟨#[102]⟩) := hSw.2.cell 0
           have k5 : w'.cell? ⟨w6.heap.size + 1 + 1, 1, none⟩ = some (.string ⟨#[103]⟩) := hSw.2.cell 1
           go_simp <;> with_reducible rfl
          try simp only [Act.put, sq]
          refine tkq (v := ?_) 10 rfl ?_ ?_
          rotate_left
          ·intro w' hSw
           go_simp <;> with_reducible rfl
          try simp only [Act.put, sq]
          refine rdq 12 rfl fun K hK => ?_
          ·go_simp
           refine hK.out _ _ (by exact two_endB _ _ _ X6.out (Nat.ne_of_gt hlt5)) (fun hHeld => ?_)
           clear hK K
           try simp only [Act.put, sq]
           refine tkq (v := ?_) 13 rfl ?_ ?_
           rotate_left
           ·intro w' hSw
            go_simp <;> with_reducible rfl
           try simp only [Act.put, sq]
           refine wpAnyH_done (by kernel_rfl) ?_ _
           go_wp2_with fail
           refine bodyPost_ret (v := .tuple #[.agg #[.string ⟨#[103]⟩, .slice (some ⟨w6.heap.size + 1, 0, none⟩) 2 2], .int .i64 (n6 : Int)]) (by simp [results, Tryz.results12, go_sem, World.cell?_setCell_same, World.cell?_setCell_other, r0, r1, hlt56, hlt57, hlt58, World.cell?_alloc_old]) rfl ?_
           exact grow_two B6.out hlt56 S56.out S6.out (fun b hb => Nat.lt_of_lt_of_le R1.out.lt hb) HZ6.out HBIG.out (ok_node (by decide) (by decide) (ok_two HE5.out HE6.out)) (by omega) (by exact (blk_at (by simp [World.setCell]) _ _).alloc _)
        ·go_simp
         go_at_call 6
         refine (HPK.out _).mono ?_
         rintro e w7 ⟨rfl, rfl⟩
         go_simp
         refine hK.out _ _ (by exact hHeld) (fun hHeld => ?_)
         clear hK K
         try simp only [Act.put, sq]
         refine tkq (v := ?_) 4 rfl ?_ ?_
         rotate_left
         ·intro w' hSw
          go_simp <;> with_reducible rfl
         try simp only [Act.put, sq]
         refine rdq 0 rfl fun K hK => ?_
         ·go_simp
          refine hK.out _ _ (by exact hHeld.alloc _) (fun hHeld => ?_)
          clear hK K
          try simp only [Act.put, sq]
          refine held_mono (S' := TwoF w5 w6 t5 t6 a5 a6 c5 c6 (w6.heap.size + 1 + 1)) (fun _ h => h.1) _ _ _ _ ?_
          replace hHeld := two_up (b := w6.heap.size + 1 + 1) hHeld (by exact blk_at (w := (w6.alloc (.cells #[.string t6.name, .slice a6 t6.args.length c6] 27)).alloc (.cells #[.string t5.name, .slice a5 t5.args.length c5, .string t6.name, .slice a6 t6.args.length c6] 27)) (by simp) _ _)
          refine tkq (v := ?_) 5 rfl ?_ ?_
          rotate_left
          ·intro w' hSw
           go_simp <;> with_reducible rfl
          try simp only [Act.put, sq]
          refine tkq (v := ?_) 6 rfl ?_ ?_
          rotate_left
          ·intro w' hSw
           have k4 : w'.cell? ⟨w6.heap.size + 1 + 1, 0, none⟩ = some (.string ⟨#[102]⟩) := hSw.2.cell 0
           have k5 : w'.cell? ⟨w6.heap.size + 1 + 1, 1, none⟩ = some (.string ⟨#[103]⟩) := hSw.2.cell 1
           go_simp <;> with_reducible rfl
          try simp only [Act.put, sq]
          refine tkq (v := ?_) 10 rfl ?_ ?_
          rotate_left
          ·intro w' hSw
           go_simp <;> with_reducible rfl
          try simp only [Act.put, sq]
          refine rdq 12 rfl fun K hK => ?_
          ·go_simp
           refine hK.out _ _ (by exact two_endB _ _ _ X6.out (Nat.ne_of_gt hlt5)) (fun hHeld => ?_)
           clear hK K
           try simp only [Act.put, sq]
           refine tkq (v := ?_) 13 rfl ?_ ?_
           rotate_left
           ·intro w' hSw
            go_simp <;> with_reducible rfl
           try simp only [Act.put, sq]
           refine wpAnyH_done (by kernel_rfl) ?_ _
           go_wp2_with fail
           refine bodyPost_ret (v := .tuple #[.agg #[.string ⟨#[103]⟩, .slice (some ⟨w6.heap.size + 1, 0, none⟩) 2 2], .int .i64 (n6 : Int)]) (by simp [results, Tryz.results12, go_sem, World.cell?_setCell_same, World.cell?_setCell_other, r0, r1, hlt56, hlt57, hlt58, World.cell?_alloc_old]) rfl ?_
           exact grow_two B6.out hlt56 S56.out S6.out (fun b hb => Nat.lt_of_lt_of_le R1.out.lt hb) HZ6.out HBIG.out (ok_node (by decide) (by decide) (ok_two HE5.out HE6.out)) (by omega) (by exact (blk_at (by simp [World.setCell]) _ _).alloc _)
end Go.Proofs.YtmkendjmfdaedaaGreat
