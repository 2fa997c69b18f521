import Derived.Test.YtdebiiodhkcnkaaGreatZTopIndexOwn
import Derived.Shelf.GgSortFunc.InsertionK
namespace Go.Proofs.YtdebiiodhkcnkaaGreat
open Go.RowKit Go.Sort Go.Proofs
set_option linter.unusedSimpArgs false
set_option linter.unusedVariables false
theorem flatK_flat3 (cs : List Bc) : (flatK enc3 3 cs.toArray).toList = flat3 cs := by
 apply List.ext_getElem?
 intro t
 by_cases ht : t < cs.length * 3
 ·have h1 : (flatK enc3 3 cs.toArray).toList[t]? = some ((flatK enc3 3 cs.toArray)[t]!) := by
   rw [Array.getElem?_toList, getElem!_pos _ t (by simpa using ht), Array.getElem?_eq_getElem (by simpa using ht)]
  have hi : t / 3 < cs.length := by omega
  rw [h1, get_flatK _ _ _ _ (by simpa using ht)]
  have h2 := flat3_get cs (t / 3) hi (t % 3) (by omega)
  rw [show t / 3 * 3 + t % 3 = t by omega] at h2
  rw [h2, getElem!_pos _ (t / 3) (by simpa using hi)]
  have hm : t % 3 < (enc3 cs.toArray[t / 3]).length := by simp [enc3]; omega
  rw [getElem!_pos _ (t % 3) hm]
  simp
 ·rw [List.getElem?_eq_none (by simp; omega), List.getElem?_eq_none (by rw [flat3_length]; omega)]
theorem holdsK_row {w : World} {g : Nat} {cur : Array Value} {e : TypeId} {cs : List Bc} (hb : w.heap[g]? = some (.cells cur e (0, 0))) (ht : cur.toList.take (cs.length * 3) = flat3 cs) : HoldsK enc3 3 w g 0 cs.toArray := by
 intro j hj
 have hj' : j < cs.length * 3 := by simpa using hj
 refine ⟨?_, by simp [World.frozen?, hb]⟩
 have h1 : (cur.toList.take (cs.length * 3))[j]? = (flatK enc3 3 cs.toArray).toList[j]? := by rw [ht, flatK_flat3]
 rw [List.getElem?_take_of_lt hj'] at h1
 simp only [World.cell?, hb, Nat.zero_add]
 simp only [Option.isSome_none, Bool.false_eq_true, if_false]
 rw [← Array.getElem?_toList, h1, Array.getElem?_toList, Array.getElem?_eq_getElem hj, getElem!_pos _ j hj]
 rfl
theorem heap_sortK {w : World} {g n : Nat} {os : Array Obj} {cur : Array Value} {e : TypeId} {fr : Nat × Nat} (F : Array Value) (hb : w.heap[g]? = some (.cells cur e fr)) :
  (grow (putRow id (Sort.ahead w n) g 0 F) os).heap[g]? = some (.cells (putCells id 0 F cur) e fr) := by
 have hg : g < w.heap.size := (Array.getElem?_eq_some_iff.1 hb).1
 rw [heap_grow_old _ _ (by simpa using hg)]
 simp [putRow, mapBlock, Sort.ahead, Array.getElem?_modify, hb, onCells]
theorem grownBy_sortK {w : World} {g n : Nat} {os : Array Obj} (F : Array Value) : w.grownBy (grow (putRow id (Sort.ahead w n) g 0 F) os) (some g) := by
 refine ⟨rfl, rfl, rfl, by simp, fun k hk hne => ?_⟩
 rw [heap_grow_old _ _ (by simpa using hk)]
 have : g ≠ k := fun e => hne (by rw [e])
 simp [putRow, mapBlock, Sort.ahead, Array.getElem?_modify, this]
theorem take_putK (cur F : Array Value) (h : F.size ≤ cur.size) : (putCells id 0 F cur).toList.take F.size = F.toList := by
 apply List.ext_getElem?
 intro j
 by_cases hj : j < F.size
 ·rw [List.getElem?_take_of_lt hj, Array.getElem?_toList]
  simp [putCells, hj, show j < cur.size by omega]
 ·rw [List.getElem?_take_eq_none (by omega), List.getElem?_eq_none (by simp; omega)]
theorem BRow.sorted {w : World} {N : Nat} {Y : Nat → Prop} {cs : List Bc} {g cap n : Nat} {os : Array Obj} {d : Array Bc} (h : BRow w N Y (.slice (some ⟨g, 0, none⟩) cs.length cap) cs) (hY : ∀ b, Y b → b < N) (hp : d.toList.Perm cs) :
  BRow (sortWorldK enc3 3 w g 0 n d os) N Y (.slice (some ⟨g, 0, none⟩) cs.length cap) d.toList ∧ w.grownBy (sortWorldK enc3 3 w g 0 n d os) (some g) := by
 have hg : w.grownBy (sortWorldK enc3 3 w g 0 n d os) (some g) := grownBy_sortK _
 have hl : d.toList.length = cs.length := hp.length_eq
 refine ⟨⟨?_, fun x hx => ?_⟩, hg⟩
 ·rcases h.own.2 with ⟨e, _⟩ | ⟨g', cap', cur, e, hbase, hb, h1, h2, h3, h4⟩
  ·cases e
  ·simp at e
   obtain ⟨rfl, rfl⟩ := e
   refine ⟨flat3_length _, Or.inr ⟨g, cap, putCells id 0 (flatK enc3 3 d) cur, by rw [hl], hbase, heap_sortK _ hb, by omega, h2, by simp [putCells, h3], ?_⟩⟩
   have e2 := take_putK cur (flatK enc3 3 d) (by have h9 : d.size = cs.length := (by simpa using hl); simp [h3]; omega)
   have e3 := flatK_flat3 d.toList
   rw [Array.toArray_toList] at e3
   rw [e3] at e2
   simpa using e2
 ·have hx' : x ∈ cs := hp.subset hx
  have h1 := (h.row x hx').mono (Y := fun b => (Y b ∨ (N ≤ b ∧ some b ≠ (Value.slice (some ⟨g, 0, none⟩) cs.length cap).ownBlock)) ∧ b < w.heap.size) fun b h1 h2 => ⟨h1, h2⟩
  refine (h1.kept fun b hb => hg.block b hb.2 ?_).mono fun b hb _ => hb.1
  rcases hb.1 with h2 | h2
  ·exact h.ne (hY b h2)
  ·exact h2.2
end Go.Proofs.YtdebiiodhkcnkaaGreat
