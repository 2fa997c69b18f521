/- Walks: the texts of each class, in order (closure.texts), while its library's sort is a premise. -/
import Derived.Test.YtdmaijmglblccaaGreatDoorKl16
import Derived.Test.YtdmaijmglblccaaGreatDoorShelf
import Derived.Test.YtdmaijmglblccaaGreatDoorZBClosureMadeOwn
import Derived.Test.YtdmaijmglblccaaGreatDoorZClosureMadeOwn
import Derived.BigQuiet
import Derived.Laws.OwnMore
import Derived.Laws.BitsAllLaws
import Derived.Deep.RegionHeld3
import Derived.Deep.DeepCutAuto
import Derived.DeepKeys3
import Derived.WideKeyPair
namespace Go.Proofs.YtdmaijmglblccaaGreatDoor
open Go.RowKit Go.Sort Go.Shelf
set_option linter.unusedSimpArgs false
set_option linter.unusedVariables false
set_option maxRecDepth 8000

theorem str_bytesK (s : ByteArray) : (⟨s.data.toList.toArray⟩ : ByteArray) = s := by cases s; simp
/-- slices.Sort at texts. -/
theorem kSort_any (zs : List ByteArray) (g c : Nat) (w : World) (hl : zs.length ≤ 1000000) (hg : g < w.heap.size) (hc : zs.length ≤ c) (hh : ∀ j (h : j < zs.length), w.cell? ⟨g, j, none⟩ = some (.string zs[j]) ∧ w.frozen? ⟨g, j, none⟩ = false) :
    Calls Tryz.prog 49 #[.slice (some ⟨g, 0, none⟩) zs.length c] w fun e w' => e = .returned (.tuple #[]) ∧ ∃ ms : List ByteArray, ms.Perm zs ∧ (ms.Pairwise fun a b => ltB b a = false) ∧ LV Value.string w' (fun _ => True) (.slice (some ⟨g, 0, none⟩) zs.length c) ms ∧ ExQ (fun b => b = g) w w' := by
  obtain ⟨ss, hss⟩ : ∃ ss : List (List UInt8), ss = zs.map fun s => s.data.toList := ⟨_, rfl⟩
  have hsl : ss.length = zs.length := by rw [hss, List.length_map]
  have hH : Holds encStr w g 0 ss.toArray := fun j hj => by
    have hj' : j < zs.length := by simpa [hsl] using hj
    rw [Nat.zero_add]
    refine ⟨?_, (hh j hj').2⟩
    rw [(hh j hj').1]
    simp [hss, hj', encStr]
  have h1 := AnyM.slices_Sort_string Tryz.laysSlM6_f49 g 0 c ss w hH hg (by omega)
  rw [hsl] at h1
  refine h1.mono ?_
  rintro e w' ⟨rfl, n, os, rfl⟩
  have hms := List.mergeSort_perm ss (fun x y => decide (x ≤ y))
  have hpw : (ss.mergeSort (fun x y => decide (x ≤ y))).Pairwise (fun a b => decide (a ≤ b) = true) := List.pairwise_mergeSort (fun a b c h1 h2 => by simp at *; exact List.le_trans h1 h2) (fun a b => by simp; exact List.le_total a b) ss
  have hlen : (ss.mergeSort fun x y => decide (x ≤ y)).length = ss.length := hms.length_eq
  have hb : ∀ b, b < w.heap.size → b ≠ g → (grow (putRow encStr (Sort.ahead w n) g 0 (ss.mergeSort fun x y => decide (x ≤ y)).toArray) os).heap[b]? = w.heap[b]? := fun b hb hne => by
    rw [heap_grow_old _ _ (by rw [size_putRow]; exact hb)]
    simp [putRow, mapBlock, Array.getElem?_modify, Ne.symm hne, Sort.ahead]
  refine ⟨rfl, (ss.mergeSort fun x y => decide (x ≤ y)).map (fun l => ⟨l.toArray⟩), ?_, ?_, ⟨some ⟨g, 0, none⟩, c, by rw [List.length_map, hlen, hsl], ⟨by rw [List.length_map]; omega, by rw [List.length_map]; omega⟩, Or.inr ⟨g, 0, rfl, trivial, fun i hi => ?_⟩⟩, ⟨rfl, rfl, rfl, by simp [Sort.ahead], fun b hb1 hn => hb b hb1 hn⟩⟩
  · have h2 := hms.map (fun l : List UInt8 => (⟨l.toArray⟩ : ByteArray))
    refine h2.trans ?_
    rw [hss, List.map_map]
    have : (fun l : List UInt8 => (⟨l.toArray⟩ : ByteArray)) ∘ (fun s : ByteArray => s.data.toList) = id := funext fun s => str_bytesK s
    rw [this, List.map_id]
  · rw [List.pairwise_map]
    refine hpw.imp fun {a b} h => ?_
    unfold ltB
    have e1 : (⟨b.toArray⟩ : ByteArray).toList = b := by rw [ByteArray.toList_eq]
    have e2 : (⟨a.toArray⟩ : ByteArray).toList = a := by rw [ByteArray.toList_eq]
    rw [e1, e2, bytesLess_eq]
    have h2 : a ≤ b := by simpa using h
    simpa using h2
  · rw [cell?_grow _ _ _ (by rw [size_putRow]; exact hg)]
    have hi3 : i < (ss.mergeSort fun x y => decide (x ≤ y)).length := by simpa using hi
    have hi2 : i < ss.length := by omega
    rw [cell?_putRow encStr (Sort.ahead w n) g 0 ss.toArray _ (fun j hj => hH j hj) (by simp) i (by simpa using hi2)]
    simp [List.getElem?_eq_getElem hi3, encStr]
theorem Tryz.infoStrs : (Tryz.prog.info? 31).map (fun i => (i.zero, i.size, i.bytes)) = some (some (.slice none 0 0), 1, 24) := by kernel_rfl
/-- One more in a row of one's own. -/
theorem appK_own {N : Nat} {w : World} {TL T by_ : Nat} {z : Value} {v : Value} {xs : List Value} (hT : Tryz.prog.underlying TL = some (.slice T)) (hinfo : (Tryz.prog.info? T).map (fun i => (i.zero, i.size, i.bytes)) = some (some z, 1, by_)) (hz : z.cells.size = 1) (hby : by_ ≤ 100)
    (hv : w.ownsRow N T 1 v xs.length xs) (hN : N ≤ w.heap.size) (hl : xs.length ≤ 1000000) (x : Value) (hx : x.oneCell' = true) :
    ∃ g cap w3, (Builtin.append_ #[TL, TL] TL #[v, .slice (some ⟨w.heap.size, 0, none⟩) 1 1]).run Tryz.prog (w.alloc (.cells #[x] T)) = .ok (.slice (some ⟨g, 0, none⟩) (xs.length + 1) cap) w3 ∧
      w3.ownsRow N T 1 (.slice (some ⟨g, 0, none⟩) (xs ++ [x]).length cap) (xs ++ [x]).length (xs ++ [x]) ∧ (v.ownBlock = some g ∨ w.heap.size ≤ g) ∧ ExQ (fun b => v.ownBlock = some b) w w3 := by
  obtain ⟨i0, hi, hz0, hz1, hz2⟩ := info_parts hinfo
  obtain ⟨g, cap, w3, hr, ho, hg, hat, _⟩ := run_append_lies (P := Tryz.prog) (w := w.alloc (.cells #[x] T)) TL TL N T i0 _ 1 by_ hT hi hz0 hz1 hz2 hz (by decide) v xs.length xs (hv.alloc _) ⟨w.heap.size, 0, none⟩ 1 1 [x] rfl (World.news_of_block (cs := #[x]) (heap_alloc_new w _)) (by simpa using hx) (by omega) (by unfold maxLen; omega) (by have : (xs.length + 1) * by_ ≤ 1000001 * 100 := Nat.mul_le_mul (by omega) hby; omega) (by simp; omega) _ rfl
  have hsz : w.heap.size ≤ w3.heap.size := Nat.le_trans (by simp) hg.size
  refine ⟨g, cap, w3, hr, by simpa using ho, ?_, ⟨hg.os, hg.tape, hg.output, hsz, fun b hb hne => by rw [hg.block b (by simp; omega) (fun e => hne e.symm), Below.heap_alloc _ _ _ hb]⟩⟩
  rcases hat with e | e
  · exact Or.inl e
  · rw [World.size_alloc] at e; exact Or.inr (by omega)
/-- The texts of the classes ahead of c, as far as they hold something. -/
def TxR (k : Kl) : Nat → List (List ByteArray) → Prop
  | 0, rows => rows = []
  | c + 1, rows => (k.M c = [] ∧ TxR k c rows) ∨ (k.M c ≠ [] ∧ ∃ r0 row, rows = r0 ++ [row] ∧ TxR k c r0 ∧ row.Perm ((k.M c).map fun i => txB (k.T i)) ∧ row.Pairwise fun a b => ltB b a = false)
/-- A row's texts that lie elsewhere than in one block. -/
def StG (N : Nat) (w : World) (av : Value) (p : Value × List ByteArray) : Prop := ∃ g c, p.1 = .slice (some ⟨g, 0, none⟩) p.2.length c ∧ N ≤ g ∧ g < w.heap.size ∧ av.ownBlock ≠ some g ∧ p.2.length ≤ 1000000 ∧ ∀ j (h : j < p.2.length), w.cell? ⟨g, j, none⟩ = some (.string p.2[j])
/-- What the library's sort does with rows of texts. -/
def SrtR : Prop := ∀ (ps : List (Value × List ByteArray)) (g c : Nat) (w : World), 0 < ps.length → ps.length ≤ 1000000 → g < w.heap.size → (∀ j (h : j < ps.length), w.cell? ⟨g, j, none⟩ = some ps[j].1 ∧ w.frozen? ⟨g, j, none⟩ = false) → (∀ p ∈ ps, StG 0 w (.slice (some ⟨g, 0, none⟩) ps.length c) p) →
  Calls Tryz.prog 50 #[.slice (some ⟨g, 0, none⟩) ps.length c, .func (.func 51) #[] #[]] w fun e w' => e = .returned (.tuple #[]) ∧ ∃ qs : List (Value × List ByteArray), qs.Perm ps ∧ (qs.Pairwise fun a b => ¬ cmR b.2 a.2 < 0) ∧ (∀ j (h : j < qs.length), w'.cell? ⟨g, j, none⟩ = some qs[j].1) ∧ ExQ (fun b => b = g) w w'
def SrtN : Prop := ∀ (p : Option Addr) (c : Nat) (w : World), Calls Tryz.prog 50 #[.slice p 0 c, .func (.func 51) #[] #[]] w fun e w' => e = .returned (.tuple #[]) ∧ w' = w
/-- While the classes are gone through. -/
def TxI (k : Kl) (w : World) (v i : Value) (wr : World) : Prop :=
  ∃ (c : Nat) (ps : List (Value × List ByteArray)), c ≤ k.mb.length ∧ i = .int .i64 (c : Int) ∧ ps.length ≤ c ∧ TxR k c (ps.map (·.2)) ∧ wr.ownsRow w.heap.size 31 1 v (ps.map (·.1)).length (ps.map (·.1)) ∧ (∀ p ∈ ps, StG w.heap.size wr v p) ∧ Below w.heap.size w wr
/-- While a class's texts are made. -/
def TxJ (k : Kl) (c : Nat) (w1 : World) (v i : Value) (wr : World) : Prop :=
  ∃ (j : Nat), j ≤ (k.M c).length ∧ i = .int .i64 (j : Int) ∧ wr.ownsRow w1.heap.size 9 1 v (((k.M c).take j).map fun i => Value.string (txB (k.T i))).length (((k.M c).take j).map fun i => Value.string (txB (k.T i))) ∧ Below w1.heap.size w1 wr
def TxP (k : Kl) (w : World) (e : Ending) (w' : World) : Prop :=
  Below w.heap.size w w' ∧ ∃ (a : Option Addr) (c : Nat) (ps : List (Value × List ByteArray)) (rows : List (List ByteArray)), e = .returned (.slice a ps.length c) ∧ (ps = [] ∨ ∃ g, a = some ⟨g, 0, none⟩ ∧ ∀ j (h : j < ps.length), w'.cell? ⟨g, j, none⟩ = some ps[j].1) ∧ (∀ p ∈ ps, Stx w' p.1 p.2) ∧ (ps.map (·.2)).Perm rows ∧ TxR k k.mb.length rows ∧ ps.Pairwise fun a b => ¬ cmR b.2 a.2 < 0
end Go.Proofs.YtdmaijmglblccaaGreatDoor
