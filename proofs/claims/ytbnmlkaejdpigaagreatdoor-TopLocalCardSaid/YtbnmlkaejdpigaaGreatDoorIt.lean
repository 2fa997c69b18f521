import Derived.Test.YtbnmlkaejdpigaaGreatDoorZBTopLocalOwn
import Derived.Test.YtbnmlkaejdpigaaGreatDoorKey
import Derived.Test.YtbnmlkaejdpigaaGreatDoorIterL
namespace Go.Proofs.YtbnmlkaejdpigaaGreatDoor
open Go.RowKit Go.Maps Go.Sort Go.Shelf
set_option linter.unusedSimpArgs false
set_option linter.unusedVariables false
set_option maxRecDepth 8000
theorem sortsK (m : Nat) : AnyZ.SortsIn Tryz.prog Tryz.sortedK_ren Fence.wide m :=
 ⟨fun blk off cap ss W hH hblk hsz => callsIn_wide.2 (AnyM.slices_Sort_string Tryz.sortK blk off cap ss W hH hblk hsz),
  fun p cap W => callsIn_wide.2 (AnyM.slices_Sort_string_none Tryz.sortK p cap W)⟩
theorem keysK_any (mb : Option Nat) (W : World) : CallsIn Fence.wide 5 Tryz.prog 106 #[.map mb] W fun e w' => e = .returned (.func (.func 118) #[] #[.pointer (some ⟨W.heap.size, 0, none⟩)]) ∧ w' = W.alloc (.cells #[.map mb] 125) :=
 AnyZ.keys_in Tryz.keysK Fence.wide 5 trivial rfl mb W
set_option maxHeartbeats 1000000 in
theorem sortedK_any {H : Type} (b nn : Nat) (D0 : DataW H) (R : Value → Option (DataW H × List MemPlace)) (w : World) (hown : w.ownsMap Tryz.prog 9 R b nn D0) (hmax : Maps.size D0 ≤ maxLen) (hbytes : Maps.size D0 * 16 ≤ 140737488355328) :
  CallsIn Fence.wide 5 Tryz.prog 105 #[.func (.func 118) #[] #[.pointer (some ⟨w.heap.size, 0, none⟩)]] (w.alloc (.cells #[.map (some b)] 125)) fun e w' => ∃ (v : Value) (ss : List (List UInt8)), e = .returned v ∧ ss.Perm (strKeys D0) ∧
   w'.ownsRow (w.alloc (.cells #[.map (some b)] 125)).heap.size 9 1 v ss.length ((ss.mergeSort (fun x y => decide (x ≤ y))).map encStr) ∧ (v = .slice none 0 0 ↔ ss = []) ∧ Below (w.alloc (.cells #[.map (some b)] 125)).heap.size (w.alloc (.cells #[.map (some b)] 125)) w' := by
 have hbl := hown.lt
 have hseq : SeqGives Fence.wide 2 Tryz.prog 118 #[.pointer (some ⟨w.heap.size, 0, none⟩)] encStr (fun ss => ss.Perm (strKeys D0)) (Maps.size D0) (w.alloc (.cells #[.map (some b)] 125)) :=
  AnyZ.keys_gives (ρ := Tryz.keysK_ren) { Tryz.keysK with } Fence.wide _ trivial rfl (by omega) w.heap.size b nn D0 _ (by simp) (by simp) (by
   obtain ⟨es, clock, hb, Ft, hs, hD⟩ := hown
   exact ⟨es, clock, (Below.heap_alloc _ _ b hbl).trans hb, Ft, hs, hD⟩)
 exact AnyZ.sorted_in Tryz.sortedK Fence.wide 5 trivial trivial trivial trivial rfl (by omega) (sortsK _) (enters_of Tryz.func117 (by kernel_rfl) rfl) 118 #[.pointer (some ⟨w.heap.size, 0, none⟩)] trivial (enters_of Tryz.func118 (by kernel_rfl) rfl) _ _ hmax hbytes _ hseq
theorem sortedKeys : SortedKeys := by
 intro q L w hM hap hsz hlen
 refine ⟨callsIn_wide.1 (keysK_any (some q) w), ?_⟩
 obtain ⟨D0, hown, hkeys, hsize⟩ := ownsMap_of hM hap (fun p hp => by have := hsz p hp; unfold maxLen; omega) (by unfold maxLen; omega)
 refine (callsIn_wide.1 (sortedK_any q L.length D0 rdU w hown (by rw [hsize]; unfold maxLen; omega) (by rw [hsize]; omega))).mono ?_
 rintro e w' ⟨v, ss, rfl, hp, hrow, _, hb⟩
 have hzw : (w.alloc (.cells #[.map (some q)] 125)).heap.size = w.heap.size + 1 := by simp
 rw [hzw] at hrow hb
 have hms := List.mergeSort_perm ss (fun x y => decide (x ≤ y))
 have hpw : (ss.mergeSort (fun x y => decide (x ≤ y))).Pairwise (fun a b => decide (a ≤ b) = true) := List.pairwise_mergeSort (fun a b c h1 h2 => by simp at *; exact List.le_trans h1 h2) (fun a b => by simp; exact List.le_total a b) ss
 generalize ss.mergeSort (fun x y => decide (x ≤ y)) = ms at *
 refine ⟨v, ms.map (fun l => ⟨l.toArray⟩), rfl, ?_, ?_, ?_, hb⟩
 ·have h1 : ms.Perm (L.map (fun p => p.1.data.toList)) := (hms.trans hp).trans hkeys
  have h2 := h1.map (fun l : List UInt8 => (⟨l.toArray⟩ : ByteArray))
  simpa [Function.comp_def] using h2
 ·rw [List.pairwise_map]
  refine hpw.imp fun {a b} h => ?_
  unfold ltB
  have e1 : (⟨b.toArray⟩ : ByteArray).toList = b := by rw [ByteArray.toList_eq]
  have e2 : (⟨a.toArray⟩ : ByteArray).toList = a := by rw [ByteArray.toList_eq]
  rw [e1, e2, bytesLess_eq]
  have h2 : a ≤ b := by simpa using h
  simpa using h2
 ·have h1 := LV.of_own (f := Value.string) (l := ms.map (fun l : List UInt8 => (⟨l.toArray⟩ : ByteArray))) (w := w') (N := w.heap.size + 1) (T := 9) (v := v) (by
   have h2 : ms.length = ss.length := hms.length_eq
   rw [List.length_map, h2, List.map_map]
   exact hrow)
  exact h1
end Go.Proofs.YtbnmlkaejdpigaaGreatDoor
