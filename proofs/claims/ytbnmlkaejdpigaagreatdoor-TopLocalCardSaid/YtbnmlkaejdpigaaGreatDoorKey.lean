import Derived.Test.YtbnmlkaejdpigaaGreatDoorZTopLocalOwn
import Derived.Sort.KeysCollected
import Derived.Sort.Walk0
import Derived.Maps.Range
import Derived.Maps.Own
import Derived.StringKeys
namespace Go.Proofs.YtbnmlkaejdpigaaGreatDoor
open Go.RowKit
set_option linter.unusedSimpArgs false
set_option linter.unusedVariables false
set_option maxRecDepth 8000
def rdU : Value → Option (DataW Unit × List MemPlace) := fun _ => some (.nil, [])
theorem ownsMap_of {w : World} {q : Nat} {L : List (ByteArray × Value)} (h : MapAt w q L) (hap : (L.map (·.1)).Pairwise (· ≠ ·)) (hsz : ∀ p ∈ L, p.1.size ≤ maxLen) (hl : L.length ≤ maxLen) :
  ∃ D0 : DataW Unit, w.ownsMap Tryz.prog 9 rdU q L.length D0 ∧ (strKeys D0).Perm (L.map (fun p => p.1.data.toList)) ∧ Go.Maps.size D0 = L.length := by
 obtain ⟨es, clk, hb, he, hst⟩ := h
 have hlen : es.toList.length = L.length := by have := congrArg List.length he; simpa using this
 have hkey : ∀ i (h1 : i < es.toList.length) (h2 : i < L.length), es.toList[i].key = .string L[i].1 := fun i h1 h2 => by
  have e1 : (es.toList.map (fun e => (e.key, e.val)))[i]? = (L.map (fun p => (Value.string p.1, p.2)))[i]? := by rw [he]
  rw [List.getElem?_map, List.getElem?_map, List.getElem?_eq_getElem h1, List.getElem?_eq_getElem h2] at e1
  simp only [Option.map_some, Option.some.injEq, Prod.mk.injEq] at e1
  exact e1.1
 have hmem : ∀ x ∈ es.toList, ∃ p ∈ L, x.key = .string p.1 := fun x hx => by
  obtain ⟨i, hi, rfl⟩ := List.getElem_of_mem hx
  have h2 : i < L.length := by omega
  exact ⟨L[i], List.getElem_mem h2, hkey i hi h2⟩
 have hrd : ∀ x ∈ es.toList, ∀ s : ByteArray, x.key = .string s → s.size ≤ maxLen → WideElems.rd Tryz.prog 9 rdU x = some (.string s.data.toList, .nil) := fun x hx s hs hz => by
  unfold WideElems.rd rdU
  rw [hs, Go.WideMaps.keyOf_string_mk Tryz.underlying9 hz]
  rfl
 have F : WideElems.Fit Tryz.prog 9 rdU es clk := by
  refine ⟨by rw [← Array.length_toList]; omega, (MapKept.stamped_iff es clk).2 ⟨hst.1, hst.2, ?_⟩, fun x hx => ?_⟩
  ·rw [List.pairwise_iff_getElem]
   intro i j hi hj hij e
   rw [hkey i hi (by omega), hkey j hj (by omega)] at e
   rw [List.pairwise_map, List.pairwise_iff_getElem] at hap
   have := hap i j (by omega) (by omega) hij
   exact this (by simpa using e)
  ·obtain ⟨p, hp, e⟩ := hmem x hx
   exact ⟨_, hrd x hx p.1 e (hsz p hp)⟩
 refine ⟨.map ((es.toList.map (WideElems.rg Tryz.prog 9 rdU)).foldr DataW.insert []), ⟨es, clk, hb, F, by rw [← Array.length_toList]; omega, rfl⟩, ?_, ?_⟩
 ·have h1 : (strKeys (DataW.map ((es.toList.map (WideElems.rg Tryz.prog 9 rdU)).foldr DataW.insert []) : DataW Unit)).Perm ((es.toList.map (WideElems.rg Tryz.prog 9 rdU)).map fun p => strOf p.1) := (WideShapes.sorted_perm _).map _
  refine h1.trans ?_
  have h2 : (es.toList.map (WideElems.rg Tryz.prog 9 rdU)).map (fun p => strOf p.1) = L.map (fun p => p.1.data.toList) := by
   refine List.ext_getElem (by simp; omega) fun i h3 h4 => ?_
   simp only [List.length_map] at h3 h4
   simp only [List.getElem_map]
   unfold WideElems.rg
   rw [hrd _ (List.getElem_mem h3) L[i].1 (hkey i h3 h4) (hsz _ (List.getElem_mem h4))]
   rfl
  rw [h2]
 ·rw [Maps.size_eq, Go.length_sorted]
  simpa using hlen
end Go.Proofs.YtbnmlkaejdpigaaGreatDoor
