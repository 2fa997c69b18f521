import Derived.Test.YtmkendjmfdaedaaGreatZCRewriteMadeOwn
import Derived.Test.YtmkendjmfdaedaaGreatStrL
import Derived.Test.YtmkendjmfdaedaaGreatW175
namespace Go.Proofs.YtmkendjmfdaedaaGreat
open Go.RowKit Go.Sort Go.Shelf
set_option linter.unusedSimpArgs false
set_option linter.unusedVariables false
set_option maxRecDepth 8000
theorem str_bytes (s : ByteArray) : (⟨s.data.toList.toArray⟩ : ByteArray) = s := by cases s; simp
theorem sortS_any (zs : List ByteArray) (g c : Nat) (w : World) (hl : zs.length ≤ 1000000) (hg : g < w.heap.size) (hc : zs.length ≤ c) (hh : ∀ j (h : j < zs.length), w.cell? ⟨g, j, none⟩ = some (.string zs[j]) ∧ w.frozen? ⟨g, j, none⟩ = false) :
  Calls Tryz.prog 56 #[.slice (some ⟨g, 0, none⟩) zs.length c] w fun e w' => e = .returned (.tuple #[]) ∧ ∃ ms : List ByteArray, ms.Perm zs ∧ (ms.Pairwise fun a b => ltB b a = false) ∧ LV Value.string w' (fun _ => True) (.slice (some ⟨g, 0, none⟩) zs.length c) ms ∧ ExQ (fun b => b = g) w w' := by
 obtain ⟨ss, hss⟩ : ∃ ss : List (List UInt8), ss = zs.map fun s => s.data.toList := ⟨_, rfl⟩
 have hsl : ss.length = zs.length := by rw [hss, List.length_map]
 have hH : Holds encStr w g 0 ss.toArray := fun j hj => by
  have hj' : j < zs.length := by simpa [hsl] using hj
  rw [Nat.zero_add]
  refine ⟨?_, (hh j hj').2⟩
  rw [(hh j hj').1]
  simp [hss, hj', encStr]
 have h1 := AnyM.slices_Sort_string Tryz.sortStr g 0 c ss w hH hg (by omega)
 rw [hsl] at h1
 refine h1.mono ?_
 rintro e w' ⟨rfl, n, os, rfl⟩
 have hms := List.mergeSort_perm ss (fun x y => decide (x ≤ y))
 have hpw : (ss.mergeSort (fun x y => decide (x ≤ y))).Pairwise (fun a b => decide (a ≤ b) = true) := List.pairwise_mergeSort (fun a b c h1 h2 => by simp at *; exact List.le_trans h1 h2) (fun a b => by simp; exact List.le_total a b) ss
 have hlen : (ss.mergeSort fun x y => decide (x ≤ y)).length = ss.length := hms.length_eq
 have hb : ∀ b, b < w.heap.size → b ≠ g → (grow (putRow encStr (Sort.ahead w n) g 0 (ss.mergeSort fun x y => decide (x ≤ y)).toArray) os).heap[b]? = w.heap[b]? := fun b hb hne => by
  rw [heap_grow_old _ _ (by rw [size_putRow]; exact hb)]
  simp [putRow, mapBlock, Array.getElem?_modify, Ne.symm hne, Sort.ahead]
 refine ⟨rfl, (ss.mergeSort fun x y => decide (x ≤ y)).map (fun l => ⟨l.toArray⟩), ?_, ?_, ⟨some ⟨g, 0, none⟩, c, by rw [List.length_map, hlen, hsl], ⟨by rw [List.length_map]; omega, by rw [List.length_map]; omega⟩, Or.inr ⟨g, 0, rfl, trivial, fun i hi => ?_⟩⟩, ⟨rfl, rfl, rfl, by simp [Sort.ahead], fun b hb1 hn => hb b hb1 hn⟩⟩
 ·have h2 := hms.map (fun l : List UInt8 => (⟨l.toArray⟩ : ByteArray))
  refine h2.trans ?_
  rw [hss, List.map_map]
  have : (fun l : List UInt8 => (⟨l.toArray⟩ : ByteArray)) ∘ (fun s : ByteArray => s.data.toList) = id := funext fun s => str_bytes s
  rw [this, List.map_id]
 ·rw [List.pairwise_map]
  refine hpw.imp fun {a b} h => ?_
  unfold ltB
  have e1 : (⟨b.toArray⟩ : ByteArray).toList = b := by rw [ByteArray.toList_eq]
  have e2 : (⟨a.toArray⟩ : ByteArray).toList = a := by rw [ByteArray.toList_eq]
  rw [e1, e2, bytesLess_eq]
  have h2 : a ≤ b := by simpa using h
  simpa using h2
 ·rw [cell?_grow _ _ _ (by rw [size_putRow]; exact hg)]
  have hi3 : i < (ss.mergeSort fun x y => decide (x ≤ y)).length := by simpa using hi
  have hi2 : i < ss.length := by omega
  rw [cell?_putRow encStr (Sort.ahead w n) g 0 ss.toArray _ (fun j hj => hH j hj) (by simp) i (by simpa using hi2)]
  simp [List.getElem?_eq_getElem hi3, encStr]
def SofP (rs : List Pr) (x : Tm) (X : Nat → Prop) (w : World) (e : Ending) (w' : World) : Prop :=
 Below w.heap.size w w' ∧ ∃ N v xs, w.heap.size ≤ N ∧ e = .returned (.tuple #[v, .int .i64 0]) ∧ w'.ownsRow N 27 2 v (stAll rs x).length xs ∧ RowT w' (fun b => X b ∨ w.heap.size ≤ b) (stAll rs x) xs
set_option maxHeartbeats 1000000 in
theorem stepsOfP_any (rs : List Pr) (x : Tm) (u : Value) (aa : Option Addr) (ca : Nat) (w : World) (X : Nat → Prop) (hu : QV w X u rs) (hs : Sl w X aa x.args) (hr : rulesE rs = 0) (hm : mayE x = 0) (hsm : ∀ y ∈ stAll rs x, sizeL [y] ≤ 2000) :
  Calls Tryz.prog 55 #[u, .agg #[.string x.name, .slice aa x.args.length ca]] w fun e w' => SofP rs x X w e w' := by
 have HU := hide hu
 have HS := hide hs
 have HR := hide hr
 have HSM := hide hsm
 have hz := may200 hm
 have hrl := rulesE_len hr
 obtain ⟨ua, uc, rfl, hul, _⟩ := hu
 have hB0 : Below w.heap.size w (w.alloc (.cells #[.string x.name, .slice aa x.args.length ca] 27)) := (Below.refl _ _).alloc (Nat.le_refl _) _
 have hT0 := Blk.new w #[.string x.name, .slice aa x.args.length ca] 27
 clear hs hr hsm
 go_enter Tryz.func55, Tryz.ntmps55
 go_wp2_with fail
 generalize w.alloc (.cells #[.string x.name, .slice aa x.args.length ca] 27) = W at *
 refine (check_any x _ _ X ⟨aa, ca, rfl, HS.out.later hB0⟩).mono ?_
 rintro e w1 ⟨rfl, hb1⟩
 rw [hm]
 have HB1 := hide (hB0.trans (hb1.mono hB0.size))
 have T1 := hT0.below hb1 hT0.lt
 have t0 := T1.c0
 have t1 := T1.c1
 clear hb1 hB0 hT0 T1 hm
 go_wp2_with fail
 refine (all_any rs x _ aa ca w1 X (HU.out.later HB1.out) (HS.out.later HB1.out) (by omega) (by omega)).mono ?_
 rintro e w2 ⟨hb2, ⟨hnf, v, xs, rfl, ho, hrw⟩ | ⟨hfl, rfl⟩⟩
 ·rw [outs_all HR.out] at ho hrw
  have HO := hide ho
  have HRW := hide hrw
  have HB2 := hide (HB1.out.trans (hb2.mono HB1.out.size))
  clear hb2 ho hrw hnf
  obtain ⟨va, vc, hv⟩ := own_form HO.out
  subst hv
  go_wp2_with fail
  refine bodyPost_ret (v := .tuple #[.slice va (stAll rs x).length vc, .int .i64 0]) (by simp [results, Tryz.results55, go_sem]) rfl ?_
  refine ⟨HB2.out, w1.heap.size, _, xs, HB1.out.size, rfl, HO.out, HRW.out.imp fun a l h => h.mono fun b hb _ => ?_⟩
  rcases hb with h | h
  ·exact Or.inl h.1
  ·exact Or.inr (by have := HB1.out.size; omega)
 ·obtain ⟨y, hy, hyz⟩ := (fulls_all HR.out).2.1 hfl
  have := HSM.out y hy
  omega
end Go.Proofs.YtmkendjmfdaedaaGreat
