import Derived.Test.YtdebiiodhkcnkaaGreatIx13
import Derived.Test.YtdebiiodhkcnkaaGreatIntL
import Derived.Test.YtdebiiodhkcnkaaGreatZTopIndexOwn
import Derived.Sort.Grow
namespace Go.Proofs.YtdebiiodhkcnkaaGreat
open Go.RowKit Go.Sort
set_option linter.unusedSimpArgs false
set_option linter.unusedVariables false
set_option maxRecDepth 8000
def IdxW (w : World) (N X : Nat) (ts : List Tm) : Prop := ∃ y tv Z, NwS N X ts ts w y tv Z
theorem IdxW.later {w w' : World} {N X : Nat} {ts : List Tm} (h : IdxW w N X ts) (hb : Below w.heap.size w w') : IdxW w' N X ts := by
 obtain ⟨y, tv, Z, h⟩ := h
 exact ⟨y, tv, Z, h.later hb⟩
theorem met_reach {k : Nat} (hk : k ≤ 2) {x t : Tm} (hx : mayE x = 0) (ht : mayE t = 0) (h : MetP k x t) : Rch k [t] (wdL [x]) := by
 obtain ⟨zx, ex⟩ := mayE_zero hx
 obtain ⟨zt, et⟩ := mayE_zero ht
 have hcp : CpL k [x] [t] := by
  match k, hk with
  | 0, _ =>
   have h1 : mtB x t = true := h
   unfold mtB at h1
   obtain ⟨g, hg⟩ := Option.isSome_iff_exists.1 h1
   exact cp_over [x] (ts := [t]) (h := []) (h' := g) rfl (by rw [mtL_cons, hg]; simp [mtL])
  | 1, _ =>
   have h1 : mtB t x = true := by simpa [MetP] using h
   unfold mtB at h1
   obtain ⟨g, hg⟩ := Option.isSome_iff_exists.1 h1
   exact cp_under [t] (ts := [x]) (h := []) (h' := g) rfl (by rw [mtL_cons, hg]; simp [mtL])
  | 2, _ =>
   have h1 : UnOk x t := by simpa [MetP] using h
   obtain ⟨g, R, hR, h0⟩ := h1
   have hp := pairsE1 hx ht
   obtain ⟨g', Rf, Rt, hRf, hRt, h8, hs⟩ := two_runs hp
   have e := uRun_det _ _ _ _ _ _ hR hRt
   subst e
   have hg : grtB Rf.2 = false := by
    cases hb : grtB Rf.2 with
    | false => rfl
    | true => have h9 := h8 hb; rw [h0] at h9; cases h9
   have e2 := hs hg
   subst e2
   obtain ⟨_, _, hU, _⟩ := pairs_start hp
   obtain ⟨h', e, gg, _, kk, _⟩ := run_agr g' [] _ R hU hRf
   have ok : OkS R.2 := by rw [e]; exact gg.all
   have hself : Agr R.2 R.2 := fun d hd => by
    rw [onT_some (forT_of ok.1 hd), onT_id (fun e he => ok.2.2 d hd e he)]
   have hun := ((kk h0 R.2 ok.vars).1 hself).2 ⟨x, t⟩ (by simp)
   refine cp_near (σ := R.2) ok.vars [t] (ts := [x]) ?_
   rw [onL_cons, onL_cons]
   have h9 : onT R.2 x = onT R.2 t := hun
   rw [h9]
 exact cp_rch (sizeL [t]) (Nat.le_refl _) ex hcp
def ascI (N : Nat) (met : Nat → Bool) : List Int := ((List.range N).filter met).map fun n : Nat => (n : Int)
theorem range_pw (N : Nat) : (List.range N).Pairwise (· < ·) := by exact List.pairwise_lt_range
theorem asc_sorted {N : Nat} {met : Nat → Bool} {l : List Nat} (h : l.Perm ((List.range N).filter met)) : (l.map fun n : Nat => (n : Int)).mergeSort (fun x y => decide (x ≤ y)) = ascI N met := by
 have h1 : ((l.map fun n : Nat => (n : Int)).mergeSort (fun x y => decide (x ≤ y))).Perm (ascI N met) := (List.mergeSort_perm _ _).trans (h.map _)
 have h2 : ((l.map fun n : Nat => (n : Int)).mergeSort (fun x y => decide (x ≤ y))).Pairwise (fun a b => a ≤ b) := by
  have h3 := List.pairwise_mergeSort (le := fun x y : Int => decide (x ≤ y)) (fun a b c h1 h2 => by simp at *; omega) (fun a b => by simp; omega) (l.map fun n : Nat => (n : Int))
  exact h3.imp (fun h => by simpa using h)
 have h4 : (ascI N met).Pairwise (fun a b => a ≤ b) := by
  unfold ascI
  rw [List.pairwise_map]
  exact ((range_pw N).filter met).imp (fun h => by omega)
 exact h1.eq_of_pairwise (fun a b _ _ h5 h6 => by omega) h2 h4
theorem sortI_any (zs : List Int) (a : Option Addr) (c : Nat) (w : World) (hl : zs.length ≤ 1000000) (h : zs = [] ∨ ∃ g, a = some ⟨g, 0, none⟩ ∧ g < w.heap.size ∧ zs.length ≤ c ∧ ∀ j (h : j < zs.length), w.cell? ⟨g, j, none⟩ = some (.int .i64 zs[j]) ∧ w.frozen? ⟨g, j, none⟩ = false) :
  Calls Tryz.prog 49 #[.slice a zs.length c] w fun e w' => e = .returned (.tuple #[]) ∧ LV (fun z : Int => .int .i64 z) w' (fun _ => True) (.slice a zs.length c) (zs.mergeSort (fun x y => decide (x ≤ y))) ∧ ExQ (fun b => zs ≠ [] ∧ ∃ g, a = some ⟨g, 0, none⟩ ∧ b = g) w w' := by
 by_cases hz : zs = []
 ·subst hz
  refine (AnyM.slices_Sort_int_none Tryz.sortInt a c w).mono ?_
  rintro e w' ⟨rfl, rfl⟩
  exact ⟨rfl, ⟨a, c, by simp, ⟨by simp, by simp⟩, Or.inl (by simp)⟩, ExQ.refl _ _⟩
 ·obtain ⟨g, rfl, hg, hc, hh⟩ := h.resolve_left hz
  have hH : Holds (Value.int .i64) w g 0 zs.toArray := fun j hj => by
   have hj' : j < zs.length := by simpa using hj
   rw [Nat.zero_add]
   refine ⟨?_, (hh j hj').2⟩
   rw [(hh j hj').1]
   simp [hj']
  refine (AnyM.slices_Sort_int Tryz.sortInt g 0 c zs w hH hg (by omega)).mono ?_
  rintro e w' ⟨rfl, n, os, rfl⟩
  have hlen : (zs.mergeSort fun x y => decide (x ≤ y)).length = zs.length := (List.mergeSort_perm _ _).length_eq
  have hb : ∀ b, b < w.heap.size → b ≠ g → (grow (putRow (Value.int .i64) (Sort.ahead w n) g 0 (zs.mergeSort fun x y => decide (x ≤ y)).toArray) os).heap[b]? = w.heap[b]? := fun b hb hne => by
   rw [heap_grow_old _ _ (by rw [size_putRow]; exact hb)]
   simp [putRow, mapBlock, Array.getElem?_modify, Ne.symm hne, Sort.ahead]
  refine ⟨rfl, ⟨some ⟨g, 0, none⟩, c, by rw [hlen], ⟨by omega, by omega⟩, Or.inr ⟨g, 0, rfl, trivial, fun i hi => ?_⟩⟩, ⟨rfl, rfl, rfl, by simp [Sort.ahead], fun b hb1 hn => hb b hb1 fun e => hn ⟨fun e0 => hz e0, g, rfl, e⟩⟩⟩
  rw [cell?_grow _ _ _ (by rw [size_putRow]; exact hg)]
  have hi2 : i < zs.length := by rw [← hlen]; exact hi
  rw [cell?_putRow (Value.int .i64) (Sort.ahead w n) g 0 zs.toArray _ (fun j hj => hH j hj) (by simp) i (by simpa using hi2)]
  simp [List.getElem?_eq_getElem hi]
def AskP (k : Nat) (ts : List Tm) (t : Tm) (w : World) (e : Ending) (w' : World) : Prop :=
 Below w.heap.size w w' ∧ ((mayE t ≠ 0 ∧ e = .returned (.tuple #[.slice none 0 0, .int .i64 (mayE t)])) ∨
  (mayE t = 0 ∧ ∃ v met, e = .returned (.tuple #[v, .int .i64 0]) ∧ (∀ n (h : n < ts.length), met n = true ↔ MetP k ts[n] t) ∧ LV (fun z : Int => .int .i64 z) w' (fun _ => True) v (ascI ts.length met)))
end Go.Proofs.YtdebiiodhkcnkaaGreat
