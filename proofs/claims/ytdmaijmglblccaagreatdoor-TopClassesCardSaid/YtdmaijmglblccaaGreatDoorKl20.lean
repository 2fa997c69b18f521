/- Rows of texts sorted by the library (slices.SortFunc by slices.Compare). -/
import Derived.Test.YtdmaijmglblccaaGreatDoorKl19
import Derived.Test.YtdmaijmglblccaaGreatDoorSortR
import Derived.Shelf.SlSortCmp.NoneTotal
namespace Go.Proofs.YtdmaijmglblccaaGreatDoor
open Go.RowKit Go.Sort Go.Shelf
set_option linter.unusedSimpArgs false
set_option linter.unusedVariables false
set_option maxRecDepth 8000

theorem cmS_refl (a : ByteArray) : cmS a a = 0 := by unfold cmS; rw [if_neg (by rw [ltB_irrefl]; simp), if_pos rfl]
theorem cmS_zero {a b : ByteArray} (h : cmS a b = 0) : a = b := by
  unfold cmS at h
  split at h
  · cases h
  · split at h
    · assumption
    · cases h
theorem cmS_neg {a b : ByteArray} : cmS a b < 0 ↔ ltB a b = true := by
  unfold cmS
  split
  · simp_all
  · split <;> simp_all
/-- Ahead of another one. -/
def lxR : List ByteArray → List ByteArray → Prop
  | [], [] => False
  | [], _ :: _ => True
  | _ :: _, [] => False
  | a :: r, b :: q => ltB a b = true ∨ (a = b ∧ lxR r q)
theorem cmR_neg : ∀ {l m : List ByteArray}, cmR l m < 0 ↔ lxR l m
  | [], [] => by simp [cmR, lxR]
  | [], _ :: _ => by simp [cmR, lxR]
  | _ :: _, [] => by simp [cmR, lxR]
  | a :: r, b :: q => by
    rw [cmR, lxR]
    by_cases h : cmS a b = 0
    · have e := cmS_zero h
      subst e
      rw [if_pos h, cmR_neg, ltB_irrefl]
      simp
    · have hne : a ≠ b := fun e => h (by rw [e]; exact cmS_refl b)
      rw [if_neg h, cmS_neg]
      simp [hne]
theorem lxR_irrefl : ∀ l : List ByteArray, ¬ lxR l l
  | [] => by simp [lxR]
  | a :: r => by rw [lxR, ltB_irrefl]; simp [lxR_irrefl r]
theorem lxR_trans : ∀ {a b c : List ByteArray}, lxR a b → lxR b c → lxR a c
  | [], [], _, h, _ => by simp [lxR] at h
  | [], _ :: _, [], _, h => by simp [lxR] at h
  | [], _ :: _, _ :: _, _, _ => by simp [lxR]
  | _ :: _, [], _, h, _ => by simp [lxR] at h
  | _ :: _, _ :: _, [], _, h => by simp [lxR] at h
  | a :: r, b :: q, c :: s, h1, h2 => by
    rw [lxR] at *
    rcases h1 with h1 | ⟨rfl, h1⟩
    · rcases h2 with h2 | ⟨rfl, h2⟩
      · exact Or.inl (ltB_trans h1 h2)
      · exact Or.inl h1
    · rcases h2 with h2 | ⟨rfl, h2⟩
      · exact Or.inl h2
      · exact Or.inr ⟨rfl, lxR_trans h1 h2⟩
theorem lxR_conn : ∀ {a b : List ByteArray}, ¬ lxR a b → ¬ lxR b a → a = b
  | [], [], _, _ => rfl
  | [], _ :: _, h, _ => by simp [lxR] at h
  | _ :: _, [], _, h => by simp [lxR] at h
  | a :: r, b :: q, h1, h2 => by
    rw [lxR] at *
    have e : a = b := by
      refine ltB_conn ?_ ?_
      · exact Bool.eq_false_iff.2 fun h => h1 (Or.inl h)
      · exact Bool.eq_false_iff.2 fun h => h2 (Or.inl h)
    subst e
    rw [lxR_conn (fun h => h1 (Or.inr ⟨rfl, h⟩)) fun h => h2 (Or.inr ⟨rfl, h⟩)]
theorem lxR_ntrans {a b c : List ByteArray} (h1 : ¬ lxR a b) (h2 : ¬ lxR b c) : ¬ lxR a c := fun h => by
  by_cases h3 : lxR b a
  · exact h2 (lxR_trans h3 h)
  · exact h2 (by rw [← lxR_conn h1 h3]; exact h)
/-- The number of a row of texts, as the sort takes it. -/
def srE (ps : List (Value × List ByteArray)) (n : Nat) (i : Fin (n + 1)) : Value := (gd ps (.slice none 0 0, []) i.val).1
def srC (ps : List (Value × List ByteArray)) (n : Nat) (i j : Fin (n + 1)) : Int := cmR (gd ps (.slice none 0 0, []) i.val).2 (gd ps (.slice none 0 0, []) j.val).2
theorem srSWO (ps : List (Value × List ByteArray)) (n : Nat) : SWO (ltOf (srC ps n)) where
  irrefl x := by unfold ltOf srC; exact decide_eq_false fun h => lxR_irrefl _ (cmR_neg.1 h)
  trans x y z h1 h2 := by
    unfold ltOf srC at *
    exact decide_eq_true (cmR_neg.2 (lxR_trans (cmR_neg.1 (of_decide_eq_true h1)) (cmR_neg.1 (of_decide_eq_true h2))))
  ntrans x y z h1 h2 := by
    unfold ltOf srC at *
    exact decide_eq_false fun h => lxR_ntrans (fun k => of_decide_eq_false h1 (cmR_neg.2 k)) (fun k => of_decide_eq_false h2 (cmR_neg.2 k)) (cmR_neg.1 h)
theorem srE_at {ps : List (Value × List ByteArray)} {n : Nat} {i : Fin (n + 1)} (h : i.val < ps.length) : srE ps n i = ps[i.val].1 := by unfold srE; rw [gd_get h]
/-- All numbers, in order. -/
def srD (n : Nat) : Array (Fin (n + 1)) := (List.finRange (n + 1)).toArray
theorem srtR : SrtR := by
  intro ps g c w hpos hle hg hcell hst
  obtain ⟨n, hn⟩ : ∃ n, ps.length = n + 1 := ⟨ps.length - 1, by omega⟩
  have hsz : (srD n).size = ps.length := by simp [srD, hn]
  have hH : Holds (srE ps n) w g 0 (srD n) := fun j hj => by
    have hj2 : j < ps.length := by rw [← hsz]; exact hj
    rw [Nat.zero_add]
    refine ⟨?_, (hcell j hj2).2⟩
    rw [(hcell j hj2).1]
    have e : (srD n)[j]! = ⟨j, by omega⟩ := by
      rw [getElem!_pos _ j hj]
      simp [srD]
    rw [e, srE_at hj2]
  have h1 : OneCell (srE ps n) := fun x => by
    have hx : x.val < ps.length := by rw [hn]; exact x.isLt
    rw [srE_at hx]
    obtain ⟨g', c', e, _⟩ := hst _ (List.getElem_mem hx)
    rw [e]; rfl
  have hC : CmpLays1 Tryz.prog 51 #[] (srE ps n) (srC ps n) g 0 (srD n).size w := fun m os dk hs x y => by
    have hx : x.val < ps.length := by rw [hn]; exact x.isLt
    have hy : y.val < ps.length := by rw [hn]; exact y.isLt
    have key : ∀ z (hz : z < ps.length), Stx (sortWorld (srE ps n) w g 0 m dk os) ps[z].1 ps[z].2 := fun z hz => by
      obtain ⟨g', c', e, _, h2, h3, h4, h5⟩ := hst _ (List.getElem_mem hz)
      have hne : g' ≠ g := fun e => h3 (by rw [e]; rfl)
      refine ⟨g', c', e, by unfold sortWorld; simp [Sort.ahead, grow]; omega, h4, fun j hj => ?_⟩
      rw [← h5 j hj]
      unfold sortWorld
      rw [cell?_grow _ _ _ (by simpa [Sort.ahead] using h2), cell?_putRow_other _ _ _ _ _ _ (Or.inl hne)]
      rfl
    have hr := cmpR_any _ _ _ _ _ (key x.val hx) (key y.val hy)
    rw [← srE_at hx, ← srE_at hy] at hr
    refine hr.mono ?_
    rintro e w' ⟨rfl, rfl⟩
    refine ⟨by unfold srC; rw [gd_get hx, gd_get hy], 0, #[], ?_⟩
    rw [grow_empty]; rfl
  have eg : ∀ args w, (callFunc 51 args).run Tryz.prog w = .ok (.enter 51 args) w := enters_of Tryz.func51 (by kernel_rfl) rfl
  have hcon := Any.slices_SortFunc Tryz.sortRow (srE ps n) h1 (srC ps n) (srSWO ps n) 51 #[] g 0 c (srD n) w eg hC hH hg (by rw [hsz]; omega)
  change Calls Tryz.prog 50 _ _ _ at hcon
  rw [hsz] at hcon
  refine hcon.mono ?_
  rintro e w' ⟨rfl, d', q, os, hp, hs, rfl⟩
  have hds : d'.size = ps.length := by rw [hp.1, hsz]
  have hall : ((srD n).toList.map fun i => gd ps (.slice none 0 0, []) i.val) = ps := by
    apply List.ext_getElem
    · simp [srD, hn]
    · intro i h1 h2
      simp [srD]
      exact gd_get h2
  have hpm : d'.toList.Perm (srD n).toList := by
    have h := hp.2.2
    rwa [Array.extract_eq_self_of_le (by omega), Array.extract_eq_self_of_le (by omega)] at h
  refine ⟨rfl, d'.toList.map fun i => gd ps (.slice none 0 0, []) i.val, ?_, ?_, fun j hj => ?_, ⟨rfl, rfl, rfl, by simp [sortWorld, Sort.ahead, grow], fun b hb1 hn => ?_⟩⟩
  · have h := hpm.map fun i => gd ps (.slice none 0 0, []) i.val
    rwa [hall] at h
  · rw [List.pairwise_map, List.pairwise_iff_getElem]
    intro i j hi hj hij
    have hi2 : i < d'.size := by simpa using hi
    have hj2 : j < d'.size := by simpa using hj
    have h := hs i j (Nat.zero_le _) hij (by omega)
    rw [getElem!_pos _ j hj2, getElem!_pos _ i hi2] at h
    unfold ltOf srC at h
    simpa using of_decide_eq_false h
  · have hj1 : j < d'.size := by simpa using hj
    unfold sortWorld
    rw [cell?_grow _ _ _ (by rw [size_putRow]; exact hg)]
    have h := cell?_putRow (srE ps n) (Sort.ahead w q) g 0 (srD n) d' (fun j hj => hH j hj) hp.1 j hj1
    rw [Nat.zero_add] at h
    rw [h, getElem!_pos _ j hj1]
    simp [srE]
  · unfold sortWorld
    rw [heap_grow_old _ _ (by rw [size_putRow]; exact hb1)]
    simp [putRow, mapBlock, Array.getElem?_modify, Ne.symm hn, Sort.ahead]
theorem srtN : SrtN := fun p c w => by
  have h := AnyF.slices_SortFunc_none (P := Tryz.prog) (ρ := Tryz.sortRow_ren) { Tryz.sortRow with } p c (.func (.func 51) #[] #[]) w
  exact h
end Go.Proofs.YtdmaijmglblccaaGreatDoor
